import Derived.Test.YtpnpikpmdfipfaaGreatDoorPk3
set_option maxRecDepth 100000
set_option maxHeartbeats 4000000
namespace Go.Proofs.YtpnpikpmdfipfaaGreatDoor
open Go.RowKit Tryz
variable {r:Int}
def zc6 (l:List CV)(rd:Int):Nat->List (L_)
 | 0=>[]
 | n+1=>if 0<=cOf l n rd then zc6 l rd n++[(zaM l (cOf l n rd).toNat).d]else zc6 l rd n
def dgF (l:List CV)(rd:Int):List (L_):=zc6 l rd 4
theorem zpX (l:List CV)(rd:Int)(n:Nat):(zc6 l rd n).length<=n:=by
 induction n with
 | zero=>simp[zc6]
 | succ n ih=>
  rw[zc6]
  split
  simp;omega
  omega
theorem ztw (l:List CV)(rd:Int)(n:Nat)(h:0<(zc6 l rd n).length):∃j,j<l.length/\(zaM l j).rd=rd:=by
 induction n with
 | zero=>simp[zc6]at h
 | succ n ih=>
  by_cases g:0<=cOf l n rd;have b:=zoq (zfp l n rd) l.length g;have c:=zlB l n rd;refine⟨(cOf l n rd).toNat,by omega,?_⟩;simp only[zfp,dE_]at b;exact b.2;rw[zc6,iN_ g]at h;exact ih h
def cnt (l:List CV)(r:Int):Nat:=(l.filter λc=>decide (r<=c.rd)).length
theorem zx5 (l:List CV)(r:Int):cnt l (r+1)<=cnt l r:=by
 induction l with
 | nil=>simp[cnt]
 | cons c l ih=>
  simp only[cnt,List.filter_cons]at ih|-;by_cases h1:r+1<=c.rd;have b:r<=c.rd:=by omega
  simp[h1,b];exact ih;by_cases b:r<=c.rd;simp[h1,b];omega;simp[h1,b];exact ih
theorem zx6 (l:List CV)(r:Int)(h:∃j,j<l.length/\(zaM l j).rd=r):cnt l (r+1)<cnt l r:=by
 induction l with
 | nil=>obtain⟨j,g,_⟩:=h;simp at g
 | cons c l ih=>
  by_cases hc:c.rd=r;have:=zx5 l r;have d:¬r+1<=c.rd:=by omega
  have b:r<=c.rd:=by omega
  simp only[cnt,List.filter_cons]at this|-;simp[d,b];omega;obtain⟨j,g,e⟩:=h;have f:cnt l (r+1)<cnt l r:=by
   apply ih
   cases j with
   | zero=>exact absurd (by simpa[zaM]using e) hc
   | succ j=>exact⟨j,by simpa using g,by simpa[zaM]using e⟩
  simp only[cnt,List.filter_cons]at f|-;by_cases d:r+1<=c.rd;have b:r<=c.rd:=by omega
  simp[d,b];exact f;by_cases b:r<=c.rd;omega;simp[d,b];exact f
def zgS (l:List CV)(r:Int):Prop:=1<=r/\(∀k:Int,1<=k->k<r->3<=(dgF l k).length)/\(dgF l r).length<3
theorem zgS.one {l:List CV}{s:Int}(h:zgS l r)(g:zgS l s):r=s:=by
 obtain⟨d,f,m⟩:=h;obtain⟨b,c,j⟩:=g;rcases Int.lt_trichotomy r s with q|q|q;have:=c r d q;omega;exact q;have:=f s b q;omega
theorem zmk {c:CV}(h:c.f=0):1<=c.rd/\c.rd<=1048576:=(zbi (zfO (vl:=c.vl) h)).2.1
theorem zou {l:List CV}(h:zbV l=0)(j:Nat)(b:j<l.length):(zaM l j).f=0:=zx4 l j ((zgw h).2 j b)
variable {ls:List Ct}{ds:List zi}
theorem zov {l:List CV}(b:zT ds=l.map CV.d)(k:Nat)(h:k<ds.length):(zaM l k).d=(ds[k]).bs:=by
 have c:=cA_ List.length b;simp only[zT,List.length_map]at c;have h':k<l.length:=by omega
 have e:(zT ds)[k]? = (l.map CV.d)[k]?:=by rw[b]
 simp only[zT,List.getElem?_map,List.getElem?_eq_getElem h,List.getElem?_eq_getElem h',Option.map_some,Option.some.injEq]at e;rw[e];simp[zaM,h']
theorem zhZ {l:List CV}(b:zT ds=l.map CV.d):ds.length=l.length:=by
 have c:=cA_ List.length b
 simpa[zT]using c
theorem znZ (h:zbV (zI ls)=0):∀c∈ls,c.v.f=0:=by
 intro c d;obtain⟨j,b,rfl⟩:=List.getElem_of_mem d;rw[<-zk4 ls j b];exact zou h j (by rw[zbv];exact b)
theorem zlE (h:zbV (zI ls)=0):ls.length<=400:=by
 have:=(zgw h).1;rw[zbv]at this;exact this
theorem zw7 {c:CV}(h:c.f=0):c.bl.length<=3/\c.pl.length<=4/\c.vl.length<=4/\(∀b∈c.bl,b.length=32)/\(∀b∈c.pl,b.length=32):=by
 obtain⟨_,_,f,j,l,m⟩:=zbi (zfO (vl:=c.vl) h);refine⟨by simpa[pz]using f,by simpa[pz]using j,?_,λb d=>?_,λb d=>?_⟩;rw[CV.f,zap]at h
 split at h
 rename_i g;exact absurd h g
 split at h
 cases h;omega;exact l ⟨none,0,b⟩ (by simp[pz,d]);exact m ⟨none,0,b⟩ (by simp[pz,d])
theorem zow {c:Ct}(h:c.v.f=0):c.bl.length<=1000/\c.pl.length<=1000/\c.vl.length<=4/\(∀p∈c.bl,p.bs.length<=140737488355328)/\(∀p∈c.pl,p.bs.length<=140737488355328):=by
 obtain⟨f,g,d,j,l⟩:=zw7 h;simp only[Ct.v,zcQ]at f g d;refine⟨by omega,by omega,d,λp b=>?_,λp b=>?_⟩;rw[j p.bs (mM_.2 ⟨p,b,rfl⟩)];decide;rw[l p.bs (mM_.2 ⟨p,b,rfl⟩)];decide
variable {w w' w2 w1:World}{n B base q n1 s1:Nat}{xs xs1:List Value}{v1 vc vd:Value}
theorem zk8 {e:TypeId}{s:Nat}{v:Value}(h:w.ownsRow base e s v n xs)(q:Nat)(c:v.ownBlock=some q):∃b,w.heap[q]? = some (.cells b e (0,0)):=by
 rcases h.2 with⟨rfl,_⟩|⟨g,f,b,rfl,_,d,_⟩;cases c;cases c;exact⟨b,d⟩
theorem zcu {g j n2:Nat}{c d:TypeId}{t:Nat}{f:Value}{u:List Value}(l:w.ownsRow g c s1 v1 n1 xs1)(m:w.ownsRow j d t f n2 u)(o:c≠d)(q:Nat)(p:v1.ownBlock=some q):f.ownBlock≠some q:=λr=>by
 obtain⟨y,s⟩:=zk8 l q p
 obtain⟨z,b⟩:=zk8 m q r
 rw[s]at b
 simp only[Option.some.injEq,Obj.cells.injEq]at b
 exact o b.2.1
theorem zc2 {d:Nat}{c t:TypeId}{cs:X_}(f:w.ownsRow d c s1 v1 n1 xs1)(b:w.heap[q]? = some (.cells cs t (0,0)))(g:c≠t):v1.ownBlock≠some q:=λj=>by
 obtain⟨m,l⟩:=zk8 f q j
 rw[l]at b
 simp only[Option.some.injEq,Obj.cells.injEq]at b
 exact g b.2.1
theorem zu {e:TypeId}{s:Nat}{v:Value}(h:w.ownsRow base e s v n xs)(m:∀q,v.ownBlock=some q->w'.heap[q]? = w.heap[q]?):w'.ownsRow base e s v n xs:=by
 obtain⟨f,b⟩:=h;refine⟨f,?_⟩;rcases b with b|⟨g,c,d,rfl,l,j,r⟩;exact .inl b;exact .inr ⟨g,c,d,rfl,l,(m g rfl).trans j,r⟩
theorem zgy.same {v:Value}{f:List Ct}(h:zgy w B v f)(j:w.heap.size<=w'.heap.size)(g:∀c∈f,∀b,zfq c b->w'.heap[b]? = w.heap[b]?):zgy w' B v f:=λc d=>
 ⟨(h c d).1.keep j (g c d),(h c d).2⟩
theorem z8.same {v:Value}{f:List zi}(h:z8 w B v f)(o:w.heap.size<=w'.heap.size)(m:∀p∈f,∀b c,p.sa=some (p_ b c)->w'.heap[b]? = w.heap[b]?):z8 w' B v f:=λp d=>
 ⟨zfU (h p d).1 (λb c _ e=>m p d b c e),λq c e=>by
  obtain⟨g,j,l⟩:=(h p d).2 q c e
  exact⟨g,nL_ j o,l⟩⟩
structure Stk (w:World)(B s:Nat)(vc vd:Value)(ls:List Ct)(ds:List zi):Prop where
 box:R_ w s #[vc,vd] 84
 le:B<=s
 rc:w.ownsRow B 88 5 vc ls.length (ctv ls)
 rd:w.ownsRow B 61 1 vd ds.length (pv ds)
 ac:zgy w B vc ls
 ad:z8 w B vd ds
 sc:∀c∈ls,∀b,zfq c b->b≠s/\vd.ownBlock≠some b
 sd:∀p∈ds,∀sb so,p.sa=some (p_ sb so)->sb≠s/\vc.ownBlock≠some sb
theorem Stk.keep {s:Nat}(h:Stk w B s vc vd ls ds)(l:w.heap.size<=w'.heap.size)(d:∀b,B<=b->b<w.heap.size->w'.heap[b]? = w.heap[b]?):Stk w' B s vc vd ls ds:=
 ⟨(d s h.le (ze h.box)).trans h.box,h.le,zu h.rc (λq e=>d q (h.rc.lt q e).1 (h.rc.lt q e).2),zu h.rd (λq e=>d q (h.rd.lt q e).1 (h.rd.lt q e).2),h.ac.same l (λc g b f=>d b ((h.ac c g).2 b f).1 ((h.ac c g).1.block_lt b f)),h.ad.same l (λp j b m e=>d b ((h.ad p j).2 b m e).1 ((h.ad p j).2 b m e).2.1),h.sc,h.sd⟩
theorem Stk.below {s:Nat}(h:Stk w B s vc vd ls ds)(c:B_ w w'):Stk w' B s vc vd ls ds:=
 h.keep c.size (λb _ d=>c.block b d)
theorem Stk.moreC {s:Nat}{d:Value}{x:Ct}{o:Obj}(h:Stk w B s vc vd ls ds)(D:B<=w.heap.size)(t:B_ w w1)(hx:za7 w1 x)(A:∀b,zfq x b->w.heap.size<=b)(G:zV (w1.alloc o) vc w2 d)
  (Y:w2.ownsRow B 88 5 d (ls.length+1) (ctv ls++x.cs)):Stk (w2.setCell (p_ s 0) d) B s d vd (ls++[x]) ds/\Below B w (w2.setCell (p_ s 0) d)/\(∀b,b<w.heap.size->b≠s->vc.ownBlock≠some b->(w2.setCell (p_ s 0) d).heap[b]? = w.heap[b]?)/\(∀b,b<w.heap.size->d.ownBlock=some b->vc.ownBlock=some b):=by
 have U:(88:TypeId)≠84:=by decide
 have V:(61:TypeId)≠84:=by decide
 have X:(88:TypeId)≠61:=by decide
 have h1:=h.below t;have I:B_ w1 (w1.alloc o):=(bR_ _ _).alloc (nR_ _) _;have y:=zm t I;have ac:=t.size;have ad:w1.heap.size<(w1.alloc o).heap.size:=by rw[zG];omega
 have ae:=G.grown.size;have Z:=ze h.box;have E:=zc2 h.rc h.box U;have R:d.ownBlock≠some s:=λe=>by
  rcases G.fresh s e with g|g;exact E g;omega
 have N:=G.row (((y.block s Z)).trans h.box) E;have z:∀b,b<w.heap.size->b≠s->vc.ownBlock≠some b->(w2.setCell (p_ s 0) d).heap[b]? = w.heap[b]?:=λb j O M=>
  (hO_ w2 (p_ s 0) b d O).trans ((G.grown.block b (by omega) (λe=>M e.symm)).trans (y.block b j))
 have aa:w.heap.size<=(w2.setCell (p_ s 0) d).heap.size:=by simp;omega
 have L:=h.ac.more (c:=x) D h.rc t A hx G;have T:∀b,b<w.heap.size->d.ownBlock=some b->vc.ownBlock=some b:=λb j e=>by
  rcases G.fresh b e with g|g;exact g;omega
 refine⟨⟨?_,h.le,?_,?_,?_,?_,?_,?_⟩,?_,z,T⟩
 simpa using hS_ _ _ 0 _ _ d N
 rw[zvF];exact zu (by simpa using Y) (λq e=>hO_ w2 (p_ s 0) q d (λm=>R (by rw[e,show q=s from m])));exact zu h.rd (λq e=>z q (h.rd.lt q e).2 (λm=>zc2 h.rd h.box V (by rw[e,m])) (λu=>zcu h.rc h.rd X q u e));refine L.same (by simp) (λc f b j=>hO_ w2 (p_ s 0) b d (λm=>?_));rcases mA_.1 f with f|f;exact(h.sc c f b j).1 m;obtain rfl:c=x:=by simpa using f
 have:=A b j;have h2:b=s:=m;omega;exact h.ad.same aa (λp l b r e=>z b ((h.ad p l).2 b r e).2.1 (h.sd p l b r e).1 (h.sd p l b r e).2);intro c f b j;rcases mA_.1 f with f|f;exact h.sc c f b j;obtain rfl:c=x:=by simpa using f
 have ab:=A b j;exact⟨by omega,λe=>by have:=(h.rd.lt b e).2;omega⟩;intro p l C r e;obtain⟨F,H⟩:=h.sd p l C r e;have hl:=((h.ad p l).2 C r e).2.1;refine⟨F,λu=>?_⟩;rcases G.fresh C u with g|g;exact H g;omega;have J:=G.below (by omega) (λq e=>(h.rc.lt q e).1);exact(((y.mono D).trans J).setCell h.le _)
theorem Stk.moreD {s:Nat}{l:Value}{p:zi}{o:Obj}(h:Stk w B s vc vd ls ds)(N:B<=w.heap.size)(L:B_ w w1)(hp:zg w1 p.sa p.cap p.bs)(H:∀d j,p.sa=some (p_ d j)->B<=d/\d<w1.heap.size/\d≠s/\vc.ownBlock≠some d/\vd.ownBlock≠some d)(G:zV (w1.alloc o) vd w2 l)
  (ho:w2.ownsRow B 61 1 l (ds.length+1) (pv ds++[p.val])):Stk (w2.setCell (p_ s 1) l) B s vc l ls (ds++[p])/\Below B w (w2.setCell (p_ s 1) l):=by
 have Y:(88:TypeId)≠84:=by decide
 have Z:(61:TypeId)≠84:=by decide
 have aa:(88:TypeId)≠61:=by decide
 have J:B_ w1 (w1.alloc o):=(bR_ _ _).alloc (nR_ _) _;have D:=zm L J;have ad:=L.size;have ae:w1.heap.size<(w1.alloc o).heap.size:=by rw[zG];omega
 have af:=G.grown.size;have hs:=ze h.box;have M:=zc2 h.rd h.box Z;have V:l.ownBlock≠some s:=λe=>by
  rcases G.fresh s e with g|g;exact M g;omega
 have T:=G.row (((D.block s hs)).trans h.box) M;have E:∀b,b<w.heap.size->b≠s->vd.ownBlock≠some b->(w2.setCell (p_ s 1) l).heap[b]? = w.heap[b]?:=λb m U R=>
  (hO_ w2 (p_ s 1) b l U).trans ((G.grown.block b (by omega) (λe=>R e.symm)).trans (D.block b m))
 have ac:w.heap.size<=(w2.setCell (p_ s 1) l).heap.size:=by simp;omega
 have F:∀d,l.ownBlock=some d->d<w1.heap.size->vd.ownBlock=some d:=λd e X=>by
  rcases G.fresh d e with g|g;exact g;omega
 refine⟨⟨?_,h.le,?_,?_,?_,?_,?_,?_⟩,?_⟩
 simpa using hS_ _ _ 1 _ _ l T
 exact zu h.rc (λq e=>E q (h.rc.lt q e).2 (λf=>zc2 h.rc h.box Y (by rw[e,f])) (zcu h.rc h.rd aa q e));have ab:w2.ownsRow B 61 1 l (ds++[p]).length (pv (ds++[p])):=by simpa[pv]using ho
 exact zu ab (λq e=>hO_ w2 (p_ s 1) q l (λf=>V (by rw[e,show q=s from f])));exact h.ac.same ac (λc y b m=>E b ((h.ac c y).1.block_lt b m) (h.sc c y b m).1 (h.sc c y b m).2);intro q f;rcases mA_.1 f with f|f;obtain⟨k1,I⟩:=h.ad q f;refine⟨zfU k1 (λb j _ e=>E b (I b j e).2.1 (h.sd q f b j e).1 (I b j e).2.2),λd j e=>?_⟩;obtain⟨r,t,u⟩:=I d j e;exact⟨r,by omega,λz=>u (F d z (by omega))⟩;obtain rfl:q=p:=by simpa using f
 refine⟨zfU hp (λb j _ e=>?_),λd j e=>?_⟩;obtain⟨r,t,u,C,A⟩:=H b j e;rw[hO_ w2 (p_ s 1) b l u,G.grown.block b (by omega) (λe=>A e.symm),J.block b t];obtain⟨r,t,u,C,A⟩:=H d j e;exact⟨r,by simp;omega,λz=>A (F d z t)⟩;intro c y b m;obtain⟨r,t⟩:=h.sc c y b m;have X:=(h.ac c y).1.block_lt b m;exact⟨r,λz=>t (F b z (by omega))⟩;intro q f d j e;rcases mA_.1 f with f|f;exact h.sd q f d j e;obtain rfl:q=p:=by simpa using f
 obtain⟨r,t,u,C,A⟩:=H d j e;exact⟨u,C⟩;have O:=G.below (by omega) (λq e=>(h.rd.lt q e).1);exact(((D.mono N).trans O).setCell h.le _)
structure zg6 (w:World)(ca:Q_)(cc:Nat)(ls:List Ct)(da:Q_)(dc:Nat)(ds:List zi):Prop where
 certs:zba w ca ls
 each:∀c∈ls,za7 w c
 digs:zx w da dc ds
 same:zT ds=(zI ls).map CV.d
 small:ls.length<=400
 cle:ls.length<=cc
 cmax:cc<=9223372036854775807
theorem zg6.below {d:Q_}{f:Nat}{g:Q_}{j:Nat}(h:zg6 w d f ls g j ds)(b:B_ w w'):zg6 w' d f ls g j ds:=
 ⟨h.certs.below b,λc l=>(h.each c l).below b,h.digs.below b,h.same,h.small,h.cle,h.cmax⟩
theorem zg6.len {b:Q_}{c:Nat}{d:Q_}{f:Nat}(h:zg6 w b c ls d f ds):ds.length=ls.length:=by
 rw[zhZ h.same,zbv]
structure zee (w:World)(s:Nat)(ls:List Ct)(ca:Q_)(cc:Nat)(da:Q_)(dc:Nat)(ds:List zi):Prop where
 box:R_ w s #[.slice ca ls.length cc,.slice da ls.length dc] 84
 at':zg6 w ca cc ls da dc ds
theorem zee.below {s:Nat}{b:Q_}{c:Nat}{d:Q_}{f:Nat}(h:zee w s ls b c d f ds)(g:B_ w w'):zee w' s ls b c d f ds:=
 ⟨(g.block s (ze h.box)).trans h.box,h.at'.below g⟩
theorem Stk.at {s:Nat}(h:Stk w B s vc vd ls ds)(m:zT ds=(zI ls).map CV.d)(r:ls.length<=400):∃b c d f,vc=.slice b ls.length c/\vd=.slice d ls.length f/\zee w s ls b c d f ds:=by
 have q:ds.length=ls.length:=by rw[zhZ m,zbv]
 obtain⟨b,c,l,_,p,_⟩:=zp8 h.rc h.ac;obtain⟨d,f,j,_,o,_⟩:=zcI h.rd h.ad;have g:=p (by omega);rw[q]at j o;refine⟨b,c,d,f,l,j,⟨by rw[<-l,<-j];exact h.box,⟨g.certs,g.each,o (by omega),m,r,g.le,g.max⟩⟩⟩
variable {U U' U1:Nat->Bool}{sa ra va:Q_}{ss:Z_}{qs pl bl cbl cpl:List zi}{cap rc:Nat}{bs vl:L_}{v':Value}
structure Sub (W w:World):Prop where
 size:W.heap.size<=w.heap.size
 cell:∀a v,W.cell? a=some v->w.cell? a=some v
theorem Sub.refl (w:World):Sub w w:=⟨nR_ _,λ_ _ h=>h⟩
theorem Sub.trans {a b c:World}(h:Sub a b)(k:Sub b c):Sub a c:=⟨nT_ h.size k.size,λx v e=>k.cell x v (h.cell x v e)⟩
theorem Sub.below (h:B_ w w'):Sub w w':=⟨h.size,λa _ e=>(h.cell (World.block_lt_of_cell? w a e)).trans e⟩
theorem za5.sub (h:za5 w sa bs)(k:Sub w w'):za5 w' sa bs:=by
 rcases h with h|⟨c,d,e,h⟩;exact .inl h;exact .inr ⟨c,d,e,λj b=>k.cell _ _ (h j b)⟩
theorem zg.sub (h:zg w sa cap bs)(k:Sub w w'):zg w' sa cap bs:=⟨h.le,h.max,h.some,h.nil,h.bytes.sub k⟩
theorem zbT.sub {b:List zi}(h:zbT w sa b)(k:Sub w w'):zbT w' sa b:=by
 refine⟨?_,λp d=>(h.each p d).sub k⟩;rcases h.cells with h|⟨f,g,e,h⟩;exact .inl h;exact .inr ⟨f,g,e,λj c=>k.cell _ _ (h j c)⟩
theorem zx.sub {b:List zi}(h:zx w sa cap b)(k:Sub w w'):zx w' sa cap b:=⟨h.le,h.max,h.small,h.some,h.parts.sub k⟩
theorem HAt.sub {d:Q_}{f:Nat}{g:Q_}{j:Nat}(h:HAt w d f bl g j pl)(k:Sub w w'):HAt w' d f bl g j pl:=
 ⟨h.lb.sub k,h.lp.sub k,λb c e=>nL_ (h.rb b c e) k.size,λb c e=>nL_ (h.rp b c e) k.size⟩
theorem zax.sub (h:zax w va vl)(k:Sub w w'):zax w' va vl:=by
 refine⟨?_⟩;rcases h.cells with h|⟨c,d,e,h⟩;exact .inl h;exact .inr ⟨c,d,e,λj b=>k.cell _ _ (h j b)⟩
theorem za7.sub {c:Ct}(h:za7 w c)(k:Sub w w'):za7 w' c:=⟨h.hat.sub k,h.ints.sub k,h.vle⟩
theorem zas.sub (h:zas w sa ss)(k:Sub w w'):zas w' sa ss:=by
 refine⟨?_,h.size⟩;rcases h.cells with h|⟨c,d,e,h⟩;exact .inl h;exact .inr ⟨c,d,e,λj b=>k.cell _ _ (h j b)⟩
theorem zbu.sub (h:zbu w sa cap ss)(k:Sub w w'):zbu w' sa cap ss:=⟨h.le,h.max,h.nil,h.strs.sub k⟩
theorem zcN.sub {b:Bc}(h:zcN w b)(k:Sub w w'):zcN w' b:=⟨h.strs.sub k,h.le,h.max,h.nil,λc d e=>nL_ (h.lt c d e) k.size⟩
theorem zeX.sub {m:Msg}(h:zeX w m ss bl pl cbl cpl vl)(k:Sub w w'):zeX w' m ss bl pl cbl cpl vl:=⟨h.e1,h.e2,h.e3,h.e4,h.e5,h.e6,h.s1,h.s6,h.s7,h.txs.sub k,h.bat.sub k,h.par.sub k,h.cbat.sub k,h.cpar.sub k,h.vot.sub k⟩
theorem MAt.sub {x:MV}(h:MAt w x)(k:Sub w w'):MAt w' x:=⟨h.at'.sub k,h.dig.sub k,h.dn⟩
theorem zcz.sub {d:List Sg}(h:zcz w sa d)(k:Sub w w'):zcz w' sa d:=by
 refine⟨?_,λs c=>⟨(h.each s c).1.sub k,(h.each s c).2⟩⟩;rcases h.cells with h|⟨f,g,e,h⟩;exact .inl h;exact .inr ⟨f,g,e,λj b=>⟨k.cell _ _ (h j b).1,k.cell _ _ (h j b).2.1,k.cell _ _ (h j b).2.2.1,k.cell _ _ (h j b).2.2.2⟩⟩
theorem ze9.sub {b:List Sg}(h:ze9 w sa cap b)(k:Sub w w'):ze9 w' sa cap b:=⟨h.le,h.max,h.small,h.some,h.slots.sub k⟩
theorem za2.sub (h:za2 w)(k:Sub w w'):za2 w':=⟨λi b=>k.cell _ _ (h.words i b),λi b=>k.cell _ _ (h.orders i b),λi b=>k.cell _ _ (h.lanes i b)⟩
def zq (U:Nat->Bool)(w:World):World:=⟨w.heap.mapIdx λi o=>if U i then .cells #[] 0 (0,0)else o,λ_ _=>0,0,default,#[]⟩
theorem zch (U:Nat->Bool)(w:World):(zq U w).heap.size=w.heap.size:=by simp[zq]
theorem zdr {b:Nat}(h:U b=false):(zq U w).heap[b]? = w.heap[b]?:=by
 simp[zq,Array.getElem?_mapIdx,h]
theorem zvG {b:Nat}(h:U b=true)(c:b<w.heap.size):(zq U w).heap[b]? = some (.cells #[] 0 (0,0)):=by
 simp[zq,h,c]
theorem zhJ {a:Addr}{v:Value}(h:(zq U w).cell? a=some v):U a.block=false/\w.cell? a=some v:=by
 cases hu:U a.block with
 | false=>exact⟨rfl,by rw[<-h];exact(cB_ (zdr hu)).symm⟩
 | true=>
  have b:=World.block_lt_of_cell? _ _ h;rw[zch]at b;rw[World.cell?,zvG hu b]at h
  simp at h
theorem zK (U:Nat->Bool)(w:World):Sub (zq U w) w:=⟨by rw[zch];exact nR_ _,λ_ _ h=>(zhJ h).2⟩
theorem zb3 {b:Nat}(h:U b=true)(j:Nat)(v:Value):zq U (w.setCell (p_ b j) v)=zq U w:=by
 unfold zq
 congr 1
 apply Array.ext
 simp[World.setCell];intro i f g;simp only[Array.getElem_mapIdx];by_cases hi:i=b;subst hi;simp[h];have:(w.setCell (p_ b j) v).heap[i]? = w.heap[i]?:=hO_ w (p_ b j) i v hi;have c:i<(w.setCell (p_ b j) v).heap.size:=by simpa using f
 have d:i<w.heap.size:=by simpa using g
 rw[Array.getElem?_eq_getElem c,Array.getElem?_eq_getElem d]at this;rw[Option.some.inj this]
structure zao (U U':Nat->Bool)(w w':World):Prop where
 os:w'.os=w.os
 tape:w'.tape=w.tape
 output:w'.output=w.output
 size:w.heap.size<=w'.heap.size
 block:∀b,b<w.heap.size->U b=false->w'.heap[b]? = w.heap[b]?
 us:∀b,b<w.heap.size->U' b=U b
theorem zao.refl (U:Nat->Bool)(w:World):zao U U w w:=⟨rfl,rfl,rfl,nR_ _,λ_ _ _=>rfl,λ_ _=>rfl⟩
theorem zao.trans {d:Nat->Bool}(h:zao U U1 w w1)(k:zao U1 d w1 w2):zao U d w w2:=
 ⟨k.os.trans h.os,k.tape.trans h.tape,k.output.trans h.output,nT_ h.size k.size,
  λb c f=>(k.block b (nL_ c h.size) (by rw[h.us b c];exact f)).trans (h.block b c f),
  λb c=>(k.us b (nL_ c h.size)).trans (h.us b c)⟩
theorem zao.below (U:Nat->Bool)(h:B_ w w'):zao U U w w':=⟨h.os,h.tape,h.output,h.size,λb c _=>h.block b c,λ_ _=>rfl⟩
theorem zao.sub (h:zao U U' w w'):Sub (zq U w) (zq U' w'):=by
 refine⟨by rw[zch,zch];exact h.size,λa v e=>?_⟩;obtain⟨d,b⟩:=zhJ e;have c:=World.block_lt_of_cell? _ _ b;rw[cB_ (zdr (by rw[h.us _ c];exact d)),cB_ (h.block _ c d)];exact b
theorem zao.set (h:zao U U' w w'){b:Nat}(f:U' b=true)(j:Nat)(v:Value):zao U U' w (w'.setCell (p_ b j) v):=
 ⟨h.os,h.tape,h.output,by simpa using h.size,λk d c=>(hO_ w' (p_ b j) k v (λe=>by rw[e]at d c;rw[<-h.us b d,f]at c;cases c)).trans (h.block k d c),h.us⟩
def zaF (U:Nat->Bool)(q:Option Nat)(b:Nat):Bool:=U b||decide (q=some b)
theorem zaB {q:Option Nat}{b:Nat}(h:U b=true):zaF U q b=true:=by simp[zaF,h]
theorem zeM {q:Option Nat}{b:Nat}(h:q=some b):zaF U q b=true:=by simp[zaF,h]
theorem zbw {q:Option Nat}{b:Nat}(h:U b=false)(c:q≠some b):zaF U q b=false:=by simp[zaF,h,c]
theorem zao.grew {v:Value}(h:zao U U' w w')(G:zV w' v w2 v')(f:∀q,v.ownBlock=some q->U' q=true):zao U (zaF U' v'.ownBlock) w w2:=
 h.trans ⟨G.grown.os,G.grown.tape,G.grown.output,G.grown.size,λb d c=>G.grown.block b d (λe=>by have:=f b e.symm;rw[this]at c;cases c),λb d=>by
  cases c:U' b with
  | true=>exact zaB c
  | false=>
   refine zbw c (λe=>?_)
   rcases G.fresh b e with h1|h1
   .rw[f b h1]at c;cases c
   .omega⟩
theorem zci (h:zg w sa cap bs)(d:∀b f,sa=some (p_ b f)->bs≠[]->U b=false):zg (zq U w) sa cap bs:=
 zcp (G:=λk=>U k=false) (λ_ c=>zdr c) h d
theorem zvH (h:zx w ra rc qs)(c:zgE (λk=>U k=false) ra qs):zx (zq U w) ra rc qs:=
 zfH (G:=λk=>U k=false) (λ_ b=>zdr b) h c
theorem MAt.hid {x:MV}(h:MAt w x)(c:zbU (λk=>U k=false) x):MAt (zq U w) x:=
 h.stays (G:=λk=>U k=false) (λ_ b=>zdr b) c
theorem za7.hid {c:Ct}(h:za7 w c)(f:∀b,zfq c b->U b=false):za7 (zq U w) c:=
 h.keep (by rw[zch];exact nR_ _) (λb d=>zdr (f b d))
theorem zas.hid (h:zas w sa ss)(f:∀b c,sa=some (p_ b c)->ss≠[]->U b=false):zas (zq U w) sa ss:=by
 refine⟨?_,h.size⟩;rcases h.cells with h|⟨b,c,e,h⟩;exact .inl h;by_cases hn:ss=[];exact .inl hn;exact .inr ⟨b,c,e,λj d=>(cB_ (zdr (f b c e hn))).trans (h j d)⟩
theorem zcN.hid {b:Bc}(h:zcN w b)(f:∀c d,b.ta=some (p_ c d)->U c=false):zcN (zq U w) b:=
 ⟨h.strs.hid (λc d e _=>f c d e),h.le,h.max,h.nil,λc d e=>by rw[zch];exact h.lt c d e⟩
def Bnd (U:Nat->Bool)(w:World):Prop:=∀b,U b=true->b<w.heap.size
theorem Bnd.new (h:Bnd U w){b:Nat}(c:w.heap.size<=b):U b=false:=by
 cases hu:U b with
 | false=>rfl
 | true=>have:=h b hu;omega
theorem Bnd.mono (h:Bnd U w)(d:w.heap.size<=w'.heap.size):Bnd U w':=λb c=>nL_ (h b c) d
theorem Bnd.grew (h:Bnd U w){e:TypeId}{s n base:Nat}{v:Value}{g:List Value}(f:w.heap.size<=w'.heap.size)(d:w'.ownsRow base e s v n g):Bnd (zaF U v.ownBlock) w':=λb c=>by
 cases hu:U b with
 | true=>exact nL_ (h b hu) f
 | false=>
  rw[zaF,hu,Bool.false_or]at c
  exact(d.lt b (of_decide_eq_true c)).2
variable {R:Nat}{sh:Bool}
structure zaG (R:Nat)(w w':World):Prop where
 os:w'.os=w.os
 tape:w'.tape=w.tape
 output:w'.output=w.output
 size:w.heap.size<=w'.heap.size
 block:∀k,k<w.heap.size->k≠R->w'.heap[k]? = w.heap[k]?
theorem zaG.refl (R:Nat)(w:World):zaG R w w:=⟨rfl,rfl,rfl,nR_ _,λ_ _ _=>rfl⟩
theorem zaG.trans {a b c:World}(h:zaG R a b)(k:zaG R b c):zaG R a c:=
 ⟨k.os.trans h.os,k.tape.trans h.tape,k.output.trans h.output,nT_ h.size k.size,λi d f=>(k.block i (nL_ d h.size) f).trans (h.block i d f)⟩
theorem zbR (h:B_ w w'):zaG R w w':=⟨h.os,h.tape,h.output,h.size,λk b _=>h.block k b⟩
theorem zaG.below (h:zaG R w w')(c:B<=R)(b:B<=w.heap.size):Below B w w':=⟨h.os,h.tape,h.output,h.size,λk d=>h.block k (by omega) (by omega)⟩
theorem zaG.setCell {j:Nat}{v:Value}(h:zaG R w w'):zaG R w (w'.setCell (p_ R j) v):=
 ⟨h.os,h.tape,h.output,by simpa using h.size,λk c b=>(hO_ w' (p_ R j) k v b).trans (h.block k c b)⟩
theorem zg.only (h:zg w sa cap bs)(m:zaG R w w')(l:∀b c,sa=Option.some ⟨b,c,Option.none⟩->b≠R):zg w' sa cap bs:=by
 refine⟨h.le,h.max,h.some,h.nil,?_⟩;rcases h.bytes with g|⟨b,c,e,d⟩;exact .inl g;exact .inr ⟨b,c,e,λj f=>(cB_ (m.block b (bL_ (d j f)) (l b c e))).trans (d j f)⟩
structure zaw (w:World)(R:Nat)(l:L_)(sh:Bool):Prop where
 out:∃la c,R_ w R #[.slice la l.length c,.bool sh] 126/\zg w la c l/\∀sb so,la=some (p_ sb so)->sb≠R/\(l≠[]->sb<R)
theorem zaw.below {l:L_}(h:zaw w R l sh)(b:B_ w w'):zaw w' R l sh:=by
 obtain⟨j,c,d,f,g⟩:=h.out;exact⟨j,c,zk b d,f.below b,g⟩
theorem zaw.lt {l:L_}(h:zaw w R l sh):R<w.heap.size:=by
 obtain⟨d,c,b,_⟩:=h.out;exact ze b
theorem zaw.stays {l:L_}(h:zaw w R l sh)(j:∀k,k<=R->w'.heap[k]? = w.heap[k]?):zaw w' R l sh:=by
 obtain⟨r,c,o,b,g⟩:=h.out;refine⟨r,c,(j R (nR_ _)).trans o,⟨b.le,b.max,b.some,b.nil,?_⟩,g⟩;rcases b.bytes with d|⟨f,m,e,p⟩;exact .inl d;by_cases d:l=[];exact .inl d;exact .inr ⟨f,m,e,λk q=>(cB_ (j f (Nat.le_of_lt ((g f m e).2 d)))).trans (p k q)⟩
theorem zaw.far {b j:Nat}{v:Value}{l:L_}(h:zaw w R l sh)(c:R<b):zaw (w.setCell (p_ b j) v) R l sh:=
 h.stays (λk d=>hO_ w (p_ b j) k v (by show k≠b;omega))
def tkT (n:Nat)(l:L_)(sh:Bool):L_:=if sh=true\/l.length<n then []else l.take n
def tkL (n:Nat)(l:L_)(sh:Bool):L_:=if sh=true\/l.length<n then l else l.drop n
def tkS (n:Nat)(l:L_)(sh:Bool):Bool:=sh||decide (l.length<n)
theorem zn4 {l:L_}(h:sh=true\/l.length<n):tkT n l sh=[]/\tkL n l sh=l/\tkS n l sh=true:=by
 refine⟨iP_ h,iP_ h,?_⟩;rcases h with h|h<;>simp[tkS,h]
theorem zke {l:L_}(h:n<=l.length):tkT n l false=l.take n/\tkL n l false=l.drop n/\tkS n l false=false:=by
 have h':¬((false:Bool)=true\/l.length<n):=by simp;omega
 exact⟨iN_ h',iN_ h',by simp[tkS];omega⟩
theorem zn5 {l:L_}:(tkL n l sh).length<=l.length:=by unfold tkL;split<;>simp
structure zhb (w w':World)(e:Ending)(R:Nat)(t l:L_)(sh:Bool):Prop where
 out:∃ta tc,e=.returned (.slice ta t.length tc)/\zg w' ta tc t/\(∀sb so,ta=some (p_ sb so)->sb≠R)/\zaw w' R l sh/\zaG R w w'
theorem zjw {d f c:Nat}{l:L_}(h:zg w (some (p_ d f)) c l)(q:n<=l.length):zg w (some (p_ d (f+n))) (c-n) (l.drop n):=by
 refine⟨by have:=h.le;simp;omega,by have:=h.max;omega,.inr ⟨_,_,rfl⟩,(λe=>by cases e),?_⟩;rcases h.bytes with p|⟨b,o,e,g⟩;exact .inl (by rw[p];simp);cases e;refine .inr ⟨d,f+n,rfl,λj m=>?_⟩;rw[List.length_drop]at m;rw[Nat.add_assoc,g (n+j) (by omega)];simp[List.getD]
theorem zg.takeR (h:zg w sa cap bs)(m c:Nat)(q:m<=bs.length)(o:m<=c)(p:c<=cap)(f:sa=Option.none->c=0):zg w sa c (bs.take m):=by
 refine⟨by simp;omega,by have:=h.max;omega,?_,f,?_⟩;rcases h.some with e|e;exact .inl (by omega);exact .inr e;rcases h.bytes with b|⟨g,l,rfl,b⟩;exact .inl (by rw[b];simp);refine .inr ⟨g,l,rfl,λj d=>?_⟩;rw[lT9_]at d;rw[b j (by omega)];simp[List.getD,show j<m by omega]
theorem zjx (R n:Nat)(l:L_)(sh:Bool)(w:World)(t:zaw w R l sh)(U:l.length<=100000)(Y:n<=100000) :
  Calls prog 156 #[P_ R 0,I_ (n:Int)] w λe w'=>zhb w w' e R (tkT n l sh) (tkL n l sh) (tkS n l sh):=by
 obtain⟨z,c,f,j,g⟩:=t.out;have J:=zb f 0 (.slice z l.length c) rfl;have L:=zb f 1 (.bool sh) rfl;have M:=zd f 0;have N:=zd f 1;by_cases hs:l.length<n
 .have I:(l.length:Int)<n:=by omega
  obtain⟨o,p,q⟩:=zn4 (sh:=sh) (.inr hs);rw[o,p,q];have m:(w.setCell (p_ R 1) (.bool true)).heap[R]? = some (.cells #[.slice z l.length c,.bool true] 126 (0,0)):=by simpa using hS_ _ _ 1 _ _ (.bool true) f
  have r:Hid (zhb w (w.setCell (p_ R 1) (.bool true)) (.returned (O_)) R [] l true):=by
   refine⟨none,0,rfl,⟨nR_ _,by decide,.inl rfl,λ_=>rfl,.inl rfl⟩,(λ_ _ e=>by cases e),⟨z,c,m,j.only ((zaG.refl R w).setCell) (λb d e=>(g b d e).1),g⟩,(zaG.refl R w).setCell⟩
  clear m f j g t o p q hs;go_in;go_wp2_with fail
  go_ret;exact r.out
 have I:¬(l.length:Int)<n:=by omega
 cases sh with
 | true=>
  obtain⟨o,p,q⟩:=zn4 (l:=l) (n:=n) (sh:=true) (.inl rfl);rw[o,p,q];have r:Hid (zhb w w (.returned (O_)) R [] l true):=⟨none,0,rfl,⟨nR_ _,by decide,.inl rfl,λ_=>rfl,.inl rfl⟩,(λ_ _ e=>by cases e),t,zaG.refl R w⟩;clear f j g t o p q hs;go_in;go_wp2_with fail
  go_ret;exact r.out
 | false=>
  obtain⟨o,p,q⟩:=zke (l:=l) (n:=n) (by omega);rw[o,p,q];have X:=j.le;have aa:(n:Int)<=c:=by omega
  have Z:(0:Int)<=n:=by omega
  have V:(l.length:Int)<=c:=by omega
  have ab:(n:Int)<=l.length:=by omega
  have y:(l.take n).length=n:=by rw[lT9_];omega
  have u:(l.drop n).length=l.length-n:=by rw[List.length_drop]
  cases z with
  | none=>
   have G:=j.nil rfl;have D:l=[]:=eN_ (by omega);obtain rfl:n=0:=by subst D;simp at hs;omega
   subst D G;have m:(w.setCell (p_ R 0) (O_)).heap[R]? = some (.cells #[O_,.bool false] 126 (0,0)):=by simpa using hS_ _ _ 0 _ _ (O_) f
   have r:Hid (zhb w (w.setCell (p_ R 0) (O_)) (.returned (O_)) R [] [] false):=⟨none,0,rfl,⟨nR_ _,by decide,.inl rfl,λ_=>rfl,.inl rfl⟩,(λ_ _ e=>by cases e),⟨none,0,m,⟨nR_ _,by decide,.inl rfl,λ_=>rfl,.inl rfl⟩,λ_ _ e=>by cases e⟩,(zaG.refl R w).setCell⟩;clear m f j g t o p q hs y u;go_in;go_wp2_with fail
   go_ret;exact r.out
  | some s=>
   have A:=j.takeR n c (by omega) (by omega) (nR_ _) (λe=>by cases e);by_cases hc:c=n;obtain rfl:n=l.length:=by omega
   subst hc;have C:l.drop l.length=[]:=List.drop_of_length_le (nR_ _);rw[C,tL_ (nR_ _)];have m:(w.setCell (p_ R 0) (.slice (some s) 0 0)).heap[R]? = some (.cells #[.slice (some s) 0 0,.bool false] 126 (0,0)):=by simpa using hS_ _ _ 0 _ _ (.slice (some s) 0 0) f
   have r:Hid (zhb w (w.setCell (p_ R 0) (.slice (some s) 0 0)) (.returned (.slice (some s) l.length l.length)) R l [] false):=⟨some s,l.length,rfl,j.only ((zaG.refl R w).setCell) (λb d e=>(g b d e).1),(λb d e=>(g b d e).1),⟨some s,0,m,⟨nR_ _,by decide,.inl rfl,(λe=>by cases e),.inl rfl⟩,λb d e=>⟨(g b d e).1,λh=>absurd rfl h⟩⟩,(zaG.refl R w).setCell⟩;clear m f j g t o p q hs y u A C
   rotate_left
   obtain⟨b,d,F⟩:∃b d,(some s:Q_)=some (p_ b d):=by
    rcases j.some with h|h;omega;exact h
   cases F;have O:¬(c:Int)=n:=by omega
   have T:(n:Int)<c:=by omega
   have m:(w.setCell (p_ R 0) (.slice (some (p_ b (d+n))) (l.length-n) (c-n))).heap[R]? = some (.cells #[.slice (some (p_ b (d+n))) (l.drop n).length (c-n),.bool false] 126 (0,0)):=by rw[u];simpa using hS_ _ _ 0 _ _ (.slice (some (p_ b (d+n))) (l.length-n) (c-n)) f
   have B:=g b d rfl;have r:Hid (zhb w (w.setCell (p_ R 0) (.slice (some (p_ b (d+n))) (l.length-n) (c-n))) (.returned (.slice (some (p_ b d)) n c)) R (l.take n) (l.drop n) false):=⟨some (p_ b d),c,by rw[y],A.only ((zaG.refl R w).setCell) (λb d e=>(g b d e).1),(λb d e=>(g b d e).1),⟨some (p_ b (d+n)),c-n,m,(zjw j (by omega)).only ((zaG.refl R w).setCell) (λ_ _ e=>by cases e;exact B.1),(λ_ _ e=>by cases e;exact⟨B.1,λH=>B.2 (λE=>H (by rw[E];simp))⟩)⟩,(zaG.refl R w).setCell⟩;clear m f j g t o p q hs y u A hc
   rotate_left
   all_goals
    go_in;go_wp2_with fail
    go_ret;exact r.out
theorem zs0 (a b:Nat)(f:a<9223372036854775808)(g:b<9223372036854775808) :
  bits .and .i64 (a:Int) (b:Int)=((a &&& b:Nat):Int)/\bits .or .i64 (a:Int) (b:Int)=((a ||| b:Nat):Int):=by
 refine bits_nat .i64 63 (by decide) (λn d c=>?_) a b (by omega) (by omega);rw[IntKind.wrap_i64];have:n<9223372036854775808:=by simpa using c
 omega
theorem zwP (y x:Int)(d:0<=y)(g:y<=65535)(c:0<=x)(f:x<=255):bits .or .i64 (y*256) x=256*y+x:=by
 obtain⟨a,rfl⟩:=Int.eq_ofNat_of_zero_le d;obtain⟨b,rfl⟩:=Int.eq_ofNat_of_zero_le c;have h:=(zs0 (a*256) b (by omega) (by omega)).2;rw[show((a:Int)*256)=((a*256:Nat):Int) by omega,h];have e:a*256 ||| b=a*256+b:=by
  have:=Nat.shiftLeft_add_eq_or_of_lt (i:=8) (b:=b) (by omega) a;rw[Nat.shiftLeft_eq]at this;exact this.symm
 rw[e];omega
def zbe (l:L_):Int:=l.foldl (λn x=>256*n+x) 0
theorem zs1 (l:L_)(x:Int):zbe (l++[x])=256*zbe l+x:=by simp[zbe]
def zZ (l:L_):Prop:=∀x∈l,0<=x/\x<=255
theorem zpK (l:L_)(h:zZ l)(d:l.length<=3):0<=zbe l/\zbe l<=16777215:=by
 match l,d with
 | [],_=>decide
 | [a],_=>have:=h a (by simp);simp[zbe];omega
 | [a,b],_=>have:=h a (by simp);have:=h b (by simp);simp[zbe];omega
 | [a,b,c],_=>have:=h a (by simp);have:=h b (by simp);have:=h c (by simp);simp[zbe];omega
theorem zZ.tkT {l:L_}(h:zZ l):zZ (tkT n l sh):=by
 unfold Go.Proofs.YtpnpikpmdfipfaaGreatDoor.tkT
 split
 intro x b;cases b;intro x b;exact h x (List.mem_of_mem_take b)
theorem zZ.tkL {l:L_}(h:zZ l):zZ (tkL n l sh):=by
 unfold Go.Proofs.YtpnpikpmdfipfaaGreatDoor.tkL
 split
 exact h;intro x b;exact h x (List.mem_of_mem_drop b)
theorem zg4 {l:L_}:(tkT n l sh).length<=n:=by
 unfold tkT
 split
 simp
 rw[lT9_];omega
structure zwE (w w':World)(e:Ending)(R:Nat)(x:Int)(l:L_)(sh:Bool):Prop where
 out:e=.returned (I_ x)/\zaw w' R l sh/\zaG R w w'
theorem ziA (R n:Nat)(l:L_)(sh:Bool)(w:World)(c:zaw w R l sh)(C:l.length<=100000)(U:n<=3)(G:zZ l) :
  Calls prog 105 #[P_ R 0,I_ (n:Int)] w λe w'=>zwE w w' e R (zbe (tkT n l sh)) (tkL n l sh) (tkS n l sh):=by
 have o:=zjx R n l sh w c C (by omega);have d:=G.tkT (n:=n) (sh:=sh);have Z:=zg4 (n:=n) (l:=l) (sh:=sh);generalize tkT n l sh=t at*;generalize tkL n l sh=l2 at*;generalize tkS n l sh=s2 at*;go_in;go_wp2_with fail
 refine o.mono ?_;rintro e M⟨L,tc,B,F,-,u,E⟩;subst B;dsimp only;clear o;have V:(t.length:Int)<=3:=by omega
 go_upto_region 3 with fail
 go_loopw [12,5] (λj v wr=>∃(k:Nat),k<=t.length/\j=I_ k/\v=I_ (zbe (t.take k))/\wr=M) (λj _ _=>t.length-(intOf j).toNat)
 case atStart=>exact⟨0,nZ_ _,rfl,rfl,rfl⟩
 case round=>
  obtain⟨k,T,rfl,rfl,rfl⟩:=hrel;by_cases hlt:k<t.length
  .have D:(k:Int)<t.length:=by omega
   obtain⟨g,m,rfl,p⟩:∃g m,L=some (p_ g m)/\∀j,j<t.length->C_ wr g (m+j) (.int .u8 (t.getD j 0)):=by
    rcases F.bytes with h|h;rw[h]at hlt;simp at hlt;exact h
   have N:=p k hlt;obtain⟨I,J⟩:=d (t.getD k 0) (by simp[List.getD,hlt]);have q:Hid (t.take (k+1)=t.take k++[t.getD k 0]):=by
    show _=_;rw[tS_ hlt];simp[List.getD,hlt]
   obtain⟨z,O⟩:=zpK (t.take k) (λx H=>d x (List.mem_of_mem_take H)) (by rw[lT9_];omega);have A:zbe (t.take k)<=65535:=by
    match k,hlt with
    | 0,_=>simp[zbe]
    | 1,_=>
     match t,d with
     | [],_=>simp[zbe]
     | a::r,hu'=>have:=hu' a (by simp);simp[zbe];omega
    | 2,_=>
     match t,d with
     | [],_=>simp[zbe]
     | [a],hu'=>have:=hu' a (by simp);simp[zbe];omega
     | a::b::r,hu'=>have:=hu' a (by simp);have:=hu' b (by simp);simp[zbe];omega
    | k+3,h=>omega
   clear p;have y:Hid (zbe (t.take (k+1))=256*zbe (t.take k)+t.getD k 0):=by show _=_;rw[q.out,zs1]
   clear q;generalize t.getD k 0=X at*;generalize zbe (t.take k)=Y at*;have s:Hid (bits .or .i64 (Y*256) X=256*Y+X):=zwP Y X z A I J;go_wp2_with fail
   go_roundw
   case rel=>
    have c:∃(f:Nat),f<=t.length/\(Value.int .i64 ((k:Int)+1))=I_ f/\Value.int .i64 (bits .or .i64 (Y*256) X)=I_ (zbe (t.take f))/\wr=wr:=
     ⟨k+1,by omega,by go_num,by rw[y.out,s.out],rfl⟩
    first|exact c|simpa using c
   case measure=>simp[intOf];omega
  obtain rfl:k=t.length:=by omega
  have D:¬(t.length:Int)<t.length:=by omega
  go_wp2_with fail
  go_ret;exact⟨rfl,u,E⟩
theorem zs2 (R:Nat)(l:L_)(sh:Bool)(w:World)(f:zaw w R l sh)(j:l.length<=100000)(m:zZ l) :
  Calls prog 110 #[P_ R 0] w λe w'=>zwE w w' e R (zbe (tkT 3 l sh)) (tkL 3 l sh) (tkS 3 l sh):=by
 have d:=ziA R 3 l sh w f j (by omega) m;go_in;go_wp2_with fail
 refine d.mono ?_;rintro _ o⟨rfl,b,c⟩;dsimp only;go_wp2_with fail
 go_ret;exact⟨rfl,b,c⟩
theorem zeH (bs:L_)(j:Q_)(n d:Nat)(w:World)(y:n=bs.length)(g:zg w j d bs)(t:bs.length<=140737488355328) :
  Calls prog 138 #[.slice j n d] w λe w'=>∃b rc,e=.returned (.slice b bs.length rc)/\zg w' b rc bs/\(∀c m,b=some (p_ c m)->w.heap.size<=c/\c<w'.heap.size)/\B_ w w':=by
 subst y;have B:=g.le;cases j with
 | none=>
  have p:=g.nil rfl;have o:bs=[]:=eN_ (by omega);subst p o;have r:∀w:World,(binOp .eql 61 (O_) (O_)).run prog w=.ok (.bool true) w:=λ_=>rfl;go_in;go_wp2_with fail
  go_ret;exact⟨none,0,rfl,g,(λ_ _ e=>by cases e),bR_ _ _⟩
 | some ad=>
  have r:∀w:World,(binOp .eql 61 (.slice (some ad) bs.length d) (O_)).run prog w=.ok (.bool false) w:=λ_=>rfl;have f:=zC w (.cells #[] 5);go_in;go_wp2_with (at_builtin;refine zgo rfl _ _ rfl w.heap.size _ 0 [] rfl (World.ownsRow_made _ _ 0 (nR_ _) (by decide) rfl) (some ad) _ d bs rfl rfl (g.below f) (by omega) f.size ?_;intro C D l s)
  obtain⟨b,rc,A,t,z⟩:=zeG l;have u:=l.lt;subst A;go_ret;refine⟨b,rc,?_,by simpa using z,(λc m e=>u c (by rw[e];rfl)),?_⟩
  simp
  exact Below.grown f s f.size (λq e=>(World.ownsRow.lt (World.ownsRow_made (e:=5) (size:=1) w #[] 0 (nR_ _) (by decide) rfl) q e).1)
theorem zjy {e:TypeId}{s:Nat}{v:Value}(h:w.ownsRow base e s v n xs)(o:zaG R w w')(p:R<base):w'.ownsRow base e s v n xs:=by
 have j:=λq e=>h.lt q e;obtain⟨f,b⟩:=h;refine⟨f,?_⟩;rcases b with b|⟨g,c,d,rfl,m,l,r⟩;exact .inl b;exact .inr ⟨g,c,d,rfl,m,(o.block g (j g rfl).2 (by omega)).trans l,r⟩
theorem zri {v:Value}(h:z8 w B v qs)(f:zaG R w w')(l:R<B):z8 w' B v qs:=λp j=>by
 obtain⟨g,d⟩:=h p j
 exact⟨g.only f (λb c e=>by have:=(d b c e).1;omega),λb c e=>⟨(d b c e).1,nL_ (d b c e).2.1 f.size,(d b c e).2.2⟩⟩
theorem zrj {f:World}{v:Value}{q:zi}{o:Obj}(h:z8 w B v qs)(y:zg w q.sa q.cap q.bs)(u:∀b c,q.sa=some (p_ b c)->B<=b/\b<w.heap.size/\v.ownBlock≠some b)(G:zV (w.alloc o) v f v1):z8 f B v1 (qs++[q]):=by
 have t:B_ w (w.alloc o):=(bR_ _ _).alloc (nR_ _) _;have D:(w.alloc o).heap.size=w.heap.size+1:=by simp
 have C:=G.grown.size;have l:∀p:zi,zg w p.sa p.cap p.bs->(∀b c,p.sa=some (p_ b c)->B<=b/\b<w.heap.size/\v.ownBlock≠some b)->zg f p.sa p.cap p.bs/\∀b c,p.sa=some (p_ b c)->B<=b/\b<f.heap.size/\v1.ownBlock≠some b:=λp s j=>by
  refine⟨G.slice (s.below t) (λb c e=>(j b c e).2.2),λb c e=>?_⟩;obtain⟨m,A,r⟩:=j b c e;refine⟨m,by omega,λz=>?_⟩;rcases G.fresh b z with g|g;exact r g;omega
 intro p d;rcases mA_.1 d with d|d;exact l p (h p d).1 (h p d).2;obtain rfl:p=q:=by simpa using d
 exact l p y u
structure zyY (w w':World)(e:Ending)(R:Nat)(t l:L_)(sh:Bool):Prop where
 out:∃da dc,e=.returned (.slice da t.length dc)/\zg w' da dc t/\(∀sb so,da=some (p_ sb so)->w.heap.size<=sb/\sb<w'.heap.size)/\zaw w' R l sh/\zaG R w w'
theorem zkA (R:Nat)(l:L_)(sh:Bool)(w:World)(m:zaw w R l sh)(q:l.length<=100000) :
  Calls prog 158 #[P_ R 0] w λe w'=>zyY w w' e R (tkT 32 l sh) (tkL 32 l sh) (tkS 32 l sh):=by
 have j:=zjx R 32 l sh w m q (by omega);have C:=zg4 (n:=32) (l:=l) (sh:=sh);generalize tkT 32 l sh=t at*;generalize tkL 32 l sh=D at*;generalize tkS 32 l sh=E at*;go_in;go_wp2_with fail
 refine j.mono ?_;rintro e B⟨z,A,b,r,-,o,d⟩;subst b;dsimp only;go_wp2_with fail
 refine(zeH t z _ A B rfl r (by omega)).mono ?_;rintro e w2⟨f,g,b,s,p,c⟩;subst b;dsimp only;go_wp2_with fail
 go_ret;exact⟨f,g,rfl,s,λu y e=>by have:=p u y e;have:=d.size;omega,o.below c,d.trans (zbR c)⟩
def dgL (l:L_)(sh:Bool):Nat->L_×Bool
 | 0=>(l,sh)
 | k+1=>(tkL 32 (dgL l sh k).1 (dgL l sh k).2,tkS 32 (dgL l sh k).1 (dgL l sh k).2)
def dgD (l:L_)(sh:Bool):Nat->List (L_)
 | 0=>[]
 | k+1=>dgD l sh k++[tkT 32 (dgL l sh k).1 (dgL l sh k).2]
theorem zqL (l:L_)(sh:Bool)(k:Nat):(dgL l sh k).1.length<=l.length:=by
 induction k with
 | zero=>exact nR_ _
 | succ k ih=>exact nT_ zn5 ih
theorem zn6 (l:L_)(sh:Bool)(k:Nat)(h:zZ l):zZ (dgL l sh k).1:=by
 induction k with
 | zero=>exact h
 | succ k ih=>exact ih.tkL
def dN (l:L_)(sh:Bool):Nat:=(zbe (tkT 1 l sh)).toNat
theorem zhe {l:L_}(h:zZ l):0<=zbe (tkT 1 l sh)/\zbe (tkT 1 l sh)<=255:=by
 have b:=h.tkT (n:=1) (sh:=sh);have c:=zg4 (n:=1) (l:=l) (sh:=sh)
 match tkT 1 l sh,b,c with
 | [],_,_=>simp[zbe]
 | [a],h,_=>have:=h a (by simp);simp[zbe];omega
abbrev St:=L_×Bool
def nx (n:Nat)(s:St):St:=(tkL n s.1 s.2,tkS n s.1 s.2)
def tT (n:Nat)(s:St):L_:=tkT n s.1 s.2
def nB (n:Nat)(s:St):Int:=zbe (tT n s)
def dgs (s:St):List (L_):=dgD (nx 1 s).1 (nx 1 s).2 (dN s.1 s.2)
def dgS (s:St):St:=dgL (nx 1 s).1 (nx 1 s).2 (dN s.1 s.2)
structure zbC (s:St):Prop where
 len:s.1.length<=100000
 u8:zZ s.1
theorem zbC.nx {s:St}(h:zbC s):zbC (nx n s):=⟨nT_ zn5 h.len,h.u8.tkL⟩
theorem zbC.dgS {s:St}(h:zbC s):zbC (dgS s):=⟨nT_ (zqL _ _ _) (h.nx (n:=1)).len,zn6 _ _ _ (h.nx (n:=1)).u8⟩
def RdS (w:World)(R:Nat)(s:St):Prop:=zaw w R s.1 s.2
theorem zdn (R n:Nat)(s:St)(w:World)(c:RdS w R s)(b:zbC s)(d:n<=3) :
  Calls prog 105 #[P_ R 0,I_ (n:Int)] w λe w'=>e=.returned (I_ (nB n s))/\RdS w' R (nx n s)/\zaG R w w':=
 (ziA R n s.1 s.2 w c b.len d b.u8).mono (λ_ _ h=>h.out)
theorem ziB (R:Nat)(s:St)(w:World)(c:RdS w R s)(b:zbC s) :
  Calls prog 110 #[P_ R 0] w λe w'=>e=.returned (I_ (nB 3 s))/\RdS w' R (nx 3 s)/\zaG R w w':=
 (zs2 R s.1 s.2 w c b.len b.u8).mono (λ_ _ h=>h.out)
theorem zjz (h:zx w ra rc qs)(f:za1 B ra qs)(l:zaG R w w')(o:R<B):zx w' ra rc qs:=by
 refine⟨h.le,h.max,h.small,h.some,⟨?_,λp m=>(h.parts.each p m).only l (λb d e=>by have:=f.each p m b d e;omega)⟩⟩;rcases h.parts.cells with c|⟨b,d,e,c⟩;exact .inl c;exact .inr ⟨b,d,e,λj g=>(cB_ (l.block b (bL_ (c j g)) (by have:=f.row b d e;omega))).trans (c j g)⟩
structure zrk (w w':World)(e:Ending)(R:Nat)(s:St):Prop where
 out:∃da dc,e=.returned (.agg #[I_ (nB 1 s),I_ (nB 3 (nx 1 s)),.slice da (tT 32 (nx 3 (nx 1 s))).length dc])/\zg w' da dc (tT 32 (nx 3 (nx 1 s)))/\(∀sb so,da=some (p_ sb so)->w.heap.size<=sb)/\RdS w' R (nx 32 (nx 3 (nx 1 s)))/\zaG R w w'
theorem zu3 (R:Nat)(s:St)(w:World)(B:RdS w R s)(z:zbC s) :
  Calls prog 108 #[P_ R 0] w λe w'=>zrk w w' e R s:=by
 have t:=B.lt;refine kO_ ?C0 ?_;exact Obj.cells #[I_ 0,I_ 0,O_] 63;have p:=zC w ?C0;have A:=hN_ w ?C0;have I:=ze A;go_in;go_wp2_with fail
 generalize w.alloc ?C0=L at p A I|-;refine(zdn R 1 s L (zaw.below B p) z (by omega)).mono ?_;rintro _ Y⟨rfl,C,u⟩;dsimp only;go_wp2_with fail
 refine(ziB R _ Y C z.nx).mono ?_;rintro _ w2⟨rfl,D,y⟩;dsimp only;go_wp2_with fail
 refine(zkA R _ _ w2 D z.nx.nx.len).mono ?_;rintro e J⟨b,c,m,H,r,E,G⟩;subst m;dsimp only;have q:=(u.trans y).trans G;have f:=(q.block _ I (by omega)).trans A;have M:=zb f 0 _ rfl;have N:=zb f 1 _ rfl;have O:=zb f 2 _ rfl;have Z:=zd f 0;have f1:=zd f 1;have f2:=zd f 2;refine kW_ ?B0 ?_;exact(J.setCell (p_ w.heap.size 0) (I_ (nB 1 s))).setCell (p_ w.heap.size 1) (I_ (nB 3 (nx 1 s)));have F:Hid (zrk w ((?B0).setCell (p_ w.heap.size 2) (.slice b (tT 32 (nx 3 (nx 1 s))).length c)) (.returned (.agg #[I_ (nB 1 s),I_ (nB 3 (nx 1 s)),.slice b (tT 32 (nx 3 (nx 1 s))).length c])) R s):=by
  have aa:=(u.trans y).size;have X:∀d g,b=some (p_ d g)->w.heap.size≠d:=λd g e=>by have:=(r d g e).1;omega
  refine⟨b,c,rfl,?_,λd g e=>by have:=(r d g e).1;omega,((E.far t).far t).far t,?_⟩;have o:∀(W:World) (j:Nat) (v:Value),zg W b c (tT 32 (nx 3 (nx 1 s)))->zg (W.setCell (p_ w.heap.size j) v) b c (tT 32 (nx 3 (nx 1 s))):=λW j v h=>h.only (R:=w.heap.size) ((zaG.refl _ W).setCell) (λd g e T=>X d g e T.symm);exact o _ _ _ (o _ _ _ (o _ _ _ H));have l:=(zbR (R:=R) p).trans q;refine⟨l.os,l.tape,l.output,by simpa using l.size,λk U V=>?_⟩;exact(hO_ _ (p_ w.heap.size 2) k _ (by show k≠w.heap.size;omega)).trans ((hO_ _ (p_ w.heap.size 1) k _ (by show k≠w.heap.size;omega)).trans ((hO_ _ (p_ w.heap.size 0) k _ (by show k≠w.heap.size;omega)).trans (l.block k U V)))
 clear H r E C D q u y G f;refine kV_ ?A0 ?_;exact Value.slice b (tkT 32 (nx 3 (nx 1 s)).1 (nx 3 (nx 1 s)).2).length c
 change Hid (zrk w ((?B0).setCell (p_ w.heap.size 2) ?A0) (.returned (.agg #[I_ (nB 1 s),I_ (nB 3 (nx 1 s)),?A0])) R s)at F
 go_wp2_with fail
 exact bodyPost_ret (v:=.agg #[I_ (nB 1 s),I_ (nB 3 (nx 1 s)),?A0]) (by simp[results,results108,go_sem,M,N,O]) rfl F.out
def nL (s:St):Nat->St
 | 0=>s
 | k+1=>nx 1 (nL s k)
def nV (s:St):Nat->L_
 | 0=>[]
 | k+1=>nV s k++[nB 1 (nL s k)]
theorem zwR {s:St}(h:zbC s)(k:Nat):zbC (nL s k):=by
 induction k with
 | zero=>exact h
 | succ k ih=>exact ih.nx
theorem zmT (s:St)(k:Nat):(nV s k).length=k:=by
 induction k with
 | zero=>rfl
 | succ k ih=>simp[nV,ih]
theorem zu5:(prog.info? 3).map (λi=>(i.zero,i.size,i.bytes))=some (some (I_ 0),1,8):=by kernel_rfl
theorem zjA (h:zaG R w.drew w'):zaG R w w':=⟨h.os,h.tape,h.output,h.size,h.block⟩
def hS4 (s:St):St:=dgS (dgS (nx 3 (nx 1 s)))
def cN (s:St):Nat:=(nB 1 (hS4 s)).toNat
theorem zpL {v:Value}(h:w.ownsRow base 3 1 v n (iv vl)):∃c o,v=.slice c n o/\zax w c vl/\∀b d,c=some (p_ b d)->base<=b:=by
 have r:n=vl.length:=by have:=h.1;simp[iv]at this;omega
 have s:=h.lt;rcases h.2 with⟨e,m⟩|⟨g,p,q,e,f,_⟩;exact⟨none,0,by rw[e,m],⟨.inl (eN_ (by omega))⟩,λ_ _ e=>by cases e⟩;subst e;refine⟨_,_,rfl,⟨.inr ⟨g,0,rfl,λj l=>?_⟩⟩,λb d e=>by cases e;exact f⟩;rw[zA_,World.ownsRow.cellAt h j (by omega)];simp[iv,l]
theorem zs6 (h:zax w va vl)(m:zaG R w w')(l:∀b c,va=some (p_ b c)->b≠R):zax w' va vl:=by
 refine⟨?_⟩;rcases h.cells with g|⟨b,c,e,d⟩;exact .inl g;exact .inr ⟨b,c,e,λj f=>(cB_ (m.block b (bL_ (d j f)) (l b c e))).trans (d j f)⟩
theorem zmU (bs:L_):(zai bs).size=bs.length:=by
 have h:=cA_ List.length (zgr bs)
 simpa using h
def bL (s:St):Nat->St
 | 0=>s
 | k+1=>nx (nB 1 (bL s k)).toNat (nx 1 (bL s k))
def bT (s:St):Nat->Z_
 | 0=>[]
 | k+1=>bT s k++[zai (tT (nB 1 (bL s k)).toNat (nx 1 (bL s k)))]
theorem zqM {s:St}(h:zbC s)(k:Nat):zbC (bL s k):=by
 induction k with
 | zero=>exact h
 | succ k ih=>exact ih.nx.nx
theorem zjC (s:St)(k:Nat):(bT s k).length=k:=by
 induction k with
 | zero=>rfl
 | succ k ih=>simp[bT,ih]
theorem zfE {s:St}(h:zbC s):0<=nB 1 s/\nB 1 s<=255:=zhe h.u8
theorem zwS {s:St}(h:zbC s)(k:Nat):∀t∈bT s k,t.size<=maxLen:=by
 induction k with
 | zero=>intro t b;cases b
 | succ k ih=>
  intro t b;rcases mA_.1 b with b|b;exact ih t b;obtain rfl:t=_:=by simpa using b
  rw[zmU];have c:=zg4 (n:=(nB 1 (bL s k)).toNat) (l:=(nx 1 (bL s k)).1) (sh:=(nx 1 (bL s k)).2);have d:=zfE (zqM h k);unfold maxLen;show(tkT _ _ _).length<=_;omega
def bS3 (s:St):St:=nx 3 (nx 1 s)
def bN (s:St):Nat:=(nB 1 (bS3 s)).toNat
theorem zs8 (h:zas w va ss)(m:zaG R w w')(l:∀b c,va=some (p_ b c)->b≠R):zas w' va ss:=by
 refine⟨?_,h.size⟩;rcases h.cells with g|⟨b,c,e,d⟩;exact .inl g;exact .inr ⟨b,c,e,λj f=>(cB_ (m.block b (bL_ (d j f)) (l b c e))).trans (d j f)⟩
structure MC where
 (fr tt ki bau bnu:Int) (ss:Z_) (hau hrd:Int) (bl pl:List (L_)) (sau srd:Int) (ds:L_) (cau crd:Int) (cbl cpl:List (L_)) (vl:L_) (ro:Int)
def MV.c (x:MV):MC:=⟨x.m.fr,x.m.tt,x.m.ki,x.m.bau,x.m.bnu,x.ss,x.m.hau,x.m.hrd,x.bl.map (·.bs),x.pl.map (·.bs),x.m.sau,x.m.srd,x.ds,x.m.cau,x.m.crd,x.cbl.map (·.bs),x.cpl.map (·.bs),x.vl,x.m.ro⟩
def pM (s:St):MC:=
 if nB 1 s=1 then⟨nB 1 (nx 1 s),nB 1 (nx 1 (nx 1 s)),nB 1 s,nB 1 (nx 1 (nx 1 (nx 1 s))),nB 3 (nx 1 (nx 1 (nx 1 (nx 1 s)))),bT (nx 1 (bS3 (nx 1 (nx 1 (nx 1 s))))) (bN (nx 1 (nx 1 (nx 1 s)))),0,0,[],[],0,0,[],0,0,[],[],[],0⟩
 else if nB 1 s=2 then⟨nB 1 (nx 1 s),nB 1 (nx 1 (nx 1 s)),nB 1 s,0,0,[],nB 1 (nx 1 (nx 1 (nx 1 s))),nB 3 (nx 1 (nx 1 (nx 1 (nx 1 s)))),dgs (nx 3 (nx 1 (nx 1 (nx 1 (nx 1 s))))),dgs (dgS (nx 3 (nx 1 (nx 1 (nx 1 (nx 1 s)))))),0,0,[],0,0,[],[],[],0⟩
 else if nB 1 s=3 then⟨nB 1 (nx 1 s),nB 1 (nx 1 (nx 1 s)),nB 1 s,0,0,[],0,0,[],[],nB 1 (nx 1 (nx 1 (nx 1 s))),nB 3 (nx 1 (nx 1 (nx 1 (nx 1 s)))),tT 32 (nx 3 (nx 1 (nx 1 (nx 1 (nx 1 s))))),0,0,[],[],[],0⟩
 else if nB 1 s=4 then⟨nB 1 (nx 1 s),nB 1 (nx 1 (nx 1 s)),nB 1 s,0,0,[],0,0,[],[],0,0,[],nB 1 (nx 1 (nx 1 (nx 1 s))),nB 3 (nx 1 (nx 1 (nx 1 (nx 1 s)))),dgs (nx 3 (nx 1 (nx 1 (nx 1 (nx 1 s))))),dgs (dgS (nx 3 (nx 1 (nx 1 (nx 1 (nx 1 s)))))),nV (nx 1 (hS4 (nx 1 (nx 1 (nx 1 s))))) (cN (nx 1 (nx 1 (nx 1 s)))),0⟩
 else⟨nB 1 (nx 1 s),nB 1 (nx 1 (nx 1 s)),nB 1 s,0,0,[],0,0,[],[],0,0,[],0,0,[],[],[],nB 3 (nx 1 (nx 1 (nx 1 s)))⟩
def mS (s:St):St:=
 if nB 1 s=1 then bL (nx 1 (bS3 (nx 1 (nx 1 (nx 1 s))))) (bN (nx 1 (nx 1 (nx 1 s))))else if nB 1 s=2 then dgS (dgS (nx 3 (nx 1 (nx 1 (nx 1 (nx 1 s))))))else if nB 1 s=3 then nx 32 (nx 3 (nx 1 (nx 1 (nx 1 (nx 1 s)))))else if nB 1 s=4 then nL (nx 1 (hS4 (nx 1 (nx 1 (nx 1 s))))) (cN (nx 1 (nx 1 (nx 1 s))))else nx 3 (nx 1 (nx 1 (nx 1 s)))
theorem zkB (k:Int)(r:Bool)(w:World)(h:r=decide (1<=k/\k<=5)):Calls prog 61 #[I_ k] w λe w'=>e=.returned (.bool r)/\w=w':=by
 by_cases h1:1<=k
 .by_cases h2:k<=5;obtain rfl:r=true:=by simp[h,h1,h2]
  rotate_left
  obtain rfl:r=false:=by simp[h,h2]
  rotate_left
  all_goals
   clear h;go_in
   go_wp2
   go_ret;exact⟨rfl,rfl⟩
 obtain rfl:r=false:=by simp[h,h1]
 clear h;go_in
 go_wp2
 go_ret;exact⟨rfl,rfl⟩
def zbt (bs:L_):Int:=if 4000<bs.length then 1 else if bs=[]then 5 else if ¬(1<=bs.getD 0 0/\bs.getD 0 0<=5)then 3 else if(mS (bs,false)).2=true then 5 else if(mS (bs,false)).1≠[]then 4 else 0
theorem zta (h:bs≠[]):nB 1 (bs,false)=bs.getD 0 0:=by
 cases bs with
 | nil=>exact absurd rfl h
 | cons a l=>
  have e:tT 1 (a::l,false)=[a]:=(zke (n:=1) (l:=a::l) (by simp)).1;rw[nB,e];simp[zbe]
theorem zak {fn:Func}{p q:Tmp}{ty:TypeId}(h:fn.results=#[.cell p ty,.tmp q])(b:X_)(w:World)(g:Nat)(t:TypeId)(cs:X_)(fr:Nat×Nat)(d:TypeDesc)(v:Value)
  (c:b.getD p undef=(P_ g 0)/\b.getD q undef=v) (j:w.heap[g]? = some (.cells cs t fr))
  (r:prog.underlying ty=some d) (f:(match d with|.struct _|.array _ _=>true|_=>false)=true) (l:(prog.info? ty).map (·.size)=some cs.size) :
  (results fn b).run prog w=.ok (.tuple #[.agg cs,v]) w:=by
 have m:b[p]?.getD undef=(P_ g 0):=by simpa using c.1
 have o:b[q]?.getD undef=v:=by simpa using c.2
 simp[results,h,m,o,asAddr,run_loadVar_row w g t ty cs fr d j r (by cases d<;>first|exact f|rfl) l]
theorem zk0:(prog.info? 63).map (λi=>(i.zero,i.size,i.bytes))=some (some (.agg #[I_ 0,I_ 0,O_]),3,40):=by kernel_rfl
def Sl.cs (s:Sl):List Value:=[I_ s.au,I_ s.rd,.slice s.p.sa s.p.bs.length s.p.cap]
def slv:List Sl->List Value
 | []=>[]
 | s::r=>s.cs++slv r
theorem zki (b:List Sl)(s:Sl):slv (b++[s])=slv b++s.cs:=by
 induction b with
 | nil=>simp[slv]
 | cons x r ih=>simp[slv,ih]
theorem zrs (b:List Sl):(slv b).length=b.length*3:=by
 induction b with
 | nil=>rfl
 | cons x r ih=>simp[slv,ih,Sl.cs];omega
theorem zti (b:List Sl)(j i:Nat)(h:j<b.length)(c:i<3):(slv b)[j*3+i]? = (b[j]).cs[i]?:=by
 induction b generalizing j with
 | nil=>cases h
 | cons x r ih=>
  cases j with
  | zero=>simp only[slv,Nat.zero_mul,zA_,List.getElem_cons_zero];rw[List.getElem?_append_left (by simp[Sl.cs];exact c)]
  | succ j=>
   have h':j<r.length:=by simpa using h
   simp only[slv,List.getElem_cons_succ];rw[List.getElem?_append_right (by simp[Sl.cs];omega),<-ih j h']
   congr 1
   simp[Sl.cs];omega
def ps (ls:List Sl):List zi:=ls.map Sl.p
theorem zkD {v:Value}{b:List Sl}(h:w.ownsRow base 63 3 v n (slv b))(f:z8 w base v (ps b)):∃d rc,v=.slice d n rc/\n=b.length/\(n<=3000000000000000000->zeb w d rc b)/\za1 base d (ps b):=by
 have C:n=b.length:=by have:=h.1;rw[zrs]at this;omega
 rcases h.2 with⟨rfl,D⟩|⟨g,q,F,rfl,l⟩;have z:b=[]:=eN_ (by omega);subst D z;exact⟨none,0,rfl,rfl,λ_=>⟨nR_ _,by decide,by decide,.inl rfl,⟨.inl rfl,λp c=>by cases c⟩⟩,⟨(λ_ _ e=>by cases e),(λp c=>by cases c)⟩⟩;refine⟨some (p_ g 0),q,rfl,C,λH=>⟨?_,?_,by omega,.inr ⟨g,0,rfl⟩,⟨.inr ⟨g,0,rfl,λj B=>?_⟩,λs E=>(f s.p (mM_.2 ⟨s,E,rfl⟩)).1⟩⟩,⟨(λm o e=>by cases e;exact(h.lt _ rfl).1),(λp c m o e=>((f p c).2 m o e).1)⟩⟩;obtain⟨_,_,G,_⟩:=l;omega;obtain⟨_,_,_,y,_⟩:=l;exact y;have e:∀i,i<3->w.cell? (p_ g (j*3+i))=(b[j]).cs[i]?:=λi A=>by rw[World.ownsRow.cellAt h (j*3+i) (by omega),zti b j i B A]
 have r:=e 0 (by omega);have t:=e 1 (by omega);have u:=e 2 (by omega);exact⟨by simpa[Sl.cs]using r,by simpa[Sl.cs]using t,by simpa[Sl.cs]using u⟩
variable {rd au:Int}{k:Nat}{l:List SV}
def zbp (l:List SV)(au rd:Int):Nat->Option Nat
 | 0=>none
 | k+1=>match zbp l au rd k with
  | some m=>some m
  | none=>if hit l au rd k=true then some k else none
theorem zkE (h:∀j,j<k->hit l au rd j=false):zbp l au rd k=none:=by
 induction k with
 | zero=>rfl
 | succ k ih=>rw[zbp,ih (λj b=>h j (by omega))];simp[h k (by omega)]
theorem zpS {m:Nat}(d:m<k)(b:hit l au rd m=true)(c:∀j,j<m->hit l au rd j=false):zbp l au rd k=some m:=by
 induction k with
 | zero=>omega
 | succ k ih=>
  rcases lG_ m k with g|g;rw[zbp,ih g];obtain rfl:m=k:=by omega
  rw[zbp,zkE c];simp[b]
theorem zhC.found (h:zhC l au rd k r):(∃m:Nat,m<k/\r=m/\zbp l au rd k=some m)\/(r=-1/\zbp l au rd k=none):=by
 rcases h with⟨m,c,rfl,d,b⟩|⟨rfl,b⟩;exact .inl ⟨m,c,rfl,zpS c d b⟩;exact .inr ⟨rfl,zkE b⟩
def za6 (l:List SV)(s:SV):List SV×Int:=match zbp l s.1 s.2.1 l.length with
 | some m=>if txL (zd1 l m).2.2=txL s.2.2 then(l,0)else([],7)
 | none=>if 400<=l.length then([],6)else(l++[s],0)
theorem ziG {s:SV}{m:Nat}(h:zbp l s.1 s.2.1 l.length=some m)(b:txL (zd1 l m).2.2=txL s.2.2):za6 l s=(l,0):=by rw[za6,h];exact iP_ b
theorem zhY {s:SV}{m:Nat}(h:zbp l s.1 s.2.1 l.length=some m)(b:¬txL (zd1 l m).2.2=txL s.2.2):za6 l s=([],7):=by rw[za6,h];exact iN_ b
theorem ziH {s:SV}(h:zbp l s.1 s.2.1 l.length=none)(b:400<=l.length):za6 l s=([],6):=by rw[za6,h];exact iP_ b
theorem zjL {s:SV}(h:zbp l s.1 s.2.1 l.length=none)(b:¬400<=l.length):za6 l s=(l++[s],0):=by rw[za6,h];exact iN_ b
theorem zeb.setCell {o:List Sl}(h:zeb w ra rc o)(p:za1 B ra (ps o))(b j:Nat)(v:Value)(r:b<B):zeb (w.setCell (p_ b j) v) ra rc o:=by
 refine⟨h.le,h.max,h.small,h.some,⟨?_,λs q=>?_⟩⟩;rcases h.slots.cells with c|⟨d,l,rfl,c⟩;exact .inl c;have m:b≠d:=by have:=p.row d l rfl;omega
 exact .inr ⟨d,l,rfl,λk f=>⟨(World.cell?_setCell_far _ _ _ _ m).trans (c k f).1,(World.cell?_setCell_far _ _ _ _ m).trans (c k f).2.1,(World.cell?_setCell_far _ _ _ _ m).trans (c k f).2.2⟩⟩;have g:=h.slots.each s q;refine⟨g.le,g.max,g.some,g.nil,?_⟩;rcases g.bytes with c|⟨d,l,e,c⟩;exact .inl c;exact .inr ⟨d,l,e,λk f=>(World.cell?_setCell_far _ _ _ _ (by have:=p.each s.p (mM_.2 ⟨s,q,rfl⟩) d l e;show b≠d;omega)).trans (c k f)⟩
theorem zfu (h:zg w ra rc bs)(g:∀c d,ra=some (p_ c d)->B<=c)(b j:Nat)(v:Value)(m:b<B):zg (w.setCell (p_ b j) v) ra rc bs:=by
 refine⟨h.le,h.max,h.some,h.nil,?_⟩;rcases h.bytes with f|⟨c,d,e,f⟩;exact .inl f;exact .inr ⟨c,d,e,λk l=>(World.cell?_setCell_far _ _ _ _ (by have:=g c d e;show b≠c;omega)).trans (f k l)⟩
theorem zkj (w:World):zeb w none 0 []:=⟨nR_ _,by decide,by decide,.inl rfl,⟨.inl rfl,λp b=>by cases b⟩⟩
theorem zjM (B:Nat):za1 B none (ps []):=⟨(λ_ _ e=>by cases e),(λp b=>by cases b)⟩
theorem ziI {d:Nat}(h:za1 B ra qs)(f:d<=B):za1 d ra qs:=⟨λb c e=>nT_ f (h.row b c e),λp g b c e=>nT_ f (h.each p g b c e)⟩
theorem zy0 {b:List Sl}(h:zdt (vs b)=0):∀s∈b,s.p.bs.length<=140737488355328:=λs j=>by
 obtain⟨m,g,rfl⟩:=List.getElem_of_mem j
 have d:=(zmY h).2 m (by rw[zay];exact g)
 rw[zeD,zhl b m g]at d
 simp only[Bool.or_eq_false_iff]at d
 have c:zbf (b[m]).au (b[m]).rd (b[m]).p.bs.length=0:=by have f:=d.1;simp only[ne_eq,decide_eq_false_iff_not,Decidable.not_not]at f;exact f
 unfold zbf at c
 split at c
 .cases c
 .split at c
  .cases c
  .omega
theorem zrt (au rd:Int)(b:Q_)(c:Nat)(bl:List zi)(d:Q_)(f:Nat)(pl:List zi)(g:Int)(w:World)(h:HAt w b c bl d f pl)(y:zO au rd bl pl=g)(m:g≠0) :
  Calls prog 126 #[.agg #[I_ au,I_ rd,.slice b bl.length c,.slice d pl.length f]] w λe w'=>e=.returned (.tuple #[.agg #[I_ 0,I_ 0,O_],I_ g])/\B_ w w':=by
 refine kW_ ?A0 ?_;exact w.alloc (.cells #[I_ au,I_ rd,.slice b bl.length c,.slice d pl.length f] 60);refine kO_ ?B0 ?_;exact Obj.cells #[I_ 0,I_ 0,O_] 63;have l:B_ w ((?A0).alloc ?B0):=((bR_ _ _).alloc (nR_ _) _).alloc (by simp) _;have p:((?A0).alloc ?B0).heap[w.heap.size+1]? = some (.cells #[I_ 0,I_ 0,O_] 63 (0,0)):=by
  have:=hN_ ?A0 ?B0;rw[zG]at this;exact this
 go_in;go_wp2_with fail
 generalize (?A0).alloc ?B0=q at l p|-;refine(zkZ au rd b _ c bl d _ f pl g q rfl rfl (h.lb.below l) (h.lp.below l) y m).mono ?_;rintro e D⟨rfl,o⟩;have j:=zk o p;have r:=zb j 0 _ rfl;have s:=zb j 1 _ rfl;have t:=zb j 2 _ rfl;have z:=zd j 0;have A:=zd j 1;have B:=zd j 2;have u:=zm l o;have C:(g != 0)=true:=by simpa using m
 go_wp2_with fail
 refine bodyPost_ret (v:=.tuple #[.agg #[I_ 0,I_ 0,O_],I_ g]) (by simp[results,results126,go_sem,r,s,t]) rfl ⟨rfl,?_⟩;exact((u.setCell (lS_ _) _).setCell (lS_ _) _).setCell (lS_ _) _
theorem ztj (au rd:Int)(c:Q_)(d:Nat)(bl:List zi)(f:Q_)(g:Nat)(pl:List zi)(w:World)(h:HAt w c d bl f g pl)(y:zO au rd bl pl=0)(G:za2 w) :
  Calls prog 126 #[.agg #[I_ au,I_ rd,.slice c bl.length d,.slice f pl.length g]] w λe w'=>∃b,e=.returned (.tuple #[.agg #[I_ au,I_ rd,.slice (some (p_ b 0)) 32 32],I_ 0])/\w.heap.size<=b/\b<w'.heap.size/\zg w' (some (p_ b 0)) 32 (zaE au rd bl pl)/\B_ w w':=by
 refine kO_ ?A0 ?_;exact Obj.cells #[I_ au,I_ rd,.slice c bl.length d,.slice f pl.length g] 60;refine kO_ ?B0 ?_;exact Obj.cells #[I_ 0,I_ 0,O_] 63;have l:B_ w ((w.alloc ?A0).alloc ?B0):=((bR_ _ _).alloc (nR_ _) _).alloc (by simp) _;have B:=hX_ w ?A0 ?B0;have s:((w.alloc ?A0).alloc ?B0).heap[w.heap.size+1]? = some (.cells #[I_ 0,I_ 0,O_] 63 (0,0)):=by
  have:=hN_ (w.alloc ?A0) ?B0;rw[zG]at this;exact this
 go_in;go_wp2_with fail
 generalize (w.alloc ?A0).alloc ?B0=u at l B s|-;refine(zea (h.below l) y (G.below l)).mono ?_;rintro e J⟨b,rfl,z,o,A⟩;have q:=ze s;have C:=zk o B;have j:=zk o s;have L:=zb C 0 (I_ au) rfl;have M:=zb C 1 (I_ rd) rfl;have D:=zb j 0 _ rfl;have E:=zb j 1 _ rfl;have F:=zb j 2 _ rfl;have N:=zd j 0;have O:=zd j 1;have R:=zd j 2;have H:=zm l o;have I:b<J.heap.size:=by
  rcases A.bytes with p|⟨m,t,e,p⟩;have:=zbD au rd bl pl;rw[p]at this;simp at this;cases e;exact bL_ (p 0 (by rw[zbD];decide))
 clear y;go_wp2_with fail
 refine bodyPost_ret (v:=.tuple #[.agg #[I_ au,I_ rd,.slice (some (p_ b 0)) 32 32],I_ 0]) (by simp[results,results126,go_sem,D,E,F]) rfl ⟨b,rfl,nT_ l.size z,by simpa using I,?_,?_⟩;have r:∀m t,(some (p_ b 0):Q_)=some (p_ m t)->u.heap.size<=m:=λm t e=>by cases e;exact z
 exact zfu (zfu (zfu A r _ _ _ q) r _ _ _ q) r _ _ _ q;exact((H.setCell (lS_ _) _).setCell (lS_ _) _).setCell (lS_ _) _
end Go.Proofs.YtpnpikpmdfipfaaGreatDoor
