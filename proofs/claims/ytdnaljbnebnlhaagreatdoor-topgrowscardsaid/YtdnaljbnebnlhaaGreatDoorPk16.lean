import Derived.Test.YtdnaljbnebnlhaaGreatDoorPk15
set_option maxRecDepth 100000
set_option maxHeartbeats 4000000
namespace Go.Proofs.YtdnaljbnebnlhaaGreatDoor
open Go.RowKit Tryz
variable {w w' w2 w1:World}{n B base q n1 s1:Nat}{ls:List Ct}{xs xs1:List Value}{ds:List zi}{v1 vd:Value}
theorem zk8 {e:TypeId}{s:Nat}{v:Value}(h:w.ownsRow base e s v n xs)(q:Nat)(c:v.ownBlock=some q):∃b,w.heap[q]? = some (.cells b e (0,0)):=by
 rcases h.2 with⟨rfl,_⟩|⟨g,f,b,rfl,_,d,_⟩
 .cases c
 .cases c;exact⟨b,d⟩
theorem zcu {g j t:Nat}{c d:TypeId}{u:Nat}{f:Value}{y:List Value}(l:w.ownsRow g c s1 v1 n1 xs1)(m:w.ownsRow j d u f t y)(o:c≠d)(q:Nat)(p:v1.ownBlock=some q):f.ownBlock≠some q:=λr=>by
 obtain⟨z,s⟩:=zk8 l q p
 obtain⟨A,b⟩:=zk8 m q r
 rw[s]at b
 simp only[Option.some.injEq,Obj.cells.injEq]at b
 exact o b.2.1
theorem zc2 {d:Nat}{c t:TypeId}{cs:Array Value}(f:w.ownsRow d c s1 v1 n1 xs1)(b:w.heap[q]? = some (.cells cs t (0,0)))(g:c≠t):v1.ownBlock≠some q:=λj=>by
 obtain⟨m,l⟩:=zk8 f q j
 rw[l]at b
 simp only[Option.some.injEq,Obj.cells.injEq]at b
 exact g b.2.1
theorem zu {e:TypeId}{s:Nat}{v:Value}(h:w.ownsRow base e s v n xs)(m:∀q,v.ownBlock=some q->w'.heap[q]? = w.heap[q]?):w'.ownsRow base e s v n xs:=by
 obtain⟨f,b⟩:=h;refine⟨f,?_⟩;rcases b with b|⟨g,c,d,rfl,l,j,r⟩
 .exact .inl b
 .exact .inr ⟨g,c,d,rfl,l,(m g rfl).trans j,r⟩
theorem zgy.same {v:Value}{f:List Ct}(h:zgy w B v f)(j:w.heap.size<=w'.heap.size)(g:∀c∈f,∀b,zfq c b->w'.heap[b]? = w.heap[b]?):zgy w' B v f:=λc d=>
 ⟨(h c d).1.keep j (g c d),(h c d).2⟩
theorem z8.same {v:Value}{f:List zi}(h:z8 w B v f)(o:w.heap.size<=w'.heap.size)(m:∀p∈f,∀b c,p.sa=some ⟨b,c,none⟩->w'.heap[b]? = w.heap[b]?):z8 w' B v f:=λp d=>
 ⟨zfU (h p d).1 (λb c _ e=>m p d b c e),λq c e=>by
  obtain⟨g,j,l⟩:=(h p d).2 q c e
  exact⟨g,nL_ j o,l⟩⟩
structure Stk (w:World)(B s:Nat)(vc vd:Value)(ls:List Ct)(ds:List zi):Prop where
 box:R_ w s #[vc,vd] 152
 le:B<=s
 rc:w.ownsRow B 64 5 vc ls.length (ctv ls)
 rd:w.ownsRow B 51 1 vd ds.length (pv ds)
 ac:zgy w B vc ls
 ad:z8 w B vd ds
 sc:∀c∈ls,∀b,zfq c b->b≠s/\vd.ownBlock≠some b
 sd:∀p∈ds,∀sb so,p.sa=some ⟨sb,so,none⟩->sb≠s/\vc.ownBlock≠some sb
theorem Stk.keep {s:Nat}{o:Value}(h:Stk w B s o vd ls ds)(l:w.heap.size<=w'.heap.size)(d:∀b,B<=b->b<w.heap.size->w'.heap[b]? = w.heap[b]?):Stk w' B s o vd ls ds:=
 ⟨(d s h.le (ze h.box)).trans h.box,h.le,zu h.rc (λq e=>d q (h.rc.lt q e).1 (h.rc.lt q e).2),zu h.rd (λq e=>d q (h.rd.lt q e).1 (h.rd.lt q e).2),h.ac.same l (λc g b f=>d b ((h.ac c g).2 b f).1 ((h.ac c g).1.block_lt b f)),h.ad.same l (λp j b m e=>d b ((h.ad p j).2 b m e).1 ((h.ad p j).2 b m e).2.1),h.sc,h.sd⟩
theorem Stk.below {s:Nat}{d:Value}(h:Stk w B s d vd ls ds)(c:B_ w w'):Stk w' B s d vd ls ds:=
 h.keep c.size (λb _ f=>c.block b f)
theorem Stk.moreC {s:Nat}{l d:Value}{x:Ct}{o:Obj}(h:Stk w B s l vd ls ds)(E:B<=w.heap.size)(u:B_ w w1)(hx:za7 w1 x)(C:∀b,zfq x b->w.heap.size<=b)(G:zV (w1.alloc o) l w2 d)
  (Z:w2.ownsRow B 64 5 d (ls.length+1) (ctv ls++x.cs)):Stk (w2.setCell ⟨s,0,none⟩ d) B s d vd (ls++[x]) ds/\Below B w (w2.setCell ⟨s,0,none⟩ d)/\(∀b,b<w.heap.size->b≠s->l.ownBlock≠some b->(w2.setCell ⟨s,0,none⟩ d).heap[b]? = w.heap[b]?)/\(∀b,b<w.heap.size->d.ownBlock=some b->l.ownBlock=some b):=by
 have V:(64:TypeId)≠152:=by decide
 have X:(51:TypeId)≠152:=by decide
 have Y:(64:TypeId)≠51:=by decide
 have h1:=h.below u;have J:B_ w1 (w1.alloc o):=(bR_ _ _).alloc (nR_ _) _;have z:=zm u J;have ac:=u.size;have ad:w1.heap.size<(w1.alloc o).heap.size:=by rw[zG];omega
 have ae:=G.grown.size;have hs:s<w.heap.size:=ze h.box;have F:l.ownBlock≠some s:=zc2 h.rc h.box V;have T:d.ownBlock≠some s:=λe=>by
  rcases G.fresh s e with g|g
  .exact F g
  .omega
 have O:R_ w2 s #[l,vd] 152:=G.row (((z.block s hs)).trans h.box) F;have A:∀b,b<w.heap.size->b≠s->l.ownBlock≠some b->(w2.setCell ⟨s,0,none⟩ d).heap[b]? = w.heap[b]?:=λb j R N=>
  (hO_ w2 ⟨s,0,none⟩ b d R).trans ((G.grown.block b (by omega) (λe=>N e.symm)).trans (z.block b j))
 have aa:w.heap.size<=(w2.setCell ⟨s,0,none⟩ d).heap.size:=by simp;omega
 have M:=h.ac.more (c:=x) E h.rc u C hx G;have U:∀b,b<w.heap.size->d.ownBlock=some b->l.ownBlock=some b:=λb j e=>by
  rcases G.fresh b e with g|g
  .exact g
  .omega
 refine⟨⟨?_,h.le,?_,?_,?_,?_,?_,?_⟩,?_,A,U⟩
 .simpa using hS_ _ _ 0 _ _ d O
 .rw[zvF];exact zu (by simpa using Z) (λq e=>hO_ w2 ⟨s,0,none⟩ q d (λr=>T (by rw[e,show q=s from r])))
 .exact zu h.rd (λq e=>A q (h.rd.lt q e).2 (λr=>zc2 h.rd h.box X (by rw[e,r])) (λy=>zcu h.rc h.rd Y q y e))
 .refine M.same (by simp) (λc f b j=>hO_ w2 ⟨s,0,none⟩ b d (λr=>?_));rcases List.mem_append.1 f with f|f
  .exact(h.sc c f b j).1 r
  .obtain rfl:c=x:=by simpa using f
   have:=C b j;have h2:b=s:=r;omega
 .exact h.ad.same aa (λp m b t e=>A b ((h.ad p m).2 b t e).2.1 (h.sd p m b t e).1 (h.sd p m b t e).2)
 .intro c f b j;rcases List.mem_append.1 f with f|f
  .exact h.sc c f b j
  .obtain rfl:c=x:=by simpa using f
   have ab:=C b j;exact⟨by omega,λe=>by have:=(h.rd.lt b e).2;omega⟩
 .intro p m D t e;obtain⟨H,I⟩:=h.sd p m D t e;have hl:=((h.ad p m).2 D t e).2.1;refine⟨H,λy=>?_⟩;rcases G.fresh D y with g|g
  .exact I g
  .omega
 .have L:Below B (w1.alloc o) w2:=G.below (by omega) (λq e=>(h.rc.lt q e).1);exact(((z.mono E).trans L).setCell h.le _)
theorem Stk.moreD {s:Nat}{C l:Value}{p:zi}{o:Obj}(h:Stk w B s C vd ls ds)(O:B<=w.heap.size)(M:B_ w w1)(hp:zg w1 p.sa p.cap p.bs)(I:∀d j,p.sa=some ⟨d,j,none⟩->B<=d/\d<w1.heap.size/\d≠s/\C.ownBlock≠some d/\vd.ownBlock≠some d)(G:zV (w1.alloc o) vd w2 l)
  (ho:w2.ownsRow B 51 1 l (ds.length+1) (pv ds++[p.val])):Stk (w2.setCell ⟨s,1,none⟩ l) B s C l ls (ds++[p])/\Below B w (w2.setCell ⟨s,1,none⟩ l):=by
 have Z:(64:TypeId)≠152:=by decide
 have aa:(51:TypeId)≠152:=by decide
 have ab:(64:TypeId)≠51:=by decide
 have L:B_ w1 (w1.alloc o):=(bR_ _ _).alloc (nR_ _) _;have E:=zm M L;have ae:=M.size;have af:w1.heap.size<(w1.alloc o).heap.size:=by rw[zG];omega
 have ag:=G.grown.size;have hs:s<w.heap.size:=ze h.box;have N:vd.ownBlock≠some s:=zc2 h.rd h.box aa;have X:l.ownBlock≠some s:=λe=>by
  rcases G.fresh s e with g|g
  .exact N g
  .omega
 have U:R_ w2 s #[C,vd] 152:=G.row (((E.block s hs)).trans h.box) N;have F:∀b,b<w.heap.size->b≠s->vd.ownBlock≠some b->(w2.setCell ⟨s,1,none⟩ l).heap[b]? = w.heap[b]?:=λb m V T=>
  (hO_ w2 ⟨s,1,none⟩ b l V).trans ((G.grown.block b (by omega) (λe=>T e.symm)).trans (E.block b m))
 have ad:w.heap.size<=(w2.setCell ⟨s,1,none⟩ l).heap.size:=by simp;omega
 have H:∀d,l.ownBlock=some d->d<w1.heap.size->vd.ownBlock=some d:=λd e Y=>by
  rcases G.fresh d e with g|g
  .exact g
  .omega
 refine⟨⟨?_,h.le,?_,?_,?_,?_,?_,?_⟩,?_⟩
 .simpa using hS_ _ _ 1 _ _ l U
 .exact zu h.rc (λq e=>F q (h.rc.lt q e).2 (λf=>zc2 h.rc h.box Z (by rw[e,f])) (zcu h.rc h.rd ab q e))
 .have ac:w2.ownsRow B 51 1 l (ds++[p]).length (pv (ds++[p])):=by simpa[pv]using ho
  exact zu ac (λq e=>hO_ w2 ⟨s,1,none⟩ q l (λf=>X (by rw[e,show q=s from f])))
 .exact h.ac.same ad (λc y b m=>F b ((h.ac c y).1.block_lt b m) (h.sc c y b m).1 (h.sc c y b m).2)
 .intro q f;rcases List.mem_append.1 f with f|f
  .obtain⟨k1,J⟩:=h.ad q f;refine⟨zfU k1 (λb j _ e=>F b (J b j e).2.1 (h.sd q f b j e).1 (J b j e).2.2),λd j e=>?_⟩;obtain⟨r,t,u⟩:=J d j e;exact⟨r,by omega,λz=>u (H d z (by omega))⟩
  .obtain rfl:q=p:=by simpa using f
   refine⟨zfU hp (λb j _ e=>?_),λd j e=>?_⟩
   .obtain⟨r,t,u,D,A⟩:=I b j e;rw[hO_ w2 ⟨s,1,none⟩ b l u,G.grown.block b (by omega) (λe=>A e.symm),L.block b t]
   .obtain⟨r,t,u,D,A⟩:=I d j e;exact⟨r,by simp;omega,λz=>A (H d z t)⟩
 .intro c y b m;obtain⟨r,t⟩:=h.sc c y b m;have Y:=(h.ac c y).1.block_lt b m;exact⟨r,λz=>t (H b z (by omega))⟩
 .intro q f d j e;rcases List.mem_append.1 f with f|f
  .exact h.sd q f d j e
  .obtain rfl:q=p:=by simpa using f
   obtain⟨r,t,u,D,A⟩:=I d j e;exact⟨u,D⟩
 .have R:Below B (w1.alloc o) w2:=G.below (by omega) (λq e=>(h.rd.lt q e).1);exact(((E.mono O).trans R).setCell h.le _)
structure zg6 (w:World)(ca:Option Addr)(cc:Nat)(ls:List Ct)(da:Option Addr)(dc:Nat)(ds:List zi):Prop where
 certs:zba w ca ls
 each:∀c∈ls,za7 w c
 digs:zx w da dc ds
 same:bss ds=(zI ls).map CV.d
 small:ls.length<=400
 cle:ls.length<=cc
 cmax:cc<=9223372036854775807
theorem zg6.below {d:Option Addr}{f:Nat}{g:Option Addr}{j:Nat}(h:zg6 w d f ls g j ds)(b:B_ w w'):zg6 w' d f ls g j ds:=
 ⟨h.certs.below b,λc l=>(h.each c l).below b,h.digs.below b,h.same,h.small,h.cle,h.cmax⟩
theorem zg6.len {b:Option Addr}{c:Nat}{d:Option Addr}{f:Nat}(h:zg6 w b c ls d f ds):ds.length=ls.length:=by
 rw[zhZ h.same,zbv]
structure zee (w:World)(s:Nat)(ls:List Ct)(ca:Option Addr)(cc:Nat)(da:Option Addr)(dc:Nat)(ds:List zi):Prop where
 box:R_ w s #[.slice ca ls.length cc,.slice da ls.length dc] 152
 at':zg6 w ca cc ls da dc ds
theorem zee.below {s:Nat}{b:Option Addr}{c:Nat}{d:Option Addr}{f:Nat}(h:zee w s ls b c d f ds)(g:B_ w w'):zee w' s ls b c d f ds:=
 ⟨(g.block s (ze h.box)).trans h.box,h.at'.below g⟩
theorem Stk.at {s:Nat}{p:Value}(h:Stk w B s p vd ls ds)(m:bss ds=(zI ls).map CV.d)(t:ls.length<=400):∃b c d f,p=.slice b ls.length c/\vd=.slice d ls.length f/\zee w s ls b c d f ds:=by
 have r:ds.length=ls.length:=by rw[zhZ m,zbv]
 obtain⟨b,c,l,_,q,_⟩:=zp8 h.rc h.ac;obtain⟨d,f,j,_,o,_⟩:=zcI h.rd h.ad;have g:=q (by omega);rw[r]at j o;refine⟨b,c,d,f,l,j,⟨by rw[<-l,<-j];exact h.box,⟨g.certs,g.each,o (by omega),m,t,g.le,g.max⟩⟩⟩
variable {U U' U1:Nat->Bool}{sa ra va:Option Addr}{ss:List ByteArray}{qs bl pl cbl cpl:List zi}{cap rc:Nat}{bs vl:List Int}{v':Value}
structure Sub (W w:World):Prop where
 size:W.heap.size<=w.heap.size
 cell:∀a v,W.cell? a=some v->w.cell? a=some v
theorem Sub.refl (w:World):Sub w w:=⟨nR_ _,λ_ _ h=>h⟩
theorem Sub.trans {a b c:World}(h:Sub a b)(k:Sub b c):Sub a c:=⟨nT_ h.size k.size,λx v e=>k.cell x v (h.cell x v e)⟩
theorem Sub.below (h:B_ w w'):Sub w w':=⟨h.size,λa _ e=>(h.cell (World.block_lt_of_cell? w a e)).trans e⟩
theorem za5.sub (h:za5 w sa bs)(k:Sub w w'):za5 w' sa bs:=by
 rcases h with h|⟨c,d,e,h⟩
 .exact .inl h
 .exact .inr ⟨c,d,e,λj b=>k.cell _ _ (h j b)⟩
theorem zg.sub (h:zg w sa cap bs)(k:Sub w w'):zg w' sa cap bs:=⟨h.le,h.max,h.some,h.nil,h.bytes.sub k⟩
theorem zbT.sub {b:List zi}(h:zbT w sa b)(k:Sub w w'):zbT w' sa b:=by
 refine⟨?_,λp d=>(h.each p d).sub k⟩;rcases h.cells with h|⟨f,g,e,h⟩
 .exact .inl h
 .exact .inr ⟨f,g,e,λj c=>k.cell _ _ (h j c)⟩
theorem zx.sub {b:List zi}(h:zx w sa cap b)(k:Sub w w'):zx w' sa cap b:=⟨h.le,h.max,h.small,h.some,h.parts.sub k⟩
theorem HAt.sub {d:Option Addr}{f:Nat}{g:Option Addr}{j:Nat}(h:HAt w d f bl g j pl)(k:Sub w w'):HAt w' d f bl g j pl:=
 ⟨h.lb.sub k,h.lp.sub k,λb c e=>nL_ (h.rb b c e) k.size,λb c e=>nL_ (h.rp b c e) k.size⟩
theorem zax.sub (h:zax w va vl)(k:Sub w w'):zax w' va vl:=by
 refine⟨?_⟩;rcases h.cells with h|⟨c,d,e,h⟩
 .exact .inl h
 .exact .inr ⟨c,d,e,λj b=>k.cell _ _ (h j b)⟩
theorem za7.sub {c:Ct}(h:za7 w c)(k:Sub w w'):za7 w' c:=⟨h.hat.sub k,h.ints.sub k,h.vle⟩
theorem zas.sub (h:zas w sa ss)(k:Sub w w'):zas w' sa ss:=by
 refine⟨?_,h.size⟩;rcases h.cells with h|⟨c,d,e,h⟩
 .exact .inl h
 .exact .inr ⟨c,d,e,λj b=>k.cell _ _ (h j b)⟩
theorem zbu.sub (h:zbu w sa cap ss)(k:Sub w w'):zbu w' sa cap ss:=⟨h.le,h.max,h.nil,h.strs.sub k⟩
theorem zcN.sub {b:Bc}(h:zcN w b)(k:Sub w w'):zcN w' b:=⟨h.strs.sub k,h.le,h.max,h.nil,λc d e=>nL_ (h.lt c d e) k.size⟩
theorem zeX.sub {m:Msg}(h:zeX w m ss bl pl cbl cpl vl)(k:Sub w w'):zeX w' m ss bl pl cbl cpl vl:=⟨h.e1,h.e2,h.e3,h.e4,h.e5,h.e6,h.s1,h.s6,h.s7,h.txs.sub k,h.bat.sub k,h.par.sub k,h.cbat.sub k,h.cpar.sub k,h.vot.sub k⟩
theorem MAt.sub {x:MV}(h:MAt w x)(k:Sub w w'):MAt w' x:=⟨h.at'.sub k,h.dig.sub k,h.dn⟩
theorem zcz.sub {d:List Sg}(h:zcz w sa d)(k:Sub w w'):zcz w' sa d:=by
 refine⟨?_,λs c=>⟨(h.each s c).1.sub k,(h.each s c).2⟩⟩;rcases h.cells with h|⟨f,g,e,h⟩
 .exact .inl h
 .exact .inr ⟨f,g,e,λj b=>⟨k.cell _ _ (h j b).1,k.cell _ _ (h j b).2.1,k.cell _ _ (h j b).2.2.1,k.cell _ _ (h j b).2.2.2⟩⟩
theorem ze9.sub {b:List Sg}(h:ze9 w sa cap b)(k:Sub w w'):ze9 w' sa cap b:=⟨h.le,h.max,h.small,h.some,h.slots.sub k⟩
theorem zbJ.sub (h:zbJ w)(k:Sub w w'):zbJ w':=⟨λi b=>k.cell _ _ (h.words i b),λi b=>k.cell _ _ (h.orders i b),λi b=>k.cell _ _ (h.lanes i b)⟩
def zq (U:Nat->Bool)(w:World):World:=⟨w.heap.mapIdx λi o=>if U i then .cells #[] 0 (0,0)else o,λ_ _=>0,0,default,#[]⟩
theorem zch (U:Nat->Bool)(w:World):(zq U w).heap.size=w.heap.size:=by simp[zq]
theorem zdr {b:Nat}(h:U b=false):(zq U w).heap[b]? = w.heap[b]?:=by
 simp[zq,Array.getElem?_mapIdx,h]
theorem zvG {b:Nat}(h:U b=true)(c:b<w.heap.size):(zq U w).heap[b]? = some (.cells #[] 0 (0,0)):=by
 simp[zq,h,c]
theorem zhJ {a:Addr}{v:Value}(h:(zq U w).cell? a=some v):U a.block=false/\w.cell? a=some v:=by
 cases hu:U a.block with
 | false=>exact⟨rfl,by rw[<-h];exact(cB_ (zdr hu)).symm⟩
 | true=>
  have b:=World.block_lt_of_cell? _ _ h;rw[zch]at b;rw[World.cell?,zvG hu b]at h
  simp at h
theorem zK (U:Nat->Bool)(w:World):Sub (zq U w) w:=⟨by rw[zch];exact nR_ _,λ_ _ h=>(zhJ h).2⟩
theorem zb3 {b:Nat}(h:U b=true)(j:Nat)(v:Value):zq U (w.setCell ⟨b,j,none⟩ v)=zq U w:=by
 unfold zq
 congr 1
 apply Array.ext
 .simp[World.setCell]
 .intro i f g;simp only[Array.getElem_mapIdx];by_cases hi:i=b
  .subst hi;simp[h]
  .have:(w.setCell ⟨b,j,none⟩ v).heap[i]? = w.heap[i]?:=hO_ w ⟨b,j,none⟩ i v hi;have c:i<(w.setCell ⟨b,j,none⟩ v).heap.size:=by simpa using f
   have d:i<w.heap.size:=by simpa using g
   rw[Array.getElem?_eq_getElem c,Array.getElem?_eq_getElem d]at this;rw[Option.some.inj this]
structure zao (U U':Nat->Bool)(w w':World):Prop where
 os:w'.os=w.os
 tape:w'.tape=w.tape
 output:w'.output=w.output
 size:w.heap.size<=w'.heap.size
 block:∀b,b<w.heap.size->U b=false->w'.heap[b]? = w.heap[b]?
 us:∀b,b<w.heap.size->U' b=U b
theorem zao.refl (U:Nat->Bool)(w:World):zao U U w w:=⟨rfl,rfl,rfl,nR_ _,λ_ _ _=>rfl,λ_ _=>rfl⟩
theorem zao.trans {d:Nat->Bool}(h:zao U U1 w w1)(k:zao U1 d w1 w2):zao U d w w2:=
 ⟨k.os.trans h.os,k.tape.trans h.tape,k.output.trans h.output,nT_ h.size k.size,
  λb c f=>(k.block b (nL_ c h.size) (by rw[h.us b c];exact f)).trans (h.block b c f),
  λb c=>(k.us b (nL_ c h.size)).trans (h.us b c)⟩
theorem zao.below (U:Nat->Bool)(h:B_ w w'):zao U U w w':=⟨h.os,h.tape,h.output,h.size,λb c _=>h.block b c,λ_ _=>rfl⟩
theorem zao.sub (h:zao U U' w w'):Sub (zq U w) (zq U' w'):=by
 refine⟨by rw[zch,zch];exact h.size,λa v e=>?_⟩;obtain⟨d,b⟩:=zhJ e;have c:=World.block_lt_of_cell? _ _ b;rw[cB_ (zdr (by rw[h.us _ c];exact d)),cB_ (h.block _ c d)];exact b
theorem zao.set (h:zao U U' w w'){b:Nat}(f:U' b=true)(j:Nat)(v:Value):zao U U' w (w'.setCell ⟨b,j,none⟩ v):=
 ⟨h.os,h.tape,h.output,by simpa using h.size,λk d c=>(hO_ w' ⟨b,j,none⟩ k v (λe=>by rw[e]at d c;rw[<-h.us b d,f]at c;cases c)).trans (h.block k d c),h.us⟩
def zaF (U:Nat->Bool)(q:Option Nat)(b:Nat):Bool:=U b||decide (q=some b)
theorem zaB {q:Option Nat}{b:Nat}(h:U b=true):zaF U q b=true:=by simp[zaF,h]
theorem zeM {q:Option Nat}{b:Nat}(h:q=some b):zaF U q b=true:=by simp[zaF,h]
theorem zbw {q:Option Nat}{b:Nat}(h:U b=false)(c:q≠some b):zaF U q b=false:=by simp[zaF,h,c]
theorem zao.grew {v:Value}(h:zao U U' w w')(G:zV w' v w2 v')(f:∀q,v.ownBlock=some q->U' q=true):zao U (zaF U' v'.ownBlock) w w2:=
 h.trans ⟨G.grown.os,G.grown.tape,G.grown.output,G.grown.size,λb d c=>G.grown.block b d (λe=>by have:=f b e.symm;rw[this]at c;cases c),λb d=>by
  cases c:U' b with
  | true=>exact zaB c
  | false=>
   refine zbw c (λe=>?_)
   rcases G.fresh b e with h1|h1
   .rw[f b h1]at c;cases c
   .omega⟩
theorem zci (h:zg w sa cap bs)(d:∀b f,sa=some ⟨b,f,none⟩->bs≠[]->U b=false):zg (zq U w) sa cap bs:=
 zcp (G:=λk=>U k=false) (λ_ c=>zdr c) h d
theorem zvH (h:zx w ra rc qs)(c:zgE (λk=>U k=false) ra qs):zx (zq U w) ra rc qs:=
 zfH (G:=λk=>U k=false) (λ_ b=>zdr b) h c
theorem MAt.hid {x:MV}(h:MAt w x)(c:zbU (λk=>U k=false) x):MAt (zq U w) x:=
 h.stays (G:=λk=>U k=false) (λ_ b=>zdr b) c
theorem za7.hid {c:Ct}(h:za7 w c)(f:∀b,zfq c b->U b=false):za7 (zq U w) c:=
 h.keep (by rw[zch];exact nR_ _) (λb d=>zdr (f b d))
theorem zas.hid (h:zas w sa ss)(f:∀b c,sa=some ⟨b,c,none⟩->ss≠[]->U b=false):zas (zq U w) sa ss:=by
 refine⟨?_,h.size⟩;rcases h.cells with h|⟨b,c,e,h⟩
 .exact .inl h
 .by_cases hn:ss=[]
  .exact .inl hn
  .exact .inr ⟨b,c,e,λj d=>(cB_ (zdr (f b c e hn))).trans (h j d)⟩
theorem zcN.hid {b:Bc}(h:zcN w b)(f:∀c d,b.ta=some ⟨c,d,none⟩->U c=false):zcN (zq U w) b:=
 ⟨h.strs.hid (λc d e _=>f c d e),h.le,h.max,h.nil,λc d e=>by rw[zch];exact h.lt c d e⟩
def Bnd (U:Nat->Bool)(w:World):Prop:=∀b,U b=true->b<w.heap.size
theorem Bnd.new (h:Bnd U w){b:Nat}(c:w.heap.size<=b):U b=false:=by
 cases hu:U b with
 | false=>rfl
 | true=>have:=h b hu;omega
theorem Bnd.mono (h:Bnd U w)(d:w.heap.size<=w'.heap.size):Bnd U w':=λb c=>nL_ (h b c) d
theorem Bnd.grew (h:Bnd U w){e:TypeId}{s n base:Nat}{v:Value}{g:List Value}(f:w.heap.size<=w'.heap.size)(d:w'.ownsRow base e s v n g):Bnd (zaF U v.ownBlock) w':=λb c=>by
 cases hu:U b with
 | true=>exact nL_ (h b hu) f
 | false=>
  rw[zaF,hu,Bool.false_or]at c
  exact(d.lt b (of_decide_eq_true c)).2
variable {F o:Nat}{fc fc':Array Value}{T:TypeId}
structure MSh (w:World)(x:MV):Prop where
 b:zcN w ⟨⟨x.m.bau,x.m.bnu,x.ss⟩,x.m.bta,x.m.btc⟩
 h:HAt w x.m.hba x.m.hbc x.bl x.m.hpa x.m.hpc x.pl
 c:HAt w x.m.cba x.m.cbc x.cbl x.m.cpa x.m.cpc x.cpl
theorem MSh.sub {x:MV}(h:MSh w x)(k:Sub w w'):MSh w' x:=⟨h.b.sub k,h.h.sub k,h.c.sub k⟩
structure GM (w:World)(x:MV):Prop where
 lies:MAt w x
 ok:zP x.m x.car=0
 u8:U8M x.bl x.pl x.cbl x.cpl x.ds
 shp:MSh w x
theorem GM.sub {x:MV}(h:GM w x)(k:Sub w w'):GM w' x:=⟨h.lies.sub k,h.ok,h.u8,h.shp.sub k⟩
structure Sh where
 b:Bc
 d:zi
def Sh.cs (s:Sh):List Value:=[I_ s.b.v.au,I_ s.b.v.nu,.slice s.b.ta s.b.v.ss.length s.b.tc,.slice s.d.sa s.d.bs.length s.d.cap]
def shv:List Sh->List Value
 | []=>[]
 | s::r=>s.cs++shv r
theorem zi0 (b:List Sh)(s:Sh):shv (b++[s])=shv b++s.cs:=by
 induction b with
 | nil=>simp[shv]
 | cons x r ih=>simp[shv,ih]
theorem zxa (b:List Sh)(j i:Nat)(h:j<b.length)(c:i<4):(shv b)[j*4+i]? = (b[j]).cs[i]?:=by
 induction b generalizing j with
 | nil=>cases h
 | cons x r ih=>
  cases j with
  | zero=>simp only[shv,Nat.zero_mul,Nat.zero_add,List.getElem_cons_zero];rw[List.getElem?_append_left (by simp[Sh.cs];exact c)]
  | succ j=>
   have h':j<r.length:=by simpa using h
   simp only[shv,List.getElem_cons_succ];rw[List.getElem?_append_right (by simp[Sh.cs];omega),<-ih j h']
   congr 1
   simp[Sh.cs];omega
def shw (l:List Sh):List BW:=l.map (·.b.v)
structure zd3 (w:World)(s:Sh):Prop where
 b:zcN w s.b
 d:zg w s.d.sa s.d.cap s.d.bs
 e:s.d.bs=s.b.v.d
theorem zd3.hid {s:Sh}(h:zd3 w s)(d:∀b c,s.b.ta=some ⟨b,c,none⟩->U b=false)(f:∀b c,s.d.sa=some ⟨b,c,none⟩->U b=false):zd3 (zq U w) s:=⟨h.b.hid d,zci h.d (λb c e _=>f b c e),h.e⟩
theorem zd3.sub {x:Sh}(h:zd3 w x)(k:Sub w w'):zd3 w' x:=⟨h.b.sub k,h.d.sub k,h.e⟩
structure zoJ (w:World)(U:Nat->Bool)(s:Nat)(vc vd:Value)(ls:List Ct)(ds:List zi):Prop where
 box:R_ w s #[vc,vd] 152
 rc:w.ownsRow 0 64 5 vc ls.length (ctv ls)
 rd:w.ownsRow 0 51 1 vd ds.length (pv ds)
 ec:∀c∈ls,za7 (zq U w) c
 ed:∀p∈ds,zg (zq U w) p.sa p.cap p.bs
 same:bss ds=(zI ls).map CV.d
 ic:∀c∈ls,∀b,zfq c b->U b=false
structure NM where
 (nu:Int) (up:Bool) (nx:Int) (pa:Option Addr) (pc:Nat) (txs:List ByteArray)
 (sa:Option Addr) (sc:Nat) (sh:List Sh)
 (ta:Option Addr) (tc:Nat) (tab:List Sl)
 (s:Nat) (vc vd:Value) (ls:List Ct) (ds:List zi)
 (own:Ct) (slot:Sl)
 (oa:Option Addr) (oc:Nat) (vot:List Int)
 (ba:Option Addr) (bc:Nat) (ms:List MV) (syn:Nat)
 (wa:Option Addr) (wc:Nat) (wai:List MV)
 (trn:Int)
def NM.v (x:NM):Nd:=⟨x.nu,x.up,x.nx,x.txs,⟨shw x.sh,vs x.tab,zI x.ls,x.own.v,x.slot.v⟩,x.vot,x.ms.map MV.c,x.syn,x.wai.map MV.c,x.trn⟩
def NM.cs (x:NM):List Value:=[I_ x.nu,.bool x.up,I_ x.nx,.slice x.pa x.txs.length x.pc,.slice x.sa x.sh.length x.sc,.slice x.ta x.tab.length x.tc,(P_ x.s 0),I_ x.own.au,I_ x.own.rd,.slice x.own.ba x.own.bl.length x.own.bc,.slice x.own.pa x.own.pl.length x.own.pc,I_ x.slot.au,I_ x.slot.rd,.slice x.slot.p.sa x.slot.p.bs.length x.slot.p.cap,.slice x.oa x.vot.length x.oc,.slice x.ba (zam x.ms).length x.bc,I_ x.syn,.slice x.wa x.wai.length x.wc,I_ x.trn]
def zio (fc:Array Value)(o:Nat)(x:NM):Prop:=∀j,j<19->fc[o+j]? = x.cs[j]?
theorem zio.set {x c:NM}(h:zio fc o x)(l:o+19<=fc.size)(k:Nat)(g:k<19)(v:Value)(f:c.cs=x.cs.set k v):zio (fc.setIfInBounds (o+k) v) o c:=by
 intro j b;rw[f,sI_];by_cases e:j=k
 .subst e;have d:x.cs.length=19:=rfl;simp[show o+j<fc.size by omega,d,b]
 .rw[if_neg (by omega),List.getElem?_set_ne (by omega)];exact h j b
def ob (a:Option Addr):Option Nat:=a.map (·.block)
theorem zdb (a:Option Addr)(n c:Nat):(Value.slice a n c).ownBlock=ob a:=by cases a<;>rfl
def NM.S (x:NM)(b:Nat):Prop:=b=x.s\/x.vc.ownBlock=some b\/x.vd.ownBlock=some b\/ob x.sa=some b\/ob x.ta=some b\/ob x.oa=some b\/ob x.wa=some b
structure za3 (n:Nd):Prop where
 nu:0<=n.nu/\n.nu<4
 pool:zaO n.nx n.txs=0
 sh:n.k.sh.length<=800
 shf:∀b∈n.k.sh,b.f=0
 dag:zbV n.k.dag=0
 own:n.k.own.rd=0\/n.k.own.hf=0
 ovl:n.k.own.vl=[]
 vot:n.vot.length<=4/\(∀v∈n.vot,0<=v/\v<4)/\n.vot.Nodup
 tape:(zae n.recs).length<=400000
 syn:n.syn<=(zae n.recs).length
 wai:n.wai.length<=400
 trn:0<=n.trn/\n.trn<4
 tab:n.k.tab.length<=400000
 u8t:∀s∈n.k.tab,zaN s.2.2
 u8s:zaN n.k.slot.2.2
 ou8:∀b∈n.k.own.bl++n.k.own.pl,∀x∈b,0<=x/\x<=255
 du8:∀c∈n.k.dag,∀b∈c.bl++c.pl,∀x∈b,0<=x/\x<=255
structure zo (w:World)(U:Nat->Bool)(F o:Nat)(T:TypeId)(fc:Array Value)(x:NM):Prop where
 blk:R_ w F fc T
 siz:o+19<=fc.size
 cel:zio fc o x
 fu:U F=true
 su:∀b,x.S b->U b=true/\b≠F
 bnd:Bnd U w
 tabs:zbJ (zq U w)
 etx:zbu (zq U w) x.pa x.pc x.txs
 rsh:w.ownsRow 0 161 4 (.slice x.sa x.sh.length x.sc) x.sh.length (shv x.sh)
 esh:∀s∈x.sh,zd3 (zq U w) s
 rtb:w.ownsRow 0 53 3 (.slice x.ta x.tab.length x.tc) x.tab.length (slv x.tab)
 etb:∀s∈x.tab,zg (zq U w) s.p.sa s.p.cap s.p.bs
 stk:zoJ w U x.s x.vc x.vd x.ls x.ds
 hdr:za7 (zq U w) x.own
 slt:zg (zq U w) x.slot.p.sa x.slot.p.cap x.slot.p.bs
 rvo:w.ownsRow 0 3 1 (.slice x.oa x.vot.length x.oc) x.vot.length (iv x.vot)
 tap:zg (zq U w) x.ba x.bc (zam x.ms)
 ems:∀m∈x.ms,(∃W,MAt W m)/\zaT m/\U8M m.bl m.pl m.cbl m.cpl m.ds
 rwa:w.ownsRow 0 66 19 (.slice x.wa x.wai.length x.wc) x.wai.length (zY x.wai)
 ewa:∀m∈x.wai,GM (zq U w) m
 inv:za3 x.v
structure NTo (U U':Nat->Bool)(w w':World)(F o:Nat)(fc fc':Array Value)(x x':NM):Prop where
 os:w'.os=w.os
 tape:w'.tape=w.tape
 output:w'.output=w.output
 size:w.heap.size<=w'.heap.size
 block:∀b,b<w.heap.size->¬x.S b->b≠F->w'.heap[b]? = w.heap[b]?
 us:∀b,b<w.heap.size->U' b=U b
 new:∀b,x'.S b->x.S b\/w.heap.size<=b
 fsz:fc'.size=fc.size
 far:∀j,j<o\/o+19<=j->fc'[j]? = fc[j]?
theorem NTo.refl (U:Nat->Bool)(w:World)(F o:Nat)(b:Array Value)(x:NM):NTo U U w w F o b b x x:=
 ⟨rfl,rfl,rfl,nR_ _,λ_ _ _ _=>rfl,λ_ _=>rfl,λ_ h=>.inl h,rfl,λ_ _=>rfl⟩
theorem NTo.trans {d:Nat->Bool}{f l:Array Value}{x r s:NM}(h:NTo U U1 w w1 F o fc f x r)(k:NTo U1 d w1 w2 F o f l r s):NTo U d w w2 F o fc l x s:=
 ⟨k.os.trans h.os,k.tape.trans h.tape,k.output.trans h.output,nT_ h.size k.size,
  λb c q m=>(k.block b (nL_ c h.size) (λe=>by
   rcases h.new b e with g|g
   .exact q g
   .omega) m).trans (h.block b c q m),
  λb c=>(k.us b (nL_ c h.size)).trans (h.us b c),
  λb e=>by
   rcases k.new b e with g|g
   .exact h.new b g
   .exact .inr (nT_ h.size g),
  k.fsz.trans h.fsz,λj p=>(k.far j p).trans (h.far j p)⟩
theorem NTo.goes {x g:NM}(h:NTo U U' w w' F o fc fc' x g)(d:zo w U F o T fc x):zao U U' w w':=
 ⟨h.os,h.tape,h.output,h.size,λb f c=>h.block b f (λe=>by have:=(d.su b e).1;rw[c]at this;cases this) (λe=>by rw[e,d.fu]at c;cases c),h.us⟩
theorem NTo.below (U:Nat->Bool)(c:Array Value)(x:NM)(h:B_ w w'):NTo U U w w' F o c c x x:=
 ⟨h.os,h.tape,h.output,h.size,λb d _ _=>h.block b d,λ_ _=>rfl,λ_ h=>.inl h,rfl,λ_ _=>rfl⟩
theorem zoJ.keep {s:Nat}{g:Value}(h:zoJ w U s g vd ls ds)(l:Sub (zq U w) (zq U' w'))(o:∀b,b<w.heap.size->U' b=U b)(f:∀b,b=s\/g.ownBlock=some b\/vd.ownBlock=some b->w'.heap[b]? = w.heap[b]?):zoJ w' U' s g vd ls ds:=
 ⟨(f s (.inl rfl)).trans h.box,zu h.rc (λq e=>f q (.inr (.inl e))),zu h.rd (λq e=>f q (.inr (.inr e))),λc d=>(h.ec c d).sub l,λp m=>(h.ed p m).sub l,h.same,λc d b j=>by rw[o b (by have:=(h.ec c d).block_lt b j;rwa [zch]at this)];exact h.ic c d b j⟩
theorem zo.below {x:NM}(h:zo w U F o T fc x)(d:B_ w w'):zo w' U F o T fc x:=by
 have c:Sub (zq U w) (zq U w'):=(zao.below U d).sub;have f:∀b,x.S b->w'.heap[b]? = w.heap[b]?:=λb e=>d.block b (h.bnd b (h.su b e).1);exact⟨(d.block _ (ze h.blk)).trans h.blk,h.siz,h.cel,h.fu,h.su,h.bnd.mono d.size,h.tabs.sub c,h.etx.sub c,
  zw h.rsh d,λs m=>(h.esh s m).sub c,zw h.rtb d,λs m=>(h.etb s m).sub c,h.stk.keep c (λ_ _=>rfl) (λb e=>f b (by rcases e with e|e|e;exact .inl e;exact .inr (.inl e);exact .inr (.inr (.inl e)))),
  h.hdr.sub c,h.slt.sub c,zw h.rvo d,h.tap.sub c,h.ems,zw h.rwa d,λm e=>(h.ewa m e).sub c,h.inv⟩
def zal (w:World)(U:Nat->Bool)(F o:Nat)(T:TypeId)(fc:Array Value)(x:NM)(w':World)(n':Nd):Prop:=
 ∃U' fc' x',zo w' U' F o T fc' x'/\NTo U U' w w' F o fc fc' x x'/\x'.v=n'
theorem zal.quiet {x:NM}(h:zo w U F o T fc x)(b:B_ w w'):zal w U F o T fc x w' x.v:=⟨U,fc,x,h.below b,NTo.below U fc x b,rfl⟩
theorem zal.after {b:Array Value}{x c:NM}{n:Nd}(k:NTo U U1 w w1 F o fc b x c)(h:zal w1 U1 F o T b c w' n):zal w U F o T fc x w' n:=by
 obtain⟨d,f,m,g,j,l⟩:=h;exact⟨d,f,m,g,k.trans j,l⟩
theorem NTo.box {x j:NM}(h:NTo U U' w w' F o fc fc' x j)(f:zo w U F o T fc x){b:Nat}{d:Obj}(c:w.heap[b]? = some d)(g:U b=false):w'.heap[b]? = some d:=
 ((h.goes f).block b (ze c) g).trans c
theorem NTo.hides {x f:NM}(h:NTo U U' w w' F o fc fc' x f){b:Nat}(c:b<w.heap.size)(d:U b=false):U' b=false:=(h.us b c).trans d
theorem NTo.sub {x c:NM}(h:NTo U U' w w' F o fc fc' x c)(b:zo w U F o T fc x):Sub (zq U w) (zq U' w'):=(h.goes b).sub
theorem zo.later {x:NM}(_:zo w U F o T fc x)(b:B_ w w'):Sub (zq U w) (zq U w'):=(zao.below U b).sub
theorem zo.cell {x:NM}(h:zo w U F o T fc x)(j:Nat)(v:Value)(b:x.cs[j]? = some v):w.cell? ⟨F,o+j,none⟩=some v:=
 zb h.blk (o+j) v ((h.cel j (by
  rcases Nat.lt_or_ge j 19 with g|g
  .exact g
  .rw[List.getElem?_eq_none (by show 19<=j;exact g)]at b;cases b)).trans b)
theorem zo.free {x:NM}(h:zo w U F o T fc x)(j:Nat):w.frozen? ⟨F,j,none⟩=false:=zd h.blk j
theorem za3.wai_ {n:Nd}(h:za3 n){l:List MC}(b:l.length<=400):za3 { n with wai:=l }:=⟨h.nu,h.pool,h.sh,h.shf,h.dag,h.own,h.ovl,h.vot,h.tape,h.syn,b,h.trn,h.tab,h.u8t,h.u8s,h.ou8,h.du8⟩
theorem za3.up_ {n:Nd}(h:za3 n)(b:Bool):za3 { n with up:=b }:=⟨h.nu,h.pool,h.sh,h.shf,h.dag,h.own,h.ovl,h.vot,h.tape,h.syn,h.wai,h.trn,h.tab,h.u8t,h.u8s,h.ou8,h.du8⟩
theorem za3.trn_ {n:Nd}(h:za3 n){t:Int}(b:0<=t/\t<4):za3 { n with trn:=t }:=⟨h.nu,h.pool,h.sh,h.shf,h.dag,h.own,h.ovl,h.vot,h.tape,h.syn,h.wai,b,h.tab,h.u8t,h.u8s,h.ou8,h.du8⟩
theorem za3.pool_ {n:Nd}(h:za3 n){nx:Int}{l:List ByteArray}(b:zaO nx l=0):za3 { n with nx:=nx,txs:=l }:=⟨h.nu,b,h.sh,h.shf,h.dag,h.own,h.ovl,h.vot,h.tape,h.syn,h.wai,h.trn,h.tab,h.u8t,h.u8s,h.ou8,h.du8⟩
theorem za3.vot_ {n:Nd}(h:za3 n){l:List Int}(b:l.length<=4/\(∀v∈l,0<=v/\v<4)/\l.Nodup):za3 { n with vot:=l }:=⟨h.nu,h.pool,h.sh,h.shf,h.dag,h.own,h.ovl,b,h.tape,h.syn,h.wai,h.trn,h.tab,h.u8t,h.u8s,h.ou8,h.du8⟩
theorem za3.tape_ {n:Nd}(h:za3 n){l:List MC}{s:Nat}(c:(zae l).length<=400000)(b:s<=(zae l).length):za3 { n with recs:=l,syn:=s }:=⟨h.nu,h.pool,h.sh,h.shf,h.dag,h.own,h.ovl,h.vot,c,b,h.wai,h.trn,h.tab,h.u8t,h.u8s,h.ou8,h.du8⟩
theorem zo.grew_sub {x:NM}(h:zo w U F o T fc x){a a':Option Addr}{n c d c':Nat}(G:zV w (.slice a n c) w2 (.slice a' d c'))(b:∀q,ob a=some q->x.S q):Sub (zq U w) (zq (zaF U (ob a')) w2):=by
 have:=((zao.refl U w).grew G (λq e=>(h.su q (b q (by rw[<-zdb a n c];exact e))).1)).sub
 rwa [zdb]at this
variable {x:NM}{k c' j:Nat}{a':Option Addr}{w0:World}
theorem zbb (h:R_ w F fc T)(v:Value):(w.setCell ⟨F,j,none⟩ v).heap[F]? = some (.cells (fc.setIfInBounds j v) T (0,0)):=
 ((Upd.refl h).setCell j v).here
theorem zar {b c:Nat}{v u:Value}(h:w.cell? ⟨b,j,none⟩=some u)(d:b≠c):(w.setCell ⟨c,k,none⟩ v).cell? ⟨b,j,none⟩=some u:=(cB_ (hO_ w ⟨c,k,none⟩ b v d)).trans h
theorem zip (b:Array Value)(o k:Nat)(v:Value)(d:k<19)(j:Nat)(c:j<o\/o+19<=j):(b.setIfInBounds (o+k) v)[j]? = b[j]?:=by
 rw[sI_,if_neg (by omega)]
theorem zp {a:Option Addr}{c:Nat}(h:(Value.slice a n c).ownBlock=some q):ob a=some q:=by rw[<-zdb a n c];exact h
theorem zaK {a:Option Addr}(n c:Nat)(h:ob a=some q):(Value.slice a n c).ownBlock=some q:=by rw[zdb];exact h
theorem zg7 {f g p:Nat}{b c:TypeId}{r:Nat}{d:Value}{s:List Value}(j:w.ownsRow f b s1 v1 n1 xs1)(l:w.ownsRow g c r d p s)(m:b≠c)(q:Nat)(o:v1.ownBlock=some q):some q≠d.ownBlock:=λe=>zcu j l m q o e.symm
theorem zx8 {c:Nat}{b t:TypeId}{cs:Array Value}(d:w.ownsRow c b s1 v1 n1 xs1)(f:w.heap[q]? = some (.cells cs t (0,0)))(g:b≠t):some q≠v1.ownBlock:=λe=>zc2 d f g e.symm
def stF (F o:Nat):World->List (Nat×Value)->World
 | w,[]=>w
 | w,p::t=>stF F o (w.setCell ⟨F,o+p.1,none⟩ p.2) t
def stA (o:Nat):Array Value->List (Nat×Value)->Array Value
 | a,[]=>a
 | a,p::t=>stA o (a.setIfInBounds (o+p.1) p.2) t
def stL:List Value->List (Nat×Value)->List Value
 | l,[]=>l
 | l,p::t=>stL (l.set p.1 p.2) t
def zk9 (st:List (Nat×Value)):Bool:=st.all λp=>decide (p.1<19)
theorem zxb (s:U' F=true):∀(f:List (Nat×Value)) (w:World) (d:Array Value) (l:List Value),zk9 f=true->zao U U' w0 w->R_ w F d T->o+19<=d.size->(∀j,j<19->d[o+j]? = l[j]?) ->
  zao U U' w0 (stF F o w f)/\(stF F o w f).heap[F]? = some (.cells (stA o d f) T (0,0))/\(stA o d f).size=d.size/\(∀j,j<19->(stA o d f)[o+j]? = (stL l f)[j]?)/\(∀j,j<o\/o+19<=j->(stA o d f)[j]? = d[j]?)/\(∀b,b≠F->(stF F o w f).heap[b]? = w.heap[b]?)/\zq U' (stF F o w f)=zq U' w/\(stF F o w f).heap.size=w.heap.size:=by
 intro f
 induction f with
 | nil=>exact λw d l _ g h _ c=>⟨g,h,rfl,c,λ_ _=>rfl,λ_ _=>rfl,rfl,rfl⟩
 | cons p t ih=>
  intro w d l q g h G c;have r:p.1<19/\zk9 t=true:=by
   unfold zk9 at q|-;rw[List.all_cons,Bool.and_eq_true,decide_eq_true_iff]at q;exact q
  obtain⟨u,y,z,A,B,C,D,E⟩:=ih _ (d.setIfInBounds (o+p.1) p.2) (l.set p.1 p.2) r.2 (g.set s (o+p.1) p.2) (zbb h _) (by simpa using G) (by
   intro j m;rw[sI_,List.getElem?_set];by_cases e:p.1=j
   .have k:=c p.1 r.1;rw[Array.getElem?_eq_getElem (by omega)]at k;rw[if_pos (by omega),if_pos (by omega),if_pos e,if_pos (List.getElem?_eq_some_iff.1 k.symm).1]
   .rw[if_neg (by omega),if_neg e];exact c j m)
  exact⟨u,y,z.trans (by simp),A,λj m=>(B j m).trans (zip d o p.1 _ r.1 j m),λb n=>(C b n).trans (hO_ w ⟨F,o+p.1,none⟩ b _ n),D.trans (zb3 s _ _),E.trans (by simp)⟩
structure zgW (e:TypeId)(w:World)(U:Nat->Bool)(x:NM):Prop where
 tabs:zbJ (zq U w)
 etx:zbu (zq U w) x.pa x.pc x.txs
 rsh:161≠e->w.ownsRow 0 161 4 (.slice x.sa x.sh.length x.sc) x.sh.length (shv x.sh)
 esh:∀s∈x.sh,zd3 (zq U w) s
 rtb:53≠e->w.ownsRow 0 53 3 (.slice x.ta x.tab.length x.tc) x.tab.length (slv x.tab)
 etb:∀s∈x.tab,zg (zq U w) s.p.sa s.p.cap s.p.bs
 stk:zoJ w U x.s x.vc x.vd x.ls x.ds
 hdr:za7 (zq U w) x.own
 slt:zg (zq U w) x.slot.p.sa x.slot.p.cap x.slot.p.bs
 rvo:3≠e->w.ownsRow 0 3 1 (.slice x.oa x.vot.length x.oc) x.vot.length (iv x.vot)
 tap:zg (zq U w) x.ba x.bc (zam x.ms)
 ems:∀m∈x.ms,(∃W,MAt W m)/\zaT m/\U8M m.bl m.pl m.cbl m.cpl m.ds
 rwa:66≠e->w.ownsRow 0 66 19 (.slice x.wa x.wai.length x.wc) x.wai.length (zY x.wai)
 ewa:∀m∈x.wai,GM (zq U w) m
theorem zo.rest {e:TypeId}{v:Value}(h:zo w U F o T fc x)(g:zao U U' w w2)(f:w.ownsRow 0 e s1 v n1 xs1)(j:64≠e/\51≠e/\e≠152)(d:∀b,x.S b->some b≠v.ownBlock->w2.heap[b]? = w.heap[b]?):zgW e w2 U' x:=by
 have c:=g.sub;refine⟨h.tabs.sub c,h.etx.sub c,λn=>zu h.rsh λq i=>d q (.inr (.inr (.inr (.inl (zp i))))) (zg7 h.rsh f n q i),λs m=>(h.esh s m).sub c,λn=>zu h.rtb λq i=>d q (.inr (.inr (.inr (.inr (.inl (zp i)))))) (zg7 h.rtb f n q i),λs m=>(h.etb s m).sub c,h.stk.keep c g.us (λb i=>?_),h.hdr.sub c,h.slt.sub c,λn=>zu h.rvo λq i=>d q (.inr (.inr (.inr (.inr (.inr (.inl (zp i))))))) (zg7 h.rvo f n q i),h.tap.sub c,h.ems,λn=>zu h.rwa λq i=>d q (.inr (.inr (.inr (.inr (.inr (.inr (zp i))))))) (zg7 h.rwa f n q i),λs m=>(h.ewa s m).sub c⟩;rcases i with i|i|i
 .subst i;exact d _ (.inl rfl) (zx8 f h.stk.box j.2.2)
 .exact d b (.inr (.inl i)) (zg7 h.stk.rc f j.1 b i)
 .exact d b (.inr (.inr (.inl i))) (zg7 h.stk.rd f j.2.1 b i)
theorem zo.alter {e:TypeId}{v:Value}(d:NM)(m:List (Nat×Value))(a':Option Addr)(h:zo w U F o T fc x)(g:zao U U' w w2)(X:w.ownsRow 0 e s1 v n1 xs1)(N:64≠e/\51≠e/\e≠152)(B:∀q,v.ownBlock=some q->x.S q)(s:∀b,b<w.heap.size->some b≠v.ownBlock->w2.heap[b]? = w.heap[b]?)(Y:zk9 m=true)(cs:d.cs=stL x.cs m)(J:Bnd U' w2)(z:∀b,d.S b->x.S b\/ob a'=some b)(r:∀b,ob a'=some b->U' b=true/\(x.S b\/w.heap.size<=b))(O:za3 d.v)(R:∀W,(∀q,ob a'=some q->W.heap[q]? = w2.heap[q]?)->zq U' W=zq U' w2->zgW e W U' x->zgW 9999 W U' d):zal w U F o T fc x (stF F o w2 m) d.v:=by
 have y:=ze h.blk;have u:U' F=true:=(g.us F y).trans h.fu;have M:R_ w2 F fc T:=(s F y (λi=>(h.su F (B F i.symm)).2 rfl)).trans h.blk;obtain⟨c,D,t,E,G,p,H,I⟩:=zxb u m w2 fc x.cs Y g M h.siz h.cel;have A:∀q,x.S q\/w.heap.size<=q->q≠F:=λq k L=>k.elim (λk=>(h.su q k).2 L) (λk=>by omega);have R:=R _ (λq k=>p q (A q (r q k).2)) H (h.rest c X N (λb i n=>(p b (h.su b i).2).trans (s b (h.bnd b (h.su b i).1) n)));have C:∀b,d.S b->x.S b\/w.heap.size<=b:=λb i=>(z b i).elim .inl (λk=>(r b k).2);refine⟨U',stA o fc m,d,⟨D,by rw[t];exact h.siz,λj V=>by rw[cs];exact E j V,u,λb i=>⟨?_,A b (C b i)⟩,λb k=>by rw[I];exact J b k,R.tabs,R.etx,R.rsh (by decide),R.esh,R.rtb (by decide),R.etb,R.stk,R.hdr,R.slt,R.rvo (by decide),R.tap,R.ems,R.rwa (by decide),R.ewa,O⟩,⟨c.os,c.tape,c.output,c.size,λb l n f=>(p b f).trans (s b l (λi=>n (B b i.symm))),c.us,C,t,G⟩,rfl⟩;rcases z b i with k|k
 .exact(c.us b (h.bnd b (h.su b k).1)).trans (h.su b k).1
 .exact(r b k).1
theorem zo.more {e:TypeId}{a:Option Addr}{c d C B:Nat}{p:TypeId}{D:List Value}(f:NM)(k:Nat)(h:zo w U F o T fc x)(G:zV w (.slice a n c) w2 (.slice a' d c'))(A:w.ownsRow 0 e s1 (.slice a n c) n1 xs1)(y:w2.ownsRow 0 p C (.slice a' d c') B D)(r:64≠e/\51≠e/\e≠152)(g:∀q,ob a=some q->x.S q)(t:k<19)(cs:f.cs=x.cs.set k (.slice a' d c'))(u:∀b,f.S b->x.S b\/ob a'=some b)(s:za3 f.v)(R:∀W,(∀q,(Value.slice a' d c').ownBlock=some q->W.heap[q]? = w2.heap[q]?)->zq (zaF U (ob a')) W=zq (zaF U (ob a')) w2->zgW e W (zaF U (ob a')) x->zgW 9999 W (zaF U (ob a')) f):zal w U F o T fc x (w2.setCell ⟨F,o+k,none⟩ (.slice a' d c')) f.v:=
 h.alter f [(k,.slice a' d c')] a' (by have:=(zao.refl U w).grew G (λq i=>(h.su q (g q (zp i))).1);rwa [zdb]at this) A r (λq i=>g q (zp i)) (λb l m=>G.grown.block b l m) (by simp[zk9,t]) cs (by have:=h.bnd.grew G.grown.size y;rwa [zdb]at this) u (λb i=>⟨zeM i,(G.fresh b (zaK _ _ i)).imp (λj=>g b (zp j)) id⟩) s (λW z=>R W (λq i=>z q (zp i)))
theorem zo.put (c:NM)(d:List (Nat×Value))(h:zo w U F o T fc x)(f:B_ w w2)(m:zk9 d=true)(cs:c.cs=stL x.cs d)(j:∀b,c.S b->x.S b)(g:za3 c.v)(R:∀W,zq U W=zq U w2->zgW 9999 W U x->zgW 9999 W U c):zal w U F o T fc x (stF F o w2 d) c.v:=
 h.alter c d none (zao.below U f) (oN_ w 0 9999 1) (by decide) (λ_ e=>by cases e) (λb l _=>f.block b l) m cs (h.bnd.mono f.size) (λb e=>.inl (j b e)) (λ_ e=>by cases e) g (λW _=>R W)
theorem zo.putN {r t s:Nat}{g:TypeId}{u:List Value}(d:NM)(f:List (Nat×Value))(h:zo w U F o T fc x)(c:B_ w w2)(j:∀q,ob a'=some q->w.heap.size<=q)(p:w2.ownsRow 0 g t (.slice a' r c') s u)(B:zk9 f=true)(cs:d.cs=stL x.cs f)(z:∀b,d.S b->x.S b\/ob a'=some b)(y:za3 d.v)(R:∀W,W.ownsRow 0 g t (.slice a' r c') s u->zq (zaF U (ob a')) W=zq (zaF U (ob a')) w2->zgW 9999 W (zaF U (ob a')) x->zgW 9999 W (zaF U (ob a')) d):zal w U F o T fc x (stF F o w2 f) d.v:=
 h.alter d f a' ⟨c.os,c.tape,c.output,c.size,λb m _=>c.block b m,λb m=>by
  cases hu:U b with
  | true=>exact zaB hu
  | false=>exact zbw hu (λe=>by have:=j b e;omega)⟩ (oN_ w 0 9999 1) (by decide) (λ_ e=>by cases e) (λb l _=>c.block b l) B cs (by have:=h.bnd.grew c.size p;rwa [zdb]at this) z (λb i=>⟨zeM i,.inr (j b i)⟩) y (λW A=>R W (zu p (λq i=>A q (zp i))))
theorem zo.more_sh {l':List Sh}(h:zo w U F o T fc x)(G:zV w (.slice x.sa x.sh.length x.sc) w2 (.slice a' l'.length c'))(ho:w2.ownsRow 0 161 4 (.slice a' l'.length c') l'.length (shv l'))(he:∀s∈l',zd3 (zq (zaF U (ob a')) w2) s)(hi:za3 ({ x with sa:=a',sc:=c',sh:=l' }:NM).v) :
  zal w U F o T fc x (w2.setCell ⟨F,o+4,none⟩ (.slice a' l'.length c')) ({ x with sa:=a',sc:=c',sh:=l' }:NM).v:=
 h.more _ 4 G h.rsh ho (by decide) (λq e=>.inr (.inr (.inr (.inl e)))) (by decide) rfl (λb i=>by rcases i with i|i|i|i|i|i|i<;>dsimp only at i<;>simp[NM.S,i]) hi (λ_ hq hid R=>⟨R.tabs,R.etx,λ_=>zu ho hq,λs m=>by rw[hid];exact he s m,λ_=>R.rtb (by decide),R.etb,R.stk,R.hdr,R.slt,λ_=>R.rvo (by decide),R.tap,R.ems,λ_=>R.rwa (by decide),R.ewa⟩)
theorem zo.more_tab {l':List Sl}(h:zo w U F o T fc x)(G:zV w (.slice x.ta x.tab.length x.tc) w2 (.slice a' l'.length c'))(ho:w2.ownsRow 0 53 3 (.slice a' l'.length c') l'.length (slv l'))(he:∀s∈l',zg (zq (zaF U (ob a')) w2) s.p.sa s.p.cap s.p.bs)(hi:za3 ({ x with ta:=a',tc:=c',tab:=l' }:NM).v) :
  zal w U F o T fc x (w2.setCell ⟨F,o+5,none⟩ (.slice a' l'.length c')) ({ x with ta:=a',tc:=c',tab:=l' }:NM).v:=
 h.more _ 5 G h.rtb ho (by decide) (λq e=>.inr (.inr (.inr (.inr (.inl e))))) (by decide) rfl (λb i=>by rcases i with i|i|i|i|i|i|i<;>dsimp only at i<;>simp[NM.S,i]) hi (λ_ hq hid R=>⟨R.tabs,R.etx,λ_=>R.rsh (by decide),R.esh,λ_=>zu ho hq,λs m=>by rw[hid];exact he s m,R.stk,R.hdr,R.slt,λ_=>R.rvo (by decide),R.tap,R.ems,λ_=>R.rwa (by decide),R.ewa⟩)
theorem zo.more_vot {l':List Int}(h:zo w U F o T fc x)(G:zV w (.slice x.oa x.vot.length x.oc) w2 (.slice a' l'.length c'))(ho:w2.ownsRow 0 3 1 (.slice a' l'.length c') l'.length (iv l'))(hi:za3 ({ x with oa:=a',oc:=c',vot:=l' }:NM).v) :
  zal w U F o T fc x (w2.setCell ⟨F,o+14,none⟩ (.slice a' l'.length c')) ({ x with oa:=a',oc:=c',vot:=l' }:NM).v:=
 h.more _ 14 G h.rvo ho (by decide) (λq e=>.inr (.inr (.inr (.inr (.inr (.inl e)))))) (by decide) rfl (λb i=>by rcases i with i|i|i|i|i|i|i<;>dsimp only at i<;>simp[NM.S,i]) hi (λ_ hq _ R=>⟨R.tabs,R.etx,λ_=>R.rsh (by decide),R.esh,λ_=>R.rtb (by decide),R.etb,R.stk,R.hdr,R.slt,λ_=>zu ho hq,R.tap,R.ems,λ_=>R.rwa (by decide),R.ewa⟩)
theorem zo.more_wai {l':List MV}(h:zo w U F o T fc x)(G:zV w (.slice x.wa x.wai.length x.wc) w2 (.slice a' l'.length c'))(ho:w2.ownsRow 0 66 19 (.slice a' l'.length c') l'.length (zY l'))(he:∀s∈l',GM (zq (zaF U (ob a')) w2) s)(hi:za3 ({ x with wa:=a',wc:=c',wai:=l' }:NM).v) :
  zal w U F o T fc x (w2.setCell ⟨F,o+17,none⟩ (.slice a' l'.length c')) ({ x with wa:=a',wc:=c',wai:=l' }:NM).v:=
 h.more _ 17 G h.rwa ho (by decide) (λq e=>.inr (.inr (.inr (.inr (.inr (.inr e)))))) (by decide) rfl (λb i=>by rcases i with i|i|i|i|i|i|i<;>dsimp only at i<;>simp[NM.S,i]) hi (λ_ hq hid R=>⟨R.tabs,R.etx,λ_=>R.rsh (by decide),R.esh,λ_=>R.rtb (by decide),R.etb,R.stk,R.hdr,R.slt,λ_=>R.rvo (by decide),R.tap,R.ems,λ_=>zu ho hq,λs m=>by rw[hid];exact he s m⟩)
theorem zo.put_pool {nx':Int}{l':List ByteArray}(h:zo w U F o T fc x)(b:B_ w w2)(f:zbu (zq U w2) a' c' l')(c:za3 ({ x with nx:=nx',pa:=a',pc:=c',txs:=l' }:NM).v) :
  zal w U F o T fc x ((w2.setCell ⟨F,o+2,none⟩ (I_ nx')).setCell ⟨F,o+3,none⟩ (.slice a' l'.length c')) ({ x with nx:=nx',pa:=a',pc:=c',txs:=l' }:NM).v:=
 h.put _ [(2,I_ nx'),(3,.slice a' l'.length c')] b rfl rfl (λ_ i=>i) c (λ_ d R=>⟨R.tabs,(by rw[d];exact f),R.rsh,R.esh,R.rtb,R.etb,R.stk,R.hdr,R.slt,R.rvo,R.tap,R.ems,R.rwa,R.ewa⟩)
theorem zo.put_next {nx':Int}(h:zo w U F o T fc x)(b:B_ w w2)  (c:za3 ({ x with nx:=nx' }:NM).v) :
  zal w U F o T fc x (w2.setCell ⟨F,o+2,none⟩ (I_ nx')) ({ x with nx:=nx' }:NM).v:=
 h.put _ [(2,I_ nx')] b rfl rfl (λ_ i=>i) c (λ_ _ R=>⟨R.tabs,R.etx,R.rsh,R.esh,R.rtb,R.etb,R.stk,R.hdr,R.slt,R.rvo,R.tap,R.ems,R.rwa,R.ewa⟩)
theorem zo.put_tape {l':List MV}{sy:Nat}(h:zo w U F o T fc x)(b:B_ w w2)(g:zg (zq U w2) a' c' (zam l'))(f:∀m∈l',(∃W,MAt W m)/\zaT m/\U8M m.bl m.pl m.cbl m.cpl m.ds)(c:za3 ({ x with ba:=a',bc:=c',ms:=l',syn:=sy }:NM).v) :
  zal w U F o T fc x ((w2.setCell ⟨F,o+15,none⟩ (.slice a' (zam l').length c')).setCell ⟨F,o+16,none⟩ (I_ sy)) ({ x with ba:=a',bc:=c',ms:=l',syn:=sy }:NM).v:=
 h.put _ [(15,.slice a' (zam l').length c'),(16,I_ sy)] b rfl rfl (λ_ i=>i) c (λ_ d R=>⟨R.tabs,R.etx,R.rsh,R.esh,R.rtb,R.etb,R.stk,R.hdr,R.slt,R.rvo,(by rw[d];exact g),f,R.rwa,R.ewa⟩)
theorem zo.put_up {b':Bool}(h:zo w U F o T fc x)(b:B_ w w2)  (c:za3 ({ x with up:=b' }:NM).v) :
  zal w U F o T fc x (w2.setCell ⟨F,o+1,none⟩ (.bool b')) ({ x with up:=b' }:NM).v:=
 h.put _ [(1,.bool b')] b rfl rfl (λ_ i=>i) c (λ_ _ R=>⟨R.tabs,R.etx,R.rsh,R.esh,R.rtb,R.etb,R.stk,R.hdr,R.slt,R.rvo,R.tap,R.ems,R.rwa,R.ewa⟩)
theorem zo.put_turn {t':Int}(h:zo w U F o T fc x)(b:B_ w w2)  (c:za3 ({ x with trn:=t' }:NM).v) :
  zal w U F o T fc x (w2.setCell ⟨F,o+18,none⟩ (I_ t')) ({ x with trn:=t' }:NM).v:=
 h.put _ [(18,I_ t')] b rfl rfl (λ_ i=>i) c (λ_ _ R=>⟨R.tabs,R.etx,R.rsh,R.esh,R.rtb,R.etb,R.stk,R.hdr,R.slt,R.rvo,R.tap,R.ems,R.rwa,R.ewa⟩)
theorem zo.put_tab {l':List Sl}(h:zo w U F o T fc x)(hb:B_ w w2)(hfr:∀q,ob a'=some q->w.heap.size<=q)(ho:w2.ownsRow 0 53 3 (.slice a' l'.length c') l'.length (slv l'))(he:∀s∈l',zg (zq (zaF U (ob a')) w2) s.p.sa s.p.cap s.p.bs)(hi:za3 ({ x with ta:=a',tc:=c',tab:=l' }:NM).v) :
  zal w U F o T fc x (w2.setCell ⟨F,o+5,none⟩ (.slice a' l'.length c')) ({ x with ta:=a',tc:=c',tab:=l' }:NM).v:=
 h.putN _ [(5,.slice a' l'.length c')] hb hfr ho rfl rfl (λb i=>by rcases i with i|i|i|i|i|i|i<;>dsimp only at i<;>simp[NM.S,i]) hi (λ_ hr hid R=>⟨R.tabs,R.etx,R.rsh,R.esh,λ_=>hr,(λs m=>by rw[hid];exact he s m),R.stk,R.hdr,R.slt,R.rvo,R.tap,R.ems,R.rwa,R.ewa⟩)
theorem zo.put_own {h':Ct}{s':Sl}{l':List Int}(h:zo w U F o T fc x)(hb:B_ w w2)(hfr:∀q,ob a'=some q->w.heap.size<=q)(ho:w2.ownsRow 0 3 1 (.slice a' l'.length c') l'.length (iv l'))(hh:za7 (zq (zaF U (ob a')) w2) h')(hs':zg (zq (zaF U (ob a')) w2) s'.p.sa s'.p.cap s'.p.bs)(hi:za3 ({ x with own:=h',slot:=s',oa:=a',oc:=c',vot:=l' }:NM).v) :
  zal w U F o T fc x ((((((((w2.setCell ⟨F,o+7,none⟩ (I_ h'.au)).setCell ⟨F,o+8,none⟩ (I_ h'.rd)).setCell ⟨F,o+9,none⟩ (.slice h'.ba h'.bl.length h'.bc)).setCell ⟨F,o+10,none⟩ (.slice h'.pa h'.pl.length h'.pc)).setCell ⟨F,o+11,none⟩ (I_ s'.au)).setCell ⟨F,o+12,none⟩ (I_ s'.rd)).setCell ⟨F,o+13,none⟩ (.slice s'.p.sa s'.p.bs.length s'.p.cap)).setCell ⟨F,o+14,none⟩ (.slice a' l'.length c')) ({ x with own:=h',slot:=s',oa:=a',oc:=c',vot:=l' }:NM).v:=
 h.putN _ [(7,I_ h'.au),(8,I_ h'.rd),(9,.slice h'.ba h'.bl.length h'.bc),(10,.slice h'.pa h'.pl.length h'.pc),(11,I_ s'.au),(12,I_ s'.rd),(13,.slice s'.p.sa s'.p.bs.length s'.p.cap),(14,.slice a' l'.length c')] hb hfr ho rfl rfl (λb i=>by rcases i with i|i|i|i|i|i|i<;>dsimp only at i<;>simp[NM.S,i]) hi (λ_ hr hid R=>⟨R.tabs,R.etx,R.rsh,R.esh,R.rtb,R.etb,R.stk,(by rw[hid];exact hh),(by rw[hid];exact hs'),λ_=>hr,R.tap,R.ems,R.rwa,R.ewa⟩)
theorem zi1 (au rd:Int)(c:Option Addr)(d:Nat)(bl:List zi)(f:Option Addr)(g:Nat)(pl:List zi)(w:World)(h:HAt w c d bl f g pl)(y:zO au rd bl pl=0)(G:zbJ w) :
  Calls prog 151 #[.agg #[I_ au,I_ rd,.slice c bl.length d,.slice f pl.length g]] w λe w'=>∃b,e=.returned (.tuple #[.agg #[I_ au,I_ rd,.slice (some ⟨b,0,none⟩) 32 32],I_ 0])/\w.heap.size<=b/\b<w'.heap.size/\zg w' (some ⟨b,0,none⟩) 32 (zaE au rd bl pl)/\B_ w w':=by
 refine kO_ ?A0 ?_;exact Obj.cells #[I_ au,I_ rd,.slice c bl.length d,.slice f pl.length g] 61;refine kO_ ?B0 ?_;exact Obj.cells #[I_ 0,I_ 0,O_] 53;have l:B_ w ((w.alloc ?A0).alloc ?B0):=((bR_ _ _).alloc (nR_ _) _).alloc (by simp) _;have B:=hX_ w ?A0 ?B0;have s:((w.alloc ?A0).alloc ?B0).heap[w.heap.size+1]? = some (.cells #[I_ 0,I_ 0,O_] 53 (0,0)):=by
  have:=hN_ (w.alloc ?A0) ?B0;rw[zG]at this;exact this
 go_in;go_wp2_with fail
 generalize (w.alloc ?A0).alloc ?B0=u at l B s|-;refine(zea (h.below l) y (G.below l)).mono ?_;rintro e J⟨b,rfl,z,o,A⟩;have q:w.heap.size+1<u.heap.size:=ze s;have C:=zk o B;have j:=zk o s;have L:=zb C 0 (I_ au) rfl;have M:=zb C 1 (I_ rd) rfl;have D:=zb j 0 _ rfl;have E:=zb j 1 _ rfl;have F:=zb j 2 _ rfl;have N:=zd j 0;have O:=zd j 1;have R:=zd j 2;have H:=zm l o;have I:b<J.heap.size:=by
  rcases A.bytes with p|⟨m,t,e,p⟩
  .have:=zbD au rd bl pl;rw[p]at this;simp at this
  .cases e;exact bL_ (p 0 (by rw[zbD];decide))
 clear y;go_wp2_with fail
 refine bodyPost_ret (v:=.tuple #[.agg #[I_ au,I_ rd,.slice (some ⟨b,0,none⟩) 32 32],I_ 0]) (by simp[results,results151,go_sem,D,E,F]) rfl ⟨b,rfl,nT_ l.size z,by simpa using I,?_,?_⟩
 .have r:∀m t,(some ⟨b,0,none⟩:Option Addr)=some ⟨m,t,none⟩->u.heap.size<=m:=λm t e=>by cases e;exact z
  exact ze1 (ze1 (ze1 A r _ _ _ q) r _ _ _ q) r _ _ _ q
 .exact((H.setCell (Nat.le_succ _) _).setCell (Nat.le_succ _) _).setCell (Nat.le_succ _) _
theorem zrR (b:List Sg)(y:Option Addr)(n A:Nat)(c:Int)(t:Sg)(w:World)(g:n=b.length)(I:b.length<=2932031007400)(J:zcz w y b)(L:zg w t.p.sa t.p.cap t.p.bs/\zaN t.p.bs) :
  Calls prog 195 #[.slice y n A,I_ c,.agg #[I_ t.nd,I_ t.au,I_ t.rd,.slice t.p.sa t.p.bs.length t.p.cap]] w λe w'=>e=.returned (.tuple #[.bool (zce (gvs b) c t.v).1,I_ (zce (gvs b) c t.v).2])/\B_ w w':=by
 subst g;refine kO_ ?A0 ?_;exact Obj.cells #[I_ t.nd,I_ t.au,I_ t.rd,.slice t.p.sa t.p.bs.length t.p.cap] 55;have l:=(bR_ w.heap.size w).alloc (nR_ _) ?A0;have M:=hN_ w ?A0;go_in;go_wp2_with fail
 generalize w.alloc ?A0=O at l M|-;have p:=zkF b y _ A c O rfl I (J.below l);by_cases hs:zcM (gvs b) c=0;rw[hs]at p
 rotate_left
 have f:Hid (zce (gvs b) c t.v=(false,zcM (gvs b) c)):=zpV hs;generalize zcM (gvs b) c=x at*;have U:(x != 0)=true:=by simpa using hs
 rotate_left
 all_goals
  refine p.mono ?_;rintro _ N⟨rfl,q⟩;dsimp only
 .have B:=zm l q;have o:=zk q M;have E:=zb o 0 _ rfl;have F:=zb o 1 _ rfl;have G:=zb o 2 _ rfl;have H:=zb o 3 _ rfl;have j:=zgF t.nd t.au t.rd t.p.sa t.p.bs.length t.p.cap N
  change Calls _ _ _ _ λe w'=>e=.returned (I_ (gF t.v))/\_ at j
  have z:Hid (zcM (gvs b) c=0):=hs;clear hs p;by_cases hg:gF t.v=0;rw[hg]at j;have C:Hid (gF t.v=0):=hg;clear hg
  rotate_left
  have f:Hid (zce (gvs b) c t.v=(false,gF t.v)):=zom z.out hg;generalize gF t.v=x at*;have U:(x != 0)=true:=by simpa using hg
  rotate_left
  all_goals
   go_wp2_with fail
   refine j.mono ?_;rintro _ w2⟨rfl,s⟩;dsimp only
  .clear E F G H j;have u:=zk s o;have E:=zb u 0 _ rfl;have F:=zb u 1 _ rfl;have G:=zb u 2 _ rfl;have H:=zb u 3 _ rfl;have m:=zm B s;by_cases g:t.nd=c
   .have f:Hid (zce (gvs b) c t.v=(true,0)):=by
     show _=_;rw[zlw z.out C.out];simp[Sg.v,g]
    have T:(t.nd == c)=true:=by simpa using g
    clear g;go_wp2_with fail
    go_ret2;exact⟨by rw[f.out];rfl,m⟩
   .have D:=zmf b y _ A t w2 rfl I (J.below m) ⟨L.1.below m,L.2⟩;have f:Hid (zce (gvs b) c t.v=(decide (t.v∈gvs b),0)):=by
     show _=_;rw[zlw z.out C.out];have:¬t.v.1=c:=g;simp[this]
    have T:(t.nd == c)=false:=by simpa using g
    generalize decide (t.v∈gvs b)=r at D f;clear g;go_wp2_with fail
    refine D.mono ?_;rintro _ V⟨rfl,R⟩;dsimp only;go_wp2_with fail
    go_ret2;exact⟨by rw[f.out];rfl,m.trans (R.mono m.size)⟩
  .go_wp2_with fail
   go_ret2;exact⟨by rw[f.out];rfl,B.trans (s.mono B.size)⟩
 .go_wp2_with fail
  go_ret2;exact⟨by rw[f.out];rfl,l.trans (q.mono l.size)⟩
theorem zxc (s:Ct)(au rd:Int)(b c:Nat)(w:World)(d:w.cell? ⟨b,0,none⟩=some (I_ au))(f:w.cell? ⟨c,0,none⟩=some (I_ rd)) :
  Calls prog 183 #[.agg (crow_ s),(P_ b 0),(P_ c 0)] w λe w'=>e=.returned (.bool (decide (s.au=au/\s.rd=rd)))/\B_ w w':=by
 have g:=bL_ d;have j:=bL_ f;have l:b≠w.heap.size:=by simp at g;omega
 have m:c≠w.heap.size:=by simp at j;omega
 go_in;go_wp2_with fail
 all_goals (go_ret;exact⟨by first|(simp_all;done)|(simp_all;rfl),(bR_ _ _).alloc (nR_ _) _⟩)
theorem znK (b:List Ct)(r:Option Addr)(n t:Nat)(au rd:Int)(j l:Nat)(w:World)(f:n=b.length)(J:n<=3000000000000000000)(B:zba w r b)(u:w.cell? ⟨j,0,none⟩=some (I_ au))(C:w.cell? ⟨l,0,none⟩=some (I_ rd)) :
  Calls prog 184 #[.slice r n t,.func (.func 183) #[] #[P_ j 0,(P_ l 0)]] w λe w'=>e=.returned (I_ (cOf (zI b) au rd))/\B_ w w':=by
 subst f;go_in;go_wp2_with fail
 go_loopw [8] (λi wr=>∃m:Nat,m<=b.length/\i=I_ m/\zaC (zfp (zI b) au rd) m=-1/\B_ w wr) (λi _=>b.length-(intOf i).toNat)
 case atStart=>exact⟨0,nZ_ _,rfl,rfl,bR_ _ _⟩
 case round=>
  obtain⟨m,M,rfl,g,d⟩:=hrel;by_cases hlt:m<b.length
  .obtain⟨N,O,rfl,E,F,G,H,I⟩:=(B.below d).at m hlt;have p:=zvx b au rd m hlt;have y:=zr d u;have D:=zr d C;have L:(m:Int)<b.length:=by omega
   have c:Hid (decide ((b[m]).au=au/\(b[m]).rd=rd)=true->cOf (zI b) au rd=m):=by
    show _->_;intro h;exact zgc _ m _ g (by rw[p];exact h) (by rw[zbv];exact hlt)
   have o:Hid (decide ((b[m]).au=au/\(b[m]).rd=rd)=false->zaC (zfp (zI b) au rd) (m+1)=-1):=by
    show _->_;intro h;exact zgv _ m g (by rw[p];exact h)
   clear g p;generalize b[m]=s at*;go_wp2_with fail
   refine(zxc s au rd j l wr y D).mono ?_;rintro _ R⟨rfl,z⟩;dsimp only;have q:=zm d z;generalize decide (s.au=au/\s.rd=rd)=x at*;cases x
   .have f:Hid _:=o.out rfl;clear c o;go_wp2_with fail
    go_roundw
    case rel=>exact⟨m+1,by omega,by go_num,f.out,q⟩
    case measure=>simp[intOf];omega
   .have f:Hid _:=c.out rfl;clear c o;go_wp2_with fail
    go_ret;exact⟨zt f.out.symm,q⟩
  .obtain rfl:m=b.length:=by omega
   have c:Hid (cOf (zI b) au rd=-1):=by
    show zaC _ _=-1;rw[zbv];exact g
   clear g;go_wp2_with fail
   go_ret;exact⟨zt c.out.symm,d⟩
theorem ztI (d:List Ct)(s:Nat)(f:Option Addr)(j:Nat)(q:Option Addr)(r:Nat)(ds:List zi)(au rd:Int)(w:World)(c:zee w s d f j q r ds) :
  Calls prog 143 #[P_ s 0,I_ au,I_ rd] w λe w'=>e=.returned (I_ (cOf (zI d) au rd))/\B_ w w':=by
 have B:∀(fn:Fn) (first g:Array Value) (w:World),(Instr.makeFunc fn first g).run prog w=.ok (.func fn first g) w:=λ_ _ _ _=>rfl;have C:=c.at'.small;have y:=c.at'.certs;have u:=c.box;clear c;refine kW_ ?A0 ?_;exact(w.alloc (.cells #[I_ au] 3)).alloc (.cells #[I_ rd] 3);have b:B_ w ?A0:=((bR_ _ _).alloc (nR_ _) _).alloc (by rw[zG];omega) _;have l:(?A0).cell? ⟨w.heap.size,0,none⟩=some (I_ au):=zb (zR (hN_ w _)) 0 _ rfl;have m:(?A0).cell? ⟨w.heap.size+1,0,none⟩=some (I_ rd):=by
  have:=zhz (w.alloc (.cells #[I_ au] 3)) #[I_ rd] 3 0 _ rfl;rw[zG]at this;exact this
 have A:=zb (zR (o:=.cells #[I_ rd] 3) (zR (o:=.cells #[I_ au] 3) u)) 0 _ rfl;go_in;go_wp2_with fail
 generalize (w.alloc (.cells #[I_ au] 3)).alloc (.cells #[I_ rd] 3)=p at b l m A|-;refine(znK d f d.length j au rd _ _ p rfl (by omega) (y.below b) l m).mono ?_;rintro _ D⟨rfl,t⟩;dsimp only;go_wp2_with fail
 go_ret;exact⟨rfl,b.trans (t.mono b.size)⟩
theorem zoK (b ys:List Int)(f j:Option Addr)(n m c d g:Nat)(w:World)(r:n=b.length)(q:m=ys.length)(l:zg w f c b)(o:zg w j d ys)(s:w.cell? ⟨g,0,none⟩=some (.slice j m d)) :
  Calls prog 241 #[.slice f n c,(P_ g 0)] w λe w'=>e=.returned (.bool (decide (txL b=txL ys)))/\w=w':=by
 go_in;go_wp2_with fail
 refine(zeI b ys _ _ _ _ _ _ w (by first|exact r|rfl) (by first|exact q|rfl) l o).mono ?_;rintro _ t⟨rfl,rfl⟩;dsimp only;go_wp2_with fail
 go_ret;exact⟨rfl,rfl⟩
theorem zoL (l:List CV)(ds:List zi)(u:Option Addr)(n B:Nat)(bs:List Int)(r:Option Addr)(z s g:Nat)(w:World)(G:n=ds.length)(o:bss ds=l.map CV.d)(J:n<=3000000000000000000)(y:zbT w u ds)(F:z=bs.length)(E:zg w r s bs)(D:w.cell? ⟨g,0,none⟩=some (.slice r z s)) :
  Calls prog 159 #[.slice u n B,.func (.func 241) #[] #[P_ g 0]] w λe w'=>e=.returned (I_ (pOf l bs))/\w=w':=by
 subst G F;have t:Hid (ds.length=l.length):=zhZ o;have A:Hid (bss ds=l.map CV.d):=o;clear o;go_in;go_wp2_with fail
 go_loop [8] (λi=>∃m:Nat,m<=ds.length/\i=I_ m/\zaC (zmi l bs) m=-1) (λi=>ds.length-(intOf i).toNat)
 case atStart=>exact⟨0,nZ_ _,rfl,rfl⟩
 case round=>
  obtain⟨m,M,rfl,c⟩:=hrel;by_cases hlt:m<ds.length
  .rcases y.cells with d|⟨N,O,rfl,d⟩
   .subst d;simp at hlt
   have I:=d m hlt;have H:=y.each (ds[m]) (gM_ hlt);have L:(m:Int)<ds.length:=by omega
   have q:=zov A.out m hlt;have f:Hid (txL (ds[m]).bs=txL bs->pOf l bs=m):=by
    show _->_;intro h;exact zgc _ m _ c (by rw[zmi,q];simpa using h) (by rw[<-t.out];exact hlt)
   have j:Hid (¬txL (ds[m]).bs=txL bs->zaC (zmi l bs) (m+1)=-1):=by
    show _->_;intro h;exact zgv _ m c (by rw[zmi,q];simpa using h)
   clear c q d;generalize ds[m]=p at*;go_wp2_with fail
   refine(zoK p.bs bs p.sa r _ _ p.cap s g w rfl rfl H E D).mono ?_;rintro _ R⟨rfl,rfl⟩;dsimp only;by_cases h:txL p.bs=txL bs
   .have b:Hid (pOf l bs=m):=f.out h;rw[dT_ h];clear f j h;go_wp2_with fail
    go_ret;exact⟨zt b.out.symm,rfl⟩
   .have b:Hid (zaC (zmi l bs) (m+1)=-1):=j.out h;rw[dF_ h];clear f j h;go_wp2_with fail
    go_round
    case rel=>exact⟨m+1,by omega,by go_num,b.out⟩
    case measure=>simp[intOf];omega
  .obtain rfl:m=ds.length:=by omega
   have b:Hid (pOf l bs=-1):=by
    show zaC _ _=-1;rw[<-t.out];exact c
   clear c;go_wp2_with fail
   go_ret;exact⟨zt b.out.symm,rfl⟩
theorem zmw (f:List Ct)(s:Nat)(u:Option Addr)(y:Nat)(l:Option Addr)(m:Nat)(ds:List zi)(bs:List Int)(b:Option Addr)(q c:Nat)(w:World)(d:zee w s f u y l m ds)(E:q=bs.length)(D:zg w b c bs) :
  Calls prog 223 #[P_ s 0,.slice b q c] w λe w'=>e=.returned (I_ (pOf (zI f) bs))/\B_ w w':=by
 have G:∀(fn:Fn) (first j:Array Value) (w:World),(Instr.makeFunc fn first j).run prog w=.ok (.func fn first j) w:=λ_ _ _ _=>rfl;have H:=d.at'.small;subst E;have B:Hid (f.length=ds.length):=by
  show _=_;rw[d.at'.len]
 have A:=d.at'.digs.parts;have r:Hid (bss ds=(zI f).map CV.d):=d.at'.same;have z:=d.box;clear d;refine kV_ ?A0 ?_;exact Value.slice b bs.length c;have g:=zC w (.cells #[?A0] 51);have p:(w.alloc (.cells #[?A0] 51)).cell? ⟨w.heap.size,0,none⟩=some ?A0:=by simp
 have F:=zb (zR (o:=.cells #[?A0] 51) z) 1 _ rfl;go_in;go_wp2_with fail
 generalize w.alloc (.cells #[?A0] 51)=t at g p F|-;refine(zoL (zI f) ds l f.length m bs b bs.length c _ t B.out r.out (by omega) (A.below g) rfl (D.below g) p).mono ?_;rintro _ I⟨rfl,rfl⟩;dsimp only;go_wp2_with fail
 go_ret;exact⟨rfl,g⟩
theorem zmx (b:List Ct)(s:Nat)(c:Option Addr)(d:Nat)(f:Option Addr)(g:Nat)(ds:List zi)(au rd:Int)(w:World)(m:zee w s b c d f g ds) :
  Calls prog 110 #[P_ s 0,I_ au,I_ rd] w λe w'=>e=.returned (.bool (decide (0<=cOf (zI b) au rd)))/\B_ w w':=by
 go_in;go_wp2_with fail
 refine(ztI b s c d f g ds au rd w m).mono ?_;rintro _ o⟨rfl,j⟩;dsimp only;go_wp2_with fail
 go_ret;exact⟨rfl,j⟩
def zi2 (l:List BW)(d:List Int)(j:Nat):Bool:=decide (zai (l.getD j ⟨0,0,[]⟩).d=zai d)
def sOf (l:List BW)(d:List Int):Int:=zaC (zi2 l d) l.length
theorem zoN {a b:List Int}:txL a=txL b↔zai a=zai b:=⟨λh=>zhf h,λh=>by rw[txL,h];rfl⟩
theorem zb6 (l:List Sh):(shw l).length=l.length:=by simp[shw]
theorem zxd (l:List Sh)(k:Nat)(h:k<l.length):(shw l).getD k ⟨0,0,[]⟩=(l[k]).b.v:=by simp[shw,List.getD,h]
theorem ztJ (l:List BW)(d:List Int):(sOf l d=-1/\zb1 l d=false/\bOf l d=none)\/∃k,∃h:k<l.length,sOf l d=k/\zb1 l d=true/\bOf l d=some l[k]:=by
 have q:∀m,m<=l.length->(zaC (zi2 l d) m=-1/\(l.take m).find? (λb=>decide (zai b.d=zai d))=none)\/∃k,∃h:k<l.length,k<m/\zaC (zi2 l d) m=k/\(l.take m).find? (λb=>decide (zai b.d=zai d))=some l[k]:=by
  intro m
  induction m with
  | zero=>intro _;exact .inl ⟨rfl,by simp⟩
  | succ m ih=>
   intro s;have j:m<l.length:=by omega
   have o:l.take (m+1)=l.take m++[l[m]]:=by rw[List.take_add_one];simp[j]
   have p:l.getD m ⟨0,0,[]⟩=l[m]:=by simp[List.getD,j]
   rcases ih (by omega)with⟨f,c⟩|⟨k,g,r,f,c⟩
   .by_cases hd:zai (l[m]).d=zai d
    .refine .inr ⟨m,j,by omega,zgc _ m _ f (by rw[zi2,p];exact dT_ hd) (by omega),?_⟩;rw[o,List.find?_append,c];simp[hd]
    .refine .inl ⟨zgv _ m f (by rw[zi2,p];exact dF_ hd),?_⟩;rw[o,List.find?_append,c];simp[hd]
   .refine .inr ⟨k,g,by omega,?_,?_⟩
    .rw[zaC,f];simp
    .rw[o,List.find?_append,c];rfl
 rcases q l.length (nR_ _)with⟨f,c⟩|⟨k,g,_,f,c⟩
 .rw[List.take_length]at c;exact .inl ⟨f,zk5.1 c,c⟩
 .rw[List.take_length]at c;exact .inr ⟨k,g,f,by rw[<-zvA,bOf,c];rfl,c⟩
structure zhK (w:World)(sa:Option Addr)(ls:List Sh):Prop where
 cells:ls=[]\/∃sb so,sa=some ⟨sb,so,none⟩/\∀j (h:j<ls.length),w.cell? ⟨sb,so+j*4,none⟩=some (I_ (ls[j]).b.v.au)/\w.cell? ⟨sb,so+j*4+1,none⟩=some (I_ (ls[j]).b.v.nu)/\w.cell? ⟨sb,so+j*4+2,none⟩=some (.slice (ls[j]).b.ta (ls[j]).b.v.ss.length (ls[j]).b.tc)/\w.cell? ⟨sb,so+j*4+3,none⟩=some (.slice (ls[j]).d.sa (ls[j]).d.bs.length (ls[j]).d.cap)
 each:∀s∈ls,zd3 w s
theorem zhK.below {c:List Sh}(h:zhK w sa c)(d:B_ w w'):zhK w' sa c:=by
 have k:=Sub.below d;refine⟨?_,λs f=>(h.each s f).sub k⟩;rcases h.cells with h|⟨g,l,e,h⟩
 .exact .inl h
 .exact .inr ⟨g,l,e,λj b=>⟨k.cell _ _ (h j b).1,k.cell _ _ (h j b).2.1,k.cell _ _ (h j b).2.2.1,k.cell _ _ (h j b).2.2.2⟩⟩
theorem zhK.at {b:List Sh}(h:zhK w sa b)(m:Nat)(f:m<b.length):∃c d,sa=some ⟨c,d,none⟩/\w.cell? ⟨c,d+m*4,none⟩=some (I_ (b[m]).b.v.au)/\w.cell? ⟨c,d+m*4+1,none⟩=some (I_ (b[m]).b.v.nu)/\w.cell? ⟨c,d+m*4+2,none⟩=some (.slice (b[m]).b.ta (b[m]).b.v.ss.length (b[m]).b.tc)/\w.cell? ⟨c,d+m*4+3,none⟩=some (.slice (b[m]).d.sa (b[m]).d.bs.length (b[m]).d.cap):=by
 rcases h.cells with h|⟨c,d,e,h⟩
 .subst h;simp at f
 .exact⟨c,d,e,h m f⟩
theorem zp9 {a:Option Addr}{c:Nat}{b:List Sh}(h:w.ownsRow 0 161 4 (.slice a b.length c) b.length (shv b))(d:∀s∈b,zd3 w s):zhK w a b:=by
 refine⟨?_,d⟩;rcases h.2 with⟨_,m⟩|⟨g,o,p,e,_⟩
 .exact .inl (eN_ m)
 .cases e;refine .inr ⟨g,0,rfl,λj l=>?_⟩;have e:∀i,i<4->w.cell? ⟨g,j*4+i,none⟩=(b[j]).cs[i]?:=λi f=>by rw[World.ownsRow.cellAt h (j*4+i) (by omega),zxa b j i l f]
  simp only[Nat.zero_add];exact⟨e 0 (by omega),e 1 (by omega),e 2 (by omega),e 3 (by omega)⟩
theorem zo.shs (h:zo w U F o T fc x):zhK w x.sa x.sh:=zp9 h.rsh (λs m=>(h.esh s m).sub (zK U w))
theorem zrS (s:Sh)(ys:List Int)(d:Option Addr)(f g:Nat)(w:World)(c:zd3 w s)(q:zg w d f ys)(p:w.cell? ⟨g,0,none⟩=some (.slice d ys.length f)) :
  Calls prog 207 #[.agg #[I_ s.b.v.au,I_ s.b.v.nu,.slice s.b.ta s.b.v.ss.length s.b.tc,.slice s.d.sa s.d.bs.length s.d.cap],(P_ g 0)] w λe w'=>e=.returned (.bool (decide (zai s.b.v.d=zai ys)))/\B_ w w':=by
 refine kO_ ?A0 ?_;exact Obj.cells #[I_ s.b.v.au,I_ s.b.v.nu,.slice s.b.ta s.b.v.ss.length s.b.tc,.slice s.d.sa s.d.bs.length s.d.cap] 161;have b:=zC w ?A0;have j:=hN_ w ?A0;go_in;go_upto_region 1 with fail
 generalize w.alloc ?A0=l at b j|-;have r:=zb j 3 _ rfl;have t:=zr b p;have m:Hid (decide (txL s.d.bs=txL ys)=decide (zai s.b.v.d=zai ys)):=by show _=_;rw[c.e];exact decide_eq_decide.2 zoN
 go_wp2_with fail
 refine(zeI s.d.bs ys _ _ _ _ _ _ l rfl rfl (c.d.below b) (q.below b)).mono ?_;rintro _ u⟨rfl,rfl⟩;dsimp only;go_wp2_with fail
 go_ret;exact⟨by rw[m.out];rfl,b⟩
theorem zqa (b:List Sh)(u:Option Addr)(n y:Nat)(ys:List Int)(p:Option Addr)(q g:Nat)(w:World)(f:n=b.length)(J:n<=800)(t:zhK w u b)(D:zg w p q ys)(B:w.cell? ⟨g,0,none⟩=some (.slice p ys.length q)) :
  Calls prog 208 #[.slice u n y,.func (.func 207) #[] #[P_ g 0]] w λe w'=>e=.returned (I_ (sOf (shw b) ys))/\B_ w w':=by
 subst f;go_in;go_wp2_with fail
 go_loopw [8] (λi wr=>∃m:Nat,m<=b.length/\i=I_ m/\zaC (zi2 (shw b) ys) m=-1/\B_ w wr) (λi _=>b.length-(intOf i).toNat)
 case atStart=>exact⟨0,nZ_ _,rfl,rfl,bR_ _ _⟩
 case round=>
  obtain⟨m,M,rfl,j,c⟩:=hrel;by_cases hlt:m<b.length
  .obtain⟨N,O,rfl,F,G,H,I⟩:=(t.below c).at m hlt;have E:=(t.below c).each _ (gM_ hlt);have C:=zr c B;have L:(m:Int)<b.length:=by omega
   have o:zi2 (shw b) ys m=decide (zai (b[m]).b.v.d=zai ys):=by rw[zi2,zxd b m hlt]
   have d:Hid (decide (zai (b[m]).b.v.d=zai ys)=true->sOf (shw b) ys=m):=by
    show _->_;intro h;exact zgc _ m _ j (by rw[o];exact h) (by rw[zb6];exact hlt)
   have l:Hid (decide (zai (b[m]).b.v.d=zai ys)=false->zaC (zi2 (shw b) ys) (m+1)=-1):=by
    show _->_;intro h;exact zgv _ m j (by rw[o];exact h)
   clear j o;generalize b[m]=s at*;go_wp2_with fail
   refine(zrS s ys p q g wr E (D.below c) C).mono ?_;rintro _ R⟨rfl,z⟩;dsimp only;have r:=zm c z;generalize decide (zai s.b.v.d=zai ys)=x at*;cases x
   .have f:Hid _:=l.out rfl;clear d l;go_wp2_with fail
    go_roundw
    case rel=>exact⟨m+1,by omega,by go_num,f.out,r⟩
    case measure=>simp[intOf];omega
   .have f:Hid _:=d.out rfl;clear d l;go_wp2_with fail
    go_ret;exact⟨zt f.out.symm,r⟩
  .obtain rfl:m=b.length:=by omega
   have d:Hid (sOf (shw b) ys=-1):=by
    show zaC _ _=-1;rw[zb6];exact j
   clear j;go_wp2_with fail
   go_ret;exact⟨zt d.out.symm,c⟩
theorem znb (x:NM)(ys:List Int)(b:Option Addr)(j c:Nat)(w:World)(U:Nat->Bool)(F o:Nat)(T:TypeId)(q:Array Value)(h:zo w U F o T q x)(y:j=ys.length)(u:zg w b c ys) :
  Calls prog 176 #[P_ F o,.slice b j c] w λe w'=>e=.returned (I_ (sOf (shw x.sh) ys))/\B_ w w':=by
 subst y;have A:∀(fn:Fn) (first f:Array Value) (w:World),(Instr.makeFunc fn first f).run prog w=.ok (.func fn first f) w:=λ_ _ _ _=>rfl;refine kO_ ?A0 ?_;exact Obj.cells #[.slice b ys.length c] 51;have d:=zC w ?A0;have l:=hN_ w ?A0;have r:x.sh.length<=800:=by have:=h.inv.sh;simpa[NM.v,shw]using this
 go_in;go_upto_region 2 with fail
 generalize w.alloc ?A0=m at d l|-;have g:=h.below d;have z:=g.cell 4 _ rfl;have p:=zb l 0 _ rfl;go_wp2_with fail
 refine(zqa x.sh _ _ _ ys b c _ m rfl r g.shs (u.below d) p).mono ?_;rintro _ B⟨rfl,s⟩;dsimp only;go_wp2_with fail
 go_ret;exact⟨rfl,d.trans (s.mono d.size)⟩
theorem zgX (x:NM)(ys:List Int)(f:Option Addr)(q g:Nat)(w:World)(U:Nat->Bool)(F o:Nat)(T:TypeId)(j:Array Value)(h:zo w U F o T j x)(t:q=ys.length)(p:zg w f g ys) :
  Calls prog 135 #[P_ F o,.slice f q g] w λe w'=>e=.returned (.bool (!zb1 (shw x.sh) ys))/\B_ w w':=by
 subst t;have c:Hid _:=ztJ (shw x.sh) ys;have l:=znb x ys f _ g w U F o T j h rfl p;generalize sOf (shw x.sh) ys=r at c l;clear h p;go_in;go_wp2_with fail
 refine l.mono ?_;rintro _ y⟨rfl,m⟩;dsimp only;rcases c.out with⟨rfl,b,-⟩|⟨k,-,rfl,b,-⟩;have d:Hid _:=b
 rotate_left
 have d:Hid _:=b;have u:¬((k:Int)<0):=by omega
 rotate_left
 all_goals
  clear b c;go_wp2_with fail
  go_ret;exact⟨by rw[d.out];rfl,m⟩
end Go.Proofs.YtdnaljbnebnlhaaGreatDoor
