import Derived.Test.YtdepbohhmfkjgaaGreatDoorPk7
set_option maxRecDepth 100000
set_option maxHeartbeats 4000000
namespace Go.Proofs.YtdepbohhmfkjgaaGreatDoor
open Go.RowKit Tryz
variable {l:List CV}{r:Int}
def zcH (l:List CV)(rd:Int):Nat→List (List Int)
 | 0=>[]
 | n+1=>if 0≤cOf l n rd then zcH l rd n++[(zaD l (cOf l n rd).toNat).d] else zcH l rd n
def dgF (l:List CV)(rd:Int):List (List Int):=zcH l rd 4
theorem znW (l:List CV)(rd:Int)(n:Nat):(zcH l rd n).length≤n:=by
 induction n with
 | zero=>simp[zcH]
 | succ n ih=>
  rw[zcH]
  split
  ·simp;omega
  ·omega
theorem zq0 (l:List CV)(rd:Int)(n:Nat)(h:0<(zcH l rd n).length):∃ j,j<l.length∧(zaD l j).rd=rd:=by
 induction n with
 | zero=>simp[zcH] at h
 | succ n ih=>
  by_cases g:0≤cOf l n rd
  ·have b:=zmw (zeF l n rd) l.length g;have c:=zj5 l n rd;refine ⟨(cOf l n rd).toNat,by omega,?_⟩;simp only[zeF,decide_eq_true_eq] at b;exact b.2
  ·rw[zcH,if_neg g] at h;exact ih h
def cnt (l:List CV)(r:Int):Nat:=(l.filter fun c=>decide (r≤c.rd)).length
theorem zvx (l:List CV)(r:Int):cnt l (r+1)≤cnt l r:=by
 induction l with
 | nil=>simp[cnt]
 | cons c l ih=>
  simp only[cnt,List.filter_cons] at ih ⊢;by_cases h1:r+1≤c.rd
  ·have b:r≤c.rd:=by omega
   simp[h1,b];exact ih
  ·by_cases b:r≤c.rd
   ·simp[h1,b];omega
   ·simp[h1,b];exact ih
theorem zvy (l:List CV)(r:Int)(h:∃ j,j<l.length∧(zaD l j).rd=r):cnt l (r+1)<cnt l r:=by
 induction l with
 | nil=>obtain ⟨j,g,_⟩:=h;simp at g
 | cons c l ih=>
  by_cases hc:c.rd=r
  ·have:=zvx l r;have d:¬r+1≤c.rd:=by omega
   have b:r≤c.rd:=by omega
   simp only[cnt,List.filter_cons] at this ⊢;simp[d,b];omega
  ·obtain ⟨j,g,e⟩:=h;have f:cnt l (r+1)<cnt l r:=by
    apply ih
    cases j with
    | zero=>exact absurd (by simpa[zaD] using e) hc
    | succ j=>exact ⟨j,by simpa using g,by simpa[zaD] using e⟩
   simp only[cnt,List.filter_cons] at f ⊢;by_cases d:r+1≤c.rd
   ·have b:r≤c.rd:=by omega
    simp[d,b];exact f
   ·by_cases b:r≤c.rd
    ·omega
    ·simp[d,b];exact f
def zfU (l:List CV)(r:Int):Prop:=1≤r∧(∀ k:Int,1≤k→k<r→3≤(dgF l k).length)∧(dgF l r).length<3
theorem zfU.one {s:Int}(h:zfU l r)(g:zfU l s):r=s:=by
 obtain ⟨d,f,m⟩:=h;obtain ⟨b,c,j⟩:=g;rcases Int.lt_trichotomy r s with q|q|q
 ·have:=c r d q;omega
 ·exact q
 ·have:=f s b q;omega
theorem zkO {c:CV}(h:c.f=0):1≤c.rd∧c.rd≤1048576:=(za7 (zeW (vl:=c.vl) h)).2.1
theorem zmF (h:zbI l=0)(j:Nat)(b:j<l.length):(zaD l j).f=0:=zvv l j ((zfw h).2 j b)
variable {ls:List Ct}{ds:List zi}
theorem zmG (b:zQ ds=l.map CV.d)(k:Nat)(h:k<ds.length):(zaD l k).d=(ds[k]).bs:=by
 have c:=congrArg List.length b;simp only[zQ,List.length_map] at c;have h':k<l.length:=by omega
 have e:(zQ ds)[k]? = (l.map CV.d)[k]?:=by rw[b]
 simp only[zQ,List.getElem?_map,List.getElem?_eq_getElem h,List.getElem?_eq_getElem h',Option.map_some,Option.some.injEq] at e;rw[e];simp[zaD,h']
theorem zgP (b:zQ ds=l.map CV.d):ds.length=l.length:=by
 have c:=congrArg List.length b
 simpa[zQ] using c
theorem zpl (h:zbI (zD ls)=0):∀ c∈ls,c.v.f=0:=by
 intro c d;obtain ⟨j,b,rfl⟩:=List.getElem_of_mem d;rw[←zjE ls j b];exact zmF h j (by rw[zbh];exact b)
theorem zmH (h:zbI (zD ls)=0):ls.length≤400:=by
 have:=(zfw h).1;rw[zbh] at this;exact this
theorem zuz {c:CV}(h:c.f=0):c.bl.length≤3∧c.pl.length≤4∧c.vl.length≤4∧(∀ b∈c.bl,b.length=32)∧(∀ b∈c.pl,b.length=32):=by
 obtain ⟨_,_,f,j,l,m⟩:=za7 (zeW (vl:=c.vl) h);refine ⟨by simpa[pz] using f,by simpa[pz] using j,?_,fun b d=>?_,fun b d=>?_⟩
 ·rw[CV.f,zai] at h
  split at h
  ·rename_i g;exact absurd h g
  ·split at h
   ·cases h
   ·omega
 ·exact l ⟨none,0,b⟩ (by simp[pz,d])
 ·exact m ⟨none,0,b⟩ (by simp[pz,d])
theorem zsZ {c:Ct}(h:c.v.f=0):c.bl.length≤1000∧c.pl.length≤1000∧c.vl.length≤4∧(∀ p∈c.bl,p.bs.length≤140737488355328)∧(∀ p∈c.pl,p.bs.length≤140737488355328):=by
 obtain ⟨f,g,d,j,l⟩:=zuz h;simp only[Ct.v,zcr] at f g d;refine ⟨by omega,by omega,d,fun p b=>?_,fun p b=>?_⟩
 ·rw[j p.bs (List.mem_map.2 ⟨p,b,rfl⟩)];decide
 ·rw[l p.bs (List.mem_map.2 ⟨p,b,rfl⟩)];decide
variable {w w' w2 w1:World}{n B base q n1 s1:Nat}{xs xs1:List Value}{v1 vc vd:Value}
theorem zjH {e:TypeId}{s:Nat}{v:Value}(h:w.ownsRow base e s v n xs)(q:Nat)(c:v.ownBlock=some q):∃ b,w.heap[q]? = some (.cells b e (0,0)):=by
 rcases h.2 with ⟨rfl,_⟩|⟨g,f,b,rfl,_,d,_⟩
 ·cases c
 ·cases c;exact ⟨b,d⟩
theorem zca {g j t:Nat}{c d:TypeId}{u:Nat}{f:Value}{y:List Value}(l:w.ownsRow g c s1 v1 n1 xs1)(m:w.ownsRow j d u f t y)(o:c≠d)(q:Nat)(p:v1.ownBlock=some q):f.ownBlock≠some q:=fun r=>by
 obtain ⟨z,s⟩:=zjH l q p
 obtain ⟨A,b⟩:=zjH m q r
 rw[s] at b
 simp only[Option.some.injEq,Obj.cells.injEq] at b
 exact o b.2.1
theorem zcE {d:Nat}{c t:TypeId}{cs:Array Value}(f:w.ownsRow d c s1 v1 n1 xs1)(b:w.heap[q]? = some (.cells cs t (0,0)))(g:c≠t):v1.ownBlock≠some q:=fun j=>by
 obtain ⟨m,l⟩:=zjH f q j
 rw[l] at b
 simp only[Option.some.injEq,Obj.cells.injEq] at b
 exact g b.2.1
theorem zt {e:TypeId}{s:Nat}{v:Value}(h:w.ownsRow base e s v n xs)(m:∀ q,v.ownBlock=some q→w'.heap[q]? = w.heap[q]?):w'.ownsRow base e s v n xs:=by
 obtain ⟨f,b⟩:=h;refine ⟨f,?_⟩;rcases b with b|⟨g,c,d,rfl,l,j,r⟩
 ·exact .inl b
 ·exact .inr ⟨g,c,d,rfl,l,(m g rfl).trans j,r⟩
theorem zfx.same {v:Value}{f:List Ct}(h:zfx w B v f)(j:w.heap.size≤w'.heap.size)(g:∀ c∈f,∀ b,zeG c b→w'.heap[b]? = w.heap[b]?):zfx w' B v f:=fun c d=>
 ⟨(h c d).1.keep j (g c d),(h c d).2⟩
theorem zX.same {v:Value}{f:List zi}(h:zX w B v f)(o:w.heap.size≤w'.heap.size)(m:∀ p∈f,∀ b c,p.sa=some ⟨b,c,none⟩→w'.heap[b]? = w.heap[b]?):zX w' B v f:=fun p d=>
 ⟨zeX (h p d).1 (fun b c _ e=>m p d b c e),fun q c e=>by
  obtain ⟨g,j,l⟩:=(h p d).2 q c e
  exact ⟨g,nL_ j o,l⟩⟩
structure Stk (w:World)(B s:Nat)(vc vd:Value)(ls:List Ct)(ds:List zi):Prop where
 box:R_ w s #[vc,vd] 125
 le:B≤s
 rc:w.ownsRow B 59 5 vc ls.length (ctv ls)
 rd:w.ownsRow B 64 1 vd ds.length (pv ds)
 ac:zfx w B vc ls
 ad:zX w B vd ds
 sc:∀ c∈ls,∀ b,zeG c b→b≠s∧vd.ownBlock≠some b
 sd:∀ p∈ds,∀ sb so,p.sa=some ⟨sb,so,none⟩→sb≠s∧vc.ownBlock≠some sb
theorem Stk.keep {s:Nat}(h:Stk w B s vc vd ls ds)(l:w.heap.size≤w'.heap.size)(d:∀ b,B≤b→b<w.heap.size→w'.heap[b]? = w.heap[b]?):Stk w' B s vc vd ls ds:=
 ⟨(d s h.le (ze h.box)).trans h.box,h.le,zt h.rc (fun q e=>d q (h.rc.lt q e).1 (h.rc.lt q e).2),zt h.rd (fun q e=>d q (h.rd.lt q e).1 (h.rd.lt q e).2),h.ac.same l (fun c g b f=>d b ((h.ac c g).2 b f).1 ((h.ac c g).1.block_lt b f)),h.ad.same l (fun p j b m e=>d b ((h.ad p j).2 b m e).1 ((h.ad p j).2 b m e).2.1),h.sc,h.sd⟩
theorem Stk.below {s:Nat}(h:Stk w B s vc vd ls ds)(c:B_ w w'):Stk w' B s vc vd ls ds:=
 h.keep c.size (fun b _ d=>c.block b d)
theorem Stk.moreC {s:Nat}{d:Value}{x:Ct}{o:Obj}(h:Stk w B s vc vd ls ds)(D:B≤w.heap.size)(t:B_ w w1)(hx:za2 w1 x)(A:∀ b,zeG x b→w.heap.size≤b)(G:zR (w1.alloc o) vc w2 d)
  (Y:w2.ownsRow B 59 5 d (ls.length+1) (ctv ls++x.cs)):Stk (w2.setCell ⟨s,0,none⟩ d) B s d vd (ls++[x]) ds∧Below B w (w2.setCell ⟨s,0,none⟩ d)∧(∀ b,b<w.heap.size→b≠s→vc.ownBlock≠some b→(w2.setCell ⟨s,0,none⟩ d).heap[b]? = w.heap[b]?)∧(∀ b,b<w.heap.size→d.ownBlock=some b→vc.ownBlock=some b):=by
 have U:(59:TypeId)≠125:=by decide
 have V:(64:TypeId)≠125:=by decide
 have X:(59:TypeId)≠64:=by decide
 have h1:=h.below t;have I:B_ w1 (w1.alloc o):=(bR_ _ _).alloc (nR_ _) _;have y:=zq t I;have ac:=t.size;have ad:w1.heap.size<(w1.alloc o).heap.size:=by rw[zI];omega
 have ae:=G.grown.size;have Z:s<w.heap.size:=ze h.box;have E:vc.ownBlock≠some s:=zcE h.rc h.box U;have R:d.ownBlock≠some s:=fun e=>by
  rcases G.fresh s e with g|g
  ·exact E g
  ·omega
 have N:R_ w2 s #[vc,vd] 125:=G.row (((y.block s Z)).trans h.box) E;have z:∀ b,b<w.heap.size→b≠s→vc.ownBlock≠some b→(w2.setCell ⟨s,0,none⟩ d).heap[b]? = w.heap[b]?:=fun b j O M=>
  (hO_ w2 ⟨s,0,none⟩ b d O).trans ((G.grown.block b (by omega) (fun e=>M e.symm)).trans (y.block b j))
 have aa:w.heap.size≤(w2.setCell ⟨s,0,none⟩ d).heap.size:=by simp;omega
 have L:=h.ac.more (c:=x) D h.rc t A hx G;have T:∀ b,b<w.heap.size→d.ownBlock=some b→vc.ownBlock=some b:=fun b j e=>by
  rcases G.fresh b e with g|g
  ·exact g
  ·omega
 refine ⟨⟨?_,h.le,?_,?_,?_,?_,?_,?_⟩,?_,z,T⟩
 ·simpa using hS_ _ _ 0 _ _ d N
 ·rw[zsW];exact zt (by simpa using Y) (fun q e=>hO_ w2 ⟨s,0,none⟩ q d (fun m=>R (by rw[e,show q=s from m])))
 ·exact zt h.rd (fun q e=>z q (h.rd.lt q e).2 (fun m=>zcE h.rd h.box V (by rw[e,m])) (fun u=>zca h.rc h.rd X q u e))
 ·refine L.same (by simp) (fun c f b j=>hO_ w2 ⟨s,0,none⟩ b d (fun m=>?_));rcases List.mem_append.1 f with f|f
  ·exact (h.sc c f b j).1 m
  ·obtain rfl:c=x:=by simpa using f
   have:=A b j;have h2:b=s:=m;omega
 ·exact h.ad.same aa (fun p l b r e=>z b ((h.ad p l).2 b r e).2.1 (h.sd p l b r e).1 (h.sd p l b r e).2)
 ·intro c f b j;rcases List.mem_append.1 f with f|f
  ·exact h.sc c f b j
  ·obtain rfl:c=x:=by simpa using f
   have ab:=A b j;exact ⟨by omega,fun e=>by have:=(h.rd.lt b e).2;omega⟩
 ·intro p l C r e;obtain ⟨F,H⟩:=h.sd p l C r e;have hl:=((h.ad p l).2 C r e).2.1;refine ⟨F,fun u=>?_⟩;rcases G.fresh C u with g|g
  ·exact H g
  ·omega
 ·have J:Below B (w1.alloc o) w2:=G.below (by omega) (fun q e=>(h.rc.lt q e).1);exact (((y.mono D).trans J).setCell h.le _)
theorem Stk.moreD {s:Nat}{l:Value}{p:zi}{o:Obj}(h:Stk w B s vc vd ls ds)(N:B≤w.heap.size)(L:B_ w w1)(hp:zf w1 p.sa p.cap p.bs)(H:∀ d j,p.sa=some ⟨d,j,none⟩→B≤d∧d<w1.heap.size∧d≠s∧vc.ownBlock≠some d∧vd.ownBlock≠some d)(G:zR (w1.alloc o) vd w2 l)
  (ho:w2.ownsRow B 64 1 l (ds.length+1) (pv ds++[p.val])):Stk (w2.setCell ⟨s,1,none⟩ l) B s vc l ls (ds++[p])∧Below B w (w2.setCell ⟨s,1,none⟩ l):=by
 have Y:(59:TypeId)≠125:=by decide
 have Z:(64:TypeId)≠125:=by decide
 have aa:(59:TypeId)≠64:=by decide
 have J:B_ w1 (w1.alloc o):=(bR_ _ _).alloc (nR_ _) _;have D:=zq L J;have ad:=L.size;have ae:w1.heap.size<(w1.alloc o).heap.size:=by rw[zI];omega
 have af:=G.grown.size;have hs:s<w.heap.size:=ze h.box;have M:vd.ownBlock≠some s:=zcE h.rd h.box Z;have V:l.ownBlock≠some s:=fun e=>by
  rcases G.fresh s e with g|g
  ·exact M g
  ·omega
 have T:R_ w2 s #[vc,vd] 125:=G.row (((D.block s hs)).trans h.box) M;have E:∀ b,b<w.heap.size→b≠s→vd.ownBlock≠some b→(w2.setCell ⟨s,1,none⟩ l).heap[b]? = w.heap[b]?:=fun b m U R=>
  (hO_ w2 ⟨s,1,none⟩ b l U).trans ((G.grown.block b (by omega) (fun e=>R e.symm)).trans (D.block b m))
 have ac:w.heap.size≤(w2.setCell ⟨s,1,none⟩ l).heap.size:=by simp;omega
 have F:∀ d,l.ownBlock=some d→d<w1.heap.size→vd.ownBlock=some d:=fun d e X=>by
  rcases G.fresh d e with g|g
  ·exact g
  ·omega
 refine ⟨⟨?_,h.le,?_,?_,?_,?_,?_,?_⟩,?_⟩
 ·simpa using hS_ _ _ 1 _ _ l T
 ·exact zt h.rc (fun q e=>E q (h.rc.lt q e).2 (fun f=>zcE h.rc h.box Y (by rw[e,f])) (zca h.rc h.rd aa q e))
 ·have ab:w2.ownsRow B 64 1 l (ds++[p]).length (pv (ds++[p])):=by simpa[pv] using ho
  exact zt ab (fun q e=>hO_ w2 ⟨s,1,none⟩ q l (fun f=>V (by rw[e,show q=s from f])))
 ·exact h.ac.same ac (fun c y b m=>E b ((h.ac c y).1.block_lt b m) (h.sc c y b m).1 (h.sc c y b m).2)
 ·intro q f;rcases List.mem_append.1 f with f|f
  ·obtain ⟨k1,I⟩:=h.ad q f;refine ⟨zeX k1 (fun b j _ e=>E b (I b j e).2.1 (h.sd q f b j e).1 (I b j e).2.2),fun d j e=>?_⟩;obtain ⟨r,t,u⟩:=I d j e;exact ⟨r,by omega,fun z=>u (F d z (by omega))⟩
  ·obtain rfl:q=p:=by simpa using f
   refine ⟨zeX hp (fun b j _ e=>?_),fun d j e=>?_⟩
   ·obtain ⟨r,t,u,C,A⟩:=H b j e;rw[hO_ w2 ⟨s,1,none⟩ b l u,G.grown.block b (by omega) (fun e=>A e.symm),J.block b t]
   ·obtain ⟨r,t,u,C,A⟩:=H d j e;exact ⟨r,by simp;omega,fun z=>A (F d z t)⟩
 ·intro c y b m;obtain ⟨r,t⟩:=h.sc c y b m;have X:=(h.ac c y).1.block_lt b m;exact ⟨r,fun z=>t (F b z (by omega))⟩
 ·intro q f d j e;rcases List.mem_append.1 f with f|f
  ·exact h.sd q f d j e
  ·obtain rfl:q=p:=by simpa using f
   obtain ⟨r,t,u,C,A⟩:=H d j e;exact ⟨u,C⟩
 ·have O:Below B (w1.alloc o) w2:=G.below (by omega) (fun q e=>(h.rd.lt q e).1);exact (((D.mono N).trans O).setCell h.le _)
structure zf4 (w:World)(ca:Option Addr)(cc:Nat)(ls:List Ct)(da:Option Addr)(dc:Nat)(ds:List zi):Prop where
 certs:zaZ w ca ls
 each:∀ c∈ls,za2 w c
 digs:zy w da dc ds
 same:zQ ds=(zD ls).map CV.d
 small:ls.length≤400
 cle:ls.length≤cc
 cmax:cc≤9223372036854775807
theorem zf4.below {d:Option Addr}{f:Nat}{g:Option Addr}{j:Nat}(h:zf4 w d f ls g j ds)(b:B_ w w'):zf4 w' d f ls g j ds:=
 ⟨h.certs.below b,fun c l=>(h.each c l).below b,h.digs.below b,h.same,h.small,h.cle,h.cmax⟩
theorem zf4.len {b:Option Addr}{c:Nat}{d:Option Addr}{f:Nat}(h:zf4 w b c ls d f ds):ds.length=ls.length:=by
 rw[zgP h.same,zbh]
structure zdC (w:World)(s:Nat)(ls:List Ct)(ca:Option Addr)(cc:Nat)(da:Option Addr)(dc:Nat)(ds:List zi):Prop where
 box:R_ w s #[.slice ca ls.length cc,.slice da ls.length dc] 125
 at':zf4 w ca cc ls da dc ds
theorem zdC.below {s:Nat}{b:Option Addr}{c:Nat}{d:Option Addr}{f:Nat}(h:zdC w s ls b c d f ds)(g:B_ w w'):zdC w' s ls b c d f ds:=
 ⟨(g.block s (ze h.box)).trans h.box,h.at'.below g⟩
theorem Stk.at {s:Nat}(h:Stk w B s vc vd ls ds)(m:zQ ds=(zD ls).map CV.d)(r:ls.length≤400):∃ b c d f,vc=.slice b ls.length c∧vd=.slice d ls.length f∧zdC w s ls b c d f ds:=by
 have q:ds.length=ls.length:=by rw[zgP m,zbh]
 obtain ⟨b,c,l,_,p,_⟩:=znT h.rc h.ac;obtain ⟨d,f,j,_,o,_⟩:=zcl h.rd h.ad;have g:=p (by omega);rw[q] at j o;refine ⟨b,c,d,f,l,j,⟨by rw[←l,←j];exact h.box,⟨g.certs,g.each,o (by omega),m,r,g.le,g.max⟩⟩⟩
variable {U U' U1:Nat→Bool}{sa ra va:Option Addr}{ss:List ByteArray}{qs bl pl cbl cpl:List zi}{cap rc:Nat}{bs vl:List Int}{v':Value}
structure Sub (W w:World):Prop where
 size:W.heap.size≤w.heap.size
 cell:∀ a v,W.cell? a=some v→w.cell? a=some v
theorem Sub.refl (w:World):Sub w w:=⟨nR_ _,fun _ _ h=>h⟩
theorem Sub.trans {a b c:World}(h:Sub a b)(k:Sub b c):Sub a c:=⟨nT_ h.size k.size,fun x v e=>k.cell x v (h.cell x v e)⟩
theorem Sub.below (h:B_ w w'):Sub w w':=⟨h.size,fun a _ e=>(h.cell (World.block_lt_of_cell? w a e)).trans e⟩
theorem zaV.sub (h:zaV w sa bs)(k:Sub w w'):zaV w' sa bs:=by
 rcases h with h|⟨c,d,e,h⟩
 ·exact .inl h
 ·exact .inr ⟨c,d,e,fun j b=>k.cell _ _ (h j b)⟩
theorem zf.sub (h:zf w sa cap bs)(k:Sub w w'):zf w' sa cap bs:=⟨h.le,h.max,h.some,h.nil,h.bytes.sub k⟩
theorem zbG.sub {b:List zi}(h:zbG w sa b)(k:Sub w w'):zbG w' sa b:=by
 refine ⟨?_,fun p d=>(h.each p d).sub k⟩;rcases h.cells with h|⟨f,g,e,h⟩
 ·exact .inl h
 ·exact .inr ⟨f,g,e,fun j c=>k.cell _ _ (h j c)⟩
theorem zy.sub {b:List zi}(h:zy w sa cap b)(k:Sub w w'):zy w' sa cap b:=⟨h.le,h.max,h.small,h.some,h.parts.sub k⟩
theorem HAt.sub {d:Option Addr}{f:Nat}{g:Option Addr}{j:Nat}(h:HAt w d f bl g j pl)(k:Sub w w'):HAt w' d f bl g j pl:=
 ⟨h.lb.sub k,h.lp.sub k,fun b c e=>nL_ (h.rb b c e) k.size,fun b c e=>nL_ (h.rp b c e) k.size⟩
theorem zav.sub (h:zav w va vl)(k:Sub w w'):zav w' va vl:=by
 refine ⟨?_⟩;rcases h.cells with h|⟨c,d,e,h⟩
 ·exact .inl h
 ·exact .inr ⟨c,d,e,fun j b=>k.cell _ _ (h j b)⟩
theorem za2.sub {c:Ct}(h:za2 w c)(k:Sub w w'):za2 w' c:=⟨h.hat.sub k,h.ints.sub k,h.vle⟩
theorem zas.sub (h:zas w sa ss)(k:Sub w w'):zas w' sa ss:=by
 refine ⟨?_,h.size⟩;rcases h.cells with h|⟨c,d,e,h⟩
 ·exact .inl h
 ·exact .inr ⟨c,d,e,fun j b=>k.cell _ _ (h j b)⟩
theorem zbi.sub (h:zbi w sa cap ss)(k:Sub w w'):zbi w' sa cap ss:=⟨h.le,h.max,h.nil,h.strs.sub k⟩
theorem zcG.sub {b:Bc}(h:zcG w b)(k:Sub w w'):zcG w' b:=⟨h.strs.sub k,h.le,h.max,h.nil,fun c d e=>nL_ (h.lt c d e) k.size⟩
theorem zed.sub {m:Msg}(h:zed w m ss bl pl cbl cpl vl)(k:Sub w w'):zed w' m ss bl pl cbl cpl vl:=⟨h.e1,h.e2,h.e3,h.e4,h.e5,h.e6,h.s1,h.s6,h.s7,h.txs.sub k,h.bat.sub k,h.par.sub k,h.cbat.sub k,h.cpar.sub k,h.vot.sub k⟩
theorem MAt.sub {x:MV}(h:MAt w x)(k:Sub w w'):MAt w' x:=⟨h.at'.sub k,h.dig.sub k,h.dn⟩
theorem zcf.sub {d:List Sg}(h:zcf w sa d)(k:Sub w w'):zcf w' sa d:=by
 refine ⟨?_,fun s c=>⟨(h.each s c).1.sub k,(h.each s c).2⟩⟩;rcases h.cells with h|⟨f,g,e,h⟩
 ·exact .inl h
 ·exact .inr ⟨f,g,e,fun j b=>⟨k.cell _ _ (h j b).1,k.cell _ _ (h j b).2.1,k.cell _ _ (h j b).2.2.1,k.cell _ _ (h j b).2.2.2⟩⟩
theorem zeo.sub {b:List Sg}(h:zeo w sa cap b)(k:Sub w w'):zeo w' sa cap b:=⟨h.le,h.max,h.small,h.some,h.slots.sub k⟩
theorem zby.sub (h:zby w)(k:Sub w w'):zby w':=⟨fun i b=>k.cell _ _ (h.words i b),fun i b=>k.cell _ _ (h.orders i b),fun i b=>k.cell _ _ (h.lanes i b)⟩
def zo (U:Nat→Bool)(w:World):World:=⟨w.heap.mapIdx fun i o=>if U i then .cells #[] 0 (0,0) else o,fun _ _=>0,0,default,#[]⟩
theorem zb2 (U:Nat→Bool)(w:World):(zo U w).heap.size=w.heap.size:=by simp[zo]
theorem zcT {b:Nat}(h:U b=false):(zo U w).heap[b]? = w.heap[b]?:=by
 simp[zo,Array.getElem?_mapIdx,h]
theorem zs0 {b:Nat}(h:U b=true)(c:b<w.heap.size):(zo U w).heap[b]? = some (.cells #[] 0 (0,0)):=by
 simp[zo,h,c]
theorem zgz {a:Addr}{v:Value}(h:(zo U w).cell? a=some v):U a.block=false∧w.cell? a=some v:=by
 cases hu:U a.block with
 | false=>exact ⟨rfl,by rw[←h];exact (cB_ (zcT hu)).symm⟩
 | true=>
  have b:=World.block_lt_of_cell? _ _ h;rw[zb2] at b;rw[World.cell?,zs0 hu b] at h
  simp at h
theorem zH (U:Nat→Bool)(w:World):Sub (zo U w) w:=⟨by rw[zb2];exact nR_ _,fun _ _ h=>(zgz h).2⟩
theorem zbO {b:Nat}(h:U b=true)(j:Nat)(v:Value):zo U (w.setCell ⟨b,j,none⟩ v)=zo U w:=by
 unfold zo
 congr 1
 apply Array.ext
 ·simp[World.setCell]
 ·intro i f g;simp only[Array.getElem_mapIdx];by_cases hi:i=b
  ·subst hi;simp[h]
  ·have:(w.setCell ⟨b,j,none⟩ v).heap[i]? = w.heap[i]?:=hO_ w ⟨b,j,none⟩ i v hi;have c:i<(w.setCell ⟨b,j,none⟩ v).heap.size:=by simpa using f
   have d:i<w.heap.size:=by simpa using g
   rw[Array.getElem?_eq_getElem c,Array.getElem?_eq_getElem d] at this;rw[Option.some.inj this]
structure zah (U U':Nat→Bool)(w w':World):Prop where
 os:w'.os=w.os
 tape:w'.tape=w.tape
 output:w'.output=w.output
 size:w.heap.size≤w'.heap.size
 block:∀ b,b<w.heap.size→U b=false→w'.heap[b]? = w.heap[b]?
 us:∀ b,b<w.heap.size→U' b=U b
theorem zah.refl (U:Nat→Bool)(w:World):zah U U w w:=⟨rfl,rfl,rfl,nR_ _,fun _ _ _=>rfl,fun _ _=>rfl⟩
theorem zah.trans {d:Nat→Bool}(h:zah U U1 w w1)(k:zah U1 d w1 w2):zah U d w w2:=
 ⟨k.os.trans h.os,k.tape.trans h.tape,k.output.trans h.output,nT_ h.size k.size,
  fun b c f=>(k.block b (nL_ c h.size) (by rw[h.us b c];exact f)).trans (h.block b c f),
  fun b c=>(k.us b (nL_ c h.size)).trans (h.us b c)⟩
theorem zah.below (U:Nat→Bool)(h:B_ w w'):zah U U w w':=⟨h.os,h.tape,h.output,h.size,fun b c _=>h.block b c,fun _ _=>rfl⟩
theorem zah.sub (h:zah U U' w w'):Sub (zo U w) (zo U' w'):=by
 refine ⟨by rw[zb2,zb2];exact h.size,fun a v e=>?_⟩;obtain ⟨d,b⟩:=zgz e;have c:=World.block_lt_of_cell? _ _ b;rw[cB_ (zcT (by rw[h.us _ c];exact d)),cB_ (h.block _ c d)];exact b
theorem zah.set (h:zah U U' w w'){b:Nat}(f:U' b=true)(j:Nat)(v:Value):zah U U' w (w'.setCell ⟨b,j,none⟩ v):=
 ⟨h.os,h.tape,h.output,by simpa using h.size,fun k d c=>(hO_ w' ⟨b,j,none⟩ k v (fun e=>by rw[e] at d c;rw[←h.us b d,f] at c;cases c)).trans (h.block k d c),h.us⟩
def zaz (U:Nat→Bool)(q:Option Nat)(b:Nat):Bool:=U b||decide (q=some b)
theorem zau {q:Option Nat}{b:Nat}(h:U b=true):zaz U q b=true:=by simp[zaz,h]
theorem zd3 {q:Option Nat}{b:Nat}(h:q=some b):zaz U q b=true:=by simp[zaz,h]
theorem zbj {q:Option Nat}{b:Nat}(h:U b=false)(c:q≠some b):zaz U q b=false:=by simp[zaz,h,c]
theorem zah.grew {v:Value}(h:zah U U' w w')(G:zR w' v w2 v')(f:∀ q,v.ownBlock=some q→U' q=true):zah U (zaz U' v'.ownBlock) w w2:=
 h.trans ⟨G.grown.os,G.grown.tape,G.grown.output,G.grown.size,fun b d c=>G.grown.block b d (fun e=>by have:=f b e.symm;rw[this] at c;cases c),fun b d=>by
  cases c:U' b with
  | true=>exact zau c
  | false=>
   refine zbj c (fun e=>?_)
   rcases G.fresh b e with h1|h1
   ·rw[f b h1] at c;cases c
   ·omega⟩
theorem zb3 (h:zf w sa cap bs)(d:∀ b f,sa=some ⟨b,f,none⟩→bs≠[]→U b=false):zf (zo U w) sa cap bs:=
 zb9 (G:=fun k=>U k=false) (fun _ c=>zcT c) h d
theorem zs1 (h:zy w ra rc qs)(c:zfH (fun k=>U k=false) ra qs):zy (zo U w) ra rc qs:=
 zeS (G:=fun k=>U k=false) (fun _ b=>zcT b) h c
theorem MAt.hid {x:MV}(h:MAt w x)(c:zbH (fun k=>U k=false) x):MAt (zo U w) x:=
 h.stays (G:=fun k=>U k=false) (fun _ b=>zcT b) c
theorem za2.hid {c:Ct}(h:za2 w c)(f:∀ b,zeG c b→U b=false):za2 (zo U w) c:=
 h.keep (by rw[zb2];exact nR_ _) (fun b d=>zcT (f b d))
theorem zas.hid (h:zas w sa ss)(f:∀ b c,sa=some ⟨b,c,none⟩→ss≠[]→U b=false):zas (zo U w) sa ss:=by
 refine ⟨?_,h.size⟩;rcases h.cells with h|⟨b,c,e,h⟩
 ·exact .inl h
 ·by_cases hn:ss=[]
  ·exact .inl hn
  ·exact .inr ⟨b,c,e,fun j d=>(cB_ (zcT (f b c e hn))).trans (h j d)⟩
theorem zcG.hid {b:Bc}(h:zcG w b)(f:∀ c d,b.ta=some ⟨c,d,none⟩→U c=false):zcG (zo U w) b:=
 ⟨h.strs.hid (fun c d e _=>f c d e),h.le,h.max,h.nil,fun c d e=>by rw[zb2];exact h.lt c d e⟩
def Bnd (U:Nat→Bool)(w:World):Prop:=∀ b,U b=true→b<w.heap.size
theorem Bnd.new (h:Bnd U w){b:Nat}(c:w.heap.size≤b):U b=false:=by
 cases hu:U b with
 | false=>rfl
 | true=>have:=h b hu;omega
theorem Bnd.mono (h:Bnd U w)(d:w.heap.size≤w'.heap.size):Bnd U w':=fun b c=>nL_ (h b c) d
theorem Bnd.grew (h:Bnd U w){e:TypeId}{s n base:Nat}{v:Value}{g:List Value}(f:w.heap.size≤w'.heap.size)(d:w'.ownsRow base e s v n g):Bnd (zaz U v.ownBlock) w':=fun b c=>by
 cases hu:U b with
 | true=>exact nL_ (h b hu) f
 | false=>
  rw[zaz,hu,Bool.false_or] at c
  exact (d.lt b (of_decide_eq_true c)).2
variable {R j:Nat}{sh:Bool}
structure zaA (R:Nat)(w w':World):Prop where
 os:w'.os=w.os
 tape:w'.tape=w.tape
 output:w'.output=w.output
 size:w.heap.size≤w'.heap.size
 block:∀ k,k<w.heap.size→k≠R→w'.heap[k]? = w.heap[k]?
theorem zaA.refl (R:Nat)(w:World):zaA R w w:=⟨rfl,rfl,rfl,nR_ _,fun _ _ _=>rfl⟩
theorem zaA.trans {a b c:World}(h:zaA R a b)(k:zaA R b c):zaA R a c:=
 ⟨k.os.trans h.os,k.tape.trans h.tape,k.output.trans h.output,nT_ h.size k.size,fun i d f=>(k.block i (nL_ d h.size) f).trans (h.block i d f)⟩
theorem zbE (h:B_ w w'):zaA R w w':=⟨h.os,h.tape,h.output,h.size,fun k b _=>h.block k b⟩
theorem zaA.below (h:zaA R w w')(c:B≤R)(b:B≤w.heap.size):Below B w w':=⟨h.os,h.tape,h.output,h.size,fun k d=>h.block k (by omega) (by omega)⟩
theorem zaA.setCell {v:Value}(h:zaA R w w'):zaA R w (w'.setCell ⟨R,j,none⟩ v):=
 ⟨h.os,h.tape,h.output,by simpa using h.size,fun k c b=>(hO_ w' ⟨R,j,none⟩ k v b).trans (h.block k c b)⟩
theorem zf.only (h:zf w sa cap bs)(m:zaA R w w')(l:∀ b c,sa=Option.some ⟨b,c,Option.none⟩→b≠R):zf w' sa cap bs:=by
 refine ⟨h.le,h.max,h.some,h.nil,?_⟩;rcases h.bytes with g|⟨b,c,e,d⟩
 ·exact .inl g
 ·exact .inr ⟨b,c,e,fun j f=>(cB_ (m.block b (bL_ (d j f)) (l b c e))).trans (d j f)⟩
structure zao (w:World)(R:Nat)(l:List Int)(sh:Bool):Prop where
 out:∃ la c,R_ w R #[.slice la l.length c,.bool sh] 171∧zf w la c l∧∀ sb so,la=some ⟨sb,so,none⟩→sb≠R∧(l≠[]→sb<R)
theorem zao.below {l:List Int}(h:zao w R l sh)(b:B_ w w'):zao w' R l sh:=by
 obtain ⟨j,c,d,f,g⟩:=h.out;exact ⟨j,c,zn b d,f.below b,g⟩
theorem zao.lt {l:List Int}(h:zao w R l sh):R<w.heap.size:=by
 obtain ⟨d,c,b,_⟩:=h.out;exact ze b
theorem zao.stays {l:List Int}(h:zao w R l sh)(j:∀ k,k≤R→w'.heap[k]? = w.heap[k]?):zao w' R l sh:=by
 obtain ⟨r,c,o,b,g⟩:=h.out;refine ⟨r,c,(j R (nR_ _)).trans o,⟨b.le,b.max,b.some,b.nil,?_⟩,g⟩;rcases b.bytes with d|⟨f,m,e,p⟩
 ·exact .inl d
 ·by_cases d:l=[]
  ·exact .inl d
  ·exact .inr ⟨f,m,e,fun k q=>(cB_ (j f (Nat.le_of_lt ((g f m e).2 d)))).trans (p k q)⟩
theorem zao.far {b:Nat}{v:Value}{l:List Int}(h:zao w R l sh)(c:R<b):zao (w.setCell ⟨b,j,none⟩ v) R l sh:=
 h.stays (fun k d=>hO_ w ⟨b,j,none⟩ k v (by show k≠b;omega))
def tkT (n:Nat)(l:List Int)(sh:Bool):List Int:=if sh=true∨l.length<n then [] else l.take n
def tkL (n:Nat)(l:List Int)(sh:Bool):List Int:=if sh=true∨l.length<n then l else l.drop n
def tkS (n:Nat)(l:List Int)(sh:Bool):Bool:=sh||decide (l.length<n)
theorem zmI {l:List Int}(h:sh=true∨l.length<n):tkT n l sh=[]∧tkL n l sh=l∧tkS n l sh=true:=by
 refine ⟨if_pos h,if_pos h,?_⟩;rcases h with h|h<;>simp[tkS,h]
theorem ziX {l:List Int}(h:n≤l.length):tkT n l false=l.take n∧tkL n l false=l.drop n∧tkS n l false=false:=by
 have h':¬((false:Bool)=true∨l.length<n):=by simp;omega
 exact ⟨if_neg h',if_neg h',by simp[tkS];omega⟩
theorem zmJ {l:List Int}:(tkL n l sh).length≤l.length:=by unfold tkL;split<;>simp
structure zgg (w w':World)(e:Ending)(R:Nat)(t l:List Int)(sh:Bool):Prop where
 out:∃ ta tc,e=.returned (.slice ta t.length tc)∧zf w' ta tc t∧(∀ sb so,ta=some ⟨sb,so,none⟩→sb≠R)∧zao w' R l sh∧zaA R w w'
theorem zip {d f c:Nat}{l:List Int}(h:zf w (some ⟨d,f,none⟩) c l)(q:n≤l.length):zf w (some ⟨d,f+n,none⟩) (c-n) (l.drop n):=by
 refine ⟨by have:=h.le;simp;omega,by have:=h.max;omega,.inr ⟨_,_,rfl⟩,(fun e=>by cases e),?_⟩;rcases h.bytes with p|⟨b,o,e,g⟩
 ·exact .inl (by rw[p];simp)
 ·cases e;refine .inr ⟨d,f+n,rfl,fun j m=>?_⟩;rw[List.length_drop] at m;rw[Nat.add_assoc,g (n+j) (by omega)];simp[List.getD]
theorem zf.takeR (h:zf w sa cap bs)(m c:Nat)(q:m≤bs.length)(o:m≤c)(p:c≤cap)(f:sa=Option.none→c=0):zf w sa c (bs.take m):=by
 refine ⟨by simp;omega,by have:=h.max;omega,?_,f,?_⟩
 ·rcases h.some with e|e
  ·exact .inl (by omega)
  ·exact .inr e
 ·rcases h.bytes with b|⟨g,l,rfl,b⟩
  ·exact .inl (by rw[b];simp)
  ·refine .inr ⟨g,l,rfl,fun j d=>?_⟩;rw[lT9_] at d;rw[b j (by omega)];simp[List.getD,show j<m by omega]
theorem ziq (R n:Nat)(l:List Int)(sh:Bool)(w:World)(t:zao w R l sh)(U:l.length≤100000)(Y:n≤100000) :
  Calls prog 192 #[P_ R 0,I_ (n:Int)] w fun e w'=>zgg w w' e R (tkT n l sh) (tkL n l sh) (tkS n l sh):=by
 obtain ⟨z,c,f,j,g⟩:=t.out;have J:=zb f 0 (.slice z l.length c) rfl;have L:=zb f 1 (.bool sh) rfl;have M:=zd f 0;have N:=zd f 1;by_cases hs:l.length<n
 ·have I:(l.length:Int)<n:=by omega
  obtain ⟨o,p,q⟩:=zmI (sh:=sh) (.inr hs);rw[o,p,q];have m:(w.setCell ⟨R,1,none⟩ (.bool true)).heap[R]? = some (.cells #[.slice z l.length c,.bool true] 171 (0,0)):=by simpa using hS_ _ _ 1 _ _ (.bool true) f
  have r:Hid (zgg w (w.setCell ⟨R,1,none⟩ (.bool true)) (.returned (O_)) R [] l true):=by
   refine ⟨none,0,rfl,⟨nR_ _,by decide,.inl rfl,fun _=>rfl,.inl rfl⟩,(fun _ _ e=>by cases e),⟨z,c,m,j.only ((zaA.refl R w).setCell) (fun b d e=>(g b d e).1),g⟩,(zaA.refl R w).setCell⟩
  clear m f j g t o p q hs;go_in;go_wp2_with fail
  go_ret;exact r.out
 ·have I:¬(l.length:Int)<n:=by omega
  cases sh with
  | true=>
   obtain ⟨o,p,q⟩:=zmI (l:=l) (n:=n) (sh:=true) (.inl rfl);rw[o,p,q];have r:Hid (zgg w w (.returned (O_)) R [] l true):=⟨none,0,rfl,⟨nR_ _,by decide,.inl rfl,fun _=>rfl,.inl rfl⟩,(fun _ _ e=>by cases e),t,zaA.refl R w⟩;clear f j g t o p q hs;go_in;go_wp2_with fail
   go_ret;exact r.out
  | false=>
   obtain ⟨o,p,q⟩:=ziX (l:=l) (n:=n) (by omega);rw[o,p,q];have X:=j.le;have aa:(n:Int)≤c:=by omega
   have Z:(0:Int)≤n:=by omega
   have V:(l.length:Int)≤c:=by omega
   have ab:(n:Int)≤l.length:=by omega
   have y:(l.take n).length=n:=by rw[lT9_];omega
   have u:(l.drop n).length=l.length-n:=by rw[List.length_drop]
   cases z with
   | none=>
    have G:=j.nil rfl;have D:l=[]:=eN_ (by omega);obtain rfl:n=0:=by subst D;simp at hs;omega
    subst D G;have m:(w.setCell ⟨R,0,none⟩ (O_)).heap[R]? = some (.cells #[O_,.bool false] 171 (0,0)):=by simpa using hS_ _ _ 0 _ _ (O_) f
    have r:Hid (zgg w (w.setCell ⟨R,0,none⟩ (O_)) (.returned (O_)) R [] [] false):=⟨none,0,rfl,⟨nR_ _,by decide,.inl rfl,fun _=>rfl,.inl rfl⟩,(fun _ _ e=>by cases e),⟨none,0,m,⟨nR_ _,by decide,.inl rfl,fun _=>rfl,.inl rfl⟩,fun _ _ e=>by cases e⟩,(zaA.refl R w).setCell⟩;clear m f j g t o p q hs y u;go_in;go_wp2_with fail
    go_ret;exact r.out
   | some s=>
    have A:=j.takeR n c (by omega) (by omega) (nR_ _) (fun e=>by cases e);by_cases hc:c=n;obtain rfl:n=l.length:=by omega
    subst hc;have C:l.drop l.length=[]:=List.drop_of_length_le (nR_ _);rw[C,tL_ (nR_ _)];have m:(w.setCell ⟨R,0,none⟩ (.slice (some s) 0 0)).heap[R]? = some (.cells #[.slice (some s) 0 0,.bool false] 171 (0,0)):=by simpa using hS_ _ _ 0 _ _ (.slice (some s) 0 0) f
    have r:Hid (zgg w (w.setCell ⟨R,0,none⟩ (.slice (some s) 0 0)) (.returned (.slice (some s) l.length l.length)) R l [] false):=⟨some s,l.length,rfl,j.only ((zaA.refl R w).setCell) (fun b d e=>(g b d e).1),(fun b d e=>(g b d e).1),⟨some s,0,m,⟨nR_ _,by decide,.inl rfl,(fun e=>by cases e),.inl rfl⟩,fun b d e=>⟨(g b d e).1,fun h=>absurd rfl h⟩⟩,(zaA.refl R w).setCell⟩;clear m f j g t o p q hs y u A C
    rotate_left
    obtain ⟨b,d,F⟩:∃ b d,(some s:Option Addr)=some ⟨b,d,none⟩:=by
     rcases j.some with h|h
     ·omega
     ·exact h
    cases F;have O:¬(c:Int)=n:=by omega
    have T:(n:Int)<c:=by omega
    have m:(w.setCell ⟨R,0,none⟩ (.slice (some ⟨b,d+n,none⟩) (l.length-n) (c-n))).heap[R]? = some (.cells #[.slice (some ⟨b,d+n,none⟩) (l.drop n).length (c-n),.bool false] 171 (0,0)):=by rw[u];simpa using hS_ _ _ 0 _ _ (.slice (some ⟨b,d+n,none⟩) (l.length-n) (c-n)) f
    have B:=g b d rfl;have r:Hid (zgg w (w.setCell ⟨R,0,none⟩ (.slice (some ⟨b,d+n,none⟩) (l.length-n) (c-n))) (.returned (.slice (some ⟨b,d,none⟩) n c)) R (l.take n) (l.drop n) false):=⟨some ⟨b,d,none⟩,c,by rw[y],A.only ((zaA.refl R w).setCell) (fun b d e=>(g b d e).1),(fun b d e=>(g b d e).1),⟨some ⟨b,d+n,none⟩,c-n,m,(zip j (by omega)).only ((zaA.refl R w).setCell) (fun _ _ e=>by cases e;exact B.1),(fun _ _ e=>by cases e;exact ⟨B.1,fun H=>B.2 (fun E=>H (by rw[E];simp))⟩)⟩,(zaA.refl R w).setCell⟩;clear m f j g t o p q hs y u A hc
    rotate_left
    all_goals
     go_in;go_wp2_with fail
     go_ret;exact r.out
theorem zq1 (a b:Nat)(f:a<9223372036854775808)(g:b<9223372036854775808) :
  bits .and .i64 (a:Int) (b:Int)=((a &&& b:Nat):Int)∧bits .or .i64 (a:Int) (b:Int)=((a ||| b:Nat):Int):=by
 refine bits_nat .i64 63 (by decide) (fun n d c=>?_) a b (by omega) (by omega);rw[IntKind.wrap_i64];have:n<9223372036854775808:=by simpa using c
 omega
theorem zuA (y x:Int)(d:0≤y)(g:y≤65535)(c:0≤x)(f:x≤255):bits .or .i64 (y*256) x=256*y+x:=by
 obtain ⟨a,rfl⟩:=Int.eq_ofNat_of_zero_le d;obtain ⟨b,rfl⟩:=Int.eq_ofNat_of_zero_le c;have h:=(zq1 (a*256) b (by omega) (by omega)).2;rw[show ((a:Int)*256)=((a*256:Nat):Int) by omega,h];have e:a*256 ||| b=a*256+b:=by
  have:=Nat.shiftLeft_add_eq_or_of_lt (i:=8) (b:=b) (by omega) a;rw[Nat.shiftLeft_eq] at this;exact this.symm
 rw[e];omega
def za3 (l:List Int):Int:=l.foldl (fun n x=>256*n+x) 0
theorem zq2 (l:List Int)(x:Int):za3 (l++[x])=256*za3 l+x:=by simp[za3]
def zW (l:List Int):Prop:=∀ x∈l,0≤x∧x≤255
theorem znX (l:List Int)(h:zW l)(d:l.length≤3):0≤za3 l∧za3 l≤16777215:=by
 match l,d with
 | [],_=>decide
 | [a],_=>have:=h a (by simp);simp[za3];omega
 | [a,b],_=>have:=h a (by simp);have:=h b (by simp);simp[za3];omega
 | [a,b,c],_=>have:=h a (by simp);have:=h b (by simp);have:=h c (by simp);simp[za3];omega
theorem zW.tkT {l:List Int}(h:zW l):zW (tkT n l sh):=by
 unfold Go.Proofs.YtdepbohhmfkjgaaGreatDoor.tkT
 split
 ·intro x b;cases b
 ·intro x b;exact h x (List.mem_of_mem_take b)
theorem zW.tkL {l:List Int}(h:zW l):zW (tkL n l sh):=by
 unfold Go.Proofs.YtdepbohhmfkjgaaGreatDoor.tkL
 split
 ·exact h
 ·intro x b;exact h x (List.mem_of_mem_drop b)
theorem zf5 {l:List Int}:(tkT n l sh).length≤n:=by
 unfold tkT
 split
 ·simp
 ·rw[lT9_];omega
structure zuf (w w':World)(e:Ending)(R:Nat)(x:Int)(l:List Int)(sh:Bool):Prop where
 out:e=.returned (I_ x)∧zao w' R l sh∧zaA R w w'
theorem zhv (R n:Nat)(l:List Int)(sh:Bool)(w:World)(c:zao w R l sh)(C:l.length≤100000)(U:n≤3)(G:zW l) :
  Calls prog 151 #[P_ R 0,I_ (n:Int)] w fun e w'=>zuf w w' e R (za3 (tkT n l sh)) (tkL n l sh) (tkS n l sh):=by
 have o:=ziq R n l sh w c C (by omega);have d:=G.tkT (n:=n) (sh:=sh);have Z:=zf5 (n:=n) (l:=l) (sh:=sh);generalize tkT n l sh=t at *;generalize tkL n l sh=l2 at *;generalize tkS n l sh=s2 at *;go_in;go_wp2_with fail
 refine o.mono ?_;rintro e M ⟨L,tc,B,F,-,u,E⟩;subst B;dsimp only;clear o;have V:(t.length:Int)≤3:=by omega
 go_upto_region 3 with fail
 go_loopw [12,5] (fun j v wr=>∃ (k:Nat),k≤t.length∧j=I_ k∧v=I_ (za3 (t.take k))∧wr=M) (fun j _ _=>t.length-(intOf j).toNat)
 case atStart=>exact ⟨0,nZ_ _,rfl,rfl,rfl⟩
 case round=>
  obtain ⟨k,T,rfl,rfl,rfl⟩:=hrel;by_cases hlt:k<t.length
  ·have D:(k:Int)<t.length:=by omega
   obtain ⟨g,m,rfl,p⟩:∃ g m,L=some ⟨g,m,none⟩∧∀ j,j<t.length→C_ wr g (m+j) (.int .u8 (t.getD j 0)):=by
    rcases F.bytes with h|h
    ·rw[h] at hlt;simp at hlt
    ·exact h
   have N:=p k hlt;obtain ⟨I,J⟩:=d (t.getD k 0) (by simp[List.getD,hlt]);have q:Hid (t.take (k+1)=t.take k++[t.getD k 0]):=by
    show _=_;rw[tS_ hlt];simp[List.getD,hlt]
   obtain ⟨z,O⟩:=znX (t.take k) (fun x H=>d x (List.mem_of_mem_take H)) (by rw[lT9_];omega);have A:za3 (t.take k)≤65535:=by
    match k,hlt with
    | 0,_=>simp[za3]
    | 1,_=>
     match t,d with
     | [],_=>simp[za3]
     | a::r,hu'=>have:=hu' a (by simp);simp[za3];omega
    | 2,_=>
     match t,d with
     | [],_=>simp[za3]
     | [a],hu'=>have:=hu' a (by simp);simp[za3];omega
     | a::b::r,hu'=>have:=hu' a (by simp);have:=hu' b (by simp);simp[za3];omega
    | k+3,h=>omega
   clear p;have y:Hid (za3 (t.take (k+1))=256*za3 (t.take k)+t.getD k 0):=by show _=_;rw[q.out,zq2]
   clear q;generalize t.getD k 0=X at *;generalize za3 (t.take k)=Y at *;have s:Hid (bits .or .i64 (Y*256) X=256*Y+X):=zuA Y X z A I J;go_wp2_with fail
   go_roundw
   case rel=>
    have c:∃ (f:Nat),f≤t.length∧(Value.int .i64 ((k:Int)+1))=I_ f∧Value.int .i64 (bits .or .i64 (Y*256) X)=I_ (za3 (t.take f))∧wr=wr:=
     ⟨k+1,by omega,by go_num,by rw[y.out,s.out],rfl⟩
    first|exact c|simpa using c
   case measure=>simp[intOf];omega
  ·obtain rfl:k=t.length:=by omega
   have D:¬(t.length:Int)<t.length:=by omega
   go_wp2_with fail
   go_ret;exact ⟨rfl,u,E⟩
theorem zq3 (R:Nat)(l:List Int)(sh:Bool)(w:World)(f:zao w R l sh)(j:l.length≤100000)(m:zW l) :
  Calls prog 156 #[P_ R 0] w fun e w'=>zuf w w' e R (za3 (tkT 3 l sh)) (tkL 3 l sh) (tkS 3 l sh):=by
 have d:=zhv R 3 l sh w f j (by omega) m;go_in;go_wp2_with fail
 refine d.mono ?_;rintro _ o ⟨rfl,b,c⟩;dsimp only;go_wp2_with fail
 go_ret;exact ⟨rfl,b,c⟩
theorem zd4 (bs:List Int)(j:Option Addr)(n d:Nat)(w:World)(y:n=bs.length)(g:zf w j d bs)(t:bs.length≤140737488355328) :
  Calls prog 174 #[.slice j n d] w fun e w'=>∃ b rc,e=.returned (.slice b bs.length rc)∧zf w' b rc bs∧(∀ c m,b=some ⟨c,m,none⟩→w.heap.size≤c∧c<w'.heap.size)∧B_ w w':=by
 subst y;have B:=g.le;cases j with
 | none=>
  have p:=g.nil rfl;have o:bs=[]:=eN_ (by omega);subst p o;have r:∀ w:World,(binOp .eql 64 (O_) (O_)).run prog w=.ok (.bool true) w:=fun _=>rfl;go_in;go_wp2_with fail
  go_ret;exact ⟨none,0,rfl,g,(fun _ _ e=>by cases e),bR_ _ _⟩
 | some ad=>
  have r:∀ w:World,(binOp .eql 64 (.slice (some ad) bs.length d) (O_)).run prog w=.ok (.bool false) w:=fun _=>rfl;have f:=zO w (.cells #[] 5);go_in;go_wp2_with (at_builtin;refine zfs rfl _ _ rfl w.heap.size _ 0 [] rfl (World.ownsRow_made _ _ 0 (nR_ _) (by decide) rfl) (some ad) _ d bs rfl rfl (g.below f) (by omega) f.size ?_;intro C D l s)
  obtain ⟨b,rc,A,t,z⟩:=zdZ l;have u:=l.lt;subst A;go_ret;refine ⟨b,rc,?_,by simpa using z,(fun c m e=>u c (by rw[e];rfl)),?_⟩
  ·simp
  ·exact Below.grown f s f.size (fun q e=>(World.ownsRow.lt (World.ownsRow_made (e:=5) (size:=1) w #[] 0 (nR_ _) (by decide) rfl) q e).1)
theorem zir {e:TypeId}{s:Nat}{v:Value}(h:w.ownsRow base e s v n xs)(o:zaA R w w')(p:R<base):w'.ownsRow base e s v n xs:=by
 have j:∀ q,v.ownBlock=some q→base≤q∧q<w.heap.size:=fun q e=>h.lt q e;obtain ⟨f,b⟩:=h;refine ⟨f,?_⟩;rcases b with b|⟨g,c,d,rfl,m,l,r⟩
 ·exact .inl b
 ·exact .inr ⟨g,c,d,rfl,m,(o.block g (j g rfl).2 (by omega)).trans l,r⟩
theorem zpm {v:Value}(h:zX w B v qs)(f:zaA R w w')(l:R<B):zX w' B v qs:=fun p j=>by
 obtain ⟨g,d⟩:=h p j
 exact ⟨g.only f (fun b c e=>by have:=(d b c e).1;omega),fun b c e=>⟨(d b c e).1,nL_ (d b c e).2.1 f.size,(d b c e).2.2⟩⟩
theorem zpn {f:World}{v:Value}{q:zi}{o:Obj}(h:zX w B v qs)(y:zf w q.sa q.cap q.bs)(u:∀ b c,q.sa=some ⟨b,c,none⟩→B≤b∧b<w.heap.size∧v.ownBlock≠some b)(G:zR (w.alloc o) v f v1):zX f B v1 (qs++[q]):=by
 have t:B_ w (w.alloc o):=(bR_ _ _).alloc (nR_ _) _;have D:(w.alloc o).heap.size=w.heap.size+1:=by simp
 have C:=G.grown.size;have l:∀ p:zi,zf w p.sa p.cap p.bs→(∀ b c,p.sa=some ⟨b,c,none⟩→B≤b∧b<w.heap.size∧v.ownBlock≠some b)→zf f p.sa p.cap p.bs∧∀ b c,p.sa=some ⟨b,c,none⟩→B≤b∧b<f.heap.size∧v1.ownBlock≠some b:=fun p s j=>by
  refine ⟨G.slice (s.below t) (fun b c e=>(j b c e).2.2),fun b c e=>?_⟩;obtain ⟨m,A,r⟩:=j b c e;refine ⟨m,by omega,fun z=>?_⟩;rcases G.fresh b z with g|g
  ·exact r g
  ·omega
 intro p d;rcases List.mem_append.1 d with d|d
 ·exact l p (h p d).1 (h p d).2
 ·obtain rfl:p=q:=by simpa using d
  exact l p y u
structure zwk (w w':World)(e:Ending)(R:Nat)(t l:List Int)(sh:Bool):Prop where
 out:∃ da dc,e=.returned (.slice da t.length dc)∧zf w' da dc t∧(∀ sb so,da=some ⟨sb,so,none⟩→w.heap.size≤sb∧sb<w'.heap.size)∧zao w' R l sh∧zaA R w w'
theorem zjh (R:Nat)(l:List Int)(sh:Bool)(w:World)(m:zao w R l sh)(q:l.length≤100000) :
  Calls prog 194 #[P_ R 0] w fun e w'=>zwk w w' e R (tkT 32 l sh) (tkL 32 l sh) (tkS 32 l sh):=by
 have j:=ziq R 32 l sh w m q (by omega);have C:=zf5 (n:=32) (l:=l) (sh:=sh);generalize tkT 32 l sh=t at *;generalize tkL 32 l sh=D at *;generalize tkS 32 l sh=E at *;go_in;go_wp2_with fail
 refine j.mono ?_;rintro e B ⟨z,A,b,r,-,o,d⟩;subst b;dsimp only;go_wp2_with fail
 refine (zd4 t z _ A B rfl r (by omega)).mono ?_;rintro e w2 ⟨f,g,b,s,p,c⟩;subst b;dsimp only;go_wp2_with fail
 go_ret;exact ⟨f,g,rfl,s,fun u y e=>by have:=p u y e;have:=d.size;omega,o.below c,d.trans (zbE c)⟩
def dgL (l:List Int)(sh:Bool):Nat→List Int×Bool
 | 0=>(l,sh)
 | k+1=>(tkL 32 (dgL l sh k).1 (dgL l sh k).2,tkS 32 (dgL l sh k).1 (dgL l sh k).2)
def dgD (l:List Int)(sh:Bool):Nat→List (List Int)
 | 0=>[]
 | k+1=>dgD l sh k++[tkT 32 (dgL l sh k).1 (dgL l sh k).2]
theorem zoL (l:List Int)(sh:Bool)(k:Nat):(dgL l sh k).1.length≤l.length:=by
 induction k with
 | zero=>exact nR_ _
 | succ k ih=>exact nT_ zmJ ih
theorem zmK (l:List Int)(sh:Bool)(k:Nat)(h:zW l):zW (dgL l sh k).1:=by
 induction k with
 | zero=>exact h
 | succ k ih=>exact ih.tkL
def dN (l:List Int)(sh:Bool):Nat:=(za3 (tkT 1 l sh)).toNat
theorem zgi {l:List Int}(h:zW l):0≤za3 (tkT 1 l sh)∧za3 (tkT 1 l sh)≤255:=by
 have b:=h.tkT (n:=1) (sh:=sh);have c:=zf5 (n:=1) (l:=l) (sh:=sh)
 match tkT 1 l sh,b,c with
 | [],_,_=>simp[za3]
 | [a],h,_=>have:=h a (by simp);simp[za3];omega
end Go.Proofs.YtdepbohhmfkjgaaGreatDoor
