import Derived.Test.YtdepbohhmfkjgaaGreatDoorPk16
set_option maxRecDepth 100000
set_option maxHeartbeats 4000000
namespace Go.Proofs.YtdepbohhmfkjgaaGreatDoor
open Go.RowKit Tryz
variable {w w2:World}{U U':Nat→Bool}{F c':Nat}{fc:Array Value}{m:FM}{a':Option Addr}
theorem zG.nodes (h:zG w U F fc m)(g:zah U U' w w2)(l:Bnd U' w2)(d:w2.heap[F]? = w.heap[F]?)(f:∀ i,i<4→∀ b,(m.x i).S b→w2.heap[b]? = w.heap[b]?)(j:Nat)(v:Value)(o:76≤j):∀ i,i<4→zae (w2.setCell ⟨F,j,none⟩ v) U' F (i*19) 104 (fc.setIfInBounds j v) (m.x i):=
 fun i c=>((h.nd i c).goes g d (f i c) l).cellF j v (by omega)
theorem zG.more_aw {l':List MV}(h:zG w U F fc m)(G:zR w (.slice m.aa m.aw.length m.ac) w2 (.slice a' l'.length c'))(r:w2.ownsRow 0 71 19 (.slice a' l'.length c') l'.length (zU l'))(C:∀ s∈l',GM (zo (zaz U (ob a')) w2) s)(D:l'.length≤400):zY w U F (w2.setCell ⟨F,78,none⟩ (.slice a' l'.length c')) { m.v with away:=l'.map MV.c }:=by
 have H:∀ q,(Value.slice m.aa m.aw.length m.ac).ownBlock=some q→U q=true:=fun q e=>(h.uaw q (zm e)).1;have f:zah U (zaz U (ob a')) w w2:=by
  have:=(zah.refl U w).grew G H
  rwa [zcL] at this
 have y:Bnd (zaz U (ob a')) w2:=by
  have:=h.bnd.grew G.grown.size r
  rwa [zcL] at this
 have keep:∀ b,b<w.heap.size→ob m.aa≠some b→w2.heap[b]? = w.heap[b]?:=fun b B E=>G.grown.block b B (fun e=>E (zm e.symm));have z:F<w.heap.size:=ze (h.nd 0 (by decide)).blk;have j:ob m.aa≠some F:=fun e=>(h.uaw F e).2.1 rfl;have p:∀ i,i<4→∀ b,(m.x i).S b→b<w.heap.size:=fun i c b e=>h.bnd b ((h.nd i c).su b e).1;have o:∀ i,i<4→∀ b,(m.x i).S b→ob m.aa≠some b:=fun i c b e g=>(h.uaw b g).2.2 i c e;have d:∀ q,ob a'=some q→ob m.aa=some q∨w.heap.size≤q:=fun q e=>by
  rcases G.fresh q (zaC _ _ e) with k|k
  ·exact .inl (zm k)
  ·exact .inr k
 have u:∀ q,ob a'=some q→q≠F:=fun q e g=>by
  rcases d q e with k|k
  ·rw[g] at k;exact j k
  ·omega
 refine kW_ ?A0 ?_;exact w2.setCell ⟨F,78,none⟩ (.slice a' l'.length c');have I:Sub (zo U w) (zo (zaz U (ob a')) ?A0):=(f.set (zau h.fu) 78 _).sub;have J:zo (zaz U (ob a')) ?A0=zo (zaz U (ob a')) w2:=zbO (zau h.fu) _ _;refine ⟨zaz U (ob a'),fc.setIfInBounds 78 (.slice a' l'.length c'),{ m with aa:=a',ac:=c',aw:=l' },⟨?_,by simpa using h.siz,h.nu,h.sep,h.bad,?_,?_,?_,?_,h.sg.sub I,zaH r F 78 _ (fun e=>u F (zm e) rfl),?_,fun a A=>by rw[J];exact C a A,D,?_,?_⟩,(f.set (zau h.fu) 78 _).fto,rfl⟩
 ·exact h.nodes f y (keep F z j) (fun i c b e=>keep b (p i c b e) (o i c b e)) 78 _ (by omega)
 ·rw[sI_,if_neg (by decide)];exact h.c76
 ·rw[sI_,if_neg (by decide)];exact h.c77
 ·rw[sI_,if_pos rfl,if_pos (by rw[h.siz];decide)]
 ·rw[sI_,if_neg (by decide)];exact h.c79
 ·intro q e;refine ⟨zd3 e,u q e,fun i c l=>?_⟩;rcases d q e with k|k
  ·exact o i c q l k
  ·have:=p i c q l;omega
 ·refine zaH (zt h.rco (fun q e=>?_)) F 78 _ (fun e=>(h.uco F (zm e)).2.1 rfl);have k:=h.uco q (zm e);exact keep q (h.bnd q k.1) k.2.2.2
 ·intro q e;obtain ⟨t,L,M,N⟩:=h.uco q e;refine ⟨zau t,L,M,fun g=>?_⟩;rcases d q g with k|k
  ·exact N k
  ·have:=h.bnd q t;omega
theorem zG.more_co {l':List Int}(h:zG w U F fc m)(G:zR w (.slice m.ca m.cs.length m.cc) w2 (.slice a' l'.length c'))(r:w2.ownsRow 0 50 1 (.slice a' l'.length c') l'.length (iv l')):zY w U F (w2.setCell ⟨F,79,none⟩ (.slice a' l'.length c')) { m.v with codes:=l' }:=by
 have C:∀ q,(Value.slice m.ca m.cs.length m.cc).ownBlock=some q→U q=true:=fun q e=>(h.uco q (zm e)).1;have f:zah U (zaz U (ob a')) w w2:=by
  have:=(zah.refl U w).grew G C
  rwa [zcL] at this
 have u:Bnd (zaz U (ob a')) w2:=by
  have:=h.bnd.grew G.grown.size r
  rwa [zcL] at this
 have keep:∀ b,b<w.heap.size→ob m.ca≠some b→w2.heap[b]? = w.heap[b]?:=fun b A B=>G.grown.block b A (fun e=>B (zm e.symm));have y:F<w.heap.size:=ze (h.nd 0 (by decide)).blk;have j:ob m.ca≠some F:=fun e=>(h.uco F e).2.1 rfl;have p:∀ i,i<4→∀ b,(m.x i).S b→b<w.heap.size:=fun i c b e=>h.bnd b ((h.nd i c).su b e).1;have o:∀ i,i<4→∀ b,(m.x i).S b→ob m.ca≠some b:=fun i c b e g=>(h.uco b g).2.2.1 i c e;have d:∀ q,ob a'=some q→ob m.ca=some q∨w.heap.size≤q:=fun q e=>by
  rcases G.fresh q (zaC _ _ e) with k|k
  ·exact .inl (zm k)
  ·exact .inr k
 have t:∀ q,ob a'=some q→q≠F:=fun q e g=>by
  rcases d q e with k|k
  ·rw[g] at k;exact j k
  ·omega
 have s:Sub (zo U w) (zo (zaz U (ob a')) (w2.setCell ⟨F,79,none⟩ (.slice a' l'.length c'))):=(f.set (zau h.fu) 79 _).sub;refine ⟨zaz U (ob a'),fc.setIfInBounds 79 (.slice a' l'.length c'),{ m with ca:=a',cc:=c',cs:=l' },⟨?_,by simpa using h.siz,h.nu,h.sep,h.bad,?_,?_,?_,?_,h.sg.sub s,?_,?_,fun a z=>(h.eaw a z).sub s,h.law,zaH r F 79 _ (fun e=>t F (zm e) rfl),?_⟩,(f.set (zau h.fu) 79 _).fto,rfl⟩
 ·exact h.nodes f u (keep F y j) (fun i c b e=>keep b (p i c b e) (o i c b e)) 79 _ (by omega)
 ·rw[sI_,if_neg (by decide)];exact h.c76
 ·rw[sI_,if_neg (by decide)];exact h.c77
 ·rw[sI_,if_neg (by decide)];exact h.c78
 ·rw[sI_,if_pos rfl,if_pos (by rw[h.siz];decide)]
 ·refine zaH (zt h.raw (fun q e=>?_)) F 79 _ (fun e=>(h.uaw F (zm e)).2.1 rfl);have k:=h.uaw q (zm e);exact keep q (h.bnd q k.1) (fun g=>(h.uco q g).2.2.2 (zm e))
 ·intro q e;obtain ⟨D,E,H⟩:=h.uaw q e;exact ⟨zau D,E,H⟩
 ·intro q e;refine ⟨zd3 e,t q e,fun i c l=>?_,fun g=>?_⟩
  ·rcases d q e with k|k
   ·exact o i c q l k
   ·have:=p i c q l;omega
  ·rcases d q e with k|k
   ·exact (h.uco q k).2.2.2 g
   ·have:=h.bnd q (h.uaw q g).1;omega
theorem zG.put_sg {l':List Sg}(h:zG w U F fc m)(d:B_ w w2)(j:zcN (zo U w2) a' c' l'):zY w U F (w2.setCell ⟨F,77,none⟩ (.slice a' l'.length c')) { m.v with no:=⟨m.bad,zA l'⟩ }:=by
 have b:=h.below d;refine kW_ ?A0 ?_;exact w2.setCell ⟨F,77,none⟩ (.slice a' l'.length c');have c:zah U U w2 ?A0:=(zah.refl U w2).set h.fu 77 _;have f:Sub (zo U w2) (zo U ?A0):=c.sub;refine ⟨U,fc.setIfInBounds 77 (.slice a' l'.length c'),{ m with ga:=a',gc:=c',gs:=l' },⟨fun i l=>(b.nd i l).cellF 77 _ (by omega),by simpa using h.siz,h.nu,h.sep,h.bad,?_,?_,?_,?_,j.sub f,zaH b.raw F 77 _ (fun e=>(h.uaw F (zm e)).2.1 rfl),h.uaw,fun a g=>(b.eaw a g).sub f,h.law,zaH b.rco F 77 _ (fun e=>(h.uco F (zm e)).2.1 rfl),h.uco⟩,((zah.below U d).trans c).fto,rfl⟩
 ·rw[sI_,if_neg (by decide)];exact h.c76
 ·rw[sI_,if_pos rfl,if_pos (by rw[h.siz];decide)]
 ·rw[sI_,if_neg (by decide)];exact h.c78
 ·rw[sI_,if_neg (by decide)];exact h.c79
theorem zG.none_aw (h:zG w U F fc m):∃ l,zG (w.setCell ⟨F,78,none⟩ (O_)) (zcY U (ob m.aa)) F l { m with aa:=none,ac:=0,aw:=[] }∧FTo U (zcY U (ob m.aa)) w (w.setCell ⟨F,78,none⟩ (O_))∧(w.setCell ⟨F,78,none⟩ (O_)).ownsRow 0 71 19 (.slice m.aa m.aw.length m.ac) m.aw.length (zU m.aw)∧(∀ q,ob m.aa=some q→zcY U (ob m.aa) q=false)∧∀ a∈m.aw,GM (zo (zcY U (ob m.aa)) (w.setCell ⟨F,78,none⟩ (O_))) a:=by
 refine kW_ ?A0 ?_;exact w.setCell ⟨F,78,none⟩ (O_);have c:zah U U w ?A0:=(zah.refl U w).set h.fu 78 _;have p:=c.sub;have j:∀ q,ob m.aa=some q→q≠F:=fun q e=>(h.uaw q e).2.1;have o:zG ?A0 U F (fc.setIfInBounds 78 (O_)) { m with aa:=none,ac:=0,aw:=[] }:=by
  refine ⟨fun i f=>(h.nd i f).cellF 78 _ (by omega),by simpa using h.siz,h.nu,h.sep,h.bad,?_,?_,?_,?_,h.sg.sub p,oN_ _ _ _ _,(fun q e=>by cases e),(fun a d=>by cases d),nZ_ _,zaH h.rco F 78 _ (fun e=>(h.uco F (zm e)).2.1 rfl),fun q e=>⟨(h.uco q e).1,(h.uco q e).2.1,(h.uco q e).2.2.1,fun g=>by cases g⟩⟩
  ·rw[sI_,if_neg (by decide)];exact h.c76
  ·rw[sI_,if_neg (by decide)];exact h.c77
  ·rw[sI_,if_pos rfl,if_pos (by rw[h.siz];decide)];rfl
  ·rw[sI_,if_neg (by decide)];exact h.c79
 have k:=ziD U (ob m.aa) ?A0;refine ⟨_,o.shows (ob m.aa) (fun e=>j F e rfl) (fun i f b e=>(h.uaw b e).2.2 i f) (fun b _ g=>by cases g) (fun b e g=>(h.uco b g).2.2.2 e),c.fto.trans k,zaH h.raw F 78 _ (fun e=>j F (zm e) rfl),fun q e=>by rw[e];exact zkj U q,fun a d=>(h.eaw a d).sub (c.fto.trans k).sub⟩
def zdu (cur:Array Value):Nat→List Value→Array Value
 | _,[]=>cur
 | o,v::r=>zdu (cur.setIfInBounds o v) (o+1) r
theorem zcz (c:List Value)(b:Array Value)(o:Nat):(zdu b o c).size=b.size:=by
 induction c generalizing b o with
 | nil=>rfl
 | cons v r ih=>rw[zdu,ih];simp
theorem zdi (c:List Value)(b:Array Value)(o j:Nat)(h:j<o∨o+c.length≤j):(zdu b o c)[j]? = b[j]?:=by
 induction c generalizing b o with
 | nil=>rfl
 | cons v r ih=>
  rw[zdu,ih _ _ (by simp only[List.length_cons] at h;omega),sI_,if_neg (by simp only[List.length_cons] at h;omega)]
theorem zf7 (b:List Value)(c:Array Value)(o i:Nat)(d:i<b.length)(f:o+b.length≤c.size):(zdu c o b)[o+i]? = b[i]?:=by
 induction b generalizing c o i with
 | nil=>simp at d
 | cons v r ih=>
  simp only[List.length_cons] at d f;rw[zdu];cases i with
  | zero=>
   rw[zdi _ _ _ _ (.inl (by omega)),sI_]
   simp
   omega
  | succ i=>
   rw[show o+(i+1)=o+1+i by omega,ih _ _ _ (by omega) (by simp;omega)]
   simp
theorem zbT {g:Nat}{t:TypeId}(c:List Value)(w:World)(b:Array Value)(o:Nat)(h:w.heap[g]? = some (.cells b t (0,0))):(w.setCells g o c).heap[g]? = some (.cells (zdu b o c) t (0,0)):=by
 induction c generalizing w b o with
 | nil=>exact h
 | cons v r ih=>exact ih _ _ _ (hS_ _ _ o _ _ v h)
theorem zbb {g b:Nat}(c:List Value)(w:World)(o:Nat)(d:b≠g):(w.setCells g o c).heap[b]? = w.heap[b]?:=by
 induction c generalizing w o with
 | nil=>rfl
 | cons v r ih=>exact (ih _ _).trans (hO_ w ⟨g,o,none⟩ b v d)
theorem zfN (g:Nat)(b:List Value)(w:World)(o:Nat):(w.setCells g o b).heap.size=w.heap.size:=by
 induction b generalizing w o with
 | nil=>rfl
 | cons v r ih=>exact (ih _ _).trans (by simp)
theorem zdO (g:Nat)(b:List Value)(w:World)(o:Nat):(w.setCells g o b).os=w.os∧(w.setCells g o b).tape=w.tape∧(w.setCells g o b).output=w.output:=by
 induction b generalizing w o with
 | nil=>exact ⟨rfl,rfl,rfl⟩
 | cons v r ih=>exact ih _ _
theorem zhh (g:Nat)(b:List Value)(w:World)(o:Nat):w.grownBy (w.setCells g o b) (some g):=
 ⟨(zdO g b w o).1,(zdO g b w o).2.1,(zdO g b w o).2.2,by rw[zfN];exact nR_ _,fun k _ c=>zbb b w o (fun e=>c (by rw[e]))⟩
theorem zhi (w:World)(t e ty:TypeId)(z:Value)(q:prog.underlying t=some (.slice e))(r:∀ w,(zeroValue e).run prog w=.ok z w)(b o n c:Nat)(u:0<n)(d:List Value)(s:(Builtin.zeroCells z.cells n).toList=d)
  (l:∀ j,j<d.length→(w.cell? ⟨b,o+j,none⟩).isSome=true) (p:∀ j,j<d.length→w.frozen? ⟨b,o+j,none⟩=false) (g:∀ v∈d,v.oneCell'=true) :
  (Builtin.clear_ #[t] ty #[.slice (some ⟨b,o,none⟩) n c]).run prog w=.ok (.tuple #[]) (w.setCells b o d):=by
 have f:=run_storeCells_cells (P:=prog) b o d 0 w (by simpa using l) (by simpa using p) g;simp only[Nat.add_zero] at f;obtain ⟨m,rfl⟩:∃ m,n=m+1:=⟨n-1,by omega⟩;simp[Builtin.clear_,run_underlying q,r,s,f]
variable {w':World}{o:Nat}{T:TypeId}{fc':Array Value}
theorem zae.moved {L u:Nat}{j:TypeId}{r:Array Value}{y:NM}(c:zae w U L u j r y)(g:zah U U w w')(f:∀ b,y.S b→w'.heap[b]? = w.heap[b]?)(l:R_ w' F fc' T)(z:o+19≤fc'.size)(p:zhf fc' o y)(t:U F=true)(A:∀ b,y.S b→b≠F):zae w' U F o T fc' y:=by
 have d:Sub (zo U w) (zo U w'):=g.sub;exact ⟨l,z,p,t,fun b e=>⟨(c.su b e).1,A b e⟩,c.bnd.mono g.size,c.tabs.sub d,c.etx.sub d,
  zt c.rsh (fun q e=>f q (.inr (.inr (.inr (.inl (zm e)))))),fun s m=>(c.esh s m).sub d,
  zt c.rtb (fun q e=>f q (.inr (.inr (.inr (.inr (.inl (zm e))))))),fun s m=>(c.etb s m).sub d,
  c.stk.keep d (fun _ _=>rfl) (fun b e=>f b (by rcases e with e|e|e;exact .inl e;exact .inr (.inl e);exact .inr (.inr (.inl e)))),
  c.hdr.sub d,c.slt.sub d,zt c.rvo (fun q e=>f q (.inr (.inr (.inr (.inr (.inr (.inl (zm e)))))))),c.tap.sub d,c.ems,
  zt c.rwa (fun q e=>f q (.inr (.inr (.inr (.inr (.inr (.inr (zm e)))))))),fun m e=>(c.ewa m e).sub d,c.inv⟩
theorem zpN (f:U F=true)(w:World)(o:Nat)(c:List Value):zah U U w (w.setCells F o c):=
 ⟨(zdO F c w o).1,(zdO F c w o).2.1,(zdO F c w o).2.2,by rw[zfN];exact nR_ _,fun b _ d=>zbb c w o (fun e=>by rw[e,f] at d;cases d),fun _ _=>rfl⟩
theorem zG.put_node {L:Nat}{V:Array Value}(h:zG w U F fc m){i:Nat}(hi:i<4){y:NM}(O:zae w' U' L 0 101 V y)(B:∀ b,b<w.heap.size→U' b=U b)(s:∀ b,y.S b→w.heap.size≤b)(o:B_ w w')(ab:y.nu=i):zY w U F (w'.setCells F (i*19) y.cs) (m.v.set i y.v):=by
 have G:F<w.heap.size:=ze (h.nd 0 (by decide)).blk;have J:zah U U' w w':=⟨o.os,o.tape,o.output,o.size,fun b I _=>o.block b I,B⟩;have D:U' F=true:=(B F G).trans h.fu;have E:=zpN D w' (i*19) y.cs;have M:zah U U' w (w'.setCells F (i*19) y.cs):=J.trans E;have Z:=(o.block F G).trans (h.nd 0 (by decide)).blk;have T:=zbT y.cs w' fc (i*19) Z;have z:y.cs.length=19:=rfl;have keep:∀ b,b<w.heap.size→b≠F→(w'.setCells F (i*19) y.cs).heap[b]? = w.heap[b]?:=fun b I A=>(zbb y.cs w' (i*19) A).trans (o.block b I);have H:∀ j,j<4→∀ b,(m.x j).S b→b<w.heap.size:=fun j l b e=>h.bnd b ((h.nd j l).su b e).1;have N:=M.sub;have C:∀ k,76≤k→(zdu fc (i*19) y.cs)[k]? = fc[k]?:=fun k p=>zdi _ _ _ _ (.inr (by rw[z];omega));have R:∀ q,q<w.heap.size→(∀ j,j<4→¬(m.x j).S q)→∀ j,j<4→¬((m.set i y).x j).S q:=fun q r hn j l=>by
  by_cases e:j=i
  ·subst e;rw[FM.set_here];intro X;have:=s q X;omega
  ·rw[FM.set_there _ _ e];exact hn j l
 refine ⟨U',zdu fc (i*19) y.cs,m.set i y,⟨fun j l=>?_,by rw[zcz];exact h.siz,fun j l=>?_,fun j k l p A b f=>?_,h.bad,by rw[C 76 (by omega)];exact h.c76,by rw[C 77 (by omega)];exact h.c77,by rw[C 78 (by omega)];exact h.c78,by rw[C 79 (by omega)];exact h.c79,h.sg.sub N,zt h.raw (fun q e=>?_),fun q e=>?_,fun a Y=>(h.eaw a Y).sub N,h.law,zt h.rco (fun q e=>?_),fun q e=>?_⟩,M.fto,FM.set_v m i y hi⟩
 ·by_cases e:j=i
  ·subst e;rw[FM.set_here];refine O.moved E (fun b f=>zbb y.cs w' (j*19) (fun t=>by have:=s b f;omega)) T (by rw[zcz,h.siz];omega) (fun k p=>?_) D (fun b f t=>by have:=s b f;omega);rw[zf7 y.cs fc (j*19) k (by rw[z];exact p) (by rw[z,h.siz];omega)]
  ·rw[FM.set_there _ _ e];have u:=h.nd j l;have aa:zae w' U' F (j*19) 104 fc (m.x j):=u.goes J (o.block F G) (fun b f=>o.block b (H j l b f)) O.bnd;refine aa.moved E (fun b f=>zbb y.cs w' (i*19) (u.su b f).2) T (by rw[zcz,h.siz];omega) (fun k p=>?_) D (fun b f=>(u.su b f).2);rw[zdi _ _ _ _ (by rw[z];omega)];exact u.cel k p
 ·by_cases e:j=i
  ·subst e;rw[FM.set_here];exact ab
  ·rw[FM.set_there _ _ e];exact h.nu j l
 ·by_cases e1:j=i
  ·subst e1;rw[FM.set_here] at f;rw[FM.set_there _ _ (fun e=>A e.symm)];intro g;have:=s b f;have:=H k p b g;omega
  ·rw[FM.set_there _ _ e1] at f;by_cases t:k=i
   ·subst t;rw[FM.set_here];intro g;have:=s b g;have:=H j l b f;omega
   ·rw[FM.set_there _ _ t];exact h.sep j k l p A b f
 ·have k:=h.uaw q (zm e);exact keep q (h.bnd q k.1) k.2.1
 ·obtain ⟨a,b,c⟩:=h.uaw q e;have r:=h.bnd q a;exact ⟨(B q r).trans a,b,R q r c⟩
 ·have k:=h.uco q (zm e);exact keep q (h.bnd q k.1) k.2.1
 ·obtain ⟨a,b,c,d⟩:=h.uco q e;have r:=h.bnd q a;exact ⟨(B q r).trans a,b,R q r c,d⟩
variable {ops:Array Oper}{Q:Exit→Act→World→Prop}{a:Act}{K:Act→World→Prop}{E:Prop}
theorem zT {o:Oper}
  (d:o.guard=none) (c:o.dst=none) (w':World) (f:(execOp a.eval o).run prog w=.ok .skip w') (b:K a w') :
  if Region.wanted o (yielded ops a.tmps)=true then Oper.wp prog o a w K Q else E:=by
 have g:Region.wanted o (yielded ops a.tmps)=true:=by simp[Region.wanted,d]
 rw[if_pos g];unfold Oper.wp;rw[f,Oper.upon_skip,c];exact b
theorem zar {o:Oper}
  (F:o.guard=none) (d:Nat) (D:o.dst=some d) (s x:Operand) (t:TypeId) (J:o.op=.call { callee:=.builtin .append,args:=#[s,x],argTypes:=#[t,t] })
  (base:Nat) (e:TypeId) (i:TypeInfo) (z:Value) (size g:Nat) (R:prog.underlying t=some (.slice e)) (G:prog.info? e=some i) (U:i.zero=some z)
  (N:i.size=size) (B:i.bytes=g) (V:z.cells.size=size) (O:0<size)
  (v:Value) (n:Nat) (p:List Value) (M:a.eval s=v) (L:w.ownsRow base e size v n p)
  (f:Addr) (m c:Nat) (b:List Value) (T:a.eval x=.slice (some f) m c) (H:b.length=m*size) (I:∀ j u,b[j]? = some u→w.cell? (f.add j)=some u) (q:∀ u∈b,u.oneCell'=true)
  (r:n+m≤maxLen) (C:(n+m)*g≤140737488355328) (A:base≤w.heap.size)
  (y:∀ l w',w'.ownsRow base e size l (n+m) (p++b)→zR w v w' l→K (a.put (some d) l) w') :
  if Region.wanted o (yielded ops a.tmps)=true then Oper.wp prog o a w K Q else E:=
 zbZ F s x t J base e i z size g R G U N B V O v n p M L f m c b T H I q r C A (by rw[D];exact y)
def Msg.ft (m:Msg)(a b:Int):Msg:={ m with fr:=a,tt:=b }
def MV.ft (x:MV)(a b:Int):MV:={ x with m:=x.m.ft a b }
theorem MV.ft_c (x:MV)(a b:Int):(x.ft a b).c=x.c.ft a b:=rfl
theorem MV.ft_at {x:MV}(h:MAt w x)(a b:Int):MAt w (x.ft a b):=⟨⟨h.at'.e1,h.at'.e2,h.at'.e3,h.at'.e4,h.at'.e5,h.at'.e6,h.at'.s1,h.at'.s6,h.at'.s7,h.at'.txs,h.at'.bat,h.at'.par,h.at'.cbat,h.at'.cpar,h.at'.vot⟩,h.dig,h.dn⟩
theorem GM.ft {x:MV}(h:GM w x){a b:Int}(f:0≤a∧a<4)(g:0≤b∧b<4):GM w (x.ft a b):=by
 obtain ⟨_,_,c,d⟩:=zcg h.ok;exact ⟨MV.ft_at h.lies a b,zgR f g c ((zpc x.m a b).trans d),h.u8,⟨h.shp.b,h.shp.h,h.shp.c⟩⟩
theorem zd6 (x:NM)(m:MV)(c:Int)(w:World)(U:Nat→Bool)(F o:Nat)(T:TypeId)(X:Array Value)(h:zae w U F o T X x)(hm:GM (zo U w) m)(ht:0≤c∧c<4) :
  Calls prog 123 #[P_ F o,I_ c,.agg (mrow_ m.m)] w fun e w'=>(∃ v,e=.returned v)∧zac w U F o T X x w' (x.v.send c m.c):=by
 have M:=zO w (.cells (mrow_ m.m) 71);have C:=hN_ w (.cells (mrow_ m.m) 71);go_in;go_upto_region 1 with fail
 generalize w.alloc (.cells (mrow_ m.m) 71)=V at M C ⊢;have h0:=h.below M;have ag:∀ P:Prop,¬(U w.heap.size=true∧P):=fun P k=>by have aq:=h.bnd.new (nR_ _);rw[aq] at k;cases k.1
 have af:w.heap.size≠F:=fun e=>by have:=h.bnd F h.fu;omega
 generalize Z:w.heap.size=B at C ag af ⊢;have HB:Hid (w.heap.size=B):=Z;refine kW_ ?A0 ?_;exact (V.setCell ⟨B,0,none⟩ (I_ x.nu)).setCell ⟨B,1,none⟩ (I_ c);have Y:B_ w ?A0:=(M.setCell (Nat.le_of_eq Z) _).setCell (Nat.le_of_eq Z) _;clear Z;have q1:(?A0).heap[B]? = some (.cells (mrow_ (m.ft x.nu c).m) 71 (0,0)):=by
  simpa[MV.ft,Msg.ft] using hS_ _ _ 1 _ _ (I_ c) (hS_ _ _ 0 _ _ (I_ x.nu) C)
 have c0:C_ V F o (I_ x.nu):=h0.cell 0 _ rfl;have an:=h0.cell 17 _ rfl;by_cases e1:c=x.nu
 ·have L:Hid (x.v.send c m.c=x.v):=if_pos (.inl e1);subst e1;clear Y q1;go_wp2_with fail
  refine bP_ (results_none rfl _ _ _) rfl ?_;exact ⟨⟨_,rfl⟩,by rw[L.out];exact zac.quiet h M⟩
 refine kO_ ?B0 ?_;exact Obj.cells (mrow_ (m.ft x.nu c).m) 71;refine kV_ ?C0 ?_;exact Value.slice x.wa x.wai.length x.wc
 ·have ay:(c == x.nu)=false:=by simpa using e1
  by_cases e2:400≤x.wai.length
  ·have L:Hid (x.v.send c m.c=x.v):=if_pos (.inr (by simpa[NM.v] using e2));have ao:(400:Int)≤x.wai.length:=by omega
   clear e2 e1 Y q1;go_wp2_with fail
   refine bP_ (results_none rfl _ _ _) rfl ?_;exact ⟨⟨_,rfl⟩,by rw[L.out];exact zac.quiet h M⟩
  ·have L:Hid (x.v.send c m.c={ x.v with wai:=x.v.wai++[m.c.ft x.nu c] }):=if_neg (by simp[NM.v];exact ⟨e1,by omega⟩);have ao:¬(400:Int)≤x.wai.length:=by omega
   have b0:=zb C 0 _ rfl;have b1:=zb C 1 _ rfl;have f0:=zd C 0;have f1:=zd C 1;clear e1;go_upto_region 3 with fail
   generalize ?A0=W1 at Y q1 ⊢;clear b0 b1 f0 f1 c0 an C;have ah:∀ (A y:World) (r:Option Addr) (t:Nat),B_ w A→y.ownsRow 0 71 19 (.slice r (x.wai++[m.ft x.nu c]).length t) (x.wai++[m.ft x.nu c]).length (zU (x.wai++[m.ft x.nu c]))→zR A ?C0 y (.slice r (x.wai++[m.ft x.nu c]).length t)→(∃ v,Ending.returned (.tuple #[])=.returned v)∧zac w U F o T X x (y.setCell ⟨F,o+17,none⟩ (.slice r (x.wai.length+1) t)) (x.v.send c m.c):=by
    intro A y r t hb ho G;refine ⟨⟨_,rfl⟩,?_⟩;rw[L.out];have h1:=h.below hb;have au:(x.wai++[m.ft x.nu c]).length=x.wai.length+1:=by simp
    have ai:=h1.more_wai G ho (fun s hs=>?_) ?_
    ·rw[au] at ai;obtain ⟨U',ap,x',k1,k2,k3⟩:=ai;exact ⟨U',ap,x',k1,(NTo.below U X x hb).trans k2,by rw[k3];simp[NM.v,MV.ft_c]⟩
    ·have k:=h1.grew_sub G (fun q e=>.inr (.inr (.inr (.inr (.inr (.inr e))))));rcases List.mem_append.1 hs with g|g
     ·exact (h1.ewa s g).sub k
     ·obtain rfl:s=m.ft x.nu c:=by simpa using g
      exact ((hm.sub (zah.below U hb).sub).ft h.inv.nu ht).sub k
    ·exact h.inv.wai_ (by simp;omega)
   obtain ⟨ti,aj,ak,al,am⟩:=info_parts zi2;have aa:B_ w W1.drew:=Y.drew;have ab:=dQ_ q1;refine wR_ (S:=fun w'=>R_ w' B (mrow_ (m.ft x.nu c).m) 71) (by kernel_rfl) ab (fun d=>?_);generalize W1.drew=l at aa ab d ⊢;have av:=h.below aa;refine tks_ 4 [(0,27,(P_ F o)),(1,28,(P_ F o)),(2,29,(P_ F o)),(3,30,(P_ F (o+17)))] d ?_;simp only[tkf_,zg];refine tQ_ 5 32 (.agg (mrow_ (m.ft x.nu c).m)) rfl rfl (Or.inl ⟨by rfl,fun w0 ar=>zJ 71 _ rfl B rfl 71 (mrow_ (m.ft x.nu c).m) (0,0) _ ar underlying71 rfl sMsg'⟩) d ?_;simp only[zg];refine wpAnyH_ready (rs:=[4,6]) (by kernel_rfl) (by simp) (AllReadyH.cons rfl (fun E f=>?_) (AllReadyH.cons rfl (fun E f=>?_) AllReadyH.nil));have ad:=av.cell 17 _ rfl;refine zw rfl 31 rfl ?C0 l (by go_simp) ?_;refine f.out _ _ d (fun d=>?_);simp only[zg];clear ad;refine zE 6 rfl (fun E f=>?_)
   all_goals
    refine zw rfl 33 rfl (.slice (some ⟨l.heap.size,0,none⟩) 1 1) (l.alloc ?B0) (by go_simp) ?_;have z:=zO l ?B0;have I:=zq aa z;have H:=hN_ l ?B0;have J:=zn z ab;refine f.out _ _ J (fun d=>?_);simp only[zg];generalize l.alloc ?B0=A at z I H J d ⊢;clear z;generalize l.heap.size=nb at H ⊢;have p:=h.below I
   rotate_left
   refine zE 4 rfl (fun E f=>?_);have ad:=p.cell 17 _ rfl;refine zw rfl 31 rfl ?C0 A (by go_simp) ?_;refine f.out _ _ d (fun d=>?_);simp only[zg];clear ad
   rotate_left
   all_goals
    refine zE 7 rfl (fun E f=>?_);refine zar rfl 34 rfl (.tmp 31) (.tmp 33) 99 rfl 0 71 ti (.agg mz_) 19 264 underlying99 aj ak al am rfl (by decide) ?C0 x.wai.length (zU x.wai) rfl p.rwa ⟨nb,0,none⟩ 1 1 (zcs (m.ft x.nu c).m) rfl rfl (fun j u hu=>by rw[zaN,Nat.zero_add];exact zb H j u (by rw[←Array.getElem?_toList];exact hu)) (zeL _) (by unfold maxLen;omega) (by omega) (nZ_ _) ?_;intro v3 y O D;obtain ⟨r,t,ac⟩:=zC O;subst ac;have R:=D.row J (fun e=>ag _ (p.su _ (.inr (.inr (.inr (.inr (.inr (.inr (zm e)))))))));have N:=D.row p.blk (fun e=>(p.su _ (.inr (.inr (.inr (.inr (.inr (.inr (zm e)))))))).2 rfl);refine f.out _ _ R (fun d=>?_);simp only[zg];refine tks_ 2 [(8,35,(P_ F o)),(9,36,(P_ F (o+17)))] d ?_;simp only[tkf_,zg];refine zE 10 rfl (fun E f=>?_);have aw:=zb N (o+17) _ (p.cel 17 (by decide));have ax:=zd N (o+17);refine zT rfl rfl (y.setCell ⟨F,o+17,none⟩ (.slice r (x.wai.length+1) t)) (by go_simp) ?_;have ae:=zh (b:=F) (j:=o+17) (v:=.slice r (x.wai.length+1) t) R (fun e=>af e);refine f.out _ _ ae (fun d=>?_);refine wD_ (by kernel_rfl) ?_ _;go_wp2_with fail
    go_end0;exact ah A y r t I (by rw[zey];simpa using O) (by simpa using D)
variable {qs bl pl:List zi}{rd au:Int}{vl:List Int}
theorem zrq {b:List zi}(h:zbg b qs)(k:Nat):(zcu b k).bs=(zcu qs k).bs:=by
 have c:(b.map (·.bs))[k]? = (qs.map (·.bs))[k]?:=by rw[h]
 simp only[List.getElem?_map] at c;simp only[zcu,List.getD];cases h1:b[k]?<;>cases h2:qs[k]?<;>simp_all
theorem ztm {b:List zi}(h:zbg b qs)(k:Nat):zbd b k=zbd qs k:=by
 induction k with
 | zero=>rfl
 | succ k ih=>
  have c:zci b k=zci qs k:=by
   have d:zfn b k=zfn qs k:=by
    simp only[zfn,zrq h]
   rw[zci,zci,d,zrq h k]
  rw[zbd,zbd,ih,c]
theorem zrr {b:List zi}(h:zbg b qs):zbV b=zbV qs:=by
 rw[zbV,zbV,h.length,ztm h]
theorem zlC {b f:List zi}(c:zbg bl b)(d:zbg pl f):zK au rd bl pl=zK au rd b f:=by
 rw[zK,zK,zrr c,zrr d,c.length,d.length]
theorem zuP {b c:List zi}(d:zbg bl b)(f:zbg pl c):zai au rd bl pl vl=zai au rd b c vl:=by
 rw[zai,zai,zlC d f]
theorem zuQ {x y:MV}(b:MAt w x)(c:MAt w' y)(h:y.c=x.c):zL y.m y.car=zL x.m x.car:=by
 simp only[MV.c,MC.mk.injEq] at h;obtain ⟨L,N,G,m,o,H,p,q,I,C,d,f,M,g,j,D,E,F,l⟩:=h;have s:y.m.btn=x.m.btn:=by rw[c.at'.e1,b.at'.e1,H]
 have t:y.m.hbn=x.m.hbn:=by rw[c.at'.e2,b.at'.e2];exact zbg.length I
 have u:y.m.hpn=x.m.hpn:=by rw[c.at'.e3,b.at'.e3];exact zbg.length C
 have z:y.m.cbn=x.m.cbn:=by rw[c.at'.e4,b.at'.e4];exact zbg.length D
 have A:y.m.cpn=x.m.cpn:=by rw[c.at'.e5,b.at'.e5];exact zbg.length E
 have B:y.m.cvn=x.m.cvn:=by rw[c.at'.e6,b.at'.e6,F]
 have r:y.m.sdn=x.m.sdn:=by rw[c.dn,b.dn,M]
 have O:zK y.m.hau y.m.hrd y.bl y.pl=zK x.m.hau x.m.hrd x.bl x.pl:=by rw[p,q];exact zlC I C
 have R:zai y.m.cau y.m.crd y.cbl y.cpl y.vl=zai x.m.cau x.m.crd x.cbl x.cpl x.vl:=by rw[g,j,F];exact zuP D E
 have J:y.car=x.car:=by
  show zB y.m y.ss y.bl y.pl y.cbl y.cpl y.vl=zB x.m x.ss x.bl x.pl x.cbl x.cpl x.vl;rw[zB,zB,O,R,G,m,o,H,d,f,r,l]
 have T:zaj (zZ y.m)=zaj (zZ x.m):=by
  rw[zZ,zZ,G];by_cases k1:x.m.ki=1
  ·rw[if_pos k1,if_pos k1];simp only[zaj,p,q,d,f,g,j,l,t,u,z,A,B,r]
  ·rw[if_neg k1,if_neg k1];by_cases k2:x.m.ki=2
   ·rw[if_pos k2,if_pos k2];simp only[zaj,m,o,d,f,g,j,l,s,z,A,B,r]
   ·rw[if_neg k2,if_neg k2];by_cases k3:x.m.ki=3
    ·rw[if_pos k3,if_pos k3];simp only[zaj,m,o,p,q,g,j,l,s,t,u,z,A,B]
    ·rw[if_neg k3,if_neg k3];by_cases k4:x.m.ki=4
     ·rw[if_pos k4,if_pos k4];simp only[zaj,m,o,p,q,d,f,l,s,t,u,r]
     ·rw[if_neg k4,if_neg k4];simp only[zaj,m,o,p,q,d,f,g,j,s,t,u,z,A,B,r]
 rw[zL,zL,L,N,J,T]
def zeI (b:Bc):MV:=⟨⟨0,0,1,b.v.au,b.v.nu,0,0,0,0,0,0,0,b.ta,none,none,none,none,none,none,b.v.ss.length,b.tc,0,0,0,0,0,0,0,0,0,0,0,0⟩,b.v.ss,[],[],[],[],[],[]⟩
theorem zk4 (b:Bc)(w:World):Calls prog 114 #[.agg #[I_ b.v.au,I_ b.v.nu,.slice b.ta b.v.ss.length b.tc]] w fun e w'=>e=.returned (.agg (mrow_ (zeI b).m))∧B_ w w':=by
 refine kO_ ?B0 ?_;exact Obj.cells #[I_ b.v.au,I_ b.v.nu,.slice b.ta b.v.ss.length b.tc] 62;have c:=hY_ w ?B0 (.cells mz_ 71);have d:B_ w ((w.alloc ?B0).alloc (.cells mz_ 71)):=((bR_ _ _).alloc (nR_ _) _).alloc (by simp) _;go_in;refine kA_ ?A0 ?_;exact #[I_ 0,I_ 0,I_ (1),I_ (b.v.au),I_ (b.v.nu),.slice b.ta b.v.ss.length b.tc,I_ 0,I_ 0,O_,O_,I_ 0,I_ 0,O_,I_ 0,I_ 0,O_,O_,O_,I_ 0];go_wp2_with (refine wpList_store_row rfl 71 _ _ rfl (w.heap.size+1) ?A0 rfl rfl 71 _ c sMsg' rfl (by simp[Value.oneCell']) ?_)
 exact bP_ (v:=.agg ?A0) (results_cell_row (fn:=Tryz.f114) (p:=2) (ty:=71) rfl _ _ (w.heap.size+1) 71 _ (0,0) _ rfl (setRow_heap _ _ _ _ _ _ c) underlying71 rfl sMsg') rfl ⟨rfl,(Upd.setRow c).below d d.size (by omega)⟩
def zd7 (h:Ct):MV:=⟨⟨0,0,2,0,0,h.au,h.rd,0,0,0,0,0,none,h.ba,h.pa,none,none,none,none,0,0,h.bl.length,h.bc,h.pl.length,h.pc,0,0,0,0,0,0,0,0⟩,[],h.bl,h.pl,[],[],[],[]⟩
theorem zk5 (h:Ct)(w:World):Calls prog 118 #[.agg (hrow_ h)] w fun e w'=>e=.returned (.agg (mrow_ (zd7 h).m))∧B_ w w':=by
 have b:=hY_ w (.cells (hrow_ h) 56) (.cells mz_ 71);have c:B_ w ((w.alloc (.cells (hrow_ h) 56)).alloc (.cells mz_ 71)):=((bR_ _ _).alloc (nR_ _) _).alloc (by simp) _;go_in;refine kA_ ?A0 ?_;exact #[I_ 0,I_ 0,I_ (2),I_ 0,I_ 0,O_,I_ (h.au),I_ (h.rd),.slice h.ba h.bl.length h.bc,.slice h.pa h.pl.length h.pc,I_ 0,I_ 0,O_,I_ 0,I_ 0,O_,O_,O_,I_ 0];go_wp2_with (refine wpList_store_row rfl 71 _ _ rfl (w.heap.size+1) ?A0 rfl rfl 71 _ b sMsg' rfl (by simp[Value.oneCell']) ?_)
 exact bP_ (v:=.agg ?A0) (results_cell_row (fn:=Tryz.f118) (p:=2) (ty:=71) rfl _ _ (w.heap.size+1) 71 _ (0,0) _ rfl (setRow_heap _ _ _ _ _ _ b) underlying71 rfl sMsg') rfl ⟨rfl,(Upd.setRow b).below c c.size (by omega)⟩
def zc2 (s:Sl):MV:=⟨⟨0,0,3,0,0,0,0,s.au,s.rd,0,0,0,none,none,none,s.p.sa,none,none,none,0,0,0,0,0,0,s.p.bs.length,s.p.cap,0,0,0,0,0,0⟩,[],[],[],[],[],s.p.bs,[]⟩
theorem zk6 (s:Sl)(w:World):Calls prog 141 #[.agg (srow_ s)] w fun e w'=>e=.returned (.agg (mrow_ (zc2 s).m))∧B_ w w':=by
 have b:=hY_ w (.cells (srow_ s) 66) (.cells mz_ 71);have c:B_ w ((w.alloc (.cells (srow_ s) 66)).alloc (.cells mz_ 71)):=((bR_ _ _).alloc (nR_ _) _).alloc (by simp) _;go_in;refine kA_ ?A0 ?_;exact #[I_ 0,I_ 0,I_ (3),I_ 0,I_ 0,O_,I_ 0,I_ 0,O_,O_,I_ (s.au),I_ (s.rd),.slice s.p.sa s.p.bs.length s.p.cap,I_ 0,I_ 0,O_,O_,O_,I_ 0];go_wp2_with (refine wpList_store_row rfl 71 _ _ rfl (w.heap.size+1) ?A0 rfl rfl 71 _ b sMsg' rfl (by simp[Value.oneCell']) ?_)
 exact bP_ (v:=.agg ?A0) (results_cell_row (fn:=Tryz.f141) (p:=2) (ty:=71) rfl _ _ (w.heap.size+1) 71 _ (0,0) _ rfl (setRow_heap _ _ _ _ _ _ b) underlying71 rfl sMsg') rfl ⟨rfl,(Upd.setRow b).below c c.size (by omega)⟩
def zdE (c:Ct):MV:=⟨⟨0,0,4,0,0,0,0,0,0,c.au,c.rd,0,none,none,none,none,c.ba,c.pa,c.va,0,0,0,0,0,0,0,0,c.bl.length,c.bc,c.pl.length,c.pc,c.vl.length,c.vc⟩,[],[],[],c.bl,c.pl,[],c.vl⟩
theorem zvC (c:Ct):(zdE c).c=zdh c.v:=rfl
theorem zk7 (c:Ct)(w:World):Calls prog 146 #[.agg (crow_ c)] w fun e w'=>e=.returned (.agg (mrow_ (zdE c).m))∧B_ w w':=by
 have b:=hY_ w (.cells (crow_ c) 59) (.cells mz_ 71);have d:B_ w ((w.alloc (.cells (crow_ c) 59)).alloc (.cells mz_ 71)):=((bR_ _ _).alloc (nR_ _) _).alloc (by simp) _;go_in;refine kA_ ?A0 ?_;exact #[I_ 0,I_ 0,I_ (4),I_ 0,I_ 0,O_,I_ 0,I_ 0,O_,O_,I_ 0,I_ 0,O_,I_ (c.au),I_ (c.rd),.slice c.ba c.bl.length c.bc,.slice c.pa c.pl.length c.pc,.slice c.va c.vl.length c.vc,I_ 0];go_wp2_with (refine wpList_store_row rfl 71 _ _ rfl (w.heap.size+1) ?A0 rfl rfl 71 _ b sMsg' rfl (by simp[Value.oneCell']) ?_)
 exact bP_ (v:=.agg ?A0) (results_cell_row (fn:=Tryz.f146) (p:=2) (ty:=71) rfl _ _ (w.heap.size+1) 71 _ (0,0) _ rfl (setRow_heap _ _ _ _ _ _ b) underlying71 rfl sMsg') rfl ⟨rfl,(Upd.setRow b).below d d.size (by omega)⟩
def zx (r:Int):MV:=⟨⟨0,0,5,0,0,0,0,0,0,0,0,r,none,none,none,none,none,none,none,0,0,0,0,0,0,0,0,0,0,0,0,0,0⟩,[],[],[],[],[],[],[]⟩
theorem zoS (r:Int)(w:World):Calls prog 125 #[I_ r] w fun e w'=>e=.returned (.agg (mrow_ (zx r).m))∧B_ w w':=by
 have b:=hN_ w (.cells mz_ 71);have c:=zO w (.cells mz_ 71);go_in;refine kA_ ?A0 ?_;exact #[I_ 0,I_ 0,I_ (5),I_ 0,I_ 0,O_,I_ 0,I_ 0,O_,O_,I_ 0,I_ 0,O_,I_ 0,I_ 0,O_,O_,O_,I_ (r)];go_wp2_with (refine wpList_store_row rfl 71 _ _ rfl w.heap.size ?A0 rfl rfl 71 _ b sMsg' rfl (by simp[Value.oneCell']) ?_)
 exact bP_ (v:=.agg ?A0) (results_cell_row (fn:=Tryz.f125) (p:=2) (ty:=71) rfl _ _ w.heap.size 71 _ (0,0) _ rfl (setRow_heap _ _ _ _ _ _ b) underlying71 rfl sMsg') rfl ⟨rfl,(Upd.setRow b).below c c.size (by omega)⟩
theorem zcZ (w:World):zy w none 0 []:=zaa w
theorem zmi (w:World):zav w none []:=⟨.inl rfl⟩
theorem zgE (w:World):zas w none []:=⟨.inl rfl,fun s b=>by cases b⟩
theorem zjo {b:BW}(h:b.f=0):b.ss.length≤4:=by
 unfold BW.f zba at h
 split at h
 ·simp at h
 ·split at h
  ·simp at h
  ·omega
theorem zrs {b:Bc}(h:zcG w b)(c:b.v.ss.length≤4):MAt w (zeI b):=
 ⟨⟨rfl,rfl,rfl,rfl,rfl,rfl,nT_ c (by decide),by simp[zeI],by simp[zeI],h.strs,zcZ _,zcZ _,zcZ _,zcZ _,zmi _⟩,zfG _,rfl⟩
theorem zrt {h:Ct}(b:HAt w h.ba h.bc h.bl h.pa h.pc h.pl):MAt w (zd7 h):=
 ⟨⟨rfl,rfl,rfl,rfl,rfl,rfl,by simp[zd7],by simp[zd7],by simp[zd7],zgE _,b.lb,b.lp,zcZ _,zcZ _,zmi _⟩,zfG _,rfl⟩
theorem zru {s:Sl}(h:zf w s.p.sa s.p.cap s.p.bs)(b:s.p.bs.length≤32):MAt w (zc2 s):=
 ⟨⟨rfl,rfl,rfl,rfl,rfl,rfl,by simp[zc2],by simp[zc2],nT_ b (by decide),zgE _,zcZ _,zcZ _,zcZ _,zcZ _,zmi _⟩,h,rfl⟩
theorem zrv {c:Ct}(h:za2 w c):MAt w (zdE c):=
 ⟨⟨rfl,rfl,rfl,rfl,rfl,rfl,by simp[zdE],h.vle,by simp[zdE],zgE _,zcZ _,zcZ _,h.hat.lb,h.hat.lp,h.ints⟩,zfG _,rfl⟩
theorem zvD (w:World)(r:Int):MAt w (zx r):=
 ⟨⟨rfl,rfl,rfl,rfl,rfl,rfl,by simp[zx],by simp[zx],by simp[zx],zgE _,zcZ _,zcZ _,zcZ _,zcZ _,zmi _⟩,zfG _,rfl⟩
theorem zcF {α:Type}{P:α→Prop}:∀ p∈([]:List α),P p:=fun p b=>by cases b
theorem zoT {b:Bc}(h:b.v.f=0):zaK (zeI b):=⟨h,rfl,rfl,rfl,by show (1:Int)≠5;decide⟩
theorem zoU {h:Ct}(b:zK h.au h.rd h.bl h.pl=0):zaK (zd7 h):=⟨b,rfl,rfl,rfl,by show (2:Int)≠5;decide⟩
theorem zoV {s:Sl}(h:za4 s.au s.rd s.p.bs.length=0):zaK (zc2 s):=⟨h,rfl,rfl,rfl,by show (3:Int)≠5;decide⟩
theorem zoW {c:Ct}(h:zai c.au c.rd c.bl c.pl c.vl=0):zaK (zdE c):=⟨h,rfl,rfl,rfl,by show (4:Int)≠5;decide⟩
def U8L (l:List zi):Prop:=∀ p∈l,∀ x∈p.bs,0≤x∧x≤255
theorem zrw (b:Bc):U8M (zeI b).bl (zeI b).pl (zeI b).cbl (zeI b).cpl (zeI b).ds:=⟨zcF,zcF,zcF,zcF,zcF⟩
theorem zrx {h:Ct}(b:U8L h.bl)(c:U8L h.pl):U8M (zd7 h).bl (zd7 h).pl (zd7 h).cbl (zd7 h).cpl (zd7 h).ds:=⟨b,c,zcF,zcF,zcF⟩
theorem zry {s:Sl}(h:∀ x∈s.p.bs,0≤x∧x≤255):U8M (zc2 s).bl (zc2 s).pl (zc2 s).cbl (zc2 s).cpl (zc2 s).ds:=⟨zcF,zcF,zcF,zcF,h⟩
theorem zrz {c:Ct}(b:U8L c.bl)(d:U8L c.pl):U8M (zdE c).bl (zdE c).pl (zdE c).cbl (zdE c).cpl (zdE c).ds:=⟨zcF,zcF,b,d,zcF⟩
theorem zvE (r:Int):U8M (zx r).bl (zx r).pl (zx r).cbl (zx r).cpl (zx r).ds:=⟨zcF,zcF,zcF,zcF,zcF⟩
theorem zfZ (w:World):HAt w none 0 [] none 0 []:=⟨zcZ w,zcZ w,(fun _ _ e=>by cases e),(fun _ _ e=>by cases e)⟩
theorem zmj (w:World):zcG w ⟨⟨0,0,[]⟩,none,0⟩:=⟨zgE w,nR_ _,nZ_ _,(fun _=>rfl),(fun _ _ e=>by cases e)⟩
theorem zrA {b:Bc}(h:zcG w b)(c:b.v.f=0):GM w (zeI b):=⟨zrs h (zjo c),(zoT c).check,zrw b,⟨h,zfZ w,zfZ w⟩⟩
theorem zrB {h:Ct}(b:HAt w h.ba h.bc h.bl h.pa h.pc h.pl)(f:zK h.au h.rd h.bl h.pl=0)(c:U8L h.bl)(d:U8L h.pl):GM w (zd7 h):=⟨zrt b,(zoU f).check,zrx c d,⟨zmj w,b,zfZ w⟩⟩
theorem zrC {s:Sl}(h:zf w s.p.sa s.p.cap s.p.bs)(b:za4 s.au s.rd s.p.bs.length=0)(c:∀ x∈s.p.bs,0≤x∧x≤255):GM w (zc2 s):=⟨zru h (by have:=(zgl b).2.2;omega),(zoV b).check,zry c,⟨zmj w,zfZ w,zfZ w⟩⟩
theorem zrD {c:Ct}(h:za2 w c)(f:zai c.au c.rd c.bl c.pl c.vl=0)(b:U8L c.bl)(d:U8L c.pl):GM w (zdE c):=⟨zrv h,(zoW f).check,zrz b d,⟨zmj w,zfZ w,h.hat⟩⟩
theorem zvF (w:World){r:Int}(h:1≤r∧r≤1048576):GM w (zx r):=⟨zvD w r,zgR (by show (0:Int)≤0∧(0:Int)<4;decide) (by show (0:Int)≤0∧(0:Int)<4;decide) (by show (if 1≤r∧r≤1048576 then (0:Int) else 2)=0;rw[if_pos h]) rfl,zvE r,⟨zmj w,zfZ w,zfZ w⟩⟩
theorem zm0 (x:MV):x.onTape=x.c.onTape:=by
 have d:zbg x.bl (pz (x.bl.map (·.bs))):=(zck x.bl).symm;have f:zbg x.pl (pz (x.pl.map (·.bs))):=(zck x.pl).symm;have g:zbg x.cbl (pz (x.cbl.map (·.bs))):=(zck x.cbl).symm;have j:zbg x.cpl (pz (x.cpl.map (·.bs))):=(zck x.cpl).symm;have l:x.bytes=x.c.mv.bytes:=by
  have b:=zgO (au:=x.m.hau) (rd:=x.m.hrd) d f;have c:=zgO (au:=x.m.cau) (rd:=x.m.crd) g j;simp only[MV.bytes,zd5,zcj,MC.mv,MV.c];rw[←b];simp only[zdW];rw[←c]
  rfl
 simp only[MC.onTape,MV.onTape,l]
theorem zdP (l:List MV):zu l=zaX (l.map MV.c):=by
 induction l with
 | nil=>rfl
 | cons x l ih=>simp only[zu,zaX,List.flatMap_cons,List.map_cons] at ih ⊢;rw[ih,zm0]
end Go.Proofs.YtdepbohhmfkjgaaGreatDoor
