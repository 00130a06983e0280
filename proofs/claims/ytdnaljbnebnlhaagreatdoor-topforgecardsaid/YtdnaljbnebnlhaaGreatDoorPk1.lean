import Derived.Test.YtdnaljbnebnlhaaGreatDoorPk0
import Derived.Deep.RegionHeld
set_option maxRecDepth 100000
set_option maxHeartbeats 4000000
namespace Go.Proofs.YtdnaljbnebnlhaaGreatDoor
open Go.RowKit Tryz
variable {w w':World}{sa:Option Addr}{cap:Nat}
structure zx (w:World)(sa:Option Addr)(cap:Nat)(ps:List zi):Prop where
 le:ps.length<=cap
 max:cap<=9223372036854775807
 small:ps.length<=9000000000000000000
 some:cap=0\/∃sb so,sa=some ⟨sb,so,none⟩
 parts:zbT w sa ps
theorem zx.below {b:List zi}(h:zx w sa cap b)(c:B_ w w'):zx w' sa cap b:=⟨h.le,h.max,h.small,h.some,h.parts.below c⟩
variable {w2 w1:World}{base:Nat}{bs:List Int}{ops:Array Oper}{Q:Exit->Act->World->Prop}{a:Act}{v' v1:Value}
structure zV (w:World)(v:Value)(w':World)(v':Value):Prop where
 grown:w.grownBy w' v.ownBlock
 fresh:∀q,v'.ownBlock=some q->v.ownBlock=some q\/w.heap.size<=q
theorem zV.of {v:Value}(h:w.grownBy w' v.ownBlock)(b:v'.ownBlock=v.ownBlock\/v'.ownBlock=some w.heap.size):zV w v w' v':=
 ⟨h,λq e=>by
  rcases b with b|b
  .exact .inl (b.symm.trans e)
  .rw[b]at e;cases e;exact .inr (nR_ _)⟩
theorem zV.trans {v d:Value}(h:zV w v w1 v1)(k:zV w1 v1 w2 d):zV w v w2 d:=by
 refine⟨⟨k.grown.os.trans h.grown.os,k.grown.tape.trans h.grown.tape,k.grown.output.trans h.grown.output,nT_ h.grown.size k.grown.size,λq c b=>?_⟩,λq e=>?_⟩
 .rw[k.grown.block q (nL_ c h.grown.size) (λe=>?_)]
  .exact h.grown.block q c b
  .rcases h.fresh q e.symm with g|g
   .exact b g.symm
   .omega
 .rcases k.fresh q e with g|g
  .exact h.fresh q g
  .exact .inr (nT_ h.grown.size g)
theorem zV.alloc {v:Value}{o:Obj}(h:zV (w.alloc o) v w' v'):zV w v w' v':=by
 refine⟨⟨h.grown.os,h.grown.tape,h.grown.output,?_,λq c b=>?_⟩,λq e=>?_⟩
 .exact nT_ (by simp) h.grown.size
 .rw[h.grown.block q (by rw[zG];omega) b];exact((bR_ w.heap.size w).alloc (nR_ _) o).block q c
 .rcases h.fresh q e with g|g
  .exact .inl g
  .exact .inr (nT_ (by simp) g)
theorem zV.below {v:Value}(h:zV w v w' v')(c:base<=w.heap.size)(b:∀q,v.ownBlock=some q->base<=q):Below base w w':=
 ⟨h.grown.os,h.grown.tape,h.grown.output,h.grown.size,λk d=>h.grown.block k (by omega) (λe=>by have:=b k e.symm;omega)⟩
theorem zV.row {v:Value}{b:Nat}{o:Obj}(h:zV w v w' v')(c:w.heap[b]? = some o)(d:v.ownBlock≠some b):w'.heap[b]? = some o:=
 (h.grown.block b (ze c) (λe=>d e.symm)).trans c
theorem zV.slice {v:Value}(h:zV w v w' v')(c:zg w sa cap bs)(l:∀b f,sa=some ⟨b,f,none⟩->v.ownBlock≠some b):zg w' sa cap bs:=by
 refine⟨c.le,c.max,c.some,c.nil,?_⟩;rcases c.bytes with d|⟨b,f,rfl,d⟩
 .exact .inl d
 .exact .inr ⟨b,f,rfl,λj g=>(cB_ (h.grown.block b (bL_ (d j g)) (λe=>l b f rfl e.symm))).trans (d j g)⟩
theorem zft {rest:List Oper}{o:Oper}(t:o.guard=none)(s x:Operand)
  (A:o.op=.call { callee:=.builtin .append,args:=#[s,x],argTypes:=#[51,51] })
  (base:Nat) (v:Value) (n:Nat) (bs:List Int) (B:a.eval s=v) (p:w.ownsRow base 5 1 v n (ub bs))
  (r:Option Addr) (m d:Nat) (cs:List Int) (C:a.eval x=.slice r m d) (z:m=cs.length) (q:zg w r d cs)
  (L:n+m<=140737488355328) (G:base<=w.heap.size)
  (h:∀c w',w'.ownsRow base 5 1 c (n+m) (ub (bs++cs))->zV w v w' c->wpList prog ops Q rest (a.put o.dst c) w'):wpList prog ops Q (o::rest) a w:=by
 obtain⟨i,y,H,I,J⟩:=info_parts zek;cases r with
 | none=>
  obtain rfl:=q.nil rfl;obtain rfl:cs=[]:=eN_ (by have:=q.le;omega);subst z;exact wpList_append_own_none t s x 51 A base 5 i 1 underlying51 y v n (ub bs) B p C (h v w (by simpa using p) (zV.of (World.grownBy.refl _ _) (.inl rfl)))
 | some ad=>
  refine wpList_append_own_at w t s x 51 A base 5 i (.int .u8 0) 1 1 underlying51 y H I J rfl (by decide) v n (ub bs) B p ad m d (ub cs) C (by rw[zcb,z];omega) ?_ (zds cs) (by unfold maxLen;omega) (by omega) G (λc w' D E _ F=>h c w' (by rw[show ub (bs++cs)=ub bs++ub cs by simp[ub]];exact D) (zV.of E F));intro j u b;rcases q.bytes with f|⟨M,N,e,f⟩
  .subst f;simp[ub]at b
  .cases e;have l:j<cs.length:=by
    rcases Nat.lt_or_ge j cs.length with g|g
    .exact g
    .rw[List.getElem?_eq_none (by rw[zcb];exact g)]at b;cases b
   rw[zaP,f j l];simp[ub,l]at b;simp[l,b]
variable {n B k rc:Nat}{qs:List zi}{ra:Option Addr}{xs:List Value}
theorem zhc:(prog.info? 51).map (λi=>(i.zero,i.size,i.bytes))=some (some (O_),1,24):=by kernel_rfl
def pv (ps:List zi):List Value:=ps.map zi.val
theorem zs3 (b:List zi):(pv b).length=b.length:=by simp[pv]
def zbm (ps qs:List zi):Prop:=ps.map (·.bs)=qs.map (·.bs)
theorem zbm.length {b:List zi}(h:zbm b qs):b.length=qs.length:=by simpa using congrArg List.length h
def z8 (w:World)(B:Nat)(v:Value)(ps:List zi):Prop:=∀p∈ps,zg w p.sa p.cap p.bs/\∀sb so,p.sa=some ⟨sb,so,none⟩->B<=sb/\sb<w.heap.size/\v.ownBlock≠some sb
structure za1 (B:Nat)(ra:Option Addr)(qs:List zi):Prop where
 row:∀sb so,ra=some ⟨sb,so,none⟩->B<=sb
 each:∀p∈qs,∀sb so,p.sa=some ⟨sb,so,none⟩->B<=sb
theorem zx.setCell (h:zx w ra rc qs)(m:za1 B ra qs)(b j:Nat)(v:Value)(q:b<B):zx (w.setCell ⟨b,j,Option.none⟩ v) ra rc qs:=by
 refine⟨h.le,h.max,h.small,h.some,⟨?_,λp o=>?_⟩⟩
 .rcases h.parts.cells with c|⟨d,g,rfl,c⟩
  .exact .inl c
  .exact .inr ⟨d,g,rfl,λk l=>(World.cell?_setCell_far _ _ _ _ (by have:=m.row d g rfl;show b≠d;omega)).trans (c k l)⟩
 .have f:=h.parts.each p o;refine⟨f.le,f.max,f.some,f.nil,?_⟩;rcases f.bytes with c|⟨d,g,e,c⟩
  .exact .inl c
  .exact .inr ⟨d,g,e,λk l=>(World.cell?_setCell_far _ _ _ _ (by have:=m.each p o d g e;show b≠d;omega)).trans (c k l)⟩
theorem zcI {v:Value}{c:List zi}(h:w.ownsRow base 51 1 v n (pv c))(f:z8 w base v c):∃d rc,v=.slice d n rc/\n=c.length/\(n<=9000000000000000000->zx w d rc c)/\za1 base d c:=by
 have u:n=c.length:=by have:=h.1;rw[zs3]at this;omega
 rcases h.2 with⟨rfl,y⟩|⟨g,q,z,rfl,l⟩
 .have s:c=[]:=List.eq_nil_of_length_eq_zero (by omega);subst y s;exact⟨none,0,rfl,rfl,λ_=>⟨Nat.le_refl _,by decide,by decide,.inl rfl,⟨.inl rfl,λp b=>by cases b⟩⟩,⟨(λ_ _ e=>by cases e),(λp b=>by cases b)⟩⟩
 .refine⟨some ⟨g,0,none⟩,q,rfl,u,λB=>⟨?_,?_,by omega,.inr ⟨g,0,rfl⟩,⟨.inr ⟨g,0,rfl,λj t=>?_⟩,λp b=>(f p b).1⟩⟩,⟨(λm o e=>by cases e;exact(h.lt _ rfl).1),(λp b m o e=>((f p b).2 m o e).1)⟩⟩
  .obtain⟨_,_,A,_⟩:=l;omega
  .obtain⟨_,_,_,r,_⟩:=l;exact r
  .rw[Nat.zero_add,World.ownsRow.cellAt h j (by omega)];simp[pv,zi.val,t]
theorem zw {e:TypeId}{s:Nat}{v:Value}(h:w.ownsRow base e s v n xs)(l:B_ w w'):w'.ownsRow base e s v n xs:=by
 have j:∀q,v.ownBlock=some q->q<w.heap.size:=λq e=>(h.lt q e).2;obtain⟨f,b⟩:=h;refine⟨f,?_⟩;rcases b with b|⟨g,c,d,rfl,o,m,r⟩
 .exact .inl b
 .exact .inr ⟨g,c,d,rfl,o,(l.block g (j g rfl)).trans m,r⟩
theorem zu2 (w:World):zg w none 0 []:=⟨Nat.le_refl _,by decide,.inl rfl,λ_=>rfl,.inl rfl⟩
theorem z8.more_at {y:World}{v:Value}{q:zi}{o:Obj}{F:Nat}{e:TypeId}(h:z8 w B v qs)(J:B<=w.heap.size)(A:w.ownsRow B e F v n xs)(s:B_ w w2)
  (C:∀b c,q.sa=some ⟨b,c,none⟩->w.heap.size<=b/\b<w2.heap.size) (E:zg w2 q.sa q.cap q.bs) (G:zV (w2.alloc o) v y v1):z8 y B v1 (qs++[q]):=by
 have m:B_ w2 (w2.alloc o):=(Below.refl _ _).alloc (Nat.le_refl _) _;have L:w2.heap.size<(w2.alloc o).heap.size:=by rw[zG];omega
 have I:=G.grown.size;have H:=s.size;intro p d;rcases List.mem_append.1 d with d|d
 .obtain⟨D,r⟩:=h p d;refine⟨G.slice ((D.below s).below m) (λb c e=>(r b c e).2.2),λb c e=>?_⟩;obtain⟨l,z,j⟩:=r b c e;refine⟨l,by omega,λf=>?_⟩;rcases G.fresh b f with g|g
  .exact j g
  .omega
 .obtain rfl:p=q:=by simpa using d
  have u:∀b c,p.sa=some ⟨b,c,none⟩->w.heap.size<=b/\b<w2.heap.size/\v.ownBlock≠some b:=λb c e=>by
   have t:=C b c e;exact⟨t.1,t.2,λf=>by have:=(A.lt b f).2;omega⟩
  refine⟨G.slice (E.below m) (λb c e=>(u b c e).2.2),λb c e=>?_⟩;obtain⟨l,z,j⟩:=u b c e;refine⟨by omega,by omega,λf=>?_⟩;rcases G.fresh b f with g|g
  .exact j g
  .omega
theorem z8.more {b:World}{v:Value}{q:zi}{o:Obj}{e:TypeId}(h:z8 w B v qs)(c:B<=w.heap.size)(f:w.ownsRow B e 1 v n xs)(d:B_ w w2)
  (g:w2.ownsRow w.heap.size 5 1 (.slice q.sa k q.cap) k (ub q.bs)) (j:zg w2 q.sa q.cap q.bs) (G:zV (w2.alloc o) v b v1):z8 b B v1 (qs++[q]):=
 h.more_at c f d (λl m e=>g.lt l (by rw[e];rfl)) j G
variable {R:Nat}{sh:Bool}
theorem zjy {e:TypeId}{s:Nat}{v:Value}(h:w.ownsRow base e s v n xs)(o:zaG R w w')(p:R<base):w'.ownsRow base e s v n xs:=by
 have j:∀q,v.ownBlock=some q->base<=q/\q<w.heap.size:=λq e=>h.lt q e;obtain⟨f,b⟩:=h;refine⟨f,?_⟩;rcases b with b|⟨g,c,d,rfl,m,l,r⟩
 .exact .inl b
 .exact .inr ⟨g,c,d,rfl,m,(o.block g (j g rfl).2 (by omega)).trans l,r⟩
theorem zri {v:Value}(h:z8 w B v qs)(f:zaG R w w')(l:R<B):z8 w' B v qs:=λp j=>by
 obtain⟨g,d⟩:=h p j
 exact⟨g.only f (λb c e=>by have:=(d b c e).1;omega),λb c e=>⟨(d b c e).1,nL_ (d b c e).2.1 f.size,(d b c e).2.2⟩⟩
theorem zrj {f:World}{v:Value}{q:zi}{o:Obj}(h:z8 w B v qs)(y:zg w q.sa q.cap q.bs)(u:∀b c,q.sa=some ⟨b,c,none⟩->B<=b/\b<w.heap.size/\v.ownBlock≠some b)(G:zV (w.alloc o) v f v1):z8 f B v1 (qs++[q]):=by
 have t:B_ w (w.alloc o):=(bR_ _ _).alloc (nR_ _) _;have D:(w.alloc o).heap.size=w.heap.size+1:=by simp
 have C:=G.grown.size;have l:∀p:zi,zg w p.sa p.cap p.bs->(∀b c,p.sa=some ⟨b,c,none⟩->B<=b/\b<w.heap.size/\v.ownBlock≠some b)->zg f p.sa p.cap p.bs/\∀b c,p.sa=some ⟨b,c,none⟩->B<=b/\b<f.heap.size/\v1.ownBlock≠some b:=λp s j=>by
  refine⟨G.slice (s.below t) (λb c e=>(j b c e).2.2),λb c e=>?_⟩;obtain⟨m,A,r⟩:=j b c e;refine⟨m,by omega,λz=>?_⟩;rcases G.fresh b z with g|g
  .exact r g
  .omega
 intro p d;rcases List.mem_append.1 d with d|d
 .exact l p (h p d).1 (h p d).2
 .obtain rfl:p=q:=by simpa using d
  exact l p y u
structure zyY (w w':World)(e:Ending)(R:Nat)(t l:List Int)(sh:Bool):Prop where
 out:∃da dc,e=.returned (.slice da t.length dc)/\zg w' da dc t/\(∀sb so,da=some ⟨sb,so,none⟩->w.heap.size<=sb/\sb<w'.heap.size)/\zaw w' R l sh/\zaG R w w'
theorem zkA (R:Nat)(l:List Int)(sh:Bool)(w:World)(m:zaw w R l sh)(q:l.length<=100000) :
  Calls prog 103 #[P_ R 0] w λe w'=>zyY w w' e R (tkT 32 l sh) (tkL 32 l sh) (tkS 32 l sh):=by
 have j:=zjx R 32 l sh w m q (by omega);have C:=zg4 (n:=32) (l:=l) (sh:=sh);generalize tkT 32 l sh=t at*;generalize tkL 32 l sh=D at*;generalize tkS 32 l sh=E at*;go_in;go_wp2_with fail
 refine j.mono ?_;rintro e B⟨z,A,b,r,-,o,d⟩;subst b;dsimp only;go_wp2_with fail
 refine(zeH t z _ A B rfl r (by omega)).mono ?_;rintro e w2⟨f,g,b,s,p,c⟩;subst b;dsimp only;go_wp2_with fail
 go_ret;exact⟨f,g,rfl,s,λu y e=>by have:=p u y e;have:=d.size;omega,o.below c,d.trans (zbR c)⟩
def dgL (l:List Int)(sh:Bool):Nat->List Int×Bool
 | 0=>(l,sh)
 | k+1=>(tkL 32 (dgL l sh k).1 (dgL l sh k).2,tkS 32 (dgL l sh k).1 (dgL l sh k).2)
def dgD (l:List Int)(sh:Bool):Nat->List (List Int)
 | 0=>[]
 | k+1=>dgD l sh k++[tkT 32 (dgL l sh k).1 (dgL l sh k).2]
theorem zqL (l:List Int)(sh:Bool)(k:Nat):(dgL l sh k).1.length<=l.length:=by
 induction k with
 | zero=>exact nR_ _
 | succ k ih=>exact nT_ zn5 ih
theorem zn6 (l:List Int)(sh:Bool)(k:Nat)(h:zZ l):zZ (dgL l sh k).1:=by
 induction k with
 | zero=>exact h
 | succ k ih=>exact ih.tkL
def dN (l:List Int)(sh:Bool):Nat:=(zbe (tkT 1 l sh)).toNat
theorem zhe {l:List Int}(h:zZ l):0<=zbe (tkT 1 l sh)/\zbe (tkT 1 l sh)<=255:=by
 have b:=h.tkT (n:=1) (sh:=sh);have c:=zg4 (n:=1) (l:=l) (sh:=sh)
 match tkT 1 l sh,b,c with
 | [],_,_=>simp[zbe]
 | [a],h,_=>have:=h a (by simp);simp[zbe];omega
abbrev St:=List Int×Bool
def nx (n:Nat)(s:St):St:=(tkL n s.1 s.2,tkS n s.1 s.2)
def tT (n:Nat)(s:St):List Int:=tkT n s.1 s.2
def nB (n:Nat)(s:St):Int:=zbe (tT n s)
def dgs (s:St):List (List Int):=dgD (nx 1 s).1 (nx 1 s).2 (dN s.1 s.2)
def dgS (s:St):St:=dgL (nx 1 s).1 (nx 1 s).2 (dN s.1 s.2)
structure zbC (s:St):Prop where
 len:s.1.length<=100000
 u8:zZ s.1
theorem zbC.nx {s:St}(h:zbC s):zbC (nx n s):=⟨nT_ zn5 h.len,h.u8.tkL⟩
theorem zbC.dgS {s:St}(h:zbC s):zbC (dgS s):=⟨nT_ (zqL _ _ _) (h.nx (n:=1)).len,zn6 _ _ _ (h.nx (n:=1)).u8⟩
def RdS (w:World)(R:Nat)(s:St):Prop:=zaw w R s.1 s.2
theorem zdn (R n:Nat)(s:St)(w:World)(c:RdS w R s)(b:zbC s)(d:n<=3) :
  Calls prog 71 #[P_ R 0,I_ (n:Int)] w λe w'=>e=.returned (I_ (nB n s))/\RdS w' R (nx n s)/\zaG R w w':=
 (ziA R n s.1 s.2 w c b.len d b.u8).mono (λ_ _ h=>h.out)
theorem ziB (R:Nat)(s:St)(w:World)(c:RdS w R s)(b:zbC s) :
  Calls prog 76 #[P_ R 0] w λe w'=>e=.returned (I_ (nB 3 s))/\RdS w' R (nx 3 s)/\zaG R w w':=
 (zs2 R s.1 s.2 w c b.len b.u8).mono (λ_ _ h=>h.out)
theorem zjz (h:zx w ra rc qs)(f:za1 B ra qs)(l:zaG R w w')(o:R<B):zx w' ra rc qs:=by
 refine⟨h.le,h.max,h.small,h.some,⟨?_,λp m=>(h.parts.each p m).only l (λb d e=>by have:=f.each p m b d e;omega)⟩⟩;rcases h.parts.cells with c|⟨b,d,e,c⟩
 .exact .inl c
 .exact .inr ⟨b,d,e,λj g=>(cB_ (l.block b (bL_ (c j g)) (by have:=f.row b d e;omega))).trans (c j g)⟩
structure zrk (w w':World)(e:Ending)(R:Nat)(s:St):Prop where
 out:∃da dc,e=.returned (.agg #[I_ (nB 1 s),I_ (nB 3 (nx 1 s)),.slice da (tT 32 (nx 3 (nx 1 s))).length dc])/\zg w' da dc (tT 32 (nx 3 (nx 1 s)))/\(∀sb so,da=some ⟨sb,so,none⟩->w.heap.size<=sb)/\RdS w' R (nx 32 (nx 3 (nx 1 s)))/\zaG R w w'
theorem zu3 (R:Nat)(s:St)(w:World)(B:RdS w R s)(z:zbC s) :
  Calls prog 74 #[P_ R 0] w λe w'=>zrk w w' e R s:=by
 have t:R<w.heap.size:=B.lt;refine kO_ ?C0 ?_;exact Obj.cells #[I_ 0,I_ 0,O_] 53;have p:=zC w ?C0;have A:=hN_ w ?C0;have I:w.heap.size<(w.alloc ?C0).heap.size:=ze A;go_in;go_wp2_with fail
 generalize w.alloc ?C0=L at p A I|-;refine(zdn R 1 s L (zaw.below B p) z (by omega)).mono ?_;rintro _ Y⟨rfl,C,u⟩;dsimp only;go_wp2_with fail
 refine(ziB R _ Y C z.nx).mono ?_;rintro _ w2⟨rfl,D,y⟩;dsimp only;go_wp2_with fail
 refine(zkA R _ _ w2 D z.nx.nx.len).mono ?_;rintro e J⟨b,c,m,H,r,E,G⟩;subst m;dsimp only;have q:=(u.trans y).trans G;have f:=(q.block _ I (by omega)).trans A;have M:=zb f 0 _ rfl;have N:=zb f 1 _ rfl;have O:=zb f 2 _ rfl;have Z:=zd f 0;have f1:=zd f 1;have f2:=zd f 2;refine kW_ ?B0 ?_;exact(J.setCell ⟨w.heap.size,0,none⟩ (I_ (nB 1 s))).setCell ⟨w.heap.size,1,none⟩ (I_ (nB 3 (nx 1 s)));have F:Hid (zrk w ((?B0).setCell ⟨w.heap.size,2,none⟩ (.slice b (tT 32 (nx 3 (nx 1 s))).length c)) (.returned (.agg #[I_ (nB 1 s),I_ (nB 3 (nx 1 s)),.slice b (tT 32 (nx 3 (nx 1 s))).length c])) R s):=by
  have aa:=(u.trans y).size;have X:∀d g,b=some ⟨d,g,none⟩->w.heap.size≠d:=λd g e=>by have:=(r d g e).1;omega
  refine⟨b,c,rfl,?_,λd g e=>by have:=(r d g e).1;omega,((E.far t).far t).far t,?_⟩
  .have o:∀(W:World) (j:Nat) (v:Value),zg W b c (tT 32 (nx 3 (nx 1 s)))->zg (W.setCell ⟨w.heap.size,j,none⟩ v) b c (tT 32 (nx 3 (nx 1 s))):=λW j v h=>h.only (R:=w.heap.size) ((zaG.refl _ W).setCell) (λd g e T=>X d g e T.symm);exact o _ _ _ (o _ _ _ (o _ _ _ H))
  .have l:=(zbR (R:=R) p).trans q;refine⟨l.os,l.tape,l.output,by simpa using l.size,λk U V=>?_⟩;exact(hO_ _ ⟨w.heap.size,2,none⟩ k _ (by show k≠w.heap.size;omega)).trans ((hO_ _ ⟨w.heap.size,1,none⟩ k _ (by show k≠w.heap.size;omega)).trans ((hO_ _ ⟨w.heap.size,0,none⟩ k _ (by show k≠w.heap.size;omega)).trans (l.block k U V)))
 clear H r E C D q u y G f;refine kV_ ?A0 ?_;exact Value.slice b (tkT 32 (nx 3 (nx 1 s)).1 (nx 3 (nx 1 s)).2).length c
 change Hid (zrk w ((?B0).setCell ⟨w.heap.size,2,none⟩ ?A0) (.returned (.agg #[I_ (nB 1 s),I_ (nB 3 (nx 1 s)),?A0])) R s)at F
 go_wp2_with fail
 exact bodyPost_ret (v:=.agg #[I_ (nB 1 s),I_ (nB 3 (nx 1 s)),?A0]) (by simp[results,results74,go_sem,M,N,O]) rfl F.out
def txL (bs:List Int):List UInt8:=(zai bs).toList
theorem zeI (b ys:List Int)(f g:Option Addr)(n m c d:Nat)(w:World)(p:n=b.length)(o:m=ys.length)(j:zg w f c b)(l:zg w g d ys) :
  Calls prog 120 #[.slice f n c,.slice g m d] w λe w'=>e=.returned (.bool (decide (txL b=txL ys)))/\w=w':=by
 have q:=zd8 w f n c b p j;have r:=zd8 w g m d ys o l;clear p o j l;unfold txL;generalize zai b=A at*;generalize zai ys=B at*;go_in;go_wp2_with fail
 go_ret;refine⟨zN ?_,rfl⟩;by_cases h:A.toList=B.toList<;>simp[h]
def zcT (ps:List zi)(k:Nat):zi:=ps.getD k ⟨none,0,[]⟩
theorem zgQ (b:List zi)(k:Nat)(h:k<b.length):zcT b k=b[k]:=by simp[zcT,h]
def zgm (ps:List zi)(k:Nat):Bool:=(List.range k).any λj=>decide (txL (zcT ps j).bs=txL (zcT ps k).bs)
def zcF (ps:List zi)(k:Nat):Int:=if(zcT ps k).bs.length≠32 then 4 else if zgm ps k then 7 else 0
def zbn (ps:List zi):Nat->Int
 | 0=>0
 | k+1=>if zbn ps k≠0 then zbn ps k else zcF ps k
def zb8 (ps:List zi):Int:=zbn ps ps.length
theorem zn7 (b:List zi)(k m:Nat)(h:zbn b k≠0)(c:k<=m):zbn b m=zbn b k:=by
 induction m with
 | zero=>
  obtain rfl:k=0:=by omega
  rfl
 | succ m ih=>
  rcases Nat.lt_or_ge k (m+1)with g|g
  .rw[zbn,ih (by omega),if_pos h]
  .obtain rfl:k=m+1:=by omega
   rfl
theorem zwQ (b:List zi)(k:Nat)(d:k<b.length)(c:zbn b k=0)(h:zcF b k≠0):zb8 b=zcF b k:=by
 have e:zbn b (k+1)=zcF b k:=by rw[zbn,c];simp
 rw[zb8,zn7 b (k+1) b.length (by rw[e];exact h) d,e]
theorem zn8 (b ys:List Int)(f j:Option Addr)(n m c d g:Nat)(w:World)(r:n=b.length)(q:m=ys.length)(l:zg w f c b)(o:zg w j d ys)(s:w.cell? ⟨g,0,none⟩=some (.slice j m d)) :
  Calls prog 119 #[.slice f n c,(P_ g 0)] w λe w'=>e=.returned (.bool (decide (txL b=txL ys)))/\w=w':=by
 go_in;go_wp2_with fail
 refine(zeI b ys _ _ _ _ _ _ w (by first|exact r|rfl) (by first|exact q|rfl) l o).mono ?_;rintro _ t⟨rfl,rfl⟩;dsimp only;go_wp2_with fail
 go_ret;exact⟨rfl,rfl⟩
end Go.Proofs.YtdnaljbnebnlhaaGreatDoor
