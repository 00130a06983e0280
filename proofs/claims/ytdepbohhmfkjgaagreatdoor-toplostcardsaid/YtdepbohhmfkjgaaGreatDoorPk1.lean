import Derived.Test.YtdepbohhmfkjgaaGreatDoorPk0
import Derived.Deep.RegionLaw
import Derived.Laws.AppendOwnNone
import Derived.Shelf.Abstract
import Derived.Deep.RegionHeld3
set_option maxRecDepth 100000
set_option maxHeartbeats 4000000
namespace Go.Proofs.YtdepbohhmfkjgaaGreatDoor
open Go.RowKit Tryz
variable {w:World}{n B base:Nat}{bs:List Int}{ops:Array Oper}{Q:Exit→Act→World→Prop}{a:Act}{P:Program}{K:Act→World→Prop}{E:Prop}
theorem zj0 {o:Oper}
  (F:o.guard=none) (s x:Operand) (t:TypeId) (J:o.op=.call { callee:=.builtin .append,args:=#[s,x],argTypes:=#[t,t] })
  (base:Nat) (e:TypeId) (i:TypeInfo) (z:Value) (size g:Nat) (R:P.underlying t=some (.slice e)) (G:P.info? e=some i) (V:i.zero=some z)
  (N:i.size=size) (C:i.bytes=g) (X:z.cells.size=size) (O:0<size)
  (v:Value) (n:Nat) (l:List Value) (M:a.eval s=v) (L:w.ownsRow base e size v n l)
  (f:Addr) (m c:Nat) (b:List Value) (U:a.eval x=.slice (some f) m c) (H:b.length=m*size) (I:∀ j u,b[j]? = some u→w.cell? (f.add j)=some u) (p:∀ u∈b,u.oneCell'=true)
  (y:n+m≤maxLen) (D:(n+m)*g≤140737488355328) (B:base≤w.heap.size)
  (A:∀ d w',w'.ownsRow base e size d (n+m) (l++b)→w.grownBy w' v.ownBlock→K (a.put o.dst d) w') :
  if Region.wanted o (yielded ops a.tmps)=true then Oper.wp P o a w K Q else E:=by
 have T:Region.wanted o (yielded ops a.tmps)=true:=by simp[Region.wanted,F]
 rw[if_pos T];exact wp_append_own w s x t J base e i z size g R G V N C X O v n l M L f m c b U H I p y D B fun d w' q r _=>A d w' q r
theorem zdZ {v:Value}(h:w.ownsRow base 5 1 v n (ub bs)):∃ c b,v=.slice c n b∧n=bs.length∧zf w c b bs:=by
 have f:n=bs.length:=by have:=h.1;rw[zbY] at this;omega
 rcases h.2 with ⟨rfl,j⟩|⟨g,b,l,rfl,_⟩
 ·have d:bs=[]:=eN_ (by omega);subst j d;exact ⟨none,0,rfl,rfl,⟨nR_ _,by decide,.inl rfl,fun _=>rfl,.inl rfl⟩⟩
 ·exact ⟨some ⟨g,0,none⟩,b,rfl,f,(zcC h).2⟩
theorem zqK {v:Value}{c:Int}(h:w.ownsRow base 5 1 v n (ub bs++[.int .u8 c])):w.ownsRow base 5 1 v n (ub (bs++[c])):=by rw[show ub (bs++[c])=ub bs++[.int .u8 c] by simp[ub]];exact h
theorem zz (h:B≤w.heap.size)(o:Obj):B≤(w.alloc o).heap.size:=by simp;exact Nat.le_succ_of_le h
def zaf (bs:List Int):ByteArray:=bs.foldl (fun r n=>r.push (UInt8.ofNat n.toNat)) ByteArray.empty
theorem zf9 (w:World)(c:Option Addr)(n d:Nat)(bs:List Int)(o:n=bs.length)(h:zf w c d bs) :
  (convert 64 9 (.slice c n d)).run prog w=.ok (.string (zaf bs)) w:=by
 subst o;rw[run_convert_bytes_string w 64 9 5 c _ _ underlying64 underlying5 underlying9];cases c with
 | none=>
  obtain rfl:=h.nil rfl;obtain rfl:bs=[]:=eN_ (by have:=h.le;omega)
  rfl
 | some a=>
  refine run_bytesToString w a bs.length d bs ?_;have m:(ub bs).length=bs.length:=zbY bs;rw[←m];refine run_loadCells_list (P:=prog) w a (ub bs) ?_;intro j v b;rcases h.bytes with f|⟨p,q,e,f⟩
  ·subst f;simp[ub] at b
  ·cases e;have l:j<bs.length:=by
    rcases Nat.lt_or_ge j bs.length with g|g
    ·exact g
    ·rw[List.getElem?_eq_none (by rw[zbY];exact g)] at b;cases b
   rw[zaN,f j l];simp[ub,l] at b;simp[l,b]
theorem zfs {rest:List Oper}{o:Oper}(t:o.guard=none)(s x:Operand)
  (A:o.op=.call { callee:=.builtin .append,args:=#[s,x],argTypes:=#[64,64] })
  (base:Nat) (v:Value) (n:Nat) (bs:List Int) (B:a.eval s=v) (p:w.ownsRow base 5 1 v n (ub bs))
  (r:Option Addr) (m d:Nat) (cs:List Int) (C:a.eval x=.slice r m d) (z:m=cs.length) (q:zf w r d cs)
  (J:n+m≤140737488355328) (F:base≤w.heap.size)
  (h:∀ c w',w'.ownsRow base 5 1 c (n+m) (ub (bs++cs))→w.grownBy w' v.ownBlock→wpList prog ops Q rest (a.put o.dst c) w'):wpList prog ops Q (o::rest) a w:=by
 obtain ⟨i,y,G,H,I⟩:=info_parts zdI;cases r with
 | none=>
  obtain rfl:=q.nil rfl;obtain rfl:cs=[]:=eN_ (by have:=q.le;omega);subst z;exact wpList_append_own_none t s x 64 A base 5 i 1 underlying64 y v n (ub bs) B p C (h v w (by simpa using p) (World.grownBy.refl _ _))
 | some ad=>
  refine wpList_append_own w t s x 64 A base 5 i (.int .u8 0) 1 1 underlying64 y G H I rfl (by decide) v n (ub bs) B p ad m d (ub cs) C (by rw[zbY,z];omega) ?_ (zcU cs) (by unfold maxLen;omega) (by omega) F (fun c w' D E _=>h c w' (by rw[show ub (bs++cs)=ub bs++ub cs by simp[ub]];exact D) E);intro j u b;rcases q.bytes with f|⟨L,M,e,f⟩
  ·subst f;simp[ub] at b
  ·cases e;have l:j<cs.length:=by
    rcases Nat.lt_or_ge j cs.length with g|g
    ·exact g
    ·rw[List.getElem?_eq_none (by rw[zbY];exact g)] at b;cases b
   rw[zaN,f j l];simp[ub,l] at b;simp[l,b]
variable {w' w2 w1:World}{sa:Option Addr}{cap:Nat}{v' v1:Value}
structure zR (w:World)(v:Value)(w':World)(v':Value):Prop where
 grown:w.grownBy w' v.ownBlock
 fresh:∀ q,v'.ownBlock=some q→v.ownBlock=some q∨w.heap.size≤q
theorem zR.of {v:Value}(h:w.grownBy w' v.ownBlock)(b:v'.ownBlock=v.ownBlock∨v'.ownBlock=some w.heap.size):zR w v w' v':=
 ⟨h,fun q e=>by
  rcases b with b|b
  ·exact .inl (b.symm.trans e)
  ·rw[b] at e;cases e;exact .inr (nR_ _)⟩
theorem zR.trans {v d:Value}(h:zR w v w1 v1)(k:zR w1 v1 w2 d):zR w v w2 d:=by
 refine ⟨⟨k.grown.os.trans h.grown.os,k.grown.tape.trans h.grown.tape,k.grown.output.trans h.grown.output,nT_ h.grown.size k.grown.size,fun q c b=>?_⟩,fun q e=>?_⟩
 ·rw[k.grown.block q (nL_ c h.grown.size) (fun e=>?_)]
  ·exact h.grown.block q c b
  ·rcases h.fresh q e.symm with g|g
   ·exact b g.symm
   ·omega
 ·rcases k.fresh q e with g|g
  ·exact h.fresh q g
  ·exact .inr (nT_ h.grown.size g)
theorem zR.alloc {v:Value}{o:Obj}(h:zR (w.alloc o) v w' v'):zR w v w' v':=by
 refine ⟨⟨h.grown.os,h.grown.tape,h.grown.output,?_,fun q c b=>?_⟩,fun q e=>?_⟩
 ·exact nT_ (by simp) h.grown.size
 ·rw[h.grown.block q (by rw[zI];omega) b];exact ((bR_ w.heap.size w).alloc (nR_ _) o).block q c
 ·rcases h.fresh q e with g|g
  ·exact .inl g
  ·exact .inr (nT_ (by simp) g)
theorem zR.below {v:Value}(h:zR w v w' v')(c:base≤w.heap.size)(b:∀ q,v.ownBlock=some q→base≤q):Below base w w':=
 ⟨h.grown.os,h.grown.tape,h.grown.output,h.grown.size,fun k d=>h.grown.block k (by omega) (fun e=>by have:=b k e.symm;omega)⟩
theorem zR.row {v:Value}{b:Nat}{o:Obj}(h:zR w v w' v')(c:w.heap[b]? = some o)(d:v.ownBlock≠some b):w'.heap[b]? = some o:=
 (h.grown.block b (ze c) (fun e=>d e.symm)).trans c
theorem zR.slice {v:Value}(h:zR w v w' v')(c:zf w sa cap bs)(l:∀ b f,sa=some ⟨b,f,none⟩→v.ownBlock≠some b):zf w' sa cap bs:=by
 refine ⟨c.le,c.max,c.some,c.nil,?_⟩;rcases c.bytes with d|⟨b,f,rfl,d⟩
 ·exact .inl d
 ·exact .inr ⟨b,f,rfl,fun j g=>(cB_ (h.grown.block b (bL_ (d j g)) (fun e=>l b f rfl e.symm))).trans (d j g)⟩
theorem zeJ {rest:List Oper}{o:Oper}(t:o.guard=none)(s x:Operand)
  (A:o.op=.call { callee:=.builtin .append,args:=#[s,x],argTypes:=#[64,64] })
  (base:Nat) (v:Value) (n:Nat) (bs:List Int) (B:a.eval s=v) (p:w.ownsRow base 5 1 v n (ub bs))
  (r:Option Addr) (m d:Nat) (cs:List Int) (C:a.eval x=.slice r m d) (z:m=cs.length) (q:zf w r d cs)
  (L:n+m≤140737488355328) (G:base≤w.heap.size)
  (h:∀ c w',w'.ownsRow base 5 1 c (n+m) (ub (bs++cs))→zR w v w' c→wpList prog ops Q rest (a.put o.dst c) w'):wpList prog ops Q (o::rest) a w:=by
 obtain ⟨i,y,H,I,J⟩:=info_parts zdI;cases r with
 | none=>
  obtain rfl:=q.nil rfl;obtain rfl:cs=[]:=eN_ (by have:=q.le;omega);subst z;exact wpList_append_own_none t s x 64 A base 5 i 1 underlying64 y v n (ub bs) B p C (h v w (by simpa using p) (zR.of (World.grownBy.refl _ _) (.inl rfl)))
 | some ad=>
  refine wpList_append_own_at w t s x 64 A base 5 i (.int .u8 0) 1 1 underlying64 y H I J rfl (by decide) v n (ub bs) B p ad m d (ub cs) C (by rw[zbY,z];omega) ?_ (zcU cs) (by unfold maxLen;omega) (by omega) G (fun c w' D E _ F=>h c w' (by rw[show ub (bs++cs)=ub bs++ub cs by simp[ub]];exact D) (zR.of E F));intro j u b;rcases q.bytes with f|⟨M,N,e,f⟩
  ·subst f;simp[ub] at b
  ·cases e;have l:j<cs.length:=by
    rcases Nat.lt_or_ge j cs.length with g|g
    ·exact g
    ·rw[List.getElem?_eq_none (by rw[zbY];exact g)] at b;cases b
   rw[zaN,f j l];simp[ub,l] at b;simp[l,b]
variable {md:Region.Mode}{fuel:Nat}{listed:Array Bool}
theorem zc5 {o:Oper}
  (p:o.guard=none) (f:FuncId) (d:List Operand) (g:Array TypeId) (c:o.op=.call { callee:=.value (.func f),args:=d.toArray,argTypes:=g })
  (b:List Value) (q:d.map a.eval=b) (m:∀ args w,(callFunc f args).run prog w=.ok (.enter f args) w)
  (R:Value→World→Prop) (l:Calls prog f b.toArray w fun e w'=>∃ v,e=.returned v∧R v w') (j:∀ v w',R v w'→K (a.put o.dst v) w') :
  if Region.wanted o (yielded ops a.tmps)=true then Oper.wp prog o a w K Q else E:=by
 have r:Region.wanted o (yielded ops a.tmps)=true:=by simp[Region.wanted,p]
 rw[if_pos r];obtain ⟨t,y,ty,z,s,u⟩:=o
 simp only at c
 subst c;unfold Oper.wp;rw[execOp_call_go,List.map_toArray,q,m,Oper.upon_enter,show (#[]++b.toArray++#[]:Array Value)=b.toArray by simp];refine l.mono ?_;rintro e w' ⟨v,rfl,h⟩;exact j v w' h
theorem zhp {S:World→Prop}{i d:Nat}{b:Oper}{v:Value}(m:ops[i]? = some b)(f:b.dst=some d)
  (p:Region.noSelect ops=true) (l:Region.free md ops listed i=true) (o:(Region.ready md ops listed).contains i=true)
  (g:∀ c a w,Q (.panic c) (a.put (some d) v) w→Q (.panic c) a w) (q:YieldsIf P ops S b v a) (j:S w)
  (h:wpAnyH P md ops Q S fuel (listed.setIfInBounds i true) (a.put (some d) v) w):wpAnyH P md ops Q S (fuel+1) listed a w:=
 wpAnyH_take m p l o (by rw[f];exact g) q j (by rw[f];exact h)
theorem zj {o:Oper}
  (q:o.guard=none) (d:Nat) (m:o.dst=some d) (f:FuncId) (c:List Operand) (g:Array TypeId) (r:o.op=.call { callee:=.value (.func f),args:=c.toArray,argTypes:=g })
  (b:List Value) (s:c.map a.eval=b) (p:∀ args w,(callFunc f args).run prog w=.ok (.enter f args) w)
  (R:Value→World→Prop) (l:Calls prog f b.toArray w fun e w'=>∃ v,e=.returned v∧R v w') (j:∀ v w',R v w'→K (a.put (some d) v) w') :
  if Region.wanted o (yielded ops a.tmps)=true then Oper.wp prog o a w K Q else E:=
 zc5 q f c g r b s p R l (by rw[m];exact j)
theorem zaR {o:Oper}
  (s:Region.wanted o (yielded ops a.tmps)=true) (d:Nat) (c:o.dst=some d) (f:FuncId) (j:List Operand) (l:Array TypeId) (g:o.op=.call { callee:=.value (.func f),args:=j.toArray,argTypes:=l })
  (b:List Value) (r:j.map a.eval=b) (q:∀ args w,(callFunc f args).run prog w=.ok (.enter f args) w)
  (R:Value→World→Prop) (p:Calls prog f b.toArray w fun e w'=>∃ v,e=.returned v∧R v w') (m:∀ v w',R v w'→K (a.put (some d) v) w') :
  if Region.wanted o (yielded ops a.tmps)=true then Oper.wp prog o a w K Q else E:=by
 rw[if_pos s];obtain ⟨u,z,ty,A,t,y⟩:=o
 simp only at g c
 subst g c;unfold Oper.wp;rw[execOp_call_go,List.map_toArray,r,q,Oper.upon_enter,show (#[]++b.toArray++#[]:Array Value)=b.toArray by simp];refine p.mono ?_;rintro e w' ⟨v,rfl,h⟩;exact m v w' h
theorem zw {o:Oper}
  (f:o.guard=none) (d:Nat) (c:o.dst=some d) (v:Value) (w':World) (g:(execOp a.eval o).run prog w=.ok (.value v) w') (b:K (a.put (some d) v) w') :
  if Region.wanted o (yielded ops a.tmps)=true then Oper.wp prog o a w K Q else E:=by
 have j:Region.wanted o (yielded ops a.tmps)=true:=by simp[Region.wanted,f]
 rw[if_pos j];unfold Oper.wp;rw[g,Oper.upon_value,c];exact b
theorem zbZ {o:Oper}
  (G:o.guard=none) (s x:Operand) (t:TypeId) (L:o.op=.call { callee:=.builtin .append,args:=#[s,x],argTypes:=#[t,t] })
  (base:Nat) (e:TypeId) (i:TypeInfo) (z:Value) (size g:Nat) (U:prog.underlying t=some (.slice e)) (H:prog.info? e=some i) (Y:i.zero=some z)
  (R:i.size=size) (D:i.bytes=g) (Z:z.cells.size=size) (T:0<size)
  (v:Value) (n:Nat) (l:List Value) (O:a.eval s=v) (M:w.ownsRow base e size v n l)
  (f:Addr) (m c:Nat) (b:List Value) (X:a.eval x=.slice (some f) m c) (I:b.length=m*size) (J:∀ j u,b[j]? = some u→w.cell? (f.add j)=some u) (p:∀ u∈b,u.oneCell'=true)
  (A:n+m≤maxLen) (F:(n+m)*g≤140737488355328) (C:base≤w.heap.size)
  (B:∀ d w',w'.ownsRow base e size d (n+m) (l++b)→zR w v w' d→K (a.put o.dst d) w') :
  if Region.wanted o (yielded ops a.tmps)=true then Oper.wp prog o a w K Q else E:=by
 have V:Region.wanted o (yielded ops a.tmps)=true:=by simp[Region.wanted,G]
 rw[if_pos V];obtain ⟨d,w',N,q,r,_,y⟩:=run_append_own_at (P:=prog) w base t o.type e i z size g U H Y R D Z T v n l M f m c b I J p A F C;unfold Oper.wp execOp;simp only[L,resolve,invoke,builtin,Sem.run_bind,Sem.run_pure,Result.andThen_ok,List.map_toArray,List.map_cons,List.map_nil,O,X,N];exact B d w' q (zR.of r y)
theorem zg:(∀ (a:Act)(d:Nat)(v:Value),a.put (some d) v={ a with tmps:=a.tmps.setIfInBounds d v })∧(∀ (l:List Value) (i:Nat) (v:Value),l.toArray.setIfInBounds i v=(l.set i v).toArray)∧(∀ (x y:Value) (l:List Value),(x::l).set 0 y=y::l)∧∀ (x y:Value) (l:List Value) (n:Nat),(x::l).set (n+1) y=x::l.set n y:=
 ⟨fun _ _ _=>rfl,fun _ _ _=>List.setIfInBounds_toArray ..,fun _ _ _=>rfl,fun _ _ _ _=>rfl⟩
theorem tQ_ {S:World→Prop}(i d:Nat){f:Oper}(v:Value){g:Nat}{b:Array Bool}{a:Act}{w:World}(p:ops[i]? = some f)(m:f.dst=some d)(s:YieldsIf P ops S f v a)(l:S w)
  (h:wpAnyH P md ops Q S g (b.setIfInBounds i true) (a.put (some d) v) w) (r:Region.noSelect ops=true:=by kernel_rfl) (o:Region.free md ops b i=true:=by kernel_rfl) (q:(Region.ready md ops b).contains i=true:=by kernel_rfl)
  (j:∀ c a w,Q (.panic c) (a.put (some d) v) w→Q (.panic c) a w:=by exact fun _ _ _ h=>h):wpAnyH P md ops Q S (g+1) b a w:=zhp p m r o q j s l h
theorem tK_ {S:World→Prop}(i d:Nat){f:Oper}(v:Value){g:Nat}{b:Array Bool}{a:Act}{w:World}(q:ops[i]? = some f)(o:f.dst=some d)(l:S w)
  (h:wpAnyH P md ops Q S g (b.setIfInBounds i true) (a.put (some d) v) w) (t:YieldsIf P ops S f v a:=by exact Or.inl ⟨by rfl,by intro w0 m;(try dsimp only at m);go_simp⟩) (s:Region.noSelect ops=true:=by kernel_rfl) (p:Region.free md ops b i=true:=by kernel_rfl) (r:(Region.ready md ops b).contains i=true:=by kernel_rfl)
  (j:∀ c a w,Q (.panic c) (a.put (some d) v) w→Q (.panic c) a w:=by exact fun _ _ _ h=>h):wpAnyH P md ops Q S (g+1) b a w:=zhp q o s p r j t l h
theorem sK_ {S:World→Prop}(i d:Nat){f:Oper}{g:Nat}{b:Array Bool}{a:Act}{w:World}(p:ops[i]? = some f)(m:f.dst=some d)(l:S w)
  (h:wpAnyH P md ops Q S g (b.setIfInBounds i true) (a.put (some d) undef) w) (s:YieldsIf P ops S f undef a:=by exact Or.inr ⟨by rfl,rfl⟩) (r:Region.noSelect ops=true:=by kernel_rfl) (o:Region.free md ops b i=true:=by kernel_rfl) (q:(Region.ready md ops b).contains i=true:=by kernel_rfl)
  (j:∀ c a w,Q (.panic c) (a.put (some d) undef) w→Q (.panic c) a w:=by exact fun _ _ _ h=>h):wpAnyH P md ops Q S (g+1) b a w:=zhp p m r o q j s l h
theorem zE {S:World→Prop}(i:Nat){o:Oper}{d:Nat}{c:Array Bool}{a:Act}{w:World}(f:ops[i]? = some o)
  (h:∀ b:Act→World→Prop,Shut (∀ a w,S w→(S w→wpAnyH P md ops Q S d (c.setIfInBounds i true) a w)→b a w)→if Region.wanted o (yielded ops a.tmps)=true then Oper.wp P o a w b Q else b (a.put o.dst undef) w)
  (g:Region.ready md ops c=[i]:=by kernel_rfl):wpAnyH P md ops Q S (d+1) c a w:=wpAnyH_ready g (by simp) (AllReadyH.cons f h AllReadyH.nil)
def TksOk (P:Program)(md:Region.Mode)(ops:Array Oper)(S:World→Prop):List (Nat×Nat×Value)→Array Bool→Act→Prop
 | [],_,_=>True
 | x::r,listed,a=>(∃ oi,ops[x.1]? = some oi∧oi.dst=some x.2.1∧Region.free md ops listed x.1=true∧(Region.ready md ops listed).contains x.1=true∧YieldsIf P ops S oi x.2.2 a)∧TksOk P md ops S r (listed.setIfInBounds x.1 true) (a.put (some x.2.1) x.2.2)
theorem tkc_ {S:World→Prop}{i d:Nat}{v:Value}{r:List (Nat×Nat×Value)}(b:Oper)(c:ops[i]? = some b)(f:b.dst=some d)(g:Region.free md ops listed i=true)(j:(Region.ready md ops listed).contains i=true)(l:YieldsIf P ops S b v a)(m:TksOk P md ops S r (listed.setIfInBounds i true) (a.put (some d) v)):TksOk P md ops S ((i,d,v)::r) listed a:=⟨⟨b,c,f,g,j,l⟩,m⟩
theorem tkn_ {S:World→Prop}:TksOk P md ops S [] listed a:=trivial
def tkl_:List (Nat×Nat×Value)→Array Bool→Array Bool
 | [],l=>l
 | x::r,l=>tkl_ r (l.setIfInBounds x.1 true)
def tka_:List (Nat×Nat×Value)→Act→Act
 | [],a=>a
 | x::r,a=>tka_ r (a.put (some x.2.1) x.2.2)
theorem tkr_ {S:World→Prop}(m:Region.noSelect ops=true)(g:∀ c a w d v,Q (.panic c) (a.put (some d) v) w→Q (.panic c) a w)(j:S w):∀ (l:List (Nat×Nat×Value)) (b:Nat) (f:Array Bool) (a:Act),TksOk P md ops S l f a→wpAnyH P md ops Q S b (tkl_ l f) (tka_ l a) w→wpAnyH P md ops Q S (b+l.length) f a w
 | [],_,_,_,_,h=>h
 | (i,d,v)::r,b,f,a,⟨⟨_,h1,h2,h3,h4,h5⟩,h6⟩,h=>by
  have:=tkr_ m g j r b _ _ h6 h
  exact zhp h1 h2 m h3 h4 (fun c a w=>g c a w d v) h5 j this
theorem tks_ {S:World→Prop}(k:Nat)(l:List (Nat×Nat×Value))(f:S w)(h:wpAnyH P md ops Q S fuel (tkl_ l listed) (tka_ l a) w)(m:l.length=k:=by rfl)(o:Region.noSelect ops=true:=by kernel_rfl)(b:∀ c a w d v,Q (.panic c) (a.put (some d) v) w→Q (.panic c) a w:=by exact fun _ _ _ _ _ h=>h)
  (j:TksOk P md ops S l listed a:=by
   repeat (first
    | exact tkn_
    | (refine tkc_ _ (by rfl) (by rfl) (by kernel_rfl) (by kernel_rfl) (by first|exact Or.inr ⟨by rfl,rfl⟩|exact Or.inl ⟨by rfl,by intro w0 g;(try dsimp only at g);go_simp⟩) ?_;(try simp only[zg])))):wpAnyH P md ops Q S (fuel+k) listed a w:=by subst m;exact tkr_ o b f l fuel listed a j h
theorem tkf_:(∀ l,tkl_ [] l=l)∧(∀ x r l,tkl_ (x::r) l=tkl_ r (l.setIfInBounds x.1 true))∧(∀ a,tka_ [] a=a)∧(∀ x r a,tka_ (x::r) a=tka_ r (a.put (some x.2.1) x.2.2)):=⟨fun _=>rfl,fun _ _ _=>rfl,fun _=>rfl,fun _ _ _=>rfl⟩
abbrev wR_:=@wp_region_held_drew
abbrev wD_:=@wpAnyH_done
abbrev bP_:=@bodyPost_ret
theorem eO_ {f:FuncId}{fn:Func}(h:P.funcs[f]? = some fn)(n:(fn.name == "runtime.NumGoroutine")=false:=by kernel_rfl)(b:fn.body.isSome=true:=by rfl):Enters P f:=by
 obtain ⟨c,d⟩:=Option.isSome_iff_exists.1 b;exact enters_of h n d
variable {ss:List ByteArray}{k j:Nat}
theorem sMsg':(prog.info? 71).map (·.size)=some 19:=by kernel_rfl
theorem zdm {o:Oper}
  (l:o.guard=none) (j:o.dst=none) (ty:TypeId) (x y:Operand) (q:o.op=.store ty x y) (g:Nat) (b:Array Value) (s:a.eval x=(P_ g 0)) (u:a.eval y=.agg b)
  (t:TypeId) (c:Array Value) (m:w.heap[g]? = some (.cells c t (0,0))) (p:(prog.info? ty).map (·.size)=some b.size) (r:c.size=b.size) (d:b.all (·.oneCell')=true) (f:K a (w.setRow g b)) :
  if Region.wanted o (yielded ops a.tmps)=true then Oper.wp prog o a w K Q else E:=by
 rw[if_pos (by simp[Region.wanted,l])];exact wp_store_row ty x y q g b s u t c m p r d (by rw[j];exact f)
theorem zhq {b:Nat}{cs:Array Value}(h:k≠b):(w.setRow b cs).cell? ⟨k,j,none⟩=w.cell? ⟨k,j,none⟩:=cB_ (setRow_other w b k cs h)
theorem zas.setRow (h:zas w sa ss)(b:Nat)(cs:Array Value)(j:∀ c d,sa=some ⟨c,d,none⟩→c≠b):zas (w.setRow b cs) sa ss:=by
 refine ⟨?_,h.size⟩;rcases h.cells with h|⟨c,d,rfl,f⟩
 ·exact .inl h
 ·exact .inr ⟨c,d,rfl,fun k g=>(zhq (j c d rfl)).trans (f k g)⟩
theorem zig (h:zf w sa cap bs)(b:Nat)(cs:Array Value)(j:∀ c d,sa=some ⟨c,d,none⟩→c≠b):zf (w.setRow b cs) sa cap bs:=by
 refine ⟨h.le,h.max,h.some,h.nil,?_⟩;rcases h.bytes with f|⟨c,d,e,f⟩
 ·exact .inl f
 ·exact .inr ⟨c,d,e,fun k g=>(zhq (j c d e)).trans (f k g)⟩
theorem zch:(prog.info? 71).map (·.size)=some 19:=by kernel_rfl
theorem zsG (m:Msg)(w:World)(d:m.ki=1) :
  Calls prog 58 #[.agg #[I_ m.fr,I_ m.tt,I_ m.ki,I_ m.bau,I_ m.bnu,.slice m.bta m.btn m.btc,I_ m.hau,I_ m.hrd,.slice m.hba m.hbn m.hbc,.slice m.hpa m.hpn m.hpc,I_ m.sau,I_ m.srd,.slice m.sda m.sdn m.sdc,I_ m.cau,I_ m.crd,.slice m.cba m.cbn m.cbc,.slice m.cpa m.cpn m.cpc,.slice m.cva m.cvn m.cvc,I_ m.ro]] w fun e w'=>e=.returned (.agg #[I_ m.fr,I_ m.tt,I_ 1,I_ 0,I_ 0,O_,I_ m.hau,I_ m.hrd,.slice m.hba m.hbn m.hbc,.slice m.hpa m.hpn m.hpc,I_ m.sau,I_ m.srd,.slice m.sda m.sdn m.sdc,I_ m.cau,I_ m.crd,.slice m.cba m.cbn m.cbc,.slice m.cpa m.cpn m.cpc,.slice m.cva m.cvn m.cvc,I_ m.ro])∧B_ w w':=by
 rw[d];refine kA_ ?A0 ?_;exact #[I_ m.fr,I_ m.tt,I_ 1,I_ 0,I_ 0,O_,I_ m.hau,I_ m.hrd,.slice m.hba m.hbn m.hbc,.slice m.hpa m.hpn m.hpc,I_ m.sau,I_ m.srd,.slice m.sda m.sdn m.sdc,I_ m.cau,I_ m.crd,.slice m.cba m.cbn m.cbc,.slice m.cpa m.cpn m.cpc,.slice m.cva m.cvn m.cvc,I_ m.ro];refine kA_ ?B0 ?_;exact #[I_ 0,I_ 0,I_ 0,I_ 0,I_ 0,O_,I_ 0,I_ 0,O_,O_,I_ 0,I_ 0,O_,I_ 0,I_ 0,O_,O_,O_,I_ 0];have f:=hX_ w (.cells ?A0 71) (.cells ?B0 71);have b:=hY_ w (.cells ?A0 71) (.cells ?B0 71);have c:B_ w ((w.alloc (.cells ?A0 71)).alloc (.cells ?B0 71)):=((bR_ _ _).alloc (nR_ _) _).alloc (by simp) _;go_in;go_wp2_with (first|refine wpList_load_row rfl 71 _ rfl w.heap.size rfl 71 ?A0 (0,0) _ f underlying71 rfl zch ?_|refine wpList_store_row rfl 71 _ _ rfl (w.heap.size+1) ?A0 rfl rfl 71 ?B0 b zch rfl (by simp[Value.oneCell']) ?_)
 exact bodyPost_ret (v:=.agg ?A0) (results_cell_row (fn:=Tryz.f58) (p:=2) (ty:=71) rfl _ _ (w.heap.size+1) 71 _ (0,0) _ rfl (setRow_heap _ _ _ _ _ _ b) underlying71 rfl zch) rfl ⟨rfl,(Upd.setRow b).below c c.size (by simp)⟩
theorem zsH (m:Msg)(w:World)(d:m.ki=2) :
  Calls prog 58 #[.agg #[I_ m.fr,I_ m.tt,I_ m.ki,I_ m.bau,I_ m.bnu,.slice m.bta m.btn m.btc,I_ m.hau,I_ m.hrd,.slice m.hba m.hbn m.hbc,.slice m.hpa m.hpn m.hpc,I_ m.sau,I_ m.srd,.slice m.sda m.sdn m.sdc,I_ m.cau,I_ m.crd,.slice m.cba m.cbn m.cbc,.slice m.cpa m.cpn m.cpc,.slice m.cva m.cvn m.cvc,I_ m.ro]] w fun e w'=>e=.returned (.agg #[I_ m.fr,I_ m.tt,I_ 2,I_ m.bau,I_ m.bnu,.slice m.bta m.btn m.btc,I_ 0,I_ 0,O_,O_,I_ m.sau,I_ m.srd,.slice m.sda m.sdn m.sdc,I_ m.cau,I_ m.crd,.slice m.cba m.cbn m.cbc,.slice m.cpa m.cpn m.cpc,.slice m.cva m.cvn m.cvc,I_ m.ro])∧B_ w w':=by
 rw[d];refine kA_ ?A0 ?_;exact #[I_ m.fr,I_ m.tt,I_ 2,I_ m.bau,I_ m.bnu,.slice m.bta m.btn m.btc,I_ 0,I_ 0,O_,O_,I_ m.sau,I_ m.srd,.slice m.sda m.sdn m.sdc,I_ m.cau,I_ m.crd,.slice m.cba m.cbn m.cbc,.slice m.cpa m.cpn m.cpc,.slice m.cva m.cvn m.cvc,I_ m.ro];refine kA_ ?B0 ?_;exact #[I_ 0,I_ 0,I_ 0,I_ 0,I_ 0,O_,I_ 0,I_ 0,O_,O_,I_ 0,I_ 0,O_,I_ 0,I_ 0,O_,O_,O_,I_ 0];have f:=hX_ w (.cells ?A0 71) (.cells ?B0 71);have b:=hY_ w (.cells ?A0 71) (.cells ?B0 71);have c:B_ w ((w.alloc (.cells ?A0 71)).alloc (.cells ?B0 71)):=((bR_ _ _).alloc (nR_ _) _).alloc (by simp) _;go_in;go_wp2_with (first|refine wpList_load_row rfl 71 _ rfl w.heap.size rfl 71 ?A0 (0,0) _ f underlying71 rfl zch ?_|refine wpList_store_row rfl 71 _ _ rfl (w.heap.size+1) ?A0 rfl rfl 71 ?B0 b zch rfl (by simp[Value.oneCell']) ?_)
 exact bodyPost_ret (v:=.agg ?A0) (results_cell_row (fn:=Tryz.f58) (p:=2) (ty:=71) rfl _ _ (w.heap.size+1) 71 _ (0,0) _ rfl (setRow_heap _ _ _ _ _ _ b) underlying71 rfl zch) rfl ⟨rfl,(Upd.setRow b).below c c.size (by simp)⟩
theorem zsI (m:Msg)(w:World)(d:m.ki=3) :
  Calls prog 58 #[.agg #[I_ m.fr,I_ m.tt,I_ m.ki,I_ m.bau,I_ m.bnu,.slice m.bta m.btn m.btc,I_ m.hau,I_ m.hrd,.slice m.hba m.hbn m.hbc,.slice m.hpa m.hpn m.hpc,I_ m.sau,I_ m.srd,.slice m.sda m.sdn m.sdc,I_ m.cau,I_ m.crd,.slice m.cba m.cbn m.cbc,.slice m.cpa m.cpn m.cpc,.slice m.cva m.cvn m.cvc,I_ m.ro]] w fun e w'=>e=.returned (.agg #[I_ m.fr,I_ m.tt,I_ 3,I_ m.bau,I_ m.bnu,.slice m.bta m.btn m.btc,I_ m.hau,I_ m.hrd,.slice m.hba m.hbn m.hbc,.slice m.hpa m.hpn m.hpc,I_ 0,I_ 0,O_,I_ m.cau,I_ m.crd,.slice m.cba m.cbn m.cbc,.slice m.cpa m.cpn m.cpc,.slice m.cva m.cvn m.cvc,I_ m.ro])∧B_ w w':=by
 rw[d];refine kA_ ?A0 ?_;exact #[I_ m.fr,I_ m.tt,I_ 3,I_ m.bau,I_ m.bnu,.slice m.bta m.btn m.btc,I_ m.hau,I_ m.hrd,.slice m.hba m.hbn m.hbc,.slice m.hpa m.hpn m.hpc,I_ 0,I_ 0,O_,I_ m.cau,I_ m.crd,.slice m.cba m.cbn m.cbc,.slice m.cpa m.cpn m.cpc,.slice m.cva m.cvn m.cvc,I_ m.ro];refine kA_ ?B0 ?_;exact #[I_ 0,I_ 0,I_ 0,I_ 0,I_ 0,O_,I_ 0,I_ 0,O_,O_,I_ 0,I_ 0,O_,I_ 0,I_ 0,O_,O_,O_,I_ 0];have f:=hX_ w (.cells ?A0 71) (.cells ?B0 71);have b:=hY_ w (.cells ?A0 71) (.cells ?B0 71);have c:B_ w ((w.alloc (.cells ?A0 71)).alloc (.cells ?B0 71)):=((bR_ _ _).alloc (nR_ _) _).alloc (by simp) _;go_in;go_wp2_with (first|refine wpList_load_row rfl 71 _ rfl w.heap.size rfl 71 ?A0 (0,0) _ f underlying71 rfl zch ?_|refine wpList_store_row rfl 71 _ _ rfl (w.heap.size+1) ?A0 rfl rfl 71 ?B0 b zch rfl (by simp[Value.oneCell']) ?_)
 exact bodyPost_ret (v:=.agg ?A0) (results_cell_row (fn:=Tryz.f58) (p:=2) (ty:=71) rfl _ _ (w.heap.size+1) 71 _ (0,0) _ rfl (setRow_heap _ _ _ _ _ _ b) underlying71 rfl zch) rfl ⟨rfl,(Upd.setRow b).below c c.size (by simp)⟩
theorem zsJ (m:Msg)(w:World)(d:m.ki=4) :
  Calls prog 58 #[.agg #[I_ m.fr,I_ m.tt,I_ m.ki,I_ m.bau,I_ m.bnu,.slice m.bta m.btn m.btc,I_ m.hau,I_ m.hrd,.slice m.hba m.hbn m.hbc,.slice m.hpa m.hpn m.hpc,I_ m.sau,I_ m.srd,.slice m.sda m.sdn m.sdc,I_ m.cau,I_ m.crd,.slice m.cba m.cbn m.cbc,.slice m.cpa m.cpn m.cpc,.slice m.cva m.cvn m.cvc,I_ m.ro]] w fun e w'=>e=.returned (.agg #[I_ m.fr,I_ m.tt,I_ 4,I_ m.bau,I_ m.bnu,.slice m.bta m.btn m.btc,I_ m.hau,I_ m.hrd,.slice m.hba m.hbn m.hbc,.slice m.hpa m.hpn m.hpc,I_ m.sau,I_ m.srd,.slice m.sda m.sdn m.sdc,I_ 0,I_ 0,O_,O_,O_,I_ m.ro])∧B_ w w':=by
 rw[d];refine kA_ ?A0 ?_;exact #[I_ m.fr,I_ m.tt,I_ 4,I_ m.bau,I_ m.bnu,.slice m.bta m.btn m.btc,I_ m.hau,I_ m.hrd,.slice m.hba m.hbn m.hbc,.slice m.hpa m.hpn m.hpc,I_ m.sau,I_ m.srd,.slice m.sda m.sdn m.sdc,I_ 0,I_ 0,O_,O_,O_,I_ m.ro];refine kA_ ?B0 ?_;exact #[I_ 0,I_ 0,I_ 0,I_ 0,I_ 0,O_,I_ 0,I_ 0,O_,O_,I_ 0,I_ 0,O_,I_ 0,I_ 0,O_,O_,O_,I_ 0];have f:=hX_ w (.cells ?A0 71) (.cells ?B0 71);have b:=hY_ w (.cells ?A0 71) (.cells ?B0 71);have c:B_ w ((w.alloc (.cells ?A0 71)).alloc (.cells ?B0 71)):=((bR_ _ _).alloc (nR_ _) _).alloc (by simp) _;go_in;go_wp2_with (first|refine wpList_load_row rfl 71 _ rfl w.heap.size rfl 71 ?A0 (0,0) _ f underlying71 rfl zch ?_|refine wpList_store_row rfl 71 _ _ rfl (w.heap.size+1) ?A0 rfl rfl 71 ?B0 b zch rfl (by simp[Value.oneCell']) ?_)
 exact bodyPost_ret (v:=.agg ?A0) (results_cell_row (fn:=Tryz.f58) (p:=2) (ty:=71) rfl _ _ (w.heap.size+1) 71 _ (0,0) _ rfl (setRow_heap _ _ _ _ _ _ b) underlying71 rfl zch) rfl ⟨rfl,(Upd.setRow b).below c c.size (by simp)⟩
theorem zsK (m:Msg)(w:World)(d:m.ki=5) :
  Calls prog 58 #[.agg #[I_ m.fr,I_ m.tt,I_ m.ki,I_ m.bau,I_ m.bnu,.slice m.bta m.btn m.btc,I_ m.hau,I_ m.hrd,.slice m.hba m.hbn m.hbc,.slice m.hpa m.hpn m.hpc,I_ m.sau,I_ m.srd,.slice m.sda m.sdn m.sdc,I_ m.cau,I_ m.crd,.slice m.cba m.cbn m.cbc,.slice m.cpa m.cpn m.cpc,.slice m.cva m.cvn m.cvc,I_ m.ro]] w fun e w'=>e=.returned (.agg #[I_ m.fr,I_ m.tt,I_ 5,I_ m.bau,I_ m.bnu,.slice m.bta m.btn m.btc,I_ m.hau,I_ m.hrd,.slice m.hba m.hbn m.hbc,.slice m.hpa m.hpn m.hpc,I_ m.sau,I_ m.srd,.slice m.sda m.sdn m.sdc,I_ m.cau,I_ m.crd,.slice m.cba m.cbn m.cbc,.slice m.cpa m.cpn m.cpc,.slice m.cva m.cvn m.cvc,I_ 0])∧B_ w w':=by
 rw[d];refine kA_ ?A0 ?_;exact #[I_ m.fr,I_ m.tt,I_ 5,I_ m.bau,I_ m.bnu,.slice m.bta m.btn m.btc,I_ m.hau,I_ m.hrd,.slice m.hba m.hbn m.hbc,.slice m.hpa m.hpn m.hpc,I_ m.sau,I_ m.srd,.slice m.sda m.sdn m.sdc,I_ m.cau,I_ m.crd,.slice m.cba m.cbn m.cbc,.slice m.cpa m.cpn m.cpc,.slice m.cva m.cvn m.cvc,I_ 0];refine kA_ ?B0 ?_;exact #[I_ 0,I_ 0,I_ 0,I_ 0,I_ 0,O_,I_ 0,I_ 0,O_,O_,I_ 0,I_ 0,O_,I_ 0,I_ 0,O_,O_,O_,I_ 0];have f:=hX_ w (.cells ?A0 71) (.cells ?B0 71);have b:=hY_ w (.cells ?A0 71) (.cells ?B0 71);have c:B_ w ((w.alloc (.cells ?A0 71)).alloc (.cells ?B0 71)):=((bR_ _ _).alloc (nR_ _) _).alloc (by simp) _;go_in;go_wp2_with (first|refine wpList_load_row rfl 71 _ rfl w.heap.size rfl 71 ?A0 (0,0) _ f underlying71 rfl zch ?_|refine wpList_store_row rfl 71 _ _ rfl (w.heap.size+1) ?A0 rfl rfl 71 ?B0 b zch rfl (by simp[Value.oneCell']) ?_)
 exact bodyPost_ret (v:=.agg ?A0) (results_cell_row (fn:=Tryz.f58) (p:=2) (ty:=71) rfl _ _ (w.heap.size+1) 71 _ (0,0) _ rfl (setRow_heap _ _ _ _ _ _ b) underlying71 rfl zch) rfl ⟨rfl,(Upd.setRow b).below c c.size (by simp)⟩
theorem zdM (n:Int)(r:Bool)(w:World)(h:r=decide (0≤n∧n<4)):Calls prog 55 #[I_ n] w fun e w'=>e=.returned (.bool r)∧w=w':=by
 by_cases h1:0≤n
 ·by_cases h2:n<4;obtain rfl:r=true:=by simp[h,h1,h2]
  rotate_left
  obtain rfl:r=false:=by simp[h,h2]
  rotate_left
  all_goals
   clear h;go_in
   go_wp2
   go_ret;exact ⟨rfl,rfl⟩
 ·obtain rfl:r=false:=by simp[h,h1]
  clear h;go_in
  go_wp2
  go_ret;exact ⟨rfl,rfl⟩
theorem zdn (n:Int)(r:Bool)(w:World)(h:r=decide (1≤n∧n≤1048576)):Calls prog 78 #[I_ n] w fun e w'=>e=.returned (.bool r)∧w=w':=by
 by_cases h1:1≤n
 ·by_cases h2:n≤1048576;obtain rfl:r=true:=by simp[h,h1,h2]
  rotate_left
  obtain rfl:r=false:=by simp[h,h2]
  rotate_left
  all_goals
   clear h;go_in
   go_wp2
   go_ret;exact ⟨rfl,rfl⟩
 ·obtain rfl:r=false:=by simp[h,h1]
  clear h;go_in
  go_wp2
  go_ret;exact ⟨rfl,rfl⟩
theorem zaJ (n:Int)(w:World)(h:0≤n∧n<4):Calls prog 55 #[I_ n] w fun e w'=>e=.returned (.bool true)∧w=w':=zdM n true w (by simp[h])
theorem zax (n:Int)(w:World)(h:¬(0≤n∧n<4)):Calls prog 55 #[I_ n] w fun e w'=>e=.returned (.bool false)∧w=w':=zdM n false w (by rw[dF_ h])
theorem zbo (n:Int)(w:World)(h:1≤n∧n≤1048576):Calls prog 78 #[I_ n] w fun e w'=>e=.returned (.bool true)∧w=w':=zdn n true w (by simp[h])
theorem za8 (n:Int)(w:World)(h:¬(1≤n∧n≤1048576)):Calls prog 78 #[I_ n] w fun e w'=>e=.returned (.bool false)∧w=w':=zdn n false w (by rw[dF_ h])
def zZ (m:Msg):Msg:=if m.ki=1 then { m with bau:=0,bnu:=0,bta:=none,btn:=0,btc:=0 } else if m.ki=2 then { m with hau:=0,hrd:=0,hba:=none,hbn:=0,hbc:=0,hpa:=none,hpn:=0,hpc:=0 } else if m.ki=3 then { m with sau:=0,srd:=0,sda:=none,sdn:=0,sdc:=0 } else if m.ki=4 then { m with cau:=0,crd:=0,cba:=none,cbn:=0,cbc:=0,cpa:=none,cpn:=0,cpc:=0,cva:=none,cvn:=0,cvc:=0 } else { m with ro:=0 }
theorem znM (m:Msg)(w:World)(c:1≤m.ki∧m.ki≤5) :
  Calls prog 58 #[.agg #[I_ m.fr,I_ m.tt,I_ m.ki,I_ m.bau,I_ m.bnu,.slice m.bta m.btn m.btc,I_ m.hau,I_ m.hrd,.slice m.hba m.hbn m.hbc,.slice m.hpa m.hpn m.hpc,I_ m.sau,I_ m.srd,.slice m.sda m.sdn m.sdc,I_ m.cau,I_ m.crd,.slice m.cba m.cbn m.cbc,.slice m.cpa m.cpn m.cpc,.slice m.cva m.cvn m.cvc,I_ m.ro]] w fun e w'=>e=.returned (.agg #[I_ (zZ m).fr,I_ (zZ m).tt,I_ (zZ m).ki,I_ (zZ m).bau,I_ (zZ m).bnu,.slice (zZ m).bta (zZ m).btn (zZ m).btc,I_ (zZ m).hau,I_ (zZ m).hrd,.slice (zZ m).hba (zZ m).hbn (zZ m).hbc,.slice (zZ m).hpa (zZ m).hpn (zZ m).hpc,I_ (zZ m).sau,I_ (zZ m).srd,.slice (zZ m).sda (zZ m).sdn (zZ m).sdc,I_ (zZ m).cau,I_ (zZ m).crd,.slice (zZ m).cba (zZ m).cbn (zZ m).cbc,.slice (zZ m).cpa (zZ m).cpn (zZ m).cpc,.slice (zZ m).cva (zZ m).cvn (zZ m).cvc,I_ (zZ m).ro])∧B_ w w':=by
 have h:m.ki=1∨m.ki=2∨m.ki=3∨m.ki=4∨m.ki=5:=by omega
 rcases h with h|h|h|h|h;refine (zsG m w h).mono ?_
 rotate_left
 refine (zsH m w h).mono ?_
 rotate_left
 refine (zsI m w h).mono ?_
 rotate_left
 refine (zsJ m w h).mono ?_
 rotate_left
 refine (zsK m w h).mono ?_
 rotate_left
 all_goals
  rintro e w' ⟨rfl,b⟩;exact ⟨by simp[zZ,h],b⟩
def zL (m:Msg)(e:Int):Int:=if ¬(0≤m.fr∧m.fr<4)∨¬(0≤m.tt∧m.tt<4) then 2 else if e≠0 then e else if zaj (zZ m) then 0 else 4
theorem zsL (m:Msg)(c:Int)(w:World)(r:c=0→1≤m.ki∧m.ki≤5)
  (o:∀ f,B_ w f→Calls prog 56 #[.agg #[I_ m.fr,I_ m.tt,I_ m.ki,I_ m.bau,I_ m.bnu,.slice m.bta m.btn m.btc,I_ m.hau,I_ m.hrd,.slice m.hba m.hbn m.hbc,.slice m.hpa m.hpn m.hpc,I_ m.sau,I_ m.srd,.slice m.sda m.sdn m.sdc,I_ m.cau,I_ m.crd,.slice m.cba m.cbn m.cbc,.slice m.cpa m.cpn m.cpc,.slice m.cva m.cvn m.cvc,I_ m.ro]] f fun e w'=>e=.returned (I_ c)∧B_ f w') :
  Calls prog 31 #[.agg #[I_ m.fr,I_ m.tt,I_ m.ki,I_ m.bau,I_ m.bnu,.slice m.bta m.btn m.btc,I_ m.hau,I_ m.hrd,.slice m.hba m.hbn m.hbc,.slice m.hpa m.hpn m.hpc,I_ m.sau,I_ m.srd,.slice m.sda m.sdn m.sdc,I_ m.cau,I_ m.crd,.slice m.cba m.cbn m.cbc,.slice m.cpa m.cpn m.cpc,.slice m.cva m.cvn m.cvc,I_ m.ro]] w fun e w'=>e=.returned (I_ (zL m c))∧B_ w w':=by
 refine kA_ ?A0 ?_;exact #[I_ m.fr,I_ m.tt,I_ m.ki,I_ m.bau,I_ m.bnu,.slice m.bta m.btn m.btc,I_ m.hau,I_ m.hrd,.slice m.hba m.hbn m.hbc,.slice m.hpa m.hpn m.hpc,I_ m.sau,I_ m.srd,.slice m.sda m.sdn m.sdc,I_ m.cau,I_ m.crd,.slice m.cba m.cbn m.cbc,.slice m.cpa m.cpn m.cpc,.slice m.cva m.cvn m.cvc,I_ m.ro];have p:=hN_ w (.cells ?A0 71);have g:=zO w (.cells ?A0 71);by_cases hf:0≤m.fr∧m.fr<4
 ·by_cases ht:0≤m.tt∧m.tt<4
  ·by_cases he:c=0;obtain ⟨s,t⟩:=r he;subst he
   rotate_left
   have b:Hid (zL m c=c):=by show _=_;simp[zL,hf,ht,he]
   rotate_left
   all_goals
    go_in;go_wp2_with (first|(go_at_call 55;first|(refine (zaJ _ _ (by omega)).mono ?_;rintro e w' ⟨rfl,rfl⟩)|(refine (zax _ _ (by omega)).mono ?_;rintro e w' ⟨rfl,rfl⟩))|refine wpList_load_row rfl 71 _ rfl w.heap.size rfl 71 ?A0 (0,0) _ p underlying71 rfl zch ?_)
    refine (o _ g).mono ?_;rintro e f ⟨rfl,d⟩
   ·have u:=zbN d;replace d:=zV d;go_wp2_with (first|refine wpList_load_row rfl 71 _ rfl w.heap.size rfl 71 ?A0 (0,0) _ u underlying71 rfl zch ?_)
    refine (znM m f ⟨s,t⟩).mono ?_;rintro e w2 ⟨rfl,q⟩;have j:=zq d q;by_cases hm:zaj (zZ m);have b:Hid (zL m 0=0):=by show _=_;simp[zL,hf,ht,hm]
    go_wp2_with fail
    refine (zif (zZ m) true w2 hm.symm).mono ?_
    rotate_left
    have b:Hid (zL m 0=4):=by show _=_;simp[zL,hf,ht,hm]
    go_wp2_with fail
    refine (zif (zZ m) false w2 (by simp at hm;exact hm.symm)).mono ?_
    rotate_left
    all_goals
     rintro e y ⟨rfl,l⟩;go_wp2_with fail
     go_ret;exact ⟨zp b.out.symm,j.trans (l.mono j.size)⟩
   ·replace d:=zV d;go_wp2_with fail
    go_ret;exact ⟨zp b.out.symm,d⟩
  ·have b:Hid (zL m c=2):=by show _=_;simp[zL,ht]
   go_in;go_wp2_with (go_at_call 55;first|(refine (zaJ _ _ (by omega)).mono ?_;rintro e w' ⟨rfl,rfl⟩)|(refine (zax _ _ (by omega)).mono ?_;rintro e w' ⟨rfl,rfl⟩))
   go_ret;exact ⟨zp b.out.symm,g⟩
 ·have b:Hid (zL m c=2):=by show _=_;simp[zL,hf]
  go_in;go_wp2_with (go_at_call 55;first|(refine (zaJ _ _ (by omega)).mono ?_;rintro e w' ⟨rfl,rfl⟩)|(refine (zax _ _ (by omega)).mono ?_;rintro e w' ⟨rfl,rfl⟩))
  go_ret;exact ⟨zp b.out.symm,g⟩
theorem zqL {α:Type}(l:List α)(p:α→Bool)(d:α)(k:Nat)(b:k<l.length)(h:p (l.getD k d)=false):l.all p=false:=by
 rw[List.all_eq_false];refine ⟨l[k],gM_ b,?_⟩;rw[List.getD,List.getElem?_eq_getElem b] at h
 simpa using h
theorem zsM {α:Type}(l:List α)(p:α→Bool)(d:α)(h:∀ j,j<l.length→p (l.getD j d)=true):l.all p=true:=by
 rw[List.all_eq_true];intro x c;obtain ⟨j,b,rfl⟩:=List.getElem_of_mem c;have:=h j b
 rwa [List.getD,List.getElem?_eq_getElem b] at this
def zbA (s:ByteArray):Bool:=decide (1≤s.size∧s.size≤20)
def zba (au nu:Int)(ss:List ByteArray):Int:=if ¬(0≤au∧au<4)∨¬(1≤nu∧nu≤1048576) then 2 else if ss.length<1∨4<ss.length then 1 else if ss.all zbA then 0 else 1
end Go.Proofs.YtdepbohhmfkjgaaGreatDoor
