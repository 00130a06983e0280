import Derived.Test.YtdnaljbnebnlhaaGreatDoorPk1
import Derived.Shelf.Abstract
import Derived.Deep.RegionHeld3
set_option maxRecDepth 100000
set_option maxHeartbeats 4000000
namespace Go.Proofs.YtdnaljbnebnlhaaGreatDoor
open Go.RowKit Tryz
def zb9 (rd:Int)(n:Nat):Int:=if(rd=1/\0<n)\/(1<rd/\n<3)then 10 else 0
def zO (au rd:Int)(bl pl:List zi):Int:=if ¬(0<=au/\au<4)\/¬(1<=rd/\rd<=1048576)then 2 else if 3<bl.length\/4<pl.length then 1 else if zb8 bl≠0 then zb8 bl else if zb8 pl≠0 then zb8 pl else zb9 rd pl.length
variable {w w':World}{vl:List Int}{va:Option Addr}
structure zax (w:World)(va:Option Addr)(vl:List Int):Prop where
 cells:vl=[]\/∃sb so,va=some ⟨sb,so,none⟩/\∀j,j<vl.length->w.cell? ⟨sb,so+j,none⟩=some (I_ (vl.getD j 0))
theorem zax.below (h:zax w va vl)(g:B_ w w'):zax w' va vl:=by
 refine⟨?_⟩;rcases h.cells with h|⟨d,f,rfl,b⟩
 .exact .inl h
 .exact .inr ⟨d,f,rfl,λj c=>(g.cell (p:=⟨d,f+j,none⟩) (block_lt_of_cell (b j c))).trans (b j c)⟩
def vAt (vl:List Int)(k:Nat):Int:=if ¬(0<=vl.getD k 0/\vl.getD k 0<4)then 2 else if 0<k/\vl.getD k 0<=vl.getD (k-1) 0 then 9 else 0
def vTo (vl:List Int):Nat->Int
 | 0=>0
 | k+1=>if vTo vl k≠0 then vTo vl k else vAt vl k
theorem zs4 (vl:List Int)(k m:Nat)(h:vTo vl k≠0)(b:k<=m):vTo vl m=vTo vl k:=by
 induction m with
 | zero=>
  obtain rfl:k=0:=by omega
  rfl
 | succ m ih=>
  rcases Nat.lt_or_ge k (m+1)with g|g
  .rw[vTo,ih (by omega),if_pos h]
  .obtain rfl:k=m+1:=by omega
   rfl
theorem zxW (vl:List Int)(k:Nat)(c:k<vl.length)(b:vTo vl k=0)(h:vAt vl k≠0):vTo vl vl.length=vAt vl k:=by
 have e:vTo vl (k+1)=vAt vl k:=by rw[vTo,b];simp
 rw[zs4 vl (k+1) vl.length (by rw[e];exact h) c,e]
def zep (vl:List Int):Int:=if vTo vl vl.length≠0 then vTo vl vl.length else if vl.length<3 then 10 else 0
def zap (au rd:Int)(bl pl:List zi)(vl:List Int):Int:=if zO au rd bl pl≠0 then zO au rd bl pl else if 4<vl.length then 1 else zep vl
variable {n base:Nat}{xs:List Value}
theorem zH {e:TypeId}{s:Nat}{v:Value}(h:w.ownsRow base e s v n xs):∃d f,v=.slice d n f:=by
 rcases h.2 with⟨rfl,c⟩|⟨g,b,j,rfl,_⟩
 .subst c;exact⟨none,0,rfl⟩
 .exact⟨some ⟨g,0,none⟩,b,rfl⟩
theorem zQ {e:TypeId}{s:Nat}{v:Value}(h:w.ownsRow base e s v n xs)(b j:Nat)(x:Value)(p:b<base):(w.setCell ⟨b,j,none⟩ x).ownsRow base e s v n xs:=by
 obtain⟨l,c⟩:=h;refine⟨l,?_⟩;rcases c with c|⟨g,d,f,rfl,o,m,r⟩
 .exact .inl c
 .exact .inr ⟨g,d,f,rfl,o,(hO_ w ⟨b,j,none⟩ g x (by show g≠b;omega)).trans m,r⟩
theorem zu4:(prog.info? 3).map (λi=>(i.zero,i.size,i.bytes))=some (some (I_ 0),1,8):=by kernel_rfl
def iv (vl:List Int):List Value:=vl.map (Value.int .i64)
theorem zmS (vl:List Int):(iv vl).length=vl.length:=by simp[iv]
theorem zs5 (vl:List Int):∀u∈iv vl,u.oneCell'=true:=by
 intro u b;simp[iv]at b;obtain⟨x,_,rfl⟩:=b;rfl
theorem zeW {v:Value}(h:w.ownsRow base 3 1 v n (iv vl)):∃c q,v=.slice c n q/\n=vl.length/\zax w c vl/\∀b d,c=some ⟨b,d,none⟩->base<=b:=by
 have o:n=vl.length:=by have:=h.1;rw[zmS]at this;omega
 rcases h.2 with⟨rfl,p⟩|⟨g,f,r,rfl,_⟩
 .have l:vl=[]:=List.eq_nil_of_length_eq_zero (by omega);subst p l;exact⟨none,0,rfl,rfl,⟨.inl rfl⟩,λ_ _ e=>by cases e⟩
 .refine⟨some ⟨g,0,none⟩,f,rfl,o,⟨.inr ⟨g,0,rfl,λj m=>?_⟩⟩,λb d e=>by cases e;exact(h.lt _ rfl).1⟩;rw[Nat.zero_add,World.ownsRow.cellAt h j (by omega)];simp[iv,m]
theorem zax.setCell (h:zax w va vl)(b j:Nat)(v:Value)(l:∀c d,va=some ⟨c,d,none⟩->b≠c):zax (w.setCell ⟨b,j,none⟩ v) va vl:=by
 refine⟨?_⟩;rcases h.cells with h|⟨c,d,rfl,f⟩
 .exact .inl h
 .exact .inr ⟨c,d,rfl,λk g=>(World.cell?_setCell_far _ _ _ _ (l c d rfl)).trans (f k g)⟩
variable {ops:Array Oper}{Q:Exit->Act->World->Prop}{a:Act}{P:Program}{K:Act->World->Prop}{E:Prop}{md:Region.Mode}{fuel:Nat}{listed:Array Bool}
theorem zdF {o:Oper}
  (p:o.guard=none) (f:FuncId) (d:List Operand) (g:Array TypeId) (c:o.op=.call { callee:=.value (.func f),args:=d.toArray,argTypes:=g })
  (b:List Value) (q:d.map a.eval=b) (m:∀args w,(callFunc f args).run prog w=.ok (.enter f args) w)
  (R:Value->World->Prop) (l:Calls prog f b.toArray w λe w'=>∃v,e=.returned v/\R v w') (j:∀v w',R v w'->K (a.put o.dst v) w') :
  if Region.wanted o (yielded ops a.tmps)=true then Oper.wp prog o a w K Q else E:=by
 have r:Region.wanted o (yielded ops a.tmps)=true:=by simp[Region.wanted,p]
 rw[if_pos r];obtain⟨t,y,ty,z,s,u⟩:=o
 simp only at c
 subst c;unfold Oper.wp;rw[execOp_call_go,List.map_toArray,q,m,Oper.upon_enter,show(#[]++b.toArray++#[]:Array Value)=b.toArray by simp];refine l.mono ?_;rintro e w'⟨v,rfl,h⟩;exact j v w' h
theorem ziC {S:World->Prop}{i d:Nat}{b:Oper}{v:Value}(m:ops[i]? = some b)(f:b.dst=some d)
  (p:Region.noSelect ops=true) (l:Region.free md ops listed i=true) (o:(Region.ready md ops listed).contains i=true)
  (g:∀c a w,Q (.panic c) (a.put (some d) v) w->Q (.panic c) a w) (q:YieldsIf P ops S b v a) (j:S w)
  (h:wpAnyH P md ops Q S fuel (listed.setIfInBounds i true) (a.put (some d) v) w):wpAnyH P md ops Q S (fuel+1) listed a w:=
 wpAnyH_take m p l o (by rw[f];exact g) q j (by rw[f];exact h)
theorem zj {o:Oper}
  (q:o.guard=none) (d:Nat) (m:o.dst=some d) (f:FuncId) (c:List Operand) (g:Array TypeId) (r:o.op=.call { callee:=.value (.func f),args:=c.toArray,argTypes:=g })
  (b:List Value) (s:c.map a.eval=b) (p:∀args w,(callFunc f args).run prog w=.ok (.enter f args) w)
  (R:Value->World->Prop) (l:Calls prog f b.toArray w λe w'=>∃v,e=.returned v/\R v w') (j:∀v w',R v w'->K (a.put (some d) v) w') :
  if Region.wanted o (yielded ops a.tmps)=true then Oper.wp prog o a w K Q else E:=
 zdF q f c g r b s p R l (by rw[m];exact j)
theorem zaJ {o:Oper}
  (s:Region.wanted o (yielded ops a.tmps)=true) (d:Nat) (c:o.dst=some d) (f:FuncId) (j:List Operand) (l:Array TypeId) (g:o.op=.call { callee:=.value (.func f),args:=j.toArray,argTypes:=l })
  (b:List Value) (r:j.map a.eval=b) (q:∀args w,(callFunc f args).run prog w=.ok (.enter f args) w)
  (R:Value->World->Prop) (p:Calls prog f b.toArray w λe w'=>∃v,e=.returned v/\R v w') (m:∀v w',R v w'->K (a.put (some d) v) w') :
  if Region.wanted o (yielded ops a.tmps)=true then Oper.wp prog o a w K Q else E:=by
 rw[if_pos s];obtain⟨u,z,ty,A,t,y⟩:=o
 simp only at g c
 subst g c;unfold Oper.wp;rw[execOp_call_go,List.map_toArray,r,q,Oper.upon_enter,show(#[]++b.toArray++#[]:Array Value)=b.toArray by simp];refine p.mono ?_;rintro e w'⟨v,rfl,h⟩;exact m v w' h
theorem zy {o:Oper}
  (f:o.guard=none) (d:Nat) (c:o.dst=some d) (v:Value) (w':World) (g:(execOp a.eval o).run prog w=.ok (.value v) w') (b:K (a.put (some d) v) w') :
  if Region.wanted o (yielded ops a.tmps)=true then Oper.wp prog o a w K Q else E:=by
 have j:Region.wanted o (yielded ops a.tmps)=true:=by simp[Region.wanted,f]
 rw[if_pos j];unfold Oper.wp;rw[g,Oper.upon_value,c];exact b
theorem zcc {o:Oper}
  (G:o.guard=none) (s x:Operand) (t:TypeId) (L:o.op=.call { callee:=.builtin .append,args:=#[s,x],argTypes:=#[t,t] })
  (base:Nat) (e:TypeId) (i:TypeInfo) (z:Value) (size g:Nat) (U:prog.underlying t=some (.slice e)) (H:prog.info? e=some i) (Y:i.zero=some z)
  (R:i.size=size) (D:i.bytes=g) (Z:z.cells.size=size) (T:0<size)
  (v:Value) (n:Nat) (l:List Value) (O:a.eval s=v) (M:w.ownsRow base e size v n l)
  (f:Addr) (m c:Nat) (b:List Value) (X:a.eval x=.slice (some f) m c) (I:b.length=m*size) (J:∀j u,b[j]? = some u->w.cell? (f.add j)=some u) (p:∀u∈b,u.oneCell'=true)
  (A:n+m<=maxLen) (F:(n+m)*g<=140737488355328) (C:base<=w.heap.size)
  (B:∀d w',w'.ownsRow base e size d (n+m) (l++b)->zV w v w' d->K (a.put o.dst d) w') :
  if Region.wanted o (yielded ops a.tmps)=true then Oper.wp prog o a w K Q else E:=by
 have V:Region.wanted o (yielded ops a.tmps)=true:=by simp[Region.wanted,G]
 rw[if_pos V];obtain⟨d,w',N,q,r,_,y⟩:=run_append_own_at (P:=prog) w base t o.type e i z size g U H Y R D Z T v n l M f m c b I J p A F C;unfold Oper.wp execOp;simp only[L,resolve,invoke,builtin,Sem.run_bind,Sem.run_pure,Result.andThen_ok,List.map_toArray,List.map_cons,List.map_nil,O,X,N];exact B d w' q (zV.of r y)
theorem zf:(∀(a:Act) (d:Nat) (v:Value),a.put (some d) v={ a with tmps:=a.tmps.setIfInBounds d v })/\(∀(l:List Value) (i:Nat) (v:Value),l.toArray.setIfInBounds i v=(l.set i v).toArray)/\(∀(x y:Value) (l:List Value),(x::l).set 0 y=y::l)/\∀(x y:Value) (l:List Value) (n:Nat),(x::l).set (n+1) y=x::l.set n y:=
 ⟨λ_ _ _=>rfl,λ_ _ _=>List.setIfInBounds_toArray ..,λ_ _ _=>rfl,λ_ _ _ _=>rfl⟩
theorem tQ_ {S:World->Prop}(i d:Nat){f:Oper}(v:Value){g:Nat}{b:Array Bool}{a:Act}{w:World}(p:ops[i]? = some f)(m:f.dst=some d)(s:YieldsIf P ops S f v a)(l:S w)
  (h:wpAnyH P md ops Q S g (b.setIfInBounds i true) (a.put (some d) v) w) (r:Region.noSelect ops=true:=by kernel_rfl) (o:Region.free md ops b i=true:=by kernel_rfl) (q:(Region.ready md ops b).contains i=true:=by kernel_rfl)
  (j:∀c a w,Q (.panic c) (a.put (some d) v) w->Q (.panic c) a w:=by exact λ_ _ _ h=>h):wpAnyH P md ops Q S (g+1) b a w:=ziC p m r o q j s l h
theorem zU {S:World->Prop}(i d:Nat){f:Oper}(v:Value){g:Nat}{b:Array Bool}{a:Act}{w:World}(q:ops[i]? = some f)(o:f.dst=some d)(l:S w)
  (h:wpAnyH P md ops Q S g (b.setIfInBounds i true) (a.put (some d) v) w) (t:YieldsIf P ops S f v a:=by exact Or.inl ⟨by rfl,by intro w0 m;(try dsimp only at m);go_simp⟩) (s:Region.noSelect ops=true:=by kernel_rfl) (p:Region.free md ops b i=true:=by kernel_rfl) (r:(Region.ready md ops b).contains i=true:=by kernel_rfl)
  (j:∀c a w,Q (.panic c) (a.put (some d) v) w->Q (.panic c) a w:=by exact λ_ _ _ h=>h):wpAnyH P md ops Q S (g+1) b a w:=ziC q o s p r j t l h
theorem sK_ {S:World->Prop}(i d:Nat){f:Oper}{g:Nat}{b:Array Bool}{a:Act}{w:World}(p:ops[i]? = some f)(m:f.dst=some d)(l:S w)
  (h:wpAnyH P md ops Q S g (b.setIfInBounds i true) (a.put (some d) undef) w) (s:YieldsIf P ops S f undef a:=by exact Or.inr ⟨by rfl,rfl⟩) (r:Region.noSelect ops=true:=by kernel_rfl) (o:Region.free md ops b i=true:=by kernel_rfl) (q:(Region.ready md ops b).contains i=true:=by kernel_rfl)
  (j:∀c a w,Q (.panic c) (a.put (some d) undef) w->Q (.panic c) a w:=by exact λ_ _ _ h=>h):wpAnyH P md ops Q S (g+1) b a w:=ziC p m r o q j s l h
theorem zE {S:World->Prop}(i:Nat){o:Oper}{d:Nat}{c:Array Bool}{a:Act}{w:World}(f:ops[i]? = some o)
  (h:∀b:Act->World->Prop,Shut (∀a w,S w->(S w->wpAnyH P md ops Q S d (c.setIfInBounds i true) a w)->b a w)->if Region.wanted o (yielded ops a.tmps)=true then Oper.wp P o a w b Q else b (a.put o.dst undef) w)
  (g:Region.ready md ops c=[i]:=by kernel_rfl):wpAnyH P md ops Q S (d+1) c a w:=wpAnyH_ready g (by simp) (AllReadyH.cons f h AllReadyH.nil)
def TksOk (P:Program)(md:Region.Mode)(ops:Array Oper)(S:World->Prop):List (Nat×Nat×Value)->Array Bool->Act->Prop
 | [],_,_=>True
 | x::r,listed,a=>(∃oi,ops[x.1]? = some oi/\oi.dst=some x.2.1/\Region.free md ops listed x.1=true/\(Region.ready md ops listed).contains x.1=true/\YieldsIf P ops S oi x.2.2 a)/\TksOk P md ops S r (listed.setIfInBounds x.1 true) (a.put (some x.2.1) x.2.2)
theorem tkc_ {S:World->Prop}{i d:Nat}{v:Value}{r:List (Nat×Nat×Value)}(b:Oper)(c:ops[i]? = some b)(f:b.dst=some d)(g:Region.free md ops listed i=true)(j:(Region.ready md ops listed).contains i=true)(l:YieldsIf P ops S b v a)(m:TksOk P md ops S r (listed.setIfInBounds i true) (a.put (some d) v)):TksOk P md ops S ((i,d,v)::r) listed a:=⟨⟨b,c,f,g,j,l⟩,m⟩
theorem tkn_ {S:World->Prop}:TksOk P md ops S [] listed a:=trivial
def tkl_:List (Nat×Nat×Value)->Array Bool->Array Bool
 | [],l=>l
 | x::r,l=>tkl_ r (l.setIfInBounds x.1 true)
def tka_:List (Nat×Nat×Value)->Act->Act
 | [],a=>a
 | x::r,a=>tka_ r (a.put (some x.2.1) x.2.2)
theorem tkr_ {S:World->Prop}(m:Region.noSelect ops=true)(g:∀c a w d v,Q (.panic c) (a.put (some d) v) w->Q (.panic c) a w)(j:S w):∀(l:List (Nat×Nat×Value)) (b:Nat) (f:Array Bool) (a:Act),TksOk P md ops S l f a->wpAnyH P md ops Q S b (tkl_ l f) (tka_ l a) w->wpAnyH P md ops Q S (b+l.length) f a w
 | [],_,_,_,_,h=>h
 | (i,d,v)::r,b,f,a,⟨⟨_,h1,h2,h3,h4,h5⟩,h6⟩,h=>by
  have:=tkr_ m g j r b _ _ h6 h
  exact ziC h1 h2 m h3 h4 (λc a w=>g c a w d v) h5 j this
theorem tks_ {S:World->Prop}(k:Nat)(l:List (Nat×Nat×Value))(f:S w)(h:wpAnyH P md ops Q S fuel (tkl_ l listed) (tka_ l a) w)(m:l.length=k:=by rfl)(o:Region.noSelect ops=true:=by kernel_rfl)(b:∀c a w d v,Q (.panic c) (a.put (some d) v) w->Q (.panic c) a w:=by exact λ_ _ _ _ _ h=>h)
  (j:TksOk P md ops S l listed a:=by
   repeat (first
    | exact tkn_
    | (refine tkc_ _ (by rfl) (by rfl) (by kernel_rfl) (by kernel_rfl) (by first|exact Or.inr ⟨by rfl,rfl⟩|exact Or.inl ⟨by rfl,by intro w0 g;(try dsimp only at g);go_simp⟩) ?_;(try simp only[zf])))):wpAnyH P md ops Q S (fuel+k) listed a w:=by subst m;exact tkr_ o b f l fuel listed a j h
theorem tkf_:(∀l,tkl_ [] l=l)/\(∀x r l,tkl_ (x::r) l=tkl_ r (l.setIfInBounds x.1 true))/\(∀a,tka_ [] a=a)/\(∀x r a,tka_ (x::r) a=tka_ r (a.put (some x.2.1) x.2.2)):=⟨λ_=>rfl,λ_ _ _=>rfl,λ_=>rfl,λ_ _ _=>rfl⟩
abbrev wR_:=@wp_region_held_drew
abbrev wD_:=@wpAnyH_done
abbrev bP_:=@bodyPost_ret
theorem eO_ {f:FuncId}{fn:Func}(h:P.funcs[f]? = some fn)(n:(fn.name == "runtime.NumGoroutine")=false:=by kernel_rfl)(b:fn.body.isSome=true:=by rfl):Enters P f:=by
 obtain⟨c,d⟩:=Option.isSome_iff_exists.1 b;exact enters_of h n d
variable {R:Nat}
def nL (s:St):Nat->St
 | 0=>s
 | k+1=>nx 1 (nL s k)
def nV (s:St):Nat->List Int
 | 0=>[]
 | k+1=>nV s k++[nB 1 (nL s k)]
theorem zwR {s:St}(h:zbC s)(k:Nat):zbC (nL s k):=by
 induction k with
 | zero=>exact h
 | succ k ih=>exact ih.nx
theorem zmT (s:St)(k:Nat):(nV s k).length=k:=by
 induction k with
 | zero=>rfl
 | succ k ih=>simp[nV,ih]
theorem zu5:(prog.info? 3).map (λi=>(i.zero,i.size,i.bytes))=some (some (I_ 0),1,8):=by kernel_rfl
theorem zjA (h:zaG R w.drew w'):zaG R w w':=⟨h.os,h.tape,h.output,h.size,h.block⟩
def hS4 (s:St):St:=dgS (dgS (nx 3 (nx 1 s)))
def cN (s:St):Nat:=(nB 1 (hS4 s)).toNat
theorem zpL {v:Value}(h:w.ownsRow base 3 1 v n (iv vl)):∃c o,v=.slice c n o/\zax w c vl/\∀b d,c=some ⟨b,d,none⟩->base<=b:=by
 have r:n=vl.length:=by have:=h.1;simp[iv]at this;omega
 have s:=h.lt;rcases h.2 with⟨e,m⟩|⟨g,p,q,e,f,_⟩
 .exact⟨none,0,by rw[e,m],⟨.inl (eN_ (by omega))⟩,λ_ _ e=>by cases e⟩
 .subst e;refine⟨_,_,rfl,⟨.inr ⟨g,0,rfl,λj l=>?_⟩⟩,λb d e=>by cases e;exact f⟩;rw[Nat.zero_add,World.ownsRow.cellAt h j (by omega)];simp[iv,l]
theorem zs6 (h:zax w va vl)(m:zaG R w w')(l:∀b c,va=some ⟨b,c,none⟩->b≠R):zax w' va vl:=by
 refine⟨?_⟩;rcases h.cells with g|⟨b,c,e,d⟩
 .exact .inl g
 .exact .inr ⟨b,c,e,λj f=>(cB_ (m.block b (bL_ (d j f)) (l b c e))).trans (d j f)⟩
variable {sa:Option Addr}{ss:List ByteArray}
structure zas (w:World)(sa:Option Addr)(ss:List ByteArray):Prop where
 cells:ss=[]\/∃sb so,sa=some ⟨sb,so,none⟩/\∀j,j<ss.length->w.cell? ⟨sb,so+j,none⟩=some (.string (ss.getD j ByteArray.empty))
 size:∀s∈ss,s.size<=maxLen
theorem zas.below (h:zas w sa ss)(g:B_ w w'):zas w' sa ss:=by
 refine⟨?_,h.size⟩;rcases h.cells with h|⟨d,f,rfl,b⟩
 .exact .inl h
 .exact .inr ⟨d,f,rfl,λj c=>(g.cell (p:=⟨d,f+j,none⟩) (block_lt_of_cell (b j c))).trans (b j c)⟩
end Go.Proofs.YtdnaljbnebnlhaaGreatDoor
