import Derived.Test.YtdnaljbnebnlhaaGreatDoorChecked
import Derived.WalkSpells
import Derived.WalkLawsBesides
import Derived.Deep.DeepAppendRoom
import Derived.Deep.RegionLaw
import Derived.Laws.AppendOwnNone
import Derived.Deep.DeepCutAuto
set_option maxRecDepth 100000
set_option maxHeartbeats 4000000
namespace Go.Proofs.YtdnaljbnebnlhaaGreatDoor
open Go.RowKit Tryz
abbrev C_ (w:World)(b o:Nat)(v:Value):Prop:=w.cell? ⟨b,o,none⟩=some v
abbrev B_ (w v:World):Prop:=Below w.heap.size w v
abbrev R_ (w:World)(b:Nat)(c:Array Value)(t:TypeId):Prop:=w.heap[b]? = some (.cells c t (0,0))
abbrev I_ (x:Int):Value:=.int .i64 x
abbrev O_:Value:=.slice none 0 0
abbrev P_ (b o:Nat):Value:=.pointer (some ⟨b,o,none⟩)
theorem K_ {A:Type}{p:Prop}(_:A)(h:p):p:=h
theorem kW_ {p:Prop}(_:World)(h:p):p:=h
theorem kV_ {p:Prop}(_:Value)(h:p):p:=h
theorem kO_ {p:Prop}(_:Obj)(h:p):p:=h
theorem kA_ {p:Prop}(_:Array Value)(h:p):p:=h
abbrev mz_:Array Value:=#[.int .i64 0,.int .i64 0,.int .i64 0,.int .i64 0,.int .i64 0,.slice none 0 0,.int .i64 0,.int .i64 0,.slice none 0 0,.slice none 0 0,.int .i64 0,.int .i64 0,.slice none 0 0,.int .i64 0,.int .i64 0,.slice none 0 0,.slice none 0 0,.slice none 0 0,.int .i64 0]
theorem zt {k:IntKind}{a b:Int}(h:a=b):Ending.returned (.int k a)=.returned (.int k b):=by rw[h]
theorem zN {a b:Bool}(h:a=b):Ending.returned (.bool a)=.returned (.bool b):=by rw[h]
def I64 (x:Int):Prop:=-9223372036854775808<=x/\x<=9223372036854775807
abbrev nR_:=@Nat.le_refl
abbrev nZ_:=@Nat.zero_le
abbrev nL_:=@Nat.lt_of_lt_of_le
abbrev nT_:=@Nat.le_trans
abbrev gM_:=@List.getElem_mem
abbrev tS_:=@List.take_succ_eq_append_getElem
abbrev sI_:=@Array.getElem?_setIfInBounds
abbrev eN_:=@List.eq_nil_of_length_eq_zero
abbrev tL_:=@List.take_of_length_le
abbrev lT9_:=@List.length_take
abbrev lP_:=@List.length_append
abbrev dF_:=@decide_eq_false
abbrev dT_:=@decide_eq_true
abbrev bR_:=@Below.refl
variable {w w':World}{n B cap base:Nat}{sa:Option Addr}{bs:List Int}{xs:List Value}
structure Upd (b:Nat)(o:Obj)(w w':World):Prop where
 os:w'.os=w.os
 tape:w'.tape=w.tape
 output:w'.output=w.output
 size:w.heap.size<=w'.heap.size
 block:∀k,k<w.heap.size->k≠b->w'.heap[k]? = w.heap[k]?
 here:w'.heap[b]? = some o
theorem ze {b:Nat}{o:Obj}(h:w.heap[b]? = some o):b<w.heap.size:=by
 rcases Nat.lt_or_ge b w.heap.size with g|g
 .exact g
 .rw[Array.getElem?_eq_none g]at h;cases h
theorem Upd.refl {b:Nat}{o:Obj}(h:w.heap[b]? = some o):Upd b o w w:=⟨rfl,rfl,rfl,nR_ _,λ_ _ _=>rfl,h⟩
theorem Upd.drewN {b:Nat}{o:Obj}(h:Upd b o w w')(n:Nat):Upd b o w (w'.drewN n):=⟨h.os,h.tape,h.output,h.size,h.block,h.here⟩
theorem Upd.alloc {b:Nat}{o:Obj}(h:Upd b o w w')(x:Obj):Upd b o w (w'.alloc x):=by
 have c:=ze h.here;refine⟨h.os,h.tape,h.output,?_,λk d f=>?_,?_⟩
 .simp;have:=h.size;omega
 .have:=h.size;rw[Below.heap_alloc _ _ _ (by omega)];exact h.block k d f
 .rw[Below.heap_alloc _ _ _ c];exact h.here
theorem Upd.setCell {b:Nat}{cs:Array Value}{t:TypeId}(h:Upd b (.cells cs t (0,0)) w w')(i:Nat)(v:Value) :
  Upd b (.cells (cs.setIfInBounds i v) t (0,0)) w (w'.setCell ⟨b,i,none⟩ v):=by
 refine⟨h.os,h.tape,h.output,?_,λk d c=>?_,?_⟩
 .simp;exact h.size
 .rw[Below.heap_setCell _ _ _ _ c];exact h.block k d c
 .exact heap_setCell_same w' b i cs t v h.here
theorem Upd.below {b:Nat}{o:Obj}{a:World}(k:Upd b o w w')(h:Below B a w)(c:B<=w.heap.size)(d:B<=b):Below B a w':=
 h.trans ⟨k.os,k.tape,k.output,k.size,λi f=>k.block i (by omega) (by omega)⟩
theorem zco (w:World)(o:Obj)(n:Nat)(h:n=w.heap.size):(w.alloc o).heap[n]? = some o:=by subst h;exact heap_alloc_new w o
theorem zaP (b o j:Nat):(⟨b,o,none⟩:Addr).add j=⟨b,o+j,none⟩:=by unfold Addr.add;split<;>simp_all
def za5 (w:World)(sa:Option Addr)(bs:List Int):Prop:=bs=[]\/∃sb so,sa=some ⟨sb,so,none⟩/\∀j,j<bs.length->w.cell? ⟨sb,so+j,none⟩=some (.int .u8 (bs.getD j 0))
theorem za5.below (h:za5 w sa bs)(f:Below B w w')(d:∀b c,sa=some ⟨b,c,none⟩->0<bs.length->b<B):za5 w' sa bs:=by
 rcases h with h|⟨b,c,rfl,h⟩
 .exact .inl h
 .exact .inr ⟨b,c,rfl,λj g=>(f.cell (p:=⟨b,c+j,none⟩) (d b c rfl (by omega))).trans (h j g)⟩
theorem za5.lt {d f:Nat}(h:za5 w (some ⟨d,f,none⟩) bs)(c:0<bs.length):d<w.heap.size:=by
 rcases h with h|⟨b,o,e,h⟩
 .subst h;simp at c
 .simp at e;obtain⟨rfl,rfl⟩:=e;exact block_lt_of_cell (h 0 c)
theorem za5.below' (h:za5 w sa bs)(b:B_ w w'):za5 w' sa bs:=
 h.below b λd f e c=>by subst e;exact h.lt c
theorem za5.cut {c d:Nat}(h:za5 w (some ⟨c,d,none⟩) bs)(i n:Nat):za5 w (some ⟨c,d+i,none⟩) ((bs.drop i).take n):=by
 rcases h with h|⟨b,o,e,h⟩
 .subst h;simp[za5]
 .simp at e;obtain⟨rfl,rfl⟩:=e
  refine .inr ⟨c,d+i,rfl,λj g=>?_⟩;have f:j<n/\i+j<bs.length:=by simp at g;omega
  rw[Nat.add_assoc,h (i+j) f.2];simp[f.1]
theorem Upd.setRow {b:Nat}{cs c:Array Value}{t:TypeId}(h:w.heap[b]? = some (.cells c t (0,0))):Upd b (.cells cs t (0,0)) w (w.setRow b cs):=
 ⟨rfl,rfl,rfl,by simp,λk _ d=>setRow_other w b k cs d,setRow_heap w b c cs t (0,0) h⟩
theorem zag (W:World)(l:List Value)(t:TypeId):∀j u,l[j]? = some u->(W.alloc (.cells l.toArray t)).cell? ((⟨W.heap.size,0,none⟩:Addr).add j)=some u:=by
 intro j u b;rw[zaP,Nat.zero_add,World.cell?_alloc_at _ _ _ _ rfl]
 simpa using b
theorem zds (bs:List Int):∀u∈bs.map (Value.int .u8),u.oneCell'=true:=by
 intro u b;simp at b;obtain⟨x,_,rfl⟩:=b;rfl
def ub (bs:List Int):List Value:=bs.map (Value.int .u8)
structure zg (w:World)(sa:Option Addr)(cap:Nat)(bs:List Int):Prop where
 le:bs.length<=cap
 max:cap<=maxLen
 some:cap=0\/∃sb so,sa=some ⟨sb,so,none⟩
 nil:sa=none->cap=0
 bytes:za5 w sa bs
theorem zg.below (h:zg w sa cap bs)(b:B_ w w'):zg w' sa cap bs:=
 ⟨h.le,h.max,h.some,h.nil,h.bytes.below' b⟩
theorem zcb (bs:List Int):(ub bs).length=bs.length:=by simp[ub]
theorem zc0 {g:Nat}(h:w.ownsRow base 5 1 (.slice (some ⟨g,0,none⟩) n cap) n (ub bs)):n=bs.length/\zg w (some ⟨g,0,none⟩) cap bs:=by
 have f:n=bs.length:=by have:=h.1;rw[zcb]at this;omega
 refine⟨f,?_⟩;have d:=λj b=>World.ownsRow.cellAt h j b;rcases h.2 with⟨e,_⟩|⟨m,c',l,e,_,_,o,c,_,_⟩
 .cases e
 .cases e;refine⟨by omega,c,.inr ⟨g,0,rfl⟩,(λe=>by cases e),.inr ⟨g,0,rfl,λj b=>?_⟩⟩;rw[Nat.zero_add,d j (by omega)];simp[ub,b]
theorem ownsRow_base' {b b':Nat}{e:TypeId}{size:Nat}{v:Value}(h:w.ownsRow b e size v n xs)(m:b'<=b):w.ownsRow b' e size v n xs:=by
 obtain⟨j,c⟩:=h;refine⟨j,?_⟩;rcases c with c|⟨g,d,f,l,o,r⟩
 .exact .inl c
 .exact .inr ⟨g,d,f,l,by omega,r⟩
theorem zgP (h:w.grownBy w' none):B_ w w':=⟨h.os,h.tape,h.output,h.size,λk b=>h.block k b (by simp)⟩
theorem zek:(prog.info? 5).map (λi=>(i.zero,i.size,i.bytes))=some (some (.int .u8 0),1,1):=by kernel_rfl
variable {ops:Array Oper}{Q:Exit->Act->World->Prop}{a:Act}{P:Program}{K:Act->World->Prop}{E:Prop}
theorem zlq {o:Oper}
  (F:o.guard=none) (s x:Operand) (t:TypeId) (J:o.op=.call { callee:=.builtin .append,args:=#[s,x],argTypes:=#[t,t] })
  (base:Nat) (e:TypeId) (i:TypeInfo) (z:Value) (size g:Nat) (R:P.underlying t=some (.slice e)) (G:P.info? e=some i) (V:i.zero=some z)
  (N:i.size=size) (C:i.bytes=g) (X:z.cells.size=size) (O:0<size)
  (v:Value) (n:Nat) (l:List Value) (M:a.eval s=v) (L:w.ownsRow base e size v n l)
  (f:Addr) (m c:Nat) (b:List Value) (U:a.eval x=.slice (some f) m c) (H:b.length=m*size) (I:∀j u,b[j]? = some u->w.cell? (f.add j)=some u) (p:∀u∈b,u.oneCell'=true)
  (y:n+m<=maxLen) (D:(n+m)*g<=140737488355328) (B:base<=w.heap.size)
  (A:∀d w',w'.ownsRow base e size d (n+m) (l++b)->w.grownBy w' v.ownBlock->K (a.put o.dst d) w') :
  if Region.wanted o (yielded ops a.tmps)=true then Oper.wp P o a w K Q else E:=by
 have T:Region.wanted o (yielded ops a.tmps)=true:=by simp[Region.wanted,F]
 rw[if_pos T];exact wp_append_own w s x t J base e i z size g R G V N C X O v n l M L f m c b U H I p y D B λd w' q r _=>A d w' q r
theorem zeG {v:Value}(h:w.ownsRow base 5 1 v n (ub bs)):∃c b,v=.slice c n b/\n=bs.length/\zg w c b bs:=by
 have f:n=bs.length:=by have:=h.1;rw[zcb]at this;omega
 rcases h.2 with⟨rfl,j⟩|⟨g,b,l,rfl,_⟩
 .have d:bs=[]:=eN_ (by omega);subst j d;exact⟨none,0,rfl,rfl,⟨nR_ _,by decide,.inl rfl,λ_=>rfl,.inl rfl⟩⟩
 .exact⟨some ⟨g,0,none⟩,b,rfl,f,(zc0 h).2⟩
theorem zsZ {v:Value}{c:Int}(h:w.ownsRow base 5 1 v n (ub bs++[.int .u8 c])):w.ownsRow base 5 1 v n (ub (bs++[c])):=by rw[show ub (bs++[c])=ub bs++[.int .u8 c] by simp[ub]];exact h
theorem zB (h:B<=w.heap.size)(o:Obj):B<=(w.alloc o).heap.size:=by simp;exact Nat.le_succ_of_le h
def zai (bs:List Int):ByteArray:=bs.foldl (λr n=>r.push (UInt8.ofNat n.toNat)) ByteArray.empty
theorem zd8 (w:World)(c:Option Addr)(n d:Nat)(bs:List Int)(o:n=bs.length)(h:zg w c d bs) :
  (convert 51 9 (.slice c n d)).run prog w=.ok (.string (zai bs)) w:=by
 subst o;rw[run_convert_bytes_string w 51 9 5 c _ _ underlying51 underlying5 underlying9];cases c with
 | none=>
  obtain rfl:=h.nil rfl;obtain rfl:bs=[]:=eN_ (by have:=h.le;omega)
  rfl
 | some a=>
  refine run_bytesToString w a bs.length d bs ?_;have m:(ub bs).length=bs.length:=zcb bs;rw[<-m];refine run_loadCells_list (P:=prog) w a (ub bs) ?_;intro j v b;rcases h.bytes with f|⟨p,q,e,f⟩
  .subst f;simp[ub]at b
  .cases e;have l:j<bs.length:=by
    rcases Nat.lt_or_ge j bs.length with g|g
    .exact g
    .rw[List.getElem?_eq_none (by rw[zcb];exact g)]at b;cases b
   rw[zaP,f j l];simp[ub,l]at b;simp[l,b]
theorem zgo {rest:List Oper}{o:Oper}(t:o.guard=none)(s x:Operand)
  (A:o.op=.call { callee:=.builtin .append,args:=#[s,x],argTypes:=#[51,51] })
  (base:Nat) (v:Value) (n:Nat) (bs:List Int) (B:a.eval s=v) (p:w.ownsRow base 5 1 v n (ub bs))
  (r:Option Addr) (m d:Nat) (cs:List Int) (C:a.eval x=.slice r m d) (z:m=cs.length) (q:zg w r d cs)
  (J:n+m<=140737488355328) (F:base<=w.heap.size)
  (h:∀c w',w'.ownsRow base 5 1 c (n+m) (ub (bs++cs))->w.grownBy w' v.ownBlock->wpList prog ops Q rest (a.put o.dst c) w'):wpList prog ops Q (o::rest) a w:=by
 obtain⟨i,y,G,H,I⟩:=info_parts zek;cases r with
 | none=>
  obtain rfl:=q.nil rfl;obtain rfl:cs=[]:=eN_ (by have:=q.le;omega);subst z;exact wpList_append_own_none t s x 51 A base 5 i 1 underlying51 y v n (ub bs) B p C (h v w (by simpa using p) (World.grownBy.refl _ _))
 | some ad=>
  refine wpList_append_own w t s x 51 A base 5 i (.int .u8 0) 1 1 underlying51 y G H I rfl (by decide) v n (ub bs) B p ad m d (ub cs) C (by rw[zcb,z];omega) ?_ (zds cs) (by unfold maxLen;omega) (by omega) F (λc w' D E _=>h c w' (by rw[show ub (bs++cs)=ub bs++ub cs by simp[ub]];exact D) E);intro j u b;rcases q.bytes with f|⟨L,M,e,f⟩
  .subst f;simp[ub]at b
  .cases e;have l:j<cs.length:=by
    rcases Nat.lt_or_ge j cs.length with g|g
    .exact g
    .rw[List.getElem?_eq_none (by rw[zcb];exact g)]at b;cases b
   rw[zaP,f j l];simp[ub,l]at b;simp[l,b]
variable {w2 w1:World}{k j:Nat}
theorem zhz (w:World)(cs:Array Value)(t:TypeId)(j:Nat)(v:Value)(h:cs[j]? = some v):(w.alloc (.cells cs t)).cell? ⟨w.heap.size,j,none⟩=some v:=by
 rw[World.cell?_alloc_at _ _ _ _ rfl];exact h
theorem zS {o:Obj}(b:Below (w.alloc o).heap.size (w.alloc o) w1):B_ w w1:=
 ((bR_ _ _).alloc (nR_ _) _).trans (b.mono (by simp))
theorem zbE (k:Below B w.drew w1):Below B w w1:=⟨k.os,k.tape,k.output,k.size,k.block⟩
theorem zbK {cs:Array Value}{t:TypeId}(b:Below (w.alloc (.cells cs t)).heap.size (w.alloc (.cells cs t)) w1):w1.heap[w.heap.size]? = some (.cells cs t (0,0)):=
 (b.block _ (by simp)).trans (heap_alloc_new w _)
theorem zG (w:World)(o:Obj):(w.alloc o).heap.size=w.heap.size+1:=by simp
theorem zb {b:Nat}{cs:Array Value}{t:TypeId}(h:w.heap[b]? = some (.cells cs t (0,0)))(j:Nat)(v:Value)(c:cs[j]? = some v):w.cell? ⟨b,j,none⟩=some v:=by
 rw[cell_of_row w b j _ _ _ h];exact c
theorem zd {b:Nat}{cs:Array Value}{t:TypeId}(h:w.heap[b]? = some (.cells cs t (0,0)))(j:Nat):w.frozen? ⟨b,j,none⟩=false:=frozen_of_row w b j _ _ h
theorem zbs (w:World)(Z C:Array Value)(t:TypeId):B_ w ((w.alloc (.cells Z t)).setRow w.heap.size C):=
 (Upd.setRow (heap_alloc_new w (.cells Z t))).below ((bR_ _ _).alloc (nR_ _) _) (by simp) (nR_ _)
theorem zR {o x:Obj}(h:w.heap[k]? = some x):(w.alloc o).heap[k]? = some x:=by rw[Below.heap_alloc _ _ _ (ze h)];exact h
theorem zh {x:Obj}{b:Nat}{v:Value}(h:w.heap[k]? = some x)(c:k≠b):(w.setCell ⟨b,j,none⟩ v).heap[k]? = some x:=(heap_setCell_other w ⟨b,j,none⟩ k v c).trans h
theorem zr {p:Addr}{v:Value}(h:B_ w w')(c:w.cell? p=some v):w'.cell? p=some v:=(h.cell (p:=p) (block_lt_of_cell c)).trans c
theorem zk {b:Nat}{o:Obj}(h:B_ w w')(c:w.heap[b]? = some o):w'.heap[b]? = some o:=(h.block _ (ze c)).trans c
theorem zm (h:B_ w w1)(k:B_ w1 w2):B_ w w2:=h.trans (k.mono h.size)
theorem zC (w:World)(o:Obj):B_ w (w.alloc o):=(bR_ _ _).alloc (nR_ _) _
theorem dC_ {p:Addr}{v:Value}(c:w.cell? p=some v):w.drew.cell? p=some v:=c
theorem dQ_ {b:Nat}{o:Obj}(c:w.heap[b]? = some o):w.drew.heap[b]? = some o:=c
theorem dB_ (w:World):Below w.heap.size w w.drew:=(Below.refl _ _).drew
abbrev hN_:=@heap_alloc_new
abbrev hO_:=@heap_setCell_other
abbrev hS_:=@heap_setCell_same
abbrev bL_:=@block_lt_of_cell
abbrev cB_:=@World.cell?_of_block
abbrev oN_:=@World.ownsRow_nil
abbrev hX_:=@heap_alloc2_old
abbrev hY_:=@heap_alloc2_new
abbrev oA_:=@World.ownsRow.alloc
variable {R:Nat}{sh:Bool}
structure zaG (R:Nat)(w w':World):Prop where
 os:w'.os=w.os
 tape:w'.tape=w.tape
 output:w'.output=w.output
 size:w.heap.size<=w'.heap.size
 block:∀k,k<w.heap.size->k≠R->w'.heap[k]? = w.heap[k]?
theorem zaG.refl (R:Nat)(w:World):zaG R w w:=⟨rfl,rfl,rfl,nR_ _,λ_ _ _=>rfl⟩
theorem zaG.trans {a b c:World}(h:zaG R a b)(k:zaG R b c):zaG R a c:=
 ⟨k.os.trans h.os,k.tape.trans h.tape,k.output.trans h.output,nT_ h.size k.size,λi d f=>(k.block i (nL_ d h.size) f).trans (h.block i d f)⟩
theorem zbR (h:B_ w w'):zaG R w w':=⟨h.os,h.tape,h.output,h.size,λk b _=>h.block k b⟩
theorem zaG.below (h:zaG R w w')(c:B<=R)(b:B<=w.heap.size):Below B w w':=⟨h.os,h.tape,h.output,h.size,λk d=>h.block k (by omega) (by omega)⟩
theorem zaG.setCell {v:Value}(h:zaG R w w'):zaG R w (w'.setCell ⟨R,j,none⟩ v):=
 ⟨h.os,h.tape,h.output,by simpa using h.size,λk c b=>(hO_ w' ⟨R,j,none⟩ k v b).trans (h.block k c b)⟩
theorem zg.only (h:zg w sa cap bs)(m:zaG R w w')(l:∀b c,sa=Option.some ⟨b,c,Option.none⟩->b≠R):zg w' sa cap bs:=by
 refine⟨h.le,h.max,h.some,h.nil,?_⟩;rcases h.bytes with g|⟨b,c,e,d⟩
 .exact .inl g
 .exact .inr ⟨b,c,e,λj f=>(cB_ (m.block b (bL_ (d j f)) (l b c e))).trans (d j f)⟩
structure zaw (w:World)(R:Nat)(l:List Int)(sh:Bool):Prop where
 out:∃la c,R_ w R #[.slice la l.length c,.bool sh] 102/\zg w la c l/\∀sb so,la=some ⟨sb,so,none⟩->sb≠R/\(l≠[]->sb<R)
theorem zaw.below {l:List Int}(h:zaw w R l sh)(b:B_ w w'):zaw w' R l sh:=by
 obtain⟨j,c,d,f,g⟩:=h.out;exact⟨j,c,zk b d,f.below b,g⟩
theorem zaw.lt {l:List Int}(h:zaw w R l sh):R<w.heap.size:=by
 obtain⟨d,c,b,_⟩:=h.out;exact ze b
theorem zaw.stays {l:List Int}(h:zaw w R l sh)(j:∀k,k<=R->w'.heap[k]? = w.heap[k]?):zaw w' R l sh:=by
 obtain⟨r,c,o,b,g⟩:=h.out;refine⟨r,c,(j R (nR_ _)).trans o,⟨b.le,b.max,b.some,b.nil,?_⟩,g⟩;rcases b.bytes with d|⟨f,m,e,p⟩
 .exact .inl d
 .by_cases d:l=[]
  .exact .inl d
  .exact .inr ⟨f,m,e,λk q=>(cB_ (j f (Nat.le_of_lt ((g f m e).2 d)))).trans (p k q)⟩
theorem zaw.far {b:Nat}{v:Value}{l:List Int}(h:zaw w R l sh)(c:R<b):zaw (w.setCell ⟨b,j,none⟩ v) R l sh:=
 h.stays (λk d=>hO_ w ⟨b,j,none⟩ k v (by show k≠b;omega))
def tkT (n:Nat)(l:List Int)(sh:Bool):List Int:=if sh=true\/l.length<n then []else l.take n
def tkL (n:Nat)(l:List Int)(sh:Bool):List Int:=if sh=true\/l.length<n then l else l.drop n
def tkS (n:Nat)(l:List Int)(sh:Bool):Bool:=sh||decide (l.length<n)
theorem zn4 {l:List Int}(h:sh=true\/l.length<n):tkT n l sh=[]/\tkL n l sh=l/\tkS n l sh=true:=by
 refine⟨if_pos h,if_pos h,?_⟩;rcases h with h|h<;>simp[tkS,h]
theorem zke {l:List Int}(h:n<=l.length):tkT n l false=l.take n/\tkL n l false=l.drop n/\tkS n l false=false:=by
 have h':¬((false:Bool)=true\/l.length<n):=by simp;omega
 exact⟨if_neg h',if_neg h',by simp[tkS];omega⟩
theorem zn5 {l:List Int}:(tkL n l sh).length<=l.length:=by unfold tkL;split<;>simp
structure zhb (w w':World)(e:Ending)(R:Nat)(t l:List Int)(sh:Bool):Prop where
 out:∃ta tc,e=.returned (.slice ta t.length tc)/\zg w' ta tc t/\(∀sb so,ta=some ⟨sb,so,none⟩->sb≠R)/\zaw w' R l sh/\zaG R w w'
theorem zjw {d f c:Nat}{l:List Int}(h:zg w (some ⟨d,f,none⟩) c l)(q:n<=l.length):zg w (some ⟨d,f+n,none⟩) (c-n) (l.drop n):=by
 refine⟨by have:=h.le;simp;omega,by have:=h.max;omega,.inr ⟨_,_,rfl⟩,(λe=>by cases e),?_⟩;rcases h.bytes with p|⟨b,o,e,g⟩
 .exact .inl (by rw[p];simp)
 .cases e;refine .inr ⟨d,f+n,rfl,λj m=>?_⟩;rw[List.length_drop]at m;rw[Nat.add_assoc,g (n+j) (by omega)];simp[List.getD]
theorem zg.takeR (h:zg w sa cap bs)(m c:Nat)(q:m<=bs.length)(o:m<=c)(p:c<=cap)(f:sa=Option.none->c=0):zg w sa c (bs.take m):=by
 refine⟨by simp;omega,by have:=h.max;omega,?_,f,?_⟩
 .rcases h.some with e|e
  .exact .inl (by omega)
  .exact .inr e
 .rcases h.bytes with b|⟨g,l,rfl,b⟩
  .exact .inl (by rw[b];simp)
  .refine .inr ⟨g,l,rfl,λj d=>?_⟩;rw[lT9_]at d;rw[b j (by omega)];simp[List.getD,show j<m by omega]
theorem zjx (R n:Nat)(l:List Int)(sh:Bool)(w:World)(t:zaw w R l sh)(U:l.length<=100000)(Y:n<=100000) :
  Calls prog 101 #[P_ R 0,I_ (n:Int)] w λe w'=>zhb w w' e R (tkT n l sh) (tkL n l sh) (tkS n l sh):=by
 obtain⟨z,c,f,j,g⟩:=t.out;have J:=zb f 0 (.slice z l.length c) rfl;have L:=zb f 1 (.bool sh) rfl;have M:=zd f 0;have N:=zd f 1;by_cases hs:l.length<n
 .have I:(l.length:Int)<n:=by omega
  obtain⟨o,p,q⟩:=zn4 (sh:=sh) (.inr hs);rw[o,p,q];have m:(w.setCell ⟨R,1,none⟩ (.bool true)).heap[R]? = some (.cells #[.slice z l.length c,.bool true] 102 (0,0)):=by simpa using hS_ _ _ 1 _ _ (.bool true) f
  have r:Hid (zhb w (w.setCell ⟨R,1,none⟩ (.bool true)) (.returned (O_)) R [] l true):=by
   refine⟨none,0,rfl,⟨nR_ _,by decide,.inl rfl,λ_=>rfl,.inl rfl⟩,(λ_ _ e=>by cases e),⟨z,c,m,j.only ((zaG.refl R w).setCell) (λb d e=>(g b d e).1),g⟩,(zaG.refl R w).setCell⟩
  clear m f j g t o p q hs;go_in;go_wp2_with fail
  go_ret;exact r.out
 .have I:¬(l.length:Int)<n:=by omega
  cases sh with
  | true=>
   obtain⟨o,p,q⟩:=zn4 (l:=l) (n:=n) (sh:=true) (.inl rfl);rw[o,p,q];have r:Hid (zhb w w (.returned (O_)) R [] l true):=⟨none,0,rfl,⟨nR_ _,by decide,.inl rfl,λ_=>rfl,.inl rfl⟩,(λ_ _ e=>by cases e),t,zaG.refl R w⟩;clear f j g t o p q hs;go_in;go_wp2_with fail
   go_ret;exact r.out
  | false=>
   obtain⟨o,p,q⟩:=zke (l:=l) (n:=n) (by omega);rw[o,p,q];have X:=j.le;have aa:(n:Int)<=c:=by omega
   have Z:(0:Int)<=n:=by omega
   have V:(l.length:Int)<=c:=by omega
   have ab:(n:Int)<=l.length:=by omega
   have y:(l.take n).length=n:=by rw[lT9_];omega
   have u:(l.drop n).length=l.length-n:=by rw[List.length_drop]
   cases z with
   | none=>
    have G:=j.nil rfl;have D:l=[]:=eN_ (by omega);obtain rfl:n=0:=by subst D;simp at hs;omega
    subst D G;have m:(w.setCell ⟨R,0,none⟩ (O_)).heap[R]? = some (.cells #[O_,.bool false] 102 (0,0)):=by simpa using hS_ _ _ 0 _ _ (O_) f
    have r:Hid (zhb w (w.setCell ⟨R,0,none⟩ (O_)) (.returned (O_)) R [] [] false):=⟨none,0,rfl,⟨nR_ _,by decide,.inl rfl,λ_=>rfl,.inl rfl⟩,(λ_ _ e=>by cases e),⟨none,0,m,⟨nR_ _,by decide,.inl rfl,λ_=>rfl,.inl rfl⟩,λ_ _ e=>by cases e⟩,(zaG.refl R w).setCell⟩;clear m f j g t o p q hs y u;go_in;go_wp2_with fail
    go_ret;exact r.out
   | some s=>
    have A:=j.takeR n c (by omega) (by omega) (nR_ _) (λe=>by cases e);by_cases hc:c=n;obtain rfl:n=l.length:=by omega
    subst hc;have C:l.drop l.length=[]:=List.drop_of_length_le (nR_ _);rw[C,tL_ (nR_ _)];have m:(w.setCell ⟨R,0,none⟩ (.slice (some s) 0 0)).heap[R]? = some (.cells #[.slice (some s) 0 0,.bool false] 102 (0,0)):=by simpa using hS_ _ _ 0 _ _ (.slice (some s) 0 0) f
    have r:Hid (zhb w (w.setCell ⟨R,0,none⟩ (.slice (some s) 0 0)) (.returned (.slice (some s) l.length l.length)) R l [] false):=⟨some s,l.length,rfl,j.only ((zaG.refl R w).setCell) (λb d e=>(g b d e).1),(λb d e=>(g b d e).1),⟨some s,0,m,⟨nR_ _,by decide,.inl rfl,(λe=>by cases e),.inl rfl⟩,λb d e=>⟨(g b d e).1,λh=>absurd rfl h⟩⟩,(zaG.refl R w).setCell⟩;clear m f j g t o p q hs y u A C
    rotate_left
    obtain⟨b,d,F⟩:∃b d,(some s:Option Addr)=some ⟨b,d,none⟩:=by
     rcases j.some with h|h
     .omega
     .exact h
    cases F;have O:¬(c:Int)=n:=by omega
    have T:(n:Int)<c:=by omega
    have m:(w.setCell ⟨R,0,none⟩ (.slice (some ⟨b,d+n,none⟩) (l.length-n) (c-n))).heap[R]? = some (.cells #[.slice (some ⟨b,d+n,none⟩) (l.drop n).length (c-n),.bool false] 102 (0,0)):=by rw[u];simpa using hS_ _ _ 0 _ _ (.slice (some ⟨b,d+n,none⟩) (l.length-n) (c-n)) f
    have B:=g b d rfl;have r:Hid (zhb w (w.setCell ⟨R,0,none⟩ (.slice (some ⟨b,d+n,none⟩) (l.length-n) (c-n))) (.returned (.slice (some ⟨b,d,none⟩) n c)) R (l.take n) (l.drop n) false):=⟨some ⟨b,d,none⟩,c,by rw[y],A.only ((zaG.refl R w).setCell) (λb d e=>(g b d e).1),(λb d e=>(g b d e).1),⟨some ⟨b,d+n,none⟩,c-n,m,(zjw j (by omega)).only ((zaG.refl R w).setCell) (λ_ _ e=>by cases e;exact B.1),(λ_ _ e=>by cases e;exact⟨B.1,λH=>B.2 (λE=>H (by rw[E];simp))⟩)⟩,(zaG.refl R w).setCell⟩;clear m f j g t o p q hs y u A hc
    rotate_left
    all_goals
     go_in;go_wp2_with fail
     go_ret;exact r.out
theorem zs0 (a b:Nat)(f:a<9223372036854775808)(g:b<9223372036854775808) :
  bits .and .i64 (a:Int) (b:Int)=((a &&& b:Nat):Int)/\bits .or .i64 (a:Int) (b:Int)=((a ||| b:Nat):Int):=by
 refine bits_nat .i64 63 (by decide) (λn d c=>?_) a b (by omega) (by omega);rw[IntKind.wrap_i64];have:n<9223372036854775808:=by simpa using c
 omega
theorem zwP (y x:Int)(d:0<=y)(g:y<=65535)(c:0<=x)(f:x<=255):bits .or .i64 (y*256) x=256*y+x:=by
 obtain⟨a,rfl⟩:=Int.eq_ofNat_of_zero_le d;obtain⟨b,rfl⟩:=Int.eq_ofNat_of_zero_le c;have h:=(zs0 (a*256) b (by omega) (by omega)).2;rw[show((a:Int)*256)=((a*256:Nat):Int) by omega,h];have e:a*256 ||| b=a*256+b:=by
  have:=Nat.shiftLeft_add_eq_or_of_lt (i:=8) (b:=b) (by omega) a;rw[Nat.shiftLeft_eq]at this;exact this.symm
 rw[e];omega
def zbe (l:List Int):Int:=l.foldl (λn x=>256*n+x) 0
theorem zs1 (l:List Int)(x:Int):zbe (l++[x])=256*zbe l+x:=by simp[zbe]
def zZ (l:List Int):Prop:=∀x∈l,0<=x/\x<=255
theorem zpK (l:List Int)(h:zZ l)(d:l.length<=3):0<=zbe l/\zbe l<=16777215:=by
 match l,d with
 | [],_=>decide
 | [a],_=>have:=h a (by simp);simp[zbe];omega
 | [a,b],_=>have:=h a (by simp);have:=h b (by simp);simp[zbe];omega
 | [a,b,c],_=>have:=h a (by simp);have:=h b (by simp);have:=h c (by simp);simp[zbe];omega
theorem zZ.tkT {l:List Int}(h:zZ l):zZ (tkT n l sh):=by
 unfold Go.Proofs.YtdnaljbnebnlhaaGreatDoor.tkT
 split
 .intro x b;cases b
 .intro x b;exact h x (List.mem_of_mem_take b)
theorem zZ.tkL {l:List Int}(h:zZ l):zZ (tkL n l sh):=by
 unfold Go.Proofs.YtdnaljbnebnlhaaGreatDoor.tkL
 split
 .exact h
 .intro x b;exact h x (List.mem_of_mem_drop b)
theorem zg4 {l:List Int}:(tkT n l sh).length<=n:=by
 unfold tkT
 split
 .simp
 .rw[lT9_];omega
structure zwE (w w':World)(e:Ending)(R:Nat)(x:Int)(l:List Int)(sh:Bool):Prop where
 out:e=.returned (I_ x)/\zaw w' R l sh/\zaG R w w'
theorem ziA (R n:Nat)(l:List Int)(sh:Bool)(w:World)(c:zaw w R l sh)(C:l.length<=100000)(U:n<=3)(G:zZ l) :
  Calls prog 71 #[P_ R 0,I_ (n:Int)] w λe w'=>zwE w w' e R (zbe (tkT n l sh)) (tkL n l sh) (tkS n l sh):=by
 have o:=zjx R n l sh w c C (by omega);have d:=G.tkT (n:=n) (sh:=sh);have Z:=zg4 (n:=n) (l:=l) (sh:=sh);generalize tkT n l sh=t at*;generalize tkL n l sh=l2 at*;generalize tkS n l sh=s2 at*;go_in;go_wp2_with fail
 refine o.mono ?_;rintro e M⟨L,tc,B,F,-,u,E⟩;subst B;dsimp only;clear o;have V:(t.length:Int)<=3:=by omega
 go_upto_region 3 with fail
 go_loopw [12,5] (λj v wr=>∃(k:Nat),k<=t.length/\j=I_ k/\v=I_ (zbe (t.take k))/\wr=M) (λj _ _=>t.length-(intOf j).toNat)
 case atStart=>exact⟨0,nZ_ _,rfl,rfl,rfl⟩
 case round=>
  obtain⟨k,T,rfl,rfl,rfl⟩:=hrel;by_cases hlt:k<t.length
  .have D:(k:Int)<t.length:=by omega
   obtain⟨g,m,rfl,p⟩:∃g m,L=some ⟨g,m,none⟩/\∀j,j<t.length->wr.cell? ⟨g,m+j,none⟩=some (.int .u8 (t.getD j 0)):=by
    rcases F.bytes with h|h
    .rw[h]at hlt;simp at hlt
    .exact h
   have N:=p k hlt;obtain⟨I,J⟩:=d (t.getD k 0) (by simp[List.getD,hlt]);have q:Hid (t.take (k+1)=t.take k++[t.getD k 0]):=by
    show _=_;rw[tS_ hlt];simp[List.getD,hlt]
   obtain⟨z,O⟩:=zpK (t.take k) (λx H=>d x (List.mem_of_mem_take H)) (by rw[lT9_];omega);have A:zbe (t.take k)<=65535:=by
    match k,hlt with
    | 0,_=>simp[zbe]
    | 1,_=>
     match t,d with
     | [],_=>simp[zbe]
     | a::r,hu'=>have:=hu' a (by simp);simp[zbe];omega
    | 2,_=>
     match t,d with
     | [],_=>simp[zbe]
     | [a],hu'=>have:=hu' a (by simp);simp[zbe];omega
     | a::b::r,hu'=>have:=hu' a (by simp);have:=hu' b (by simp);simp[zbe];omega
    | k+3,h=>omega
   clear p;have y:Hid (zbe (t.take (k+1))=256*zbe (t.take k)+t.getD k 0):=by show _=_;rw[q.out,zs1]
   clear q;generalize t.getD k 0=X at*;generalize zbe (t.take k)=Y at*;have s:Hid (bits .or .i64 (Y*256) X=256*Y+X):=zwP Y X z A I J;go_wp2_with fail
   go_roundw
   case rel=>
    have c:∃(f:Nat),f<=t.length/\(Value.int .i64 ((k:Int)+1))=I_ f/\Value.int .i64 (bits .or .i64 (Y*256) X)=I_ (zbe (t.take f))/\wr=wr:=
     ⟨k+1,by omega,by go_num,by rw[y.out,s.out],rfl⟩
    first|exact c|simpa using c
   case measure=>simp[intOf];omega
  .obtain rfl:k=t.length:=by omega
   have D:¬(t.length:Int)<t.length:=by omega
   go_wp2_with fail
   go_ret;exact⟨rfl,u,E⟩
theorem zs2 (R:Nat)(l:List Int)(sh:Bool)(w:World)(f:zaw w R l sh)(j:l.length<=100000)(m:zZ l) :
  Calls prog 76 #[P_ R 0] w λe w'=>zwE w w' e R (zbe (tkT 3 l sh)) (tkL 3 l sh) (tkS 3 l sh):=by
 have d:=ziA R 3 l sh w f j (by omega) m;go_in;go_wp2_with fail
 refine d.mono ?_;rintro _ o⟨rfl,b,c⟩;dsimp only;go_wp2_with fail
 go_ret;exact⟨rfl,b,c⟩
theorem zeH (bs:List Int)(j:Option Addr)(n d:Nat)(w:World)(y:n=bs.length)(g:zg w j d bs)(t:bs.length<=140737488355328) :
  Calls prog 125 #[.slice j n d] w λe w'=>∃b rc,e=.returned (.slice b bs.length rc)/\zg w' b rc bs/\(∀c m,b=some ⟨c,m,none⟩->w.heap.size<=c/\c<w'.heap.size)/\B_ w w':=by
 subst y;have B:=g.le;cases j with
 | none=>
  have p:=g.nil rfl;have o:bs=[]:=eN_ (by omega);subst p o;have r:∀w:World,(binOp .eql 51 (O_) (O_)).run prog w=.ok (.bool true) w:=λ_=>rfl;go_in;go_wp2_with fail
  go_ret;exact⟨none,0,rfl,g,(λ_ _ e=>by cases e),bR_ _ _⟩
 | some ad=>
  have r:∀w:World,(binOp .eql 51 (.slice (some ad) bs.length d) (O_)).run prog w=.ok (.bool false) w:=λ_=>rfl;have f:=zC w (.cells #[] 5);go_in;go_wp2_with (at_builtin;refine zgo rfl _ _ rfl w.heap.size _ 0 [] rfl (World.ownsRow_made _ _ 0 (nR_ _) (by decide) rfl) (some ad) _ d bs rfl rfl (g.below f) (by omega) f.size ?_;intro C D l s)
  obtain⟨b,rc,A,t,z⟩:=zeG l;have u:=l.lt;subst A;go_ret;refine⟨b,rc,?_,by simpa using z,(λc m e=>u c (by rw[e];rfl)),?_⟩
  .simp
  .exact Below.grown f s f.size (λq e=>(World.ownsRow.lt (World.ownsRow_made (e:=5) (size:=1) w #[] 0 (nR_ _) (by decide) rfl) q e).1)
structure zi where
 sa:Option Addr
 cap:Nat
 bs:List Int
def zi.val (p:zi):Value:=.slice p.sa p.bs.length p.cap
structure zbT (w:World)(sa:Option Addr)(ps:List zi):Prop where
 cells:ps=[]\/∃sb so,sa=some ⟨sb,so,none⟩/\∀j (h:j<ps.length),w.cell? ⟨sb,so+j,none⟩=some (.slice (ps[j]).sa (ps[j]).bs.length (ps[j]).cap)
 each:∀p∈ps,zg w p.sa p.cap p.bs
theorem zbT.below {f:List zi}(h:zbT w sa f)(b:B_ w w'):zbT w' sa f:=by
 refine⟨?_,λp m=>(h.each p m).below b⟩;rcases h.cells with h|⟨g,l,rfl,c⟩
 .exact .inl h
 .exact .inr ⟨g,l,rfl,λj d=>(b.cell (p:=⟨g,l+j,none⟩) (block_lt_of_cell (c j d))).trans (c j d)⟩
end Go.Proofs.YtdnaljbnebnlhaaGreatDoor
