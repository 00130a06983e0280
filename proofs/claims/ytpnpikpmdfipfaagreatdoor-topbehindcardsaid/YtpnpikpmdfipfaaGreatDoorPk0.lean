import Derived.Test.YtpnpikpmdfipfaaGreatDoorChecked
import Derived.WalkSpells
import Derived.WalkLawsBesides
import Derived.Deep.DeepAppendRoom
import Derived.ProofKit
import Derived.OpenShut
import Derived.Deep.Strs
import Derived.Deep.RegionLaw
import Derived.Laws.AppendOwnNone
import Derived.Shelf.Abstract
import Derived.Deep.RegionHeld3
set_option maxRecDepth 100000
set_option maxHeartbeats 4000000
namespace Go.Proofs.YtpnpikpmdfipfaaGreatDoor
open Go.RowKit Tryz
abbrev p_ (b o:Nat):Addr:=⟨b,o,none⟩
abbrev Q_:=Option Addr
abbrev L_:=List Int
abbrev Z_:=List ByteArray
abbrev X_:=Array Value
abbrev C_ (w:World)(b o:Nat)(v:Value):Prop:=w.cell? (p_ b o)=some v
abbrev B_ (w v:World):Prop:=Below w.heap.size w v
abbrev R_ (w:World)(b:Nat)(c:X_)(t:TypeId):Prop:=w.heap[b]? = some (.cells c t (0,0))
abbrev I_ (x:Int):Value:=.int .i64 x
abbrev O_:Value:=.slice none 0 0
abbrev P_ (b o:Nat):Value:=.pointer (some (p_ b o))
theorem K_ {A:Type}{p:Prop}(_:A)(h:p):p:=h
theorem kW_ {p:Prop}(_:World)(h:p):p:=h
theorem kV_ {p:Prop}(_:Value)(h:p):p:=h
theorem kO_ {p:Prop}(_:Obj)(h:p):p:=h
theorem kA_ {p:Prop}(_:X_)(h:p):p:=h
abbrev mz_:X_:=#[.int .i64 0,.int .i64 0,.int .i64 0,.int .i64 0,.int .i64 0,.slice none 0 0,.int .i64 0,.int .i64 0,.slice none 0 0,.slice none 0 0,.int .i64 0,.int .i64 0,.slice none 0 0,.int .i64 0,.int .i64 0,.slice none 0 0,.slice none 0 0,.slice none 0 0,.int .i64 0]
theorem zt {k:IntKind}{a b:Int}(h:a=b):Ending.returned (.int k a)=.returned (.int k b):=by rw[h]
theorem zN {a b:Bool}(h:a=b):Ending.returned (.bool a)=.returned (.bool b):=by rw[h]
abbrev nR_:=@Nat.le_refl
abbrev nZ_:=@Nat.zero_le
abbrev nL_:=@Nat.lt_of_lt_of_le
abbrev nT_:=@Nat.le_trans
abbrev gM_:=@List.getElem_mem
abbrev tS_:=@List.take_succ_eq_append_getElem
abbrev sI_:=@Array.getElem?_setIfInBounds
abbrev eN_:=@List.eq_nil_of_length_eq_zero
abbrev tL_:=@List.take_of_length_le
abbrev lT9_:=@List.length_take
abbrev lP_:=@List.length_append
abbrev dF_:=@decide_eq_false
abbrev dT_:=@decide_eq_true
abbrev bR_:=@Below.refl
abbrev iN_:=@if_neg
abbrev iP_:=@if_pos
abbrev cA_:=@congrArg
abbrev mA_:=@List.mem_append
abbrev mM_:=@List.mem_map
abbrev mS_:=@List.mem_singleton
abbrev mC_:=@List.mem_cons_of_mem
abbrev zA_:=@Nat.zero_add
abbrev lS_:=@Nat.le_succ
abbrev lG_:=@Nat.lt_or_ge
abbrev aT_:=@List.any_eq_true
abbrev dE_:=@decide_eq_true_eq
variable {w w':World}{n B cap base:Nat}{sa:Q_}{bs:L_}{xs:List Value}
structure Upd (b:Nat)(o:Obj)(w w':World):Prop where
 os:w'.os=w.os
 tape:w'.tape=w.tape
 output:w'.output=w.output
 size:w.heap.size<=w'.heap.size
 block:∀k,k<w.heap.size->k≠b->w'.heap[k]? = w.heap[k]?
 here:w'.heap[b]? = some o
theorem ze {b:Nat}{o:Obj}(h:w.heap[b]? = some o):b<w.heap.size:=by
 rcases lG_ b w.heap.size with g|g;exact g;rw[Array.getElem?_eq_none g]at h;cases h
theorem Upd.refl {b:Nat}{o:Obj}(h:w.heap[b]? = some o):Upd b o w w:=⟨rfl,rfl,rfl,nR_ _,λ_ _ _=>rfl,h⟩
theorem Upd.drewN {b:Nat}{o:Obj}(h:Upd b o w w')(n:Nat):Upd b o w (w'.drewN n):=⟨h.os,h.tape,h.output,h.size,h.block,h.here⟩
theorem Upd.alloc {b:Nat}{o:Obj}(h:Upd b o w w')(x:Obj):Upd b o w (w'.alloc x):=by
 have c:=ze h.here;refine⟨h.os,h.tape,h.output,?_,λk d f=>?_,?_⟩
 simp;have:=h.size;omega
 have:=h.size;rw[Below.heap_alloc _ _ _ (by omega)];exact h.block k d f;rw[Below.heap_alloc _ _ _ c];exact h.here
theorem Upd.setCell {b:Nat}{cs:X_}{t:TypeId}(h:Upd b (.cells cs t (0,0)) w w')(i:Nat)(v:Value) :
  Upd b (.cells (cs.setIfInBounds i v) t (0,0)) w (w'.setCell (p_ b i) v):=by
 refine⟨h.os,h.tape,h.output,?_,λk d c=>?_,?_⟩
 simp;exact h.size
 rw[Below.heap_setCell _ _ _ _ c];exact h.block k d c;exact heap_setCell_same w' b i cs t v h.here
theorem Upd.below {b:Nat}{o:Obj}{a:World}(k:Upd b o w w')(h:Below B a w)(c:B<=w.heap.size)(d:B<=b):Below B a w':=
 h.trans ⟨k.os,k.tape,k.output,k.size,λi f=>k.block i (by omega) (by omega)⟩
theorem zco (w:World)(o:Obj)(n:Nat)(h:n=w.heap.size):(w.alloc o).heap[n]? = some o:=by subst h;exact heap_alloc_new w o
theorem zaP (b o j:Nat):(p_ b o:Addr).add j=(p_ b (o+j)):=by unfold Addr.add;split<;>simp_all
def za5 (w:World)(sa:Q_)(bs:L_):Prop:=bs=[]\/∃sb so,sa=some (p_ sb so)/\∀j,j<bs.length->w.cell? (p_ sb (so+j))=some (.int .u8 (bs.getD j 0))
theorem za5.below (h:za5 w sa bs)(f:Below B w w')(d:∀b c,sa=some (p_ b c)->0<bs.length->b<B):za5 w' sa bs:=by
 rcases h with h|⟨b,c,rfl,h⟩;exact .inl h;exact .inr ⟨b,c,rfl,λj g=>(f.cell (p:=p_ b (c+j)) (d b c rfl (by omega))).trans (h j g)⟩
theorem za5.lt {d f:Nat}(h:za5 w (some (p_ d f)) bs)(c:0<bs.length):d<w.heap.size:=by
 rcases h with h|⟨b,o,e,h⟩;subst h;simp at c
 simp at e;obtain⟨rfl,rfl⟩:=e;exact block_lt_of_cell (h 0 c)
theorem za5.below' (h:za5 w sa bs)(b:B_ w w'):za5 w' sa bs:=
 h.below b λd f e c=>by subst e;exact h.lt c
theorem za5.cut {c d:Nat}(h:za5 w (some (p_ c d)) bs)(i n:Nat):za5 w (some (p_ c (d+i))) ((bs.drop i).take n):=by
 rcases h with h|⟨b,o,e,h⟩;subst h;simp[za5]
 simp at e;obtain⟨rfl,rfl⟩:=e
 refine .inr ⟨c,d+i,rfl,λj g=>?_⟩;have f:j<n/\i+j<bs.length:=by simp at g;omega
 rw[Nat.add_assoc,h (i+j) f.2];simp[f.1]
theorem Upd.setRow {b:Nat}{cs c:X_}{t:TypeId}(h:w.heap[b]? = some (.cells c t (0,0))):Upd b (.cells cs t (0,0)) w (w.setRow b cs):=
 ⟨rfl,rfl,rfl,by simp,λk _ d=>setRow_other w b k cs d,setRow_heap w b c cs t (0,0) h⟩
theorem zag (W:World)(l:List Value)(t:TypeId):∀j u,l[j]? = some u->(W.alloc (.cells l.toArray t)).cell? ((p_ W.heap.size 0:Addr).add j)=some u:=by
 intro j u b;rw[zaP,zA_,World.cell?_alloc_at _ _ _ _ rfl]
 simpa using b
theorem zds (bs:L_):∀u∈bs.map (Value.int .u8),u.oneCell'=true:=by
 intro u b;simp at b;obtain⟨x,_,rfl⟩:=b;rfl
def ub (bs:L_):List Value:=bs.map (Value.int .u8)
structure zg (w:World)(sa:Q_)(cap:Nat)(bs:L_):Prop where
 le:bs.length<=cap
 max:cap<=maxLen
 some:cap=0\/∃sb so,sa=some (p_ sb so)
 nil:sa=none->cap=0
 bytes:za5 w sa bs
theorem zg.below (h:zg w sa cap bs)(b:B_ w w'):zg w' sa cap bs:=
 ⟨h.le,h.max,h.some,h.nil,h.bytes.below' b⟩
theorem zcb (bs:L_):(ub bs).length=bs.length:=by simp[ub]
theorem zc0 {g:Nat}(h:w.ownsRow base 5 1 (.slice (some (p_ g 0)) n cap) n (ub bs)):n=bs.length/\zg w (some (p_ g 0)) cap bs:=by
 have f:n=bs.length:=by have:=h.1;rw[zcb]at this;omega
 refine⟨f,?_⟩;have d:=λj b=>World.ownsRow.cellAt h j b;rcases h.2 with⟨e,_⟩|⟨m,c',l,e,_,_,o,c,_,_⟩;cases e;cases e;refine⟨by omega,c,.inr ⟨g,0,rfl⟩,(λe=>by cases e),.inr ⟨g,0,rfl,λj b=>?_⟩⟩;rw[zA_,d j (by omega)];simp[ub,b]
theorem ownsRow_base' {b b':Nat}{e:TypeId}{size:Nat}{v:Value}(h:w.ownsRow b e size v n xs)(m:b'<=b):w.ownsRow b' e size v n xs:=by
 obtain⟨j,c⟩:=h;refine⟨j,?_⟩;rcases c with c|⟨g,d,f,l,o,r⟩;exact .inl c;exact .inr ⟨g,d,f,l,by omega,r⟩
theorem zgP (h:w.grownBy w' none):B_ w w':=⟨h.os,h.tape,h.output,h.size,λk b=>h.block k b (by simp)⟩
theorem zek:(prog.info? 5).map (λi=>(i.zero,i.size,i.bytes))=some (some (.int .u8 0),1,1):=by kernel_rfl
variable {w2 w1:World}{k:Nat}
theorem zhz (w:World)(cs:X_)(t:TypeId)(j:Nat)(v:Value)(h:cs[j]? = some v):(w.alloc (.cells cs t)).cell? (p_ w.heap.size j)=some v:=by
 rw[World.cell?_alloc_at _ _ _ _ rfl];exact h
theorem zS {o:Obj}(b:Below (w.alloc o).heap.size (w.alloc o) w1):B_ w w1:=
 ((bR_ _ _).alloc (nR_ _) _).trans (b.mono (by simp))
theorem zbE (k:Below B w.drew w1):Below B w w1:=⟨k.os,k.tape,k.output,k.size,k.block⟩
theorem zbK {cs:X_}{t:TypeId}(b:Below (w.alloc (.cells cs t)).heap.size (w.alloc (.cells cs t)) w1):w1.heap[w.heap.size]? = some (.cells cs t (0,0)):=
 (b.block _ (by simp)).trans (heap_alloc_new w _)
theorem zG (w:World)(o:Obj):(w.alloc o).heap.size=w.heap.size+1:=by simp
theorem zb {b:Nat}{cs:X_}{t:TypeId}(h:w.heap[b]? = some (.cells cs t (0,0)))(j:Nat)(v:Value)(c:cs[j]? = some v):w.cell? (p_ b j)=some v:=by
 rw[cell_of_row w b j _ _ _ h];exact c
theorem zd {b:Nat}{cs:X_}{t:TypeId}(h:w.heap[b]? = some (.cells cs t (0,0)))(j:Nat):w.frozen? (p_ b j)=false:=frozen_of_row w b j _ _ h
theorem zbs (w:World)(Z C:X_)(t:TypeId):B_ w ((w.alloc (.cells Z t)).setRow w.heap.size C):=
 (Upd.setRow (heap_alloc_new w (.cells Z t))).below ((bR_ _ _).alloc (nR_ _) _) (by simp) (nR_ _)
theorem zR {o x:Obj}(h:w.heap[k]? = some x):(w.alloc o).heap[k]? = some x:=by rw[Below.heap_alloc _ _ _ (ze h)];exact h
theorem zh {x:Obj}{b j:Nat}{v:Value}(h:w.heap[k]? = some x)(c:k≠b):(w.setCell (p_ b j) v).heap[k]? = some x:=(heap_setCell_other w (p_ b j) k v c).trans h
theorem zr {p:Addr}{v:Value}(h:B_ w w')(c:w.cell? p=some v):w'.cell? p=some v:=(h.cell (p:=p) (block_lt_of_cell c)).trans c
theorem zk {b:Nat}{o:Obj}(h:B_ w w')(c:w.heap[b]? = some o):w'.heap[b]? = some o:=(h.block _ (ze c)).trans c
theorem zm (h:B_ w w1)(k:B_ w1 w2):B_ w w2:=h.trans (k.mono h.size)
theorem zC (w:World)(o:Obj):B_ w (w.alloc o):=(bR_ _ _).alloc (nR_ _) _
theorem dC_ {p:Addr}{v:Value}(c:w.cell? p=some v):w.drew.cell? p=some v:=c
theorem dQ_ {b:Nat}{o:Obj}(c:w.heap[b]? = some o):w.drew.heap[b]? = some o:=c
theorem dB_ (w:World):Below w.heap.size w w.drew:=(Below.refl _ _).drew
abbrev hN_:=@heap_alloc_new
abbrev hO_:=@heap_setCell_other
abbrev hS_:=@heap_setCell_same
abbrev bL_:=@block_lt_of_cell
abbrev cB_:=@World.cell?_of_block
abbrev oN_:=@World.ownsRow_nil
abbrev hX_:=@heap_alloc2_old
abbrev hY_:=@heap_alloc2_new
abbrev oA_:=@World.ownsRow.alloc
abbrev wS_:=@wpList_store_row
abbrev wL_:=@wpList_load_row
abbrev rC_:=@results_cell_row
abbrev sH_:=@setRow_heap
abbrev sO_:=@setRow_other
theorem zgM (au b:Int)(d:Q_)(n c:Nat)(r:Bool)(w:World)(h:r=decide (au=0/\b=0/\n=0)) :
  Calls prog 116 #[.agg #[I_ au,I_ b,.slice d n c]] w λe w'=>e=.returned (.bool r)/\B_ w w':=by
 by_cases h1:au=0;by_cases h2:b=0;by_cases h3:n=0;obtain rfl:r=true:=by simp[h,h1,h2,h3]
 rotate_left
 have f:¬(n:Int)=0:=by omega
 obtain rfl:r=false:=by simp[h,h3]
 rotate_left
 obtain rfl:r=false:=by simp[h,h2]
 rotate_left
 obtain rfl:r=false:=by simp[h,h1]
 rotate_left
 all_goals
  clear h;go_in;go_wp2_with fail
  go_ret;exact⟨by first|rfl|exact zN (beq_eq_false_iff_ne.2 (by omega)),(bR_ _ _).alloc (nR_ _) _⟩
theorem zhg (au b:Int)(d:Q_)(n c:Nat)(r:Bool)(w:World)(h:r=decide (au=0/\b=0/\n=0)) :
  Calls prog 118 #[.agg #[I_ au,I_ b,.slice d n c]] w λe w'=>e=.returned (.bool r)/\B_ w w':=by
 by_cases h1:au=0;by_cases h2:b=0;by_cases h3:n=0;obtain rfl:r=true:=by simp[h,h1,h2,h3]
 rotate_left
 have f:¬(n:Int)=0:=by omega
 obtain rfl:r=false:=by simp[h,h3]
 rotate_left
 obtain rfl:r=false:=by simp[h,h2]
 rotate_left
 obtain rfl:r=false:=by simp[h,h1]
 rotate_left
 all_goals
  clear h;go_in;go_wp2_with fail
  go_ret;exact⟨by first|rfl|exact zN (beq_eq_false_iff_ne.2 (by omega)),(bR_ _ _).alloc (nR_ _) _⟩
theorem zgs (au b:Int)(f:Q_)(n c:Nat)(g:Q_)(m d:Nat)(r:Bool)(w:World)(h:r=decide (au=0/\b=0/\n=0/\m=0)) :
  Calls prog 117 #[.agg #[I_ au,I_ b,.slice f n c,.slice g m d]] w λe w'=>e=.returned (.bool r)/\B_ w w':=by
 by_cases h1:au=0;by_cases h2:b=0;by_cases h3:n=0;by_cases h4:m=0;obtain rfl:r=true:=by simp[h,h1,h2,h3,h4]
 rotate_left
 have l:¬(m:Int)=0:=by omega
 obtain rfl:r=false:=by simp[h,h4]
 rotate_left
 have j:¬(n:Int)=0:=by omega
 obtain rfl:r=false:=by simp[h,h3]
 rotate_left
 obtain rfl:r=false:=by simp[h,h2]
 rotate_left
 obtain rfl:r=false:=by simp[h,h1]
 rotate_left
 all_goals
  clear h;go_in;go_wp2_with fail
  go_ret;exact⟨by first|rfl|exact zN (beq_eq_false_iff_ne.2 (by omega)),(bR_ _ _).alloc (nR_ _) _⟩
theorem zcy (au b:Int)(d:Q_)(n c:Nat)(w:World)(h:au=0/\b=0/\n=0):Calls prog 116 #[.agg #[I_ au,I_ b,.slice d n c]] w λe w'=>e=.returned (.bool true)/\B_ w w':=zgM _ _ _ _ _ true w (by simp[h])
theorem zjD (au b:Int)(d:Q_)(n c:Nat)(w:World)(h:¬(au=0/\b=0/\n=0)):Calls prog 116 #[.agg #[I_ au,I_ b,.slice d n c]] w λe w'=>e=.returned (.bool false)/\B_ w w':=zgM _ _ _ _ _ false w (by rw[dF_ h])
theorem zd9 (au b:Int)(d:Q_)(n c:Nat)(w:World)(h:au=0/\b=0/\n=0):Calls prog 118 #[.agg #[I_ au,I_ b,.slice d n c]] w λe w'=>e=.returned (.bool true)/\B_ w w':=zhg _ _ _ _ _ true w (by simp[h])
theorem zkw (au b:Int)(d:Q_)(n c:Nat)(w:World)(h:¬(au=0/\b=0/\n=0)):Calls prog 118 #[.agg #[I_ au,I_ b,.slice d n c]] w λe w'=>e=.returned (.bool false)/\B_ w w':=zhg _ _ _ _ _ false w (by rw[dF_ h])
theorem zbo (au b:Int)(f:Q_)(n c:Nat)(g:Q_)(m d:Nat)(w:World)(h:au=0/\b=0/\n=0/\m=0):Calls prog 117 #[.agg #[I_ au,I_ b,.slice f n c,.slice g m d]] w λe w'=>e=.returned (.bool true)/\B_ w w':=zgs _ _ _ _ _ _ _ _ true w (by simp[h])
theorem zf3 (au b:Int)(f:Q_)(n c:Nat)(g:Q_)(m d:Nat)(w:World)(h:¬(au=0/\b=0/\n=0/\m=0)):Calls prog 117 #[.agg #[I_ au,I_ b,.slice f n c,.slice g m d]] w λe w'=>e=.returned (.bool false)/\B_ w w':=zgs _ _ _ _ _ _ _ _ false w (by rw[dF_ h])
structure Msg where
 (fr tt ki bau bnu hau hrd sau srd cau crd ro:Int)
 (bta hba hpa sda cba cpa cva:Q_)
 (btn btc hbn hbc hpn hpc sdn sdc cbn cbc cpn cpc cvn cvc:Nat)
abbrev mrow_ (x:Msg):X_:=#[.int .i64 x.fr,.int .i64 x.tt,.int .i64 x.ki,.int .i64 x.bau,.int .i64 x.bnu,.slice x.bta x.btn x.btc,.int .i64 x.hau,.int .i64 x.hrd,.slice x.hba x.hbn x.hbc,.slice x.hpa x.hpn x.hpc,.int .i64 x.sau,.int .i64 x.srd,.slice x.sda x.sdn x.sdc,.int .i64 x.cau,.int .i64 x.crd,.slice x.cba x.cbn x.cbc,.slice x.cpa x.cpn x.cpc,.slice x.cva x.cvn x.cvc,.int .i64 x.ro]
def zaq (m:Msg):Bool:=decide ((m.bau=0/\m.bnu=0/\m.btn=0)/\(m.hau=0/\m.hrd=0/\m.hbn=0/\m.hpn=0)/\(m.sau=0/\m.srd=0/\m.sdn=0)/\(m.cau=0/\m.crd=0/\m.cbn=0/\m.cpn=0)/\m.cvn=0/\m.ro=0)
theorem zjE (m:Msg)(r:Bool)(w:World)(h:r=zaq m) :
  Calls prog 65 #[.agg (mrow_ m)] w λe w'=>e=.returned (.bool r)/\B_ w w':=by
 by_cases e1:m.bau=0/\m.bnu=0/\m.btn=0
 .by_cases e2:m.hau=0/\m.hrd=0/\m.hbn=0/\m.hpn=0
  .by_cases e3:m.sau=0/\m.srd=0/\m.sdn=0
   .by_cases e4:m.cau=0/\m.crd=0/\m.cbn=0/\m.cpn=0
    .by_cases e5:m.cvn=0;by_cases e6:m.ro=0;obtain rfl:r=true:=by simp[h,zaq,e1,e2,e3,e4,e5,e6]
     rotate_left
     obtain rfl:r=false:=by simp[h,zaq,e6]
     rotate_left
     obtain rfl:r=false:=by simp[h,zaq,e5]
     have L:¬(m.cvn:Int)=0:=by omega
     rotate_left
     all_goals
      clear h;go_in;go_wp2_with fail
      refine(zcy _ _ _ _ _ _ (by omega)).mono ?_;rintro e F⟨rfl,c⟩;have b:=zbK c;replace c:=zS c;have o:=zb b 6 _ rfl;have p:=zb b 7 _ rfl;have s:=zb b 8 _ rfl;have t:=zb b 9 _ rfl;go_wp2_with fail
      clear o p s t;refine(zbo _ _ _ _ _ _ _ _ _ (by omega)).mono ?_;rintro e w2⟨rfl,d⟩;have f:=zk d b;replace d:=c.trans (d.mono c.size);clear b;have y:=zb f 10 _ rfl;have z:=zb f 11 _ rfl;have A:=zb f 12 _ rfl;go_wp2_with fail
      clear y z A;refine(zd9 _ _ _ _ _ _ (by omega)).mono ?_;rintro e G⟨rfl,j⟩;have g:=zk j f;replace j:=d.trans (j.mono d.size);clear f;have B:=zb g 13 _ rfl;have C:=zb g 14 _ rfl;have D:=zb g 15 _ rfl;have E:=zb g 16 _ rfl;go_wp2_with fail
      clear B C D E;refine(zbo _ _ _ _ _ _ _ _ _ (by omega)).mono ?_;rintro e J⟨rfl,l⟩;have u:=zk l g;replace l:=j.trans (l.mono j.size);clear g;have H:=zb u 17 _ rfl;have I:=zb u 18 _ rfl;go_wp2_with fail
      go_ret;exact⟨by first|rfl|exact zN (by simp;omega),l⟩
    obtain rfl:r=false:=by rw[h];exact dF_ (λq=>e4 q.2.2.2.1)
    clear h;go_in;go_wp2_with fail
    refine(zcy _ _ _ _ _ _ (by omega)).mono ?_;rintro e F⟨rfl,c⟩;have b:=zbK c;replace c:=zS c;have o:=zb b 6 _ rfl;have p:=zb b 7 _ rfl;have s:=zb b 8 _ rfl;have t:=zb b 9 _ rfl;go_wp2_with fail
    clear o p s t;refine(zbo _ _ _ _ _ _ _ _ _ (by omega)).mono ?_;rintro e w2⟨rfl,d⟩;have f:=zk d b;replace d:=c.trans (d.mono c.size);clear b;have y:=zb f 10 _ rfl;have z:=zb f 11 _ rfl;have A:=zb f 12 _ rfl;go_wp2_with fail
    clear y z A;refine(zd9 _ _ _ _ _ _ (by omega)).mono ?_;rintro e G⟨rfl,j⟩;have g:=zk j f;replace j:=d.trans (j.mono d.size);clear f;have B:=zb g 13 _ rfl;have C:=zb g 14 _ rfl;have D:=zb g 15 _ rfl;have E:=zb g 16 _ rfl;go_wp2_with fail
    clear B C D E;refine(zf3 _ _ _ _ _ _ _ _ _ (by omega)).mono ?_;rintro e J⟨rfl,l⟩;have u:=zk l g;replace l:=j.trans (l.mono j.size);clear g;have H:=zb u 17 _ rfl;have I:=zb u 18 _ rfl;go_wp2_with fail
    go_ret;exact⟨by first|rfl|exact zN (by simp;omega),l⟩
   obtain rfl:r=false:=by rw[h];exact dF_ (λq=>e3 q.2.2.1)
   clear h;go_in;go_wp2_with fail
   refine(zcy _ _ _ _ _ _ (by omega)).mono ?_;rintro e F⟨rfl,c⟩;have b:=zbK c;replace c:=zS c;have o:=zb b 6 _ rfl;have p:=zb b 7 _ rfl;have s:=zb b 8 _ rfl;have t:=zb b 9 _ rfl;go_wp2_with fail
   clear o p s t;refine(zbo _ _ _ _ _ _ _ _ _ (by omega)).mono ?_;rintro e w2⟨rfl,d⟩;have f:=zk d b;replace d:=c.trans (d.mono c.size);clear b;have y:=zb f 10 _ rfl;have z:=zb f 11 _ rfl;have A:=zb f 12 _ rfl;go_wp2_with fail
   clear y z A;refine(zkw _ _ _ _ _ _ (by omega)).mono ?_;rintro e G⟨rfl,j⟩;have g:=zk j f;replace j:=d.trans (j.mono d.size);clear f;have B:=zb g 13 _ rfl;have C:=zb g 14 _ rfl;have D:=zb g 15 _ rfl;have E:=zb g 16 _ rfl;go_wp2_with fail
   go_ret;exact⟨by first|rfl|exact zN (by simp;omega),j⟩
  obtain rfl:r=false:=by rw[h];exact dF_ (λq=>e2 q.2.1)
  clear h;go_in;go_wp2_with fail
  refine(zcy _ _ _ _ _ _ (by omega)).mono ?_;rintro e F⟨rfl,c⟩;have b:=zbK c;replace c:=zS c;have o:=zb b 6 _ rfl;have p:=zb b 7 _ rfl;have s:=zb b 8 _ rfl;have t:=zb b 9 _ rfl;go_wp2_with fail
  clear o p s t;refine(zf3 _ _ _ _ _ _ _ _ _ (by omega)).mono ?_;rintro e w2⟨rfl,d⟩;have f:=zk d b;replace d:=c.trans (d.mono c.size);clear b;have y:=zb f 10 _ rfl;have z:=zb f 11 _ rfl;have A:=zb f 12 _ rfl;go_wp2_with fail
  go_ret;exact⟨by first|rfl|exact zN (by simp;omega),d⟩
 obtain rfl:r=false:=by rw[h];exact dF_ (λq=>e1 q.1)
 clear h;go_in;go_wp2_with fail
 refine(zjD _ _ _ _ _ _ (by omega)).mono ?_;rintro e F⟨rfl,c⟩;have b:=zbK c;replace c:=zS c;have o:=zb b 6 _ rfl;have p:=zb b 7 _ rfl;have s:=zb b 8 _ rfl;have t:=zb b 9 _ rfl;go_wp2_with fail
 go_ret;exact⟨by first|rfl|exact zN (by simp;omega),c⟩
open Go.ChangeShapes Go.WideShapes Go.ChangeAt
theorem cU8:prog.cellsOf 5=1:=by kernel_rfl
theorem own:ownKnob prog.godebug=none:=by kernel_rfl
def zaN (bs:L_):Prop:=∀x∈bs,0<=x/\x<=255
variable {ss:Z_}
structure zas (w:World)(sa:Q_)(ss:Z_):Prop where
 cells:ss=[]\/∃sb so,sa=some (p_ sb so)/\∀j,j<ss.length->w.cell? (p_ sb (so+j))=some (.string (ss.getD j ByteArray.empty))
 size:∀s∈ss,s.size<=maxLen
theorem zas.below (h:zas w sa ss)(g:B_ w w'):zas w' sa ss:=by
 refine⟨?_,h.size⟩;rcases h.cells with h|⟨d,f,rfl,b⟩;exact .inl h;exact .inr ⟨d,f,rfl,λj c=>(g.cell (p:=p_ d (f+j)) (block_lt_of_cell (b j c))).trans (b j c)⟩
variable {ops:Array Oper}{Q:Exit->Act->World->Prop}{a:Act}
theorem zeG {v:Value}(h:w.ownsRow base 5 1 v n (ub bs)):∃c b,v=.slice c n b/\n=bs.length/\zg w c b bs:=by
 have f:n=bs.length:=by have:=h.1;rw[zcb]at this;omega
 rcases h.2 with⟨rfl,j⟩|⟨g,b,l,rfl,_⟩;have d:bs=[]:=eN_ (by omega);subst j d;exact⟨none,0,rfl,rfl,⟨nR_ _,by decide,.inl rfl,λ_=>rfl,.inl rfl⟩⟩;exact⟨some (p_ g 0),b,rfl,f,(zc0 h).2⟩
theorem zsZ {v:Value}{c:Int}(h:w.ownsRow base 5 1 v n (ub bs++[.int .u8 c])):w.ownsRow base 5 1 v n (ub (bs++[c])):=by rw[show ub (bs++[c])=ub bs++[.int .u8 c] by simp[ub]];exact h
theorem zB (h:B<=w.heap.size)(o:Obj):B<=(w.alloc o).heap.size:=by simp;exact Nat.le_succ_of_le h
def zai (bs:L_):ByteArray:=bs.foldl (λr n=>r.push (UInt8.ofNat n.toNat)) ByteArray.empty
theorem zd8 (w:World)(c:Q_)(n d:Nat)(bs:L_)(o:n=bs.length)(h:zg w c d bs) :
  (convert 61 9 (.slice c n d)).run prog w=.ok (.string (zai bs)) w:=by
 subst o;rw[run_convert_bytes_string w 61 9 5 c _ _ underlying61 underlying5 underlying9];cases c with
 | none=>
  obtain rfl:=h.nil rfl;obtain rfl:bs=[]:=eN_ (by have:=h.le;omega)
  rfl
 | some a=>
  refine run_bytesToString w a bs.length d bs ?_;have m:=zcb bs;rw[<-m];refine run_loadCells_list (P:=prog) w a (ub bs) ?_;intro j v b;rcases h.bytes with f|⟨p,q,e,f⟩;subst f;simp[ub]at b;cases e;have l:j<bs.length:=by
   rcases lG_ j bs.length with g|g;exact g;rw[List.getElem?_eq_none (by rw[zcb];exact g)]at b;cases b
  rw[zaP,f j l];simp[ub,l]at b;simp[l,b]
theorem zgo {rest:List Oper}{o:Oper}(t:o.guard=none)(s x:Operand)
  (A:o.op=.call { callee:=.builtin .append,args:=#[s,x],argTypes:=#[61,61] })
  (base:Nat) (v:Value) (n:Nat) (bs:L_) (B:a.eval s=v) (p:w.ownsRow base 5 1 v n (ub bs))
  (r:Q_) (m d:Nat) (cs:L_) (C:a.eval x=.slice r m d) (z:m=cs.length) (q:zg w r d cs)
  (J:n+m<=140737488355328) (F:base<=w.heap.size)
  (h:∀c w',w'.ownsRow base 5 1 c (n+m) (ub (bs++cs))->w.grownBy w' v.ownBlock->wpList prog ops Q rest (a.put o.dst c) w'):wpList prog ops Q (o::rest) a w:=by
 obtain⟨i,y,G,H,I⟩:=info_parts zek;cases r with
 | none=>
  obtain rfl:=q.nil rfl;obtain rfl:cs=[]:=eN_ (by have:=q.le;omega);subst z;exact wpList_append_own_none t s x 61 A base 5 i 1 underlying61 y v n (ub bs) B p C (h v w (by simpa using p) (World.grownBy.refl _ _))
 | some ad=>
  refine wpList_append_own w t s x 61 A base 5 i (.int .u8 0) 1 1 underlying61 y G H I rfl (by decide) v n (ub bs) B p ad m d (ub cs) C (by rw[zcb,z];omega) ?_ (zds cs) (by unfold maxLen;omega) (by omega) F (λc w' D E _=>h c w' (by rw[show ub (bs++cs)=ub bs++ub cs by simp[ub]];exact D) E);intro j u b;rcases q.bytes with f|⟨L,M,e,f⟩;subst f;simp[ub]at b;cases e;have l:j<cs.length:=by
   rcases lG_ j cs.length with g|g;exact g;rw[List.getElem?_eq_none (by rw[zcb];exact g)]at b;cases b
  rw[zaP,f j l];simp[ub,l]at b;simp[l,b]
variable {v' v1:Value}
structure zV (w:World)(v:Value)(w':World)(v':Value):Prop where
 grown:w.grownBy w' v.ownBlock
 fresh:∀q,v'.ownBlock=some q->v.ownBlock=some q\/w.heap.size<=q
theorem zV.of {v:Value}(h:w.grownBy w' v.ownBlock)(b:v'.ownBlock=v.ownBlock\/v'.ownBlock=some w.heap.size):zV w v w' v':=
 ⟨h,λq e=>by
  rcases b with b|b
  .exact .inl (b.symm.trans e)
  .rw[b]at e;cases e;exact .inr (nR_ _)⟩
theorem zV.trans {v d:Value}(h:zV w v w1 v1)(k:zV w1 v1 w2 d):zV w v w2 d:=by
 refine⟨⟨k.grown.os.trans h.grown.os,k.grown.tape.trans h.grown.tape,k.grown.output.trans h.grown.output,nT_ h.grown.size k.grown.size,λq c b=>?_⟩,λq e=>?_⟩;rw[k.grown.block q (nL_ c h.grown.size) (λe=>?_)];exact h.grown.block q c b;rcases h.fresh q e.symm with g|g;exact b g.symm;omega;rcases k.fresh q e with g|g;exact h.fresh q g;exact .inr (nT_ h.grown.size g)
theorem zV.alloc {v:Value}{o:Obj}(h:zV (w.alloc o) v w' v'):zV w v w' v':=by
 refine⟨⟨h.grown.os,h.grown.tape,h.grown.output,?_,λq c b=>?_⟩,λq e=>?_⟩;exact nT_ (by simp) h.grown.size;rw[h.grown.block q (by rw[zG];omega) b];exact((bR_ w.heap.size w).alloc (nR_ _) o).block q c;rcases h.fresh q e with g|g;exact .inl g;exact .inr (nT_ (by simp) g)
theorem zV.below {v:Value}(h:zV w v w' v')(c:base<=w.heap.size)(b:∀q,v.ownBlock=some q->base<=q):Below base w w':=
 ⟨h.grown.os,h.grown.tape,h.grown.output,h.grown.size,λk d=>h.grown.block k (by omega) (λe=>by have:=b k e.symm;omega)⟩
theorem zV.row {v:Value}{b:Nat}{o:Obj}(h:zV w v w' v')(c:w.heap[b]? = some o)(d:v.ownBlock≠some b):w'.heap[b]? = some o:=
 (h.grown.block b (ze c) (λe=>d e.symm)).trans c
theorem zV.slice {v:Value}(h:zV w v w' v')(c:zg w sa cap bs)(l:∀b f,sa=some (p_ b f)->v.ownBlock≠some b):zg w' sa cap bs:=by
 refine⟨c.le,c.max,c.some,c.nil,?_⟩;rcases c.bytes with d|⟨b,f,rfl,d⟩;exact .inl d;exact .inr ⟨b,f,rfl,λj g=>(cB_ (h.grown.block b (bL_ (d j g)) (λe=>l b f rfl e.symm))).trans (d j g)⟩
theorem zft {rest:List Oper}{o:Oper}(t:o.guard=none)(s x:Operand)
  (A:o.op=.call { callee:=.builtin .append,args:=#[s,x],argTypes:=#[61,61] })
  (base:Nat) (v:Value) (n:Nat) (bs:L_) (B:a.eval s=v) (p:w.ownsRow base 5 1 v n (ub bs))
  (r:Q_) (m d:Nat) (cs:L_) (C:a.eval x=.slice r m d) (z:m=cs.length) (q:zg w r d cs)
  (L:n+m<=140737488355328) (G:base<=w.heap.size)
  (h:∀c w',w'.ownsRow base 5 1 c (n+m) (ub (bs++cs))->zV w v w' c->wpList prog ops Q rest (a.put o.dst c) w'):wpList prog ops Q (o::rest) a w:=by
 obtain⟨i,y,H,I,J⟩:=info_parts zek;cases r with
 | none=>
  obtain rfl:=q.nil rfl;obtain rfl:cs=[]:=eN_ (by have:=q.le;omega);subst z;exact wpList_append_own_none t s x 61 A base 5 i 1 underlying61 y v n (ub bs) B p C (h v w (by simpa using p) (zV.of (World.grownBy.refl _ _) (.inl rfl)))
 | some ad=>
  refine wpList_append_own_at w t s x 61 A base 5 i (.int .u8 0) 1 1 underlying61 y H I J rfl (by decide) v n (ub bs) B p ad m d (ub cs) C (by rw[zcb,z];omega) ?_ (zds cs) (by unfold maxLen;omega) (by omega) G (λc w' D E _ F=>h c w' (by rw[show ub (bs++cs)=ub bs++ub cs by simp[ub]];exact D) (zV.of E F));intro j u b;rcases q.bytes with f|⟨M,N,e,f⟩;subst f;simp[ub]at b;cases e;have l:j<cs.length:=by
   rcases lG_ j cs.length with g|g;exact g;rw[List.getElem?_eq_none (by rw[zcb];exact g)]at b;cases b
  rw[zaP,f j l];simp[ub,l]at b;simp[l,b]
variable {P:Program}{K:Act->World->Prop}{E:Prop}{md:Region.Mode}{fuel:Nat}{listed:Array Bool}
theorem zdF {o:Oper}
  (p:o.guard=none) (f:FuncId) (d:List Operand) (g:Array TypeId) (c:o.op=.call { callee:=.value (.func f),args:=d.toArray,argTypes:=g })
  (b:List Value) (q:d.map a.eval=b) (m:∀args w,(callFunc f args).run prog w=.ok (.enter f args) w)
  (R:Value->World->Prop) (l:Calls prog f b.toArray w λe w'=>∃v,e=.returned v/\R v w') (j:∀v w',R v w'->K (a.put o.dst v) w') :
  if Region.wanted o (yielded ops a.tmps)=true then Oper.wp prog o a w K Q else E:=by
 have r:Region.wanted o (yielded ops a.tmps)=true:=by simp[Region.wanted,p]
 rw[iP_ r];obtain⟨t,y,ty,z,s,u⟩:=o
 simp only at c
 subst c;unfold Oper.wp;rw[execOp_call_go,List.map_toArray,q,m,Oper.upon_enter,show(#[]++b.toArray++#[]:X_)=b.toArray by simp];refine l.mono ?_;rintro e w'⟨v,rfl,h⟩;exact j v w' h
theorem ziC {S:World->Prop}{i d:Nat}{b:Oper}{v:Value}(m:ops[i]? = some b)(f:b.dst=some d)
  (p:Region.noSelect ops=true) (l:Region.free md ops listed i=true) (o:(Region.ready md ops listed).contains i=true)
  (g:∀c a w,Q (.panic c) (a.put (some d) v) w->Q (.panic c) a w) (q:YieldsIf P ops S b v a) (j:S w)
  (h:wpAnyH P md ops Q S fuel (listed.setIfInBounds i true) (a.put (some d) v) w):wpAnyH P md ops Q S (fuel+1) listed a w:=
 wpAnyH_take m p l o (by rw[f];exact g) q j (by rw[f];exact h)
theorem zj {o:Oper}
  (q:o.guard=none) (d:Nat) (m:o.dst=some d) (f:FuncId) (c:List Operand) (g:Array TypeId) (r:o.op=.call { callee:=.value (.func f),args:=c.toArray,argTypes:=g })
  (b:List Value) (s:c.map a.eval=b) (p:∀args w,(callFunc f args).run prog w=.ok (.enter f args) w)
  (R:Value->World->Prop) (l:Calls prog f b.toArray w λe w'=>∃v,e=.returned v/\R v w') (j:∀v w',R v w'->K (a.put (some d) v) w') :
  if Region.wanted o (yielded ops a.tmps)=true then Oper.wp prog o a w K Q else E:=
 zdF q f c g r b s p R l (by rw[m];exact j)
theorem zaJ {o:Oper}
  (s:Region.wanted o (yielded ops a.tmps)=true) (d:Nat) (c:o.dst=some d) (f:FuncId) (j:List Operand) (l:Array TypeId) (g:o.op=.call { callee:=.value (.func f),args:=j.toArray,argTypes:=l })
  (b:List Value) (r:j.map a.eval=b) (q:∀args w,(callFunc f args).run prog w=.ok (.enter f args) w)
  (R:Value->World->Prop) (p:Calls prog f b.toArray w λe w'=>∃v,e=.returned v/\R v w') (m:∀v w',R v w'->K (a.put (some d) v) w') :
  if Region.wanted o (yielded ops a.tmps)=true then Oper.wp prog o a w K Q else E:=by
 rw[iP_ s];obtain⟨u,z,ty,A,t,y⟩:=o
 simp only at g c
 subst g c;unfold Oper.wp;rw[execOp_call_go,List.map_toArray,r,q,Oper.upon_enter,show(#[]++b.toArray++#[]:X_)=b.toArray by simp];refine p.mono ?_;rintro e w'⟨v,rfl,h⟩;exact m v w' h
theorem zy {o:Oper}
  (f:o.guard=none) (d:Nat) (c:o.dst=some d) (v:Value) (w':World) (g:(execOp a.eval o).run prog w=.ok (.value v) w') (b:K (a.put (some d) v) w') :
  if Region.wanted o (yielded ops a.tmps)=true then Oper.wp prog o a w K Q else E:=by
 have j:Region.wanted o (yielded ops a.tmps)=true:=by simp[Region.wanted,f]
 rw[iP_ j];unfold Oper.wp;rw[g,Oper.upon_value,c];exact b
theorem zcc {o:Oper}
  (G:o.guard=none) (s x:Operand) (t:TypeId) (L:o.op=.call { callee:=.builtin .append,args:=#[s,x],argTypes:=#[t,t] })
  (base:Nat) (e:TypeId) (i:TypeInfo) (z:Value) (size g:Nat) (U:prog.underlying t=some (.slice e)) (H:prog.info? e=some i) (Y:i.zero=some z)
  (R:i.size=size) (D:i.bytes=g) (Z:z.cells.size=size) (T:0<size)
  (v:Value) (n:Nat) (l:List Value) (O:a.eval s=v) (M:w.ownsRow base e size v n l)
  (f:Addr) (m c:Nat) (b:List Value) (X:a.eval x=.slice (some f) m c) (I:b.length=m*size) (J:∀j u,b[j]? = some u->w.cell? (f.add j)=some u) (p:∀u∈b,u.oneCell'=true)
  (A:n+m<=maxLen) (F:(n+m)*g<=140737488355328) (C:base<=w.heap.size)
  (B:∀d w',w'.ownsRow base e size d (n+m) (l++b)->zV w v w' d->K (a.put o.dst d) w') :
  if Region.wanted o (yielded ops a.tmps)=true then Oper.wp prog o a w K Q else E:=by
 have V:Region.wanted o (yielded ops a.tmps)=true:=by simp[Region.wanted,G]
 rw[iP_ V];obtain⟨d,w',N,q,r,_,y⟩:=run_append_own_at (P:=prog) w base t o.type e i z size g U H Y R D Z T v n l M f m c b I J p A F C;unfold Oper.wp execOp;simp only[L,resolve,invoke,builtin,Sem.run_bind,Sem.run_pure,Result.andThen_ok,List.map_toArray,List.map_cons,List.map_nil,O,X,N];exact B d w' q (zV.of r y)
theorem zf:(∀(a:Act) (d:Nat) (v:Value),a.put (some d) v={ a with tmps:=a.tmps.setIfInBounds d v })/\(∀(l:List Value) (i:Nat) (v:Value),l.toArray.setIfInBounds i v=(l.set i v).toArray)/\(∀(x y:Value) (l:List Value),(x::l).set 0 y=y::l)/\∀(x y:Value) (l:List Value) (n:Nat),(x::l).set (n+1) y=x::l.set n y:=
 ⟨λ_ _ _=>rfl,λ_ _ _=>List.setIfInBounds_toArray ..,λ_ _ _=>rfl,λ_ _ _ _=>rfl⟩
theorem tQ_ {S:World->Prop}(i d:Nat){f:Oper}(v:Value){g:Nat}{b:Array Bool}{a:Act}{w:World}(p:ops[i]? = some f)(m:f.dst=some d)(s:YieldsIf P ops S f v a)(l:S w)
  (h:wpAnyH P md ops Q S g (b.setIfInBounds i true) (a.put (some d) v) w) (r:Region.noSelect ops=true:=by kernel_rfl) (o:Region.free md ops b i=true:=by kernel_rfl) (q:(Region.ready md ops b).contains i=true:=by kernel_rfl)
  (j:∀c a w,Q (.panic c) (a.put (some d) v) w->Q (.panic c) a w:=by exact λ_ _ _ h=>h):wpAnyH P md ops Q S (g+1) b a w:=ziC p m r o q j s l h
theorem zU {S:World->Prop}(i d:Nat){f:Oper}(v:Value){g:Nat}{b:Array Bool}{a:Act}{w:World}(q:ops[i]? = some f)(o:f.dst=some d)(l:S w)
  (h:wpAnyH P md ops Q S g (b.setIfInBounds i true) (a.put (some d) v) w) (t:YieldsIf P ops S f v a:=by exact Or.inl ⟨by rfl,by intro w0 m;(try dsimp only at m);go_simp⟩) (s:Region.noSelect ops=true:=by kernel_rfl) (p:Region.free md ops b i=true:=by kernel_rfl) (r:(Region.ready md ops b).contains i=true:=by kernel_rfl)
  (j:∀c a w,Q (.panic c) (a.put (some d) v) w->Q (.panic c) a w:=by exact λ_ _ _ h=>h):wpAnyH P md ops Q S (g+1) b a w:=ziC q o s p r j t l h
theorem sK_ {S:World->Prop}(i d:Nat){f:Oper}{g:Nat}{b:Array Bool}{a:Act}{w:World}(p:ops[i]? = some f)(m:f.dst=some d)(l:S w)
  (h:wpAnyH P md ops Q S g (b.setIfInBounds i true) (a.put (some d) undef) w) (s:YieldsIf P ops S f undef a:=by exact Or.inr ⟨by rfl,rfl⟩) (r:Region.noSelect ops=true:=by kernel_rfl) (o:Region.free md ops b i=true:=by kernel_rfl) (q:(Region.ready md ops b).contains i=true:=by kernel_rfl)
  (j:∀c a w,Q (.panic c) (a.put (some d) undef) w->Q (.panic c) a w:=by exact λ_ _ _ h=>h):wpAnyH P md ops Q S (g+1) b a w:=ziC p m r o q j s l h
theorem zE {S:World->Prop}(i:Nat){o:Oper}{d:Nat}{c:Array Bool}{a:Act}{w:World}(f:ops[i]? = some o)
  (h:∀b:Act->World->Prop,Shut (∀a w,S w->(S w->wpAnyH P md ops Q S d (c.setIfInBounds i true) a w)->b a w)->if Region.wanted o (yielded ops a.tmps)=true then Oper.wp P o a w b Q else b (a.put o.dst undef) w)
  (g:Region.ready md ops c=[i]:=by kernel_rfl):wpAnyH P md ops Q S (d+1) c a w:=wpAnyH_ready g (by simp) (AllReadyH.cons f h AllReadyH.nil)
def TksOk (P:Program)(md:Region.Mode)(ops:Array Oper)(S:World->Prop):List (Nat×Nat×Value)->Array Bool->Act->Prop
 | [],_,_=>True
 | x::r,listed,a=>(∃oi,ops[x.1]? = some oi/\oi.dst=some x.2.1/\Region.free md ops listed x.1=true/\(Region.ready md ops listed).contains x.1=true/\YieldsIf P ops S oi x.2.2 a)/\TksOk P md ops S r (listed.setIfInBounds x.1 true) (a.put (some x.2.1) x.2.2)
theorem tkc_ {S:World->Prop}{i d:Nat}{v:Value}{r:List (Nat×Nat×Value)}(b:Oper)(c:ops[i]? = some b)(f:b.dst=some d)(g:Region.free md ops listed i=true)(j:(Region.ready md ops listed).contains i=true)(l:YieldsIf P ops S b v a)(m:TksOk P md ops S r (listed.setIfInBounds i true) (a.put (some d) v)):TksOk P md ops S ((i,d,v)::r) listed a:=⟨⟨b,c,f,g,j,l⟩,m⟩
theorem tkn_ {S:World->Prop}:TksOk P md ops S [] listed a:=trivial
def tkl_:List (Nat×Nat×Value)->Array Bool->Array Bool
 | [],l=>l
 | x::r,l=>tkl_ r (l.setIfInBounds x.1 true)
def tka_:List (Nat×Nat×Value)->Act->Act
 | [],a=>a
 | x::r,a=>tka_ r (a.put (some x.2.1) x.2.2)
theorem tkr_ {S:World->Prop}(m:Region.noSelect ops=true)(g:∀c a w d v,Q (.panic c) (a.put (some d) v) w->Q (.panic c) a w)(j:S w):∀(l:List (Nat×Nat×Value)) (b:Nat) (f:Array Bool) (a:Act),TksOk P md ops S l f a->wpAnyH P md ops Q S b (tkl_ l f) (tka_ l a) w->wpAnyH P md ops Q S (b+l.length) f a w
 | [],_,_,_,_,h=>h
 | (i,d,v)::r,b,f,a,⟨⟨_,h1,h2,h3,h4,h5⟩,h6⟩,h=>by
  have:=tkr_ m g j r b _ _ h6 h
  exact ziC h1 h2 m h3 h4 (λc a w=>g c a w d v) h5 j this
theorem tks_ {S:World->Prop}(k:Nat)(l:List (Nat×Nat×Value))(f:S w)(h:wpAnyH P md ops Q S fuel (tkl_ l listed) (tka_ l a) w)(m:l.length=k:=by rfl)(o:Region.noSelect ops=true:=by kernel_rfl)(b:∀c a w d v,Q (.panic c) (a.put (some d) v) w->Q (.panic c) a w:=by exact λ_ _ _ _ _ h=>h)
  (j:TksOk P md ops S l listed a:=by
   repeat (first
    | exact tkn_
    | (refine tkc_ _ (by rfl) (by rfl) (by kernel_rfl) (by kernel_rfl) (by first|exact Or.inr ⟨by rfl,rfl⟩|exact Or.inl ⟨by rfl,by intro w0 g;(try dsimp only at g);go_simp⟩) ?_;(try simp only[zf])))):wpAnyH P md ops Q S (fuel+k) listed a w:=by subst m;exact tkr_ o b f l fuel listed a j h
theorem tkf_:(∀l,tkl_ [] l=l)/\(∀x r l,tkl_ (x::r) l=tkl_ r (l.setIfInBounds x.1 true))/\(∀a,tka_ [] a=a)/\(∀x r a,tka_ (x::r) a=tka_ r (a.put (some x.2.1) x.2.2)):=⟨λ_=>rfl,λ_ _ _=>rfl,λ_=>rfl,λ_ _ _=>rfl⟩
abbrev wR_:=@wp_region_held_drew
abbrev wD_:=@wpAnyH_done
abbrev bP_:=@bodyPost_ret
abbrev rA_:=@AllReadyH.cons
abbrev rN_:=@AllReadyH.nil
abbrev rY_:=@wpAnyH_ready
theorem eO_ {f:FuncId}{fn:Func}(h:P.funcs[f]? = some fn)(n:(fn.name == "runtime.NumGoroutine")=false:=by kernel_rfl)(b:fn.body.isSome=true:=by rfl):Enters P f:=by
 obtain⟨c,d⟩:=Option.isSome_iff_exists.1 b;exact enters_of h n d
theorem sMsg':(prog.info? 90).map (·.size)=some 19:=by kernel_rfl
theorem zdW {o:Oper}
  (l:o.guard=none) (j:o.dst=none) (ty:TypeId) (x y:Operand) (q:o.op=.store ty x y) (g:Nat) (b:X_) (s:a.eval x=(P_ g 0)) (u:a.eval y=.agg b)
  (t:TypeId) (c:X_) (m:w.heap[g]? = some (.cells c t (0,0))) (p:(prog.info? ty).map (·.size)=some b.size) (r:c.size=b.size) (d:b.all (·.oneCell')=true) (f:K a (w.setRow g b)) :
  if Region.wanted o (yielded ops a.tmps)=true then Oper.wp prog o a w K Q else E:=by
 rw[iP_ (by simp[Region.wanted,l])];exact wp_store_row ty x y q g b s u t c m p r d (by rw[j];exact f)
theorem zcC:(prog.info? 90).map (·.size)=some 19:=by kernel_rfl
theorem zu6 (m:Msg)(w:World)(d:m.ki=1) :
  Calls prog 66 #[.agg #[I_ m.fr,I_ m.tt,I_ m.ki,I_ m.bau,I_ m.bnu,.slice m.bta m.btn m.btc,I_ m.hau,I_ m.hrd,.slice m.hba m.hbn m.hbc,.slice m.hpa m.hpn m.hpc,I_ m.sau,I_ m.srd,.slice m.sda m.sdn m.sdc,I_ m.cau,I_ m.crd,.slice m.cba m.cbn m.cbc,.slice m.cpa m.cpn m.cpc,.slice m.cva m.cvn m.cvc,I_ m.ro]] w λe w'=>e=.returned (.agg #[I_ m.fr,I_ m.tt,I_ 1,I_ 0,I_ 0,O_,I_ m.hau,I_ m.hrd,.slice m.hba m.hbn m.hbc,.slice m.hpa m.hpn m.hpc,I_ m.sau,I_ m.srd,.slice m.sda m.sdn m.sdc,I_ m.cau,I_ m.crd,.slice m.cba m.cbn m.cbc,.slice m.cpa m.cpn m.cpc,.slice m.cva m.cvn m.cvc,I_ m.ro])/\B_ w w':=by
 rw[d];refine kA_ ?A0 ?_;exact #[I_ m.fr,I_ m.tt,I_ 1,I_ 0,I_ 0,O_,I_ m.hau,I_ m.hrd,.slice m.hba m.hbn m.hbc,.slice m.hpa m.hpn m.hpc,I_ m.sau,I_ m.srd,.slice m.sda m.sdn m.sdc,I_ m.cau,I_ m.crd,.slice m.cba m.cbn m.cbc,.slice m.cpa m.cpn m.cpc,.slice m.cva m.cvn m.cvc,I_ m.ro];refine kA_ ?B0 ?_;exact #[I_ 0,I_ 0,I_ 0,I_ 0,I_ 0,O_,I_ 0,I_ 0,O_,O_,I_ 0,I_ 0,O_,I_ 0,I_ 0,O_,O_,O_,I_ 0];have f:=hX_ w (.cells ?A0 90) (.cells ?B0 90);have b:=hY_ w (.cells ?A0 90) (.cells ?B0 90);have c:B_ w ((w.alloc (.cells ?A0 90)).alloc (.cells ?B0 90)):=((bR_ _ _).alloc (nR_ _) _).alloc (by simp) _;go_in;go_wp2_with (first|refine wL_ rfl 90 _ rfl w.heap.size rfl 90 ?A0 (0,0) _ f underlying90 rfl zcC ?_|refine wS_ rfl 90 _ _ rfl (w.heap.size+1) ?A0 rfl rfl 90 ?B0 b zcC rfl (by simp[Value.oneCell']) ?_)
 exact bodyPost_ret (v:=.agg ?A0) (rC_ (fn:=Tryz.f66) (p:=2) (ty:=90) rfl _ _ (w.heap.size+1) 90 _ (0,0) _ rfl (sH_ _ _ _ _ _ _ b) underlying90 rfl zcC) rfl ⟨rfl,(Upd.setRow b).below c c.size (by simp)⟩
theorem zu7 (m:Msg)(w:World)(d:m.ki=2) :
  Calls prog 66 #[.agg #[I_ m.fr,I_ m.tt,I_ m.ki,I_ m.bau,I_ m.bnu,.slice m.bta m.btn m.btc,I_ m.hau,I_ m.hrd,.slice m.hba m.hbn m.hbc,.slice m.hpa m.hpn m.hpc,I_ m.sau,I_ m.srd,.slice m.sda m.sdn m.sdc,I_ m.cau,I_ m.crd,.slice m.cba m.cbn m.cbc,.slice m.cpa m.cpn m.cpc,.slice m.cva m.cvn m.cvc,I_ m.ro]] w λe w'=>e=.returned (.agg #[I_ m.fr,I_ m.tt,I_ 2,I_ m.bau,I_ m.bnu,.slice m.bta m.btn m.btc,I_ 0,I_ 0,O_,O_,I_ m.sau,I_ m.srd,.slice m.sda m.sdn m.sdc,I_ m.cau,I_ m.crd,.slice m.cba m.cbn m.cbc,.slice m.cpa m.cpn m.cpc,.slice m.cva m.cvn m.cvc,I_ m.ro])/\B_ w w':=by
 rw[d];refine kA_ ?A0 ?_;exact #[I_ m.fr,I_ m.tt,I_ 2,I_ m.bau,I_ m.bnu,.slice m.bta m.btn m.btc,I_ 0,I_ 0,O_,O_,I_ m.sau,I_ m.srd,.slice m.sda m.sdn m.sdc,I_ m.cau,I_ m.crd,.slice m.cba m.cbn m.cbc,.slice m.cpa m.cpn m.cpc,.slice m.cva m.cvn m.cvc,I_ m.ro];refine kA_ ?B0 ?_;exact #[I_ 0,I_ 0,I_ 0,I_ 0,I_ 0,O_,I_ 0,I_ 0,O_,O_,I_ 0,I_ 0,O_,I_ 0,I_ 0,O_,O_,O_,I_ 0];have f:=hX_ w (.cells ?A0 90) (.cells ?B0 90);have b:=hY_ w (.cells ?A0 90) (.cells ?B0 90);have c:B_ w ((w.alloc (.cells ?A0 90)).alloc (.cells ?B0 90)):=((bR_ _ _).alloc (nR_ _) _).alloc (by simp) _;go_in;go_wp2_with (first|refine wL_ rfl 90 _ rfl w.heap.size rfl 90 ?A0 (0,0) _ f underlying90 rfl zcC ?_|refine wS_ rfl 90 _ _ rfl (w.heap.size+1) ?A0 rfl rfl 90 ?B0 b zcC rfl (by simp[Value.oneCell']) ?_)
 exact bodyPost_ret (v:=.agg ?A0) (rC_ (fn:=Tryz.f66) (p:=2) (ty:=90) rfl _ _ (w.heap.size+1) 90 _ (0,0) _ rfl (sH_ _ _ _ _ _ _ b) underlying90 rfl zcC) rfl ⟨rfl,(Upd.setRow b).below c c.size (by simp)⟩
theorem zu8 (m:Msg)(w:World)(d:m.ki=3) :
  Calls prog 66 #[.agg #[I_ m.fr,I_ m.tt,I_ m.ki,I_ m.bau,I_ m.bnu,.slice m.bta m.btn m.btc,I_ m.hau,I_ m.hrd,.slice m.hba m.hbn m.hbc,.slice m.hpa m.hpn m.hpc,I_ m.sau,I_ m.srd,.slice m.sda m.sdn m.sdc,I_ m.cau,I_ m.crd,.slice m.cba m.cbn m.cbc,.slice m.cpa m.cpn m.cpc,.slice m.cva m.cvn m.cvc,I_ m.ro]] w λe w'=>e=.returned (.agg #[I_ m.fr,I_ m.tt,I_ 3,I_ m.bau,I_ m.bnu,.slice m.bta m.btn m.btc,I_ m.hau,I_ m.hrd,.slice m.hba m.hbn m.hbc,.slice m.hpa m.hpn m.hpc,I_ 0,I_ 0,O_,I_ m.cau,I_ m.crd,.slice m.cba m.cbn m.cbc,.slice m.cpa m.cpn m.cpc,.slice m.cva m.cvn m.cvc,I_ m.ro])/\B_ w w':=by
 rw[d];refine kA_ ?A0 ?_;exact #[I_ m.fr,I_ m.tt,I_ 3,I_ m.bau,I_ m.bnu,.slice m.bta m.btn m.btc,I_ m.hau,I_ m.hrd,.slice m.hba m.hbn m.hbc,.slice m.hpa m.hpn m.hpc,I_ 0,I_ 0,O_,I_ m.cau,I_ m.crd,.slice m.cba m.cbn m.cbc,.slice m.cpa m.cpn m.cpc,.slice m.cva m.cvn m.cvc,I_ m.ro];refine kA_ ?B0 ?_;exact #[I_ 0,I_ 0,I_ 0,I_ 0,I_ 0,O_,I_ 0,I_ 0,O_,O_,I_ 0,I_ 0,O_,I_ 0,I_ 0,O_,O_,O_,I_ 0];have f:=hX_ w (.cells ?A0 90) (.cells ?B0 90);have b:=hY_ w (.cells ?A0 90) (.cells ?B0 90);have c:B_ w ((w.alloc (.cells ?A0 90)).alloc (.cells ?B0 90)):=((bR_ _ _).alloc (nR_ _) _).alloc (by simp) _;go_in;go_wp2_with (first|refine wL_ rfl 90 _ rfl w.heap.size rfl 90 ?A0 (0,0) _ f underlying90 rfl zcC ?_|refine wS_ rfl 90 _ _ rfl (w.heap.size+1) ?A0 rfl rfl 90 ?B0 b zcC rfl (by simp[Value.oneCell']) ?_)
 exact bodyPost_ret (v:=.agg ?A0) (rC_ (fn:=Tryz.f66) (p:=2) (ty:=90) rfl _ _ (w.heap.size+1) 90 _ (0,0) _ rfl (sH_ _ _ _ _ _ _ b) underlying90 rfl zcC) rfl ⟨rfl,(Upd.setRow b).below c c.size (by simp)⟩
theorem zu9 (m:Msg)(w:World)(d:m.ki=4) :
  Calls prog 66 #[.agg #[I_ m.fr,I_ m.tt,I_ m.ki,I_ m.bau,I_ m.bnu,.slice m.bta m.btn m.btc,I_ m.hau,I_ m.hrd,.slice m.hba m.hbn m.hbc,.slice m.hpa m.hpn m.hpc,I_ m.sau,I_ m.srd,.slice m.sda m.sdn m.sdc,I_ m.cau,I_ m.crd,.slice m.cba m.cbn m.cbc,.slice m.cpa m.cpn m.cpc,.slice m.cva m.cvn m.cvc,I_ m.ro]] w λe w'=>e=.returned (.agg #[I_ m.fr,I_ m.tt,I_ 4,I_ m.bau,I_ m.bnu,.slice m.bta m.btn m.btc,I_ m.hau,I_ m.hrd,.slice m.hba m.hbn m.hbc,.slice m.hpa m.hpn m.hpc,I_ m.sau,I_ m.srd,.slice m.sda m.sdn m.sdc,I_ 0,I_ 0,O_,O_,O_,I_ m.ro])/\B_ w w':=by
 rw[d];refine kA_ ?A0 ?_;exact #[I_ m.fr,I_ m.tt,I_ 4,I_ m.bau,I_ m.bnu,.slice m.bta m.btn m.btc,I_ m.hau,I_ m.hrd,.slice m.hba m.hbn m.hbc,.slice m.hpa m.hpn m.hpc,I_ m.sau,I_ m.srd,.slice m.sda m.sdn m.sdc,I_ 0,I_ 0,O_,O_,O_,I_ m.ro];refine kA_ ?B0 ?_;exact #[I_ 0,I_ 0,I_ 0,I_ 0,I_ 0,O_,I_ 0,I_ 0,O_,O_,I_ 0,I_ 0,O_,I_ 0,I_ 0,O_,O_,O_,I_ 0];have f:=hX_ w (.cells ?A0 90) (.cells ?B0 90);have b:=hY_ w (.cells ?A0 90) (.cells ?B0 90);have c:B_ w ((w.alloc (.cells ?A0 90)).alloc (.cells ?B0 90)):=((bR_ _ _).alloc (nR_ _) _).alloc (by simp) _;go_in;go_wp2_with (first|refine wL_ rfl 90 _ rfl w.heap.size rfl 90 ?A0 (0,0) _ f underlying90 rfl zcC ?_|refine wS_ rfl 90 _ _ rfl (w.heap.size+1) ?A0 rfl rfl 90 ?B0 b zcC rfl (by simp[Value.oneCell']) ?_)
 exact bodyPost_ret (v:=.agg ?A0) (rC_ (fn:=Tryz.f66) (p:=2) (ty:=90) rfl _ _ (w.heap.size+1) 90 _ (0,0) _ rfl (sH_ _ _ _ _ _ _ b) underlying90 rfl zcC) rfl ⟨rfl,(Upd.setRow b).below c c.size (by simp)⟩
theorem zva (m:Msg)(w:World)(d:m.ki=5) :
  Calls prog 66 #[.agg #[I_ m.fr,I_ m.tt,I_ m.ki,I_ m.bau,I_ m.bnu,.slice m.bta m.btn m.btc,I_ m.hau,I_ m.hrd,.slice m.hba m.hbn m.hbc,.slice m.hpa m.hpn m.hpc,I_ m.sau,I_ m.srd,.slice m.sda m.sdn m.sdc,I_ m.cau,I_ m.crd,.slice m.cba m.cbn m.cbc,.slice m.cpa m.cpn m.cpc,.slice m.cva m.cvn m.cvc,I_ m.ro]] w λe w'=>e=.returned (.agg #[I_ m.fr,I_ m.tt,I_ 5,I_ m.bau,I_ m.bnu,.slice m.bta m.btn m.btc,I_ m.hau,I_ m.hrd,.slice m.hba m.hbn m.hbc,.slice m.hpa m.hpn m.hpc,I_ m.sau,I_ m.srd,.slice m.sda m.sdn m.sdc,I_ m.cau,I_ m.crd,.slice m.cba m.cbn m.cbc,.slice m.cpa m.cpn m.cpc,.slice m.cva m.cvn m.cvc,I_ 0])/\B_ w w':=by
 rw[d];refine kA_ ?A0 ?_;exact #[I_ m.fr,I_ m.tt,I_ 5,I_ m.bau,I_ m.bnu,.slice m.bta m.btn m.btc,I_ m.hau,I_ m.hrd,.slice m.hba m.hbn m.hbc,.slice m.hpa m.hpn m.hpc,I_ m.sau,I_ m.srd,.slice m.sda m.sdn m.sdc,I_ m.cau,I_ m.crd,.slice m.cba m.cbn m.cbc,.slice m.cpa m.cpn m.cpc,.slice m.cva m.cvn m.cvc,I_ 0];refine kA_ ?B0 ?_;exact #[I_ 0,I_ 0,I_ 0,I_ 0,I_ 0,O_,I_ 0,I_ 0,O_,O_,I_ 0,I_ 0,O_,I_ 0,I_ 0,O_,O_,O_,I_ 0];have f:=hX_ w (.cells ?A0 90) (.cells ?B0 90);have b:=hY_ w (.cells ?A0 90) (.cells ?B0 90);have c:B_ w ((w.alloc (.cells ?A0 90)).alloc (.cells ?B0 90)):=((bR_ _ _).alloc (nR_ _) _).alloc (by simp) _;go_in;go_wp2_with (first|refine wL_ rfl 90 _ rfl w.heap.size rfl 90 ?A0 (0,0) _ f underlying90 rfl zcC ?_|refine wS_ rfl 90 _ _ rfl (w.heap.size+1) ?A0 rfl rfl 90 ?B0 b zcC rfl (by simp[Value.oneCell']) ?_)
 exact bodyPost_ret (v:=.agg ?A0) (rC_ (fn:=Tryz.f66) (p:=2) (ty:=90) rfl _ _ (w.heap.size+1) 90 _ (0,0) _ rfl (sH_ _ _ _ _ _ _ b) underlying90 rfl zcC) rfl ⟨rfl,(Upd.setRow b).below c c.size (by simp)⟩
theorem zeq (n:Int)(r:Bool)(w:World)(h:r=decide (0<=n/\n<4)):Calls prog 63 #[I_ n] w λe w'=>e=.returned (.bool r)/\w=w':=by
 by_cases h1:0<=n
 .by_cases h2:n<4;obtain rfl:r=true:=by simp[h,h1,h2]
  rotate_left
  obtain rfl:r=false:=by simp[h,h2]
  rotate_left
  all_goals
   clear h;go_in
   go_wp2
   go_ret;exact⟨rfl,rfl⟩
 obtain rfl:r=false:=by simp[h,h1]
 clear h;go_in
 go_wp2
 go_ret;exact⟨rfl,rfl⟩
theorem zdX (n:Int)(r:Bool)(w:World)(h:r=decide (1<=n/\n<=1048576)):Calls prog 115 #[I_ n] w λe w'=>e=.returned (.bool r)/\w=w':=by
 by_cases h1:1<=n
 .by_cases h2:n<=1048576;obtain rfl:r=true:=by simp[h,h1,h2]
  rotate_left
  obtain rfl:r=false:=by simp[h,h2]
  rotate_left
  all_goals
   clear h;go_in
   go_wp2
   go_ret;exact⟨rfl,rfl⟩
 obtain rfl:r=false:=by simp[h,h1]
 clear h;go_in
 go_wp2
 go_ret;exact⟨rfl,rfl⟩
theorem zaS (n:Int)(w:World)(h:0<=n/\n<4):Calls prog 63 #[I_ n] w λe w'=>e=.returned (.bool true)/\w=w':=zeq n true w (by simp[h])
theorem zaD (n:Int)(w:World)(h:¬(0<=n/\n<4)):Calls prog 63 #[I_ n] w λe w'=>e=.returned (.bool false)/\w=w':=zeq n false w (by rw[dF_ h])
theorem zbB (n:Int)(w:World)(h:1<=n/\n<=1048576):Calls prog 115 #[I_ n] w λe w'=>e=.returned (.bool true)/\w=w':=zdX n true w (by simp[h])
theorem zbj (n:Int)(w:World)(h:¬(1<=n/\n<=1048576)):Calls prog 115 #[I_ n] w λe w'=>e=.returned (.bool false)/\w=w':=zdX n false w (by rw[dF_ h])
def zab (m:Msg):Msg:=if m.ki=1 then { m with bau:=0,bnu:=0,bta:=none,btn:=0,btc:=0 } else if m.ki=2 then { m with hau:=0,hrd:=0,hba:=none,hbn:=0,hbc:=0,hpa:=none,hpn:=0,hpc:=0 } else if m.ki=3 then { m with sau:=0,srd:=0,sda:=none,sdn:=0,sdc:=0 } else if m.ki=4 then { m with cau:=0,crd:=0,cba:=none,cbn:=0,cbc:=0,cpa:=none,cpn:=0,cpc:=0,cva:=none,cvn:=0,cvc:=0 } else { m with ro:=0 }
theorem zpM (m:Msg)(w:World)(c:1<=m.ki/\m.ki<=5) :
  Calls prog 66 #[.agg #[I_ m.fr,I_ m.tt,I_ m.ki,I_ m.bau,I_ m.bnu,.slice m.bta m.btn m.btc,I_ m.hau,I_ m.hrd,.slice m.hba m.hbn m.hbc,.slice m.hpa m.hpn m.hpc,I_ m.sau,I_ m.srd,.slice m.sda m.sdn m.sdc,I_ m.cau,I_ m.crd,.slice m.cba m.cbn m.cbc,.slice m.cpa m.cpn m.cpc,.slice m.cva m.cvn m.cvc,I_ m.ro]] w λe w'=>e=.returned (.agg #[I_ (zab m).fr,I_ (zab m).tt,I_ (zab m).ki,I_ (zab m).bau,I_ (zab m).bnu,.slice (zab m).bta (zab m).btn (zab m).btc,I_ (zab m).hau,I_ (zab m).hrd,.slice (zab m).hba (zab m).hbn (zab m).hbc,.slice (zab m).hpa (zab m).hpn (zab m).hpc,I_ (zab m).sau,I_ (zab m).srd,.slice (zab m).sda (zab m).sdn (zab m).sdc,I_ (zab m).cau,I_ (zab m).crd,.slice (zab m).cba (zab m).cbn (zab m).cbc,.slice (zab m).cpa (zab m).cpn (zab m).cpc,.slice (zab m).cva (zab m).cvn (zab m).cvc,I_ (zab m).ro])/\B_ w w':=by
 have h:m.ki=1\/m.ki=2\/m.ki=3\/m.ki=4\/m.ki=5:=by omega
 rcases h with h|h|h|h|h;refine(zu6 m w h).mono ?_
 rotate_left
 refine(zu7 m w h).mono ?_
 rotate_left
 refine(zu8 m w h).mono ?_
 rotate_left
 refine(zu9 m w h).mono ?_
 rotate_left
 refine(zva m w h).mono ?_
 rotate_left
 all_goals
  rintro e w'⟨rfl,b⟩;exact⟨by simp[zab,h],b⟩
def zP (m:Msg)(e:Int):Int:=if ¬(0<=m.fr/\m.fr<4)\/¬(0<=m.tt/\m.tt<4)then 2 else if e≠0 then e else if zaq (zab m)then 0 else 4
theorem zvb (m:Msg)(c:Int)(w:World)(r:c=0->1<=m.ki/\m.ki<=5)
  (o:∀f,B_ w f->Calls prog 64 #[.agg #[I_ m.fr,I_ m.tt,I_ m.ki,I_ m.bau,I_ m.bnu,.slice m.bta m.btn m.btc,I_ m.hau,I_ m.hrd,.slice m.hba m.hbn m.hbc,.slice m.hpa m.hpn m.hpc,I_ m.sau,I_ m.srd,.slice m.sda m.sdn m.sdc,I_ m.cau,I_ m.crd,.slice m.cba m.cbn m.cbc,.slice m.cpa m.cpn m.cpc,.slice m.cva m.cvn m.cvc,I_ m.ro]] f λe w'=>e=.returned (I_ c)/\B_ f w') :
  Calls prog 42 #[.agg #[I_ m.fr,I_ m.tt,I_ m.ki,I_ m.bau,I_ m.bnu,.slice m.bta m.btn m.btc,I_ m.hau,I_ m.hrd,.slice m.hba m.hbn m.hbc,.slice m.hpa m.hpn m.hpc,I_ m.sau,I_ m.srd,.slice m.sda m.sdn m.sdc,I_ m.cau,I_ m.crd,.slice m.cba m.cbn m.cbc,.slice m.cpa m.cpn m.cpc,.slice m.cva m.cvn m.cvc,I_ m.ro]] w λe w'=>e=.returned (I_ (zP m c))/\B_ w w':=by
 refine kA_ ?A0 ?_;exact #[I_ m.fr,I_ m.tt,I_ m.ki,I_ m.bau,I_ m.bnu,.slice m.bta m.btn m.btc,I_ m.hau,I_ m.hrd,.slice m.hba m.hbn m.hbc,.slice m.hpa m.hpn m.hpc,I_ m.sau,I_ m.srd,.slice m.sda m.sdn m.sdc,I_ m.cau,I_ m.crd,.slice m.cba m.cbn m.cbc,.slice m.cpa m.cpn m.cpc,.slice m.cva m.cvn m.cvc,I_ m.ro];have p:=hN_ w (.cells ?A0 90);have g:=zC w (.cells ?A0 90);by_cases hf:0<=m.fr/\m.fr<4
 .by_cases ht:0<=m.tt/\m.tt<4
  .by_cases he:c=0;obtain⟨s,t⟩:=r he;subst he
   rotate_left
   have b:Hid (zP m c=c):=by show _=_;simp[zP,hf,ht,he]
   rotate_left
   all_goals
    go_in;go_wp2_with (first|(go_at_call 63;first|(refine(zaS _ _ (by omega)).mono ?_;rintro e w'⟨rfl,rfl⟩)|(refine(zaD _ _ (by omega)).mono ?_;rintro e w'⟨rfl,rfl⟩))|refine wL_ rfl 90 _ rfl w.heap.size rfl 90 ?A0 (0,0) _ p underlying90 rfl zcC ?_)
    refine(o _ g).mono ?_;rintro e f⟨rfl,d⟩
   .have u:=zbK d;replace d:=zS d;go_wp2_with (first|refine wL_ rfl 90 _ rfl w.heap.size rfl 90 ?A0 (0,0) _ u underlying90 rfl zcC ?_)
    refine(zpM m f ⟨s,t⟩).mono ?_;rintro e w2⟨rfl,q⟩;have j:=zm d q;by_cases hm:zaq (zab m);have b:Hid (zP m 0=0):=by show _=_;simp[zP,hf,ht,hm]
    go_wp2_with fail
    refine(zjE (zab m) true w2 hm.symm).mono ?_
    rotate_left
    have b:Hid (zP m 0=4):=by show _=_;simp[zP,hf,ht,hm]
    go_wp2_with fail
    refine(zjE (zab m) false w2 (by simp at hm;exact hm.symm)).mono ?_
    rotate_left
    all_goals
     rintro e y⟨rfl,l⟩;go_wp2_with fail
     go_ret;exact⟨zt b.out.symm,j.trans (l.mono j.size)⟩
   replace d:=zS d;go_wp2_with fail
   go_ret;exact⟨zt b.out.symm,d⟩
  have b:Hid (zP m c=2):=by show _=_;simp[zP,ht]
  go_in;go_wp2_with (go_at_call 63;first|(refine(zaS _ _ (by omega)).mono ?_;rintro e w'⟨rfl,rfl⟩)|(refine(zaD _ _ (by omega)).mono ?_;rintro e w'⟨rfl,rfl⟩))
  go_ret;exact⟨zt b.out.symm,g⟩
 have b:Hid (zP m c=2):=by show _=_;simp[zP,hf]
 go_in;go_wp2_with (go_at_call 63;first|(refine(zaS _ _ (by omega)).mono ?_;rintro e w'⟨rfl,rfl⟩)|(refine(zaD _ _ (by omega)).mono ?_;rintro e w'⟨rfl,rfl⟩))
 go_ret;exact⟨zt b.out.symm,g⟩
theorem zs9 {α:Type}(l:List α)(p:α->Bool)(d:α)(k:Nat)(b:k<l.length)(h:p (l.getD k d)=false):l.all p=false:=by
 rw[List.all_eq_false];refine⟨l[k],gM_ b,?_⟩;rw[List.getD,List.getElem?_eq_getElem b]at h
 simpa using h
theorem zvc {α:Type}(l:List α)(p:α->Bool)(d:α)(h:∀j,j<l.length->p (l.getD j d)=true):l.all p=true:=by
 rw[List.all_eq_true];intro x c;obtain⟨j,b,rfl⟩:=List.getElem_of_mem c;have:=h j b
 rwa [List.getD,List.getElem?_eq_getElem b]at this
def zbM (s:ByteArray):Bool:=decide (1<=s.size/\s.size<=20)
def zbk (au nu:Int)(ss:Z_):Int:=if ¬(0<=au/\au<4)\/¬(1<=nu/\nu<=1048576)then 2 else if ss.length<1\/4<ss.length then 1 else if ss.all zbM then 0 else 1
end Go.Proofs.YtpnpikpmdfipfaaGreatDoor
