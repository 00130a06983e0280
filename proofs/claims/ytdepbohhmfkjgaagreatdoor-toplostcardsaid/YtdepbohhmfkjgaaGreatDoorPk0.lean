import Derived.Test.YtdepbohhmfkjgaaGreatDoorChecked
import Derived.WalkSpells
import Derived.WalkLawsBesides
import Derived.Deep.DeepAppendRoom
import Derived.ProofKit
import Derived.OpenShut
import Derived.Deep.Strs
set_option maxRecDepth 100000
set_option maxHeartbeats 4000000
namespace Go.Proofs.YtdepbohhmfkjgaaGreatDoor
open Go.RowKit Tryz
abbrev C_ (w:World)(b o:Nat)(v:Value):Prop:=w.cell? ⟨b,o,none⟩=some v
abbrev B_ (w v:World):Prop:=Below w.heap.size w v
abbrev R_ (w:World)(b:Nat)(c:Array Value)(t:TypeId):Prop:=w.heap[b]? = some (.cells c t (0,0))
abbrev I_ (x:Int):Value:=.int .i64 x
abbrev O_:Value:=.slice none 0 0
abbrev P_ (b o:Nat):Value:=.pointer (some ⟨b,o,none⟩)
theorem K_ {A:Type}{p:Prop}(_:A)(h:p):p:=h
theorem kW_ {p:Prop}(_:World)(h:p):p:=h
theorem kV_ {p:Prop}(_:Value)(h:p):p:=h
theorem kO_ {p:Prop}(_:Obj)(h:p):p:=h
theorem kA_ {p:Prop}(_:Array Value)(h:p):p:=h
abbrev mz_:Array Value:=#[.int .i64 0,.int .i64 0,.int .i64 0,.int .i64 0,.int .i64 0,.slice none 0 0,.int .i64 0,.int .i64 0,.slice none 0 0,.slice none 0 0,.int .i64 0,.int .i64 0,.slice none 0 0,.int .i64 0,.int .i64 0,.slice none 0 0,.slice none 0 0,.slice none 0 0,.int .i64 0]
theorem zp {k:IntKind}{a b:Int}(h:a=b):Ending.returned (.int k a)=.returned (.int k b):=by rw[h]
theorem zS {a b:Bool}(h:a=b):Ending.returned (.bool a)=.returned (.bool b):=by rw[h]
def I64 (x:Int):Prop:=-9223372036854775808≤x∧x≤9223372036854775807
abbrev nR_:=@Nat.le_refl
abbrev nZ_:=@Nat.zero_le
abbrev nL_:=@Nat.lt_of_lt_of_le
abbrev nT_:=@Nat.le_trans
abbrev gM_:=@List.getElem_mem
abbrev tS_:=@List.take_succ_eq_append_getElem
abbrev sI_:=@Array.getElem?_setIfInBounds
abbrev eN_:=@List.eq_nil_of_length_eq_zero
abbrev tL_:=@List.take_of_length_le
abbrev lT9_:=@List.length_take
abbrev lP_:=@List.length_append
abbrev dF_:=@decide_eq_false
abbrev dT_:=@decide_eq_true
abbrev bR_:=@Below.refl
variable {w w':World}{n B cap base:Nat}{sa:Option Addr}{bs:List Int}{xs:List Value}
structure Upd (b:Nat)(o:Obj)(w w':World):Prop where
 os:w'.os=w.os
 tape:w'.tape=w.tape
 output:w'.output=w.output
 size:w.heap.size≤w'.heap.size
 block:∀ k,k<w.heap.size→k≠b→w'.heap[k]? = w.heap[k]?
 here:w'.heap[b]? = some o
theorem ze {b:Nat}{o:Obj}(h:w.heap[b]? = some o):b<w.heap.size:=by
 rcases Nat.lt_or_ge b w.heap.size with g|g
 ·exact g
 ·rw[Array.getElem?_eq_none g] at h;cases h
theorem Upd.refl {b:Nat}{o:Obj}(h:w.heap[b]? = some o):Upd b o w w:=⟨rfl,rfl,rfl,nR_ _,fun _ _ _=>rfl,h⟩
theorem Upd.drewN {b:Nat}{o:Obj}(h:Upd b o w w')(n:Nat):Upd b o w (w'.drewN n):=⟨h.os,h.tape,h.output,h.size,h.block,h.here⟩
theorem Upd.alloc {b:Nat}{o:Obj}(h:Upd b o w w')(x:Obj):Upd b o w (w'.alloc x):=by
 have c:=ze h.here;refine ⟨h.os,h.tape,h.output,?_,fun k d f=>?_,?_⟩
 ·simp;have:=h.size;omega
 ·have:=h.size;rw[Below.heap_alloc _ _ _ (by omega)];exact h.block k d f
 ·rw[Below.heap_alloc _ _ _ c];exact h.here
theorem Upd.setCell {b:Nat}{cs:Array Value}{t:TypeId}(h:Upd b (.cells cs t (0,0)) w w')(i:Nat)(v:Value) :
  Upd b (.cells (cs.setIfInBounds i v) t (0,0)) w (w'.setCell ⟨b,i,none⟩ v):=by
 refine ⟨h.os,h.tape,h.output,?_,fun k d c=>?_,?_⟩
 ·simp;exact h.size
 ·rw[Below.heap_setCell _ _ _ _ c];exact h.block k d c
 ·exact heap_setCell_same w' b i cs t v h.here
theorem Upd.below {b:Nat}{o:Obj}{a:World}(k:Upd b o w w')(h:Below B a w)(c:B≤w.heap.size)(d:B≤b):Below B a w':=
 h.trans ⟨k.os,k.tape,k.output,k.size,fun i f=>k.block i (by omega) (by omega)⟩
theorem zb8 (w:World)(o:Obj)(n:Nat)(h:n=w.heap.size):(w.alloc o).heap[n]? = some o:=by subst h;exact heap_alloc_new w o
theorem zaN (b o j:Nat):(⟨b,o,none⟩:Addr).add j=⟨b,o+j,none⟩:=by unfold Addr.add;split<;>simp_all
def zaV (w:World)(sa:Option Addr)(bs:List Int):Prop:=bs=[]∨∃ sb so,sa=some ⟨sb,so,none⟩∧∀ j,j<bs.length→C_ w sb (so+j) (.int .u8 (bs.getD j 0))
theorem zaV.below (h:zaV w sa bs)(f:Below B w w')(d:∀ b c,sa=some ⟨b,c,none⟩→0<bs.length→b<B):zaV w' sa bs:=by
 rcases h with h|⟨b,c,rfl,h⟩
 ·exact .inl h
 ·exact .inr ⟨b,c,rfl,fun j g=>(f.cell (p:=⟨b,c+j,none⟩) (d b c rfl (by omega))).trans (h j g)⟩
theorem zaV.lt {d f:Nat}(h:zaV w (some ⟨d,f,none⟩) bs)(c:0<bs.length):d<w.heap.size:=by
 rcases h with h|⟨b,o,e,h⟩
 ·subst h;simp at c
 ·simp at e;obtain ⟨rfl,rfl⟩:=e;exact block_lt_of_cell (h 0 c)
theorem zaV.below' (h:zaV w sa bs)(b:B_ w w'):zaV w' sa bs:=
 h.below b fun d f e c=>by subst e;exact h.lt c
theorem zaV.cut {c d:Nat}(h:zaV w (some ⟨c,d,none⟩) bs)(i n:Nat):zaV w (some ⟨c,d+i,none⟩) ((bs.drop i).take n):=by
 rcases h with h|⟨b,o,e,h⟩
 ·subst h;simp[zaV]
 ·simp at e;obtain ⟨rfl,rfl⟩:=e
  refine .inr ⟨c,d+i,rfl,fun j g=>?_⟩;have f:j<n∧i+j<bs.length:=by simp at g;omega
  rw[Nat.add_assoc,h (i+j) f.2];simp[f.1]
theorem Upd.setRow {b:Nat}{cs c:Array Value}{t:TypeId}(h:w.heap[b]? = some (.cells c t (0,0))):Upd b (.cells cs t (0,0)) w (w.setRow b cs):=
 ⟨rfl,rfl,rfl,by simp,fun k _ d=>setRow_other w b k cs d,setRow_heap w b c cs t (0,0) h⟩
theorem z8 (W:World)(l:List Value)(t:TypeId):∀ j u,l[j]? = some u→(W.alloc (.cells l.toArray t)).cell? ((⟨W.heap.size,0,none⟩:Addr).add j)=some u:=by
 intro j u b;rw[zaN,Nat.zero_add,World.cell?_alloc_at _ _ _ _ rfl]
 simpa using b
theorem zcU (bs:List Int):∀ u∈bs.map (Value.int .u8),u.oneCell'=true:=by
 intro u b;simp at b;obtain ⟨x,_,rfl⟩:=b;rfl
def ub (bs:List Int):List Value:=bs.map (Value.int .u8)
structure zf (w:World)(sa:Option Addr)(cap:Nat)(bs:List Int):Prop where
 le:bs.length≤cap
 max:cap≤maxLen
 some:cap=0∨∃ sb so,sa=some ⟨sb,so,none⟩
 nil:sa=none→cap=0
 bytes:zaV w sa bs
theorem zf.below (h:zf w sa cap bs)(b:B_ w w'):zf w' sa cap bs:=
 ⟨h.le,h.max,h.some,h.nil,h.bytes.below' b⟩
theorem zbY (bs:List Int):(ub bs).length=bs.length:=by simp[ub]
theorem zcC {g:Nat}(h:w.ownsRow base 5 1 (.slice (some ⟨g,0,none⟩) n cap) n (ub bs)):n=bs.length∧zf w (some ⟨g,0,none⟩) cap bs:=by
 have f:n=bs.length:=by have:=h.1;rw[zbY] at this;omega
 refine ⟨f,?_⟩;have d:=fun j b=>World.ownsRow.cellAt h j b;rcases h.2 with ⟨e,_⟩|⟨m,c',l,e,_,_,o,c,_,_⟩
 ·cases e
 ·cases e;refine ⟨by omega,c,.inr ⟨g,0,rfl⟩,(fun e=>by cases e),.inr ⟨g,0,rfl,fun j b=>?_⟩⟩;rw[Nat.zero_add,d j (by omega)];simp[ub,b]
theorem ownsRow_base' {b b':Nat}{e:TypeId}{size:Nat}{v:Value}(h:w.ownsRow b e size v n xs)(m:b'≤b):w.ownsRow b' e size v n xs:=by
 obtain ⟨j,c⟩:=h;refine ⟨j,?_⟩;rcases c with c|⟨g,d,f,l,o,r⟩
 ·exact .inl c
 ·exact .inr ⟨g,d,f,l,by omega,r⟩
theorem zfS (h:w.grownBy w' none):B_ w w':=⟨h.os,h.tape,h.output,h.size,fun k b=>h.block k b (by simp)⟩
theorem zdI:(prog.info? 5).map (fun i=>(i.zero,i.size,i.bytes))=some (some (.int .u8 0),1,1):=by kernel_rfl
variable {w2 w1:World}{k j:Nat}
theorem zgt (w:World)(cs:Array Value)(t:TypeId)(j:Nat)(v:Value)(h:cs[j]? = some v):(w.alloc (.cells cs t)).cell? ⟨w.heap.size,j,none⟩=some v:=by
 rw[World.cell?_alloc_at _ _ _ _ rfl];exact h
theorem zV {o:Obj}(b:Below (w.alloc o).heap.size (w.alloc o) w1):B_ w w1:=
 ((bR_ _ _).alloc (nR_ _) _).trans (b.mono (by simp))
theorem zbt (k:Below B w.drew w1):Below B w w1:=⟨k.os,k.tape,k.output,k.size,k.block⟩
theorem zbN {cs:Array Value}{t:TypeId}(b:Below (w.alloc (.cells cs t)).heap.size (w.alloc (.cells cs t)) w1):w1.heap[w.heap.size]? = some (.cells cs t (0,0)):=
 (b.block _ (by simp)).trans (heap_alloc_new w _)
theorem zI (w:World)(o:Obj):(w.alloc o).heap.size=w.heap.size+1:=by simp
theorem zb {b:Nat}{cs:Array Value}{t:TypeId}(h:w.heap[b]? = some (.cells cs t (0,0)))(j:Nat)(v:Value)(c:cs[j]? = some v):C_ w b j v:=by
 rw[cell_of_row w b j _ _ _ h];exact c
theorem zd {b:Nat}{cs:Array Value}{t:TypeId}(h:w.heap[b]? = some (.cells cs t (0,0)))(j:Nat):w.frozen? ⟨b,j,none⟩=false:=frozen_of_row w b j _ _ h
theorem zbf (w:World)(Z C:Array Value)(t:TypeId):B_ w ((w.alloc (.cells Z t)).setRow w.heap.size C):=
 (Upd.setRow (heap_alloc_new w (.cells Z t))).below ((bR_ _ _).alloc (nR_ _) _) (by simp) (nR_ _)
theorem zP {o x:Obj}(h:w.heap[k]? = some x):(w.alloc o).heap[k]? = some x:=by rw[Below.heap_alloc _ _ _ (ze h)];exact h
theorem zh {x:Obj}{b:Nat}{v:Value}(h:w.heap[k]? = some x)(c:k≠b):(w.setCell ⟨b,j,none⟩ v).heap[k]? = some x:=(heap_setCell_other w ⟨b,j,none⟩ k v c).trans h
theorem zr {p:Addr}{v:Value}(h:B_ w w')(c:w.cell? p=some v):w'.cell? p=some v:=(h.cell (p:=p) (block_lt_of_cell c)).trans c
theorem zn {b:Nat}{o:Obj}(h:B_ w w')(c:w.heap[b]? = some o):w'.heap[b]? = some o:=(h.block _ (ze c)).trans c
theorem zq (h:B_ w w1)(k:B_ w1 w2):B_ w w2:=h.trans (k.mono h.size)
theorem zO (w:World)(o:Obj):B_ w (w.alloc o):=(bR_ _ _).alloc (nR_ _) _
theorem dC_ {p:Addr}{v:Value}(c:w.cell? p=some v):w.drew.cell? p=some v:=c
theorem dQ_ {b:Nat}{o:Obj}(c:w.heap[b]? = some o):w.drew.heap[b]? = some o:=c
theorem dB_ (w:World):Below w.heap.size w w.drew:=(Below.refl _ _).drew
abbrev hN_:=@heap_alloc_new
abbrev hO_:=@heap_setCell_other
abbrev hS_:=@heap_setCell_same
abbrev bL_:=@block_lt_of_cell
abbrev cB_:=@World.cell?_of_block
abbrev oN_:=@World.ownsRow_nil
abbrev hX_:=@heap_alloc2_old
abbrev hY_:=@heap_alloc2_new
abbrev oA_:=@World.ownsRow.alloc
theorem zfP (au b:Int)(d:Option Addr)(n c:Nat)(r:Bool)(w:World)(h:r=decide (au=0∧b=0∧n=0)) :
  Calls prog 79 #[.agg #[I_ au,I_ b,.slice d n c]] w fun e w'=>e=.returned (.bool r)∧B_ w w':=by
 by_cases h1:au=0;by_cases h2:b=0;by_cases h3:n=0;obtain rfl:r=true:=by simp[h,h1,h2,h3]
 rotate_left
 have f:¬(n:Int)=0:=by omega
 obtain rfl:r=false:=by simp[h,h3]
 rotate_left
 obtain rfl:r=false:=by simp[h,h2]
 rotate_left
 obtain rfl:r=false:=by simp[h,h1]
 rotate_left
 all_goals
  clear h;go_in;go_wp2_with fail
  go_ret;exact ⟨by first|rfl|exact zS (beq_eq_false_iff_ne.2 (by omega)),(bR_ _ _).alloc (nR_ _) _⟩
theorem zf8 (au b:Int)(d:Option Addr)(n c:Nat)(r:Bool)(w:World)(h:r=decide (au=0∧b=0∧n=0)) :
  Calls prog 81 #[.agg #[I_ au,I_ b,.slice d n c]] w fun e w'=>e=.returned (.bool r)∧B_ w w':=by
 by_cases h1:au=0;by_cases h2:b=0;by_cases h3:n=0;obtain rfl:r=true:=by simp[h,h1,h2,h3]
 rotate_left
 have f:¬(n:Int)=0:=by omega
 obtain rfl:r=false:=by simp[h,h3]
 rotate_left
 obtain rfl:r=false:=by simp[h,h2]
 rotate_left
 obtain rfl:r=false:=by simp[h,h1]
 rotate_left
 all_goals
  clear h;go_in;go_wp2_with fail
  go_ret;exact ⟨by first|rfl|exact zS (beq_eq_false_iff_ne.2 (by omega)),(bR_ _ _).alloc (nR_ _) _⟩
theorem zfr (au b:Int)(f:Option Addr)(n c:Nat)(g:Option Addr)(m d:Nat)(r:Bool)(w:World)(h:r=decide (au=0∧b=0∧n=0∧m=0)) :
  Calls prog 80 #[.agg #[I_ au,I_ b,.slice f n c,.slice g m d]] w fun e w'=>e=.returned (.bool r)∧B_ w w':=by
 by_cases h1:au=0;by_cases h2:b=0;by_cases h3:n=0;by_cases h4:m=0;obtain rfl:r=true:=by simp[h,h1,h2,h3,h4]
 rotate_left
 have l:¬(m:Int)=0:=by omega
 obtain rfl:r=false:=by simp[h,h4]
 rotate_left
 have j:¬(n:Int)=0:=by omega
 obtain rfl:r=false:=by simp[h,h3]
 rotate_left
 obtain rfl:r=false:=by simp[h,h2]
 rotate_left
 obtain rfl:r=false:=by simp[h,h1]
 rotate_left
 all_goals
  clear h;go_in;go_wp2_with fail
  go_ret;exact ⟨by first|rfl|exact zS (beq_eq_false_iff_ne.2 (by omega)),(bR_ _ _).alloc (nR_ _) _⟩
theorem zce (au b:Int)(d:Option Addr)(n c:Nat)(w:World)(h:au=0∧b=0∧n=0):Calls prog 79 #[.agg #[I_ au,I_ b,.slice d n c]] w fun e w'=>e=.returned (.bool true)∧B_ w w':=zfP _ _ _ _ _ true w (by simp[h])
theorem zie (au b:Int)(d:Option Addr)(n c:Nat)(w:World)(h:¬(au=0∧b=0∧n=0)):Calls prog 79 #[.agg #[I_ au,I_ b,.slice d n c]] w fun e w'=>e=.returned (.bool false)∧B_ w w':=zfP _ _ _ _ _ false w (by rw[dF_ h])
theorem zdy (au b:Int)(d:Option Addr)(n c:Nat)(w:World)(h:au=0∧b=0∧n=0):Calls prog 81 #[.agg #[I_ au,I_ b,.slice d n c]] w fun e w'=>e=.returned (.bool true)∧B_ w w':=zf8 _ _ _ _ _ true w (by simp[h])
theorem zjb (au b:Int)(d:Option Addr)(n c:Nat)(w:World)(h:¬(au=0∧b=0∧n=0)):Calls prog 81 #[.agg #[I_ au,I_ b,.slice d n c]] w fun e w'=>e=.returned (.bool false)∧B_ w w':=zf8 _ _ _ _ _ false w (by rw[dF_ h])
theorem zbc (au b:Int)(f:Option Addr)(n c:Nat)(g:Option Addr)(m d:Nat)(w:World)(h:au=0∧b=0∧n=0∧m=0):Calls prog 80 #[.agg #[I_ au,I_ b,.slice f n c,.slice g m d]] w fun e w'=>e=.returned (.bool true)∧B_ w w':=zfr _ _ _ _ _ _ _ _ true w (by simp[h])
theorem ze9 (au b:Int)(f:Option Addr)(n c:Nat)(g:Option Addr)(m d:Nat)(w:World)(h:¬(au=0∧b=0∧n=0∧m=0)):Calls prog 80 #[.agg #[I_ au,I_ b,.slice f n c,.slice g m d]] w fun e w'=>e=.returned (.bool false)∧B_ w w':=zfr _ _ _ _ _ _ _ _ false w (by rw[dF_ h])
structure Msg where
 (fr tt ki bau bnu hau hrd sau srd cau crd ro:Int)
 (bta hba hpa sda cba cpa cva:Option Addr)
 (btn btc hbn hbc hpn hpc sdn sdc cbn cbc cpn cpc cvn cvc:Nat)
abbrev mrow_ (x:Msg):Array Value:=#[.int .i64 x.fr,.int .i64 x.tt,.int .i64 x.ki,.int .i64 x.bau,.int .i64 x.bnu,.slice x.bta x.btn x.btc,.int .i64 x.hau,.int .i64 x.hrd,.slice x.hba x.hbn x.hbc,.slice x.hpa x.hpn x.hpc,.int .i64 x.sau,.int .i64 x.srd,.slice x.sda x.sdn x.sdc,.int .i64 x.cau,.int .i64 x.crd,.slice x.cba x.cbn x.cbc,.slice x.cpa x.cpn x.cpc,.slice x.cva x.cvn x.cvc,.int .i64 x.ro]
def zaj (m:Msg):Bool:=decide ((m.bau=0∧m.bnu=0∧m.btn=0)∧(m.hau=0∧m.hrd=0∧m.hbn=0∧m.hpn=0)∧(m.sau=0∧m.srd=0∧m.sdn=0)∧(m.cau=0∧m.crd=0∧m.cbn=0∧m.cpn=0)∧m.cvn=0∧m.ro=0)
theorem zif (m:Msg)(r:Bool)(w:World)(h:r=zaj m) :
  Calls prog 57 #[.agg (mrow_ m)] w fun e w'=>e=.returned (.bool r)∧B_ w w':=by
 by_cases e1:m.bau=0∧m.bnu=0∧m.btn=0
 ·by_cases e2:m.hau=0∧m.hrd=0∧m.hbn=0∧m.hpn=0
  ·by_cases e3:m.sau=0∧m.srd=0∧m.sdn=0
   ·by_cases e4:m.cau=0∧m.crd=0∧m.cbn=0∧m.cpn=0
    ·by_cases e5:m.cvn=0;by_cases e6:m.ro=0;obtain rfl:r=true:=by simp[h,zaj,e1,e2,e3,e4,e5,e6]
     rotate_left
     obtain rfl:r=false:=by simp[h,zaj,e6]
     rotate_left
     obtain rfl:r=false:=by simp[h,zaj,e5]
     have L:¬(m.cvn:Int)=0:=by omega
     rotate_left
     all_goals
      clear h;go_in;go_wp2_with fail
      refine (zce _ _ _ _ _ _ (by omega)).mono ?_;rintro e F ⟨rfl,c⟩;have b:=zbN c;replace c:=zV c;have o:=zb b 6 _ rfl;have p:=zb b 7 _ rfl;have s:=zb b 8 _ rfl;have t:=zb b 9 _ rfl;go_wp2_with fail
      clear o p s t;refine (zbc _ _ _ _ _ _ _ _ _ (by omega)).mono ?_;rintro e w2 ⟨rfl,d⟩;have f:=zn d b;replace d:=c.trans (d.mono c.size);clear b;have y:=zb f 10 _ rfl;have z:=zb f 11 _ rfl;have A:=zb f 12 _ rfl;go_wp2_with fail
      clear y z A;refine (zdy _ _ _ _ _ _ (by omega)).mono ?_;rintro e G ⟨rfl,j⟩;have g:=zn j f;replace j:=d.trans (j.mono d.size);clear f;have B:=zb g 13 _ rfl;have C:=zb g 14 _ rfl;have D:=zb g 15 _ rfl;have E:=zb g 16 _ rfl;go_wp2_with fail
      clear B C D E;refine (zbc _ _ _ _ _ _ _ _ _ (by omega)).mono ?_;rintro e J ⟨rfl,l⟩;have u:=zn l g;replace l:=j.trans (l.mono j.size);clear g;have H:=zb u 17 _ rfl;have I:=zb u 18 _ rfl;go_wp2_with fail
      go_ret;exact ⟨by first|rfl|exact zS (by simp;omega),l⟩
    ·obtain rfl:r=false:=by rw[h];exact dF_ (fun q=>e4 q.2.2.2.1)
     clear h;go_in;go_wp2_with fail
     refine (zce _ _ _ _ _ _ (by omega)).mono ?_;rintro e F ⟨rfl,c⟩;have b:=zbN c;replace c:=zV c;have o:=zb b 6 _ rfl;have p:=zb b 7 _ rfl;have s:=zb b 8 _ rfl;have t:=zb b 9 _ rfl;go_wp2_with fail
     clear o p s t;refine (zbc _ _ _ _ _ _ _ _ _ (by omega)).mono ?_;rintro e w2 ⟨rfl,d⟩;have f:=zn d b;replace d:=c.trans (d.mono c.size);clear b;have y:=zb f 10 _ rfl;have z:=zb f 11 _ rfl;have A:=zb f 12 _ rfl;go_wp2_with fail
     clear y z A;refine (zdy _ _ _ _ _ _ (by omega)).mono ?_;rintro e G ⟨rfl,j⟩;have g:=zn j f;replace j:=d.trans (j.mono d.size);clear f;have B:=zb g 13 _ rfl;have C:=zb g 14 _ rfl;have D:=zb g 15 _ rfl;have E:=zb g 16 _ rfl;go_wp2_with fail
     clear B C D E;refine (ze9 _ _ _ _ _ _ _ _ _ (by omega)).mono ?_;rintro e J ⟨rfl,l⟩;have u:=zn l g;replace l:=j.trans (l.mono j.size);clear g;have H:=zb u 17 _ rfl;have I:=zb u 18 _ rfl;go_wp2_with fail
     go_ret;exact ⟨by first|rfl|exact zS (by simp;omega),l⟩
   ·obtain rfl:r=false:=by rw[h];exact dF_ (fun q=>e3 q.2.2.1)
    clear h;go_in;go_wp2_with fail
    refine (zce _ _ _ _ _ _ (by omega)).mono ?_;rintro e F ⟨rfl,c⟩;have b:=zbN c;replace c:=zV c;have o:=zb b 6 _ rfl;have p:=zb b 7 _ rfl;have s:=zb b 8 _ rfl;have t:=zb b 9 _ rfl;go_wp2_with fail
    clear o p s t;refine (zbc _ _ _ _ _ _ _ _ _ (by omega)).mono ?_;rintro e w2 ⟨rfl,d⟩;have f:=zn d b;replace d:=c.trans (d.mono c.size);clear b;have y:=zb f 10 _ rfl;have z:=zb f 11 _ rfl;have A:=zb f 12 _ rfl;go_wp2_with fail
    clear y z A;refine (zjb _ _ _ _ _ _ (by omega)).mono ?_;rintro e G ⟨rfl,j⟩;have g:=zn j f;replace j:=d.trans (j.mono d.size);clear f;have B:=zb g 13 _ rfl;have C:=zb g 14 _ rfl;have D:=zb g 15 _ rfl;have E:=zb g 16 _ rfl;go_wp2_with fail
    go_ret;exact ⟨by first|rfl|exact zS (by simp;omega),j⟩
  ·obtain rfl:r=false:=by rw[h];exact dF_ (fun q=>e2 q.2.1)
   clear h;go_in;go_wp2_with fail
   refine (zce _ _ _ _ _ _ (by omega)).mono ?_;rintro e F ⟨rfl,c⟩;have b:=zbN c;replace c:=zV c;have o:=zb b 6 _ rfl;have p:=zb b 7 _ rfl;have s:=zb b 8 _ rfl;have t:=zb b 9 _ rfl;go_wp2_with fail
   clear o p s t;refine (ze9 _ _ _ _ _ _ _ _ _ (by omega)).mono ?_;rintro e w2 ⟨rfl,d⟩;have f:=zn d b;replace d:=c.trans (d.mono c.size);clear b;have y:=zb f 10 _ rfl;have z:=zb f 11 _ rfl;have A:=zb f 12 _ rfl;go_wp2_with fail
   go_ret;exact ⟨by first|rfl|exact zS (by simp;omega),d⟩
 ·obtain rfl:r=false:=by rw[h];exact dF_ (fun q=>e1 q.1)
  clear h;go_in;go_wp2_with fail
  refine (zie _ _ _ _ _ _ (by omega)).mono ?_;rintro e F ⟨rfl,c⟩;have b:=zbN c;replace c:=zV c;have o:=zb b 6 _ rfl;have p:=zb b 7 _ rfl;have s:=zb b 8 _ rfl;have t:=zb b 9 _ rfl;go_wp2_with fail
  go_ret;exact ⟨by first|rfl|exact zS (by simp;omega),c⟩
open Go.ChangeShapes Go.WideShapes Go.ChangeAt
theorem cU8:prog.cellsOf 5=1:=by kernel_rfl
theorem own:ownKnob prog.godebug=none:=by kernel_rfl
theorem laidOut:laidOutB prog=true:=by kernel_rfl
def zaF (bs:List Int):Prop:=∀ x∈bs,0≤x∧x≤255
theorem fit_each {H:Type}{ts:List TypeId}{ds:List (DataW H)}(h:(DataW.weightsEach prog ts ds).all (·≤reachBytes)=true){j:Nat}{t:TypeId}{d:DataW H}(f:ts[j]? = some t)(b:ds[j]? = some d):∀ n∈d.weights prog t,n≤reachBytes:=fun n c=>by
 simpa using List.all_eq_true.1 h n (DataW.weights_mem_each f b n c)
variable {ss:List ByteArray}
structure zas (w:World)(sa:Option Addr)(ss:List ByteArray):Prop where
 cells:ss=[]∨∃ sb so,sa=some ⟨sb,so,none⟩∧∀ j,j<ss.length→C_ w sb (so+j) (.string (ss.getD j ByteArray.empty))
 size:∀ s∈ss,s.size≤maxLen
theorem zas.below (h:zas w sa ss)(g:B_ w w'):zas w' sa ss:=by
 refine ⟨?_,h.size⟩;rcases h.cells with h|⟨d,f,rfl,b⟩
 ·exact .inl h
 ·exact .inr ⟨d,f,rfl,fun j c=>(g.cell (p:=⟨d,f+j,none⟩) (block_lt_of_cell (b j c))).trans (b j c)⟩
open Go.Deep
structure zfd (w:World)(sa:Option Addr)(cap:Nat)(ss:List ByteArray):Prop where
 le:ss.length≤cap
 reach:cap*16≤140737488351232
 nil:sa=none→cap=0
 strs:zas w sa ss
theorem zfd.below (h:zfd w sa cap ss)(b:B_ w w'):zfd w' sa cap ss:=⟨h.le,h.reach,h.nil,h.strs.below b⟩
end Go.Proofs.YtdepbohhmfkjgaaGreatDoor
