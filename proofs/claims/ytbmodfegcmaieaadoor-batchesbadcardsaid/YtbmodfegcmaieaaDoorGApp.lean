/- Appends onto a row that the call owns, inside a region that draws its order; a slice of bytes as a text. -/
import Derived.Test.YtbmodfegcmaieaaDoorChecked
import Derived.WalkKit
import Derived.WalkSpells
import Derived.WalkLawsBesides
import Derived.Below
import Derived.Laws.BitsAllLaws
import Derived.OwnWalk
import Derived.Deep.DeepAppendRoom
import Derived.Deep.RegionLaw
import Derived.Laws.AppendOwnNone
namespace Go.Proofs.YtbmodfegcmaieaaDoor
open Go.RowKit

set_option maxRecDepth 100000 in
theorem ret_int {k : IntKind} {a b : Int} (h : a = b) : Ending.returned (.int k a) = .returned (.int k b) := by rw [h]
set_option maxRecDepth 100000 in
theorem ret_bool {a b : Bool} (h : a = b) : Ending.returned (.bool a) = .returned (.bool b) := by rw [h]
/-- A number of 64 bits. -/
def I64 (x : Int) : Prop := -9223372036854775808 ≤ x ∧ x ≤ 9223372036854775807
end Go.Proofs.YtbmodfegcmaieaaDoor

namespace Go.Proofs.YtbmodfegcmaieaaDoor
open Go.RowKit

/-- One block is rewritten to 'o'; every other block that was there stays as it was; the streams stay. -/
structure Upd (b : Nat) (o : Obj) (w w' : World) : Prop where
  os : w'.os = w.os
  tape : w'.tape = w.tape
  output : w'.output = w.output
  size : w.heap.size ≤ w'.heap.size
  block : ∀ k, k < w.heap.size → k ≠ b → w'.heap[k]? = w.heap[k]?
  here : w'.heap[b]? = some o

set_option maxRecDepth 100000 in
theorem lt_of_heap {w : World} {b : Nat} {o : Obj} (h : w.heap[b]? = some o) : b < w.heap.size := by
  rcases Nat.lt_or_ge b w.heap.size with g | g
  · exact g
  · rw [Array.getElem?_eq_none g] at h; cases h

set_option maxRecDepth 100000 in
theorem Upd.refl {b : Nat} {o : Obj} {w : World} (h : w.heap[b]? = some o) : Upd b o w w := ⟨rfl, rfl, rfl, Nat.le_refl _, fun _ _ _ => rfl, h⟩
set_option maxRecDepth 100000 in
theorem Upd.drew {b : Nat} {o : Obj} {w w' : World} (h : Upd b o w w') : Upd b o w w'.drew := ⟨h.os, h.tape, h.output, h.size, h.block, h.here⟩
set_option maxRecDepth 100000 in
theorem heap_drewN (w : World) (n : Nat) : (w.drewN n).heap = w.heap := rfl
set_option maxRecDepth 100000 in
theorem Upd.drewN {b : Nat} {o : Obj} {w w' : World} (h : Upd b o w w') (n : Nat) : Upd b o w (w'.drewN n) := ⟨h.os, h.tape, h.output, h.size, h.block, h.here⟩
set_option maxRecDepth 100000 in
theorem Upd.alloc {b : Nat} {o : Obj} {w w' : World} (h : Upd b o w w') (x : Obj) : Upd b o w (w'.alloc x) := by
  have hb := lt_of_heap h.here
  refine ⟨h.os, h.tape, h.output, ?_, fun k hk hn => ?_, ?_⟩
  · simp; have := h.size; omega
  · have := h.size; rw [Below.heap_alloc _ _ _ (by omega)]; exact h.block k hk hn
  · rw [Below.heap_alloc _ _ _ hb]; exact h.here
set_option maxRecDepth 100000 in
theorem Upd.setCell {b : Nat} {cs : Array Value} {t : TypeId} {w w' : World} (h : Upd b (.cells cs t (0, 0)) w w') (i : Nat) (v : Value) :
    Upd b (.cells (cs.setIfInBounds i v) t (0, 0)) w (w'.setCell ⟨b, i, none⟩ v) := by
  refine ⟨h.os, h.tape, h.output, ?_, fun k hk hn => ?_, ?_⟩
  · simp; exact h.size
  · rw [Below.heap_setCell _ _ _ _ hn]; exact h.block k hk hn
  · exact heap_setCell_same w' b i cs t v h.here
set_option maxRecDepth 100000 in
theorem Upd.trans {b : Nat} {o o' : Obj} {a w w' : World} (h : Upd b o a w) (k : Upd b o' w w') : Upd b o' a w' :=
  ⟨k.os.trans h.os, k.tape.trans h.tape, k.output.trans h.output, Nat.le_trans h.size k.size,
   fun i hi hn => (k.block i (Nat.lt_of_lt_of_le hi h.size) hn).trans (h.block i hi hn), k.here⟩
set_option maxRecDepth 100000 in
/-- Where the block that was rewritten is one of the call's own. -/
theorem Upd.below {b B : Nat} {o : Obj} {a w w' : World} (k : Upd b o w w') (h : Below B a w) (hB : B ≤ w.heap.size) (hb : B ≤ b) : Below B a w' :=
  h.trans ⟨k.os, k.tape, k.output, k.size, fun i hi => k.block i (by omega) (by omega)⟩

set_option maxRecDepth 100000 in
theorem heap_new_at (w : World) (o : Obj) (n : Nat) (h : n = w.heap.size) : (w.alloc o).heap[n]? = some o := by subst h; exact heap_alloc_new w o
set_option maxRecDepth 100000 in
theorem add_off (b o j : Nat) : (⟨b, o, none⟩ : Addr).add j = ⟨b, o + j, none⟩ := by unfold Addr.add; split <;> simp_all
/-- The bytes of a slice: it has none, or they lie in cells one behind the other. -/
def BytesAt (w : World) (sa : Option Addr) (bs : List Int) : Prop := bs = [] ∨ ∃ sb so, sa = some ⟨sb, so, none⟩ ∧ ∀ j, j < bs.length → w.cell? ⟨sb, so + j, none⟩ = some (.int .u8 (bs.getD j 0))
set_option maxRecDepth 100000 in
theorem BytesAt.below {w w' : World} {B : Nat} {sa : Option Addr} {bs : List Int} (h : BytesAt w sa bs) (hb : Below B w w') (hB : ∀ sb so, sa = some ⟨sb, so, none⟩ → 0 < bs.length → sb < B) : BytesAt w' sa bs := by
  rcases h with h | ⟨sb, so, rfl, h⟩
  · exact .inl h
  · exact .inr ⟨sb, so, rfl, fun j hj => (hb.cell (p := ⟨sb, so + j, none⟩) (hB sb so rfl (by omega))).trans (h j hj)⟩
set_option maxRecDepth 100000 in
theorem BytesAt.lt {w : World} {sb so : Nat} {bs : List Int} (h : BytesAt w (some ⟨sb, so, none⟩) bs) (hl : 0 < bs.length) : sb < w.heap.size := by
  rcases h with h | ⟨b, o, e, h⟩
  · subst h; simp at hl
  · simp at e; obtain ⟨rfl, rfl⟩ := e; exact block_lt_of_cell (h 0 hl)
set_option maxRecDepth 100000 in
theorem BytesAt.below' {w w' : World} {sa : Option Addr} {bs : List Int} (h : BytesAt w sa bs) (hb : Below w.heap.size w w') : BytesAt w' sa bs :=
  h.below hb fun sb so e hl => by subst e; exact h.lt hl
set_option maxRecDepth 100000 in
theorem BytesAt.cut {w : World} {sb so : Nat} {bs : List Int} (h : BytesAt w (some ⟨sb, so, none⟩) bs) (i n : Nat) : BytesAt w (some ⟨sb, so + i, none⟩) ((bs.drop i).take n) := by
  rcases h with h | ⟨b, o, e, h⟩
  · subst h; simp [BytesAt]
  · simp at e; obtain ⟨rfl, rfl⟩ := e
    refine .inr ⟨sb, so + i, rfl, fun j hj => ?_⟩
    have hj' : j < n ∧ i + j < bs.length := by simp at hj; omega
    rw [Nat.add_assoc, h (i + j) hj'.2]
    simp [hj'.1]
set_option maxRecDepth 100000 in
/-- A block below is one of the world's. -/
theorem Below.heap_of {B : Nat} {w w' : World} (h : Below B w w') {k : Nat} (hk : k < B) {o : Obj} (ho : w.heap[k]? = some o) : w'.heap[k]? = some o := (h.block k hk).trans ho
set_option maxRecDepth 100000 in
theorem Upd.setRow {b : Nat} {cs old : Array Value} {t : TypeId} {w : World} (h : w.heap[b]? = some (.cells old t (0, 0))) : Upd b (.cells cs t (0, 0)) w (w.setRow b cs) :=
  ⟨rfl, rfl, rfl, by simp, fun k _ hn => setRow_other w b k cs hn, setRow_heap w b old cs t (0, 0) h⟩
set_option maxRecDepth 100000 in
/-- The cells of a row that was just made. -/
theorem cells_new (W : World) (l : List Value) (t : TypeId) : ∀ j u, l[j]? = some u → (W.alloc (.cells l.toArray t)).cell? ((⟨W.heap.size, 0, none⟩ : Addr).add j) = some u := by
  intro j u hu
  rw [add_off, Nat.zero_add, World.cell?_alloc_at _ _ _ _ rfl]
  simpa using hu
set_option maxRecDepth 100000 in
theorem u8_one (bs : List Int) : ∀ u ∈ bs.map (Value.int .u8), u.oneCell' = true := by
  intro u hu; simp at hu; obtain ⟨x, _, rfl⟩ := hu; rfl
/-- A row of bytes as cells. -/
def ub (bs : List Int) : List Value := bs.map (Value.int .u8)
/-- A slice whose bytes are bs. -/
structure SliceAt (w : World) (sa : Option Addr) (cap : Nat) (bs : List Int) : Prop where
  le : bs.length ≤ cap
  max : cap ≤ maxLen
  some : cap = 0 ∨ ∃ sb so, sa = some ⟨sb, so, none⟩
  nil : sa = none → cap = 0
  bytes : BytesAt w sa bs
set_option maxRecDepth 100000 in
theorem SliceAt.below {w w' : World} {sa : Option Addr} {cap : Nat} {bs : List Int} (h : SliceAt w sa cap bs) (hb : Below w.heap.size w w') : SliceAt w' sa cap bs :=
  ⟨h.le, h.max, h.some, h.nil, h.bytes.below' hb⟩
set_option maxRecDepth 100000 in
theorem ub_length (bs : List Int) : (ub bs).length = bs.length := by simp [ub]
set_option maxRecDepth 100000 in
theorem sliceAt_of_owns {w : World} {base g cap n : Nat} {bs : List Int} (h : w.ownsRow base 5 1 (.slice (some ⟨g, 0, none⟩) n cap) n (ub bs)) : n = bs.length ∧ SliceAt w (some ⟨g, 0, none⟩) cap bs := by
  have hl : n = bs.length := by have := h.1; rw [ub_length] at this; omega
  refine ⟨hl, ?_⟩
  have hc := fun j hj => World.ownsRow.cellAt h j hj
  rcases h.2 with ⟨e, _⟩ | ⟨g', c', cur, e, _, _, h1, h2, _, _⟩
  · cases e
  · cases e
    refine ⟨by omega, h2, .inr ⟨g, 0, rfl⟩, (fun e => by cases e), .inr ⟨g, 0, rfl, fun j hj => ?_⟩⟩
    rw [Nat.zero_add, hc j (by omega)]
    simp [ub, hj]
set_option maxRecDepth 100000 in
theorem zeros_made (n : Nat) : (madeCells (Value.int .u8 0).cells (n * 1)).toList = ub (List.replicate n 0) := by
  rw [Nat.mul_one, show (Value.int .u8 0).cells = #[.int .u8 0] from rfl, toList_madeCells_one]
  simp [ub]
set_option maxRecDepth 100000 in
theorem ownsRow_base' {w : World} {b b' : Nat} {e : TypeId} {size : Nat} {v : Value} {n : Nat} {xs : List Value} (h : w.ownsRow b e size v n xs) (hb : b' ≤ b) : w.ownsRow b' e size v n xs := by
  obtain ⟨h1, h2⟩ := h
  refine ⟨h1, ?_⟩
  rcases h2 with h2 | ⟨g, cap, cur, hv, hg, r⟩
  · exact .inl h2
  · exact .inr ⟨g, cap, cur, hv, by omega, r⟩
set_option maxRecDepth 100000 in
theorem grown_none {w w' : World} (h : w.grownBy w' none) : Below w.heap.size w w' := ⟨h.os, h.tape, h.output, h.size, fun k hk => h.block k hk (by simp)⟩
set_option maxRecDepth 100000 in
theorem infoU8 : (Tryd.prog.info? 5).map (fun i => (i.zero, i.size, i.bytes)) = some (some (.int .u8 0), 1, 1) := by kernel_rfl
end Go.Proofs.YtbmodfegcmaieaaDoor

namespace Go.Proofs.YtbmodfegcmaieaaDoor
open Go.RowKit

set_option maxRecDepth 100000 in
theorem step_append_own {P : Program} {ops : Array Oper} {o : Oper} {a : Act} {w : World} {K : Act → World → Prop} {Q : Exit → Act → World → Prop} {E : Prop}
    (hg : o.guard = none) (s x : Operand) (t : TypeId) (ho : o.op = .call { callee := .builtin .append, args := #[s, x], argTypes := #[t, t] })
    (base : Nat) (e : TypeId) (i : TypeInfo) (z : Value) (size bytes : Nat) (ht : P.underlying t = some (.slice e)) (hi : P.info? e = some i) (hz : i.zero = some z)
    (hsize : i.size = size) (hby : i.bytes = bytes) (hzs : z.cells.size = size) (hsz : 0 < size)
    (v : Value) (n : Nat) (xs : List Value) (hs : a.eval s = v) (hown : w.ownsRow base e size v n xs)
    (ad : Addr) (m c : Nat) (news : List Value) (hx : a.eval x = .slice (some ad) m c) (hl : news.length = m * size) (hnews : ∀ j u, news[j]? = some u → w.cell? (ad.add j) = some u) (h1 : ∀ u ∈ news, u.oneCell' = true)
    (h63 : n + m ≤ maxLen) (hbytes : (n + m) * bytes ≤ 140737488355328) (hbase : base ≤ w.heap.size)
    (hK : ∀ v' w', w'.ownsRow base e size v' (n + m) (xs ++ news) → w.grownBy w' v.ownBlock → K (a.put o.dst v') w') :
    if Region.wanted o (yielded ops a.tmps) = true then Oper.wp P o a w K Q else E := by
  have hw : Region.wanted o (yielded ops a.tmps) = true := by simp [Region.wanted, hg]
  rw [if_pos hw]
  exact wp_append_own w s x t ho base e i z size bytes ht hi hz hsize hby hzs hsz v n xs hs hown ad m c news hx hl hnews h1 h63 hbytes hbase fun v' w' h2 h3 _ => hK v' w' h2 h3

set_option maxRecDepth 100000 in
theorem owns_form {w : World} {base n : Nat} {v : Value} {bs : List Int} (h : w.ownsRow base 5 1 v n (ub bs)) : ∃ sa cap, v = .slice sa n cap ∧ n = bs.length ∧ SliceAt w sa cap bs := by
  have hl : n = bs.length := by have := h.1; rw [ub_length] at this; omega
  rcases h.2 with ⟨rfl, hn⟩ | ⟨g, cap, cur, rfl, _⟩
  · have hb : bs = [] := List.eq_nil_of_length_eq_zero (by omega)
    subst hn hb
    exact ⟨none, 0, rfl, rfl, ⟨Nat.le_refl _, by decide, .inl rfl, fun _ => rfl, .inl rfl⟩⟩
  · exact ⟨some ⟨g, 0, none⟩, cap, rfl, hl, (sliceAt_of_owns h).2⟩
set_option maxRecDepth 100000 in
theorem owns_snoc {w : World} {base n : Nat} {v : Value} {bs : List Int} {c : Int} (h : w.ownsRow base 5 1 v n (ub bs ++ [.int .u8 c])) : w.ownsRow base 5 1 v n (ub (bs ++ [c])) := by rw [show ub (bs ++ [c]) = ub bs ++ [.int .u8 c] by simp [ub]]; exact h
set_option maxRecDepth 100000 in
theorem le_alloc {B : Nat} {w : World} (h : B ≤ w.heap.size) (o : Obj) : B ≤ (w.alloc o).heap.size := by simp; exact Nat.le_succ_of_le h
/-- The text of bytes. -/
def bstr (bs : List Int) : ByteArray := bs.foldl (fun r n => r.push (UInt8.ofNat n.toNat)) ByteArray.empty
set_option maxRecDepth 100000 in
theorem run_text (w : World) (sa : Option Addr) (n cap : Nat) (bs : List Int) (hn : n = bs.length) (h : SliceAt w sa cap bs) :
    (convert 46 9 (.slice sa n cap)).run Tryd.prog w = .ok (.string (bstr bs)) w := by
  subst hn
  rw [run_convert_bytes_string w 46 9 5 sa _ _ Tryd.underlying46 Tryd.underlying5 Tryd.underlying9]
  cases sa with
  | none =>
    obtain rfl := h.nil rfl
    obtain rfl : bs = [] := List.eq_nil_of_length_eq_zero (by have := h.le; omega)
    rfl
  | some a =>
    refine run_bytesToString w a bs.length cap bs ?_
    have hl : (ub bs).length = bs.length := ub_length bs
    rw [← hl]
    refine run_loadCells_list (P := Tryd.prog) w a (ub bs) ?_
    intro j v hv
    rcases h.bytes with hb | ⟨sb, so, e, hb⟩
    · subst hb; simp [ub] at hv
    · cases e
      have hj : j < bs.length := by
        rcases Nat.lt_or_ge j bs.length with g | g
        · exact g
        · rw [List.getElem?_eq_none (by rw [ub_length]; exact g)] at hv; cases hv
      rw [add_off, hb j hj]
      simp [ub, hj] at hv
      simp [hj, hv]
set_option maxRecDepth 100000 in
/-- 'append(b, p...)': b a row that the call owns, p whatever slice of bytes, nil too. -/
theorem wpList_append_part {w : World} {ops : Array Oper} {rest : List Oper} {o : Oper} {a : Act} {Q : Exit → Act → World → Prop} (hgd : o.guard = none) (s x : Operand)
    (ho : o.op = .call { callee := .builtin .append, args := #[s, x], argTypes := #[46, 46] })
    (base : Nat) (v : Value) (n : Nat) (bs : List Int) (hs : a.eval s = v) (hown : w.ownsRow base 5 1 v n (ub bs))
    (sa : Option Addr) (m cap : Nat) (cs : List Int) (hx : a.eval x = .slice sa m cap) (hm : m = cs.length) (hp : SliceAt w sa cap cs)
    (hlen : n + m ≤ 140737488355328) (hbase : base ≤ w.heap.size)
    (h : ∀ v' w', w'.ownsRow base 5 1 v' (n + m) (ub (bs ++ cs)) → w.grownBy w' v.ownBlock → wpList Tryd.prog ops Q rest (a.put o.dst v') w') : wpList Tryd.prog ops Q (o :: rest) a w := by
  obtain ⟨i, hi, hz0, hz1, hz2⟩ := info_parts infoU8
  cases sa with
  | none =>
    obtain rfl := hp.nil rfl
    obtain rfl : cs = [] := List.eq_nil_of_length_eq_zero (by have := hp.le; omega)
    subst hm
    exact wpList_append_own_none hgd s x 46 ho base 5 i 1 Tryd.underlying46 hi v n (ub bs) hs hown hx (h v w (by simpa using hown) (World.grownBy.refl _ _))
  | some ad =>
    refine wpList_append_own w hgd s x 46 ho base 5 i (.int .u8 0) 1 1 Tryd.underlying46 hi hz0 hz1 hz2 rfl (by decide) v n (ub bs) hs hown ad m cap (ub cs) hx (by rw [ub_length, hm]; omega) ?_ (u8_one cs) (by unfold maxLen; omega) (by omega) hbase (fun v' w' h1 h2 _ => h v' w' (by rw [show ub (bs ++ cs) = ub bs ++ ub cs by simp [ub]]; exact h1) h2)
    intro j u hu
    rcases hp.bytes with hb | ⟨sb, so, e, hb⟩
    · subst hb; simp [ub] at hu
    · cases e
      have hj : j < cs.length := by
        rcases Nat.lt_or_ge j cs.length with g | g
        · exact g
        · rw [List.getElem?_eq_none (by rw [ub_length]; exact g)] at hu; cases hu
      rw [add_off, hb j hj]
      simp [ub, hj] at hu
      simp [hj, hu]
end Go.Proofs.YtbmodfegcmaieaaDoor
