/- Headers on digests that are not there: what is told. -/
import Derived.Test.YtnpjhpmgelaonaaDoorQDagP
import Derived.Test.YtnpjhpmgelaonaaDoorQSome
import Derived.Test.YtnpjhpmgelaonaaDoorQDMisC
namespace Go.Proofs.YtnpjhpmgelaonaaDoor
open Go.RowKit

set_option maxRecDepth 100000 in
theorem some_sl (n m : Int) (w : World) (hn : I64 n) :
    Calls Tryd.prog 14 #[.int .i64 n, .int .i64 m] w fun e w' => e = .returned (.slice (some ⟨w.heap.size, 0, none⟩) 32 32) ∧ SliceAt w' (some ⟨w.heap.size, 0, none⟩) 32 (someL n m) ∧ w.heap.size < w'.heap.size ∧ Below w.heap.size w w' :=
  (some_any n m w hn).mono (fun _ _ ⟨he, ho, hb⟩ => ⟨he, (sliceAt_of_owns ho).2, (ho.lt _ rfl).2, hb⟩)
set_option maxRecDepth 100000 in
theorem digF3 {p q r : Part} (hp : p.bs.length = 32) (hq : q.bs.length = 32) (hr : r.bs.length = 32) (h1 : txL p.bs ≠ txL q.bs) (h2 : txL p.bs ≠ txL r.bs) (h3 : txL q.bs ≠ txL r.bs) : digF [p, q, r] = 0 := by
  show digTo1 _ 3 = 0
  have e0 : digAt [p, q, r] 0 = 0 := by simp [digAt, partAt, hp, twice]
  have e1 : digAt [p, q, r] 1 = 0 := by simp [digAt, partAt, hq, twice, List.range_succ, h1]
  have e2 : digAt [p, q, r] 2 = 0 := by simp [digAt, partAt, hr, twice, List.range_succ, h2, h3]
  simp [digTo1, e0, e1, e2]
set_option maxRecDepth 100000 in
theorem headerF3 {au rd : Int} {p q r : Part} (ha : 0 ≤ au ∧ au < 4) (hr : 1 < rd ∧ rd ≤ 1048576) (h : digF [p, q, r] = 0) : headerF au rd [] [p, q, r] = 0 := by
  rw [headerF, if_neg (by omega), if_neg (by simp), if_neg (by decide), if_neg (by rw [h]; decide), parentsF, if_neg]
  · simp; omega
set_option maxRecDepth 100000 in
theorem some_ne (a b : Int) (h : txL (someL 1 a) ≠ txL (someL 1 b)) : txL (someL 1 a) ≠ txL (someL 1 b) := h
set_option maxRecDepth 100000 in
theorem s12 : txL (someL 1 1) ≠ txL (someL 1 2) := by decide +kernel
set_option maxRecDepth 100000 in
theorem s13 : txL (someL 1 1) ≠ txL (someL 1 3) := by decide +kernel
set_option maxRecDepth 100000 in
theorem s23 : txL (someL 1 2) ≠ txL (someL 1 3) := by decide +kernel
/-- What sheaveskeep.some tells. -/
def SomeIs (m : Int) (L : List Int) : Prop := ∀ w : World, Calls Tryd.prog 14 #[.int .i64 1, .int .i64 m] w fun e w' => e = .returned (.slice (some ⟨w.heap.size, 0, none⟩) 32 32) ∧ SliceAt w' (some ⟨w.heap.size, 0, none⟩) 32 L ∧ w.heap.size < w'.heap.size ∧ Below w.heap.size w w'
set_option maxRecDepth 100000 in
theorem somes : ∃ L1 L2 L3 : List Int, Hid (SomeIs 1 L1 ∧ SomeIs 2 L2 ∧ SomeIs 3 L3) ∧ Hid (L1.length = 32 ∧ L2.length = 32 ∧ L3.length = 32) ∧ Hid (txL L1 ≠ txL L2 ∧ txL L1 ≠ txL L3 ∧ txL L2 ≠ txL L3) := by
  have h : I64 1 := by unfold I64; decide
  exact ⟨someL 1 1, someL 1 2, someL 1 3, ⟨fun w => some_sl 1 1 w h, fun w => some_sl 1 2 w h, fun w => some_sl 1 3 w h⟩, ⟨someL_length 1 1, someL_length 1 2, someL_length 1 3⟩, ⟨s12, s13, s23⟩⟩
set_option maxRecDepth 100000 in
theorem pOf_ne {l : List CV} {d : List Int} (h : pOf l d < 0) {i : Nat} (hi : i < l.length) : txL (cvAt l i).d ≠ txL d := by
  have := fidx_no _ _ h i hi
  exact of_decide_eq_false this
set_option maxRecDepth 100000 in
/-- A dag without certificates of a round. -/
theorem cOf_none {l : List CV} {au rd : Int} (h : ∀ x ∈ l, x.rd ≠ rd) : cOf l au rd < 0 := by
  have : cOf l au rd = -1 := fidx_none _ _ (fun j hj => by
    rw [cHit]
    exact decide_eq_false (fun g => h _ (cvAt_mem hj) g.2))
  omega
set_option maxRecDepth 100000 in
/-- Parents that are not there, or of other rounds. -/
theorem par3 {l : List CV} {rd : Int} {a b c : List Int} (hr : ∀ x ∈ l, x.rd ≠ rd - 1) :
    (parF l rd [a, b, c] = if pOf l a < 0 ∧ pOf l b < 0 ∧ pOf l c < 0 then 8 else 9) ∧ (pOf l a < 0 → pOf l b < 0 → pOf l c < 0 → misF l [a, b, c] = [a, b, c]) := by
  have hat : ∀ d, parAt l rd d = if pOf l d < 0 then 8 else 9 := fun d => by
    rw [parAt]
    split
    · rfl
    · rename_i h
      rw [if_pos]
      have := pOf_bounds l d
      exact hr _ (cvAt_mem (by omega))
  refine ⟨?_, fun h1 h2 h3 => ?_⟩
  · show parTo l rd [a, b, c] 3 = _
    simp only [parTo, List.getD_cons_zero, List.getD_cons_succ, hat]
    by_cases h1 : pOf l a < 0 <;> by_cases h2 : pOf l b < 0 <;> by_cases h3 : pOf l c < 0 <;> simp [h1, h2, h3]
  · show misTo l [a, b, c] 3 = _
    simp [misTo, h1, h2, h3]
set_option maxRecDepth 100000 in
theorem insE_par {l : List CV} {c : CV} (hd : dagF l = 0) (hf : c.f = 0) (hc : cOf l c.au c.rd < 0) (hp : parF l c.rd c.pl ≠ 0) : insE l c = parF l c.rd c.pl := by
  have ht : takF l c.au c.rd c.pl = parF l c.rd c.pl := by rw [takF, if_neg (by omega)]
  rw [insE, if_neg (fun g => g hd), if_neg (fun g => g hf), ht, if_pos hp]
set_option maxRecDepth 100000 in
theorem certF3 {au rd : Int} {bl pl : List Part} (h : headerF au rd bl pl = 0) : certF au rd bl pl [0, 1, 2] = 0 := by
  rw [certF, if_neg (fun g => g h)]
  decide
set_option maxRecDepth 100000 in
theorem list_lit3 {w : World} {b : Nat} {p q r : Part} (h : w.heap[b]? = some (.cells #[.slice p.sa p.bs.length p.cap, .slice q.sa q.bs.length q.cap, .slice r.sa r.bs.length r.cap] 41 (0, 0))) (hp : SliceAt w p.sa p.cap p.bs) (hq : SliceAt w q.sa q.cap q.bs) (hr : SliceAt w r.sa r.cap r.bs) : ListAt w (some ⟨b, 0, none⟩) 3 [p, q, r] := by
  refine ⟨Nat.le_refl _, by decide, (show (3 : Nat) ≤ _ by decide), .inr ⟨b, 0, rfl⟩, ⟨.inr ⟨b, 0, rfl, fun j hj => ?_⟩, fun x hx => ?_⟩⟩
  · have h0 := cells_at h 0 _ rfl
    have h1 := cells_at h 1 _ rfl
    have h2 := cells_at h 2 _ rfl
    match j, (show j < 3 from hj) with
    | 0, _ => simpa using h0
    | 1, _ => simpa using h1
    | 2, _ => simpa using h2
  · simp at hx
    rcases hx with rfl | rfl | rfl
    · exact hp
    · exact hq
    · exact hr
end Go.Proofs.YtnpjhpmgelaonaaDoor
