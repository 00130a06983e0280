/- The walk of PoolFull. -/
import Derived.Test.YtikolpdedmhljaaKHead
import Derived.Test.YtikolpdedmhljaaOpenP
import Derived.Test.YtikolpdedmhljaaTxG
namespace Go.Proofs.Ytikolpdedmhljaa
open Go.RowKit

set_option maxRecDepth 100000 in
theorem zs_slice {w : World} {b n : Nat} {l : List Int} (h : w.heap[b]? = some (.cells (ub l).toArray 5 (0, 0))) (hn : n = l.length) (hm : n ≤ maxLen) : SliceAt w (some ⟨b, 0, none⟩) n l := by
  subst hn
  refine ⟨Nat.le_refl _, hm, .inr ⟨b, 0, rfl⟩, (fun e => by cases e), .inr ⟨b, 0, rfl, fun j hj => ?_⟩⟩
  rw [cell_of_row w b _ _ _ _ h, Nat.zero_add]
  simp [ub, hj]
/-- A transaction of a number. -/
def numT (k : Nat) : ByteArray := bstr [(k : Int), 97]
def fullL (m : Nat) : List ByteArray := (List.range m).map numT
set_option maxRecDepth 100000 in
theorem fullL_length (m : Nat) : (fullL m).length = m := by simp [fullL]
set_option maxRecDepth 100000 in
theorem fullL_succ (m : Nat) : fullL (m + 1) = fullL m ++ [numT m] := by simp [fullL, List.range_succ]
set_option maxRecDepth 100000 in
theorem numT_size (k : Nat) : (numT k).size = 2 := by simp [numT, bstr]
set_option maxRecDepth 100000 in
theorem numT_ok (k : Nat) : txOk (numT k) = true := by simp [txOk, numT_size]
set_option maxRecDepth 100000 in
theorem numT_inj {i j : Nat} (hi : i < 256) (hj : j < 256) (h : numT i = numT j) : i = j := by
  have := bstr_inj (xs := [(i : Int), 97]) (ys := [(j : Int), 97]) (by intro x hx; simp at hx; omega) (by intro x hx; simp at hx; omega) h
  simp at this
  omega
set_option maxRecDepth 100000 in
theorem numT_new {m i : Nat} (hm : m ≤ i) (hi : i < 256) : numT i ∉ fullL m := by
  intro h
  simp only [fullL, List.mem_map, List.mem_range] at h
  obtain ⟨j, hj, e⟩ := h
  have := numT_inj (by omega) hi e
  omega
set_option maxRecDepth 100000 in
theorem fullL_ok (m : Nat) (hm : m ≤ 200) : poolOk (fullL m) = true := by
  induction m with
  | zero => exact poolOk_nil
  | succ m ih => rw [fullL_succ]; exact poolOk_snoc (ih (by omega)) (numT_ok m) (numT_new (Nat.le_refl _) (by omega))
set_option maxRecDepth 100000 in
theorem full_add {m : Nat} (hm : m < 40) : addF 1 (fullL m) (numT m) = 0 := by
  rw [addF, if_pos (poolF_zero (by omega) (by omega) (by rw [fullL_length]; omega) (fullL_ok m (by omega))), takesF, if_neg (by rw [numT_ok]; simp), if_neg (by rw [inS_false (numT_new (Nat.le_refl _) (by omega))]; simp), if_neg (by rw [fullL_length]; omega)]
set_option maxRecDepth 100000 in
theorem full_full {k : Nat} (hk : 40 ≤ k) (hk2 : k < 256) : addF 1 (fullL 40) (numT k) = 6 := by
  rw [addF, if_pos (poolF_zero (by omega) (by omega) (by rw [fullL_length]; omega) (fullL_ok 40 (by omega))), takesF, if_neg (by rw [numT_ok]; simp), if_neg (by rw [inS_false (numT_new hk hk2)]; simp), if_pos (by rw [fullL_length]; omega)]
set_option maxRecDepth 100000 in
theorem zero_bad : addF 0 [] ⟨#[97]⟩ = 12 := by
  rw [addF, if_neg]
  rw [poolF, if_pos (.inl (by omega))]; decide
set_option maxRecDepth 100000 in
set_option maxHeartbeats 1000000 in
theorem poolFull_walk (n : Int) (w : World) (hn1 : -9223372036854775808 ≤ n) (hn2 : n ≤ 9223372036854775807) :
    Calls Try.prog 9 #[.int .i64 n] w fun e w' => e = .returned (.bool true) ∧ Below w.heap.size w w' := by
  obtain ⟨pa0, pa1⟩ := pk_bounds n 80 (by decide)
  have HP := fun W : World => picked_any n 80 W hn1 hn2 (by omega) (by omega)
  obtain ⟨K, hK⟩ : ∃ K : Nat, pk n 80 = K := ⟨(pk n 80).toNat, by omega⟩
  rw [hK] at HP pa1
  have hK80 : K < 80 := by omega
  clear hK pa0 pa1
  have hA : Below w.heap.size w (w.alloc (.cells #[.int .i64 1, .slice none 0 0] 24)) := (Below.refl _ _).alloc (Nat.le_refl _) _
  have p0 := heap_alloc_new w (.cells #[.int .i64 1, .slice none 0 0] 24)
  go_enter Try.func9, Try.ntmps9
  go_wp2_with (go_at_call 25; refine (HP _).mono ?_; rintro e w9 ⟨rfl, rfl⟩)
  generalize w.alloc (.cells #[.int .i64 1, .slice none 0 0] 24) = W0 at hA p0 ⊢
  clear HP
  go_loopw [5] (fun j wr => ∃ (k m : Nat) (v : Value), k ≤ K ∧ Hid (m = min k 40) ∧ j = .int .i64 k ∧ Below w.heap.size w wr ∧ wr.heap[w.heap.size]? = some (.cells #[.int .i64 1, v] 24 (0, 0)) ∧ wr.ownsRow (w.heap.size + 1) 9 1 v m (sv (fullL m))) (fun j _ => K - (intOf j).toNat)
  case atStart => exact ⟨0, 0, _, Nat.zero_le _, rfl, rfl, hA, p0, World.ownsRow_nil _ _ _ _⟩
  case round =>
    clear hA p0
    obtain ⟨k, m, v, hk, hm, rfl, hW, r0, ho⟩ := hrel
    have hm40 : m ≤ 40 := by have := hm.out; omega
    obtain ⟨va, vc, hv, -, hV, -⟩ := txsAt_of_owns ho (ok_size (fullL_ok m (by omega)))
    rw [fullL_length] at hv
    subst hv
    have hN := lt_of_heap r0
    have c0 : wr.cell? ⟨w.heap.size, 0, none⟩ = some (.int .i64 1) := cells_at r0 0 _ rfl
    have c1 : wr.cell? ⟨w.heap.size, 1, none⟩ = some (.slice va m vc) := cells_at r0 1 _ rfl
    by_cases hlt : k < K
    · have hltI : (k : Int) < K := by omega
      have hwu : IntKind.u8.wrap (k : Int) = k := by rw [IntKind.wrap_u8]; omega
      have cv := run_text (wr.alloc (.cells #[.int .u8 (k : Int), .int .u8 97] 5)) (some ⟨wr.heap.size, 0, none⟩) 2 2 [(k : Int), 97] rfl (zs_slice (l := [(k : Int), 97]) (heap_alloc_new wr _) rfl (by decide))
      have hA1 : Below wr.heap.size wr (wr.alloc (.cells #[.int .u8 (k : Int), .int .u8 97] 5)) := (Below.refl _ _).alloc (Nat.le_refl _) _
      have HA := poolAdd_any 1 va m vc (fullL m) (numT k) (wr.alloc (.cells #[.int .u8 (k : Int), .int .u8 97] 5)) (fullL_length m).symm (hV.below hA1) (by rw [numT_size]; decide)
      have cA0 : (wr.alloc (.cells #[.int .u8 (k : Int), .int .u8 97] 5)).cell? ⟨w.heap.size, 0, none⟩ = some (.int .i64 1) := cells_at (heap_keep r0) 0 _ rfl
      have HT : Hid (bstr [(k : Int), 97] = numT k) := rfl
      rw [HT.out] at cv
      go_wp2_with fail
      refine HA.mono ?_
      rintro e w3 ⟨v3, he, ho3, hb3⟩
      have r0A := heap_keep (o := .cells #[.int .u8 (k : Int), .int .u8 97] 5) r0
      have s0 := (hb3.block _ (lt_of_heap r0A)).trans r0A
      have hb13 := hA1.trans (hb3.mono hA1.size)
      clear HA cv cA0 c0 c1 HT
      by_cases h40 : k < 40
      · obtain rfl : m = k := by have := hm.out; omega
        have hE := full_add h40
        rw [addN, if_pos hE, hE] at he
        rw [addS, if_pos hE, ← fullL_succ, fullL_length] at ho3
        obtain ⟨xa, xc, rfl⟩ := owns_shape ho3
        subst he
        dsimp only
        have h40I : ¬ (40 : Int) ≤ m := by omega
        have hA3 : Below w3.heap.size w3 (w3.alloc (.cells #[.int .i64 1, .slice xa (m + 1) xc] 24)) := (Below.refl _ _).alloc (Nat.le_refl _) _
        have t0 := heap_keep (o := .cells #[.int .i64 1, .slice xa (m + 1) xc] 24) s0
        have d0 : (w3.alloc (.cells #[.int .i64 1, .slice xa (m + 1) xc] 24)).cell? ⟨w.heap.size, 0, none⟩ = some (.int .i64 1) := cells_at t0 0 _ rfl
        have d1 : (w3.alloc (.cells #[.int .i64 1, .slice xa (m + 1) xc] 24)).cell? ⟨w.heap.size, 1, none⟩ = some (.slice va m vc) := cells_at t0 1 _ rfl
        have f0 := frozen_at t0 0
        have f1 := frozen_at t0 1
        go_wp2_with fail
        go_roundw
        case rel =>
          have hB := hW.trans ((hb13.trans (hA3.mono hb13.size)).mono hW.size)
          have hR : ∃ (k' m' : Nat) (v' : Value), k' ≤ K ∧ Hid (m' = min k' 40) ∧ (Value.int .i64 ((m : Int) + 1)) = .int .i64 k' ∧ Below w.heap.size w (((w3.alloc (.cells #[.int .i64 1, .slice xa (m + 1) xc] 24)).setCell ⟨w.heap.size, 0, none⟩ (.int .i64 1)).setCell ⟨w.heap.size, 1, none⟩ (.slice xa (m + 1) xc)) ∧ (((w3.alloc (.cells #[.int .i64 1, .slice xa (m + 1) xc] 24)).setCell ⟨w.heap.size, 0, none⟩ (.int .i64 1)).setCell ⟨w.heap.size, 1, none⟩ (.slice xa (m + 1) xc)).heap[w.heap.size]? = some (.cells #[.int .i64 1, v'] 24 (0, 0)) ∧ (((w3.alloc (.cells #[.int .i64 1, .slice xa (m + 1) xc] 24)).setCell ⟨w.heap.size, 0, none⟩ (.int .i64 1)).setCell ⟨w.heap.size, 1, none⟩ (.slice xa (m + 1) xc)).ownsRow (w.heap.size + 1) 9 1 v' m' (sv (fullL m')) :=
            ⟨m + 1, m + 1, .slice xa (m + 1) xc, by omega, by show _ = _; omega, by go_num, (hB.setCell (by simp) _).setCell (by simp) _, by simpa using heap_setCell_same _ _ 1 _ _ (.slice xa (m + 1) xc) (heap_setCell_same _ _ 0 _ _ (.int .i64 1) t0), owns_far (owns_far (World.ownsRow.alloc (ownsRow_base' ho3 (by simp; omega)) _) _ _ _ (by omega)) _ _ _ (by omega)⟩
          first | exact hR | ((repeat apply Exists.intro); exact ⟨hR, rfl⟩)
        case measure => simp [intOf]; omega
      · obtain rfl : m = 40 := by have := hm.out; omega
        have hE := full_full (k := k) (by omega) (by omega)
        rw [addN, if_neg (by rw [hE]; decide), hE] at he
        rw [addS, if_neg (by rw [hE]; decide)] at ho3
        obtain ⟨xa, xc, rfl⟩ := owns_shape ho3
        subst he
        dsimp only
        have h40I : (40 : Int) ≤ k := by omega
        go_wp2_with fail
        go_roundw
        case rel =>
          have hB := hW.trans (hb13.mono hW.size)
          have hR : ∃ (k' m' : Nat) (v' : Value), k' ≤ K ∧ Hid (m' = min k' 40) ∧ (Value.int .i64 ((k : Int) + 1)) = .int .i64 k' ∧ Below w.heap.size w (w3.alloc (.cells #[.int .i64 0, .slice xa 0 xc] 24)) ∧ (w3.alloc (.cells #[.int .i64 0, .slice xa 0 xc] 24)).heap[w.heap.size]? = some (.cells #[.int .i64 1, v'] 24 (0, 0)) ∧ (w3.alloc (.cells #[.int .i64 0, .slice xa 0 xc] 24)).ownsRow (w.heap.size + 1) 9 1 v' m' (sv (fullL m')) :=
            ⟨k + 1, 40, _, by omega, by show _ = _; omega, by go_num, hB.alloc hB.size _, heap_keep s0, World.ownsRow.alloc (owns_keep ho hb13) _⟩
          first | exact hR | ((repeat apply Exists.intro); exact ⟨hR, rfl⟩)
        case measure => simp [intOf]; omega
    · obtain rfl : k = K := by omega
      have hltI : ¬ (k : Int) < k := by omega
      clear c0
      go_wp2_with fail
      refine (add_bad 0 none 0 0 [] ⟨#[97]⟩ wr 12 rfl ⟨Nat.le_refl _, by decide, fun _ => rfl, ⟨.inl rfl, fun s h => by cases h⟩⟩ (by decide) zero_bad (by decide)).mono ?_
      rintro e w3 ⟨xa, xc, he, hb3⟩
      subst he
      dsimp only
      have s0 := (hb3.block _ (lt_of_heap r0)).trans r0
      have t0 := heap_keep (o := .cells #[.int .i64 0, .slice xa 0 xc] 24) s0
      have d1 : (w3.alloc (.cells #[.int .i64 0, .slice xa 0 xc] 24)).cell? ⟨w.heap.size, 1, none⟩ = some (.slice va m vc) := cells_at t0 1 _ rfl
      have hB := hW.trans (hb3.mono hW.size)
      by_cases h40 : k ≤ 40
      · have h40I : (k : Int) ≤ 40 := by omega
        obtain rfl : m = k := by have := hm.out; omega
        go_wp2_with fail
        go_ret
        exact ⟨by first | rfl | simp, hB.alloc hB.size _⟩
      · have h40I : ¬ (k : Int) ≤ 40 := by omega
        obtain rfl : m = 40 := by have := hm.out; omega
        go_wp2_with fail
        go_ret
        exact ⟨by first | rfl | simp, hB.alloc hB.size _⟩
end Go.Proofs.Ytikolpdedmhljaa
