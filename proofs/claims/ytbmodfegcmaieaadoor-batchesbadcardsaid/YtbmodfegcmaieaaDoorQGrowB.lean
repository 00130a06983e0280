/- The batches of dags of raw numbers. -/
import Derived.Test.YtbmodfegcmaieaaDoorGGrowG
import Derived.Test.YtbmodfegcmaieaaDoorGBcF
namespace Go.Proofs.YtbmodfegcmaieaaDoor
open Go.RowKit

def BV.w (b : BV) : BW := ⟨b.au, b.nu, [b.s1, b.s2]⟩
set_option maxRecDepth 100000 in
theorem BV.w_d (b : BV) : b.w.d = b.d := rfl
set_option maxRecDepth 100000 in
theorem sBv_f (s : Stp) (i b : Nat) (hi : i ≤ 1000) (hb : b < 2) : (sBv s i b).w.f = 0 := by
  have hp := pk_bounds s.x 4 (by decide)
  show batchF (pk s.x 4) (1 + 3 * (i : Int) + b) [bstr [97 + (i : Int)], bstr [65 + pk s.z 7, 48 + (b : Int)]] = 0
  have h1 : (bstr [97 + (i : Int)]).size = 1 := bstr_sz _
  have h2 : (bstr [65 + pk s.z 7, 48 + (b : Int)]).size = 2 := bstr_sz _
  unfold batchF
  rw [if_neg (by omega), if_neg (by simp), if_pos (by simp [txOk, h1, h2])]
set_option maxRecDepth 100000 in
theorem sBs_mem {s : Stp} {i n : Nat} {b : BV} (h : b ∈ sBs s i n) : ∃ j, j < n ∧ b = sBv s i j := by
  obtain ⟨j, hj, rfl⟩ := List.mem_map.1 h
  exact ⟨j, List.mem_range.1 hj, rfl⟩
set_option maxRecDepth 100000 in
theorem bvTo_mem {l : List Stp} {k : Nat} {b : BV} (h : b ∈ bvTo l k) : ∃ i j, i < k ∧ j < sN (sAt l i) ∧ b = sBv (sAt l i) i j := by
  induction k with
  | zero => cases h
  | succ k ih =>
    rw [bvTo] at h
    rcases List.mem_append.1 h with h | h
    · obtain ⟨i, j, h1, h2⟩ := ih h
      exact ⟨i, j, by omega, h2⟩
    · obtain ⟨j, h1, h2⟩ := sBs_mem h
      exact ⟨k, j, by omega, h1, h2⟩
set_option maxRecDepth 100000 in
theorem bvTo_f {l : List Stp} {k : Nat} (hk : k ≤ 1000) : ∀ b ∈ bvTo l k, b.w.f = 0 := by
  intro b hb
  obtain ⟨i, j, h1, h2, rfl⟩ := bvTo_mem hb
  have := sN_le (sAt l i)
  exact sBv_f _ _ _ (by omega) (by omega)
set_option maxRecDepth 100000 in
theorem bvTo_nums (l : List Stp) (k : Nat) : (bvTo l k).Pairwise (fun a b => a.nu < b.nu) := by
  induction k with
  | zero => exact List.Pairwise.nil
  | succ k ih =>
    rw [bvTo, List.pairwise_append]
    refine ⟨ih, ?_, ?_⟩
    · rw [sBs, List.pairwise_map]
      refine List.Pairwise.imp ?_ (List.pairwise_lt_range)
      intro a b hab
      show 1 + 3 * (k : Int) + a < 1 + 3 * (k : Int) + b
      omega
    · intro a ha b hb
      obtain ⟨i, j, h1, h2, rfl⟩ := bvTo_mem ha
      obtain ⟨j', h3, rfl⟩ := sBs_mem hb
      have := sN_le (sAt l i)
      show 1 + 3 * (i : Int) + j < 1 + 3 * (k : Int) + j'
      omega
set_option maxRecDepth 100000 in
theorem bvTo_sub {l : List Stp} {j k : Nat} (h : j ≤ k) : ∃ r, bvTo l k = bvTo l j ++ r := by
  induction k with
  | zero =>
    obtain rfl : j = 0 := by omega
    exact ⟨[], by simp⟩
  | succ k ih =>
    rcases Nat.lt_or_ge j (k + 1) with g | g
    · obtain ⟨r, hr⟩ := ih (by omega)
      exact ⟨r ++ sBs (sAt l k) k (sN (sAt l k)), by rw [bvTo, hr, List.append_assoc]⟩
    · obtain rfl : j = k + 1 := by omega
      exact ⟨[], by simp⟩
set_option maxRecDepth 100000 in
/-- The batches of a grown dag's certificates are there. -/
theorem GrownTo.batches {l : List Stp} {k : Nat} {c : List CV} (h : GrownTo l k c) : ∀ x ∈ c, ∀ d ∈ x.bl, ∃ b ∈ bvTo l k, b.d = d :=
  (GrownTo.keep (fun k c => ∀ x ∈ c, ∀ d ∈ x.bl, ∃ b ∈ bvTo l k, b.d = d) (fun x hx => by cases hx) (fun k c rd hp _ _ => by
    have hold : ∀ x ∈ c, ∀ d ∈ x.bl, ∃ b ∈ bvTo l (k + 1), b.d = d := fun x hx d hd => by
      obtain ⟨b, h1, h2⟩ := hp x hx d hd
      exact ⟨b, by rw [bvTo]; exact List.mem_append.2 (.inl h1), h2⟩
    refine ⟨fun _ x hx => ?_, fun _ => hold⟩
    rcases List.mem_append.1 hx with hx | hx
    · exact hold x hx
    · obtain rfl : x = _ := by simpa using hx
      intro d hd
      obtain ⟨b, hb, rfl⟩ := List.mem_map.1 (show d ∈ (sBs (sAt l k) k (sN (sAt l k))).map BV.d from hd)
      exact ⟨b, by rw [bvTo]; exact List.mem_append.2 (.inr hb), rfl⟩) h).1
/-- Two unlike batches have one digest. -/
def CollB (l : List BW) : Prop := ∃ K I, K < I ∧ I < l.length ∧ (l.getD I ⟨0, 0, []⟩).d = (l.getD K ⟨0, 0, []⟩).d ∧ (l.getD I ⟨0, 0, []⟩) ≠ (l.getD K ⟨0, 0, []⟩)
set_option maxRecDepth 100000 in
theorem BW.d_u8 (b : BW) : ∀ x ∈ b.d, 0 ≤ x ∧ x ≤ 255 := digU8To _ _
set_option maxRecDepth 100000 in
theorem nums_ne {l : List BW} (h : l.Pairwise (fun a b => a.nu < b.nu)) {K I : Nat} (hK : K < I) (hI : I < l.length) : (l.getD K ⟨0, 0, []⟩).nu < (l.getD I ⟨0, 0, []⟩).nu := by
  rw [List.pairwise_iff_getElem] at h
  have := h K I (by omega) hI hK
  simpa [hI, show K < l.length by omega] using this
set_option maxRecDepth 100000 in
/-- Batches that may be, with numbers that rise, may be together; or two unlike ones have one digest. -/
theorem bsF_or_coll {l : List BW} (hl : l.length ≤ 800) (hf : ∀ b ∈ l, b.f = 0) (hn : l.Pairwise (fun a b => a.nu < b.nu)) : bsF l = 0 ∨ CollB l := by
  by_cases h : ∃ k, k < l.length ∧ badB l k = true
  · right
    obtain ⟨k, hk, hb⟩ := h
    have hm : l.getD k ⟨0, 0, []⟩ ∈ l := by simp [hk]
    simp only [badB, hf _ hm, ne_eq, not_true_eq_false, decide_false, Bool.false_or] at hb
    obtain ⟨b, hb1, hb2⟩ := List.any_eq_true.1 hb
    obtain ⟨j, hj, rfl⟩ := List.getElem_of_mem hb1
    have hjk : j < k := by rw [List.length_take] at hj; omega
    have e : (l.take k)[j] = l.getD j ⟨0, 0, []⟩ := by simp [show j < l.length by omega]
    rw [e] at hb2
    refine ⟨j, k, hjk, hk, (bstr_inj (BW.d_u8 _) (BW.d_u8 _) (of_decide_eq_true hb2)).symm, fun e => ?_⟩
    have := nums_ne hn hjk hk
    rw [e] at this; omega
  · left
    refine bsF_ok hl (fun k hk => ?_)
    cases hb : badB l k with
    | false => rfl
    | true => exact absurd ⟨k, hk, hb⟩ h
set_option maxRecDepth 100000 in
theorem grown_pre {l m : List Stp} {k : Nat} {c : List CV} (hk : k ≤ l.length) : GrownTo (l ++ m) k c ↔ GrownTo l k c := by
  induction k generalizing c with
  | zero => exact Iff.rfl
  | succ k ih =>
    have e : sAt (l ++ m) k = sAt l k := by simp [sAt, List.getD, List.getElem?_append_left (show k < l.length by omega)]
    simp only [GrownTo, e]
    constructor
    · rintro ⟨c0, h1, h2⟩; exact ⟨c0, (ih (by omega)).1 h1, h2⟩
    · rintro ⟨c0, h1, h2⟩; exact ⟨c0, (ih (by omega)).2 h1, h2⟩
set_option maxRecDepth 100000 in
theorem bvTo_pre {l m : List Stp} {k : Nat} (hk : k ≤ l.length) : bvTo (l ++ m) k = bvTo l k := by
  induction k with
  | zero => rfl
  | succ k ih =>
    have e : sAt (l ++ m) k = sAt l k := by simp [sAt, List.getD, List.getElem?_append_left (show k < l.length by omega)]
    rw [bvTo, bvTo, ih (by omega), e]
set_option maxRecDepth 100000 in
theorem grown_more {l : List Stp} {j k : Nat} {c c' : List CV} (h : GrownTo l j c) (h' : GrownTo l k c') (hjk : j ≤ k) : ∃ r, c' = c ++ r := by
  induction k generalizing c' with
  | zero =>
    obtain rfl : j = 0 := by omega
    exact ⟨[], by rw [h'.one h]; simp⟩
  | succ k ih =>
    rcases Nat.lt_or_ge j (k + 1) with g | g
    · obtain ⟨c0, h1, rd, h2, rfl⟩ := h'
      obtain ⟨r, hr⟩ := ih h1 (by omega)
      split
      · exact ⟨r ++ [sC (sAt l k) k c0 rd], by rw [← List.append_assoc, ← hr]⟩
      · exact ⟨r, hr⟩
    · obtain rfl : j = k + 1 := by omega
      exact ⟨[], by rw [h'.one h]; simp⟩
end Go.Proofs.YtbmodfegcmaieaaDoor
