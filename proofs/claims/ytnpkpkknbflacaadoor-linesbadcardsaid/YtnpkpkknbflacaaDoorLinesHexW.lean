/- LinesHex answers true for every argument. -/
import Derived.Test.YtnpkpkknbflacaaDoorLnM3
import Derived.Test.YtnpkpkknbflacaaDoorLnA
import Derived.Test.YtnpkpkknbflacaaDoorLinesBackW
namespace Go.Proofs.YtnpkpkknbflacaaDoor
open Go.RowKit

set_option maxRecDepth 100000 in
theorem read_bad (l : List UInt8) (hl : l ≠ []) (e : Int) (he : nextC l = e) (h0 : e ≠ 0) : readE l = e ∧ readP l = 0 ∧ readAs l = [] := by
  have h : readR l = ([], e) := bad_first 0 l.length (by omega) l hl e he h0
  unfold readE readP readAs
  rw [h]
  simp [h0]
set_option maxRecDepth 100000 in
theorem line_submit (x : Int) (t : ByteArray) (h0 : 0 ≤ x) (h1 : x < 4) : ((⟨1, x, 0, t⟩ : AV).line).length = 10 + 2 * t.size := by
  have e : Lib.itoa x = [UInt8.ofNat (48 + x.toNat)] := by rw [itoa_dec x h0, Lib.decDigits_one (by omega)]
  have hx := hexU_length t.data.toList
  rw [show t.data.toList.length = t.size from Array.length_toList] at hx
  show (lineU 1 x 0 t.data.toList).length = _
  rw [lineU, e, if_pos (by decide), if_neg (by decide), if_pos (by decide)]
  simp only [List.length_append, List.length_cons, List.length_nil, hx]
  have : (wordL 1).length = 6 := by decide
  omega
set_option maxRecDepth 100000 in
set_option maxHeartbeats 4000000 in
theorem linesHex_walk (s : ByteArray) (n : Int) (w : World) (hs : s.size ≤ maxLen) (hn0 : -9223372036854775808 ≤ n) (hn1 : n ≤ 9223372036854775807) (hT : LTabs w) :
    Calls Tryd.prog 10 #[.string s, .int .i64 n] w fun e w' => e = .returned (.bool true) ∧ Below w.heap.size w w' := by
  obtain ⟨m0, m1⟩ := pk_bounds n 4 (by omega)
  have HP := fun w => picked_any n 4 w hn0 hn1 (by omega) (by omega)
  generalize pk n 4 = x at *
  go_enter Tryd.func10, Tryd.ntmps10
  go_wp2_with fail
  refine (cutL_any s 100 w hs (by omega)).mono ?_
  rintro e w1 ⟨t, he, hts, rfl⟩
  subst he
  dsimp only
  go_wp2_with fail
  refine (HP _).mono ?_
  rintro e w1 ⟨he, rfl⟩
  subst he
  dsimp only
  have hae : (⟨1, x, 0, t⟩ : AV).e = 0 := ok_of 1 x 0 t (by omega) (by omega) (by omega) (by omega) (fun h => absurd h (by decide)) (fun _ => rfl) (fun h => absurd h (by decide))
  have hat : t.size ≤ maxLen := by unfold maxLen; omega
  have hall : ∀ a ∈ [(⟨1, x, 0, t⟩ : AV)], a.e = 0 := by intro a ha; simp at ha; subst ha; exact hae
  obtain ⟨s1, s2, s3⟩ := show_ok [⟨1, x, 0, t⟩] hall (by simp)
  obtain ⟨r1, r2, r3⟩ := read_line [⟨1, x, 0, t⟩] hall (by simp)
  have hll := line_submit x t m0 m1
  have hfl : [(⟨1, x, 0, t⟩ : AV)].flatMap AV.line = (⟨1, x, 0, t⟩ : AV).line := by simp
  rw [hfl] at s3 r1 r2 r3
  have qA := heap_keep (o := .cells #[.int .i64 1, .int .i64 x, .int .i64 0, .string t] 30) (heap_alloc_new w (.cells #[.int .i64 1, .int .i64 x, .int .i64 0, .string t] 30))
  have hB0 : Below w.heap.size w (w.alloc (.cells #[.int .i64 1, .int .i64 x, .int .i64 0, .string t] 30)) := (Below.refl _ _).alloc (Nat.le_refl _) _
  have hB1 := hB0.alloc hB0.size (.cells #[.int .i64 1, .int .i64 x, .int .i64 0, .string t] 30)
  have HS := show_any [⟨1, x, 0, t⟩] (some ⟨(w.alloc (.cells #[.int .i64 1, .int .i64 x, .int .i64 0, .string t] 30)).heap.size, 0, none⟩) 1 1 _ rfl (by decide) (acts_one (w.alloc (.cells #[.int .i64 1, .int .i64 x, .int .i64 0, .string t] 30)) ⟨1, x, 0, t⟩ hat) (hT.below hB1).s
  rw [s1, s2, s3, size_alloc] at HS
  clear s1 s2 s3 hfl
  generalize (⟨1, x, 0, t⟩ : AV).line = X at *
  go_wp2_with fail
  refine HS.mono ?_
  rintro e w2 ⟨he, hb2⟩
  subst he
  dsimp only
  have qA2 := (hb2.block _ (lt_of_heap qA)).trans qA
  have hB2 := hB1.trans (hb2.mono hB1.size)
  clear HS hB0 qA hb2 hB1
  have HR := read_any ⟨X.toArray⟩ w2 (by rw [mk_size]; omega) (hT.below hB2)
  rw [mk_list] at HR
  go_wp2_with fail
  refine HR.mono ?_
  rintro e w3 ⟨⟨vR, he, hoR⟩, hb3⟩
  subst he
  dsimp only
  clear HR
  rw [r1, r2]
  rw [r3] at hoR
  have qA3 := (hb3.block _ (lt_of_heap qA2)).trans qA2
  have hB3 := hB2.trans (hb3.mono hB2.size)
  clear r1 r2 r3 qA2 hB2 hb3
  obtain ⟨b1, b2, b3⟩ := read_bad [102, 111, 114, 103, 101, 32, 48, 32, 48, 71, 10] (by simp) 4 forge_bad (by decide)
  have HR2 := read_any ⟨#[102, 111, 114, 103, 101, 32, 48, 32, 48, 71, 10]⟩ w3 (by decide) (hT.below hB3)
  rw [show (⟨#[102, 111, 114, 103, 101, 32, 48, 32, 48, 71, 10]⟩ : ByteArray).data.toList = [102, 111, 114, 103, 101, 32, 48, 32, 48, 71, 10] from rfl] at HR2
  go_wp2_with fail
  refine HR2.mono ?_
  rintro e w4 ⟨⟨vQ, he, _⟩, hb4⟩
  subst he
  dsimp only
  clear HR2
  rw [b1, b2]
  clear b1 b2 b3
  have qA4 := (hb4.block _ (lt_of_heap qA3)).trans qA3
  have hoR4 := owns_keep hoR hb4
  have hB4 := hB3.trans (hb4.mono hB3.size)
  obtain ⟨saR, capR, hvR, _, _, hActR⟩ := acts_of_owns hoR4 (ok_text hall)
  subst hvR
  rcases hActR.cells with hc | ⟨sb, so, hsa, hc⟩
  · cases hc
  subst hsa
  obtain ⟨c0, c1, c2, c3⟩ := hc 0 (by simp)
  rw [show [(⟨1, x, 0, t⟩ : AV)].getD 0 AV.z = ⟨1, x, 0, t⟩ from rfl] at c0 c1 c2 c3
  simp only [Nat.zero_mul, Nat.add_zero, List.length_cons, List.length_nil, Nat.zero_add] at c0 c1 c2 c3 ⊢
  have d0 := cells_at qA4 0 _ rfl
  have d1 := cells_at qA4 1 _ rfl
  have d2 := cells_at qA4 2 _ rfl
  have d3 := cells_at qA4 3 _ rfl
  have hXI : (X.length : Int) = 10 + 2 * (t.size : Int) := by omega
  clear hc hActR hoR hoR4 hall hae hll
  go_wp2_with fail
  go_region
  all_goals
    go_wp2_with fail
    go_ret
    exact ⟨rfl, hB4.drew⟩
end Go.Proofs.YtnpkpkknbflacaaDoor
