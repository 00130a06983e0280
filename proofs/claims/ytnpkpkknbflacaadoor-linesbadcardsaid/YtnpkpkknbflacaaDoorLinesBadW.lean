/- LinesBad answers true for every argument. -/
import Derived.Test.YtnpkpkknbflacaaDoorLnM3
import Derived.Test.YtnpkpkknbflacaaDoorLnA
import Derived.Test.YtnpkpkknbflacaaDoorLinesHexW
import Derived.Test.YtnpkpkknbflacaaDoorOpenF
import Derived.Deep.CutRange
import Derived.Deep.CutBlock
import Derived.Deep.DeepCutAuto
namespace Go.Proofs.YtnpkpkknbflacaaDoor
open Go.RowKit

/-- Lines that are wrong, and what is told of them. -/
def badL : List (List UInt8) := [[], [83, 117, 98, 109, 105, 116, 32, 48, 32, 48, 48, 10], [115, 117, 98, 109, 105, 116, 32, 48, 10], [115, 117, 98, 109, 105, 116, 32, 48, 32, 48, 10], [115, 117, 98, 109, 105, 116, 32, 48, 32, 48, 65, 10], [119, 111, 114, 107, 10], [119, 111, 114, 107, 32, 52, 10], [119, 111, 114, 107, 32, 48, 49, 10], [119, 111, 114, 107, 32, 45, 49, 10], [116, 97, 107, 101, 10], [116, 97, 107, 101, 32, 52, 48, 48, 48, 48, 49, 10], [102, 108, 111, 119, 32, 49, 10], [99, 114, 97, 115, 104, 32, 49, 10], [102, 111, 114, 103, 101, 32, 32, 10], [32, 115, 121, 110, 99, 32, 48, 10], [115, 116, 97, 114, 116, 32, 48, 32, 10], [99, 111, 112, 121, 32, 49, 32, 50]]
def badE : List Int := [4, 4, 4, 4, 4, 4, 2, 4, 4, 4, 2, 4, 4, 4, 4, 4, 4]
set_option maxRecDepth 100000 in
theorem bad_next : ∀ b : Fin 17, b.val ≠ 0 → nextC (badL.getD b.val []) = badE.getD b.val 0 ∧ badL.getD b.val [] ≠ [] ∧ badE.getD b.val 0 ≠ 0 := by decide +kernel
set_option maxRecDepth 100000 in
theorem bad_short : ∀ b : Fin 17, (badL.getD b.val []).length ≤ 20 := by decide +kernel
set_option maxRecDepth 100000 in
theorem bad_cell (b : Nat) (h : b < 17) : (#[.string ⟨#[]⟩, .string ⟨#[83, 117, 98, 109, 105, 116, 32, 48, 32, 48, 48, 10]⟩, .string ⟨#[115, 117, 98, 109, 105, 116, 32, 48, 10]⟩, .string ⟨#[115, 117, 98, 109, 105, 116, 32, 48, 32, 48, 10]⟩, .string ⟨#[115, 117, 98, 109, 105, 116, 32, 48, 32, 48, 65, 10]⟩, .string ⟨#[119, 111, 114, 107, 10]⟩, .string ⟨#[119, 111, 114, 107, 32, 52, 10]⟩, .string ⟨#[119, 111, 114, 107, 32, 48, 49, 10]⟩, .string ⟨#[119, 111, 114, 107, 32, 45, 49, 10]⟩, .string ⟨#[116, 97, 107, 101, 10]⟩, .string ⟨#[116, 97, 107, 101, 32, 52, 48, 48, 48, 48, 49, 10]⟩, .string ⟨#[102, 108, 111, 119, 32, 49, 10]⟩, .string ⟨#[99, 114, 97, 115, 104, 32, 49, 10]⟩, .string ⟨#[102, 111, 114, 103, 101, 32, 32, 10]⟩, .string ⟨#[32, 115, 121, 110, 99, 32, 48, 10]⟩, .string ⟨#[115, 116, 97, 114, 116, 32, 48, 32, 10]⟩, .string ⟨#[99, 111, 112, 121, 32, 49, 32, 50]⟩] : Array Value)[b]? = some (.string ⟨(badL.getD b []).toArray⟩) := by
  have hb : b = 0 ∨ b = 1 ∨ b = 2 ∨ b = 3 ∨ b = 4 ∨ b = 5 ∨ b = 6 ∨ b = 7 ∨ b = 8 ∨ b = 9 ∨ b = 10 ∨ b = 11 ∨ b = 12 ∨ b = 13 ∨ b = 14 ∨ b = 15 ∨ b = 16 := by omega
  rcases hb with rfl | rfl | rfl | rfl | rfl | rfl | rfl | rfl | rfl | rfl | rfl | rfl | rfl | rfl | rfl | rfl | rfl <;> rfl
set_option maxRecDepth 100000 in
theorem bad_ecell (b : Nat) (h : b < 17) : (#[.int .i64 4, .int .i64 4, .int .i64 4, .int .i64 4, .int .i64 4, .int .i64 4, .int .i64 2, .int .i64 4, .int .i64 4, .int .i64 4, .int .i64 2, .int .i64 4, .int .i64 4, .int .i64 4, .int .i64 4, .int .i64 4, .int .i64 4] : Array Value)[b]? = some (.int .i64 (badE.getD b 0)) := by
  have hb : b = 0 ∨ b = 1 ∨ b = 2 ∨ b = 3 ∨ b = 4 ∨ b = 5 ∨ b = 6 ∨ b = 7 ∨ b = 8 ∨ b = 9 ∨ b = 10 ∨ b = 11 ∨ b = 12 ∨ b = 13 ∨ b = 14 ∨ b = 15 ∨ b = 16 := by omega
  rcases hb with rfl | rfl | rfl | rfl | rfl | rfl | rfl | rfl | rfl | rfl | rfl | rfl | rfl | rfl | rfl | rfl | rfl <;> rfl
set_option maxRecDepth 100000 in
theorem read_then (l : List AV) (h : ∀ a ∈ l, a.e = 0) (hl : l.length ≤ 2000) (r : List UInt8) (hr : r ≠ []) (e : Int) (he : nextC r = e) (h0 : e ≠ 0) : readE (l.flatMap AV.line ++ r) = e ∧ readP (l.flatMap AV.line ++ r) = l.length ∧ readAs (l.flatMap AV.line ++ r) = [] := by
  obtain ⟨f', g1, g2⟩ := rdAll_line l ((l.flatMap AV.line ++ r).length + 1) 0 r h (by omega) (by omega)
  obtain ⟨m, rfl⟩ : ∃ m, f' = m + 1 := ⟨f' - 1, by omega⟩
  rw [bad_first (0 + l.length) m (by omega) r hr e he h0] at g2
  have e2 : readR (l.flatMap AV.line ++ r) = (l, e) := by
    show rdAll _ 0 _ = _
    rw [g2, List.append_nil]
  unfold readE readP readAs
  rw [e2]
  simp [h0]
set_option maxRecDepth 100000 in
theorem show_one (a : AV) (h : a.e = 0) : showE [a] = 0 ∧ showP [a] = 0 ∧ showT [a] = a.line := by
  obtain ⟨h1, h2, h3⟩ := show_ok [a] (by intro x hx; simp at hx; subst hx; exact h) (by simp)
  exact ⟨h1, h2, by rw [h3]; simp⟩
set_option maxRecDepth 100000 in
set_option maxHeartbeats 4000000 in
theorem linesBad_walk (sa0 : Option Addr) (cap0 : Nat) (rs0 : List Ft) (at' bad : Int) (w : World) (h0 : FtsAt w sa0 rs0) (_h0c : rs0.length ≤ cap0) (ha0 : -9223372036854775808 ≤ at') (ha1 : at' ≤ 9223372036854775807) (hb0 : -9223372036854775808 ≤ bad) (hb1 : bad ≤ 9223372036854775807) (hT : LTabs w) :
    Calls Tryd.prog 6 #[.slice sa0 rs0.length cap0, .int .i64 at', .int .i64 bad] w fun e w' => e = .returned (.bool true) ∧ Below w.heap.size w w' := by
  have hm0 := h0.small
  obtain ⟨n, hn⟩ : ∃ n : Nat, min (rs0.length : Int) 12 = n := ⟨min rs0.length 12, by omega⟩
  have hn1 : n ≤ 12 := by omega
  have hn2 : n ≤ rs0.length := by omega
  obtain ⟨k0, k1⟩ := pk_bounds at' ((n : Int) + 1) (by omega)
  obtain ⟨q0, q1⟩ := pk_bounds bad 17 (by omega)
  have HA := fun w => picked_any at' ((n : Int) + 1) w ha0 ha1 (by omega) (by omega)
  have HB := fun w => picked_any bad 17 w hb0 hb1 (by omega) (by omega)
  generalize pk at' ((n : Int) + 1) = kI at *
  generalize pk bad 17 = bI at *
  obtain ⟨k, rfl⟩ : ∃ k : Nat, kI = k := ⟨kI.toNat, by omega⟩
  obtain ⟨b, rfl⟩ : ∃ b : Nat, bI = b := ⟨bI.toNat, by omega⟩
  have hb17 : b < 17 := by omega
  have hkn : k ≤ n := by omega
  have qL : ((w.alloc (.cells #[.string ⟨#[]⟩, .string ⟨#[83, 117, 98, 109, 105, 116, 32, 48, 32, 48, 48, 10]⟩, .string ⟨#[115, 117, 98, 109, 105, 116, 32, 48, 10]⟩, .string ⟨#[115, 117, 98, 109, 105, 116, 32, 48, 32, 48, 10]⟩, .string ⟨#[115, 117, 98, 109, 105, 116, 32, 48, 32, 48, 65, 10]⟩, .string ⟨#[119, 111, 114, 107, 10]⟩, .string ⟨#[119, 111, 114, 107, 32, 52, 10]⟩, .string ⟨#[119, 111, 114, 107, 32, 48, 49, 10]⟩, .string ⟨#[119, 111, 114, 107, 32, 45, 49, 10]⟩, .string ⟨#[116, 97, 107, 101, 10]⟩, .string ⟨#[116, 97, 107, 101, 32, 52, 48, 48, 48, 48, 49, 10]⟩, .string ⟨#[102, 108, 111, 119, 32, 49, 10]⟩, .string ⟨#[99, 114, 97, 115, 104, 32, 49, 10]⟩, .string ⟨#[102, 111, 114, 103, 101, 32, 32, 10]⟩, .string ⟨#[32, 115, 121, 110, 99, 32, 48, 10]⟩, .string ⟨#[115, 116, 97, 114, 116, 32, 48, 32, 10]⟩, .string ⟨#[99, 111, 112, 121, 32, 49, 32, 50]⟩] 9)).alloc (.cells #[.int .i64 4, .int .i64 4, .int .i64 4, .int .i64 4, .int .i64 4, .int .i64 4, .int .i64 2, .int .i64 4, .int .i64 4, .int .i64 4, .int .i64 2, .int .i64 4, .int .i64 4, .int .i64 4, .int .i64 4, .int .i64 4, .int .i64 4] 23)).heap[w.heap.size]? = some (.cells #[.string ⟨#[]⟩, .string ⟨#[83, 117, 98, 109, 105, 116, 32, 48, 32, 48, 48, 10]⟩, .string ⟨#[115, 117, 98, 109, 105, 116, 32, 48, 10]⟩, .string ⟨#[115, 117, 98, 109, 105, 116, 32, 48, 32, 48, 10]⟩, .string ⟨#[115, 117, 98, 109, 105, 116, 32, 48, 32, 48, 65, 10]⟩, .string ⟨#[119, 111, 114, 107, 10]⟩, .string ⟨#[119, 111, 114, 107, 32, 52, 10]⟩, .string ⟨#[119, 111, 114, 107, 32, 48, 49, 10]⟩, .string ⟨#[119, 111, 114, 107, 32, 45, 49, 10]⟩, .string ⟨#[116, 97, 107, 101, 10]⟩, .string ⟨#[116, 97, 107, 101, 32, 52, 48, 48, 48, 48, 49, 10]⟩, .string ⟨#[102, 108, 111, 119, 32, 49, 10]⟩, .string ⟨#[99, 114, 97, 115, 104, 32, 49, 10]⟩, .string ⟨#[102, 111, 114, 103, 101, 32, 32, 10]⟩, .string ⟨#[32, 115, 121, 110, 99, 32, 48, 10]⟩, .string ⟨#[115, 116, 97, 114, 116, 32, 48, 32, 10]⟩, .string ⟨#[99, 111, 112, 121, 32, 49, 32, 50]⟩] 9 (0, 0)) := heap_keep (heap_alloc_new w _)
  have qE : ((w.alloc (.cells #[.string ⟨#[]⟩, .string ⟨#[83, 117, 98, 109, 105, 116, 32, 48, 32, 48, 48, 10]⟩, .string ⟨#[115, 117, 98, 109, 105, 116, 32, 48, 10]⟩, .string ⟨#[115, 117, 98, 109, 105, 116, 32, 48, 32, 48, 10]⟩, .string ⟨#[115, 117, 98, 109, 105, 116, 32, 48, 32, 48, 65, 10]⟩, .string ⟨#[119, 111, 114, 107, 10]⟩, .string ⟨#[119, 111, 114, 107, 32, 52, 10]⟩, .string ⟨#[119, 111, 114, 107, 32, 48, 49, 10]⟩, .string ⟨#[119, 111, 114, 107, 32, 45, 49, 10]⟩, .string ⟨#[116, 97, 107, 101, 10]⟩, .string ⟨#[116, 97, 107, 101, 32, 52, 48, 48, 48, 48, 49, 10]⟩, .string ⟨#[102, 108, 111, 119, 32, 49, 10]⟩, .string ⟨#[99, 114, 97, 115, 104, 32, 49, 10]⟩, .string ⟨#[102, 111, 114, 103, 101, 32, 32, 10]⟩, .string ⟨#[32, 115, 121, 110, 99, 32, 48, 10]⟩, .string ⟨#[115, 116, 97, 114, 116, 32, 48, 32, 10]⟩, .string ⟨#[99, 111, 112, 121, 32, 49, 32, 50]⟩] 9)).alloc (.cells #[.int .i64 4, .int .i64 4, .int .i64 4, .int .i64 4, .int .i64 4, .int .i64 4, .int .i64 2, .int .i64 4, .int .i64 4, .int .i64 4, .int .i64 2, .int .i64 4, .int .i64 4, .int .i64 4, .int .i64 4, .int .i64 4, .int .i64 4] 23)).heap[w.heap.size + 1]? = some (.cells #[.int .i64 4, .int .i64 4, .int .i64 4, .int .i64 4, .int .i64 4, .int .i64 4, .int .i64 2, .int .i64 4, .int .i64 4, .int .i64 4, .int .i64 2, .int .i64 4, .int .i64 4, .int .i64 4, .int .i64 4, .int .i64 4, .int .i64 4] 23 (0, 0)) := heap_new_at _ _ _ (by simp)
  have cL := cells_at qL b _ (bad_cell b hb17)
  have cE := cells_at qE b _ (bad_ecell b hb17)
  have hB0 : Below w.heap.size w ((w.alloc (.cells #[.string ⟨#[]⟩, .string ⟨#[83, 117, 98, 109, 105, 116, 32, 48, 32, 48, 48, 10]⟩, .string ⟨#[115, 117, 98, 109, 105, 116, 32, 48, 10]⟩, .string ⟨#[115, 117, 98, 109, 105, 116, 32, 48, 32, 48, 10]⟩, .string ⟨#[115, 117, 98, 109, 105, 116, 32, 48, 32, 48, 65, 10]⟩, .string ⟨#[119, 111, 114, 107, 10]⟩, .string ⟨#[119, 111, 114, 107, 32, 52, 10]⟩, .string ⟨#[119, 111, 114, 107, 32, 48, 49, 10]⟩, .string ⟨#[119, 111, 114, 107, 32, 45, 49, 10]⟩, .string ⟨#[116, 97, 107, 101, 10]⟩, .string ⟨#[116, 97, 107, 101, 32, 52, 48, 48, 48, 48, 49, 10]⟩, .string ⟨#[102, 108, 111, 119, 32, 49, 10]⟩, .string ⟨#[99, 114, 97, 115, 104, 32, 49, 10]⟩, .string ⟨#[102, 111, 114, 103, 101, 32, 32, 10]⟩, .string ⟨#[32, 115, 121, 110, 99, 32, 48, 10]⟩, .string ⟨#[115, 116, 97, 114, 116, 32, 48, 32, 10]⟩, .string ⟨#[99, 111, 112, 121, 32, 49, 32, 50]⟩] 9)).alloc (.cells #[.int .i64 4, .int .i64 4, .int .i64 4, .int .i64 4, .int .i64 4, .int .i64 4, .int .i64 2, .int .i64 4, .int .i64 4, .int .i64 4, .int .i64 2, .int .i64 4, .int .i64 4, .int .i64 4, .int .i64 4, .int .i64 4, .int .i64 4] 23)) := ((Below.refl _ _).alloc (Nat.le_refl _) _).alloc (by simp) _
  have bltL := lt_of_heap qL
  have bltE := lt_of_heap qE
  go_enter Tryd.func6, Tryd.ntmps6
  go_upto_region 3 with fail
  clear qL qE
  generalize ((w.alloc (.cells #[.string ⟨#[]⟩, .string ⟨#[83, 117, 98, 109, 105, 116, 32, 48, 32, 48, 48, 10]⟩, .string ⟨#[115, 117, 98, 109, 105, 116, 32, 48, 10]⟩, .string ⟨#[115, 117, 98, 109, 105, 116, 32, 48, 32, 48, 10]⟩, .string ⟨#[115, 117, 98, 109, 105, 116, 32, 48, 32, 48, 65, 10]⟩, .string ⟨#[119, 111, 114, 107, 10]⟩, .string ⟨#[119, 111, 114, 107, 32, 52, 10]⟩, .string ⟨#[119, 111, 114, 107, 32, 48, 49, 10]⟩, .string ⟨#[119, 111, 114, 107, 32, 45, 49, 10]⟩, .string ⟨#[116, 97, 107, 101, 10]⟩, .string ⟨#[116, 97, 107, 101, 32, 52, 48, 48, 48, 48, 49, 10]⟩, .string ⟨#[102, 108, 111, 119, 32, 49, 10]⟩, .string ⟨#[99, 114, 97, 115, 104, 32, 49, 10]⟩, .string ⟨#[102, 111, 114, 103, 101, 32, 32, 10]⟩, .string ⟨#[32, 115, 121, 110, 99, 32, 48, 10]⟩, .string ⟨#[115, 116, 97, 114, 116, 32, 48, 32, 10]⟩, .string ⟨#[99, 111, 112, 121, 32, 49, 32, 50]⟩] 9)).alloc (.cells #[.int .i64 4, .int .i64 4, .int .i64 4, .int .i64 4, .int .i64 4, .int .i64 4, .int .i64 2, .int .i64 4, .int .i64 4, .int .i64 4, .int .i64 2, .int .i64 4, .int .i64 4, .int .i64 4, .int .i64 4, .int .i64 4, .int .i64 4] 23)) = W2 at *
  go_wp2_with fail
  refine (HA _).mono ?_
  rintro e w1 ⟨he, rfl⟩
  subst he
  dsimp only
  go_wp2_with fail
  refine (HB _).mono ?_
  rintro e w1 ⟨he, rfl⟩
  subst he
  dsimp only
  clear HA HB hn
  go_wp2_with fail
  go_loopw [13, 12] (fun i t wr => ∃ (j : Nat) (l : List AV), j ≤ k ∧ i = .int .i64 j ∧ Hid (l.length = j) ∧ t = .string ⟨(l.flatMap AV.line).toArray⟩ ∧ Below W2.heap.size W2 wr ∧ Hid (∀ a ∈ l, a.e = 0)) (fun i _ _ => k - (intOf i).toNat)
  case atStart => exact ⟨0, [], Nat.zero_le _, rfl, rfl, rfl, Below.refl _ _, by show ∀ _, _; simp⟩
  case round =>
    obtain ⟨j, l, hj, rfl, hll, rfl, hb, hok⟩ := hrel
    have hLl := lines_len l hok.out
    rw [hll.out] at hLl
    have hBw := hB0.trans (hb.mono hB0.size)
    by_cases hlt : j < k
    · have hltI : (j : Int) < k := by omega
      have hlR : j < rs0.length := by omega
      have hltR : (j : Int) < rs0.length := by omega
      rcases (h0.below hBw).cells with hc | ⟨sb, so, hsa, hc⟩
      · subst hc; simp at hlR
      subst hsa
      obtain ⟨c0, c1, c2, c3⟩ := hc j hlR
      obtain ⟨j1, j2, j3, j4⟩ := h0.each (rs0[j]) (List.getElem_mem hlR)
      have HFt : Hid _ := h0
      clear hc
      have HAct := act_any (rs0[j]).k (rs0[j]).a (rs0[j]).b (rs0[j]).t wr j1 j2 j3 j4
      generalize (rs0[j]).k = fk at *
      generalize (rs0[j]).a = fa at *
      generalize (rs0[j]).b = fb' at *
      generalize (rs0[j]).t = ft at *
      go_wp2_with fail
      refine HAct.mono ?_
      rintro e w1 ⟨⟨x, he, hxe⟩, hb1⟩
      subst he
      dsimp only
      clear HAct c0 c1 c2 c3
      have hB1 := hb.trans (hb1.mono hb.size)
      have hB1w := hB0.trans (hB1.mono hB0.size)
      obtain ⟨s1, s2, s3⟩ := show_one x hxe
      have hB2w := hB1w.alloc hB1w.size (.cells #[.int .i64 x.k, .int .i64 x.n, .int .i64 x.p, .string x.t] 30)
      have hB2 := hB1.alloc hB1.size (.cells #[.int .i64 x.k, .int .i64 x.n, .int .i64 x.p, .string x.t] 30)
      have hxt : x.t.size ≤ maxLen := by have := (ok_bounds hxe).2.2.2.1; unfold maxLen; omega
      have hxl := line_len hxe
      have HS := show_any [x] (some ⟨w1.heap.size, 0, none⟩) 1 1 (w1.alloc (.cells #[.int .i64 x.k, .int .i64 x.n, .int .i64 x.p, .string x.t] 30)) rfl (by decide) (acts_one w1 x hxt) (hT.below hB2w).s
      rw [s1, s2, s3] at HS
      have HX : Hid (x.e = 0) := hxe
      clear hxe s1 s2 s3
      have Hfl : Hid ((l ++ [x]).flatMap AV.line = l.flatMap AV.line ++ x.line) := by show _ = _; simp
      have hfit : ¬ 9223372036854775807 < (l.flatMap AV.line).length + x.line.length := by omega
      generalize l.flatMap AV.line = X at *
      generalize x.line = Y at *
      go_wp2_with fail
      refine HS.mono ?_
      rintro e w2 ⟨he, hb2⟩
      subst he
      dsimp only
      clear HS
      go_wp2_with fail
      go_roundw
      case rel =>
        refine ⟨j + 1, l ++ [x], by omega, by go_num, by show _ = _; rw [List.length_append, hll.out]; rfl, ?_, hB2.trans (hb2.mono hB2.size), ?_⟩
        · rw [Hfl.out]
          congr 1
        · show ∀ _, _
          intro y hy
          rcases List.mem_append.1 hy with g | g
          · exact hok.out y g
          · simp at g; subst g; exact HX.out
      case measure => simp [intOf]; omega
    · obtain rfl : j = k := by omega
      have dL := (hb.cell (p := ⟨w.heap.size, b, none⟩) bltL).trans cL
      have dE := (hb.cell (p := ⟨w.heap.size + 1, b, none⟩) bltE).trans cE
      have hsh := bad_short ⟨b, hb17⟩
      dsimp only at hsh
      have hfit : ¬ 9223372036854775807 < (l.flatMap AV.line).length + (badL.getD b []).length := by omega
      have hcat : ((⟨(l.flatMap AV.line).toArray⟩ : ByteArray) ++ (⟨(badL.getD b []).toArray⟩ : ByteArray)) = ⟨(l.flatMap AV.line ++ badL.getD b []).toArray⟩ := by
        apply ba_ext
        rw [ByteArray.toList_eq, ByteArray.toList_eq, ByteArray.data_append]
        simp
      have HR := read_any ⟨(l.flatMap AV.line ++ badL.getD b []).toArray⟩ wr (by rw [mk_size, List.length_append]; omega) (hT.below hBw)
      rw [mk_list] at HR
      have hbI : (b : Int) < 17 := by omega
      by_cases hb0' : b = 0
      · subst hb0'
        rw [show badL.getD 0 [] = [] from rfl, List.append_nil] at HR hcat
        rw [show badL.getD 0 [] = [] from rfl] at dL hfit
        obtain ⟨r1, r2, r3⟩ := read_line l hok.out (by rw [hll.out]; omega)
        have HR' : Hid _ := HR
        clear cL cE HR
        have Hr : Hid (readE (l.flatMap AV.line) = 0 ∧ readP (l.flatMap AV.line) = 0 ∧ readAs (l.flatMap AV.line) = l) := ⟨r1, r2, r3⟩
        clear r1 r2 r3
        have Hcat : Hid _ := hcat
        clear hcat
        generalize l.flatMap AV.line = X at *
        simp only [List.length_nil, Nat.add_zero] at hfit
        go_wp2_with fail
        rw [Hcat.out]
        refine Calls.mono HR'.out ?_
        rintro e w2 ⟨⟨v, he, ho⟩, hb2⟩
        subst he
        dsimp only
        rw [Hr.out.1, Hr.out.2.1]
        rw [Hr.out.2.2, hll.out] at ho
        obtain ⟨sR, cR, hvR, _, _, _⟩ := acts_of_owns ho (ok_text hok.out)
        subst hvR
        have eL := (hb2.cell (p := ⟨w.heap.size, 0, none⟩) (Nat.lt_of_lt_of_le bltL hb.size)).trans dL
        go_wp2_with fail
        go_ret
        exact ⟨rfl, hBw.trans (hb2.mono hBw.size)⟩
      · obtain ⟨n1, n2, n3⟩ := bad_next ⟨b, hb17⟩ hb0'
        dsimp only at n1 n2 n3
        obtain ⟨r1, r2, r3⟩ := read_then l hok.out (by rw [hll.out]; omega) (badL.getD b []) n2 (badE.getD b 0) n1 n3
        rw [hll.out] at r2
        have hemp : (badL.getD b []).isEmpty = false := by
          cases hh : badL.getD b [] with
          | nil => exact absurd hh n2
          | cons x y => rfl
        clear cL cE n1 n2 n3
        have HR' : Hid _ := HR
        clear HR
        have Hr : Hid (readE (l.flatMap AV.line ++ badL.getD b []) = badE.getD b 0 ∧ readP (l.flatMap AV.line ++ badL.getD b []) = j ∧ readAs (l.flatMap AV.line ++ badL.getD b []) = []) := ⟨r1, r2, r3⟩
        clear r1 r2 r3
        have Hcat : Hid _ := hcat
        clear hcat
        generalize badL.getD b [] = Bd at *
        generalize badE.getD b 0 = Be at *
        generalize l.flatMap AV.line = X at *
        go_wp2_with fail
        rw [Hcat.out]
        refine Calls.mono HR'.out ?_
        rintro e w2 ⟨⟨v, he, ho⟩, hb2⟩
        subst he
        dsimp only
        rw [Hr.out.1, Hr.out.2.1]
        rw [Hr.out.2.2] at ho
        obtain ⟨sR, cR, hvR, _, _, _⟩ := acts_of_owns (l := []) ho (fun a ha => by cases ha)
        subst hvR
        have eL := (hb2.cell (p := ⟨w.heap.size, b, none⟩) (Nat.lt_of_lt_of_le bltL hb.size)).trans dL
        have eE := (hb2.cell (p := ⟨w.heap.size + 1, b, none⟩) (Nat.lt_of_lt_of_le bltE hb.size)).trans dE
        go_wp2_with fail
        go_ret
        exact ⟨rfl, hBw.trans (hb2.mono hBw.size)⟩
end Go.Proofs.YtnpkpkknbflacaaDoor
