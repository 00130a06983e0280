/- LinesWords answers true for every argument. -/
import Derived.Test.YtnpkpkknbflacaaDoorLinesHexW
namespace Go.Proofs.YtnpkpkknbflacaaDoor
open Go.RowKit

/-- The ten acts. -/
def tenA (k q : Int) : List AV := [⟨1, k, 0, ⟨#[97]⟩⟩, ⟨2, k, 0, ⟨#[]⟩⟩, ⟨3, k, 0, ⟨#[]⟩⟩, ⟨4, 0, q, ⟨#[]⟩⟩, ⟨5, 0, q, ⟨#[]⟩⟩, ⟨6, 0, q, ⟨#[]⟩⟩, ⟨7, k, q, ⟨#[]⟩⟩, ⟨8, k, 0, ⟨#[]⟩⟩, ⟨9, k, 0, ⟨#[255]⟩⟩, ⟨10, 0, 0, ⟨#[]⟩⟩]
set_option maxRecDepth 100000 in
theorem ten_ok (k q : Int) (hk : 0 ≤ k ∧ k < 4) (hq : 0 ≤ q ∧ q < 10) : ∀ a ∈ tenA k q, a.e = 0 := by
  intro a ha
  simp only [tenA, List.mem_cons, List.not_mem_nil, or_false] at ha
  rcases ha with rfl | rfl | rfl | rfl | rfl | rfl | rfl | rfl | rfl | rfl
  · exact ok_of _ _ _ _ (by omega) (by omega) (by omega) (by decide) (fun h => absurd h (by decide)) (fun _ => rfl) (fun h => absurd h (by decide))
  · exact ok_of _ _ _ _ (by omega) (by omega) (by omega) (by decide) (fun h => absurd h (by decide)) (fun _ => rfl) (fun _ => rfl)
  · exact ok_of _ _ _ _ (by omega) (by omega) (by omega) (by decide) (fun h => absurd h (by decide)) (fun _ => rfl) (fun _ => rfl)
  · exact ok_of _ _ _ _ (by omega) (by omega) (by omega) (by decide) (fun _ => rfl) (fun h => absurd h (by decide)) (fun _ => rfl)
  · exact ok_of _ _ _ _ (by omega) (by omega) (by omega) (by decide) (fun _ => rfl) (fun h => absurd h (by decide)) (fun _ => rfl)
  · exact ok_of _ _ _ _ (by omega) (by omega) (by omega) (by decide) (fun _ => rfl) (fun h => absurd h (by decide)) (fun _ => rfl)
  · exact ok_of _ _ _ _ (by omega) (by omega) (by omega) (by decide) (fun h => absurd h (by decide)) (fun h => absurd h (by decide)) (fun _ => rfl)
  · exact ok_of _ _ _ _ (by omega) (by omega) (by omega) (by decide) (fun h => absurd h (by decide)) (fun _ => rfl) (fun _ => rfl)
  · exact ok_of _ _ _ _ (by omega) (by omega) (by omega) (by decide) (fun h => absurd h (by decide)) (fun _ => rfl) (fun h => absurd h (by decide))
  · exact ok_of _ _ _ _ (by omega) (by omega) (by omega) (by decide) (fun _ => rfl) (fun _ => rfl) (fun _ => rfl)
set_option maxRecDepth 100000 in
theorem ten_text (k q : Int) (c d : UInt8) (hk : Lib.itoa k = [c]) (hq : Lib.itoa q = [d]) : (tenA k q).flatMap AV.line = [115, 117, 98, 109, 105, 116, 32, c, 32, 54, 49, 10, 119, 111, 114, 107, 32, c, 10, 115, 121, 110, 99, 32, c, 10, 116, 97, 107, 101, 32, d, 10, 108, 111, 115, 101, 32, d, 10, 99, 111, 112, 121, 32, d, 10, 99, 114, 97, 115, 104, 32, c, 32, d, 10, 115, 116, 97, 114, 116, 32, c, 10, 102, 111, 114, 103, 101, 32, c, 32, 102, 102, 10, 102, 108, 111, 119, 10] := by
  simp only [tenA, List.flatMap_cons, List.flatMap_nil, AV.line, lineU, hk, hq]
  rfl
set_option maxRecDepth 100000 in
theorem ten_kind (k q : Int) (j : Nat) (h : j < 10) : ((tenA k q).getD j .z).k = (j : Int) + 1 := by
  have hj : j = 0 ∨ j = 1 ∨ j = 2 ∨ j = 3 ∨ j = 4 ∨ j = 5 ∨ j = 6 ∨ j = 7 ∨ j = 8 ∨ j = 9 := by omega
  rcases hj with rfl | rfl | rfl | rfl | rfl | rfl | rfl | rfl | rfl | rfl <;> rfl
set_option maxRecDepth 100000 in
theorem itoa_one (k : Int) (h0 : 0 ≤ k) (h1 : k < 10) : Lib.itoa k = [UInt8.ofNat (48 + k.toNat)] := by rw [itoa_dec k h0, Lib.decDigits_one (by omega)]
set_option maxRecDepth 100000 in
theorem one_str (w : World) (k : Int) (c : UInt8) (hc : (c.toNat : Int) = 48 + k) : (convert 43 9 (.slice (some ⟨w.heap.size, 0, none⟩) 1 1)).run Tryd.prog (w.alloc (.cells #[.int .u8 (48 + k)] 5)) = .ok (.string ⟨#[c]⟩) (w.alloc (.cells #[.int .u8 (48 + k)] 5)) := by
  have h := run_text (w.alloc (.cells #[.int .u8 (48 + k)] 5)) (some ⟨w.heap.size, 0, none⟩) 1 1 [48 + k] rfl (sliceAt_of_owns (bs := [48 + k]) (World.ownsRow_lit (base := w.heap.size) (e := 5) (size := 1) w #[.int .u8 (48 + k)] 1 (Nat.le_refl _) (by decide) rfl)).2
  rw [h]
  have e : [48 + k] = n8 [c] := by simp [n8, hc]
  rw [e, bstr_n8]
set_option maxRecDepth 100000 in
set_option maxHeartbeats 4000000 in
theorem linesWords_walk (n p : Int) (w : World) (hn0 : -9223372036854775808 ≤ n) (hn1 : n ≤ 9223372036854775807) (hp0 : -9223372036854775808 ≤ p) (hp1 : p ≤ 9223372036854775807) (hT : LTabs w) :
    Calls Tryd.prog 8 #[.int .i64 n, .int .i64 p] w fun e w' => e = .returned (.bool true) ∧ Below w.heap.size w w' := by
  obtain ⟨m0, m1⟩ := pk_bounds n 4 (by omega)
  obtain ⟨q0, q1⟩ := pk_bounds p 10 (by omega)
  have HP := fun w => picked_any n 4 w hn0 hn1 (by omega) (by omega)
  have HQ := fun w => picked_any p 10 w hp0 hp1 (by omega) (by omega)
  generalize pk n 4 = k at *
  generalize pk p 10 = q at *
  have hk1 := itoa_one k m0 (by omega)
  have hq1 := itoa_one q q0 q1
  have hc : ((UInt8.ofNat (48 + k.toNat)).toNat : Int) = 48 + k := by rw [UInt8.toNat_ofNat']; omega
  have hd : ((UInt8.ofNat (48 + q.toNat)).toNat : Int) = 48 + q := by rw [UInt8.toNat_ofNat']; omega
  have hok := ten_ok k q ⟨m0, m1⟩ ⟨q0, q1⟩
  have htx := ten_text k q _ _ hk1 hq1
  obtain ⟨r1, r2, r3⟩ := read_line (tenA k q) hok (by simp [tenA])
  rw [htx] at r1 r2 r3
  generalize UInt8.ofNat (48 + k.toNat) = c at *
  generalize UInt8.ofNat (48 + q.toNat) = d at *
  have o1 := fun w => one_str w k c hc
  have o2 := fun w => one_str w q d hd
  clear hk1 hq1 hc hd htx
  go_enter Tryd.func8, Tryd.ntmps8
  go_wp2_with fail
  refine (HP _).mono ?_
  rintro e w1 ⟨he, rfl⟩
  subst he
  dsimp only
  go_wp2_with fail
  refine (HQ _).mono ?_
  rintro e w1 ⟨he, rfl⟩
  subst he
  dsimp only
  have hw1 : IntKind.u8.wrap (48 + k) = 48 + k := by
    simp only [IntKind.wrap, IntKind.signed, IntKind.bits]
    simp
    omega
  have hw2 : IntKind.u8.wrap (48 + q) = 48 + q := by
    simp only [IntKind.wrap, IntKind.signed, IntKind.bits]
    simp
    omega
  have x1 := o1 w
  have x2 := o2 (w.alloc (.cells #[.int .u8 (48 + k)] 5))
  rw [size_alloc] at x2
  clear o1 o2
  have hB0 : Below w.heap.size w (w.alloc (.cells #[.int .u8 (48 + k)] 5)) := (Below.refl _ _).alloc (Nat.le_refl _) _
  have hB1 := hB0.alloc hB0.size (.cells #[.int .u8 (48 + q)] 5)
  have HR : ∀ Z : ByteArray, Z.data.toList = [115, 117, 98, 109, 105, 116, 32, c, 32, 54, 49, 10, 119, 111, 114, 107, 32, c, 10, 115, 121, 110, 99, 32, c, 10, 116, 97, 107, 101, 32, d, 10, 108, 111, 115, 101, 32, d, 10, 99, 111, 112, 121, 32, d, 10, 99, 114, 97, 115, 104, 32, c, 32, d, 10, 115, 116, 97, 114, 116, 32, c, 10, 102, 111, 114, 103, 101, 32, c, 32, 102, 102, 10, 102, 108, 111, 119, 10] → Calls Tryd.prog 13 #[.string Z] ((w.alloc (.cells #[.int .u8 (48 + k)] 5)).alloc (.cells #[.int .u8 (48 + q)] 5)) fun e w' => ∃ v, e = .returned (.tuple #[v, .int .i64 0, .int .i64 0]) ∧ w'.ownsRow ((w.alloc (.cells #[.int .u8 (48 + k)] 5)).alloc (.cells #[.int .u8 (48 + q)] 5)).heap.size 30 4 v 10 (avs (tenA k q)) ∧ Below ((w.alloc (.cells #[.int .u8 (48 + k)] 5)).alloc (.cells #[.int .u8 (48 + q)] 5)).heap.size ((w.alloc (.cells #[.int .u8 (48 + k)] 5)).alloc (.cells #[.int .u8 (48 + q)] 5)) w' := by
    intro Z hZ
    have hZs : Z.size ≤ 140737488355328 := by
      have : Z.data.toList.length = Z.size := Array.length_toList
      rw [hZ] at this
      simp at this
      omega
    refine (read_any Z _ hZs (hT.below hB1)).mono ?_
    rintro e w' ⟨⟨v, he, ho⟩, hb⟩
    rw [hZ, r1, r2] at he
    rw [hZ, r3] at ho
    exact ⟨v, he, ho, hb⟩
  have HR' : Hid _ := HR
  clear r1 r2 r3 HR
  go_wp2_with fail
  refine Calls.mono (HR'.out _ (by simp only [ByteArray.data_append, Array.toList_append]; rfl)) ?_
  rintro e w2 ⟨v, he, ho, hb2⟩
  subst he
  dsimp only
  clear HR' x1 x2
  have hB2 := hB1.trans (hb2.mono hB1.size)
  obtain ⟨saR, capR, hvR, _, _, hActR⟩ := acts_of_owns ho (ok_text hok)
  subst hvR
  rcases hActR.cells with hc | ⟨sb, so, hsa, hc⟩
  · cases hc
  subst hsa
  clear ho hActR hok hB0 hB1 hb2
  have c0 := (hc 0 (by simp [tenA])).2.2.2
  have c8 := (hc 8 (by simp [tenA])).2.2.2
  have c6 := (hc 6 (by simp [tenA])).2.1
  have c6p := (hc 6 (by simp [tenA])).2.2.1
  have c3 := (hc 3 (by simp [tenA])).2.2.1
  have c7 := (hc 7 (by simp [tenA])).2.1
  rw [show ((tenA k q).getD 0 AV.z).t = ⟨#[97]⟩ from rfl] at c0
  rw [show ((tenA k q).getD 8 AV.z).t = ⟨#[255]⟩ from rfl] at c8
  rw [show ((tenA k q).getD 6 AV.z).n = k from rfl] at c6
  rw [show ((tenA k q).getD 6 AV.z).p = q from rfl] at c6p
  rw [show ((tenA k q).getD 3 AV.z).p = q from rfl] at c3
  rw [show ((tenA k q).getD 7 AV.z).n = k from rfl] at c7
  have hck : Hid (∀ j, j < 10 → w2.cell? ⟨sb, so + j * 4, none⟩ = some (.int .i64 ((j : Int) + 1))) := by
    show ∀ _, _
    intro j hj
    rw [(hc j (by simpa [tenA] using hj)).1, ten_kind k q j hj]
  clear hc
  go_wp2_with fail
  go_loop [13] (fun i => ∃ j : Nat, j ≤ 10 ∧ i = .int .i64 j) (fun i => 10 - (intOf i).toNat)
  case atStart => exact ⟨0, Nat.zero_le _, rfl⟩
  case round =>
    obtain ⟨j, hj, rfl⟩ := hrel
    by_cases hlt : j < 10
    · have hltI : (j : Int) < 10 := by omega
      have cj := hck.out j hlt
      have hadd : ((j : Int) + 1 != 1 + (j : Int)) = false := by simp; omega
      go_wp2_with fail
      go_round
      case rel => exact ⟨j + 1, by omega, by go_num⟩
      case measure => simp [intOf]; omega
    · have hltI : ¬ (j : Int) < 10 := by omega
      go_wp2_with fail
      go_ret
      exact ⟨rfl, hB2⟩
end Go.Proofs.YtnpkpkknbflacaaDoor
