/- The walk of MessageFixed. -/
import Derived.Test.YthijfhbmkpfnkaaMessageFixedM42
import Derived.Test.YthijfhbmkpfnkaaIntsL
import Derived.Test.YthijfhbmkpfnkaaSx
import Derived.Test.YthijfhbmkpfnkaaApp
import Derived.Deep.CutRange
import Derived.Deep.DeepCutAuto
import Derived.Test.YthijfhbmkpfnkaaMessageFixedM30
import Derived.Test.YthijfhbmkpfnkaaOpenB
namespace Go.Proofs.Ythijfhbmkpfnkaa
open Go.RowKit

set_option maxRecDepth 100000 in
set_option maxHeartbeats 1000000 in
theorem sameIntsK_eq (vl : List Int) (sa sb : Option Addr) (c d : Nat) (w : World) (hl : vl.length ≤ 9000000000000000000) (ha : IntsAt w sa vl) (hb : IntsAt w sb vl) :
    Calls Try.prog 39 #[.slice sa vl.length c, .slice sb vl.length d] w fun e w' => e = .returned (.bool true) ∧ Below w.heap.size w w' := by
  go_enter Try.func39, Try.ntmps39
  go_wp2_with fail
  go_loopw [5] (fun j wr => ∃ k : Nat, k ≤ vl.length ∧ j = .int .i64 k ∧ Below w.heap.size w wr) (fun j _ => vl.length - (intOf j).toNat)
  case atStart => exact ⟨0, Nat.zero_le _, rfl, Below.refl _ _⟩
  case round =>
    obtain ⟨k, hk, rfl, hbw⟩ := hrel
    by_cases hlt2 : k < vl.length
    · obtain ⟨ab, ao, rfl, hca⟩ : ∃ ab ao, sa = some ⟨ab, ao, none⟩ ∧ ∀ j, j < vl.length → wr.cell? ⟨ab, ao + j, none⟩ = some (.int .i64 (vl.getD j 0)) := by
        rcases (ha.below hbw).cells with h | h
        · subst h; simp at hlt2
        · exact h
      obtain ⟨bb, bo, rfl, hcb⟩ : ∃ bb bo, sb = some ⟨bb, bo, none⟩ ∧ ∀ j, j < vl.length → wr.cell? ⟨bb, bo + j, none⟩ = some (.int .i64 (vl.getD j 0)) := by
        rcases (hb.below hbw).cells with h | h
        · subst h; simp at hlt2
        · exact h
      have ka := hca k hlt2
      have kb := hcb k hlt2
      have hltI : (k : Int) < vl.length := by omega
      have h0 : (0 : Int) ≤ k := by omega
      clear hca hcb
      generalize vl.getD k 0 = x at *
      go_wp2_with fail
      go_region
      all_goals
        go_wp2_with fail
        go_roundw
        case rel =>
          have hR : ∃ k' : Nat, k' ≤ vl.length ∧ (Value.int .i64 ((k : Int) + 1)) = .int .i64 k' ∧ Below w.heap.size w wr.drew := ⟨k + 1, by omega, by go_num, hbw.drew⟩
          first | exact hR | ((repeat apply Exists.intro); exact ⟨hR, rfl⟩)
        case measure => simp [intOf]; omega
    · obtain rfl : k = vl.length := by omega
      have hltI : ¬ (vl.length : Int) < vl.length := by omega
      go_wp2_with fail
      go_ret
      exact ⟨rfl, hbw⟩
set_option maxRecDepth 100000 in
set_option maxHeartbeats 1000000 in
theorem sameCertK_eq (au rd : Int) (xa : Option Addr) (xc : Nat) (xl : List Part) (ya : Option Addr) (yc : Nat) (yl : List Part) (za : Option Addr) (zc : Nat) (zl : List Int) (ba : Option Addr) (bc : Nat) (bl : List Part) (pa : Option Addr) (pc : Nat) (pl : List Part) (va : Option Addr) (vc : Nat) (w : World) (S1 : SameU xl bl) (S2 : SameU yl pl) (hl : zl.length ≤ 9000000000000000000) (a1 : ListAt w xa xc xl) (a2 : ListAt w ya yc yl) (a3 : IntsAt w za zl) (b1 : ListAt w ba bc bl) (b2 : ListAt w pa pc pl) (b3 : IntsAt w va zl) :
    Calls Try.prog 28 #[.agg #[.int .i64 au, .int .i64 rd, .slice xa xl.length xc, .slice ya yl.length yc, .slice za zl.length zc], .agg #[.int .i64 au, .int .i64 rd, .slice ba bl.length bc, .slice pa pl.length pc, .slice va zl.length vc]] w fun e w' => e = .returned (.bool true) ∧ Below w.heap.size w w' := by
  rw [S1.length, S2.length]
  have hA : Below w.heap.size w ((w.alloc (.cells #[.int .i64 au, .int .i64 rd, .slice xa bl.length xc, .slice ya pl.length yc, .slice za zl.length zc] 35)).alloc (.cells #[.int .i64 au, .int .i64 rd, .slice ba bl.length bc, .slice pa pl.length pc, .slice va zl.length vc] 35)) := ((Below.refl _ _).alloc (Nat.le_refl _) _).alloc (by rw [size_alloc]; omega) _
  have q0 := heap_alloc2_old w (.cells #[.int .i64 au, .int .i64 rd, .slice xa bl.length xc, .slice ya pl.length yc, .slice za zl.length zc] 35) (.cells #[.int .i64 au, .int .i64 rd, .slice ba bl.length bc, .slice pa pl.length pc, .slice va zl.length vc] 35)
  have q1 : ((w.alloc (.cells #[.int .i64 au, .int .i64 rd, .slice xa bl.length xc, .slice ya pl.length yc, .slice za zl.length zc] 35)).alloc (.cells #[.int .i64 au, .int .i64 rd, .slice ba bl.length bc, .slice pa pl.length pc, .slice va zl.length vc] 35)).heap[w.heap.size + 1]? = some (.cells #[.int .i64 au, .int .i64 rd, .slice ba bl.length bc, .slice pa pl.length pc, .slice va zl.length vc] 35 (0, 0)) := by
    have := heap_alloc_new (w.alloc (.cells #[.int .i64 au, .int .i64 rd, .slice xa bl.length xc, .slice ya pl.length yc, .slice za zl.length zc] 35)) (.cells #[.int .i64 au, .int .i64 rd, .slice ba bl.length bc, .slice pa pl.length pc, .slice va zl.length vc] 35)
    rw [size_alloc] at this; exact this
  have HS1 : Hid _ := S1
  have HS2 : Hid _ := S2
  clear S1 S2
  go_enter Try.func28, Try.ntmps28
  go_wp2_with fail
  generalize (w.alloc (.cells #[.int .i64 au, .int .i64 rd, .slice xa bl.length xc, .slice ya pl.length yc, .slice za zl.length zc] 35)).alloc (.cells #[.int .i64 au, .int .i64 rd, .slice ba bl.length bc, .slice pa pl.length pc, .slice va zl.length vc] 35) = W0 at hA q0 q1 ⊢
  refine (sameHeaderK_eq au rd xa xc xl ya yc yl ba bc bl pa pc pl W0 HS1.out HS2.out (a1.below hA) (a2.below hA) (b1.below hA) (b2.below hA)).mono ?_
  rintro e w1 ⟨he, hb1⟩
  subst he
  dsimp only
  have r0 := (hb1.block _ (lt_of_heap q0)).trans q0
  have r1 := (hb1.block _ (lt_of_heap q1)).trans q1
  have k4 := cells_at r0 4 _ rfl
  have m4 := cells_at r1 4 _ rfl
  have hB1 := hA.trans (hb1.mono hA.size)
  go_wp2_with fail
  refine (sameIntsK_eq zl za va zc vc w1 hl (a3.below hB1) (b3.below hB1)).mono ?_
  rintro e w2 ⟨he, hb2⟩
  subst he
  dsimp only
  go_wp2_with fail
  go_ret
  exact ⟨rfl, hB1.trans (hb2.mono hB1.size)⟩
end Go.Proofs.Ythijfhbmkpfnkaa

namespace Go.Proofs.Ythijfhbmkpfnkaa
open Go.RowKit

set_option maxRecDepth 100000 in
set_option maxHeartbeats 400000 in
theorem same_eq (bs : List Int) (sa sb : Option Addr) (n m c d : Nat) (w : World) (hn : n = bs.length) (hm : m = bs.length) (ha : SliceAt w sa c bs) (hb : SliceAt w sb d bs) :
    Calls Try.prog 13 #[.slice sa n c, .slice sb m d] w fun e w' => e = .returned (.bool true) ∧ w = w' := by
  have h1 := run_text w sa n c bs hn ha
  have h2 := run_text w sb m d bs hm hb
  clear hn hm ha hb
  go_enter Try.func13, Try.ntmps13
  go_wp2_with fail
  go_ret
  exact ⟨by simp, rfl⟩
end Go.Proofs.Ythijfhbmkpfnkaa

namespace Go.Proofs.Ythijfhbmkpfnkaa
open Go.RowKit

set_option maxRecDepth 100000 in
set_option maxHeartbeats 1000000 in
theorem sameSlotK_eq (au rd : Int) (bs : List Int) (sa sb : Option Addr) (n m c d : Nat) (w : World) (hn : n = bs.length) (hm : m = bs.length) (ha : SliceAt w sa c bs) (hb : SliceAt w sb d bs) :
    Calls Try.prog 27 #[.agg #[.int .i64 au, .int .i64 rd, .slice sa n c], .agg #[.int .i64 au, .int .i64 rd, .slice sb m d]] w fun e w' => e = .returned (.bool true) ∧ Below w.heap.size w w' := by
  have hA : Below w.heap.size w ((w.alloc (.cells #[.int .i64 au, .int .i64 rd, .slice sa n c] 32)).alloc (.cells #[.int .i64 au, .int .i64 rd, .slice sb m d] 32)) := ((Below.refl _ _).alloc (Nat.le_refl _) _).alloc (by simp) _
  have h := same_eq bs sa sb n m c d _ hn hm (ha.below hA) (hb.below hA)
  clear hn hm ha hb
  go_enter Try.func27, Try.ntmps27
  go_wp2_with fail
  refine h.mono ?_
  rintro e w1 ⟨rfl, rfl⟩
  dsimp only
  go_wp2_with fail
  go_ret
  exact ⟨rfl, hA⟩
end Go.Proofs.Ythijfhbmkpfnkaa

namespace Go.Proofs.Ythijfhbmkpfnkaa
open Go.RowKit

set_option maxRecDepth 100000 in
set_option maxHeartbeats 4000000 in
theorem sameMsgK_eq (fr tt ki bau bnu hau hrd sau srd cau crd ro : Int) (a1 a2 a3 a4 a5 a6 a7 b1 b2 b3 b4 b5 b6 b7 : Option Addr) (c1 c2 c3 c4 c5 c6 c7 d1 d2 d3 d4 d5 d6 d7 : Nat) (ss : List ByteArray) (yl zl xl ql bl pl cbl cpl : List Part) (ds vl : List Int) (w : World)
    (s1 : SameU yl bl) (s2 : SameU zl pl) (s3 : SameU xl cbl) (s4 : SameU ql cpl) (hl1 : ss.length ≤ 9000000000000000000) (hl7 : vl.length ≤ 9000000000000000000)
    (h1 : StrsAt w a1 ss) (h2 : ListAt w a2 c2 yl) (h3 : ListAt w a3 c3 zl) (h4 : SliceAt w a4 c4 ds) (h5 : ListAt w a5 c5 xl) (h6 : ListAt w a6 c6 ql) (h7 : IntsAt w a7 vl)
    (k1 : StrsAt w b1 ss) (k2 : ListAt w b2 d2 bl) (k3 : ListAt w b3 d3 pl) (k4 : SliceAt w b4 d4 ds) (k5 : ListAt w b5 d5 cbl) (k6 : ListAt w b6 d6 cpl) (k7 : IntsAt w b7 vl) :
    Calls Try.prog 11 #[.agg #[.int .i64 fr, .int .i64 tt, .int .i64 ki, .int .i64 bau, .int .i64 bnu, .slice a1 ss.length c1, .int .i64 hau, .int .i64 hrd, .slice a2 bl.length c2, .slice a3 pl.length c3, .int .i64 sau, .int .i64 srd, .slice a4 ds.length c4, .int .i64 cau, .int .i64 crd, .slice a5 cbl.length c5, .slice a6 cpl.length c6, .slice a7 vl.length c7, .int .i64 ro], .agg #[.int .i64 fr, .int .i64 tt, .int .i64 ki, .int .i64 bau, .int .i64 bnu, .slice b1 ss.length d1, .int .i64 hau, .int .i64 hrd, .slice b2 bl.length d2, .slice b3 pl.length d3, .int .i64 sau, .int .i64 srd, .slice b4 ds.length d4, .int .i64 cau, .int .i64 crd, .slice b5 cbl.length d5, .slice b6 cpl.length d6, .slice b7 vl.length d7, .int .i64 ro]] w fun e w' => e = .returned (.bool true) ∧ Below w.heap.size w w' := by
  have hA : Below w.heap.size w ((w.alloc (.cells #[.int .i64 fr, .int .i64 tt, .int .i64 ki, .int .i64 bau, .int .i64 bnu, .slice a1 ss.length c1, .int .i64 hau, .int .i64 hrd, .slice a2 bl.length c2, .slice a3 pl.length c3, .int .i64 sau, .int .i64 srd, .slice a4 ds.length c4, .int .i64 cau, .int .i64 crd, .slice a5 cbl.length c5, .slice a6 cpl.length c6, .slice a7 vl.length c7, .int .i64 ro] 37)).alloc (.cells #[.int .i64 fr, .int .i64 tt, .int .i64 ki, .int .i64 bau, .int .i64 bnu, .slice b1 ss.length d1, .int .i64 hau, .int .i64 hrd, .slice b2 bl.length d2, .slice b3 pl.length d3, .int .i64 sau, .int .i64 srd, .slice b4 ds.length d4, .int .i64 cau, .int .i64 crd, .slice b5 cbl.length d5, .slice b6 cpl.length d6, .slice b7 vl.length d7, .int .i64 ro] 37)) := ((Below.refl _ _).alloc (Nat.le_refl _) _).alloc (by simp) _
  have r0 := heap_alloc2_old w (.cells #[.int .i64 fr, .int .i64 tt, .int .i64 ki, .int .i64 bau, .int .i64 bnu, .slice a1 ss.length c1, .int .i64 hau, .int .i64 hrd, .slice a2 bl.length c2, .slice a3 pl.length c3, .int .i64 sau, .int .i64 srd, .slice a4 ds.length c4, .int .i64 cau, .int .i64 crd, .slice a5 cbl.length c5, .slice a6 cpl.length c6, .slice a7 vl.length c7, .int .i64 ro] 37) (.cells #[.int .i64 fr, .int .i64 tt, .int .i64 ki, .int .i64 bau, .int .i64 bnu, .slice b1 ss.length d1, .int .i64 hau, .int .i64 hrd, .slice b2 bl.length d2, .slice b3 pl.length d3, .int .i64 sau, .int .i64 srd, .slice b4 ds.length d4, .int .i64 cau, .int .i64 crd, .slice b5 cbl.length d5, .slice b6 cpl.length d6, .slice b7 vl.length d7, .int .i64 ro] 37)
  have r1 := heap_alloc2_new w (.cells #[.int .i64 fr, .int .i64 tt, .int .i64 ki, .int .i64 bau, .int .i64 bnu, .slice a1 ss.length c1, .int .i64 hau, .int .i64 hrd, .slice a2 bl.length c2, .slice a3 pl.length c3, .int .i64 sau, .int .i64 srd, .slice a4 ds.length c4, .int .i64 cau, .int .i64 crd, .slice a5 cbl.length c5, .slice a6 cpl.length c6, .slice a7 vl.length c7, .int .i64 ro] 37) (.cells #[.int .i64 fr, .int .i64 tt, .int .i64 ki, .int .i64 bau, .int .i64 bnu, .slice b1 ss.length d1, .int .i64 hau, .int .i64 hrd, .slice b2 bl.length d2, .slice b3 pl.length d3, .int .i64 sau, .int .i64 srd, .slice b4 ds.length d4, .int .i64 cau, .int .i64 crd, .slice b5 cbl.length d5, .slice b6 cpl.length d6, .slice b7 vl.length d7, .int .i64 ro] 37)
  have H1 : Hid (∀ W : World, Below w.heap.size w W → Calls Try.prog 25 #[.agg #[.int .i64 bau, .int .i64 bnu, .slice a1 ss.length c1], .agg #[.int .i64 bau, .int .i64 bnu, .slice b1 ss.length d1]] W fun e w' => e = .returned (.bool true) ∧ Below W.heap.size W w') := by
    show ∀ _, _
    intro W hW
    exact sameBatchK_eq bau bnu ss a1 b1 _ _ c1 d1 W rfl rfl (by unfold maxLen; omega) (h1.below hW) (k1.below hW)
  have H2 : Hid (∀ W : World, Below w.heap.size w W → Calls Try.prog 26 #[.agg #[.int .i64 hau, .int .i64 hrd, .slice a2 bl.length c2, .slice a3 pl.length c3], .agg #[.int .i64 hau, .int .i64 hrd, .slice b2 bl.length d2, .slice b3 pl.length d3]] W fun e w' => e = .returned (.bool true) ∧ Below W.heap.size W w') := by
    show ∀ _, _
    intro W hW
    exact sameHeaderK_eq hau hrd a2 c2 yl a3 c3 zl b2 d2 bl b3 d3 pl W s1 s2 (h2.below hW) (h3.below hW) (k2.below hW) (k3.below hW)
  have H3 : Hid (∀ W : World, Below w.heap.size w W → Calls Try.prog 27 #[.agg #[.int .i64 sau, .int .i64 srd, .slice a4 ds.length c4], .agg #[.int .i64 sau, .int .i64 srd, .slice b4 ds.length d4]] W fun e w' => e = .returned (.bool true) ∧ Below W.heap.size W w') := by
    show ∀ _, _
    intro W hW
    exact sameSlotK_eq sau srd ds a4 b4 _ _ c4 d4 W rfl rfl (h4.below hW) (k4.below hW)
  have H4 : Hid (∀ W : World, Below w.heap.size w W → Calls Try.prog 28 #[.agg #[.int .i64 cau, .int .i64 crd, .slice a5 cbl.length c5, .slice a6 cpl.length c6, .slice a7 vl.length c7], .agg #[.int .i64 cau, .int .i64 crd, .slice b5 cbl.length d5, .slice b6 cpl.length d6, .slice b7 vl.length d7]] W fun e w' => e = .returned (.bool true) ∧ Below W.heap.size W w') := by
    show ∀ _, _
    intro W hW
    have := sameCertK_eq cau crd a5 c5 xl a6 c6 ql a7 c7 vl b5 d5 cbl b6 d6 cpl b7 d7 W s3 s4 hl7 (h5.below hW) (h6.below hW) (h7.below hW) (k5.below hW) (k6.below hW) (k7.below hW)
    rw [s3.length, s4.length] at this
    exact this
  clear s1 s2 s3 s4 hl1 hl7 h1 h2 h3 h4 h5 h6 h7 k1 k2 k3 k4 k5 k6 k7
  generalize ss.length = n1 at *
  generalize bl.length = n2 at *
  generalize pl.length = n3 at *
  generalize ds.length = n4 at *
  generalize cbl.length = n5 at *
  generalize cpl.length = n6 at *
  generalize vl.length = n7 at *
  go_enter Try.func11, Try.ntmps11
  go_upto_region 1 with fail
  generalize (w.alloc (.cells #[.int .i64 fr, .int .i64 tt, .int .i64 ki, .int .i64 bau, .int .i64 bnu, .slice a1 n1 c1, .int .i64 hau, .int .i64 hrd, .slice a2 n2 c2, .slice a3 n3 c3, .int .i64 sau, .int .i64 srd, .slice a4 n4 c4, .int .i64 cau, .int .i64 crd, .slice a5 n5 c5, .slice a6 n6 c6, .slice a7 n7 c7, .int .i64 ro] 37)).alloc (.cells #[.int .i64 fr, .int .i64 tt, .int .i64 ki, .int .i64 bau, .int .i64 bnu, .slice b1 n1 d1, .int .i64 hau, .int .i64 hrd, .slice b2 n2 d2, .slice b3 n3 d3, .int .i64 sau, .int .i64 srd, .slice b4 n4 d4, .int .i64 cau, .int .i64 crd, .slice b5 n5 d5, .slice b6 n6 d6, .slice b7 n7 d7, .int .i64 ro] 37) = W0 at hA r0 r1 ⊢
  have xp0 : W0.cell? ⟨w.heap.size, 0, none⟩ = some (.int .i64 fr) := cells_at r0 0 _ rfl
  have xp1 : W0.cell? ⟨w.heap.size, 1, none⟩ = some (.int .i64 tt) := cells_at r0 1 _ rfl
  have xp2 : W0.cell? ⟨w.heap.size, 2, none⟩ = some (.int .i64 ki) := cells_at r0 2 _ rfl
  have xp18 : W0.cell? ⟨w.heap.size, 18, none⟩ = some (.int .i64 ro) := cells_at r0 18 _ rfl
  have xp3 : W0.cell? ⟨w.heap.size, 3, none⟩ = some (.int .i64 bau) := cells_at r0 3 _ rfl
  have xp4 : W0.cell? ⟨w.heap.size, 4, none⟩ = some (.int .i64 bnu) := cells_at r0 4 _ rfl
  have xp5 : W0.cell? ⟨w.heap.size, 5, none⟩ = some (.slice a1 n1 c1) := cells_at r0 5 _ rfl
  have yp0 : W0.cell? ⟨w.heap.size + 1, 0, none⟩ = some (.int .i64 fr) := cells_at r1 0 _ rfl
  have yp1 : W0.cell? ⟨w.heap.size + 1, 1, none⟩ = some (.int .i64 tt) := cells_at r1 1 _ rfl
  have yp2 : W0.cell? ⟨w.heap.size + 1, 2, none⟩ = some (.int .i64 ki) := cells_at r1 2 _ rfl
  have yp18 : W0.cell? ⟨w.heap.size + 1, 18, none⟩ = some (.int .i64 ro) := cells_at r1 18 _ rfl
  have yp3 : W0.cell? ⟨w.heap.size + 1, 3, none⟩ = some (.int .i64 bau) := cells_at r1 3 _ rfl
  have yp4 : W0.cell? ⟨w.heap.size + 1, 4, none⟩ = some (.int .i64 bnu) := cells_at r1 4 _ rfl
  have yp5 : W0.cell? ⟨w.heap.size + 1, 5, none⟩ = some (.slice b1 n1 d1) := cells_at r1 5 _ rfl
  go_wp2_with fail
  refine (H1.out W0 hA).mono ?_
  rintro e w1 ⟨he, hb1⟩
  subst he
  dsimp only
  have hB1 := hA.trans (hb1.mono hA.size)
  have p0 := (hb1.block _ (lt_of_heap r0)).trans r0
  have p1 := (hb1.block _ (lt_of_heap r1)).trans r1
  clear r0 r1 xp0 xp1 xp2 xp18 xp3 xp4 xp5 yp0 yp1 yp2 yp18 yp3 yp4 yp5
  have xq26 : w1.cell? ⟨w.heap.size, 6, none⟩ = some (.int .i64 hau) := cells_at p0 6 _ rfl
  have xq27 : w1.cell? ⟨w.heap.size, 7, none⟩ = some (.int .i64 hrd) := cells_at p0 7 _ rfl
  have xq28 : w1.cell? ⟨w.heap.size, 8, none⟩ = some (.slice a2 n2 c2) := cells_at p0 8 _ rfl
  have xq29 : w1.cell? ⟨w.heap.size, 9, none⟩ = some (.slice a3 n3 c3) := cells_at p0 9 _ rfl
  have yq26 : w1.cell? ⟨w.heap.size + 1, 6, none⟩ = some (.int .i64 hau) := cells_at p1 6 _ rfl
  have yq27 : w1.cell? ⟨w.heap.size + 1, 7, none⟩ = some (.int .i64 hrd) := cells_at p1 7 _ rfl
  have yq28 : w1.cell? ⟨w.heap.size + 1, 8, none⟩ = some (.slice b2 n2 d2) := cells_at p1 8 _ rfl
  have yq29 : w1.cell? ⟨w.heap.size + 1, 9, none⟩ = some (.slice b3 n3 d3) := cells_at p1 9 _ rfl
  go_wp2_with fail
  refine (H2.out w1 hB1).mono ?_
  rintro e w2 ⟨he, hb2⟩
  subst he
  dsimp only
  have hB2 := hB1.trans (hb2.mono hB1.size)
  have p20 := (hb2.block _ (lt_of_heap p0)).trans p0
  have p21 := (hb2.block _ (lt_of_heap p1)).trans p1
  clear p0 p1 xq26 xq27 xq28 xq29 yq26 yq27 yq28 yq29
  have xq310 : w2.cell? ⟨w.heap.size, 10, none⟩ = some (.int .i64 sau) := cells_at p20 10 _ rfl
  have xq311 : w2.cell? ⟨w.heap.size, 11, none⟩ = some (.int .i64 srd) := cells_at p20 11 _ rfl
  have xq312 : w2.cell? ⟨w.heap.size, 12, none⟩ = some (.slice a4 n4 c4) := cells_at p20 12 _ rfl
  have yq310 : w2.cell? ⟨w.heap.size + 1, 10, none⟩ = some (.int .i64 sau) := cells_at p21 10 _ rfl
  have yq311 : w2.cell? ⟨w.heap.size + 1, 11, none⟩ = some (.int .i64 srd) := cells_at p21 11 _ rfl
  have yq312 : w2.cell? ⟨w.heap.size + 1, 12, none⟩ = some (.slice b4 n4 d4) := cells_at p21 12 _ rfl
  go_wp2_with fail
  refine (H3.out w2 hB2).mono ?_
  rintro e w3 ⟨he, hb3⟩
  subst he
  dsimp only
  have hB3 := hB2.trans (hb3.mono hB2.size)
  have p30 := (hb3.block _ (lt_of_heap p20)).trans p20
  have p31 := (hb3.block _ (lt_of_heap p21)).trans p21
  clear p20 p21 xq310 xq311 xq312 yq310 yq311 yq312
  have xq413 : w3.cell? ⟨w.heap.size, 13, none⟩ = some (.int .i64 cau) := cells_at p30 13 _ rfl
  have xq414 : w3.cell? ⟨w.heap.size, 14, none⟩ = some (.int .i64 crd) := cells_at p30 14 _ rfl
  have xq415 : w3.cell? ⟨w.heap.size, 15, none⟩ = some (.slice a5 n5 c5) := cells_at p30 15 _ rfl
  have xq416 : w3.cell? ⟨w.heap.size, 16, none⟩ = some (.slice a6 n6 c6) := cells_at p30 16 _ rfl
  have xq417 : w3.cell? ⟨w.heap.size, 17, none⟩ = some (.slice a7 n7 c7) := cells_at p30 17 _ rfl
  have yq413 : w3.cell? ⟨w.heap.size + 1, 13, none⟩ = some (.int .i64 cau) := cells_at p31 13 _ rfl
  have yq414 : w3.cell? ⟨w.heap.size + 1, 14, none⟩ = some (.int .i64 crd) := cells_at p31 14 _ rfl
  have yq415 : w3.cell? ⟨w.heap.size + 1, 15, none⟩ = some (.slice b5 n5 d5) := cells_at p31 15 _ rfl
  have yq416 : w3.cell? ⟨w.heap.size + 1, 16, none⟩ = some (.slice b6 n6 d6) := cells_at p31 16 _ rfl
  have yq417 : w3.cell? ⟨w.heap.size + 1, 17, none⟩ = some (.slice b7 n7 d7) := cells_at p31 17 _ rfl
  go_wp2_with fail
  refine (H4.out w3 hB3).mono ?_
  rintro e w4 ⟨he, hb4⟩
  subst he
  dsimp only
  have hB4 := hB3.trans (hb4.mono hB3.size)
  go_wp2_with fail
  go_ret
  exact ⟨rfl, hB4⟩
end Go.Proofs.Ythijfhbmkpfnkaa

namespace Go.Proofs.Ythijfhbmkpfnkaa
open Go.RowKit

/-- A message that may be, as it lies there. -/
structure GoodM (w : World) (x : MV) : Prop where
  lies : MAt w x
  ok : checkF x.m x.car = 0
  u8 : U8M x.bl x.pl x.cbl x.cpl x.ds
set_option maxRecDepth 100000 in
theorem GoodM.below {w w' : World} {x : MV} (h : GoodM w x) (hb : Below w.heap.size w w') : GoodM w' x := ⟨h.lies.below hb, h.ok, h.u8⟩
set_option maxRecDepth 100000 in
theorem GoodM.bytes {w : World} {x : MV} (h : GoodM w x) : U8s x.bytes := u8_msg h.ok h.u8
set_option maxRecDepth 100000 in
theorem checkF_zeroU {m : Msg} {e : Int} (h1 : 0 ≤ m.fr ∧ m.fr < 4) (h2 : 0 ≤ m.tt ∧ m.tt < 4) (he : e = 0) (h3 : msgEmpty (strip m) = true) : checkF m e = 0 := by
  rw [checkF, if_neg (by omega), if_neg (by simp [he]), if_pos h3]
set_option maxRecDepth 100000 in
theorem raw_msgU (ki ra rb rc : Int) (sa : Option Addr) (cap : Nat) (ss : List ByteArray) (w : World) (h1 : I64 ki) (h2 : I64 ra) (h3 : I64 rb) (h4 : I64 rc) (h5 : TextsAt w sa cap ss) :
    Calls Try.prog 8 #[.agg #[.int .i64 ki, .int .i64 ra, .int .i64 rb, .int .i64 rc, .slice sa ss.length cap]] w fun e w' => ∃ x : MV, e = .returned (.agg #[.int .i64 x.m.fr, .int .i64 x.m.tt, .int .i64 x.m.ki, .int .i64 x.m.bau, .int .i64 x.m.bnu, .slice x.m.bta x.m.btn x.m.btc, .int .i64 x.m.hau, .int .i64 x.m.hrd, .slice x.m.hba x.m.hbn x.m.hbc, .slice x.m.hpa x.m.hpn x.m.hpc, .int .i64 x.m.sau, .int .i64 x.m.srd, .slice x.m.sda x.m.sdn x.m.sdc, .int .i64 x.m.cau, .int .i64 x.m.crd, .slice x.m.cba x.m.cbn x.m.cbc, .slice x.m.cpa x.m.cpn x.m.cpc, .slice x.m.cva x.m.cvn x.m.cvc, .int .i64 x.m.ro]) ∧ GoodM w' x ∧ NewM w.heap.size x.m x.bl x.pl x.cbl x.cpl ∧ Below w.heap.size w w' := by
  obtain ⟨pf0, pf1⟩ := pk_bounds rc 4 (by decide)
  obtain ⟨pt0, pt1⟩ := pk_bounds rb 4 (by decide)
  refine (message_rawU ki ra rb rc sa cap ss w h1 h2 h3 h4 h5).mono ?_
  rintro e w' ⟨m, s, bl, pl, cbl, cpl, vl, he, H, hfr, htt, hcar, hemp, hb, -, -, -, -, -, -, ds, hd, hdn, hN, hU⟩
  have hC : checkF m (carriedF m s bl pl cbl cpl vl) = 0 := checkF_zeroU (by omega) (by omega) hcar hemp
  exact ⟨⟨m, s, bl, pl, cbl, cpl, ds, vl⟩, he, ⟨⟨H, hd, hdn⟩, hC, hU⟩, hN, hb⟩
set_option maxRecDepth 100000 in
theorem encode_mvU {x : MV} {w : World} (hM : MAt w x) (hC : checkF x.m x.car = 0) :
    Calls Try.prog 9 #[.agg #[.int .i64 x.m.fr, .int .i64 x.m.tt, .int .i64 x.m.ki, .int .i64 x.m.bau, .int .i64 x.m.bnu, .slice x.m.bta x.m.btn x.m.btc, .int .i64 x.m.hau, .int .i64 x.m.hrd, .slice x.m.hba x.m.hbn x.m.hbc, .slice x.m.hpa x.m.hpn x.m.hpc, .int .i64 x.m.sau, .int .i64 x.m.srd, .slice x.m.sda x.m.sdn x.m.sdc, .int .i64 x.m.cau, .int .i64 x.m.crd, .slice x.m.cba x.m.cbn x.m.cbc, .slice x.m.cpa x.m.cpn x.m.cpc, .slice x.m.cva x.m.cvn x.m.cvc, .int .i64 x.m.ro]] w fun e w' => ∃ a c, e = .returned (.tuple #[.slice a x.bytes.length c, .int .i64 0]) ∧ SliceAt w' a c x.bytes ∧ Below w.heap.size w w' := by
  have h := encode_any x.m x.ss x.bl x.pl x.cbl x.cpl x.ds x.vl w hM.at' hM.dig hM.dn
  have hC' : checkF x.m (carriedF x.m x.ss x.bl x.pl x.cbl x.cpl x.vl) = 0 := hC
  rw [hC'] at h
  refine h.mono ?_
  rintro e w' ⟨v, he, ho, hb⟩
  have ho' : w'.ownsRow w.heap.size 5 1 v x.bytes.length (ub x.bytes) := ho
  obtain ⟨a, c, hv, -, hs⟩ := owns_form ho'
  subst hv
  exact ⟨a, c, he, hs, hb⟩
set_option maxRecDepth 100000 in
theorem check_mvU {x : MV} {w : World} (hM : MAt w x) (hC : checkF x.m x.car = 0) :
    Calls Try.prog 12 #[.agg #[.int .i64 x.m.fr, .int .i64 x.m.tt, .int .i64 x.m.ki, .int .i64 x.m.bau, .int .i64 x.m.bnu, .slice x.m.bta x.m.btn x.m.btc, .int .i64 x.m.hau, .int .i64 x.m.hrd, .slice x.m.hba x.m.hbn x.m.hbc, .slice x.m.hpa x.m.hpn x.m.hpc, .int .i64 x.m.sau, .int .i64 x.m.srd, .slice x.m.sda x.m.sdn x.m.sdc, .int .i64 x.m.cau, .int .i64 x.m.crd, .slice x.m.cba x.m.cbn x.m.cbc, .slice x.m.cpa x.m.cpn x.m.cpc, .slice x.m.cva x.m.cvn x.m.cvc, .int .i64 x.m.ro]] w fun e w' => e = .returned (.int .i64 0) ∧ Below w.heap.size w w' := by
  have h := check_any x.m x.ss x.bl x.pl x.cbl x.cpl x.vl w hM.at'
  have hC' : checkF x.m (carriedF x.m x.ss x.bl x.pl x.cbl x.cpl x.vl) = 0 := hC
  rw [hC'] at h
  exact h
set_option maxRecDepth 100000 in
theorem msg_small {w : World} {x : MV} (hM : MAt w x) (hC : checkF x.m x.car = 0) : x.bl.length ≤ 1000 ∧ x.pl.length ≤ 1000 ∧ x.cbl.length ≤ 1000 ∧ x.cpl.length ≤ 1000 := by
  obtain ⟨_, _, hc, he⟩ := checkF_ok hC
  have hc' : carriedF x.m x.ss x.bl x.pl x.cbl x.cpl x.vl = 0 := hc
  have n2 := hM.at'.e2
  have n3 := hM.at'.e3
  have n4 := hM.at'.e4
  have n5 := hM.at'.e5
  rcases carriedF_kind hc' with k | k | k | k | k
  · simp [strip, msgEmpty, k] at he; omega
  · rw [carried2 k] at hc'
    obtain ⟨_, _, g3, g4, _, _⟩ := headerF_ok hc'
    simp [strip, msgEmpty, k] at he; omega
  · simp [strip, msgEmpty, k] at he; omega
  · rw [carried4 k] at hc'
    obtain ⟨hh, _, _, _⟩ := certF_ok hc'
    obtain ⟨_, _, g3, g4, _, _⟩ := headerF_ok hh
    simp [strip, msgEmpty, k] at he; omega
  · simp [strip, msgEmpty, k] at he; omega
set_option maxRecDepth 100000 in
theorem sameU_of {ps qs : List Part} (h : qs.map (·.bs) = ps.map (·.bs)) (hu : ∀ p ∈ ps, ∀ x ∈ p.bs, 0 ≤ x ∧ x ≤ 255) (hl : ps.length ≤ 1000) : SameU ps qs := by
  have h1 : SameU qs ps := ⟨h, hu, hl⟩
  exact ⟨h.symm, h1.u8', by rw [h1.length]; exact hl⟩
set_option maxRecDepth 100000 in
/-- Messages that say the same are the same. -/
theorem keep_same {w : World} {x y : MV} (hx : GoodM w x) (hy : MAt w y) (h : y.c = x.c) :
    Calls Try.prog 11 #[.agg #[.int .i64 x.m.fr, .int .i64 x.m.tt, .int .i64 x.m.ki, .int .i64 x.m.bau, .int .i64 x.m.bnu, .slice x.m.bta x.m.btn x.m.btc, .int .i64 x.m.hau, .int .i64 x.m.hrd, .slice x.m.hba x.m.hbn x.m.hbc, .slice x.m.hpa x.m.hpn x.m.hpc, .int .i64 x.m.sau, .int .i64 x.m.srd, .slice x.m.sda x.m.sdn x.m.sdc, .int .i64 x.m.cau, .int .i64 x.m.crd, .slice x.m.cba x.m.cbn x.m.cbc, .slice x.m.cpa x.m.cpn x.m.cpc, .slice x.m.cva x.m.cvn x.m.cvc, .int .i64 x.m.ro], .agg #[.int .i64 y.m.fr, .int .i64 y.m.tt, .int .i64 y.m.ki, .int .i64 y.m.bau, .int .i64 y.m.bnu, .slice y.m.bta y.m.btn y.m.btc, .int .i64 y.m.hau, .int .i64 y.m.hrd, .slice y.m.hba y.m.hbn y.m.hbc, .slice y.m.hpa y.m.hpn y.m.hpc, .int .i64 y.m.sau, .int .i64 y.m.srd, .slice y.m.sda y.m.sdn y.m.sdc, .int .i64 y.m.cau, .int .i64 y.m.crd, .slice y.m.cba y.m.cbn y.m.cbc, .slice y.m.cpa y.m.cpn y.m.cpc, .slice y.m.cva y.m.cvn y.m.cvc, .int .i64 y.m.ro]] w fun e w' => e = .returned (.bool true) ∧ Below w.heap.size w w' := by
  obtain ⟨l1, l2, l3, l4⟩ := msg_small hx.lies hx.ok
  simp only [MV.c, MC.mk.injEq] at h
  obtain ⟨e1, e2, e3, e4, e5, e6, e7, e8, e9, e10, e11, e12, e13, e14, e15, e16, e17, e18, e19⟩ := h
  have s1 : SameU x.bl y.bl := sameU_of e9 hx.u8.hb l1
  have s2 : SameU x.pl y.pl := sameU_of e10 hx.u8.hp l2
  have s3 : SameU x.cbl y.cbl := sameU_of e16 hx.u8.cb l3
  have s4 : SameU x.cpl y.cpl := sameU_of e17 hx.u8.cp l4
  have t1 : StrsAt w y.m.bta x.ss := by rw [← e6]; exact hy.at'.txs
  have t4 : SliceAt w y.m.sda y.m.sdc x.ds := by rw [← e13]; exact hy.dig
  have t7 : IntsAt w y.m.cva x.vl := by rw [← e18]; exact hy.at'.vot
  have H := hx.lies.at'
  have K := hy.at'
  have n1 : y.m.btn = x.ss.length := by rw [K.e1, e6]
  have n4 : y.m.sdn = x.ds.length := by rw [hy.dn, e13]
  have n7 : y.m.cvn = x.vl.length := by rw [K.e6, e18]
  have m2 : x.m.hbn = y.bl.length := by rw [H.e2, s1.length]
  have m3 : x.m.hpn = y.pl.length := by rw [H.e3, s2.length]
  have m5 : x.m.cbn = y.cbl.length := by rw [H.e4, s3.length]
  have m6 : x.m.cpn = y.cpl.length := by rw [H.e5, s4.length]
  rw [e1, e2, e3, e4, e5, e7, e8, e11, e12, e14, e15, e19, n1, n4, n7, K.e2, K.e3, K.e4, K.e5, H.e1, hx.lies.dn, H.e6, m2, m3, m5, m6]
  exact sameMsgK_eq x.m.fr x.m.tt x.m.ki x.m.bau x.m.bnu x.m.hau x.m.hrd x.m.sau x.m.srd x.m.cau x.m.crd x.m.ro x.m.bta x.m.hba x.m.hpa x.m.sda x.m.cba x.m.cpa x.m.cva y.m.bta y.m.hba y.m.hpa y.m.sda y.m.cba y.m.cpa y.m.cva x.m.btc x.m.hbc x.m.hpc x.m.sdc x.m.cbc x.m.cpc x.m.cvc y.m.btc y.m.hbc y.m.hpc y.m.sdc y.m.cbc y.m.cpc y.m.cvc x.ss x.bl x.pl x.cbl x.cpl y.bl y.pl y.cbl y.cpl x.ds x.vl w s1 s2 s3 s4 H.s1 H.s6 H.txs H.bat H.par hx.lies.dig H.cbat H.cpar H.vot t1 K.bat K.par t4 K.cbat K.cpar t7
end Go.Proofs.Ythijfhbmkpfnkaa

namespace Go.Proofs.Ythijfhbmkpfnkaa
open Go.RowKit

set_option maxRecDepth 100000 in
/-- What Decode gives: no message, or the one that has these bytes. -/
theorem dec_fix {w w' : World} {e : Ending} {bs : List Int} (h : DecIs w w' e bs) (hu : U8s bs) :
    (∃ F : Int, F ≠ 0 ∧ e = .returned (.tuple #[.agg #[.int .i64 0, .int .i64 0, .int .i64 0, .int .i64 0, .int .i64 0, .slice none 0 0, .int .i64 0, .int .i64 0, .slice none 0 0, .slice none 0 0, .int .i64 0, .int .i64 0, .slice none 0 0, .int .i64 0, .int .i64 0, .slice none 0 0, .slice none 0 0, .slice none 0 0, .int .i64 0], .int .i64 F])) ∨ ∃ y : MV, MAt w' y ∧ checkF y.m y.car = 0 ∧ y.bytes = bs ∧ e = .returned (.tuple #[.agg #[.int .i64 y.m.fr, .int .i64 y.m.tt, .int .i64 y.m.ki, .int .i64 y.m.bau, .int .i64 y.m.bnu, .slice y.m.bta y.m.btn y.m.btc, .int .i64 y.m.hau, .int .i64 y.m.hrd, .slice y.m.hba y.m.hbn y.m.hbc, .slice y.m.hpa y.m.hpn y.m.hpc, .int .i64 y.m.sau, .int .i64 y.m.srd, .slice y.m.sda y.m.sdn y.m.sdc, .int .i64 y.m.cau, .int .i64 y.m.crd, .slice y.m.cba y.m.cbn y.m.cbc, .slice y.m.cpa y.m.cpn y.m.cpc, .slice y.m.cva y.m.cvn y.m.cvc, .int .i64 y.m.ro], .int .i64 0]) := by
  rcases h.out with ⟨h0, he⟩ | ⟨h0, y, hy, hA, -, hx⟩
  · exact .inl ⟨_, h0, he⟩
  · rcases hx with ⟨hC, he⟩ | ⟨hC, he⟩
    · refine .inr ⟨y, hA, hC, ?_, he⟩
      have hS : mS (bs, false) = ([], false) := by
        unfold readF at h0
        split at h0
        · cases h0
        · split at h0
          · cases h0
          · split at h0
            · cases h0
            · split at h0
              · cases h0
              · rename_i h9
                split at h0
                · cases h0
                · rename_i h8
                  refine Prod.ext ?_ ?_
                  · exact Decidable.not_not.1 h8
                  · exact eq_false_of_ne_true h9
      exact un_msg hC hu hS hy
    · exact .inl ⟨_, hC, he⟩
set_option maxRecDepth 100000 in
set_option maxHeartbeats 4000000 in
theorem messageFixed_walk (l : List Int) (sa : Option Addr) (cap : Nat) (w : World) (hs : SliceAt w sa cap l) (hu : AllU8 l) (hr : cap ≤ 140737488351232) :
    Calls Try.prog 4 #[.slice sa l.length cap] w fun e w' => e = .returned (.bool true) ∧ Below w.heap.size w w' := by
  have hle := hs.le
  have hU : U8s l := hu
  obtain ⟨N, hN⟩ : ∃ N, l.length = N := ⟨_, rfl⟩
  have HN : Hid (l.length = N) := hN
  rw [hN] at hle ⊢
  clear hN hu
  go_enter Try.func4, Try.ntmps4
  go_wp2_with (at_builtin; refine wpList_append_part rfl _ _ rfl w.heap.size _ 0 [] rfl (World.ownsRow_nil _ _ _ _) sa N cap l rfl HN.out.symm hs (by omega) (Nat.le_refl _) ?_; intro v1 w1 ho1 hg1)
  have hb1 : Below w.heap.size w w1 := Below.grown (Below.refl _ _) hg1 (Nat.le_refl _) (fun q e => by cases e)
  obtain ⟨a1, c1, hv, hl1, hs1⟩ := owns_form ho1
  subst hv
  rw [List.nil_append] at hs1 hl1
  have hD := decode_any l a1 (0 + N) c1 w1 hl1 hs1 hU (by rw [HN.out]; omega)
  have hs0 := hs.below hb1
  clear ho1 hg1 hs1 hl1 hs
  refine hD.mono ?_
  intro e w2 hd2
  have hb2 := hd2.below
  have hB2 := hb1.trans (hb2.mono hb1.size)
  have hs2 := hs0.below hb2
  have hF := dec_fix hd2 hU
  clear hD hd2 hs0
  rcases hF with ⟨F, hF0, he⟩ | ⟨y, hY, hC, hyb, he⟩
  · subst he
    dsimp only
    have qz := heap_alloc_new w2 (.cells #[.int .i64 0, .int .i64 0, .int .i64 0, .int .i64 0, .int .i64 0, .slice none 0 0, .int .i64 0, .int .i64 0, .slice none 0 0, .slice none 0 0, .int .i64 0, .int .i64 0, .slice none 0 0, .int .i64 0, .int .i64 0, .slice none 0 0, .slice none 0 0, .slice none 0 0, .int .i64 0] 37)
    have hA2 : Below w2.heap.size w2 ((w2.alloc (.cells #[.int .i64 0, .int .i64 0, .int .i64 0, .int .i64 0, .int .i64 0, .slice none 0 0, .int .i64 0, .int .i64 0, .slice none 0 0, .slice none 0 0, .int .i64 0, .int .i64 0, .slice none 0 0, .int .i64 0, .int .i64 0, .slice none 0 0, .slice none 0 0, .slice none 0 0, .int .i64 0] 37)).setRow w2.heap.size #[.int .i64 0, .int .i64 0, .int .i64 0, .int .i64 0, .int .i64 0, .slice none 0 0, .int .i64 0, .int .i64 0, .slice none 0 0, .slice none 0 0, .int .i64 0, .int .i64 0, .slice none 0 0, .int .i64 0, .int .i64 0, .slice none 0 0, .slice none 0 0, .slice none 0 0, .int .i64 0]) := laid_row w2 #[.int .i64 0, .int .i64 0, .int .i64 0, .int .i64 0, .int .i64 0, .slice none 0 0, .int .i64 0, .int .i64 0, .slice none 0 0, .slice none 0 0, .int .i64 0, .int .i64 0, .slice none 0 0, .int .i64 0, .int .i64 0, .slice none 0 0, .slice none 0 0, .slice none 0 0, .int .i64 0] #[.int .i64 0, .int .i64 0, .int .i64 0, .int .i64 0, .int .i64 0, .slice none 0 0, .int .i64 0, .int .i64 0, .slice none 0 0, .slice none 0 0, .int .i64 0, .int .i64 0, .slice none 0 0, .int .i64 0, .int .i64 0, .slice none 0 0, .slice none 0 0, .slice none 0 0, .int .i64 0] 37
    have q2 := setRow_heap _ _ _ #[.int .i64 0, .int .i64 0, .int .i64 0, .int .i64 0, .int .i64 0, .slice none 0 0, .int .i64 0, .int .i64 0, .slice none 0 0, .slice none 0 0, .int .i64 0, .int .i64 0, .slice none 0 0, .int .i64 0, .int .i64 0, .slice none 0 0, .slice none 0 0, .slice none 0 0, .int .i64 0] _ _ qz
    go_upto_region 2 with (refine wpList_store_row rfl 37 _ _ rfl w2.heap.size #[.int .i64 0, .int .i64 0, .int .i64 0, .int .i64 0, .int .i64 0, .slice none 0 0, .int .i64 0, .int .i64 0, .slice none 0 0, .slice none 0 0, .int .i64 0, .int .i64 0, .slice none 0 0, .int .i64 0, .int .i64 0, .slice none 0 0, .slice none 0 0, .slice none 0 0, .int .i64 0] rfl rfl 37 _ qz sMsg' rfl (by simp [Value.oneCell']) ?_)
    generalize (w2.alloc (.cells #[.int .i64 0, .int .i64 0, .int .i64 0, .int .i64 0, .int .i64 0, .slice none 0 0, .int .i64 0, .int .i64 0, .slice none 0 0, .slice none 0 0, .int .i64 0, .int .i64 0, .slice none 0 0, .int .i64 0, .int .i64 0, .slice none 0 0, .slice none 0 0, .slice none 0 0, .int .i64 0] 37)).setRow w2.heap.size #[.int .i64 0, .int .i64 0, .int .i64 0, .int .i64 0, .int .i64 0, .slice none 0 0, .int .i64 0, .int .i64 0, .slice none 0 0, .slice none 0 0, .int .i64 0, .int .i64 0, .slice none 0 0, .int .i64 0, .int .i64 0, .slice none 0 0, .slice none 0 0, .slice none 0 0, .int .i64 0] = W2 at hA2 q2 ⊢
    clear qz
    have hBW := hB2.trans (hA2.mono hB2.size)
    have k2 := cells_at q2 2 _ rfl
    have k18 := cells_at q2 18 _ rfl
    clear q2
    go_wp2_with fail
    go_ret
    exact ⟨rfl, hBW⟩
  · subst he
    dsimp only
    have qz := heap_alloc_new w2 (.cells #[.int .i64 0, .int .i64 0, .int .i64 0, .int .i64 0, .int .i64 0, .slice none 0 0, .int .i64 0, .int .i64 0, .slice none 0 0, .slice none 0 0, .int .i64 0, .int .i64 0, .slice none 0 0, .int .i64 0, .int .i64 0, .slice none 0 0, .slice none 0 0, .slice none 0 0, .int .i64 0] 37)
    have hA2 : Below w2.heap.size w2 ((w2.alloc (.cells #[.int .i64 0, .int .i64 0, .int .i64 0, .int .i64 0, .int .i64 0, .slice none 0 0, .int .i64 0, .int .i64 0, .slice none 0 0, .slice none 0 0, .int .i64 0, .int .i64 0, .slice none 0 0, .int .i64 0, .int .i64 0, .slice none 0 0, .slice none 0 0, .slice none 0 0, .int .i64 0] 37)).setRow w2.heap.size #[.int .i64 y.m.fr, .int .i64 y.m.tt, .int .i64 y.m.ki, .int .i64 y.m.bau, .int .i64 y.m.bnu, .slice y.m.bta y.m.btn y.m.btc, .int .i64 y.m.hau, .int .i64 y.m.hrd, .slice y.m.hba y.m.hbn y.m.hbc, .slice y.m.hpa y.m.hpn y.m.hpc, .int .i64 y.m.sau, .int .i64 y.m.srd, .slice y.m.sda y.m.sdn y.m.sdc, .int .i64 y.m.cau, .int .i64 y.m.crd, .slice y.m.cba y.m.cbn y.m.cbc, .slice y.m.cpa y.m.cpn y.m.cpc, .slice y.m.cva y.m.cvn y.m.cvc, .int .i64 y.m.ro]) := laid_row w2 #[.int .i64 0, .int .i64 0, .int .i64 0, .int .i64 0, .int .i64 0, .slice none 0 0, .int .i64 0, .int .i64 0, .slice none 0 0, .slice none 0 0, .int .i64 0, .int .i64 0, .slice none 0 0, .int .i64 0, .int .i64 0, .slice none 0 0, .slice none 0 0, .slice none 0 0, .int .i64 0] #[.int .i64 y.m.fr, .int .i64 y.m.tt, .int .i64 y.m.ki, .int .i64 y.m.bau, .int .i64 y.m.bnu, .slice y.m.bta y.m.btn y.m.btc, .int .i64 y.m.hau, .int .i64 y.m.hrd, .slice y.m.hba y.m.hbn y.m.hbc, .slice y.m.hpa y.m.hpn y.m.hpc, .int .i64 y.m.sau, .int .i64 y.m.srd, .slice y.m.sda y.m.sdn y.m.sdc, .int .i64 y.m.cau, .int .i64 y.m.crd, .slice y.m.cba y.m.cbn y.m.cbc, .slice y.m.cpa y.m.cpn y.m.cpc, .slice y.m.cva y.m.cvn y.m.cvc, .int .i64 y.m.ro] 37
    have q2 := setRow_heap _ _ _ #[.int .i64 y.m.fr, .int .i64 y.m.tt, .int .i64 y.m.ki, .int .i64 y.m.bau, .int .i64 y.m.bnu, .slice y.m.bta y.m.btn y.m.btc, .int .i64 y.m.hau, .int .i64 y.m.hrd, .slice y.m.hba y.m.hbn y.m.hbc, .slice y.m.hpa y.m.hpn y.m.hpc, .int .i64 y.m.sau, .int .i64 y.m.srd, .slice y.m.sda y.m.sdn y.m.sdc, .int .i64 y.m.cau, .int .i64 y.m.crd, .slice y.m.cba y.m.cbn y.m.cbc, .slice y.m.cpa y.m.cpn y.m.cpc, .slice y.m.cva y.m.cvn y.m.cvc, .int .i64 y.m.ro] _ _ qz
    go_upto_region 2 with (refine wpList_store_row rfl 37 _ _ rfl w2.heap.size #[.int .i64 y.m.fr, .int .i64 y.m.tt, .int .i64 y.m.ki, .int .i64 y.m.bau, .int .i64 y.m.bnu, .slice y.m.bta y.m.btn y.m.btc, .int .i64 y.m.hau, .int .i64 y.m.hrd, .slice y.m.hba y.m.hbn y.m.hbc, .slice y.m.hpa y.m.hpn y.m.hpc, .int .i64 y.m.sau, .int .i64 y.m.srd, .slice y.m.sda y.m.sdn y.m.sdc, .int .i64 y.m.cau, .int .i64 y.m.crd, .slice y.m.cba y.m.cbn y.m.cbc, .slice y.m.cpa y.m.cpn y.m.cpc, .slice y.m.cva y.m.cvn y.m.cvc, .int .i64 y.m.ro] rfl rfl 37 _ qz sMsg' rfl (by simp [Value.oneCell']) ?_)
    generalize (w2.alloc (.cells #[.int .i64 0, .int .i64 0, .int .i64 0, .int .i64 0, .int .i64 0, .slice none 0 0, .int .i64 0, .int .i64 0, .slice none 0 0, .slice none 0 0, .int .i64 0, .int .i64 0, .slice none 0 0, .int .i64 0, .int .i64 0, .slice none 0 0, .slice none 0 0, .slice none 0 0, .int .i64 0] 37)).setRow w2.heap.size #[.int .i64 y.m.fr, .int .i64 y.m.tt, .int .i64 y.m.ki, .int .i64 y.m.bau, .int .i64 y.m.bnu, .slice y.m.bta y.m.btn y.m.btc, .int .i64 y.m.hau, .int .i64 y.m.hrd, .slice y.m.hba y.m.hbn y.m.hbc, .slice y.m.hpa y.m.hpn y.m.hpc, .int .i64 y.m.sau, .int .i64 y.m.srd, .slice y.m.sda y.m.sdn y.m.sdc, .int .i64 y.m.cau, .int .i64 y.m.crd, .slice y.m.cba y.m.cbn y.m.cbc, .slice y.m.cpa y.m.cpn y.m.cpc, .slice y.m.cva y.m.cvn y.m.cvc, .int .i64 y.m.ro] = W2 at hA2 q2 ⊢
    clear qz
    have hBW := hB2.trans (hA2.mono hB2.size)
    have hYW := hY.below hA2
    have hsW := hs2.below hA2
    go_wp2_with (refine wpList_load_row rfl 37 _ rfl w2.heap.size rfl 37 #[.int .i64 y.m.fr, .int .i64 y.m.tt, .int .i64 y.m.ki, .int .i64 y.m.bau, .int .i64 y.m.bnu, .slice y.m.bta y.m.btn y.m.btc, .int .i64 y.m.hau, .int .i64 y.m.hrd, .slice y.m.hba y.m.hbn y.m.hbc, .slice y.m.hpa y.m.hpn y.m.hpc, .int .i64 y.m.sau, .int .i64 y.m.srd, .slice y.m.sda y.m.sdn y.m.sdc, .int .i64 y.m.cau, .int .i64 y.m.crd, .slice y.m.cba y.m.cbn y.m.cbc, .slice y.m.cpa y.m.cpn y.m.cpc, .slice y.m.cva y.m.cvn y.m.cvc, .int .i64 y.m.ro] (0, 0) _ q2 Try.underlying37 rfl sMsg' ?_)
    refine (encode_mvU hYW hC).mono ?_
    rintro e w3 ⟨a, c, he, hs3, hb3⟩
    have hB3 := hBW.trans (hb3.mono hBW.size)
    have hsl := hsW.below hb3
    rw [hyb] at he hs3
    rw [HN.out] at he
    subst he
    dsimp only
    have hE := same_eq l a sa N N c cap w3 HN.out.symm HN.out.symm hs3 hsl
    clear hs3 hsl hsW hYW hY hs2 q2
    go_wp2_with fail
    refine hE.mono ?_
    rintro e w4 ⟨rfl, rfl⟩
    dsimp only
    go_wp2_with fail
    go_ret
    exact ⟨rfl, hB3⟩
end Go.Proofs.Ythijfhbmkpfnkaa
