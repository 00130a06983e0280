/- sheaveslaw.sameMessages: of messages that say the same. -/
import Derived.Test.YtldlknmpkoebbaaTapeRecoversM90
import Derived.Test.YtldlknmpkoebbaaIntsL
import Derived.Test.YtldlknmpkoebbaaSx
import Derived.Test.YtldlknmpkoebbaaApp
import Derived.Deep.CutRange
import Derived.Deep.DeepCutAuto
import Derived.Test.YtldlknmpkoebbaaTapeRecoversM84
import Derived.Test.YtldlknmpkoebbaaTapeRecoversM48
import Derived.Test.YtldlknmpkoebbaaTapeRecoversM72
import Derived.Test.YtldlknmpkoebbaaTapeRecoversM78
import Derived.Deep.Cut
namespace Go.Proofs.Ytldlknmpkoebbaa
open Go.RowKit

set_option maxRecDepth 100000 in
set_option maxHeartbeats 1000000 in
theorem sameIntsL_eq (vl : List Int) (sa sb : Option Addr) (c d : Nat) (w : World) (hl : vl.length ≤ 9000000000000000000) (ha : IntsAt w sa vl) (hb : IntsAt w sb vl) :
    Calls Try.prog 58 #[.slice sa vl.length c, .slice sb vl.length d] w fun e w' => e = .returned (.bool true) ∧ Below w.heap.size w w' := by
  go_enter Try.func58, Try.ntmps58
  go_wp2_with fail
  go_loopw [5] (fun j wr => ∃ k : Nat, k ≤ vl.length ∧ j = .int .i64 k ∧ Below w.heap.size w wr) (fun j _ => vl.length - (intOf j).toNat)
  case atStart => exact ⟨0, Nat.zero_le _, rfl, Below.refl _ _⟩
  case round =>
    obtain ⟨k, hk, rfl, hbw⟩ := hrel
    by_cases hlt2 : k < vl.length
    · obtain ⟨ab, ao, rfl, hca⟩ : ∃ ab ao, sa = some ⟨ab, ao, none⟩ ∧ ∀ j, j < vl.length → wr.cell? ⟨ab, ao + j, none⟩ = some (.int .i64 (vl.getD j 0)) := by
        rcases (ha.below hbw).cells with h | h
        · subst h; simp at hlt2
        · exact h
      obtain ⟨bb, bo, rfl, hcb⟩ : ∃ bb bo, sb = some ⟨bb, bo, none⟩ ∧ ∀ j, j < vl.length → wr.cell? ⟨bb, bo + j, none⟩ = some (.int .i64 (vl.getD j 0)) := by
        rcases (hb.below hbw).cells with h | h
        · subst h; simp at hlt2
        · exact h
      have ka := hca k hlt2
      have kb := hcb k hlt2
      have hltI : (k : Int) < vl.length := by omega
      have h0 : (0 : Int) ≤ k := by omega
      clear hca hcb
      generalize vl.getD k 0 = x at *
      go_wp2_with fail
      go_region
      all_goals
        go_wp2_with fail
        go_roundw
        case rel =>
          have hR : ∃ k' : Nat, k' ≤ vl.length ∧ (Value.int .i64 ((k : Int) + 1)) = .int .i64 k' ∧ Below w.heap.size w wr.drew := ⟨k + 1, by omega, by go_num, hbw.drew⟩
          first | exact hR | ((repeat apply Exists.intro); exact ⟨hR, rfl⟩)
        case measure => simp [intOf]; omega
    · obtain rfl : k = vl.length := by omega
      have hltI : ¬ (vl.length : Int) < vl.length := by omega
      go_wp2_with fail
      go_ret
      exact ⟨rfl, hbw⟩
set_option maxRecDepth 100000 in
set_option maxHeartbeats 1000000 in
theorem sameCertR_eq (au rd : Int) (xa : Option Addr) (xc : Nat) (xl : List Part) (ya : Option Addr) (yc : Nat) (yl : List Part) (za : Option Addr) (zc : Nat) (zl : List Int) (ba : Option Addr) (bc : Nat) (bl : List Part) (pa : Option Addr) (pc : Nat) (pl : List Part) (va : Option Addr) (vc : Nat) (w : World) (S1 : Same xl bl) (S2 : Same yl pl) (hl : zl.length ≤ 9000000000000000000) (a1 : ListAt w xa xc xl) (a2 : ListAt w ya yc yl) (a3 : IntsAt w za zl) (b1 : ListAt w ba bc bl) (b2 : ListAt w pa pc pl) (b3 : IntsAt w va zl) :
    Calls Try.prog 41 #[.agg #[.int .i64 au, .int .i64 rd, .slice xa xl.length xc, .slice ya yl.length yc, .slice za zl.length zc], .agg #[.int .i64 au, .int .i64 rd, .slice ba bl.length bc, .slice pa pl.length pc, .slice va zl.length vc]] w fun e w' => e = .returned (.bool true) ∧ Below w.heap.size w w' := by
  rw [S1.length, S2.length]
  have hA : Below w.heap.size w ((w.alloc (.cells #[.int .i64 au, .int .i64 rd, .slice xa bl.length xc, .slice ya pl.length yc, .slice za zl.length zc] 51)).alloc (.cells #[.int .i64 au, .int .i64 rd, .slice ba bl.length bc, .slice pa pl.length pc, .slice va zl.length vc] 51)) := ((Below.refl _ _).alloc (Nat.le_refl _) _).alloc (by rw [size_alloc]; omega) _
  have q0 := heap_alloc2_old w (.cells #[.int .i64 au, .int .i64 rd, .slice xa bl.length xc, .slice ya pl.length yc, .slice za zl.length zc] 51) (.cells #[.int .i64 au, .int .i64 rd, .slice ba bl.length bc, .slice pa pl.length pc, .slice va zl.length vc] 51)
  have q1 : ((w.alloc (.cells #[.int .i64 au, .int .i64 rd, .slice xa bl.length xc, .slice ya pl.length yc, .slice za zl.length zc] 51)).alloc (.cells #[.int .i64 au, .int .i64 rd, .slice ba bl.length bc, .slice pa pl.length pc, .slice va zl.length vc] 51)).heap[w.heap.size + 1]? = some (.cells #[.int .i64 au, .int .i64 rd, .slice ba bl.length bc, .slice pa pl.length pc, .slice va zl.length vc] 51 (0, 0)) := by
    have := heap_alloc_new (w.alloc (.cells #[.int .i64 au, .int .i64 rd, .slice xa bl.length xc, .slice ya pl.length yc, .slice za zl.length zc] 51)) (.cells #[.int .i64 au, .int .i64 rd, .slice ba bl.length bc, .slice pa pl.length pc, .slice va zl.length vc] 51)
    rw [size_alloc] at this; exact this
  have HS1 : Hid _ := S1
  have HS2 : Hid _ := S2
  clear S1 S2
  go_enter Try.func41, Try.ntmps41
  go_wp2_with fail
  generalize (w.alloc (.cells #[.int .i64 au, .int .i64 rd, .slice xa bl.length xc, .slice ya pl.length yc, .slice za zl.length zc] 51)).alloc (.cells #[.int .i64 au, .int .i64 rd, .slice ba bl.length bc, .slice pa pl.length pc, .slice va zl.length vc] 51) = W0 at hA q0 q1 ⊢
  refine (sameHeaderL_eq au rd xa xc xl ya yc yl ba bc bl pa pc pl W0 HS1.out HS2.out (a1.below hA) (a2.below hA) (b1.below hA) (b2.below hA)).mono ?_
  rintro e w1 ⟨he, hb1⟩
  subst he
  dsimp only
  have r0 := (hb1.block _ (lt_of_heap q0)).trans q0
  have r1 := (hb1.block _ (lt_of_heap q1)).trans q1
  have k4 := cells_at r0 4 _ rfl
  have m4 := cells_at r1 4 _ rfl
  have hB1 := hA.trans (hb1.mono hA.size)
  go_wp2_with fail
  refine (sameIntsL_eq zl za va zc vc w1 hl (a3.below hB1) (b3.below hB1)).mono ?_
  rintro e w2 ⟨he, hb2⟩
  subst he
  dsimp only
  go_wp2_with fail
  go_ret
  exact ⟨rfl, hB1.trans (hb2.mono hB1.size)⟩
end Go.Proofs.Ytldlknmpkoebbaa

namespace Go.Proofs.Ytldlknmpkoebbaa
open Go.RowKit

set_option maxRecDepth 100000 in
set_option maxHeartbeats 1000000 in
theorem sameSlotL_eq (au rd : Int) (bs : List Int) (sa sb : Option Addr) (n m c d : Nat) (w : World) (hn : n = bs.length) (hm : m = bs.length) (ha : SliceAt w sa c bs) (hb : SliceAt w sb d bs) :
    Calls Try.prog 40 #[.agg #[.int .i64 au, .int .i64 rd, .slice sa n c], .agg #[.int .i64 au, .int .i64 rd, .slice sb m d]] w fun e w' => e = .returned (.bool true) ∧ Below w.heap.size w w' := by
  have hA : Below w.heap.size w ((w.alloc (.cells #[.int .i64 au, .int .i64 rd, .slice sa n c] 48)).alloc (.cells #[.int .i64 au, .int .i64 rd, .slice sb m d] 48)) := ((Below.refl _ _).alloc (Nat.le_refl _) _).alloc (by simp) _
  have h1 := run_text _ sa n c bs hn (ha.below hA)
  have h2 := run_text _ sb m d bs hm (hb.below hA)
  clear hn hm ha hb
  generalize bstr bs = A at *
  go_enter Try.func40, Try.ntmps40
  go_wp2_with fail
  go_ret
  exact ⟨by first | rfl | simp, hA⟩
end Go.Proofs.Ytldlknmpkoebbaa

namespace Go.Proofs.Ytldlknmpkoebbaa
open Go.RowKit

set_option maxRecDepth 100000 in
set_option maxHeartbeats 4000000 in
theorem sameMsg_eq (fr tt ki bau bnu hau hrd sau srd cau crd ro : Int) (a1 a2 a3 a4 a5 a6 a7 b1 b2 b3 b4 b5 b6 b7 : Option Addr) (c1 c2 c3 c4 c5 c6 c7 d1 d2 d3 d4 d5 d6 d7 : Nat) (ss : List ByteArray) (yl zl xl ql bl pl cbl cpl : List Part) (ds vl : List Int) (w : World)
    (s1 : Same yl bl) (s2 : Same zl pl) (s3 : Same xl cbl) (s4 : Same ql cpl) (hl1 : ss.length ≤ 9000000000000000000) (hl7 : vl.length ≤ 9000000000000000000)
    (h1 : StrsAt w a1 ss) (h2 : ListAt w a2 c2 yl) (h3 : ListAt w a3 c3 zl) (h4 : SliceAt w a4 c4 ds) (h5 : ListAt w a5 c5 xl) (h6 : ListAt w a6 c6 ql) (h7 : IntsAt w a7 vl)
    (k1 : StrsAt w b1 ss) (k2 : ListAt w b2 d2 bl) (k3 : ListAt w b3 d3 pl) (k4 : SliceAt w b4 d4 ds) (k5 : ListAt w b5 d5 cbl) (k6 : ListAt w b6 d6 cpl) (k7 : IntsAt w b7 vl) :
    Calls Try.prog 25 #[.agg #[.int .i64 fr, .int .i64 tt, .int .i64 ki, .int .i64 bau, .int .i64 bnu, .slice a1 ss.length c1, .int .i64 hau, .int .i64 hrd, .slice a2 bl.length c2, .slice a3 pl.length c3, .int .i64 sau, .int .i64 srd, .slice a4 ds.length c4, .int .i64 cau, .int .i64 crd, .slice a5 cbl.length c5, .slice a6 cpl.length c6, .slice a7 vl.length c7, .int .i64 ro], .agg #[.int .i64 fr, .int .i64 tt, .int .i64 ki, .int .i64 bau, .int .i64 bnu, .slice b1 ss.length d1, .int .i64 hau, .int .i64 hrd, .slice b2 bl.length d2, .slice b3 pl.length d3, .int .i64 sau, .int .i64 srd, .slice b4 ds.length d4, .int .i64 cau, .int .i64 crd, .slice b5 cbl.length d5, .slice b6 cpl.length d6, .slice b7 vl.length d7, .int .i64 ro]] w fun e w' => e = .returned (.bool true) ∧ Below w.heap.size w w' := by
  have hA : Below w.heap.size w ((w.alloc (.cells #[.int .i64 fr, .int .i64 tt, .int .i64 ki, .int .i64 bau, .int .i64 bnu, .slice a1 ss.length c1, .int .i64 hau, .int .i64 hrd, .slice a2 bl.length c2, .slice a3 pl.length c3, .int .i64 sau, .int .i64 srd, .slice a4 ds.length c4, .int .i64 cau, .int .i64 crd, .slice a5 cbl.length c5, .slice a6 cpl.length c6, .slice a7 vl.length c7, .int .i64 ro] 53)).alloc (.cells #[.int .i64 fr, .int .i64 tt, .int .i64 ki, .int .i64 bau, .int .i64 bnu, .slice b1 ss.length d1, .int .i64 hau, .int .i64 hrd, .slice b2 bl.length d2, .slice b3 pl.length d3, .int .i64 sau, .int .i64 srd, .slice b4 ds.length d4, .int .i64 cau, .int .i64 crd, .slice b5 cbl.length d5, .slice b6 cpl.length d6, .slice b7 vl.length d7, .int .i64 ro] 53)) := ((Below.refl _ _).alloc (Nat.le_refl _) _).alloc (by simp) _
  have r0 := heap_alloc2_old w (.cells #[.int .i64 fr, .int .i64 tt, .int .i64 ki, .int .i64 bau, .int .i64 bnu, .slice a1 ss.length c1, .int .i64 hau, .int .i64 hrd, .slice a2 bl.length c2, .slice a3 pl.length c3, .int .i64 sau, .int .i64 srd, .slice a4 ds.length c4, .int .i64 cau, .int .i64 crd, .slice a5 cbl.length c5, .slice a6 cpl.length c6, .slice a7 vl.length c7, .int .i64 ro] 53) (.cells #[.int .i64 fr, .int .i64 tt, .int .i64 ki, .int .i64 bau, .int .i64 bnu, .slice b1 ss.length d1, .int .i64 hau, .int .i64 hrd, .slice b2 bl.length d2, .slice b3 pl.length d3, .int .i64 sau, .int .i64 srd, .slice b4 ds.length d4, .int .i64 cau, .int .i64 crd, .slice b5 cbl.length d5, .slice b6 cpl.length d6, .slice b7 vl.length d7, .int .i64 ro] 53)
  have r1 := heap_alloc2_new w (.cells #[.int .i64 fr, .int .i64 tt, .int .i64 ki, .int .i64 bau, .int .i64 bnu, .slice a1 ss.length c1, .int .i64 hau, .int .i64 hrd, .slice a2 bl.length c2, .slice a3 pl.length c3, .int .i64 sau, .int .i64 srd, .slice a4 ds.length c4, .int .i64 cau, .int .i64 crd, .slice a5 cbl.length c5, .slice a6 cpl.length c6, .slice a7 vl.length c7, .int .i64 ro] 53) (.cells #[.int .i64 fr, .int .i64 tt, .int .i64 ki, .int .i64 bau, .int .i64 bnu, .slice b1 ss.length d1, .int .i64 hau, .int .i64 hrd, .slice b2 bl.length d2, .slice b3 pl.length d3, .int .i64 sau, .int .i64 srd, .slice b4 ds.length d4, .int .i64 cau, .int .i64 crd, .slice b5 cbl.length d5, .slice b6 cpl.length d6, .slice b7 vl.length d7, .int .i64 ro] 53)
  have H1 : Hid (∀ W : World, Below w.heap.size w W → Calls Try.prog 38 #[.agg #[.int .i64 bau, .int .i64 bnu, .slice a1 ss.length c1], .agg #[.int .i64 bau, .int .i64 bnu, .slice b1 ss.length d1]] W fun e w' => e = .returned (.bool true) ∧ Below W.heap.size W w') := by
    show ∀ _, _
    intro W hW
    exact sameBatchL_eq bau bnu ss a1 b1 _ _ c1 d1 W rfl rfl (by unfold maxLen; omega) (h1.below hW) (k1.below hW)
  have H2 : Hid (∀ W : World, Below w.heap.size w W → Calls Try.prog 39 #[.agg #[.int .i64 hau, .int .i64 hrd, .slice a2 bl.length c2, .slice a3 pl.length c3], .agg #[.int .i64 hau, .int .i64 hrd, .slice b2 bl.length d2, .slice b3 pl.length d3]] W fun e w' => e = .returned (.bool true) ∧ Below W.heap.size W w') := by
    show ∀ _, _
    intro W hW
    exact sameHeaderL_eq hau hrd a2 c2 yl a3 c3 zl b2 d2 bl b3 d3 pl W s1 s2 (h2.below hW) (h3.below hW) (k2.below hW) (k3.below hW)
  have H3 : Hid (∀ W : World, Below w.heap.size w W → Calls Try.prog 40 #[.agg #[.int .i64 sau, .int .i64 srd, .slice a4 ds.length c4], .agg #[.int .i64 sau, .int .i64 srd, .slice b4 ds.length d4]] W fun e w' => e = .returned (.bool true) ∧ Below W.heap.size W w') := by
    show ∀ _, _
    intro W hW
    exact sameSlotL_eq sau srd ds a4 b4 _ _ c4 d4 W rfl rfl (h4.below hW) (k4.below hW)
  have H4 : Hid (∀ W : World, Below w.heap.size w W → Calls Try.prog 41 #[.agg #[.int .i64 cau, .int .i64 crd, .slice a5 cbl.length c5, .slice a6 cpl.length c6, .slice a7 vl.length c7], .agg #[.int .i64 cau, .int .i64 crd, .slice b5 cbl.length d5, .slice b6 cpl.length d6, .slice b7 vl.length d7]] W fun e w' => e = .returned (.bool true) ∧ Below W.heap.size W w') := by
    show ∀ _, _
    intro W hW
    have := sameCertR_eq cau crd a5 c5 xl a6 c6 ql a7 c7 vl b5 d5 cbl b6 d6 cpl b7 d7 W s3 s4 hl7 (h5.below hW) (h6.below hW) (h7.below hW) (k5.below hW) (k6.below hW) (k7.below hW)
    rw [s3.length, s4.length] at this
    exact this
  clear s1 s2 s3 s4 hl1 hl7 h1 h2 h3 h4 h5 h6 h7 k1 k2 k3 k4 k5 k6 k7
  generalize ss.length = n1 at *
  generalize bl.length = n2 at *
  generalize pl.length = n3 at *
  generalize ds.length = n4 at *
  generalize cbl.length = n5 at *
  generalize cpl.length = n6 at *
  generalize vl.length = n7 at *
  go_enter Try.func25, Try.ntmps25
  go_upto_region 1 with fail
  generalize (w.alloc (.cells #[.int .i64 fr, .int .i64 tt, .int .i64 ki, .int .i64 bau, .int .i64 bnu, .slice a1 n1 c1, .int .i64 hau, .int .i64 hrd, .slice a2 n2 c2, .slice a3 n3 c3, .int .i64 sau, .int .i64 srd, .slice a4 n4 c4, .int .i64 cau, .int .i64 crd, .slice a5 n5 c5, .slice a6 n6 c6, .slice a7 n7 c7, .int .i64 ro] 53)).alloc (.cells #[.int .i64 fr, .int .i64 tt, .int .i64 ki, .int .i64 bau, .int .i64 bnu, .slice b1 n1 d1, .int .i64 hau, .int .i64 hrd, .slice b2 n2 d2, .slice b3 n3 d3, .int .i64 sau, .int .i64 srd, .slice b4 n4 d4, .int .i64 cau, .int .i64 crd, .slice b5 n5 d5, .slice b6 n6 d6, .slice b7 n7 d7, .int .i64 ro] 53) = W0 at hA r0 r1 ⊢
  have xp0 : W0.cell? ⟨w.heap.size, 0, none⟩ = some (.int .i64 fr) := cells_at r0 0 _ rfl
  have xp1 : W0.cell? ⟨w.heap.size, 1, none⟩ = some (.int .i64 tt) := cells_at r0 1 _ rfl
  have xp2 : W0.cell? ⟨w.heap.size, 2, none⟩ = some (.int .i64 ki) := cells_at r0 2 _ rfl
  have xp18 : W0.cell? ⟨w.heap.size, 18, none⟩ = some (.int .i64 ro) := cells_at r0 18 _ rfl
  have xp3 : W0.cell? ⟨w.heap.size, 3, none⟩ = some (.int .i64 bau) := cells_at r0 3 _ rfl
  have xp4 : W0.cell? ⟨w.heap.size, 4, none⟩ = some (.int .i64 bnu) := cells_at r0 4 _ rfl
  have xp5 : W0.cell? ⟨w.heap.size, 5, none⟩ = some (.slice a1 n1 c1) := cells_at r0 5 _ rfl
  have yp0 : W0.cell? ⟨w.heap.size + 1, 0, none⟩ = some (.int .i64 fr) := cells_at r1 0 _ rfl
  have yp1 : W0.cell? ⟨w.heap.size + 1, 1, none⟩ = some (.int .i64 tt) := cells_at r1 1 _ rfl
  have yp2 : W0.cell? ⟨w.heap.size + 1, 2, none⟩ = some (.int .i64 ki) := cells_at r1 2 _ rfl
  have yp18 : W0.cell? ⟨w.heap.size + 1, 18, none⟩ = some (.int .i64 ro) := cells_at r1 18 _ rfl
  have yp3 : W0.cell? ⟨w.heap.size + 1, 3, none⟩ = some (.int .i64 bau) := cells_at r1 3 _ rfl
  have yp4 : W0.cell? ⟨w.heap.size + 1, 4, none⟩ = some (.int .i64 bnu) := cells_at r1 4 _ rfl
  have yp5 : W0.cell? ⟨w.heap.size + 1, 5, none⟩ = some (.slice b1 n1 d1) := cells_at r1 5 _ rfl
  go_wp2_with fail
  refine (H1.out W0 hA).mono ?_
  rintro e w1 ⟨he, hb1⟩
  subst he
  dsimp only
  have hB1 := hA.trans (hb1.mono hA.size)
  have p0 := (hb1.block _ (lt_of_heap r0)).trans r0
  have p1 := (hb1.block _ (lt_of_heap r1)).trans r1
  clear r0 r1 xp0 xp1 xp2 xp18 xp3 xp4 xp5 yp0 yp1 yp2 yp18 yp3 yp4 yp5
  have xq26 : w1.cell? ⟨w.heap.size, 6, none⟩ = some (.int .i64 hau) := cells_at p0 6 _ rfl
  have xq27 : w1.cell? ⟨w.heap.size, 7, none⟩ = some (.int .i64 hrd) := cells_at p0 7 _ rfl
  have xq28 : w1.cell? ⟨w.heap.size, 8, none⟩ = some (.slice a2 n2 c2) := cells_at p0 8 _ rfl
  have xq29 : w1.cell? ⟨w.heap.size, 9, none⟩ = some (.slice a3 n3 c3) := cells_at p0 9 _ rfl
  have yq26 : w1.cell? ⟨w.heap.size + 1, 6, none⟩ = some (.int .i64 hau) := cells_at p1 6 _ rfl
  have yq27 : w1.cell? ⟨w.heap.size + 1, 7, none⟩ = some (.int .i64 hrd) := cells_at p1 7 _ rfl
  have yq28 : w1.cell? ⟨w.heap.size + 1, 8, none⟩ = some (.slice b2 n2 d2) := cells_at p1 8 _ rfl
  have yq29 : w1.cell? ⟨w.heap.size + 1, 9, none⟩ = some (.slice b3 n3 d3) := cells_at p1 9 _ rfl
  go_wp2_with fail
  refine (H2.out w1 hB1).mono ?_
  rintro e w2 ⟨he, hb2⟩
  subst he
  dsimp only
  have hB2 := hB1.trans (hb2.mono hB1.size)
  have p20 := (hb2.block _ (lt_of_heap p0)).trans p0
  have p21 := (hb2.block _ (lt_of_heap p1)).trans p1
  clear p0 p1 xq26 xq27 xq28 xq29 yq26 yq27 yq28 yq29
  have xq310 : w2.cell? ⟨w.heap.size, 10, none⟩ = some (.int .i64 sau) := cells_at p20 10 _ rfl
  have xq311 : w2.cell? ⟨w.heap.size, 11, none⟩ = some (.int .i64 srd) := cells_at p20 11 _ rfl
  have xq312 : w2.cell? ⟨w.heap.size, 12, none⟩ = some (.slice a4 n4 c4) := cells_at p20 12 _ rfl
  have yq310 : w2.cell? ⟨w.heap.size + 1, 10, none⟩ = some (.int .i64 sau) := cells_at p21 10 _ rfl
  have yq311 : w2.cell? ⟨w.heap.size + 1, 11, none⟩ = some (.int .i64 srd) := cells_at p21 11 _ rfl
  have yq312 : w2.cell? ⟨w.heap.size + 1, 12, none⟩ = some (.slice b4 n4 d4) := cells_at p21 12 _ rfl
  go_wp2_with fail
  refine (H3.out w2 hB2).mono ?_
  rintro e w3 ⟨he, hb3⟩
  subst he
  dsimp only
  have hB3 := hB2.trans (hb3.mono hB2.size)
  have p30 := (hb3.block _ (lt_of_heap p20)).trans p20
  have p31 := (hb3.block _ (lt_of_heap p21)).trans p21
  clear p20 p21 xq310 xq311 xq312 yq310 yq311 yq312
  have xq413 : w3.cell? ⟨w.heap.size, 13, none⟩ = some (.int .i64 cau) := cells_at p30 13 _ rfl
  have xq414 : w3.cell? ⟨w.heap.size, 14, none⟩ = some (.int .i64 crd) := cells_at p30 14 _ rfl
  have xq415 : w3.cell? ⟨w.heap.size, 15, none⟩ = some (.slice a5 n5 c5) := cells_at p30 15 _ rfl
  have xq416 : w3.cell? ⟨w.heap.size, 16, none⟩ = some (.slice a6 n6 c6) := cells_at p30 16 _ rfl
  have xq417 : w3.cell? ⟨w.heap.size, 17, none⟩ = some (.slice a7 n7 c7) := cells_at p30 17 _ rfl
  have yq413 : w3.cell? ⟨w.heap.size + 1, 13, none⟩ = some (.int .i64 cau) := cells_at p31 13 _ rfl
  have yq414 : w3.cell? ⟨w.heap.size + 1, 14, none⟩ = some (.int .i64 crd) := cells_at p31 14 _ rfl
  have yq415 : w3.cell? ⟨w.heap.size + 1, 15, none⟩ = some (.slice b5 n5 d5) := cells_at p31 15 _ rfl
  have yq416 : w3.cell? ⟨w.heap.size + 1, 16, none⟩ = some (.slice b6 n6 d6) := cells_at p31 16 _ rfl
  have yq417 : w3.cell? ⟨w.heap.size + 1, 17, none⟩ = some (.slice b7 n7 d7) := cells_at p31 17 _ rfl
  go_wp2_with fail
  refine (H4.out w3 hB3).mono ?_
  rintro e w4 ⟨he, hb4⟩
  subst he
  dsimp only
  have hB4 := hB3.trans (hb4.mono hB3.size)
  go_wp2_with fail
  go_ret
  exact ⟨rfl, hB4⟩
end Go.Proofs.Ytldlknmpkoebbaa

namespace Go.Proofs.Ytldlknmpkoebbaa
open Go.RowKit

set_option maxRecDepth 100000 in
set_option maxHeartbeats 4000000 in
theorem mof_any (bs : List Int) (sa : Option Addr) (n cap : Nat) (w : World) (hn : n = bs.length) (hs : SliceAt w sa cap bs) (hu : U8s bs) :
    Calls Try.prog 22 #[.slice sa n cap] w fun e w' => DecIs w w' e bs := by
  subst hn
  have hA : Below w.heap.size w (w.alloc (.cells #[.int .i64 0, .int .i64 0, .int .i64 0, .int .i64 0, .int .i64 0, .slice none 0 0, .int .i64 0, .int .i64 0, .slice none 0 0, .slice none 0 0, .int .i64 0, .int .i64 0, .slice none 0 0, .int .i64 0, .int .i64 0, .slice none 0 0, .slice none 0 0, .slice none 0 0, .int .i64 0] 53)) := (Below.refl _ _).alloc (Nat.le_refl _) _
  have q0 := heap_alloc_new w (.cells #[.int .i64 0, .int .i64 0, .int .i64 0, .int .i64 0, .int .i64 0, .slice none 0 0, .int .i64 0, .int .i64 0, .slice none 0 0, .slice none 0 0, .int .i64 0, .int .i64 0, .slice none 0 0, .int .i64 0, .int .i64 0, .slice none 0 0, .slice none 0 0, .slice none 0 0, .int .i64 0] 53)
  by_cases h1 : 4000 < bs.length
  · have hF : Hid (readF bs = 1) := by show _ = _; rw [readF, if_pos h1]
    have h1I : (4000 : Int) < bs.length := by omega
    go_enter Try.func22, Try.ntmps22
    go_upto_region 2 with fail
    generalize w.alloc (.cells #[.int .i64 0, .int .i64 0, .int .i64 0, .int .i64 0, .int .i64 0, .slice none 0 0, .int .i64 0, .int .i64 0, .slice none 0 0, .slice none 0 0, .int .i64 0, .int .i64 0, .slice none 0 0, .int .i64 0, .int .i64 0, .slice none 0 0, .slice none 0 0, .slice none 0 0, .int .i64 0] 53) = W0 at hA q0 ⊢
    go_wp2_with (refine wpList_store_row rfl 53 _ _ rfl w.heap.size #[.int .i64 0, .int .i64 0, .int .i64 0, .int .i64 0, .int .i64 0, .slice none 0 0, .int .i64 0, .int .i64 0, .slice none 0 0, .slice none 0 0, .int .i64 0, .int .i64 0, .slice none 0 0, .int .i64 0, .int .i64 0, .slice none 0 0, .slice none 0 0, .slice none 0 0, .int .i64 0] rfl rfl 53 _ q0 sMsg' rfl (by simp [Value.oneCell']) ?_)
    have hFc := hF.out
    refine bodyPost_ret (v := .tuple #[.agg #[.int .i64 0, .int .i64 0, .int .i64 0, .int .i64 0, .int .i64 0, .slice none 0 0, .int .i64 0, .int .i64 0, .slice none 0 0, .slice none 0 0, .int .i64 0, .int .i64 0, .slice none 0 0, .int .i64 0, .int .i64 0, .slice none 0 0, .slice none 0 0, .slice none 0 0, .int .i64 0], .int .i64 1]) (results_cell_slot (fn := Try.f22) (p := 2) (q := 3) (ty := 53) rfl _ _ w.heap.size 53 _ (0, 0) _ (.int .i64 1) ⟨rfl, rfl⟩ (setRow_heap _ _ _ _ _ _ q0) Try.underlying53 rfl sMsg') rfl ⟨.inl ⟨by rw [hFc]; decide, by rw [hFc]⟩, (Upd.setRow q0).below hA hA.size (Nat.le_refl _)⟩
  have h1I : ¬ (4000 : Int) < bs.length := by omega
  by_cases h2 : bs = []
  · have hF : Hid (readF bs = 5) := by show _ = _; rw [readF, if_neg h1, if_pos h2]
    have h2I : ((bs.length : Int) == 0) = true := by rw [h2]; rfl
    clear h2 hs hu
    go_enter Try.func22, Try.ntmps22
    go_upto_region 4 with fail
    generalize w.alloc (.cells #[.int .i64 0, .int .i64 0, .int .i64 0, .int .i64 0, .int .i64 0, .slice none 0 0, .int .i64 0, .int .i64 0, .slice none 0 0, .slice none 0 0, .int .i64 0, .int .i64 0, .slice none 0 0, .int .i64 0, .int .i64 0, .slice none 0 0, .slice none 0 0, .slice none 0 0, .int .i64 0] 53) = W0 at hA q0 ⊢
    go_wp2_with (refine wpList_store_row rfl 53 _ _ rfl w.heap.size #[.int .i64 0, .int .i64 0, .int .i64 0, .int .i64 0, .int .i64 0, .slice none 0 0, .int .i64 0, .int .i64 0, .slice none 0 0, .slice none 0 0, .int .i64 0, .int .i64 0, .slice none 0 0, .int .i64 0, .int .i64 0, .slice none 0 0, .slice none 0 0, .slice none 0 0, .int .i64 0] rfl rfl 53 _ q0 sMsg' rfl (by simp [Value.oneCell']) ?_)
    have hFc := hF.out
    refine bodyPost_ret (v := .tuple #[.agg #[.int .i64 0, .int .i64 0, .int .i64 0, .int .i64 0, .int .i64 0, .slice none 0 0, .int .i64 0, .int .i64 0, .slice none 0 0, .slice none 0 0, .int .i64 0, .int .i64 0, .slice none 0 0, .int .i64 0, .int .i64 0, .slice none 0 0, .slice none 0 0, .slice none 0 0, .int .i64 0], .int .i64 5]) (results_cell_slot (fn := Try.f22) (p := 2) (q := 3) (ty := 53) rfl _ _ w.heap.size 53 _ (0, 0) _ (.int .i64 5) ⟨rfl, rfl⟩ (setRow_heap _ _ _ _ _ _ q0) Try.underlying53 rfl sMsg') rfl ⟨.inl ⟨by rw [hFc]; decide, by rw [hFc]⟩, (Upd.setRow q0).below hA hA.size (Nat.le_refl _)⟩
  have hpos : 0 < bs.length := by cases bs with | nil => exact absurd rfl h2 | cons _ _ => simp
  obtain ⟨sb, so, rfl, hc⟩ : ∃ sb so, sa = some ⟨sb, so, none⟩ ∧ ∀ j, j < bs.length → w.cell? ⟨sb, so + j, none⟩ = some (.int .u8 (bs.getD j 0)) := by
    rcases hs.bytes with h | h
    · exact absurd h h2
    · exact h
  by_cases hk : 1 ≤ bs.getD 0 0 ∧ bs.getD 0 0 ≤ 5
  · have hl : bs.length ≤ 4000 := by omega
    have hk5 : bs.getD 0 0 = 1 ∨ bs.getD 0 0 = 2 ∨ bs.getD 0 0 = 3 ∨ bs.getD 0 0 = 4 ∨ bs.getD 0 0 = 5 := by omega
    rcases hk5 with h | h | h | h | h
    · exact mof_1 bs sb so cap w hs hu hl hpos h
    · exact mof_2 bs sb so cap w hs hu hl hpos h
    · exact mof_3 bs sb so cap w hs hu hl hpos h
    · exact mof_4 bs sb so cap w hs hu hl hpos h
    · exact mof_5 bs sb so cap w hs hu hl hpos h
  · have hF : Hid (readF bs = 3) := by show _ = _; rw [readF, if_neg h1, if_neg h2, if_pos hk]
    have h2I : ((bs.length : Int) == 0) = false := by rw [beq_eq_false_iff_ne]; omega
    have hpI : (0 : Int) < bs.length := by omega
    have hsb : sb < w.heap.size := block_lt_of_cell (hc 0 hpos)
    have c0 : (w.alloc (.cells #[.int .i64 0, .int .i64 0, .int .i64 0, .int .i64 0, .int .i64 0, .slice none 0 0, .int .i64 0, .int .i64 0, .slice none 0 0, .slice none 0 0, .int .i64 0, .int .i64 0, .slice none 0 0, .int .i64 0, .int .i64 0, .slice none 0 0, .slice none 0 0, .slice none 0 0, .int .i64 0] 53)).cell? ⟨sb, so, none⟩ = some (.int .u8 (bs.getD 0 0)) := (hA.cell (p := ⟨sb, so, none⟩) hsb).trans (hc 0 hpos)
    have hx0 := hu (bs.getD 0 0) (by simp [List.getD, hpos])
    have HIN : Hid (∀ W : World, Calls Try.prog 32 #[.int .i64 (bs.getD 0 0), .int .i64 1, .int .i64 5] W fun e w' => e = .returned (.bool false) ∧ W = w') := by
      show ∀ _, _
      exact fun W => in_false _ _ _ W hk
    clear hk h2 hc hu hs
    generalize bs.getD 0 0 = X at *
    obtain ⟨hx1, hx2⟩ := hx0
    go_enter Try.func22, Try.ntmps22
    go_upto_region 6 with (go_at_call 32; refine (HIN.out _).mono ?_; rintro e w9 ⟨rfl, rfl⟩)
    generalize w.alloc (.cells #[.int .i64 0, .int .i64 0, .int .i64 0, .int .i64 0, .int .i64 0, .slice none 0 0, .int .i64 0, .int .i64 0, .slice none 0 0, .slice none 0 0, .int .i64 0, .int .i64 0, .slice none 0 0, .int .i64 0, .int .i64 0, .slice none 0 0, .slice none 0 0, .slice none 0 0, .int .i64 0] 53) = W0 at hA q0 c0 ⊢
    go_wp2_with (refine wpList_store_row rfl 53 _ _ rfl w.heap.size #[.int .i64 0, .int .i64 0, .int .i64 0, .int .i64 0, .int .i64 0, .slice none 0 0, .int .i64 0, .int .i64 0, .slice none 0 0, .slice none 0 0, .int .i64 0, .int .i64 0, .slice none 0 0, .int .i64 0, .int .i64 0, .slice none 0 0, .slice none 0 0, .slice none 0 0, .int .i64 0] rfl rfl 53 _ q0 sMsg' rfl (by simp [Value.oneCell']) ?_)
    have hFc := hF.out
    refine bodyPost_ret (v := .tuple #[.agg #[.int .i64 0, .int .i64 0, .int .i64 0, .int .i64 0, .int .i64 0, .slice none 0 0, .int .i64 0, .int .i64 0, .slice none 0 0, .slice none 0 0, .int .i64 0, .int .i64 0, .slice none 0 0, .int .i64 0, .int .i64 0, .slice none 0 0, .slice none 0 0, .slice none 0 0, .int .i64 0], .int .i64 3]) (results_cell_slot (fn := Try.f22) (p := 2) (q := 3) (ty := 53) rfl _ _ w.heap.size 53 _ (0, 0) _ (.int .i64 3) ⟨rfl, rfl⟩ (setRow_heap _ _ _ _ _ _ q0) Try.underlying53 rfl sMsg') rfl ⟨.inl ⟨by rw [hFc]; decide, by rw [hFc]⟩, (Upd.setRow q0).below hA hA.size (Nat.le_refl _)⟩
def zeroMV : MV := ⟨{ fr := 0, tt := 0, ki := 0, bau := 0, bnu := 0, bta := none, btn := 0, btc := 0, hau := 0, hrd := 0, hba := none, hbn := 0, hbc := 0, hpa := none, hpn := 0, hpc := 0, sau := 0, srd := 0, sda := none, sdn := 0, sdc := 0, cau := 0, crd := 0, cba := none, cbn := 0, cbc := 0, cpa := none, cpn := 0, cpc := 0, cva := none, cvn := 0, cvc := 0, ro := 0 }, [], [], [], [], [], [], []⟩
set_option maxRecDepth 100000 in
theorem zero_at (w : World) : MAt w zeroMV := ⟨⟨rfl, rfl, rfl, rfl, rfl, rfl, Nat.zero_le _, Nat.zero_le _, Nat.zero_le _, strs_nil _, list_nilM _, list_nilM _, list_nilM _, list_nilM _, ints_nil _⟩, nilM _, rfl⟩
/-- What is decoded. -/
def DecV (bs : List Int) (c : MC) (C : Int) : Prop :=
  (readF bs ≠ 0 ∧ c = zeroMV.c ∧ C = readF bs) ∨ (readF bs = 0 ∧ ∃ (W : World) (x : MV), MAt W x ∧ x.c = pM (bs, false) ∧ C = checkF x.m x.car ∧ c = if C = 0 then pM (bs, false) else zeroMV.c)
set_option maxRecDepth 100000 in
theorem DecV.one {bs : List Int} {c d : MC} {C D : Int} (h : DecV bs c C) (g : DecV bs d D) : c = d ∧ C = D := by
  rcases h with ⟨h1, h2, h3⟩ | ⟨h1, W, x, hx, h2, h3, h4⟩ <;> rcases g with ⟨g1, g2, g3⟩ | ⟨g1, V, y, hy, g2, g3, g4⟩
  · exact ⟨h2.trans g2.symm, h3.trans g3.symm⟩
  · exact absurd g1 h1
  · exact absurd h1 g1
  · have e : C = D := by rw [h3, g3]; exact (check_c hx hy (g2.trans h2.symm)).symm
    subst e
    exact ⟨h4.trans g4.symm, rfl⟩
set_option maxRecDepth 100000 in
theorem dec_one {w w' : World} {e : Ending} {bs : List Int} (h : DecIs w w' e bs) : ∃ (y : MV) (C : Int), e = .returned (.tuple #[.agg #[.int .i64 y.m.fr, .int .i64 y.m.tt, .int .i64 y.m.ki, .int .i64 y.m.bau, .int .i64 y.m.bnu, .slice y.m.bta y.m.btn y.m.btc, .int .i64 y.m.hau, .int .i64 y.m.hrd, .slice y.m.hba y.m.hbn y.m.hbc, .slice y.m.hpa y.m.hpn y.m.hpc, .int .i64 y.m.sau, .int .i64 y.m.srd, .slice y.m.sda y.m.sdn y.m.sdc, .int .i64 y.m.cau, .int .i64 y.m.crd, .slice y.m.cba y.m.cbn y.m.cbc, .slice y.m.cpa y.m.cpn y.m.cpc, .slice y.m.cva y.m.cvn y.m.cvc, .int .i64 y.m.ro], .int .i64 C]) ∧ MAt w' y ∧ DecV bs y.c C := by
  rcases h.out with ⟨h1, h2⟩ | ⟨h1, x, h2, h3, _, ⟨h4, h5⟩ | ⟨h4, h5⟩⟩
  · exact ⟨zeroMV, readF bs, h2, zero_at _, .inl ⟨h1, rfl, rfl⟩⟩
  · exact ⟨x, 0, h5, h3, .inr ⟨h1, w', x, h3, h2, h4.symm, by rw [if_pos rfl]; exact h2⟩⟩
  · exact ⟨zeroMV, _, h5, zero_at _, .inr ⟨h1, w', x, h3, h2, rfl, by rw [if_neg h4]⟩⟩
set_option maxRecDepth 100000 in
theorem law_same {w : World} {x y : MV} (hx : MAt w x) (hy : MAt w y) (h : x.c = y.c) :
    Calls Try.prog 25 #[.agg #[.int .i64 x.m.fr, .int .i64 x.m.tt, .int .i64 x.m.ki, .int .i64 x.m.bau, .int .i64 x.m.bnu, .slice x.m.bta x.m.btn x.m.btc, .int .i64 x.m.hau, .int .i64 x.m.hrd, .slice x.m.hba x.m.hbn x.m.hbc, .slice x.m.hpa x.m.hpn x.m.hpc, .int .i64 x.m.sau, .int .i64 x.m.srd, .slice x.m.sda x.m.sdn x.m.sdc, .int .i64 x.m.cau, .int .i64 x.m.crd, .slice x.m.cba x.m.cbn x.m.cbc, .slice x.m.cpa x.m.cpn x.m.cpc, .slice x.m.cva x.m.cvn x.m.cvc, .int .i64 x.m.ro], .agg #[.int .i64 y.m.fr, .int .i64 y.m.tt, .int .i64 y.m.ki, .int .i64 y.m.bau, .int .i64 y.m.bnu, .slice y.m.bta y.m.btn y.m.btc, .int .i64 y.m.hau, .int .i64 y.m.hrd, .slice y.m.hba y.m.hbn y.m.hbc, .slice y.m.hpa y.m.hpn y.m.hpc, .int .i64 y.m.sau, .int .i64 y.m.srd, .slice y.m.sda y.m.sdn y.m.sdc, .int .i64 y.m.cau, .int .i64 y.m.crd, .slice y.m.cba y.m.cbn y.m.cbc, .slice y.m.cpa y.m.cpn y.m.cpc, .slice y.m.cva y.m.cvn y.m.cvc, .int .i64 y.m.ro]] w fun e w' => e = .returned (.bool true) ∧ Below w.heap.size w w' := by
  have H := hx.at'
  have K := hy.at'
  simp only [MV.c, MC.mk.injEq] at h
  obtain ⟨e1, e2, e3, e4, e5, e6, e7, e8, e9, e10, e11, e12, e13, e14, e15, e16, e17, e18, e19⟩ := h
  have t1 : StrsAt w x.m.bta y.ss := by rw [← e6]; exact H.txs
  have t4 : SliceAt w x.m.sda x.m.sdc y.ds := by rw [← e13]; exact hx.dig
  have t7 : IntsAt w x.m.cva y.vl := by rw [← e18]; exact H.vot
  have G := sameMsg_eq y.m.fr y.m.tt y.m.ki y.m.bau y.m.bnu y.m.hau y.m.hrd y.m.sau y.m.srd y.m.cau y.m.crd y.m.ro x.m.bta x.m.hba x.m.hpa x.m.sda x.m.cba x.m.cpa x.m.cva y.m.bta y.m.hba y.m.hpa y.m.sda y.m.cba y.m.cpa y.m.cva x.m.btc x.m.hbc x.m.hpc x.m.sdc x.m.cbc x.m.cpc x.m.cvc y.m.btc y.m.hbc y.m.hpc y.m.sdc y.m.cbc y.m.cpc y.m.cvc y.ss x.bl x.pl x.cbl x.cpl y.bl y.pl y.cbl y.cpl y.ds y.vl w e9 e10 e16 e17 K.s1 K.s6 t1 H.bat H.par t4 H.cbat H.cpar t7 K.txs K.bat K.par hy.dig K.cbat K.cpar K.vot
  have n1 : y.ss.length = x.m.btn := by rw [H.e1, e6]
  have n2 : y.bl.length = x.m.hbn := by rw [H.e2]; exact (Same.length e9).symm
  have n3 : y.pl.length = x.m.hpn := by rw [H.e3]; exact (Same.length e10).symm
  have n4 : y.cbl.length = x.m.cbn := by rw [H.e4]; exact (Same.length e16).symm
  have n5 : y.cpl.length = x.m.cpn := by rw [H.e5]; exact (Same.length e17).symm
  have n6 : y.vl.length = x.m.cvn := by rw [H.e6, e18]
  have n7 : y.ds.length = x.m.sdn := by rw [hx.dn, e13]
  have m1 : y.m.btn = x.m.btn := by rw [K.e1, n1]
  have m2 : y.m.hbn = x.m.hbn := by rw [K.e2, n2]
  have m3 : y.m.hpn = x.m.hpn := by rw [K.e3, n3]
  have m4 : y.m.cbn = x.m.cbn := by rw [K.e4, n4]
  have m5 : y.m.cpn = x.m.cpn := by rw [K.e5, n5]
  have m6 : y.m.cvn = x.m.cvn := by rw [K.e6, n6]
  have m7 : y.m.sdn = x.m.sdn := by rw [hy.dn, n7]
  rw [n1, n2, n3, n4, n5, n6, n7] at G
  rw [e1, e2, e3, e4, e5, e7, e8, e11, e12, e14, e15, e19, m1, m2, m3, m4, m5, m6, m7]
  exact G
end Go.Proofs.Ytldlknmpkoebbaa

namespace Go.Proofs.Ytldlknmpkoebbaa
open Go.RowKit

set_option maxRecDepth 100000 in
theorem two_cons {r : List Int} (h : 2 ≤ r.length) : r = r.getD 0 0 :: r.getD 1 0 :: r.drop 2 := by
  match r, h with
  | _ :: _ :: _, _ => rfl
set_option maxRecDepth 100000 in
theorem rec_no2 {r : List Int} (h : r.length < 2) : noRec r := by
  intro w0 x s _ _ e
  have := (onTape_form e).2.2.1
  omega
set_option maxRecDepth 100000 in
theorem rec_len {r : List Int} {L : Nat} (hL : 256 * r.getD 0 0 + r.getD 1 0 = L) {x : MV} {s : List Int} (e : r = x.onTape ++ s) : x.bytes.length = L ∧ 2 + L ≤ r.length ∧ (r.drop 2).take L = x.bytes := by
  obtain ⟨f1, f2, f3, f4⟩ := onTape_form e
  have hXL : x.bytes.length = L := by omega
  rw [hXL] at f4
  exact ⟨hXL, by omega, f4⟩
set_option maxRecDepth 100000 in
theorem rec_noL {r : List Int} {L : Nat} (hL : 256 * r.getD 0 0 + r.getD 1 0 = L) (h : r.length < 2 + L) : noRec r := by
  intro w0 x s _ _ e
  have := (rec_len hL e).2.1
  omega
set_option maxRecDepth 100000 in
set_option maxHeartbeats 800000 in
/-- What the bytes behind a length tell. -/
theorem rec_msg {w w' : World} {e : Ending} {r : List Int} {L : Nat} (h2 : 2 ≤ r.length) (hL : 256 * r.getD 0 0 + r.getD 1 0 = L) (hle : 2 + L ≤ r.length) (hu : U8s r) (hd : DecIs w w' e ((r.drop 2).take L)) :
    (∃ F : Int, F ≠ 0 ∧ e = .returned (.tuple #[.agg #[.int .i64 0, .int .i64 0, .int .i64 0, .int .i64 0, .int .i64 0, .slice none 0 0, .int .i64 0, .int .i64 0, .slice none 0 0, .slice none 0 0, .int .i64 0, .int .i64 0, .slice none 0 0, .int .i64 0, .int .i64 0, .slice none 0 0, .slice none 0 0, .slice none 0 0, .int .i64 0], .int .i64 F]) ∧ noRec r) ∨ ∃ y : MV, MAt w' y ∧ HasM (fun q => w.heap.size ≤ q) y ∧ checkF y.m y.car = 0 ∧ e = .returned (.tuple #[.agg #[.int .i64 y.m.fr, .int .i64 y.m.tt, .int .i64 y.m.ki, .int .i64 y.m.bau, .int .i64 y.m.bnu, .slice y.m.bta y.m.btn y.m.btc, .int .i64 y.m.hau, .int .i64 y.m.hrd, .slice y.m.hba y.m.hbn y.m.hbc, .slice y.m.hpa y.m.hpn y.m.hpc, .int .i64 y.m.sau, .int .i64 y.m.srd, .slice y.m.sda y.m.sdn y.m.sdc, .int .i64 y.m.cau, .int .i64 y.m.crd, .slice y.m.cba y.m.cbn y.m.cbc, .slice y.m.cpa y.m.cpn y.m.cpc, .slice y.m.cva y.m.cvn y.m.cvc, .int .i64 y.m.ro], .int .i64 0]) ∧ ((recF y.m 0 = 0 ∧ IsRec y ∧ r = y.onTape ++ r.drop (2 + L) ∧ y.onTape.length = 2 + L) ∨ (recF y.m 0 ≠ 0 ∧ noRec r)) := by
  have hU2 : U8s ((r.drop 2).take L) := fun z hz => hu z (List.mem_of_mem_drop (List.mem_of_mem_take hz))
  have hTl : ((r.drop 2).take L).length = L := by rw [List.length_take, List.length_drop]; omega
  rcases dec_fixT hd hU2 with ⟨F, hF0, he⟩ | ⟨y, hY, hH, hC, hyb, he⟩
  · refine .inl ⟨F, hF0, he, ?_⟩
    intro w0 x s h1 h3 h4
    have h5 := (rec_len hL h4).2.2
    rw [h5] at hd
    obtain ⟨z, _, _, _, he2, _⟩ := dec_back h1 h3.check hd
    rw [he] at he2
    simp at he2
    exact hF0 he2.2
  · refine .inr ⟨y, hY, hH, hC, he, ?_⟩
    have hyl : y.bytes.length = L := by rw [hyb, hTl]
    have hol : y.onTape.length = 2 + L := by simp [MV.onTape, hyl]; omega
    by_cases hR : recF y.m 0 = 0
    · refine .inl ⟨hR, rec_of hC hR, ?_, hol⟩
      obtain ⟨b0, hb0⟩ : ∃ b, r.getD 0 0 = b := ⟨_, rfl⟩
      obtain ⟨b1, hb1⟩ : ∃ b, r.getD 1 0 = b := ⟨_, rfl⟩
      have hu0 := hu b0 (by rw [← hb0]; exact getD_memT (by omega))
      have hu1 := hu b1 (by rw [← hb1]; exact getD_memT (by omega))
      rw [hb0, hb1] at hL
      have hb : r = b0 :: b1 :: r.drop 2 := by
        have h9 := two_cons h2
        rw [hb0, hb1] at h9
        exact h9
      have hdd : r.drop (2 + L) = (r.drop 2).drop L := by rw [List.drop_drop]
      rw [MV.onTape, hyl, hdd, hyb, List.append_assoc, List.take_append_drop]
      rw [show (L : Int) / 256 = b0 by omega, show (L : Int) % 256 = b1 by omega]
      exact hb
    · refine .inr ⟨hR, ?_⟩
      intro w0 x s h1 h3 h4
      have h5 := (rec_len hL h4).2.2
      apply hR
      rw [recF_c (same_c h1 hY h3.check hC (hyb.trans h5))]
      exact recF_of h3
set_option maxRecDepth 100000 in
set_option maxHeartbeats 8000000 in
theorem tapeRecovered_any (bs : List Int) (sa : Option Addr) (n cap : Nat) (sy : Int) (w : World) (hn : n = bs.length) (hs : SliceAt w sa cap bs) (hu : U8s bs) (hl : bs.length ≤ 140737488355328) :
    Calls Try.prog 7 #[.agg #[.slice sa n cap, .int .i64 sy]] w fun e w' => RcvIs w w' e bs sy := by
  subst hn
  obtain ⟨i, hi, hz0, hz1, hz2⟩ := info_parts infoMsg
  have hA : Below w.heap.size w ((w.alloc (.cells #[.slice sa bs.length cap, .int .i64 sy] 24)).alloc (.cells #[.slice none 0 0, .int .i64 0] 24)) := ((Below.refl _ _).alloc (Nat.le_refl _) _).alloc (by simp) _
  have r0 := heap_alloc2_old w (.cells #[.slice sa bs.length cap, .int .i64 sy] 24) (.cells #[.slice none 0 0, .int .i64 0] 24)
  have r1 := heap_alloc2_new w (.cells #[.slice sa bs.length cap, .int .i64 sy] 24) (.cells #[.slice none 0 0, .int .i64 0] 24)
  have hM := tapeMay_any sa bs.length cap sy ((w.alloc (.cells #[.slice sa bs.length cap, .int .i64 sy] 24)).alloc (.cells #[.slice none 0 0, .int .i64 0] 24)) hl
  cases ht : tapeOk bs.length sy with
  | false =>
    have hF : Hid (tapeOk bs.length sy = false) := ht
    rw [ht] at hM
    clear ht hs hu
    go_enter Try.func7, Try.ntmps7
    go_wp2_with fail
    generalize (w.alloc (.cells #[.slice sa bs.length cap, .int .i64 sy] 24)).alloc (.cells #[.slice none 0 0, .int .i64 0] 24) = W0 at hA r0 r1 hM ⊢
    refine hM.mono ?_
    rintro e w1 ⟨he, hb1⟩
    subst he
    dsimp only
    have p1 := (hb1.block _ (lt_of_heap r1)).trans r1
    have d0 : w1.cell? ⟨w.heap.size + 1, 0, none⟩ = some (.slice none 0 0) := cells_at p1 0 _ rfl
    have d1 : w1.cell? ⟨w.heap.size + 1, 1, none⟩ = some (.int .i64 0) := cells_at p1 1 _ rfl
    have f0 := frozen_at p1 0
    have f1 := frozen_at p1 1
    go_wp2_with fail
    refine bodyPost_ret (v := .tuple #[.slice none 0 0, .agg #[.slice none 0 0, .int .i64 0], .int .i64 12]) (by simp [results, Try.results7, go_sem, d0, d1]) rfl ⟨.inl ⟨hF.out, rfl⟩, ?_⟩
    exact ((hA.trans (hb1.mono hA.size)).setCell (by simp) _).setCell (by simp) _
  | true =>
    have hF : Hid (tapeOk bs.length sy = true) := ht
    obtain ⟨t1, t2, t3⟩ := tapeOk_iff.1 ht
    have h4 : bs.length ≤ 400000 := by omega
    rw [ht] at hM
    clear ht
    have Hs : Hid _ := hs
    have Hu : Hid _ := hu
    clear hs hu
    go_enter Try.func7, Try.ntmps7
    go_wp2_with fail
    generalize (w.alloc (.cells #[.slice sa bs.length cap, .int .i64 sy] 24)).alloc (.cells #[.slice none 0 0, .int .i64 0] 24) = W0 at hA r0 r1 hM ⊢
    refine hM.mono ?_
    rintro e w1 ⟨he, hb1⟩
    subst he
    dsimp only
    have hB1 := hA.trans (hb1.mono hA.size)
    have p0 := (hb1.block _ (lt_of_heap r0)).trans r0
    have p1 := (hb1.block _ (lt_of_heap r1)).trans r1
    clear hM hA r0 r1 hb1 t1
    have hlt1 : w.heap.size + 1 < w1.heap.size := lt_of_heap p1
    go_wp2_with fail
    go_loopw [5, 6] (fun v j wr => ∃ (k : Nat) (ys : List MV) (r : List Int) (tv : Value), j = .int .i64 k ∧ tv = v ∧ k ≤ bs.length ∧ Hid (bs = tapeB ys ++ r ∧ k = (tapeB ys).length) ∧ wr.ownsRow w1.heap.size 53 19 tv ys.length (mcells ys) ∧ RecsAt wr w1.heap.size tv ys ∧ Below w1.heap.size w1 wr) (fun _ j _ => bs.length - (intOf j).toNat)
    case atStart => exact ⟨0, [], bs, _, rfl, rfl, Nat.zero_le _, ⟨rfl, rfl⟩, World.ownsRow_nil _ _ _ _, (fun x hx => by cases hx), Below.refl _ _⟩
    case round =>
      obtain ⟨k, ys, r, tv, rfl, rfl, hk, hbk, ho, ha, hb⟩ := hrel
      have hWB := hB1.trans (hb.mono hB1.size)
      have u0 := (hb.block _ (lt_of_heap p0)).trans p0
      have u1 := (hb.block _ (lt_of_heap p1)).trans p1
      have hsr := Hs.out.below hWB
      have hle := hsr.le
      have hdr : Hid (bs.drop k = r) := by
        show _ = _
        rw [hbk.out.1, hbk.out.2, List.drop_left]
      have hrl : Hid (r.length = bs.length - k) := by show _ = _; rw [← hdr.out, List.length_drop]
      have hur : Hid (U8s r) := by
        show U8s r
        intro z hz
        exact Hu.out z (by rw [hbk.out.1]; exact List.mem_append_right _ hz)
      have hysl : Hid (ys.length ≤ 200000) := by
        show _ ≤ _
        have h1 := tapeB_two ys (fun y _ => onTape_two y)
        have h2 := hbk.out.2
        omega
      have HTK : Hid (∀ W : World, Below w.heap.size w W → SliceAt W sa cap (bs.take k)) := by
        show ∀ W, _
        intro W hW
        exact (Hs.out.below hW).takeR k cap hk (by omega) (Nat.le_refl _) (fun e => by subst e; exact Hs.out.nil rfl)
      have HT : Hid (bs.take k = tapeB ys) := by show _ = _; rw [hbk.out.1, hbk.out.2, List.take_left]
      have kI : (k : Int) ≤ bs.length := by omega
      have k0 : (0 : Int) ≤ k := by omega
      by_cases hk2 : bs.length < k + 2
      · have hkI : ¬ ((k : Int) + 2 ≤ bs.length) := by omega
        have hNo : Hid (noRec r) := rec_no2 (by have := hrl.out; omega)
        clear hsr
        have c0 : wr.cell? ⟨w.heap.size, 0, none⟩ = some (.slice sa bs.length cap) := cells_at u0 0 _ rfl
        have c1 : wr.cell? ⟨w.heap.size, 1, none⟩ = some (.int .i64 sy) := cells_at u0 1 _ rfl
        by_cases hm : sy ≤ k
        · have hmx : ¬ (k : Int) < sy := by omega
          have hmm : Hid (sy = min sy (k : Int)) := by show _ = _; omega
          go_wp2_with fail
          refine (joined_nil (bs.take k) sa k cap wr (by rw [List.length_take]; omega) (HTK.out wr hWB) (by rw [List.length_take]; omega)).mono ?_
          rintro e w7 ⟨ra, rc, he, hs7, hfr, hb7⟩
          rw [show (bs.take k).length = k by rw [List.length_take]; omega] at he
          subst he
          dsimp only
          have hltR : w.heap.size + 1 < wr.heap.size := lt_of_heap u1
          have q7 := (hb7.block _ hltR).trans u1
          have d0 : w7.cell? ⟨w.heap.size + 1, 0, none⟩ = some (.slice none 0 0) := cells_at q7 0 _ rfl
          have d1 : w7.cell? ⟨w.heap.size + 1, 1, none⟩ = some (.int .i64 0) := cells_at q7 1 _ rfl
          have f0 := frozen_at q7 0
          have f1 := frozen_at q7 1
          have ho7 := owns_keep ho hb7
          have ha7 := ha.below hb7
          clear c0 c1
          go_wp2_with fail
          refine bodyPost_ret (v := .tuple #[tv, .agg #[.slice ra k rc, .int .i64 sy], .int .i64 0]) (by simp [results, Try.results7, go_sem, d0, d1]) rfl ⟨.inr ⟨hF.out, tv, ys, r, ra, rc, hbk.out.1, hNo.out, ?_, ?_, ?_, ?_, ?_⟩, ?_⟩
          · exact owns_down (owns_far (owns_far ho7 _ _ _ hlt1) _ _ _ hlt1) (by omega)
          · exact ((ha7.far (b := w.heap.size + 1) hlt1 (fun q hq => heap_setCell_other _ ⟨w.heap.size + 1, 0, none⟩ q _ hq)).far (b := w.heap.size + 1) hlt1 (fun q hq => heap_setCell_other _ ⟨w.heap.size + 1, 1, none⟩ q _ hq)).mono (by omega)
          · rw [← HT.out]
            exact (hs7.setCellT _ _ _ (fun sb so e => by have := (hfr sb so e).1; omega)).setCellT _ _ _ (fun sb so e => by have := (hfr sb so e).1; omega)
          · intro sb so e
            obtain ⟨g1, g2⟩ := hfr sb so e
            have := hWB.size
            exact ⟨by omega, by simpa using g2⟩
          · rw [← hbk.out.2, ← hmm.out]
          · exact ((hWB.trans (hb7.mono hWB.size)).setCell (by simp) _).setCell (by simp) _
        · have hmx : (k : Int) < sy := by omega
          have hmm : Hid ((k : Int) = min sy (k : Int)) := by show _ = _; omega
          go_wp2_with fail
          refine (joined_nil (bs.take k) sa k cap wr (by rw [List.length_take]; omega) (HTK.out wr hWB) (by rw [List.length_take]; omega)).mono ?_
          rintro e w7 ⟨ra, rc, he, hs7, hfr, hb7⟩
          rw [show (bs.take k).length = k by rw [List.length_take]; omega] at he
          subst he
          dsimp only
          have hltR : w.heap.size + 1 < wr.heap.size := lt_of_heap u1
          have q7 := (hb7.block _ hltR).trans u1
          have d0 : w7.cell? ⟨w.heap.size + 1, 0, none⟩ = some (.slice none 0 0) := cells_at q7 0 _ rfl
          have d1 : w7.cell? ⟨w.heap.size + 1, 1, none⟩ = some (.int .i64 0) := cells_at q7 1 _ rfl
          have f0 := frozen_at q7 0
          have f1 := frozen_at q7 1
          have ho7 := owns_keep ho hb7
          have ha7 := ha.below hb7
          clear c0 c1
          go_wp2_with fail
          refine bodyPost_ret (v := .tuple #[tv, .agg #[.slice ra k rc, .int .i64 (k : Int)], .int .i64 0]) (by simp [results, Try.results7, go_sem, d0, d1]) rfl ⟨.inr ⟨hF.out, tv, ys, r, ra, rc, hbk.out.1, hNo.out, ?_, ?_, ?_, ?_, ?_⟩, ?_⟩
          · exact owns_down (owns_far (owns_far ho7 _ _ _ hlt1) _ _ _ hlt1) (by omega)
          · exact ((ha7.far (b := w.heap.size + 1) hlt1 (fun q hq => heap_setCell_other _ ⟨w.heap.size + 1, 0, none⟩ q _ hq)).far (b := w.heap.size + 1) hlt1 (fun q hq => heap_setCell_other _ ⟨w.heap.size + 1, 1, none⟩ q _ hq)).mono (by omega)
          · rw [← HT.out]
            exact (hs7.setCellT _ _ _ (fun sb so e => by have := (hfr sb so e).1; omega)).setCellT _ _ _ (fun sb so e => by have := (hfr sb so e).1; omega)
          · intro sb so e
            obtain ⟨g1, g2⟩ := hfr sb so e
            have := hWB.size
            exact ⟨by omega, by simpa using g2⟩
          · rw [← hbk.out.2, ← hmm.out]
          · exact ((hWB.trans (hb7.mono hWB.size)).setCell (by simp) _).setCell (by simp) _
      · have hkI : (k : Int) + 2 ≤ bs.length := by omega
        obtain ⟨sb, so, rfl, hc⟩ : ∃ sb so, sa = some ⟨sb, so, none⟩ ∧ ∀ j, j < bs.length → wr.cell? ⟨sb, so + j, none⟩ = some (.int .u8 (bs.getD j 0)) := by
          rcases hsr.bytes with h | h
          · exfalso; subst h; simp at hk2
          · exact h
        obtain ⟨b0, hb0⟩ : ∃ b, bs.getD k 0 = b := ⟨_, rfl⟩
        obtain ⟨b1, hb1⟩ : ∃ b, bs.getD (k + 1) 0 = b := ⟨_, rfl⟩
        have e0 := hc k (by omega)
        have e1 := hc (k + 1) (by omega)
        rw [hb0] at e0
        rw [hb1] at e1
        have hu0 := Hu.out b0 (by rw [← hb0]; exact getD_memT (by omega))
        have hu1 := Hu.out b1 (by rw [← hb1]; exact getD_memT (by omega))
        obtain ⟨L, hL⟩ : ∃ L : Nat, 256 * b0 + b1 = L := ⟨(256 * b0 + b1).toNat, by omega⟩
        have HL : Hid (256 * r.getD 0 0 + r.getD 1 0 = L) := by
          show _ = _
          rw [← hdr.out]
          have g0 : (bs.drop k).getD 0 0 = b0 := by rw [← hb0]; simp [List.getD, List.getElem?_drop]
          have g1 : (bs.drop k).getD 1 0 = b1 := by rw [← hb1]; simp [List.getD, List.getElem?_drop]
          rw [g0, g1]; exact hL
        obtain ⟨E, hE⟩ : ∃ E : Nat, k + 2 + L = E := ⟨_, rfl⟩
        have hL6 : L ≤ 70000 := by omega
        have HLE : Hid ((k : Int) + 2 + 256 * b0 + b1 = (E : Int)) := by show _ = _; omega
        have c0 : wr.cell? ⟨w.heap.size, 0, none⟩ = some (.slice (some ⟨sb, so, none⟩) bs.length cap) := cells_at u0 0 _ rfl
        have i0 : (k : Int) < bs.length := by omega
        have i1 : (k : Int) + 1 < bs.length := by omega
        have HE : Hid _ := hE
        clear hc hsr hb0 hb1 hL hE
        go_upto_region 6 with fail
        go_cut [7] (fun v wx => v = .int .i64 (E : Int) ∧ Below wr.heap.size wr wx)
        case first =>
          go_region
          all_goals
            go_wp2_with fail
            go_meet
            case rel => exact ⟨by rw [← HLE.out], (Below.refl _ _).drew⟩
        case rest =>
          obtain ⟨rfl, hb2⟩ := hcut
          generalize wc = W2 at hb2 ⊢
          apply_assumption
          have hWB2 := hWB.trans (hb2.mono hWB.size)
          have u0 := (hb2.block _ (lt_of_heap u0)).trans u0
          have u1 := (hb2.block _ (lt_of_heap u1)).trans u1
          have ho2 := owns_keep ho hb2
          have ha2 := ha.below hb2
          have hs2 := Hs.out.below hWB2
          have hE9 := HE.out
          clear c0 e0 e1
          have c0 : W2.cell? ⟨w.heap.size, 0, none⟩ = some (.slice (some ⟨sb, so, none⟩) bs.length cap) := cells_at u0 0 _ rfl
          by_cases hEn : bs.length < E
          · have hEI : (bs.length : Int) < E := by omega
            have hNo : Hid (noRec r) := rec_noL HL.out (by have := hrl.out; omega)
            clear hs2 c0 hE9
            have c0 : W2.cell? ⟨w.heap.size, 0, none⟩ = some (.slice (some ⟨sb, so, none⟩) bs.length cap) := cells_at u0 0 _ rfl
            have c1 : W2.cell? ⟨w.heap.size, 1, none⟩ = some (.int .i64 sy) := cells_at u0 1 _ rfl
            by_cases hm : sy ≤ k
            · have hmx : ¬ (k : Int) < sy := by omega
              have hmm : Hid (sy = min sy (k : Int)) := by show _ = _; omega
              go_wp2_with fail
              refine (joined_nil (bs.take k) (some ⟨sb, so, none⟩) k cap W2 (by rw [List.length_take]; omega) (HTK.out W2 hWB2) (by rw [List.length_take]; omega)).mono ?_
              rintro e w7 ⟨ra, rc, he, hs7, hfr, hb7⟩
              rw [show (bs.take k).length = k by rw [List.length_take]; omega] at he
              subst he
              dsimp only
              have hltR : w.heap.size + 1 < W2.heap.size := lt_of_heap u1
              have q7 := (hb7.block _ hltR).trans u1
              have d0 : w7.cell? ⟨w.heap.size + 1, 0, none⟩ = some (.slice none 0 0) := cells_at q7 0 _ rfl
              have d1 : w7.cell? ⟨w.heap.size + 1, 1, none⟩ = some (.int .i64 0) := cells_at q7 1 _ rfl
              have f0 := frozen_at q7 0
              have f1 := frozen_at q7 1
              have ho7 := owns_keep ho2 hb7
              have ha7 := ha2.below hb7
              clear c0 c1
              go_wp2_with fail
              refine bodyPost_ret (v := .tuple #[tv, .agg #[.slice ra k rc, .int .i64 sy], .int .i64 0]) (by simp [results, Try.results7, go_sem, d0, d1]) rfl ⟨.inr ⟨hF.out, tv, ys, r, ra, rc, hbk.out.1, hNo.out, ?_, ?_, ?_, ?_, ?_⟩, ?_⟩
              · exact owns_down (owns_far (owns_far ho7 _ _ _ hlt1) _ _ _ hlt1) (by omega)
              · exact ((ha7.far (b := w.heap.size + 1) hlt1 (fun q hq => heap_setCell_other _ ⟨w.heap.size + 1, 0, none⟩ q _ hq)).far (b := w.heap.size + 1) hlt1 (fun q hq => heap_setCell_other _ ⟨w.heap.size + 1, 1, none⟩ q _ hq)).mono (by omega)
              · rw [← HT.out]
                exact (hs7.setCellT _ _ _ (fun sb so e => by have := (hfr sb so e).1; omega)).setCellT _ _ _ (fun sb so e => by have := (hfr sb so e).1; omega)
              · intro sb so e
                obtain ⟨g1, g2⟩ := hfr sb so e
                have := hWB2.size
                exact ⟨by omega, by simpa using g2⟩
              · rw [← hbk.out.2, ← hmm.out]
              · exact ((hWB2.trans (hb7.mono hWB2.size)).setCell (by simp) _).setCell (by simp) _
            · have hmx : (k : Int) < sy := by omega
              have hmm : Hid ((k : Int) = min sy (k : Int)) := by show _ = _; omega
              go_wp2_with fail
              refine (joined_nil (bs.take k) (some ⟨sb, so, none⟩) k cap W2 (by rw [List.length_take]; omega) (HTK.out W2 hWB2) (by rw [List.length_take]; omega)).mono ?_
              rintro e w7 ⟨ra, rc, he, hs7, hfr, hb7⟩
              rw [show (bs.take k).length = k by rw [List.length_take]; omega] at he
              subst he
              dsimp only
              have hltR : w.heap.size + 1 < W2.heap.size := lt_of_heap u1
              have q7 := (hb7.block _ hltR).trans u1
              have d0 : w7.cell? ⟨w.heap.size + 1, 0, none⟩ = some (.slice none 0 0) := cells_at q7 0 _ rfl
              have d1 : w7.cell? ⟨w.heap.size + 1, 1, none⟩ = some (.int .i64 0) := cells_at q7 1 _ rfl
              have f0 := frozen_at q7 0
              have f1 := frozen_at q7 1
              have ho7 := owns_keep ho2 hb7
              have ha7 := ha2.below hb7
              clear c0 c1
              go_wp2_with fail
              refine bodyPost_ret (v := .tuple #[tv, .agg #[.slice ra k rc, .int .i64 (k : Int)], .int .i64 0]) (by simp [results, Try.results7, go_sem, d0, d1]) rfl ⟨.inr ⟨hF.out, tv, ys, r, ra, rc, hbk.out.1, hNo.out, ?_, ?_, ?_, ?_, ?_⟩, ?_⟩
              · exact owns_down (owns_far (owns_far ho7 _ _ _ hlt1) _ _ _ hlt1) (by omega)
              · exact ((ha7.far (b := w.heap.size + 1) hlt1 (fun q hq => heap_setCell_other _ ⟨w.heap.size + 1, 0, none⟩ q _ hq)).far (b := w.heap.size + 1) hlt1 (fun q hq => heap_setCell_other _ ⟨w.heap.size + 1, 1, none⟩ q _ hq)).mono (by omega)
              · rw [← HT.out]
                exact (hs7.setCellT _ _ _ (fun sb so e => by have := (hfr sb so e).1; omega)).setCellT _ _ _ (fun sb so e => by have := (hfr sb so e).1; omega)
              · intro sb so e
                obtain ⟨g1, g2⟩ := hfr sb so e
                have := hWB2.size
                exact ⟨by omega, by simpa using g2⟩
              · rw [← hbk.out.2, ← hmm.out]
              · exact ((hWB2.trans (hb7.mono hWB2.size)).setCell (by simp) _).setCell (by simp) _
          · have hEI : ¬ ((bs.length : Int) < E) := by omega
            have hEI2 : (E : Int) ≤ bs.length := by omega
            have hEc : (E : Int) ≤ cap := by omega
            have hkE : (k : Int) + 2 ≤ E := by omega
            have HDA : Hid (k + 2 = cap → Calls Try.prog 22 #[.slice (some ⟨sb, so, none⟩) 0 0] W2 fun e w' => DecIs W2 w' e ((r.drop 2).take L)) := by
              show _ → _
              intro h
              have h0 : L = 0 := by omega
              rw [h0, List.take_zero]
              have h9 := hs2.takeR 0 0 (Nat.zero_le _) (Nat.le_refl _) (Nat.zero_le _) (fun e => by cases e)
              rw [List.take_zero] at h9
              exact mof_any [] _ 0 0 W2 rfl h9 (fun x hx => by cases hx)
            have HDB : Hid (Calls Try.prog 22 #[.slice (some ⟨sb, so + (k + 2), none⟩) (E - (k + 2)) (cap - (k + 2))] W2 fun e w' => DecIs W2 w' e ((r.drop 2).take L)) := by
              show Calls _ _ _ _ _
              have h8 : (r.drop 2).length = bs.length - k - 2 := by rw [List.length_drop, hrl.out]
              have h9 := (cut_slice (n := k + 2) hs2 (by omega)).takeR L (cap - (k + 2)) (by rw [List.length_drop]; omega) (by omega) (Nat.le_refl _) (fun e => by cases e)
              have h7 : bs.drop (k + 2) = r.drop 2 := by rw [← hdr.out, List.drop_drop]
              rw [h7] at h9
              exact mof_any _ _ _ _ W2 (by rw [List.length_take, h8]; omega) h9 (fun z hz => hur.out z (List.mem_of_mem_drop (List.mem_of_mem_take hz)))
            have hr2 : Hid (2 ≤ r.length ∧ 2 + L ≤ r.length) := by
              show _ ∧ _
              have := hrl.out
              omega
            have HKC : Hid (k + 2 ≤ cap) := by show _ ≤ _; omega
            clear hs2
            go_upto_region 8 with fail
            go_cut [8, 9] (fun p v wx => ∃ (A : Nat) (F : Int), p = .pointer (some ⟨A, 0, none⟩) ∧ v = .int .i64 F ∧ Below W2.heap.size W2 wx ∧ ((F ≠ 0 ∧ Hid (noRec r)) ∨ ∃ y : MV, F = 0 ∧ Hid (MAt wx y ∧ HasM (fun q => W2.heap.size ≤ q) y ∧ checkF y.m y.car = 0 ∧ ((recF y.m 0 = 0 ∧ IsRec y ∧ r = y.onTape ++ r.drop (2 + L) ∧ y.onTape.length = 2 + L) ∨ (recF y.m 0 ≠ 0 ∧ noRec r))) ∧ wx.heap[A]? = some (.cells #[.int .i64 y.m.fr, .int .i64 y.m.tt, .int .i64 y.m.ki, .int .i64 y.m.bau, .int .i64 y.m.bnu, .slice y.m.bta y.m.btn y.m.btc, .int .i64 y.m.hau, .int .i64 y.m.hrd, .slice y.m.hba y.m.hbn y.m.hbc, .slice y.m.hpa y.m.hpn y.m.hpc, .int .i64 y.m.sau, .int .i64 y.m.srd, .slice y.m.sda y.m.sdn y.m.sdc, .int .i64 y.m.cau, .int .i64 y.m.crd, .slice y.m.cba y.m.cbn y.m.cbc, .slice y.m.cpa y.m.cpn y.m.cpc, .slice y.m.cva y.m.cvn y.m.cvc, .int .i64 y.m.ro] 53 (0, 0))))
            case first =>
              clear HTK HT hysl hbk ho ha ho2 ha2 Hs Hu hF u1 t2 t3 hl hdr hrl
              rcases (by have := HKC.out; omega : k + 2 = cap ∨ k + 2 < cap) with hkc | hkc
              · have HD : Hid _ := HDA.out hkc
                have hEk : E = k + 2 := by omega
                clear HDA HDB
                subst hEk
                subst hkc
                clear hEc hkE hEI hEI2 hE9 HE HLE 
                go_wp2_with fail
                refine Calls.mono (HD.out) ?_
                intro e w3 hd3
                have hb3 := hd3.below
                have hB3 := hb3
                rcases rec_msg hr2.out.1 HL.out hr2.out.2 hur.out hd3 with ⟨F, hF0, he, hNo⟩ | ⟨y, hY, hH, hC, he, hx⟩
                · have HNo : Hid (noRec r) := hNo
                  clear hd3 hNo
                  subst he
                  dsimp only
                  have qz := heap_alloc_new w3 (.cells #[.int .i64 0, .int .i64 0, .int .i64 0, .int .i64 0, .int .i64 0, .slice none 0 0, .int .i64 0, .int .i64 0, .slice none 0 0, .slice none 0 0, .int .i64 0, .int .i64 0, .slice none 0 0, .int .i64 0, .int .i64 0, .slice none 0 0, .slice none 0 0, .slice none 0 0, .int .i64 0] 53)
                  have hA4 : Below w3.heap.size w3 ((w3.alloc (.cells #[.int .i64 0, .int .i64 0, .int .i64 0, .int .i64 0, .int .i64 0, .slice none 0 0, .int .i64 0, .int .i64 0, .slice none 0 0, .slice none 0 0, .int .i64 0, .int .i64 0, .slice none 0 0, .int .i64 0, .int .i64 0, .slice none 0 0, .slice none 0 0, .slice none 0 0, .int .i64 0] 53)).setRow w3.heap.size #[.int .i64 0, .int .i64 0, .int .i64 0, .int .i64 0, .int .i64 0, .slice none 0 0, .int .i64 0, .int .i64 0, .slice none 0 0, .slice none 0 0, .int .i64 0, .int .i64 0, .slice none 0 0, .int .i64 0, .int .i64 0, .slice none 0 0, .slice none 0 0, .slice none 0 0, .int .i64 0]) := laid_row w3 #[.int .i64 0, .int .i64 0, .int .i64 0, .int .i64 0, .int .i64 0, .slice none 0 0, .int .i64 0, .int .i64 0, .slice none 0 0, .slice none 0 0, .int .i64 0, .int .i64 0, .slice none 0 0, .int .i64 0, .int .i64 0, .slice none 0 0, .slice none 0 0, .slice none 0 0, .int .i64 0] #[.int .i64 0, .int .i64 0, .int .i64 0, .int .i64 0, .int .i64 0, .slice none 0 0, .int .i64 0, .int .i64 0, .slice none 0 0, .slice none 0 0, .int .i64 0, .int .i64 0, .slice none 0 0, .int .i64 0, .int .i64 0, .slice none 0 0, .slice none 0 0, .slice none 0 0, .int .i64 0] 53
                  have hB4 := hB3.trans (hA4.mono hB3.size)
                  go_wp2_with (refine wpList_store_row rfl 53 _ _ rfl w3.heap.size #[.int .i64 0, .int .i64 0, .int .i64 0, .int .i64 0, .int .i64 0, .slice none 0 0, .int .i64 0, .int .i64 0, .slice none 0 0, .slice none 0 0, .int .i64 0, .int .i64 0, .slice none 0 0, .int .i64 0, .int .i64 0, .slice none 0 0, .slice none 0 0, .slice none 0 0, .int .i64 0] rfl rfl 53 _ qz sMsg' rfl (by simp [Value.oneCell']) ?_)
                  go_meet
                  case rel => exact ⟨w3.heap.size, F, rfl, rfl, hB4, .inl ⟨hF0, HNo⟩⟩
                · clear hd3
                  subst he
                  dsimp only
                  have qz := heap_alloc_new w3 (.cells #[.int .i64 0, .int .i64 0, .int .i64 0, .int .i64 0, .int .i64 0, .slice none 0 0, .int .i64 0, .int .i64 0, .slice none 0 0, .slice none 0 0, .int .i64 0, .int .i64 0, .slice none 0 0, .int .i64 0, .int .i64 0, .slice none 0 0, .slice none 0 0, .slice none 0 0, .int .i64 0] 53)
                  have hA4 : Below w3.heap.size w3 ((w3.alloc (.cells #[.int .i64 0, .int .i64 0, .int .i64 0, .int .i64 0, .int .i64 0, .slice none 0 0, .int .i64 0, .int .i64 0, .slice none 0 0, .slice none 0 0, .int .i64 0, .int .i64 0, .slice none 0 0, .int .i64 0, .int .i64 0, .slice none 0 0, .slice none 0 0, .slice none 0 0, .int .i64 0] 53)).setRow w3.heap.size #[.int .i64 y.m.fr, .int .i64 y.m.tt, .int .i64 y.m.ki, .int .i64 y.m.bau, .int .i64 y.m.bnu, .slice y.m.bta y.m.btn y.m.btc, .int .i64 y.m.hau, .int .i64 y.m.hrd, .slice y.m.hba y.m.hbn y.m.hbc, .slice y.m.hpa y.m.hpn y.m.hpc, .int .i64 y.m.sau, .int .i64 y.m.srd, .slice y.m.sda y.m.sdn y.m.sdc, .int .i64 y.m.cau, .int .i64 y.m.crd, .slice y.m.cba y.m.cbn y.m.cbc, .slice y.m.cpa y.m.cpn y.m.cpc, .slice y.m.cva y.m.cvn y.m.cvc, .int .i64 y.m.ro]) := laid_row w3 #[.int .i64 0, .int .i64 0, .int .i64 0, .int .i64 0, .int .i64 0, .slice none 0 0, .int .i64 0, .int .i64 0, .slice none 0 0, .slice none 0 0, .int .i64 0, .int .i64 0, .slice none 0 0, .int .i64 0, .int .i64 0, .slice none 0 0, .slice none 0 0, .slice none 0 0, .int .i64 0] #[.int .i64 y.m.fr, .int .i64 y.m.tt, .int .i64 y.m.ki, .int .i64 y.m.bau, .int .i64 y.m.bnu, .slice y.m.bta y.m.btn y.m.btc, .int .i64 y.m.hau, .int .i64 y.m.hrd, .slice y.m.hba y.m.hbn y.m.hbc, .slice y.m.hpa y.m.hpn y.m.hpc, .int .i64 y.m.sau, .int .i64 y.m.srd, .slice y.m.sda y.m.sdn y.m.sdc, .int .i64 y.m.cau, .int .i64 y.m.crd, .slice y.m.cba y.m.cbn y.m.cbc, .slice y.m.cpa y.m.cpn y.m.cpc, .slice y.m.cva y.m.cvn y.m.cvc, .int .i64 y.m.ro] 53
                  have q4 := setRow_heap _ _ _ #[.int .i64 y.m.fr, .int .i64 y.m.tt, .int .i64 y.m.ki, .int .i64 y.m.bau, .int .i64 y.m.bnu, .slice y.m.bta y.m.btn y.m.btc, .int .i64 y.m.hau, .int .i64 y.m.hrd, .slice y.m.hba y.m.hbn y.m.hbc, .slice y.m.hpa y.m.hpn y.m.hpc, .int .i64 y.m.sau, .int .i64 y.m.srd, .slice y.m.sda y.m.sdn y.m.sdc, .int .i64 y.m.cau, .int .i64 y.m.crd, .slice y.m.cba y.m.cbn y.m.cbc, .slice y.m.cpa y.m.cpn y.m.cpc, .slice y.m.cva y.m.cvn y.m.cvc, .int .i64 y.m.ro] _ _ qz
                  have hB4 := hB3.trans (hA4.mono hB3.size)
                  have HX : Hid (MAt ((w3.alloc (.cells #[.int .i64 0, .int .i64 0, .int .i64 0, .int .i64 0, .int .i64 0, .slice none 0 0, .int .i64 0, .int .i64 0, .slice none 0 0, .slice none 0 0, .int .i64 0, .int .i64 0, .slice none 0 0, .int .i64 0, .int .i64 0, .slice none 0 0, .slice none 0 0, .slice none 0 0, .int .i64 0] 53)).setRow w3.heap.size #[.int .i64 y.m.fr, .int .i64 y.m.tt, .int .i64 y.m.ki, .int .i64 y.m.bau, .int .i64 y.m.bnu, .slice y.m.bta y.m.btn y.m.btc, .int .i64 y.m.hau, .int .i64 y.m.hrd, .slice y.m.hba y.m.hbn y.m.hbc, .slice y.m.hpa y.m.hpn y.m.hpc, .int .i64 y.m.sau, .int .i64 y.m.srd, .slice y.m.sda y.m.sdn y.m.sdc, .int .i64 y.m.cau, .int .i64 y.m.crd, .slice y.m.cba y.m.cbn y.m.cbc, .slice y.m.cpa y.m.cpn y.m.cpc, .slice y.m.cva y.m.cvn y.m.cvc, .int .i64 y.m.ro]) y ∧ HasM (fun q => W2.heap.size ≤ q) y ∧ checkF y.m y.car = 0 ∧ ((recF y.m 0 = 0 ∧ IsRec y ∧ r = y.onTape ++ r.drop (2 + L) ∧ y.onTape.length = 2 + L) ∨ (recF y.m 0 ≠ 0 ∧ noRec r))) := ⟨hY.below hA4, hH, hC, hx⟩
                  clear hY hH hC hx
                  go_wp2_with (refine wpList_store_row rfl 53 _ _ rfl w3.heap.size #[.int .i64 y.m.fr, .int .i64 y.m.tt, .int .i64 y.m.ki, .int .i64 y.m.bau, .int .i64 y.m.bnu, .slice y.m.bta y.m.btn y.m.btc, .int .i64 y.m.hau, .int .i64 y.m.hrd, .slice y.m.hba y.m.hbn y.m.hbc, .slice y.m.hpa y.m.hpn y.m.hpc, .int .i64 y.m.sau, .int .i64 y.m.srd, .slice y.m.sda y.m.sdn y.m.sdc, .int .i64 y.m.cau, .int .i64 y.m.crd, .slice y.m.cba y.m.cbn y.m.cbc, .slice y.m.cpa y.m.cpn y.m.cpc, .slice y.m.cva y.m.cvn y.m.cvc, .int .i64 y.m.ro] rfl rfl 53 _ qz sMsg' rfl (by simp [Value.oneCell']) ?_)
                  go_meet
                  case rel => exact ⟨w3.heap.size, 0, rfl, rfl, hB4, .inr ⟨y, rfl, HX, q4⟩⟩
              · have HD : Hid _ := HDB.out
                have hkcI : (k : Int) + 2 < cap := by omega
                clear HDA HDB hE9 HE HLE
                go_wp2_with fail
                refine Calls.mono (HD.out) ?_
                intro e w3 hd3
                have hb3 := hd3.below
                have hB3 := hb3
                rcases rec_msg hr2.out.1 HL.out hr2.out.2 hur.out hd3 with ⟨F, hF0, he, hNo⟩ | ⟨y, hY, hH, hC, he, hx⟩
                · have HNo : Hid (noRec r) := hNo
                  clear hd3 hNo
                  subst he
                  dsimp only
                  have qz := heap_alloc_new w3 (.cells #[.int .i64 0, .int .i64 0, .int .i64 0, .int .i64 0, .int .i64 0, .slice none 0 0, .int .i64 0, .int .i64 0, .slice none 0 0, .slice none 0 0, .int .i64 0, .int .i64 0, .slice none 0 0, .int .i64 0, .int .i64 0, .slice none 0 0, .slice none 0 0, .slice none 0 0, .int .i64 0] 53)
                  have hA4 : Below w3.heap.size w3 ((w3.alloc (.cells #[.int .i64 0, .int .i64 0, .int .i64 0, .int .i64 0, .int .i64 0, .slice none 0 0, .int .i64 0, .int .i64 0, .slice none 0 0, .slice none 0 0, .int .i64 0, .int .i64 0, .slice none 0 0, .int .i64 0, .int .i64 0, .slice none 0 0, .slice none 0 0, .slice none 0 0, .int .i64 0] 53)).setRow w3.heap.size #[.int .i64 0, .int .i64 0, .int .i64 0, .int .i64 0, .int .i64 0, .slice none 0 0, .int .i64 0, .int .i64 0, .slice none 0 0, .slice none 0 0, .int .i64 0, .int .i64 0, .slice none 0 0, .int .i64 0, .int .i64 0, .slice none 0 0, .slice none 0 0, .slice none 0 0, .int .i64 0]) := laid_row w3 #[.int .i64 0, .int .i64 0, .int .i64 0, .int .i64 0, .int .i64 0, .slice none 0 0, .int .i64 0, .int .i64 0, .slice none 0 0, .slice none 0 0, .int .i64 0, .int .i64 0, .slice none 0 0, .int .i64 0, .int .i64 0, .slice none 0 0, .slice none 0 0, .slice none 0 0, .int .i64 0] #[.int .i64 0, .int .i64 0, .int .i64 0, .int .i64 0, .int .i64 0, .slice none 0 0, .int .i64 0, .int .i64 0, .slice none 0 0, .slice none 0 0, .int .i64 0, .int .i64 0, .slice none 0 0, .int .i64 0, .int .i64 0, .slice none 0 0, .slice none 0 0, .slice none 0 0, .int .i64 0] 53
                  have hB4 := hB3.trans (hA4.mono hB3.size)
                  go_wp2_with (refine wpList_store_row rfl 53 _ _ rfl w3.heap.size #[.int .i64 0, .int .i64 0, .int .i64 0, .int .i64 0, .int .i64 0, .slice none 0 0, .int .i64 0, .int .i64 0, .slice none 0 0, .slice none 0 0, .int .i64 0, .int .i64 0, .slice none 0 0, .int .i64 0, .int .i64 0, .slice none 0 0, .slice none 0 0, .slice none 0 0, .int .i64 0] rfl rfl 53 _ qz sMsg' rfl (by simp [Value.oneCell']) ?_)
                  go_meet
                  case rel => exact ⟨w3.heap.size, F, rfl, rfl, hB4, .inl ⟨hF0, HNo⟩⟩
                · clear hd3
                  subst he
                  dsimp only
                  have qz := heap_alloc_new w3 (.cells #[.int .i64 0, .int .i64 0, .int .i64 0, .int .i64 0, .int .i64 0, .slice none 0 0, .int .i64 0, .int .i64 0, .slice none 0 0, .slice none 0 0, .int .i64 0, .int .i64 0, .slice none 0 0, .int .i64 0, .int .i64 0, .slice none 0 0, .slice none 0 0, .slice none 0 0, .int .i64 0] 53)
                  have hA4 : Below w3.heap.size w3 ((w3.alloc (.cells #[.int .i64 0, .int .i64 0, .int .i64 0, .int .i64 0, .int .i64 0, .slice none 0 0, .int .i64 0, .int .i64 0, .slice none 0 0, .slice none 0 0, .int .i64 0, .int .i64 0, .slice none 0 0, .int .i64 0, .int .i64 0, .slice none 0 0, .slice none 0 0, .slice none 0 0, .int .i64 0] 53)).setRow w3.heap.size #[.int .i64 y.m.fr, .int .i64 y.m.tt, .int .i64 y.m.ki, .int .i64 y.m.bau, .int .i64 y.m.bnu, .slice y.m.bta y.m.btn y.m.btc, .int .i64 y.m.hau, .int .i64 y.m.hrd, .slice y.m.hba y.m.hbn y.m.hbc, .slice y.m.hpa y.m.hpn y.m.hpc, .int .i64 y.m.sau, .int .i64 y.m.srd, .slice y.m.sda y.m.sdn y.m.sdc, .int .i64 y.m.cau, .int .i64 y.m.crd, .slice y.m.cba y.m.cbn y.m.cbc, .slice y.m.cpa y.m.cpn y.m.cpc, .slice y.m.cva y.m.cvn y.m.cvc, .int .i64 y.m.ro]) := laid_row w3 #[.int .i64 0, .int .i64 0, .int .i64 0, .int .i64 0, .int .i64 0, .slice none 0 0, .int .i64 0, .int .i64 0, .slice none 0 0, .slice none 0 0, .int .i64 0, .int .i64 0, .slice none 0 0, .int .i64 0, .int .i64 0, .slice none 0 0, .slice none 0 0, .slice none 0 0, .int .i64 0] #[.int .i64 y.m.fr, .int .i64 y.m.tt, .int .i64 y.m.ki, .int .i64 y.m.bau, .int .i64 y.m.bnu, .slice y.m.bta y.m.btn y.m.btc, .int .i64 y.m.hau, .int .i64 y.m.hrd, .slice y.m.hba y.m.hbn y.m.hbc, .slice y.m.hpa y.m.hpn y.m.hpc, .int .i64 y.m.sau, .int .i64 y.m.srd, .slice y.m.sda y.m.sdn y.m.sdc, .int .i64 y.m.cau, .int .i64 y.m.crd, .slice y.m.cba y.m.cbn y.m.cbc, .slice y.m.cpa y.m.cpn y.m.cpc, .slice y.m.cva y.m.cvn y.m.cvc, .int .i64 y.m.ro] 53
                  have q4 := setRow_heap _ _ _ #[.int .i64 y.m.fr, .int .i64 y.m.tt, .int .i64 y.m.ki, .int .i64 y.m.bau, .int .i64 y.m.bnu, .slice y.m.bta y.m.btn y.m.btc, .int .i64 y.m.hau, .int .i64 y.m.hrd, .slice y.m.hba y.m.hbn y.m.hbc, .slice y.m.hpa y.m.hpn y.m.hpc, .int .i64 y.m.sau, .int .i64 y.m.srd, .slice y.m.sda y.m.sdn y.m.sdc, .int .i64 y.m.cau, .int .i64 y.m.crd, .slice y.m.cba y.m.cbn y.m.cbc, .slice y.m.cpa y.m.cpn y.m.cpc, .slice y.m.cva y.m.cvn y.m.cvc, .int .i64 y.m.ro] _ _ qz
                  have hB4 := hB3.trans (hA4.mono hB3.size)
                  have HX : Hid (MAt ((w3.alloc (.cells #[.int .i64 0, .int .i64 0, .int .i64 0, .int .i64 0, .int .i64 0, .slice none 0 0, .int .i64 0, .int .i64 0, .slice none 0 0, .slice none 0 0, .int .i64 0, .int .i64 0, .slice none 0 0, .int .i64 0, .int .i64 0, .slice none 0 0, .slice none 0 0, .slice none 0 0, .int .i64 0] 53)).setRow w3.heap.size #[.int .i64 y.m.fr, .int .i64 y.m.tt, .int .i64 y.m.ki, .int .i64 y.m.bau, .int .i64 y.m.bnu, .slice y.m.bta y.m.btn y.m.btc, .int .i64 y.m.hau, .int .i64 y.m.hrd, .slice y.m.hba y.m.hbn y.m.hbc, .slice y.m.hpa y.m.hpn y.m.hpc, .int .i64 y.m.sau, .int .i64 y.m.srd, .slice y.m.sda y.m.sdn y.m.sdc, .int .i64 y.m.cau, .int .i64 y.m.crd, .slice y.m.cba y.m.cbn y.m.cbc, .slice y.m.cpa y.m.cpn y.m.cpc, .slice y.m.cva y.m.cvn y.m.cvc, .int .i64 y.m.ro]) y ∧ HasM (fun q => W2.heap.size ≤ q) y ∧ checkF y.m y.car = 0 ∧ ((recF y.m 0 = 0 ∧ IsRec y ∧ r = y.onTape ++ r.drop (2 + L) ∧ y.onTape.length = 2 + L) ∨ (recF y.m 0 ≠ 0 ∧ noRec r))) := ⟨hY.below hA4, hH, hC, hx⟩
                  clear hY hH hC hx
                  go_wp2_with (refine wpList_store_row rfl 53 _ _ rfl w3.heap.size #[.int .i64 y.m.fr, .int .i64 y.m.tt, .int .i64 y.m.ki, .int .i64 y.m.bau, .int .i64 y.m.bnu, .slice y.m.bta y.m.btn y.m.btc, .int .i64 y.m.hau, .int .i64 y.m.hrd, .slice y.m.hba y.m.hbn y.m.hbc, .slice y.m.hpa y.m.hpn y.m.hpc, .int .i64 y.m.sau, .int .i64 y.m.srd, .slice y.m.sda y.m.sdn y.m.sdc, .int .i64 y.m.cau, .int .i64 y.m.crd, .slice y.m.cba y.m.cbn y.m.cbc, .slice y.m.cpa y.m.cpn y.m.cpc, .slice y.m.cva y.m.cvn y.m.cvc, .int .i64 y.m.ro] rfl rfl 53 _ qz sMsg' rfl (by simp [Value.oneCell']) ?_)
                  go_meet
                  case rel => exact ⟨w3.heap.size, 0, rfl, rfl, hB4, .inr ⟨y, rfl, HX, q4⟩⟩
            case rest =>
              obtain ⟨A, F, rfl, rfl, hb3, h⟩ := hcut
              generalize wc = W3 at hb3 h ⊢
              apply_assumption
              clear c0 HDA HDB
              have hWB3 := hWB2.trans (hb3.mono hWB2.size)
              have u0 := (hb3.block _ (lt_of_heap u0)).trans u0
              have u1 := (hb3.block _ (lt_of_heap u1)).trans u1
              have ho3 := owns_keep ho2 hb3
              have ha3 := ha2.below hb3
              rcases h with ⟨hF0, hNo⟩ | ⟨y, rfl, HY, qy⟩
              · have hFb : (F != 0) = true := by simp [hF0]
                clear hE9
                have c0 : W3.cell? ⟨w.heap.size, 0, none⟩ = some (.slice (some ⟨sb, so, none⟩) bs.length cap) := cells_at u0 0 _ rfl
                have c1 : W3.cell? ⟨w.heap.size, 1, none⟩ = some (.int .i64 sy) := cells_at u0 1 _ rfl
                by_cases hm : sy ≤ k
                · have hmx : ¬ (k : Int) < sy := by omega
                  have hmm : Hid (sy = min sy (k : Int)) := by show _ = _; omega
                  go_wp2_with fail
                  refine (joined_nil (bs.take k) (some ⟨sb, so, none⟩) k cap W3 (by rw [List.length_take]; omega) (HTK.out W3 hWB3) (by rw [List.length_take]; omega)).mono ?_
                  rintro e w7 ⟨ra, rc, he, hs7, hfr, hb7⟩
                  rw [show (bs.take k).length = k by rw [List.length_take]; omega] at he
                  subst he
                  dsimp only
                  have hltR : w.heap.size + 1 < W3.heap.size := lt_of_heap u1
                  have q7 := (hb7.block _ hltR).trans u1
                  have d0 : w7.cell? ⟨w.heap.size + 1, 0, none⟩ = some (.slice none 0 0) := cells_at q7 0 _ rfl
                  have d1 : w7.cell? ⟨w.heap.size + 1, 1, none⟩ = some (.int .i64 0) := cells_at q7 1 _ rfl
                  have f0 := frozen_at q7 0
                  have f1 := frozen_at q7 1
                  have ho7 := owns_keep ho3 hb7
                  have ha7 := ha3.below hb7
                  clear c0 c1
                  go_wp2_with fail
                  refine bodyPost_ret (v := .tuple #[tv, .agg #[.slice ra k rc, .int .i64 sy], .int .i64 0]) (by simp [results, Try.results7, go_sem, d0, d1]) rfl ⟨.inr ⟨hF.out, tv, ys, r, ra, rc, hbk.out.1, hNo.out, ?_, ?_, ?_, ?_, ?_⟩, ?_⟩
                  · exact owns_down (owns_far (owns_far ho7 _ _ _ hlt1) _ _ _ hlt1) (by omega)
                  · exact ((ha7.far (b := w.heap.size + 1) hlt1 (fun q hq => heap_setCell_other _ ⟨w.heap.size + 1, 0, none⟩ q _ hq)).far (b := w.heap.size + 1) hlt1 (fun q hq => heap_setCell_other _ ⟨w.heap.size + 1, 1, none⟩ q _ hq)).mono (by omega)
                  · rw [← HT.out]
                    exact (hs7.setCellT _ _ _ (fun sb so e => by have := (hfr sb so e).1; omega)).setCellT _ _ _ (fun sb so e => by have := (hfr sb so e).1; omega)
                  · intro sb so e
                    obtain ⟨g1, g2⟩ := hfr sb so e
                    have := hWB3.size
                    exact ⟨by omega, by simpa using g2⟩
                  · rw [← hbk.out.2, ← hmm.out]
                  · exact ((hWB3.trans (hb7.mono hWB3.size)).setCell (by simp) _).setCell (by simp) _
                · have hmx : (k : Int) < sy := by omega
                  have hmm : Hid ((k : Int) = min sy (k : Int)) := by show _ = _; omega
                  go_wp2_with fail
                  refine (joined_nil (bs.take k) (some ⟨sb, so, none⟩) k cap W3 (by rw [List.length_take]; omega) (HTK.out W3 hWB3) (by rw [List.length_take]; omega)).mono ?_
                  rintro e w7 ⟨ra, rc, he, hs7, hfr, hb7⟩
                  rw [show (bs.take k).length = k by rw [List.length_take]; omega] at he
                  subst he
                  dsimp only
                  have hltR : w.heap.size + 1 < W3.heap.size := lt_of_heap u1
                  have q7 := (hb7.block _ hltR).trans u1
                  have d0 : w7.cell? ⟨w.heap.size + 1, 0, none⟩ = some (.slice none 0 0) := cells_at q7 0 _ rfl
                  have d1 : w7.cell? ⟨w.heap.size + 1, 1, none⟩ = some (.int .i64 0) := cells_at q7 1 _ rfl
                  have f0 := frozen_at q7 0
                  have f1 := frozen_at q7 1
                  have ho7 := owns_keep ho3 hb7
                  have ha7 := ha3.below hb7
                  clear c0 c1
                  go_wp2_with fail
                  refine bodyPost_ret (v := .tuple #[tv, .agg #[.slice ra k rc, .int .i64 (k : Int)], .int .i64 0]) (by simp [results, Try.results7, go_sem, d0, d1]) rfl ⟨.inr ⟨hF.out, tv, ys, r, ra, rc, hbk.out.1, hNo.out, ?_, ?_, ?_, ?_, ?_⟩, ?_⟩
                  · exact owns_down (owns_far (owns_far ho7 _ _ _ hlt1) _ _ _ hlt1) (by omega)
                  · exact ((ha7.far (b := w.heap.size + 1) hlt1 (fun q hq => heap_setCell_other _ ⟨w.heap.size + 1, 0, none⟩ q _ hq)).far (b := w.heap.size + 1) hlt1 (fun q hq => heap_setCell_other _ ⟨w.heap.size + 1, 1, none⟩ q _ hq)).mono (by omega)
                  · rw [← HT.out]
                    exact (hs7.setCellT _ _ _ (fun sb so e => by have := (hfr sb so e).1; omega)).setCellT _ _ _ (fun sb so e => by have := (hfr sb so e).1; omega)
                  · intro sb so e
                    obtain ⟨g1, g2⟩ := hfr sb so e
                    have := hWB3.size
                    exact ⟨by omega, by simpa using g2⟩
                  · rw [← hbk.out.2, ← hmm.out]
                  · exact ((hWB3.trans (hb7.mono hWB3.size)).setCell (by simp) _).setCell (by simp) _
              · have hCk := recordFault_any y.m y.ss y.bl y.pl y.cbl y.cpl y.vl W3 HY.out.1.at'
                have hC' : checkF y.m (carriedF y.m y.ss y.bl y.pl y.cbl y.cpl y.vl) = 0 := HY.out.2.2.1
                rw [hC'] at hCk
                clear hC'
                have HR : Hid ((recF y.m 0 = 0 → IsRec y ∧ r = y.onTape ++ r.drop (2 + L) ∧ y.onTape.length = 2 + L) ∧ (recF y.m 0 ≠ 0 → noRec r)) := by
                  show _ ∧ _
                  rcases HY.out.2.2.2 with ⟨h1, h2⟩ | ⟨h1, h2⟩
                  · exact ⟨fun _ => h2, fun h => absurd h1 h⟩
                  · exact ⟨fun h => absurd h h1, fun _ => h2⟩
                have HY1 : Hid (MAt W3 y ∧ HasM (fun q => W2.heap.size ≤ q) y) := ⟨HY.out.1, HY.out.2.1⟩
                clear HY
                generalize recF y.m 0 = R at *
                go_wp2_with (refine wpList_load_row_w rfl 53 _ rfl A rfl 53 #[.int .i64 y.m.fr, .int .i64 y.m.tt, .int .i64 y.m.ki, .int .i64 y.m.bau, .int .i64 y.m.bnu, .slice y.m.bta y.m.btn y.m.btc, .int .i64 y.m.hau, .int .i64 y.m.hrd, .slice y.m.hba y.m.hbn y.m.hbc, .slice y.m.hpa y.m.hpn y.m.hpc, .int .i64 y.m.sau, .int .i64 y.m.srd, .slice y.m.sda y.m.sdn y.m.sdc, .int .i64 y.m.cau, .int .i64 y.m.crd, .slice y.m.cba y.m.cbn y.m.cbc, .slice y.m.cpa y.m.cpn y.m.cpc, .slice y.m.cva y.m.cvn y.m.cvc, .int .i64 y.m.ro] (0, 0) _ qy Try.underlying53 rfl sMsg' ?_)
                refine hCk.mono ?_
                rintro e w4 ⟨he, hb4⟩
                clear hCk
                subst he
                dsimp only
                have hWB4 := hWB3.trans (hb4.mono hWB3.size)
                have u0 := (hb4.block _ (lt_of_heap u0)).trans u0
                have u1 := (hb4.block _ (lt_of_heap u1)).trans u1
                have qy := (hb4.block _ (lt_of_heap qy)).trans qy
                have ho4 := owns_keep ho3 hb4
                have ha4 := ha3.below hb4
                by_cases hR : R = 0
                · have HX : Hid _ := HR.out.1 hR
                  subst hR
                  have hb24 := hb2.trans ((hb3.trans (hb4.mono hb3.size)).mono hb2.size)
                  have HYY : Hid (MAt w4 y ∧ IsRec y ∧ HasM (fun q => wr.heap.size ≤ q) y) := ⟨HY1.out.1.below hb4, HX.out.1, HY1.out.2.mono (fun q hq => Nat.le_trans hb2.size hq)⟩
                  have hbn : Hid (bs = tapeB (ys ++ [y]) ++ r.drop (2 + L) ∧ E = (tapeB (ys ++ [y])).length) := by
                    show _ ∧ _
                    rw [tapeB_snoc, List.append_assoc, ← HX.out.2.1, List.length_append, ← hbk.out.2, HX.out.2.2]
                    exact ⟨hbk.out.1, by omega⟩
                  have hyl2 := hysl.out
                  have hb5 := hb.trans (hb24.mono hb.size)
                  have HAA : Hid (RecsAt wr w1.heap.size tv ys) := ha
                  have hmea : Hid (bs.length - E < bs.length - k) := by show _ < _; omega
                  clear HR HX HY1 ho3 ha3 ho2 ha2 ha4 hbk HTK HT hdr hrl hur u0 u1
                  go_wp2_with (first | refine wpList_load_row rfl 53 _ rfl A rfl 53 #[.int .i64 y.m.fr, .int .i64 y.m.tt, .int .i64 y.m.ki, .int .i64 y.m.bau, .int .i64 y.m.bnu, .slice y.m.bta y.m.btn y.m.btc, .int .i64 y.m.hau, .int .i64 y.m.hrd, .slice y.m.hba y.m.hbn y.m.hbc, .slice y.m.hpa y.m.hpn y.m.hpc, .int .i64 y.m.sau, .int .i64 y.m.srd, .slice y.m.sda y.m.sdn y.m.sdc, .int .i64 y.m.cau, .int .i64 y.m.crd, .slice y.m.cba y.m.cbn y.m.cbc, .slice y.m.cpa y.m.cpn y.m.cpc, .slice y.m.cva y.m.cvn y.m.cvc, .int .i64 y.m.ro] (0, 0) _ qy Try.underlying53 rfl sMsg' ?_ | (at_builtin; go_loud (refine wpList_append_own_at _ rfl _ _ 26 rfl w1.heap.size 53 i (.agg #[.int .i64 0, .int .i64 0, .int .i64 0, .int .i64 0, .int .i64 0, .slice none 0 0, .int .i64 0, .int .i64 0, .slice none 0 0, .slice none 0 0, .int .i64 0, .int .i64 0, .slice none 0 0, .int .i64 0, .int .i64 0, .slice none 0 0, .slice none 0 0, .slice none 0 0, .int .i64 0]) 19 264 Try.underlying26 hi hz0 hz1 hz2 rfl (by decide) _ ys.length _ rfl (World.ownsRow.alloc ho4 _) ⟨w4.heap.size, 0, none⟩ 1 1 (mcell y.m) rfl (mcell_len y.m) (cells_new _ _ _) (mcell_one y.m) (by unfold maxLen; omega) (by omega) (le_alloc hb5.size _) ?_; intro v6 w6 ho6 hg6 _ hat6)))
                  have G6 := Grew.of hg6 hat6
                  have hR6 := HAA.out.more hb.size ho hb24 HYY.out.1 HYY.out.2.1 HYY.out.2.2 G6
                  have hb6 := Below.grown (hb5.alloc hb5.size (.cells (mcell y.m).toArray 53)) hg6 (le_alloc hb5.size _) (fun q e => (ho.lt q e).1)
                  have ho7 : w6.ownsRow w1.heap.size 53 19 v6 (ys ++ [y]).length (mcells (ys ++ [y])) := by rw [mcells_snoc, List.length_append]; exact ho6
                  go_roundw
                  case rel =>
                    exact ⟨E, ys ++ [y], r.drop (2 + L), v6, rfl, rfl, by omega, hbn, ho7, hR6, hb6⟩
                  case measure => have hK9 := hmea.out; simp [intOf]; omega
                · have hNo : Hid (noRec r) := HR.out.2 hR
                  have hRb : (R != 0) = true := by simp [hR]
                  clear hE9 HR HY1
                  have c0 : w4.cell? ⟨w.heap.size, 0, none⟩ = some (.slice (some ⟨sb, so, none⟩) bs.length cap) := cells_at u0 0 _ rfl
                  have c1 : w4.cell? ⟨w.heap.size, 1, none⟩ = some (.int .i64 sy) := cells_at u0 1 _ rfl
                  by_cases hm : sy ≤ k
                  · have hmx : ¬ (k : Int) < sy := by omega
                    have hmm : Hid (sy = min sy (k : Int)) := by show _ = _; omega
                    go_wp2_with fail
                    refine (joined_nil (bs.take k) (some ⟨sb, so, none⟩) k cap w4 (by rw [List.length_take]; omega) (HTK.out w4 hWB4) (by rw [List.length_take]; omega)).mono ?_
                    rintro e w7 ⟨ra, rc, he, hs7, hfr, hb7⟩
                    rw [show (bs.take k).length = k by rw [List.length_take]; omega] at he
                    subst he
                    dsimp only
                    have hltR : w.heap.size + 1 < w4.heap.size := lt_of_heap u1
                    have q7 := (hb7.block _ hltR).trans u1
                    have d0 : w7.cell? ⟨w.heap.size + 1, 0, none⟩ = some (.slice none 0 0) := cells_at q7 0 _ rfl
                    have d1 : w7.cell? ⟨w.heap.size + 1, 1, none⟩ = some (.int .i64 0) := cells_at q7 1 _ rfl
                    have f0 := frozen_at q7 0
                    have f1 := frozen_at q7 1
                    have ho7 := owns_keep ho4 hb7
                    have ha7 := ha4.below hb7
                    clear c0 c1
                    go_wp2_with fail
                    refine bodyPost_ret (v := .tuple #[tv, .agg #[.slice ra k rc, .int .i64 sy], .int .i64 0]) (by simp [results, Try.results7, go_sem, d0, d1]) rfl ⟨.inr ⟨hF.out, tv, ys, r, ra, rc, hbk.out.1, hNo.out, ?_, ?_, ?_, ?_, ?_⟩, ?_⟩
                    · exact owns_down (owns_far (owns_far ho7 _ _ _ hlt1) _ _ _ hlt1) (by omega)
                    · exact ((ha7.far (b := w.heap.size + 1) hlt1 (fun q hq => heap_setCell_other _ ⟨w.heap.size + 1, 0, none⟩ q _ hq)).far (b := w.heap.size + 1) hlt1 (fun q hq => heap_setCell_other _ ⟨w.heap.size + 1, 1, none⟩ q _ hq)).mono (by omega)
                    · rw [← HT.out]
                      exact (hs7.setCellT _ _ _ (fun sb so e => by have := (hfr sb so e).1; omega)).setCellT _ _ _ (fun sb so e => by have := (hfr sb so e).1; omega)
                    · intro sb so e
                      obtain ⟨g1, g2⟩ := hfr sb so e
                      have := hWB4.size
                      exact ⟨by omega, by simpa using g2⟩
                    · rw [← hbk.out.2, ← hmm.out]
                    · exact ((hWB4.trans (hb7.mono hWB4.size)).setCell (by simp) _).setCell (by simp) _
                  · have hmx : (k : Int) < sy := by omega
                    have hmm : Hid ((k : Int) = min sy (k : Int)) := by show _ = _; omega
                    go_wp2_with fail
                    refine (joined_nil (bs.take k) (some ⟨sb, so, none⟩) k cap w4 (by rw [List.length_take]; omega) (HTK.out w4 hWB4) (by rw [List.length_take]; omega)).mono ?_
                    rintro e w7 ⟨ra, rc, he, hs7, hfr, hb7⟩
                    rw [show (bs.take k).length = k by rw [List.length_take]; omega] at he
                    subst he
                    dsimp only
                    have hltR : w.heap.size + 1 < w4.heap.size := lt_of_heap u1
                    have q7 := (hb7.block _ hltR).trans u1
                    have d0 : w7.cell? ⟨w.heap.size + 1, 0, none⟩ = some (.slice none 0 0) := cells_at q7 0 _ rfl
                    have d1 : w7.cell? ⟨w.heap.size + 1, 1, none⟩ = some (.int .i64 0) := cells_at q7 1 _ rfl
                    have f0 := frozen_at q7 0
                    have f1 := frozen_at q7 1
                    have ho7 := owns_keep ho4 hb7
                    have ha7 := ha4.below hb7
                    clear c0 c1
                    go_wp2_with fail
                    refine bodyPost_ret (v := .tuple #[tv, .agg #[.slice ra k rc, .int .i64 (k : Int)], .int .i64 0]) (by simp [results, Try.results7, go_sem, d0, d1]) rfl ⟨.inr ⟨hF.out, tv, ys, r, ra, rc, hbk.out.1, hNo.out, ?_, ?_, ?_, ?_, ?_⟩, ?_⟩
                    · exact owns_down (owns_far (owns_far ho7 _ _ _ hlt1) _ _ _ hlt1) (by omega)
                    · exact ((ha7.far (b := w.heap.size + 1) hlt1 (fun q hq => heap_setCell_other _ ⟨w.heap.size + 1, 0, none⟩ q _ hq)).far (b := w.heap.size + 1) hlt1 (fun q hq => heap_setCell_other _ ⟨w.heap.size + 1, 1, none⟩ q _ hq)).mono (by omega)
                    · rw [← HT.out]
                      exact (hs7.setCellT _ _ _ (fun sb so e => by have := (hfr sb so e).1; omega)).setCellT _ _ _ (fun sb so e => by have := (hfr sb so e).1; omega)
                    · intro sb so e
                      obtain ⟨g1, g2⟩ := hfr sb so e
                      have := hWB4.size
                      exact ⟨by omega, by simpa using g2⟩
                    · rw [← hbk.out.2, ← hmm.out]
                    · exact ((hWB4.trans (hb7.mono hWB4.size)).setCell (by simp) _).setCell (by simp) _
end Go.Proofs.Ytldlknmpkoebbaa

namespace Go.Proofs.Ytldlknmpkoebbaa
open Go.RowKit

set_option maxRecDepth 100000 in
set_option maxHeartbeats 2000000 in
theorem sameMsgs_eq (ys ms : List MV) (sa sc : Option Addr) (n m ca cc : Nat) (w : World) (hn : n = ys.length) (hm : m = ys.length) (hle : ys.length = ms.length) (hl : ys.length ≤ 1000000) (ra : MsRow w sa ys) (rb : MsRow w sc ms)
    (hG : ∀ (i : Nat) (h1 : i < ys.length) (h2 : i < ms.length), MAt w (ys[i]) ∧ MAt w (ms[i]) ∧ (ys[i]).c = (ms[i]).c) :
    Calls Try.prog 8 #[.slice sa n ca, .slice sc m cc] w fun e w' => e = .returned (.bool true) ∧ Below w.heap.size w w' := by
  subst hn hm
  have HG : Hid (∀ W : World, Below w.heap.size w W → MsRow W sa ys ∧ MsRow W sc ms ∧ ∀ (i : Nat) (h1 : i < ys.length) (h2 : i < ms.length), MAt W (ys[i]) ∧ MAt W (ms[i]) ∧ (ys[i]).c = (ms[i]).c) := by
    show ∀ _, _
    intro W hW
    exact ⟨ra.below hW, rb.below hW, fun i h1 h2 => ⟨(hG i h1 h2).1.below hW, (hG i h1 h2).2.1.below hW, (hG i h1 h2).2.2⟩⟩
  clear ra rb hG
  have HLE : Hid _ := hle
  clear hle
  go_enter Try.func8, Try.ntmps8
  go_wp2_with fail
  go_loopw [5] (fun j wr => ∃ k : Nat, k ≤ ys.length ∧ j = .int .i64 k ∧ Below w.heap.size w wr) (fun j _ => ys.length - (intOf j).toNat)
  case atStart => exact ⟨0, Nat.zero_le _, rfl, Below.refl _ _⟩
  case round =>
    obtain ⟨k, hk, rfl, hb⟩ := hrel
    by_cases hlt : k < ys.length
    · have hltI : (k : Int) < ys.length := by omega
      have hml : k < ms.length := by rw [← HLE.out]; exact hlt
      obtain ⟨rA, rB, hg⟩ := HG.out wr.drew hb.drew
      obtain ⟨sb, so, rfl, hrow⟩ : ∃ sb so, sa = some ⟨sb, so, none⟩ ∧ ∀ (k : Nat) (hk : k < ys.length), wr.drew.rangeAt sb (so + k * 19) (mcell (ys[k]).m) := by
        rcases rA with h | h
        · rw [h] at hlt; simp at hlt
        · exact h
      obtain ⟨tb, tq, rfl, hrow2⟩ : ∃ sb so, sc = some ⟨sb, so, none⟩ ∧ ∀ (k : Nat) (hk : k < ms.length), wr.drew.rangeAt sb (so + k * 19) (mcell (ms[k]).m) := by
        rcases rB with h | h
        · rw [h] at hml; simp at hml
        · exact h
      have hrg := hrow k hlt
      have hrh := hrow2 k hml
      obtain ⟨g1, g2, g3⟩ := hg k hlt hml
      have hS : Hid (Calls Try.prog 25 #[.agg #[.int .i64 (ys[k]).m.fr, .int .i64 (ys[k]).m.tt, .int .i64 (ys[k]).m.ki, .int .i64 (ys[k]).m.bau, .int .i64 (ys[k]).m.bnu, .slice (ys[k]).m.bta (ys[k]).m.btn (ys[k]).m.btc, .int .i64 (ys[k]).m.hau, .int .i64 (ys[k]).m.hrd, .slice (ys[k]).m.hba (ys[k]).m.hbn (ys[k]).m.hbc, .slice (ys[k]).m.hpa (ys[k]).m.hpn (ys[k]).m.hpc, .int .i64 (ys[k]).m.sau, .int .i64 (ys[k]).m.srd, .slice (ys[k]).m.sda (ys[k]).m.sdn (ys[k]).m.sdc, .int .i64 (ys[k]).m.cau, .int .i64 (ys[k]).m.crd, .slice (ys[k]).m.cba (ys[k]).m.cbn (ys[k]).m.cbc, .slice (ys[k]).m.cpa (ys[k]).m.cpn (ys[k]).m.cpc, .slice (ys[k]).m.cva (ys[k]).m.cvn (ys[k]).m.cvc, .int .i64 (ys[k]).m.ro], .agg #[.int .i64 (ms[k]).m.fr, .int .i64 (ms[k]).m.tt, .int .i64 (ms[k]).m.ki, .int .i64 (ms[k]).m.bau, .int .i64 (ms[k]).m.bnu, .slice (ms[k]).m.bta (ms[k]).m.btn (ms[k]).m.btc, .int .i64 (ms[k]).m.hau, .int .i64 (ms[k]).m.hrd, .slice (ms[k]).m.hba (ms[k]).m.hbn (ms[k]).m.hbc, .slice (ms[k]).m.hpa (ms[k]).m.hpn (ms[k]).m.hpc, .int .i64 (ms[k]).m.sau, .int .i64 (ms[k]).m.srd, .slice (ms[k]).m.sda (ms[k]).m.sdn (ms[k]).m.sdc, .int .i64 (ms[k]).m.cau, .int .i64 (ms[k]).m.crd, .slice (ms[k]).m.cba (ms[k]).m.cbn (ms[k]).m.cbc, .slice (ms[k]).m.cpa (ms[k]).m.cpn (ms[k]).m.cpc, .slice (ms[k]).m.cva (ms[k]).m.cvn (ms[k]).m.cvc, .int .i64 (ms[k]).m.ro]] wr.drew fun e w' => e = .returned (.bool true) ∧ Below wr.drew.heap.size wr.drew w') := law_same g1 g2 g3
      clear g1 g2 g3 hg rA rB hrow hrow2
      generalize ys[k] = x at *
      generalize ms[k] = y at *
      go_upto_region 6 with fail
      refine wp_region_held_drew (S := fun w' => w'.rangeAt sb (so + k * 19) (mcell x.m) ∧ w'.rangeAt tb (tq + k * 19) (mcell y.m)) (by kernel_rfl) ⟨hrg, hrh⟩ (fun hHeld => ?_)
      have hbd := hb.drew
      generalize wr.drew = V at hS hrg hrh hHeld hbd ⊢
      refine take_dst (i := 0) (d := 17) (v := .slice (some ⟨sb, so, none⟩) ys.length ca) rfl rfl (by kernel_rfl) (by kernel_rfl) (by kernel_rfl) (fun _ _ _ h => h) (Or.inl ⟨by rfl, ?_⟩) hHeld ?_
      · (intro w0 hSw; (try dsimp only at hSw); go_simp)
      simp only [Act.put, List.setIfInBounds_toArray, List.set_cons_zero, List.set_cons_succ]
      refine take_dst (i := 1) (d := 18) (v := .int .i64 (k : Int)) rfl rfl (by kernel_rfl) (by kernel_rfl) (by kernel_rfl) (fun _ _ _ h => h) (Or.inl ⟨by rfl, ?_⟩) hHeld ?_
      · (intro w0 hSw; (try dsimp only at hSw); go_simp)
      simp only [Act.put, List.setIfInBounds_toArray, List.set_cons_zero, List.set_cons_succ]
      refine take_dst (i := 2) (d := 19) (v := .pointer (some ⟨sb, so + k * 19, none⟩)) rfl rfl (by kernel_rfl) (by kernel_rfl) (by kernel_rfl) (fun _ _ _ h => h) (Or.inl ⟨by rfl, ?_⟩) hHeld ?_
      · (intro w0 hSw; (try dsimp only at hSw); go_simp)
      simp only [Act.put, List.setIfInBounds_toArray, List.set_cons_zero, List.set_cons_succ]
      refine take_dst (i := 3) (d := 20) (v := .agg #[.int .i64 x.m.fr, .int .i64 x.m.tt, .int .i64 x.m.ki, .int .i64 x.m.bau, .int .i64 x.m.bnu, .slice x.m.bta x.m.btn x.m.btc, .int .i64 x.m.hau, .int .i64 x.m.hrd, .slice x.m.hba x.m.hbn x.m.hbc, .slice x.m.hpa x.m.hpn x.m.hpc, .int .i64 x.m.sau, .int .i64 x.m.srd, .slice x.m.sda x.m.sdn x.m.sdc, .int .i64 x.m.cau, .int .i64 x.m.crd, .slice x.m.cba x.m.cbn x.m.cbc, .slice x.m.cpa x.m.cpn x.m.cpc, .slice x.m.cva x.m.cvn x.m.cvc, .int .i64 x.m.ro]) rfl rfl (by kernel_rfl) (by kernel_rfl) (by kernel_rfl) (fun _ _ _ h => h) (yieldsIf_load_mid rfl 53 _ rfl sb (so + k * 19) rfl (mcell x.m) _ (fun w0 h => h.1) Try.underlying53 rfl sMsg') hHeld ?_
      simp only [Act.put, List.setIfInBounds_toArray, List.set_cons_zero, List.set_cons_succ]
      refine take_dst (i := 4) (d := 21) (v := .slice (some ⟨tb, tq, none⟩) ys.length cc) rfl rfl (by kernel_rfl) (by kernel_rfl) (by kernel_rfl) (fun _ _ _ h => h) (Or.inl ⟨by rfl, ?_⟩) hHeld ?_
      · (intro w0 hSw; (try dsimp only at hSw); go_simp)
      simp only [Act.put, List.setIfInBounds_toArray, List.set_cons_zero, List.set_cons_succ]
      refine take_dst (i := 5) (d := 22) (v := .int .i64 (k : Int)) rfl rfl (by kernel_rfl) (by kernel_rfl) (by kernel_rfl) (fun _ _ _ h => h) (Or.inl ⟨by rfl, ?_⟩) hHeld ?_
      · (intro w0 hSw; (try dsimp only at hSw); go_simp)
      simp only [Act.put, List.setIfInBounds_toArray, List.set_cons_zero, List.set_cons_succ]
      refine take_dst (i := 6) (d := 23) (v := .pointer (some ⟨tb, tq + k * 19, none⟩)) rfl rfl (by kernel_rfl) (by kernel_rfl) (by kernel_rfl) (fun _ _ _ h => h) (Or.inl ⟨by rfl, ?_⟩) hHeld ?_
      · (intro w0 hSw; (try dsimp only at hSw); go_simp)
      simp only [Act.put, List.setIfInBounds_toArray, List.set_cons_zero, List.set_cons_succ]
      refine take_dst (i := 7) (d := 24) (v := .agg #[.int .i64 y.m.fr, .int .i64 y.m.tt, .int .i64 y.m.ki, .int .i64 y.m.bau, .int .i64 y.m.bnu, .slice y.m.bta y.m.btn y.m.btc, .int .i64 y.m.hau, .int .i64 y.m.hrd, .slice y.m.hba y.m.hbn y.m.hbc, .slice y.m.hpa y.m.hpn y.m.hpc, .int .i64 y.m.sau, .int .i64 y.m.srd, .slice y.m.sda y.m.sdn y.m.sdc, .int .i64 y.m.cau, .int .i64 y.m.crd, .slice y.m.cba y.m.cbn y.m.cbc, .slice y.m.cpa y.m.cpn y.m.cpc, .slice y.m.cva y.m.cvn y.m.cvc, .int .i64 y.m.ro]) rfl rfl (by kernel_rfl) (by kernel_rfl) (by kernel_rfl) (fun _ _ _ h => h) (yieldsIf_load_mid rfl 53 _ rfl tb (tq + k * 19) rfl (mcell y.m) _ (fun w0 h => h.2) Try.underlying53 rfl sMsg') hHeld ?_
      simp only [Act.put, List.setIfInBounds_toArray, List.set_cons_zero, List.set_cons_succ]
      refine wpAnyH_ready (rs := [8]) (by kernel_rfl) (by simp) (AllReadyH.cons rfl (fun K hK => ?_) AllReadyH.nil)
      refine step_calls_dst rfl 25 rfl 25 [.tmp 20, .tmp 24] #[53, 53] rfl [.agg #[.int .i64 x.m.fr, .int .i64 x.m.tt, .int .i64 x.m.ki, .int .i64 x.m.bau, .int .i64 x.m.bnu, .slice x.m.bta x.m.btn x.m.btc, .int .i64 x.m.hau, .int .i64 x.m.hrd, .slice x.m.hba x.m.hbn x.m.hbc, .slice x.m.hpa x.m.hpn x.m.hpc, .int .i64 x.m.sau, .int .i64 x.m.srd, .slice x.m.sda x.m.sdn x.m.sdc, .int .i64 x.m.cau, .int .i64 x.m.crd, .slice x.m.cba x.m.cbn x.m.cbc, .slice x.m.cpa x.m.cpn x.m.cpc, .slice x.m.cva x.m.cvn x.m.cvc, .int .i64 x.m.ro], .agg #[.int .i64 y.m.fr, .int .i64 y.m.tt, .int .i64 y.m.ki, .int .i64 y.m.bau, .int .i64 y.m.bnu, .slice y.m.bta y.m.btn y.m.btc, .int .i64 y.m.hau, .int .i64 y.m.hrd, .slice y.m.hba y.m.hbn y.m.hbc, .slice y.m.hpa y.m.hpn y.m.hpc, .int .i64 y.m.sau, .int .i64 y.m.srd, .slice y.m.sda y.m.sdn y.m.sdc, .int .i64 y.m.cau, .int .i64 y.m.crd, .slice y.m.cba y.m.cbn y.m.cbc, .slice y.m.cpa y.m.cpn y.m.cpc, .slice y.m.cva y.m.cvn y.m.cvc, .int .i64 y.m.ro]] rfl (enters_of Try.func25 (by kernel_rfl) rfl) (fun v w' => v = .bool true ∧ Below V.heap.size V w') (hS.out.mono (by rintro e w' ⟨rfl, h⟩; exact ⟨_, rfl, rfl, h⟩)) ?_
      rintro v V1 ⟨rfl, hb1⟩
      refine hK.out _ _ ⟨range_below hrg hb1, range_below hrh hb1⟩ (fun hHeld => ?_)
      simp only [Act.put, List.setIfInBounds_toArray, List.set_cons_zero, List.set_cons_succ]
      refine take_dst (i := 9) (d := 26) (v := .bool false) rfl rfl (by kernel_rfl) (by kernel_rfl) (by kernel_rfl) (fun _ _ _ h => h) (Or.inl ⟨by rfl, ?_⟩) hHeld ?_
      · (intro w0 hSw; (try dsimp only at hSw); go_simp)
      simp only [Act.put, List.setIfInBounds_toArray, List.set_cons_zero, List.set_cons_succ]
      refine wpAnyH_done (by kernel_rfl) ?_ _
      have hB1 := hbd.trans (hb1.mono hbd.size)
      go_wp2_with fail
      go_roundw
      case rel => exact ⟨k + 1, by omega, by go_num, hB1⟩
      case measure => simp [intOf]; omega
    · obtain rfl : k = ys.length := by omega
      have hltI : ¬ (ys.length : Int) < ys.length := by omega
      go_wp2_with fail
      go_ret
      exact ⟨rfl, hb⟩
end Go.Proofs.Ytldlknmpkoebbaa
