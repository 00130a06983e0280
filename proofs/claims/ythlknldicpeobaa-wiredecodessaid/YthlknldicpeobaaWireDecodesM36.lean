/- The law sheaveslaw.WireDecodes answers true for every argument, and each argument reads behind the call as it read before: no condition but the form's own reach. -/
import Derived.Test.YthlknldicpeobaaWireDecodesM30
import Derived.Deep.CutRange
import Derived.Deep.DeepCutAuto
import Derived.Test.YthlknldicpeobaaWireDecodesM24
import Derived.Test.YthlknldicpeobaaApp
import Derived.Test.YthlknldicpeobaaSx
import Derived.Test.YthlknldicpeobaaOpenB
import Derived.Test.YthlknldicpeobaaLRow
import Derived.Test.YthlknldicpeobaaRows
import Derived.WalkKit
import Derived.ProofKit
import Derived.OpenShut
import Derived.Deep.DeepHandedRow
import Derived.SevenTiedAt
import Derived.Below
namespace Go.Proofs.Ythlknldicpeobaa
open Go.RowKit

set_option maxRecDepth 100000 in
set_option maxHeartbeats 4000000 in
theorem sameMsg_eq (fr tt ki bau bnu hau hrd sau srd cau crd ro : Int) (a1 a2 a3 a4 a5 a6 a7 b1 b2 b3 b4 b5 b6 b7 : Option Addr) (c1 c2 c3 c4 c5 c6 c7 d1 d2 d3 d4 d5 d6 d7 : Nat) (ss : List ByteArray) (yl zl xl ql bl pl cbl cpl : List Part) (ds vl : List Int) (w : World)
    (s1 : Same yl bl) (s2 : Same zl pl) (s3 : Same xl cbl) (s4 : Same ql cpl) (hl1 : ss.length ≤ 9000000000000000000) (hl7 : vl.length ≤ 9000000000000000000)
    (h1 : StrsAt w a1 ss) (h2 : ListAt w a2 c2 yl) (h3 : ListAt w a3 c3 zl) (h4 : SliceAt w a4 c4 ds) (h5 : ListAt w a5 c5 xl) (h6 : ListAt w a6 c6 ql) (h7 : IntsAt w a7 vl)
    (k1 : StrsAt w b1 ss) (k2 : ListAt w b2 d2 bl) (k3 : ListAt w b3 d3 pl) (k4 : SliceAt w b4 d4 ds) (k5 : ListAt w b5 d5 cbl) (k6 : ListAt w b6 d6 cpl) (k7 : IntsAt w b7 vl) :
    Calls Try.prog 8 #[.agg #[.int .i64 fr, .int .i64 tt, .int .i64 ki, .int .i64 bau, .int .i64 bnu, .slice a1 ss.length c1, .int .i64 hau, .int .i64 hrd, .slice a2 bl.length c2, .slice a3 pl.length c3, .int .i64 sau, .int .i64 srd, .slice a4 ds.length c4, .int .i64 cau, .int .i64 crd, .slice a5 cbl.length c5, .slice a6 cpl.length c6, .slice a7 vl.length c7, .int .i64 ro], .agg #[.int .i64 fr, .int .i64 tt, .int .i64 ki, .int .i64 bau, .int .i64 bnu, .slice b1 ss.length d1, .int .i64 hau, .int .i64 hrd, .slice b2 bl.length d2, .slice b3 pl.length d3, .int .i64 sau, .int .i64 srd, .slice b4 ds.length d4, .int .i64 cau, .int .i64 crd, .slice b5 cbl.length d5, .slice b6 cpl.length d6, .slice b7 vl.length d7, .int .i64 ro]] w fun e w' => e = .returned (.bool true) ∧ Below w.heap.size w w' := by
  have hA : Below w.heap.size w ((w.alloc (.cells #[.int .i64 fr, .int .i64 tt, .int .i64 ki, .int .i64 bau, .int .i64 bnu, .slice a1 ss.length c1, .int .i64 hau, .int .i64 hrd, .slice a2 bl.length c2, .slice a3 pl.length c3, .int .i64 sau, .int .i64 srd, .slice a4 ds.length c4, .int .i64 cau, .int .i64 crd, .slice a5 cbl.length c5, .slice a6 cpl.length c6, .slice a7 vl.length c7, .int .i64 ro] 35)).alloc (.cells #[.int .i64 fr, .int .i64 tt, .int .i64 ki, .int .i64 bau, .int .i64 bnu, .slice b1 ss.length d1, .int .i64 hau, .int .i64 hrd, .slice b2 bl.length d2, .slice b3 pl.length d3, .int .i64 sau, .int .i64 srd, .slice b4 ds.length d4, .int .i64 cau, .int .i64 crd, .slice b5 cbl.length d5, .slice b6 cpl.length d6, .slice b7 vl.length d7, .int .i64 ro] 35)) := ((Below.refl _ _).alloc (Nat.le_refl _) _).alloc (by simp) _
  have r0 := heap_alloc2_old w (.cells #[.int .i64 fr, .int .i64 tt, .int .i64 ki, .int .i64 bau, .int .i64 bnu, .slice a1 ss.length c1, .int .i64 hau, .int .i64 hrd, .slice a2 bl.length c2, .slice a3 pl.length c3, .int .i64 sau, .int .i64 srd, .slice a4 ds.length c4, .int .i64 cau, .int .i64 crd, .slice a5 cbl.length c5, .slice a6 cpl.length c6, .slice a7 vl.length c7, .int .i64 ro] 35) (.cells #[.int .i64 fr, .int .i64 tt, .int .i64 ki, .int .i64 bau, .int .i64 bnu, .slice b1 ss.length d1, .int .i64 hau, .int .i64 hrd, .slice b2 bl.length d2, .slice b3 pl.length d3, .int .i64 sau, .int .i64 srd, .slice b4 ds.length d4, .int .i64 cau, .int .i64 crd, .slice b5 cbl.length d5, .slice b6 cpl.length d6, .slice b7 vl.length d7, .int .i64 ro] 35)
  have r1 := heap_alloc2_new w (.cells #[.int .i64 fr, .int .i64 tt, .int .i64 ki, .int .i64 bau, .int .i64 bnu, .slice a1 ss.length c1, .int .i64 hau, .int .i64 hrd, .slice a2 bl.length c2, .slice a3 pl.length c3, .int .i64 sau, .int .i64 srd, .slice a4 ds.length c4, .int .i64 cau, .int .i64 crd, .slice a5 cbl.length c5, .slice a6 cpl.length c6, .slice a7 vl.length c7, .int .i64 ro] 35) (.cells #[.int .i64 fr, .int .i64 tt, .int .i64 ki, .int .i64 bau, .int .i64 bnu, .slice b1 ss.length d1, .int .i64 hau, .int .i64 hrd, .slice b2 bl.length d2, .slice b3 pl.length d3, .int .i64 sau, .int .i64 srd, .slice b4 ds.length d4, .int .i64 cau, .int .i64 crd, .slice b5 cbl.length d5, .slice b6 cpl.length d6, .slice b7 vl.length d7, .int .i64 ro] 35)
  have H1 : Hid (∀ W : World, Below w.heap.size w W → Calls Try.prog 22 #[.agg #[.int .i64 bau, .int .i64 bnu, .slice a1 ss.length c1], .agg #[.int .i64 bau, .int .i64 bnu, .slice b1 ss.length d1]] W fun e w' => e = .returned (.bool true) ∧ Below W.heap.size W w') := by
    show ∀ _, _
    intro W hW
    exact sameBatchL_eq bau bnu ss a1 b1 _ _ c1 d1 W rfl rfl (by unfold maxLen; omega) (h1.below hW) (k1.below hW)
  have H2 : Hid (∀ W : World, Below w.heap.size w W → Calls Try.prog 23 #[.agg #[.int .i64 hau, .int .i64 hrd, .slice a2 bl.length c2, .slice a3 pl.length c3], .agg #[.int .i64 hau, .int .i64 hrd, .slice b2 bl.length d2, .slice b3 pl.length d3]] W fun e w' => e = .returned (.bool true) ∧ Below W.heap.size W w') := by
    show ∀ _, _
    intro W hW
    exact sameHeaderL_eq hau hrd a2 c2 yl a3 c3 zl b2 d2 bl b3 d3 pl W s1 s2 (h2.below hW) (h3.below hW) (k2.below hW) (k3.below hW)
  have H3 : Hid (∀ W : World, Below w.heap.size w W → Calls Try.prog 24 #[.agg #[.int .i64 sau, .int .i64 srd, .slice a4 ds.length c4], .agg #[.int .i64 sau, .int .i64 srd, .slice b4 ds.length d4]] W fun e w' => e = .returned (.bool true) ∧ Below W.heap.size W w') := by
    show ∀ _, _
    intro W hW
    exact sameSlotL_eq sau srd ds a4 b4 _ _ c4 d4 W rfl rfl (h4.below hW) (k4.below hW)
  have H4 : Hid (∀ W : World, Below w.heap.size w W → Calls Try.prog 25 #[.agg #[.int .i64 cau, .int .i64 crd, .slice a5 cbl.length c5, .slice a6 cpl.length c6, .slice a7 vl.length c7], .agg #[.int .i64 cau, .int .i64 crd, .slice b5 cbl.length d5, .slice b6 cpl.length d6, .slice b7 vl.length d7]] W fun e w' => e = .returned (.bool true) ∧ Below W.heap.size W w') := by
    show ∀ _, _
    intro W hW
    have := sameCertR_eq cau crd a5 c5 xl a6 c6 ql a7 c7 vl b5 d5 cbl b6 d6 cpl b7 d7 W s3 s4 hl7 (h5.below hW) (h6.below hW) (h7.below hW) (k5.below hW) (k6.below hW) (k7.below hW)
    rw [s3.length, s4.length] at this
    exact this
  clear s1 s2 s3 s4 hl1 hl7 h1 h2 h3 h4 h5 h6 h7 k1 k2 k3 k4 k5 k6 k7
  generalize ss.length = n1 at *
  generalize bl.length = n2 at *
  generalize pl.length = n3 at *
  generalize ds.length = n4 at *
  generalize cbl.length = n5 at *
  generalize cpl.length = n6 at *
  generalize vl.length = n7 at *
  go_enter Try.func8, Try.ntmps8
  go_upto_region 1 with fail
  generalize (w.alloc (.cells #[.int .i64 fr, .int .i64 tt, .int .i64 ki, .int .i64 bau, .int .i64 bnu, .slice a1 n1 c1, .int .i64 hau, .int .i64 hrd, .slice a2 n2 c2, .slice a3 n3 c3, .int .i64 sau, .int .i64 srd, .slice a4 n4 c4, .int .i64 cau, .int .i64 crd, .slice a5 n5 c5, .slice a6 n6 c6, .slice a7 n7 c7, .int .i64 ro] 35)).alloc (.cells #[.int .i64 fr, .int .i64 tt, .int .i64 ki, .int .i64 bau, .int .i64 bnu, .slice b1 n1 d1, .int .i64 hau, .int .i64 hrd, .slice b2 n2 d2, .slice b3 n3 d3, .int .i64 sau, .int .i64 srd, .slice b4 n4 d4, .int .i64 cau, .int .i64 crd, .slice b5 n5 d5, .slice b6 n6 d6, .slice b7 n7 d7, .int .i64 ro] 35) = W0 at hA r0 r1 ⊢
  have xp0 : W0.cell? ⟨w.heap.size, 0, none⟩ = some (.int .i64 fr) := cells_at r0 0 _ rfl
  have xp1 : W0.cell? ⟨w.heap.size, 1, none⟩ = some (.int .i64 tt) := cells_at r0 1 _ rfl
  have xp2 : W0.cell? ⟨w.heap.size, 2, none⟩ = some (.int .i64 ki) := cells_at r0 2 _ rfl
  have xp18 : W0.cell? ⟨w.heap.size, 18, none⟩ = some (.int .i64 ro) := cells_at r0 18 _ rfl
  have xp3 : W0.cell? ⟨w.heap.size, 3, none⟩ = some (.int .i64 bau) := cells_at r0 3 _ rfl
  have xp4 : W0.cell? ⟨w.heap.size, 4, none⟩ = some (.int .i64 bnu) := cells_at r0 4 _ rfl
  have xp5 : W0.cell? ⟨w.heap.size, 5, none⟩ = some (.slice a1 n1 c1) := cells_at r0 5 _ rfl
  have yp0 : W0.cell? ⟨w.heap.size + 1, 0, none⟩ = some (.int .i64 fr) := cells_at r1 0 _ rfl
  have yp1 : W0.cell? ⟨w.heap.size + 1, 1, none⟩ = some (.int .i64 tt) := cells_at r1 1 _ rfl
  have yp2 : W0.cell? ⟨w.heap.size + 1, 2, none⟩ = some (.int .i64 ki) := cells_at r1 2 _ rfl
  have yp18 : W0.cell? ⟨w.heap.size + 1, 18, none⟩ = some (.int .i64 ro) := cells_at r1 18 _ rfl
  have yp3 : W0.cell? ⟨w.heap.size + 1, 3, none⟩ = some (.int .i64 bau) := cells_at r1 3 _ rfl
  have yp4 : W0.cell? ⟨w.heap.size + 1, 4, none⟩ = some (.int .i64 bnu) := cells_at r1 4 _ rfl
  have yp5 : W0.cell? ⟨w.heap.size + 1, 5, none⟩ = some (.slice b1 n1 d1) := cells_at r1 5 _ rfl
  go_wp2_with fail
  refine (H1.out W0 hA).mono ?_
  rintro e w1 ⟨he, hb1⟩
  subst he
  dsimp only
  have hB1 := hA.trans (hb1.mono hA.size)
  have p0 := (hb1.block _ (lt_of_heap r0)).trans r0
  have p1 := (hb1.block _ (lt_of_heap r1)).trans r1
  clear r0 r1 xp0 xp1 xp2 xp18 xp3 xp4 xp5 yp0 yp1 yp2 yp18 yp3 yp4 yp5
  have xq26 : w1.cell? ⟨w.heap.size, 6, none⟩ = some (.int .i64 hau) := cells_at p0 6 _ rfl
  have xq27 : w1.cell? ⟨w.heap.size, 7, none⟩ = some (.int .i64 hrd) := cells_at p0 7 _ rfl
  have xq28 : w1.cell? ⟨w.heap.size, 8, none⟩ = some (.slice a2 n2 c2) := cells_at p0 8 _ rfl
  have xq29 : w1.cell? ⟨w.heap.size, 9, none⟩ = some (.slice a3 n3 c3) := cells_at p0 9 _ rfl
  have yq26 : w1.cell? ⟨w.heap.size + 1, 6, none⟩ = some (.int .i64 hau) := cells_at p1 6 _ rfl
  have yq27 : w1.cell? ⟨w.heap.size + 1, 7, none⟩ = some (.int .i64 hrd) := cells_at p1 7 _ rfl
  have yq28 : w1.cell? ⟨w.heap.size + 1, 8, none⟩ = some (.slice b2 n2 d2) := cells_at p1 8 _ rfl
  have yq29 : w1.cell? ⟨w.heap.size + 1, 9, none⟩ = some (.slice b3 n3 d3) := cells_at p1 9 _ rfl
  go_wp2_with fail
  refine (H2.out w1 hB1).mono ?_
  rintro e w2 ⟨he, hb2⟩
  subst he
  dsimp only
  have hB2 := hB1.trans (hb2.mono hB1.size)
  have p20 := (hb2.block _ (lt_of_heap p0)).trans p0
  have p21 := (hb2.block _ (lt_of_heap p1)).trans p1
  clear p0 p1 xq26 xq27 xq28 xq29 yq26 yq27 yq28 yq29
  have xq310 : w2.cell? ⟨w.heap.size, 10, none⟩ = some (.int .i64 sau) := cells_at p20 10 _ rfl
  have xq311 : w2.cell? ⟨w.heap.size, 11, none⟩ = some (.int .i64 srd) := cells_at p20 11 _ rfl
  have xq312 : w2.cell? ⟨w.heap.size, 12, none⟩ = some (.slice a4 n4 c4) := cells_at p20 12 _ rfl
  have yq310 : w2.cell? ⟨w.heap.size + 1, 10, none⟩ = some (.int .i64 sau) := cells_at p21 10 _ rfl
  have yq311 : w2.cell? ⟨w.heap.size + 1, 11, none⟩ = some (.int .i64 srd) := cells_at p21 11 _ rfl
  have yq312 : w2.cell? ⟨w.heap.size + 1, 12, none⟩ = some (.slice b4 n4 d4) := cells_at p21 12 _ rfl
  go_wp2_with fail
  refine (H3.out w2 hB2).mono ?_
  rintro e w3 ⟨he, hb3⟩
  subst he
  dsimp only
  have hB3 := hB2.trans (hb3.mono hB2.size)
  have p30 := (hb3.block _ (lt_of_heap p20)).trans p20
  have p31 := (hb3.block _ (lt_of_heap p21)).trans p21
  clear p20 p21 xq310 xq311 xq312 yq310 yq311 yq312
  have xq413 : w3.cell? ⟨w.heap.size, 13, none⟩ = some (.int .i64 cau) := cells_at p30 13 _ rfl
  have xq414 : w3.cell? ⟨w.heap.size, 14, none⟩ = some (.int .i64 crd) := cells_at p30 14 _ rfl
  have xq415 : w3.cell? ⟨w.heap.size, 15, none⟩ = some (.slice a5 n5 c5) := cells_at p30 15 _ rfl
  have xq416 : w3.cell? ⟨w.heap.size, 16, none⟩ = some (.slice a6 n6 c6) := cells_at p30 16 _ rfl
  have xq417 : w3.cell? ⟨w.heap.size, 17, none⟩ = some (.slice a7 n7 c7) := cells_at p30 17 _ rfl
  have yq413 : w3.cell? ⟨w.heap.size + 1, 13, none⟩ = some (.int .i64 cau) := cells_at p31 13 _ rfl
  have yq414 : w3.cell? ⟨w.heap.size + 1, 14, none⟩ = some (.int .i64 crd) := cells_at p31 14 _ rfl
  have yq415 : w3.cell? ⟨w.heap.size + 1, 15, none⟩ = some (.slice b5 n5 d5) := cells_at p31 15 _ rfl
  have yq416 : w3.cell? ⟨w.heap.size + 1, 16, none⟩ = some (.slice b6 n6 d6) := cells_at p31 16 _ rfl
  have yq417 : w3.cell? ⟨w.heap.size + 1, 17, none⟩ = some (.slice b7 n7 d7) := cells_at p31 17 _ rfl
  go_wp2_with fail
  refine (H4.out w3 hB3).mono ?_
  rintro e w4 ⟨he, hb4⟩
  subst he
  dsimp only
  have hB4 := hB3.trans (hb4.mono hB3.size)
  go_wp2_with fail
  go_ret
  exact ⟨rfl, hB4⟩
end Go.Proofs.Ythlknldicpeobaa

namespace Go.Proofs.Ythlknldicpeobaa
open Go.RowKit

set_option maxRecDepth 100000 in
set_option maxHeartbeats 4000000 in
theorem mof_any (bs : List Int) (sa : Option Addr) (n cap : Nat) (w : World) (hn : n = bs.length) (hs : SliceAt w sa cap bs) (hu : U8s bs) :
    Calls Try.prog 7 #[.slice sa n cap] w fun e w' => DecIs w w' e bs := by
  subst hn
  have hA : Below w.heap.size w (w.alloc (.cells #[.int .i64 0, .int .i64 0, .int .i64 0, .int .i64 0, .int .i64 0, .slice none 0 0, .int .i64 0, .int .i64 0, .slice none 0 0, .slice none 0 0, .int .i64 0, .int .i64 0, .slice none 0 0, .int .i64 0, .int .i64 0, .slice none 0 0, .slice none 0 0, .slice none 0 0, .int .i64 0] 35)) := (Below.refl _ _).alloc (Nat.le_refl _) _
  have q0 := heap_alloc_new w (.cells #[.int .i64 0, .int .i64 0, .int .i64 0, .int .i64 0, .int .i64 0, .slice none 0 0, .int .i64 0, .int .i64 0, .slice none 0 0, .slice none 0 0, .int .i64 0, .int .i64 0, .slice none 0 0, .int .i64 0, .int .i64 0, .slice none 0 0, .slice none 0 0, .slice none 0 0, .int .i64 0] 35)
  by_cases h1 : 4000 < bs.length
  · have hF : Hid (readF bs = 1) := by show _ = _; rw [readF, if_pos h1]
    have h1I : (4000 : Int) < bs.length := by omega
    go_enter Try.func7, Try.ntmps7
    go_upto_region 2 with fail
    generalize w.alloc (.cells #[.int .i64 0, .int .i64 0, .int .i64 0, .int .i64 0, .int .i64 0, .slice none 0 0, .int .i64 0, .int .i64 0, .slice none 0 0, .slice none 0 0, .int .i64 0, .int .i64 0, .slice none 0 0, .int .i64 0, .int .i64 0, .slice none 0 0, .slice none 0 0, .slice none 0 0, .int .i64 0] 35) = W0 at hA q0 ⊢
    go_wp2_with (refine wpList_store_row rfl 35 _ _ rfl w.heap.size #[.int .i64 0, .int .i64 0, .int .i64 0, .int .i64 0, .int .i64 0, .slice none 0 0, .int .i64 0, .int .i64 0, .slice none 0 0, .slice none 0 0, .int .i64 0, .int .i64 0, .slice none 0 0, .int .i64 0, .int .i64 0, .slice none 0 0, .slice none 0 0, .slice none 0 0, .int .i64 0] rfl rfl 35 _ q0 sMsg' rfl (by simp [Value.oneCell']) ?_)
    have hFc := hF.out
    refine bodyPost_ret (v := .tuple #[.agg #[.int .i64 0, .int .i64 0, .int .i64 0, .int .i64 0, .int .i64 0, .slice none 0 0, .int .i64 0, .int .i64 0, .slice none 0 0, .slice none 0 0, .int .i64 0, .int .i64 0, .slice none 0 0, .int .i64 0, .int .i64 0, .slice none 0 0, .slice none 0 0, .slice none 0 0, .int .i64 0], .int .i64 1]) (results_cell_slot (fn := Try.f7) (p := 2) (q := 3) (ty := 35) rfl _ _ w.heap.size 35 _ (0, 0) _ (.int .i64 1) ⟨rfl, rfl⟩ (setRow_heap _ _ _ _ _ _ q0) Try.underlying35 rfl sMsg') rfl ⟨.inl ⟨by rw [hFc]; decide, by rw [hFc]⟩, (Upd.setRow q0).below hA hA.size (Nat.le_refl _)⟩
  have h1I : ¬ (4000 : Int) < bs.length := by omega
  by_cases h2 : bs = []
  · have hF : Hid (readF bs = 5) := by show _ = _; rw [readF, if_neg h1, if_pos h2]
    have h2I : ((bs.length : Int) == 0) = true := by rw [h2]; rfl
    clear h2 hs hu
    go_enter Try.func7, Try.ntmps7
    go_upto_region 4 with fail
    generalize w.alloc (.cells #[.int .i64 0, .int .i64 0, .int .i64 0, .int .i64 0, .int .i64 0, .slice none 0 0, .int .i64 0, .int .i64 0, .slice none 0 0, .slice none 0 0, .int .i64 0, .int .i64 0, .slice none 0 0, .int .i64 0, .int .i64 0, .slice none 0 0, .slice none 0 0, .slice none 0 0, .int .i64 0] 35) = W0 at hA q0 ⊢
    go_wp2_with (refine wpList_store_row rfl 35 _ _ rfl w.heap.size #[.int .i64 0, .int .i64 0, .int .i64 0, .int .i64 0, .int .i64 0, .slice none 0 0, .int .i64 0, .int .i64 0, .slice none 0 0, .slice none 0 0, .int .i64 0, .int .i64 0, .slice none 0 0, .int .i64 0, .int .i64 0, .slice none 0 0, .slice none 0 0, .slice none 0 0, .int .i64 0] rfl rfl 35 _ q0 sMsg' rfl (by simp [Value.oneCell']) ?_)
    have hFc := hF.out
    refine bodyPost_ret (v := .tuple #[.agg #[.int .i64 0, .int .i64 0, .int .i64 0, .int .i64 0, .int .i64 0, .slice none 0 0, .int .i64 0, .int .i64 0, .slice none 0 0, .slice none 0 0, .int .i64 0, .int .i64 0, .slice none 0 0, .int .i64 0, .int .i64 0, .slice none 0 0, .slice none 0 0, .slice none 0 0, .int .i64 0], .int .i64 5]) (results_cell_slot (fn := Try.f7) (p := 2) (q := 3) (ty := 35) rfl _ _ w.heap.size 35 _ (0, 0) _ (.int .i64 5) ⟨rfl, rfl⟩ (setRow_heap _ _ _ _ _ _ q0) Try.underlying35 rfl sMsg') rfl ⟨.inl ⟨by rw [hFc]; decide, by rw [hFc]⟩, (Upd.setRow q0).below hA hA.size (Nat.le_refl _)⟩
  have hpos : 0 < bs.length := by cases bs with | nil => exact absurd rfl h2 | cons _ _ => simp
  obtain ⟨sb, so, rfl, hc⟩ : ∃ sb so, sa = some ⟨sb, so, none⟩ ∧ ∀ j, j < bs.length → w.cell? ⟨sb, so + j, none⟩ = some (.int .u8 (bs.getD j 0)) := by
    rcases hs.bytes with h | h
    · exact absurd h h2
    · exact h
  by_cases hk : 1 ≤ bs.getD 0 0 ∧ bs.getD 0 0 ≤ 5
  · have hl : bs.length ≤ 4000 := by omega
    have hk5 : bs.getD 0 0 = 1 ∨ bs.getD 0 0 = 2 ∨ bs.getD 0 0 = 3 ∨ bs.getD 0 0 = 4 ∨ bs.getD 0 0 = 5 := by omega
    rcases hk5 with h | h | h | h | h
    · exact mof_1 bs sb so cap w hs hu hl hpos h
    · exact mof_2 bs sb so cap w hs hu hl hpos h
    · exact mof_3 bs sb so cap w hs hu hl hpos h
    · exact mof_4 bs sb so cap w hs hu hl hpos h
    · exact mof_5 bs sb so cap w hs hu hl hpos h
  · have hF : Hid (readF bs = 3) := by show _ = _; rw [readF, if_neg h1, if_neg h2, if_pos hk]
    have h2I : ((bs.length : Int) == 0) = false := by rw [beq_eq_false_iff_ne]; omega
    have hpI : (0 : Int) < bs.length := by omega
    have hsb : sb < w.heap.size := block_lt_of_cell (hc 0 hpos)
    have c0 : (w.alloc (.cells #[.int .i64 0, .int .i64 0, .int .i64 0, .int .i64 0, .int .i64 0, .slice none 0 0, .int .i64 0, .int .i64 0, .slice none 0 0, .slice none 0 0, .int .i64 0, .int .i64 0, .slice none 0 0, .int .i64 0, .int .i64 0, .slice none 0 0, .slice none 0 0, .slice none 0 0, .int .i64 0] 35)).cell? ⟨sb, so, none⟩ = some (.int .u8 (bs.getD 0 0)) := (hA.cell (p := ⟨sb, so, none⟩) hsb).trans (hc 0 hpos)
    have hx0 := hu (bs.getD 0 0) (by simp [List.getD, hpos])
    have HIN : Hid (∀ W : World, Calls Try.prog 16 #[.int .i64 (bs.getD 0 0), .int .i64 1, .int .i64 5] W fun e w' => e = .returned (.bool false) ∧ W = w') := by
      show ∀ _, _
      exact fun W => in_false _ _ _ W hk
    clear hk h2 hc hu hs
    generalize bs.getD 0 0 = X at *
    obtain ⟨hx1, hx2⟩ := hx0
    go_enter Try.func7, Try.ntmps7
    go_upto_region 6 with (go_at_call 16; refine (HIN.out _).mono ?_; rintro e w9 ⟨rfl, rfl⟩)
    generalize w.alloc (.cells #[.int .i64 0, .int .i64 0, .int .i64 0, .int .i64 0, .int .i64 0, .slice none 0 0, .int .i64 0, .int .i64 0, .slice none 0 0, .slice none 0 0, .int .i64 0, .int .i64 0, .slice none 0 0, .int .i64 0, .int .i64 0, .slice none 0 0, .slice none 0 0, .slice none 0 0, .int .i64 0] 35) = W0 at hA q0 c0 ⊢
    go_wp2_with (refine wpList_store_row rfl 35 _ _ rfl w.heap.size #[.int .i64 0, .int .i64 0, .int .i64 0, .int .i64 0, .int .i64 0, .slice none 0 0, .int .i64 0, .int .i64 0, .slice none 0 0, .slice none 0 0, .int .i64 0, .int .i64 0, .slice none 0 0, .int .i64 0, .int .i64 0, .slice none 0 0, .slice none 0 0, .slice none 0 0, .int .i64 0] rfl rfl 35 _ q0 sMsg' rfl (by simp [Value.oneCell']) ?_)
    have hFc := hF.out
    refine bodyPost_ret (v := .tuple #[.agg #[.int .i64 0, .int .i64 0, .int .i64 0, .int .i64 0, .int .i64 0, .slice none 0 0, .int .i64 0, .int .i64 0, .slice none 0 0, .slice none 0 0, .int .i64 0, .int .i64 0, .slice none 0 0, .int .i64 0, .int .i64 0, .slice none 0 0, .slice none 0 0, .slice none 0 0, .int .i64 0], .int .i64 3]) (results_cell_slot (fn := Try.f7) (p := 2) (q := 3) (ty := 35) rfl _ _ w.heap.size 35 _ (0, 0) _ (.int .i64 3) ⟨rfl, rfl⟩ (setRow_heap _ _ _ _ _ _ q0) Try.underlying35 rfl sMsg') rfl ⟨.inl ⟨by rw [hFc]; decide, by rw [hFc]⟩, (Upd.setRow q0).below hA hA.size (Nat.le_refl _)⟩
def zeroMV : MV := ⟨{ fr := 0, tt := 0, ki := 0, bau := 0, bnu := 0, bta := none, btn := 0, btc := 0, hau := 0, hrd := 0, hba := none, hbn := 0, hbc := 0, hpa := none, hpn := 0, hpc := 0, sau := 0, srd := 0, sda := none, sdn := 0, sdc := 0, cau := 0, crd := 0, cba := none, cbn := 0, cbc := 0, cpa := none, cpn := 0, cpc := 0, cva := none, cvn := 0, cvc := 0, ro := 0 }, [], [], [], [], [], [], []⟩
set_option maxRecDepth 100000 in
theorem zero_at (w : World) : MAt w zeroMV := ⟨⟨rfl, rfl, rfl, rfl, rfl, rfl, Nat.zero_le _, Nat.zero_le _, Nat.zero_le _, strs_nil _, list_nilM _, list_nilM _, list_nilM _, list_nilM _, ints_nil _⟩, nilM _, rfl⟩
/-- What is decoded. -/
def DecV (bs : List Int) (c : MC) (C : Int) : Prop :=
  (readF bs ≠ 0 ∧ c = zeroMV.c ∧ C = readF bs) ∨ (readF bs = 0 ∧ ∃ (W : World) (x : MV), MAt W x ∧ x.c = pM (bs, false) ∧ C = checkF x.m x.car ∧ c = if C = 0 then pM (bs, false) else zeroMV.c)
set_option maxRecDepth 100000 in
theorem DecV.one {bs : List Int} {c d : MC} {C D : Int} (h : DecV bs c C) (g : DecV bs d D) : c = d ∧ C = D := by
  rcases h with ⟨h1, h2, h3⟩ | ⟨h1, W, x, hx, h2, h3, h4⟩ <;> rcases g with ⟨g1, g2, g3⟩ | ⟨g1, V, y, hy, g2, g3, g4⟩
  · exact ⟨h2.trans g2.symm, h3.trans g3.symm⟩
  · exact absurd g1 h1
  · exact absurd h1 g1
  · have e : C = D := by rw [h3, g3]; exact (check_c hx hy (g2.trans h2.symm)).symm
    subst e
    exact ⟨h4.trans g4.symm, rfl⟩
set_option maxRecDepth 100000 in
theorem dec_one {w w' : World} {e : Ending} {bs : List Int} (h : DecIs w w' e bs) : ∃ (y : MV) (C : Int), e = .returned (.tuple #[.agg #[.int .i64 y.m.fr, .int .i64 y.m.tt, .int .i64 y.m.ki, .int .i64 y.m.bau, .int .i64 y.m.bnu, .slice y.m.bta y.m.btn y.m.btc, .int .i64 y.m.hau, .int .i64 y.m.hrd, .slice y.m.hba y.m.hbn y.m.hbc, .slice y.m.hpa y.m.hpn y.m.hpc, .int .i64 y.m.sau, .int .i64 y.m.srd, .slice y.m.sda y.m.sdn y.m.sdc, .int .i64 y.m.cau, .int .i64 y.m.crd, .slice y.m.cba y.m.cbn y.m.cbc, .slice y.m.cpa y.m.cpn y.m.cpc, .slice y.m.cva y.m.cvn y.m.cvc, .int .i64 y.m.ro], .int .i64 C]) ∧ MAt w' y ∧ DecV bs y.c C := by
  rcases h.out with ⟨h1, h2⟩ | ⟨h1, x, h2, h3, _, ⟨h4, h5⟩ | ⟨h4, h5⟩⟩
  · exact ⟨zeroMV, readF bs, h2, zero_at _, .inl ⟨h1, rfl, rfl⟩⟩
  · exact ⟨x, 0, h5, h3, .inr ⟨h1, w', x, h3, h2, h4.symm, by rw [if_pos rfl]; exact h2⟩⟩
  · exact ⟨zeroMV, _, h5, zero_at _, .inr ⟨h1, w', x, h3, h2, rfl, by rw [if_neg h4]⟩⟩
set_option maxRecDepth 100000 in
theorem law_same {w : World} {x y : MV} (hx : MAt w x) (hy : MAt w y) (h : x.c = y.c) :
    Calls Try.prog 8 #[.agg #[.int .i64 x.m.fr, .int .i64 x.m.tt, .int .i64 x.m.ki, .int .i64 x.m.bau, .int .i64 x.m.bnu, .slice x.m.bta x.m.btn x.m.btc, .int .i64 x.m.hau, .int .i64 x.m.hrd, .slice x.m.hba x.m.hbn x.m.hbc, .slice x.m.hpa x.m.hpn x.m.hpc, .int .i64 x.m.sau, .int .i64 x.m.srd, .slice x.m.sda x.m.sdn x.m.sdc, .int .i64 x.m.cau, .int .i64 x.m.crd, .slice x.m.cba x.m.cbn x.m.cbc, .slice x.m.cpa x.m.cpn x.m.cpc, .slice x.m.cva x.m.cvn x.m.cvc, .int .i64 x.m.ro], .agg #[.int .i64 y.m.fr, .int .i64 y.m.tt, .int .i64 y.m.ki, .int .i64 y.m.bau, .int .i64 y.m.bnu, .slice y.m.bta y.m.btn y.m.btc, .int .i64 y.m.hau, .int .i64 y.m.hrd, .slice y.m.hba y.m.hbn y.m.hbc, .slice y.m.hpa y.m.hpn y.m.hpc, .int .i64 y.m.sau, .int .i64 y.m.srd, .slice y.m.sda y.m.sdn y.m.sdc, .int .i64 y.m.cau, .int .i64 y.m.crd, .slice y.m.cba y.m.cbn y.m.cbc, .slice y.m.cpa y.m.cpn y.m.cpc, .slice y.m.cva y.m.cvn y.m.cvc, .int .i64 y.m.ro]] w fun e w' => e = .returned (.bool true) ∧ Below w.heap.size w w' := by
  have H := hx.at'
  have K := hy.at'
  simp only [MV.c, MC.mk.injEq] at h
  obtain ⟨e1, e2, e3, e4, e5, e6, e7, e8, e9, e10, e11, e12, e13, e14, e15, e16, e17, e18, e19⟩ := h
  have t1 : StrsAt w x.m.bta y.ss := by rw [← e6]; exact H.txs
  have t4 : SliceAt w x.m.sda x.m.sdc y.ds := by rw [← e13]; exact hx.dig
  have t7 : IntsAt w x.m.cva y.vl := by rw [← e18]; exact H.vot
  have G := sameMsg_eq y.m.fr y.m.tt y.m.ki y.m.bau y.m.bnu y.m.hau y.m.hrd y.m.sau y.m.srd y.m.cau y.m.crd y.m.ro x.m.bta x.m.hba x.m.hpa x.m.sda x.m.cba x.m.cpa x.m.cva y.m.bta y.m.hba y.m.hpa y.m.sda y.m.cba y.m.cpa y.m.cva x.m.btc x.m.hbc x.m.hpc x.m.sdc x.m.cbc x.m.cpc x.m.cvc y.m.btc y.m.hbc y.m.hpc y.m.sdc y.m.cbc y.m.cpc y.m.cvc y.ss x.bl x.pl x.cbl x.cpl y.bl y.pl y.cbl y.cpl y.ds y.vl w e9 e10 e16 e17 K.s1 K.s6 t1 H.bat H.par t4 H.cbat H.cpar t7 K.txs K.bat K.par hy.dig K.cbat K.cpar K.vot
  have n1 : y.ss.length = x.m.btn := by rw [H.e1, e6]
  have n2 : y.bl.length = x.m.hbn := by rw [H.e2]; exact (Same.length e9).symm
  have n3 : y.pl.length = x.m.hpn := by rw [H.e3]; exact (Same.length e10).symm
  have n4 : y.cbl.length = x.m.cbn := by rw [H.e4]; exact (Same.length e16).symm
  have n5 : y.cpl.length = x.m.cpn := by rw [H.e5]; exact (Same.length e17).symm
  have n6 : y.vl.length = x.m.cvn := by rw [H.e6, e18]
  have n7 : y.ds.length = x.m.sdn := by rw [hx.dn, e13]
  have m1 : y.m.btn = x.m.btn := by rw [K.e1, n1]
  have m2 : y.m.hbn = x.m.hbn := by rw [K.e2, n2]
  have m3 : y.m.hpn = x.m.hpn := by rw [K.e3, n3]
  have m4 : y.m.cbn = x.m.cbn := by rw [K.e4, n4]
  have m5 : y.m.cpn = x.m.cpn := by rw [K.e5, n5]
  have m6 : y.m.cvn = x.m.cvn := by rw [K.e6, n6]
  have m7 : y.m.sdn = x.m.sdn := by rw [hy.dn, n7]
  rw [n1, n2, n3, n4, n5, n6, n7] at G
  rw [e1, e2, e3, e4, e5, e7, e8, e11, e12, e14, e15, e19, m1, m2, m3, m4, m5, m6, m7]
  exact G
end Go.Proofs.Ythlknldicpeobaa

namespace Go.Proofs.Ythlknldicpeobaa
open Go.RowKit

set_option maxRecDepth 100000 in
set_option maxHeartbeats 400000 in
theorem octets_any2 (bs : List Int) (sa : Option Addr) (n cap : Nat) (w : World) (hn : n = bs.length) (hs : SliceAt w sa cap bs) (hr : cap ≤ 140737488351232) :
    Calls Try.prog 6 #[.slice sa n cap] w fun e w' => ∃ ra rc, e = .returned (.slice ra bs.length rc) ∧ SliceAt w' ra rc bs ∧ Below w.heap.size w w' ∧ (∀ sb so, ra = some ⟨sb, so, none⟩ → w.heap.size ≤ sb) := by
  have hle := hs.le
  go_enter Try.func6, Try.ntmps6
  go_wp2_with (at_builtin; refine wpList_append_part rfl _ _ rfl w.heap.size _ 0 [] rfl (World.ownsRow_nil _ _ _ _) sa n cap bs rfl hn hs (by omega) (Nat.le_refl _) ?_; intro v1 w1 ho1 hg1)
  obtain ⟨ra, rc, hv, hl, hsl⟩ := owns_form ho1
  have hlt := ho1.lt
  subst hv
  go_ret
  refine ⟨ra, rc, ?_, by simpa using hsl, grown_none hg1, fun sb so e => (hlt sb (by rw [e]; rfl)).1⟩
  simp [hn]
end Go.Proofs.Ythlknldicpeobaa

namespace Go.Proofs.Ythlknldicpeobaa
open Go.RowKit

set_option maxRecDepth 100000 in
set_option maxHeartbeats 4000000 in
theorem wireDecodes_walk (l : List Int) (sa : Option Addr) (cap : Nat) (w : World) (hs : SliceAt w sa cap l) (hu : AllU8 l) (hr : cap ≤ 140737488351232) :
    Calls Try.prog 3 #[.slice sa l.length cap] w fun e w' => e = .returned (.bool true) ∧ Below w.heap.size w w' := by
  have hle := hs.le
  have hU : U8s l := hu
  go_enter Try.func3, Try.ntmps3
  go_wp2_with fail
  refine (octets_any2 l sa _ cap w rfl hs hr).mono ?_
  rintro e w1 ⟨ra, rc, he, hs1, hb1, -⟩
  subst he
  dsimp only
  have hD := decode_any l ra _ rc w1 rfl hs1 hU (by omega)
  go_wp2_with fail
  refine hD.mono ?_
  intro e w2 h2
  obtain ⟨y, C, he, hy, hyv⟩ := dec_one h2
  have hb2 := h2.below
  subst he
  dsimp only
  clear hD h2 hs1
  have HY : Hid _ := hyv
  clear hyv
  have hB2 := hb1.trans (hb2.mono hb1.size)
  have qz := heap_alloc_new w2 (.cells #[.int .i64 0, .int .i64 0, .int .i64 0, .int .i64 0, .int .i64 0, .slice none 0 0, .int .i64 0, .int .i64 0, .slice none 0 0, .slice none 0 0, .int .i64 0, .int .i64 0, .slice none 0 0, .int .i64 0, .int .i64 0, .slice none 0 0, .slice none 0 0, .slice none 0 0, .int .i64 0] 35)
  have hA2 : Below w2.heap.size w2 ((w2.alloc (.cells #[.int .i64 0, .int .i64 0, .int .i64 0, .int .i64 0, .int .i64 0, .slice none 0 0, .int .i64 0, .int .i64 0, .slice none 0 0, .slice none 0 0, .int .i64 0, .int .i64 0, .slice none 0 0, .int .i64 0, .int .i64 0, .slice none 0 0, .slice none 0 0, .slice none 0 0, .int .i64 0] 35)).setRow w2.heap.size #[.int .i64 y.m.fr, .int .i64 y.m.tt, .int .i64 y.m.ki, .int .i64 y.m.bau, .int .i64 y.m.bnu, .slice y.m.bta y.m.btn y.m.btc, .int .i64 y.m.hau, .int .i64 y.m.hrd, .slice y.m.hba y.m.hbn y.m.hbc, .slice y.m.hpa y.m.hpn y.m.hpc, .int .i64 y.m.sau, .int .i64 y.m.srd, .slice y.m.sda y.m.sdn y.m.sdc, .int .i64 y.m.cau, .int .i64 y.m.crd, .slice y.m.cba y.m.cbn y.m.cbc, .slice y.m.cpa y.m.cpn y.m.cpc, .slice y.m.cva y.m.cvn y.m.cvc, .int .i64 y.m.ro]) := laid_row w2 #[.int .i64 0, .int .i64 0, .int .i64 0, .int .i64 0, .int .i64 0, .slice none 0 0, .int .i64 0, .int .i64 0, .slice none 0 0, .slice none 0 0, .int .i64 0, .int .i64 0, .slice none 0 0, .int .i64 0, .int .i64 0, .slice none 0 0, .slice none 0 0, .slice none 0 0, .int .i64 0] #[.int .i64 y.m.fr, .int .i64 y.m.tt, .int .i64 y.m.ki, .int .i64 y.m.bau, .int .i64 y.m.bnu, .slice y.m.bta y.m.btn y.m.btc, .int .i64 y.m.hau, .int .i64 y.m.hrd, .slice y.m.hba y.m.hbn y.m.hbc, .slice y.m.hpa y.m.hpn y.m.hpc, .int .i64 y.m.sau, .int .i64 y.m.srd, .slice y.m.sda y.m.sdn y.m.sdc, .int .i64 y.m.cau, .int .i64 y.m.crd, .slice y.m.cba y.m.cbn y.m.cbc, .slice y.m.cpa y.m.cpn y.m.cpc, .slice y.m.cva y.m.cvn y.m.cvc, .int .i64 y.m.ro] 35
  have qN := setRow_heap _ _ _ #[.int .i64 y.m.fr, .int .i64 y.m.tt, .int .i64 y.m.ki, .int .i64 y.m.bau, .int .i64 y.m.bnu, .slice y.m.bta y.m.btn y.m.btc, .int .i64 y.m.hau, .int .i64 y.m.hrd, .slice y.m.hba y.m.hbn y.m.hbc, .slice y.m.hpa y.m.hpn y.m.hpc, .int .i64 y.m.sau, .int .i64 y.m.srd, .slice y.m.sda y.m.sdn y.m.sdc, .int .i64 y.m.cau, .int .i64 y.m.crd, .slice y.m.cba y.m.cbn y.m.cbc, .slice y.m.cpa y.m.cpn y.m.cpc, .slice y.m.cva y.m.cvn y.m.cvc, .int .i64 y.m.ro] _ _ qz
  go_upto_region 2 with (refine wpList_store_row rfl 35 _ _ rfl w2.heap.size #[.int .i64 y.m.fr, .int .i64 y.m.tt, .int .i64 y.m.ki, .int .i64 y.m.bau, .int .i64 y.m.bnu, .slice y.m.bta y.m.btn y.m.btc, .int .i64 y.m.hau, .int .i64 y.m.hrd, .slice y.m.hba y.m.hbn y.m.hbc, .slice y.m.hpa y.m.hpn y.m.hpc, .int .i64 y.m.sau, .int .i64 y.m.srd, .slice y.m.sda y.m.sdn y.m.sdc, .int .i64 y.m.cau, .int .i64 y.m.crd, .slice y.m.cba y.m.cbn y.m.cbc, .slice y.m.cpa y.m.cpn y.m.cpc, .slice y.m.cva y.m.cvn y.m.cvc, .int .i64 y.m.ro] rfl rfl 35 _ qz sMsg' rfl (by simp [Value.oneCell']) ?_)
  generalize (w2.alloc (.cells #[.int .i64 0, .int .i64 0, .int .i64 0, .int .i64 0, .int .i64 0, .slice none 0 0, .int .i64 0, .int .i64 0, .slice none 0 0, .slice none 0 0, .int .i64 0, .int .i64 0, .slice none 0 0, .int .i64 0, .int .i64 0, .slice none 0 0, .slice none 0 0, .slice none 0 0, .int .i64 0] 35)).setRow w2.heap.size #[.int .i64 y.m.fr, .int .i64 y.m.tt, .int .i64 y.m.ki, .int .i64 y.m.bau, .int .i64 y.m.bnu, .slice y.m.bta y.m.btn y.m.btc, .int .i64 y.m.hau, .int .i64 y.m.hrd, .slice y.m.hba y.m.hbn y.m.hbc, .slice y.m.hpa y.m.hpn y.m.hpc, .int .i64 y.m.sau, .int .i64 y.m.srd, .slice y.m.sda y.m.sdn y.m.sdc, .int .i64 y.m.cau, .int .i64 y.m.crd, .slice y.m.cba y.m.cbn y.m.cbc, .slice y.m.cpa y.m.cpn y.m.cpc, .slice y.m.cva y.m.cvn y.m.cvc, .int .i64 y.m.ro] = W2 at hA2 qN ⊢
  generalize w2.heap.size = G at qN ⊢ 
  have hB3 := hB2.trans (hA2.mono hB2.size)
  have hy2 := hy.below hA2
  clear hy qz hA2
  have hD := mof_any l sa _ cap W2 rfl (hs.below hB3) hU
  go_wp2_with fail
  refine hD.mono ?_
  intro e w4 h4
  obtain ⟨z, D, he, hz, hzv⟩ := dec_one h4
  have hb4 := h4.below
  subst he
  dsimp only
  clear hD h4
  obtain ⟨hc, hCD⟩ := DecV.one HY.out hzv
  subst hCD
  have HC : Hid (y.c = z.c) := hc
  clear hc hzv HY
  have hB4 := hB3.trans (hb4.mono hB3.size)
  have hy4 := hy2.below hb4
  have q4 := (hb4.block _ (lt_of_heap qN)).trans qN
  have qz := heap_alloc_new w4 (.cells #[.int .i64 0, .int .i64 0, .int .i64 0, .int .i64 0, .int .i64 0, .slice none 0 0, .int .i64 0, .int .i64 0, .slice none 0 0, .slice none 0 0, .int .i64 0, .int .i64 0, .slice none 0 0, .int .i64 0, .int .i64 0, .slice none 0 0, .slice none 0 0, .slice none 0 0, .int .i64 0] 35)
  have hA4 : Below w4.heap.size w4 ((w4.alloc (.cells #[.int .i64 0, .int .i64 0, .int .i64 0, .int .i64 0, .int .i64 0, .slice none 0 0, .int .i64 0, .int .i64 0, .slice none 0 0, .slice none 0 0, .int .i64 0, .int .i64 0, .slice none 0 0, .int .i64 0, .int .i64 0, .slice none 0 0, .slice none 0 0, .slice none 0 0, .int .i64 0] 35)).setRow w4.heap.size #[.int .i64 z.m.fr, .int .i64 z.m.tt, .int .i64 z.m.ki, .int .i64 z.m.bau, .int .i64 z.m.bnu, .slice z.m.bta z.m.btn z.m.btc, .int .i64 z.m.hau, .int .i64 z.m.hrd, .slice z.m.hba z.m.hbn z.m.hbc, .slice z.m.hpa z.m.hpn z.m.hpc, .int .i64 z.m.sau, .int .i64 z.m.srd, .slice z.m.sda z.m.sdn z.m.sdc, .int .i64 z.m.cau, .int .i64 z.m.crd, .slice z.m.cba z.m.cbn z.m.cbc, .slice z.m.cpa z.m.cpn z.m.cpc, .slice z.m.cva z.m.cvn z.m.cvc, .int .i64 z.m.ro]) := laid_row w4 #[.int .i64 0, .int .i64 0, .int .i64 0, .int .i64 0, .int .i64 0, .slice none 0 0, .int .i64 0, .int .i64 0, .slice none 0 0, .slice none 0 0, .int .i64 0, .int .i64 0, .slice none 0 0, .int .i64 0, .int .i64 0, .slice none 0 0, .slice none 0 0, .slice none 0 0, .int .i64 0] #[.int .i64 z.m.fr, .int .i64 z.m.tt, .int .i64 z.m.ki, .int .i64 z.m.bau, .int .i64 z.m.bnu, .slice z.m.bta z.m.btn z.m.btc, .int .i64 z.m.hau, .int .i64 z.m.hrd, .slice z.m.hba z.m.hbn z.m.hbc, .slice z.m.hpa z.m.hpn z.m.hpc, .int .i64 z.m.sau, .int .i64 z.m.srd, .slice z.m.sda z.m.sdn z.m.sdc, .int .i64 z.m.cau, .int .i64 z.m.crd, .slice z.m.cba z.m.cbn z.m.cbc, .slice z.m.cpa z.m.cpn z.m.cpc, .slice z.m.cva z.m.cvn z.m.cvc, .int .i64 z.m.ro] 35
  have qM := setRow_heap _ _ _ #[.int .i64 z.m.fr, .int .i64 z.m.tt, .int .i64 z.m.ki, .int .i64 z.m.bau, .int .i64 z.m.bnu, .slice z.m.bta z.m.btn z.m.btc, .int .i64 z.m.hau, .int .i64 z.m.hrd, .slice z.m.hba z.m.hbn z.m.hbc, .slice z.m.hpa z.m.hpn z.m.hpc, .int .i64 z.m.sau, .int .i64 z.m.srd, .slice z.m.sda z.m.sdn z.m.sdc, .int .i64 z.m.cau, .int .i64 z.m.crd, .slice z.m.cba z.m.cbn z.m.cbc, .slice z.m.cpa z.m.cpn z.m.cpc, .slice z.m.cva z.m.cvn z.m.cvc, .int .i64 z.m.ro] _ _ qz
  have q5 := (hA4.block _ (lt_of_heap q4)).trans q4
  go_upto_region 3 with (refine wpList_store_row rfl 35 _ _ rfl w4.heap.size #[.int .i64 z.m.fr, .int .i64 z.m.tt, .int .i64 z.m.ki, .int .i64 z.m.bau, .int .i64 z.m.bnu, .slice z.m.bta z.m.btn z.m.btc, .int .i64 z.m.hau, .int .i64 z.m.hrd, .slice z.m.hba z.m.hbn z.m.hbc, .slice z.m.hpa z.m.hpn z.m.hpc, .int .i64 z.m.sau, .int .i64 z.m.srd, .slice z.m.sda z.m.sdn z.m.sdc, .int .i64 z.m.cau, .int .i64 z.m.crd, .slice z.m.cba z.m.cbn z.m.cbc, .slice z.m.cpa z.m.cpn z.m.cpc, .slice z.m.cva z.m.cvn z.m.cvc, .int .i64 z.m.ro] rfl rfl 35 _ qz sMsg' rfl (by simp [Value.oneCell']) ?_)
  generalize (w4.alloc (.cells #[.int .i64 0, .int .i64 0, .int .i64 0, .int .i64 0, .int .i64 0, .slice none 0 0, .int .i64 0, .int .i64 0, .slice none 0 0, .slice none 0 0, .int .i64 0, .int .i64 0, .slice none 0 0, .int .i64 0, .int .i64 0, .slice none 0 0, .slice none 0 0, .slice none 0 0, .int .i64 0] 35)).setRow w4.heap.size #[.int .i64 z.m.fr, .int .i64 z.m.tt, .int .i64 z.m.ki, .int .i64 z.m.bau, .int .i64 z.m.bnu, .slice z.m.bta z.m.btn z.m.btc, .int .i64 z.m.hau, .int .i64 z.m.hrd, .slice z.m.hba z.m.hbn z.m.hbc, .slice z.m.hpa z.m.hpn z.m.hpc, .int .i64 z.m.sau, .int .i64 z.m.srd, .slice z.m.sda z.m.sdn z.m.sdc, .int .i64 z.m.cau, .int .i64 z.m.crd, .slice z.m.cba z.m.cbn z.m.cbc, .slice z.m.cpa z.m.cpn z.m.cpc, .slice z.m.cva z.m.cvn z.m.cvc, .int .i64 z.m.ro] = W4 at hA4 qM q5 ⊢
  generalize w4.heap.size = G4 at qM ⊢
  have hB5 := hB4.trans (hA4.mono hB4.size)
  have hy5 := hy4.below hA4
  have hz5 := hz.below hA4
  have hS := law_same hy5 hz5 HC.out
  clear hz qz hA4 hy4 hy2 q4 qN HC hy5 hz5
  go_wp2_with (first | refine wpList_load_row_w rfl 35 _ rfl G rfl 35 #[.int .i64 y.m.fr, .int .i64 y.m.tt, .int .i64 y.m.ki, .int .i64 y.m.bau, .int .i64 y.m.bnu, .slice y.m.bta y.m.btn y.m.btc, .int .i64 y.m.hau, .int .i64 y.m.hrd, .slice y.m.hba y.m.hbn y.m.hbc, .slice y.m.hpa y.m.hpn y.m.hpc, .int .i64 y.m.sau, .int .i64 y.m.srd, .slice y.m.sda y.m.sdn y.m.sdc, .int .i64 y.m.cau, .int .i64 y.m.crd, .slice y.m.cba y.m.cbn y.m.cbc, .slice y.m.cpa y.m.cpn y.m.cpc, .slice y.m.cva y.m.cvn y.m.cvc, .int .i64 y.m.ro] (0, 0) _ q5 Try.underlying35 rfl sMsg' ?_ | refine wpList_load_row_w rfl 35 _ rfl G4 rfl 35 #[.int .i64 z.m.fr, .int .i64 z.m.tt, .int .i64 z.m.ki, .int .i64 z.m.bau, .int .i64 z.m.bnu, .slice z.m.bta z.m.btn z.m.btc, .int .i64 z.m.hau, .int .i64 z.m.hrd, .slice z.m.hba z.m.hbn z.m.hbc, .slice z.m.hpa z.m.hpn z.m.hpc, .int .i64 z.m.sau, .int .i64 z.m.srd, .slice z.m.sda z.m.sdn z.m.sdc, .int .i64 z.m.cau, .int .i64 z.m.crd, .slice z.m.cba z.m.cbn z.m.cbc, .slice z.m.cpa z.m.cpn z.m.cpc, .slice z.m.cva z.m.cvn z.m.cvc, .int .i64 z.m.ro] (0, 0) _ qM Try.underlying35 rfl sMsg' ?_)
  refine hS.mono ?_
  rintro e w6 ⟨he, hb6⟩
  subst he
  dsimp only
  go_wp2_with fail
  go_ret
  exact ⟨rfl, hB5.trans (hb6.mono hB5.size)⟩
end Go.Proofs.Ythlknldicpeobaa

namespace Go.Proofs.Ythlknldicpeobaa.wireDecodes
open Go.ChangeShapes Go.WideShapes Go.ChangeAt Go.RowKit

set_option maxRecDepth 100000 in
/-- What the walk gives, for every argument and every world. -/
theorem contract (H : Type) (enc : TypeId × Value → H) (W : World) (base : Nat) (args : Array Value) (ds gs : List (DataW H)) (before : List MemPlace)
    (hval : ∀ (j : Nat) t v, Try.f3.params[j]? = some t → args[j]? = some v → Value.okWide Try.prog W .any base t v)
    (hW : DataW.Whole enc Try.prog Try.f3.params.toList Rows.wireDecodesSpec.vars false W args.toList ds gs before) (hsz : (DataW.weightsEach Try.prog (Try.f3.params.toList ++ (OpenSpec.ofChange Rows.wireDecodesSpec).bare.plain.varTypes Try.prog) (ds ++ gs)).all (· ≤ reachBytes) = true) (_hL : laidMetH Try.prog Rows.wireDecodesRow.laid W) :
    Calls Try.prog 3 args W fun e W' => ∃ v, e = .returned v ∧ Rows.wireDecodesSpec.post enc Try.prog Try.f3 false true false false W args v W' := by
  have hW' := hW
  obtain ⟨p, q, hA0, hV, rfl, hfz, hnd⟩ := hW
  have hA : DataW.TrodAll enc Try.prog W 0 (fun _ => true) true Try.f3.params.toList args.toList ds p := hA0
  rw [Try.params3] at hA hval hsz
  obtain ⟨v0, vs0, d0, ds0, p0, q0, hargs, rfl, rfl, h0, r0⟩ := trodAll_cons hA
  obtain ⟨rfl, rfl, rfl⟩ := trodAll_nil r0
  obtain rfl : args = #[v0] := by cases args; simp_all
  obtain ⟨rfl, rfl⟩ := trodVars_none hV
  have k0 := h0
  have lt0 : ∀ x ∈ p0, x.block < W.heap.size := by obtain ⟨m, hm⟩ := k0; exact DataW.trod_lt m _ _ _ hm
  obtain ⟨sa0, cap0, bs0, rfl, hs0, hu0⟩ := open_bytes (hval 0 22 v0 rfl rfl) h0
  have hc0 : cap0 ≤ 140737488351232 := by obtain ⟨m, hm⟩ := k0; exact bytes_fit hm (fit_each hsz (j := 0) rfl rfl) rfl
  clear hA0
  refine (wireDecodes_walk bs0 sa0 cap0 W hs0 hu0 hc0).mono fun e W' ⟨he, bel⟩ => ?_
  subst he
  exact ⟨_, rfl, _, _, _, [], _, [], hW', trodAll_mk1 (shut_bool Try.underlying4 _), (trodAll_cons_mk (Below.trod laidOut (by kernel_rfl) (of_decide_eq_true (by kernel_rfl)) k0 bel lt0) trodAll_mk0), rfl, bel.frame _, fun h => by cases h⟩

set_option maxRecDepth 100000 in
theorem laid_met (os : Os) : laidMet Try.prog Rows.wireDecodesRow.laid ((World.holding Try.prog os ⟨#[], #[], []⟩).forCall (fun _ _ => 0) ⟨#[], #[.slice none 0 0], []⟩).memory :=
  laidMet_of_run' 8 (by kernel_rfl) (by kernel_rfl)
set_option maxRecDepth 100000 in
theorem reads (os : Os) {H : Type} (enc : TypeId × Value → H) : ∃ places, DataW.whole enc Try.prog ((World.holding Try.prog os ⟨#[], #[], []⟩).forCall (fun _ _ => 0) ⟨#[], #[.slice none 0 0], []⟩).memory Try.f3.params.toList Rows.wireDecodesSpec.vars false (#[.slice none 0 0] : Array Value).toList 8 = some ([.nil], [], places) :=
  ⟨[], by kernel_rfl⟩

set_option maxRecDepth 100000 in
theorem lifted (os : Os) (started : os.Started) (H : Type) (enc : TypeId × Value → H) (F : Stop.Interp) :
    ReturnsInHanded {} Try.checked os 3 .any ((OpenSpec.ofChange Rows.wireDecodesSpec).preRow enc Try.prog Try.f3 Rows.wireDecodesRow.domain false Rows.wireDecodesRow.laid) (((OpenSpec.ofChange Rows.wireDecodesSpec).at F).post enc Try.prog Try.f3 false true false false) := by
  obtain ⟨places, hx⟩ := reads os enc
  refine returnsInHanded_of_row (C := Try.checked) (s := OpenSpec.ofChange Rows.wireDecodesSpec) own started (by kernel_rfl) Try.func3
    (witness_row_at (enc := enc) (C := Try.checked) false (World.holding Try.prog os ⟨#[], #[], []⟩) #[.slice none 0 0] rfl (by kernel_rfl) (by kernel_rfl) (by kernel_rfl)
      (OpenSpec.preRow_of_cond 8 hx (by kernel_rfl) (fun k hk => by cases hk) (by kernel_rfl) (laid_met os))) ?_
  intro W base args ds gs before hval hW _ _ hsz hL _ _
  exact contract H enc W base args ds gs before hval hW hsz hL

set_option maxRecDepth 100000 in
theorem said : Rows.WireDecodesSaid :=
  OpenClaim.holds_of_cond 3 Try.f3 rfl rfl rfl rfl rfl rfl rfl ⟨rfl, rfl, rfl, rfl, rfl⟩ rfl rfl rfl rfl rfl (by kernel_rfl) Try.func3 (by kernel_rfl)
    (of_decide_eq_true (by kernel_rfl)) (by unfold Func.isWrapper; first | (rw [if_pos (by decide +kernel)]; kernel_rfl) | (rw [if_neg (by decide +kernel)]; exact ⟨rfl, rfl⟩))
    (fun os started H enc _ F => by rw [OpenClaim.pre_eq_preRow]; exact lifted os started H enc F)

end Go.Proofs.Ythlknldicpeobaa.wireDecodes
namespace Go.Proofs.Ythlknldicpeobaa
set_option maxRecDepth 100000 in
theorem wireDecodes_holds : Rows.WireDecodesSaid := wireDecodes.said
#print axioms wireDecodes_holds
end Go.Proofs.Ythlknldicpeobaa
