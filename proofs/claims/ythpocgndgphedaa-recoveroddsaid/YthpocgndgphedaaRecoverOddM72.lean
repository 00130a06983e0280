/- tape.Crash: what it answers, for every argument. -/
import Derived.Test.YthpocgndgphedaaRecoverOddM66
import Derived.Test.YthpocgndgphedaaSx
import Derived.Test.YthpocgndgphedaaRecoverOddM60
import Derived.Deep.CutRange
import Derived.Deep.DeepCutAuto
import Derived.Test.YthpocgndgphedaaRecoverOddM48
import Derived.Test.YthpocgndgphedaaRecoverOddM30
import Derived.Test.YthpocgndgphedaaRecoverOddM36
namespace Go.Proofs.Ythpocgndgphedaa
open Go.RowKit

set_option maxRecDepth 100000 in
set_option maxHeartbeats 1000000 in
theorem sameSlotK_eq (au rd : Int) (bs : List Int) (sa sb : Option Addr) (n m c d : Nat) (w : World) (hn : n = bs.length) (hm : m = bs.length) (ha : SliceAt w sa c bs) (hb : SliceAt w sb d bs) :
    Calls Try.prog 27 #[.agg #[.int .i64 au, .int .i64 rd, .slice sa n c], .agg #[.int .i64 au, .int .i64 rd, .slice sb m d]] w fun e w' => e = .returned (.bool true) ∧ Below w.heap.size w w' := by
  have hA : Below w.heap.size w ((w.alloc (.cells #[.int .i64 au, .int .i64 rd, .slice sa n c] 42)).alloc (.cells #[.int .i64 au, .int .i64 rd, .slice sb m d] 42)) := ((Below.refl _ _).alloc (Nat.le_refl _) _).alloc (by simp) _
  have h := same_eq bs sa sb n m c d _ hn hm (ha.below hA) (hb.below hA)
  clear hn hm ha hb
  go_enter Try.func27, Try.ntmps27
  go_wp2_with fail
  refine h.mono ?_
  rintro e w1 ⟨rfl, rfl⟩
  dsimp only
  go_wp2_with fail
  go_ret
  exact ⟨rfl, hA⟩
end Go.Proofs.Ythpocgndgphedaa

namespace Go.Proofs.Ythpocgndgphedaa
open Go.RowKit

set_option maxRecDepth 100000 in
set_option maxHeartbeats 4000000 in
theorem sameMsgK_eq (fr tt ki bau bnu hau hrd sau srd cau crd ro : Int) (a1 a2 a3 a4 a5 a6 a7 b1 b2 b3 b4 b5 b6 b7 : Option Addr) (c1 c2 c3 c4 c5 c6 c7 d1 d2 d3 d4 d5 d6 d7 : Nat) (ss : List ByteArray) (yl zl xl ql bl pl cbl cpl : List Part) (ds vl : List Int) (w : World)
    (s1 : SameU yl bl) (s2 : SameU zl pl) (s3 : SameU xl cbl) (s4 : SameU ql cpl) (hl1 : ss.length ≤ 9000000000000000000) (hl7 : vl.length ≤ 9000000000000000000)
    (h1 : StrsAt w a1 ss) (h2 : ListAt w a2 c2 yl) (h3 : ListAt w a3 c3 zl) (h4 : SliceAt w a4 c4 ds) (h5 : ListAt w a5 c5 xl) (h6 : ListAt w a6 c6 ql) (h7 : IntsAt w a7 vl)
    (k1 : StrsAt w b1 ss) (k2 : ListAt w b2 d2 bl) (k3 : ListAt w b3 d3 pl) (k4 : SliceAt w b4 d4 ds) (k5 : ListAt w b5 d5 cbl) (k6 : ListAt w b6 d6 cpl) (k7 : IntsAt w b7 vl) :
    Calls Try.prog 19 #[.agg #[.int .i64 fr, .int .i64 tt, .int .i64 ki, .int .i64 bau, .int .i64 bnu, .slice a1 ss.length c1, .int .i64 hau, .int .i64 hrd, .slice a2 bl.length c2, .slice a3 pl.length c3, .int .i64 sau, .int .i64 srd, .slice a4 ds.length c4, .int .i64 cau, .int .i64 crd, .slice a5 cbl.length c5, .slice a6 cpl.length c6, .slice a7 vl.length c7, .int .i64 ro], .agg #[.int .i64 fr, .int .i64 tt, .int .i64 ki, .int .i64 bau, .int .i64 bnu, .slice b1 ss.length d1, .int .i64 hau, .int .i64 hrd, .slice b2 bl.length d2, .slice b3 pl.length d3, .int .i64 sau, .int .i64 srd, .slice b4 ds.length d4, .int .i64 cau, .int .i64 crd, .slice b5 cbl.length d5, .slice b6 cpl.length d6, .slice b7 vl.length d7, .int .i64 ro]] w fun e w' => e = .returned (.bool true) ∧ Below w.heap.size w w' := by
  have hA : Below w.heap.size w ((w.alloc (.cells #[.int .i64 fr, .int .i64 tt, .int .i64 ki, .int .i64 bau, .int .i64 bnu, .slice a1 ss.length c1, .int .i64 hau, .int .i64 hrd, .slice a2 bl.length c2, .slice a3 pl.length c3, .int .i64 sau, .int .i64 srd, .slice a4 ds.length c4, .int .i64 cau, .int .i64 crd, .slice a5 cbl.length c5, .slice a6 cpl.length c6, .slice a7 vl.length c7, .int .i64 ro] 47)).alloc (.cells #[.int .i64 fr, .int .i64 tt, .int .i64 ki, .int .i64 bau, .int .i64 bnu, .slice b1 ss.length d1, .int .i64 hau, .int .i64 hrd, .slice b2 bl.length d2, .slice b3 pl.length d3, .int .i64 sau, .int .i64 srd, .slice b4 ds.length d4, .int .i64 cau, .int .i64 crd, .slice b5 cbl.length d5, .slice b6 cpl.length d6, .slice b7 vl.length d7, .int .i64 ro] 47)) := ((Below.refl _ _).alloc (Nat.le_refl _) _).alloc (by simp) _
  have r0 := heap_alloc2_old w (.cells #[.int .i64 fr, .int .i64 tt, .int .i64 ki, .int .i64 bau, .int .i64 bnu, .slice a1 ss.length c1, .int .i64 hau, .int .i64 hrd, .slice a2 bl.length c2, .slice a3 pl.length c3, .int .i64 sau, .int .i64 srd, .slice a4 ds.length c4, .int .i64 cau, .int .i64 crd, .slice a5 cbl.length c5, .slice a6 cpl.length c6, .slice a7 vl.length c7, .int .i64 ro] 47) (.cells #[.int .i64 fr, .int .i64 tt, .int .i64 ki, .int .i64 bau, .int .i64 bnu, .slice b1 ss.length d1, .int .i64 hau, .int .i64 hrd, .slice b2 bl.length d2, .slice b3 pl.length d3, .int .i64 sau, .int .i64 srd, .slice b4 ds.length d4, .int .i64 cau, .int .i64 crd, .slice b5 cbl.length d5, .slice b6 cpl.length d6, .slice b7 vl.length d7, .int .i64 ro] 47)
  have r1 := heap_alloc2_new w (.cells #[.int .i64 fr, .int .i64 tt, .int .i64 ki, .int .i64 bau, .int .i64 bnu, .slice a1 ss.length c1, .int .i64 hau, .int .i64 hrd, .slice a2 bl.length c2, .slice a3 pl.length c3, .int .i64 sau, .int .i64 srd, .slice a4 ds.length c4, .int .i64 cau, .int .i64 crd, .slice a5 cbl.length c5, .slice a6 cpl.length c6, .slice a7 vl.length c7, .int .i64 ro] 47) (.cells #[.int .i64 fr, .int .i64 tt, .int .i64 ki, .int .i64 bau, .int .i64 bnu, .slice b1 ss.length d1, .int .i64 hau, .int .i64 hrd, .slice b2 bl.length d2, .slice b3 pl.length d3, .int .i64 sau, .int .i64 srd, .slice b4 ds.length d4, .int .i64 cau, .int .i64 crd, .slice b5 cbl.length d5, .slice b6 cpl.length d6, .slice b7 vl.length d7, .int .i64 ro] 47)
  have H1 : Hid (∀ W : World, Below w.heap.size w W → Calls Try.prog 25 #[.agg #[.int .i64 bau, .int .i64 bnu, .slice a1 ss.length c1], .agg #[.int .i64 bau, .int .i64 bnu, .slice b1 ss.length d1]] W fun e w' => e = .returned (.bool true) ∧ Below W.heap.size W w') := by
    show ∀ _, _
    intro W hW
    exact sameBatchK_eq bau bnu ss a1 b1 _ _ c1 d1 W rfl rfl (by unfold maxLen; omega) (h1.below hW) (k1.below hW)
  have H2 : Hid (∀ W : World, Below w.heap.size w W → Calls Try.prog 26 #[.agg #[.int .i64 hau, .int .i64 hrd, .slice a2 bl.length c2, .slice a3 pl.length c3], .agg #[.int .i64 hau, .int .i64 hrd, .slice b2 bl.length d2, .slice b3 pl.length d3]] W fun e w' => e = .returned (.bool true) ∧ Below W.heap.size W w') := by
    show ∀ _, _
    intro W hW
    exact sameHeaderK_eq hau hrd a2 c2 yl a3 c3 zl b2 d2 bl b3 d3 pl W s1 s2 (h2.below hW) (h3.below hW) (k2.below hW) (k3.below hW)
  have H3 : Hid (∀ W : World, Below w.heap.size w W → Calls Try.prog 27 #[.agg #[.int .i64 sau, .int .i64 srd, .slice a4 ds.length c4], .agg #[.int .i64 sau, .int .i64 srd, .slice b4 ds.length d4]] W fun e w' => e = .returned (.bool true) ∧ Below W.heap.size W w') := by
    show ∀ _, _
    intro W hW
    exact sameSlotK_eq sau srd ds a4 b4 _ _ c4 d4 W rfl rfl (h4.below hW) (k4.below hW)
  have H4 : Hid (∀ W : World, Below w.heap.size w W → Calls Try.prog 28 #[.agg #[.int .i64 cau, .int .i64 crd, .slice a5 cbl.length c5, .slice a6 cpl.length c6, .slice a7 vl.length c7], .agg #[.int .i64 cau, .int .i64 crd, .slice b5 cbl.length d5, .slice b6 cpl.length d6, .slice b7 vl.length d7]] W fun e w' => e = .returned (.bool true) ∧ Below W.heap.size W w') := by
    show ∀ _, _
    intro W hW
    have := sameCertK_eq cau crd a5 c5 xl a6 c6 ql a7 c7 vl b5 d5 cbl b6 d6 cpl b7 d7 W s3 s4 hl7 (h5.below hW) (h6.below hW) (h7.below hW) (k5.below hW) (k6.below hW) (k7.below hW)
    rw [s3.length, s4.length] at this
    exact this
  clear s1 s2 s3 s4 hl1 hl7 h1 h2 h3 h4 h5 h6 h7 k1 k2 k3 k4 k5 k6 k7
  generalize ss.length = n1 at *
  generalize bl.length = n2 at *
  generalize pl.length = n3 at *
  generalize ds.length = n4 at *
  generalize cbl.length = n5 at *
  generalize cpl.length = n6 at *
  generalize vl.length = n7 at *
  go_enter Try.func19, Try.ntmps19
  go_upto_region 1 with fail
  generalize (w.alloc (.cells #[.int .i64 fr, .int .i64 tt, .int .i64 ki, .int .i64 bau, .int .i64 bnu, .slice a1 n1 c1, .int .i64 hau, .int .i64 hrd, .slice a2 n2 c2, .slice a3 n3 c3, .int .i64 sau, .int .i64 srd, .slice a4 n4 c4, .int .i64 cau, .int .i64 crd, .slice a5 n5 c5, .slice a6 n6 c6, .slice a7 n7 c7, .int .i64 ro] 47)).alloc (.cells #[.int .i64 fr, .int .i64 tt, .int .i64 ki, .int .i64 bau, .int .i64 bnu, .slice b1 n1 d1, .int .i64 hau, .int .i64 hrd, .slice b2 n2 d2, .slice b3 n3 d3, .int .i64 sau, .int .i64 srd, .slice b4 n4 d4, .int .i64 cau, .int .i64 crd, .slice b5 n5 d5, .slice b6 n6 d6, .slice b7 n7 d7, .int .i64 ro] 47) = W0 at hA r0 r1 ⊢
  have xp0 : W0.cell? ⟨w.heap.size, 0, none⟩ = some (.int .i64 fr) := cells_at r0 0 _ rfl
  have xp1 : W0.cell? ⟨w.heap.size, 1, none⟩ = some (.int .i64 tt) := cells_at r0 1 _ rfl
  have xp2 : W0.cell? ⟨w.heap.size, 2, none⟩ = some (.int .i64 ki) := cells_at r0 2 _ rfl
  have xp18 : W0.cell? ⟨w.heap.size, 18, none⟩ = some (.int .i64 ro) := cells_at r0 18 _ rfl
  have xp3 : W0.cell? ⟨w.heap.size, 3, none⟩ = some (.int .i64 bau) := cells_at r0 3 _ rfl
  have xp4 : W0.cell? ⟨w.heap.size, 4, none⟩ = some (.int .i64 bnu) := cells_at r0 4 _ rfl
  have xp5 : W0.cell? ⟨w.heap.size, 5, none⟩ = some (.slice a1 n1 c1) := cells_at r0 5 _ rfl
  have yp0 : W0.cell? ⟨w.heap.size + 1, 0, none⟩ = some (.int .i64 fr) := cells_at r1 0 _ rfl
  have yp1 : W0.cell? ⟨w.heap.size + 1, 1, none⟩ = some (.int .i64 tt) := cells_at r1 1 _ rfl
  have yp2 : W0.cell? ⟨w.heap.size + 1, 2, none⟩ = some (.int .i64 ki) := cells_at r1 2 _ rfl
  have yp18 : W0.cell? ⟨w.heap.size + 1, 18, none⟩ = some (.int .i64 ro) := cells_at r1 18 _ rfl
  have yp3 : W0.cell? ⟨w.heap.size + 1, 3, none⟩ = some (.int .i64 bau) := cells_at r1 3 _ rfl
  have yp4 : W0.cell? ⟨w.heap.size + 1, 4, none⟩ = some (.int .i64 bnu) := cells_at r1 4 _ rfl
  have yp5 : W0.cell? ⟨w.heap.size + 1, 5, none⟩ = some (.slice b1 n1 d1) := cells_at r1 5 _ rfl
  go_wp2_with fail
  refine (H1.out W0 hA).mono ?_
  rintro e w1 ⟨he, hb1⟩
  subst he
  dsimp only
  have hB1 := hA.trans (hb1.mono hA.size)
  have p0 := (hb1.block _ (lt_of_heap r0)).trans r0
  have p1 := (hb1.block _ (lt_of_heap r1)).trans r1
  clear r0 r1 xp0 xp1 xp2 xp18 xp3 xp4 xp5 yp0 yp1 yp2 yp18 yp3 yp4 yp5
  have xq26 : w1.cell? ⟨w.heap.size, 6, none⟩ = some (.int .i64 hau) := cells_at p0 6 _ rfl
  have xq27 : w1.cell? ⟨w.heap.size, 7, none⟩ = some (.int .i64 hrd) := cells_at p0 7 _ rfl
  have xq28 : w1.cell? ⟨w.heap.size, 8, none⟩ = some (.slice a2 n2 c2) := cells_at p0 8 _ rfl
  have xq29 : w1.cell? ⟨w.heap.size, 9, none⟩ = some (.slice a3 n3 c3) := cells_at p0 9 _ rfl
  have yq26 : w1.cell? ⟨w.heap.size + 1, 6, none⟩ = some (.int .i64 hau) := cells_at p1 6 _ rfl
  have yq27 : w1.cell? ⟨w.heap.size + 1, 7, none⟩ = some (.int .i64 hrd) := cells_at p1 7 _ rfl
  have yq28 : w1.cell? ⟨w.heap.size + 1, 8, none⟩ = some (.slice b2 n2 d2) := cells_at p1 8 _ rfl
  have yq29 : w1.cell? ⟨w.heap.size + 1, 9, none⟩ = some (.slice b3 n3 d3) := cells_at p1 9 _ rfl
  go_wp2_with fail
  refine (H2.out w1 hB1).mono ?_
  rintro e w2 ⟨he, hb2⟩
  subst he
  dsimp only
  have hB2 := hB1.trans (hb2.mono hB1.size)
  have p20 := (hb2.block _ (lt_of_heap p0)).trans p0
  have p21 := (hb2.block _ (lt_of_heap p1)).trans p1
  clear p0 p1 xq26 xq27 xq28 xq29 yq26 yq27 yq28 yq29
  have xq310 : w2.cell? ⟨w.heap.size, 10, none⟩ = some (.int .i64 sau) := cells_at p20 10 _ rfl
  have xq311 : w2.cell? ⟨w.heap.size, 11, none⟩ = some (.int .i64 srd) := cells_at p20 11 _ rfl
  have xq312 : w2.cell? ⟨w.heap.size, 12, none⟩ = some (.slice a4 n4 c4) := cells_at p20 12 _ rfl
  have yq310 : w2.cell? ⟨w.heap.size + 1, 10, none⟩ = some (.int .i64 sau) := cells_at p21 10 _ rfl
  have yq311 : w2.cell? ⟨w.heap.size + 1, 11, none⟩ = some (.int .i64 srd) := cells_at p21 11 _ rfl
  have yq312 : w2.cell? ⟨w.heap.size + 1, 12, none⟩ = some (.slice b4 n4 d4) := cells_at p21 12 _ rfl
  go_wp2_with fail
  refine (H3.out w2 hB2).mono ?_
  rintro e w3 ⟨he, hb3⟩
  subst he
  dsimp only
  have hB3 := hB2.trans (hb3.mono hB2.size)
  have p30 := (hb3.block _ (lt_of_heap p20)).trans p20
  have p31 := (hb3.block _ (lt_of_heap p21)).trans p21
  clear p20 p21 xq310 xq311 xq312 yq310 yq311 yq312
  have xq413 : w3.cell? ⟨w.heap.size, 13, none⟩ = some (.int .i64 cau) := cells_at p30 13 _ rfl
  have xq414 : w3.cell? ⟨w.heap.size, 14, none⟩ = some (.int .i64 crd) := cells_at p30 14 _ rfl
  have xq415 : w3.cell? ⟨w.heap.size, 15, none⟩ = some (.slice a5 n5 c5) := cells_at p30 15 _ rfl
  have xq416 : w3.cell? ⟨w.heap.size, 16, none⟩ = some (.slice a6 n6 c6) := cells_at p30 16 _ rfl
  have xq417 : w3.cell? ⟨w.heap.size, 17, none⟩ = some (.slice a7 n7 c7) := cells_at p30 17 _ rfl
  have yq413 : w3.cell? ⟨w.heap.size + 1, 13, none⟩ = some (.int .i64 cau) := cells_at p31 13 _ rfl
  have yq414 : w3.cell? ⟨w.heap.size + 1, 14, none⟩ = some (.int .i64 crd) := cells_at p31 14 _ rfl
  have yq415 : w3.cell? ⟨w.heap.size + 1, 15, none⟩ = some (.slice b5 n5 d5) := cells_at p31 15 _ rfl
  have yq416 : w3.cell? ⟨w.heap.size + 1, 16, none⟩ = some (.slice b6 n6 d6) := cells_at p31 16 _ rfl
  have yq417 : w3.cell? ⟨w.heap.size + 1, 17, none⟩ = some (.slice b7 n7 d7) := cells_at p31 17 _ rfl
  go_wp2_with fail
  refine (H4.out w3 hB3).mono ?_
  rintro e w4 ⟨he, hb4⟩
  subst he
  dsimp only
  have hB4 := hB3.trans (hb4.mono hB3.size)
  go_wp2_with fail
  go_ret
  exact ⟨rfl, hB4⟩
end Go.Proofs.Ythpocgndgphedaa

namespace Go.Proofs.Ythpocgndgphedaa
open Go.RowKit

/-- A message that may be, as it lies there. -/
structure GoodM (w : World) (x : MV) : Prop where
  lies : MAt w x
  ok : checkF x.m x.car = 0
  u8 : U8M x.bl x.pl x.cbl x.cpl x.ds
set_option maxRecDepth 100000 in
theorem GoodM.below {w w' : World} {x : MV} (h : GoodM w x) (hb : Below w.heap.size w w') : GoodM w' x := ⟨h.lies.below hb, h.ok, h.u8⟩
set_option maxRecDepth 100000 in
theorem GoodM.bytes {w : World} {x : MV} (h : GoodM w x) : U8s x.bytes := u8_msg h.ok h.u8
set_option maxRecDepth 100000 in
theorem checkF_zeroU {m : Msg} {e : Int} (h1 : 0 ≤ m.fr ∧ m.fr < 4) (h2 : 0 ≤ m.tt ∧ m.tt < 4) (he : e = 0) (h3 : msgEmpty (strip m) = true) : checkF m e = 0 := by
  rw [checkF, if_neg (by omega), if_neg (by simp [he]), if_pos h3]
set_option maxRecDepth 100000 in
theorem raw_msgU (ki ra rb rc : Int) (sa : Option Addr) (cap : Nat) (ss : List ByteArray) (w : World) (h1 : I64 ki) (h2 : I64 ra) (h3 : I64 rb) (h4 : I64 rc) (h5 : TextsAt w sa cap ss) :
    Calls Try.prog 24 #[.agg #[.int .i64 ki, .int .i64 ra, .int .i64 rb, .int .i64 rc, .slice sa ss.length cap]] w fun e w' => ∃ x : MV, e = .returned (.agg #[.int .i64 x.m.fr, .int .i64 x.m.tt, .int .i64 x.m.ki, .int .i64 x.m.bau, .int .i64 x.m.bnu, .slice x.m.bta x.m.btn x.m.btc, .int .i64 x.m.hau, .int .i64 x.m.hrd, .slice x.m.hba x.m.hbn x.m.hbc, .slice x.m.hpa x.m.hpn x.m.hpc, .int .i64 x.m.sau, .int .i64 x.m.srd, .slice x.m.sda x.m.sdn x.m.sdc, .int .i64 x.m.cau, .int .i64 x.m.crd, .slice x.m.cba x.m.cbn x.m.cbc, .slice x.m.cpa x.m.cpn x.m.cpc, .slice x.m.cva x.m.cvn x.m.cvc, .int .i64 x.m.ro]) ∧ GoodM w' x ∧ NewM w.heap.size x.m x.bl x.pl x.cbl x.cpl ∧ Below w.heap.size w w' := by
  obtain ⟨pf0, pf1⟩ := pk_bounds rc 4 (by decide)
  obtain ⟨pt0, pt1⟩ := pk_bounds rb 4 (by decide)
  refine (message_rawU ki ra rb rc sa cap ss w h1 h2 h3 h4 h5).mono ?_
  rintro e w' ⟨m, s, bl, pl, cbl, cpl, vl, he, H, hfr, htt, hcar, hemp, hb, -, -, -, -, -, -, ds, hd, hdn, hN, hU⟩
  have hC : checkF m (carriedF m s bl pl cbl cpl vl) = 0 := checkF_zeroU (by omega) (by omega) hcar hemp
  exact ⟨⟨m, s, bl, pl, cbl, cpl, ds, vl⟩, he, ⟨⟨H, hd, hdn⟩, hC, hU⟩, hN, hb⟩
set_option maxRecDepth 100000 in
theorem encode_mvU {x : MV} {w : World} (hM : MAt w x) (hC : checkF x.m x.car = 0) :
    Calls Try.prog 31 #[.agg #[.int .i64 x.m.fr, .int .i64 x.m.tt, .int .i64 x.m.ki, .int .i64 x.m.bau, .int .i64 x.m.bnu, .slice x.m.bta x.m.btn x.m.btc, .int .i64 x.m.hau, .int .i64 x.m.hrd, .slice x.m.hba x.m.hbn x.m.hbc, .slice x.m.hpa x.m.hpn x.m.hpc, .int .i64 x.m.sau, .int .i64 x.m.srd, .slice x.m.sda x.m.sdn x.m.sdc, .int .i64 x.m.cau, .int .i64 x.m.crd, .slice x.m.cba x.m.cbn x.m.cbc, .slice x.m.cpa x.m.cpn x.m.cpc, .slice x.m.cva x.m.cvn x.m.cvc, .int .i64 x.m.ro]] w fun e w' => ∃ a c, e = .returned (.tuple #[.slice a x.bytes.length c, .int .i64 0]) ∧ SliceAt w' a c x.bytes ∧ Below w.heap.size w w' := by
  have h := encode_any x.m x.ss x.bl x.pl x.cbl x.cpl x.ds x.vl w hM.at' hM.dig hM.dn
  have hC' : checkF x.m (carriedF x.m x.ss x.bl x.pl x.cbl x.cpl x.vl) = 0 := hC
  rw [hC'] at h
  refine h.mono ?_
  rintro e w' ⟨v, he, ho, hb⟩
  have ho' : w'.ownsRow w.heap.size 5 1 v x.bytes.length (ub x.bytes) := ho
  obtain ⟨a, c, hv, -, hs⟩ := owns_form ho'
  subst hv
  exact ⟨a, c, he, hs, hb⟩
set_option maxRecDepth 100000 in
theorem check_mvU {x : MV} {w : World} (hM : MAt w x) (hC : checkF x.m x.car = 0) :
    Calls Try.prog 40 #[.agg #[.int .i64 x.m.fr, .int .i64 x.m.tt, .int .i64 x.m.ki, .int .i64 x.m.bau, .int .i64 x.m.bnu, .slice x.m.bta x.m.btn x.m.btc, .int .i64 x.m.hau, .int .i64 x.m.hrd, .slice x.m.hba x.m.hbn x.m.hbc, .slice x.m.hpa x.m.hpn x.m.hpc, .int .i64 x.m.sau, .int .i64 x.m.srd, .slice x.m.sda x.m.sdn x.m.sdc, .int .i64 x.m.cau, .int .i64 x.m.crd, .slice x.m.cba x.m.cbn x.m.cbc, .slice x.m.cpa x.m.cpn x.m.cpc, .slice x.m.cva x.m.cvn x.m.cvc, .int .i64 x.m.ro]] w fun e w' => e = .returned (.int .i64 0) ∧ Below w.heap.size w w' := by
  have h := check_any x.m x.ss x.bl x.pl x.cbl x.cpl x.vl w hM.at'
  have hC' : checkF x.m (carriedF x.m x.ss x.bl x.pl x.cbl x.cpl x.vl) = 0 := hC
  rw [hC'] at h
  exact h
set_option maxRecDepth 100000 in
theorem msg_small {w : World} {x : MV} (hM : MAt w x) (hC : checkF x.m x.car = 0) : x.bl.length ≤ 1000 ∧ x.pl.length ≤ 1000 ∧ x.cbl.length ≤ 1000 ∧ x.cpl.length ≤ 1000 := by
  obtain ⟨_, _, hc, he⟩ := checkF_ok hC
  have hc' : carriedF x.m x.ss x.bl x.pl x.cbl x.cpl x.vl = 0 := hc
  have n2 := hM.at'.e2
  have n3 := hM.at'.e3
  have n4 := hM.at'.e4
  have n5 := hM.at'.e5
  rcases carriedF_kind hc' with k | k | k | k | k
  · simp [strip, msgEmpty, k] at he; omega
  · rw [carried2 k] at hc'
    obtain ⟨_, _, g3, g4, _, _⟩ := headerF_ok hc'
    simp [strip, msgEmpty, k] at he; omega
  · simp [strip, msgEmpty, k] at he; omega
  · rw [carried4 k] at hc'
    obtain ⟨hh, _, _, _⟩ := certF_ok hc'
    obtain ⟨_, _, g3, g4, _, _⟩ := headerF_ok hh
    simp [strip, msgEmpty, k] at he; omega
  · simp [strip, msgEmpty, k] at he; omega
set_option maxRecDepth 100000 in
theorem sameU_of {ps qs : List Part} (h : qs.map (·.bs) = ps.map (·.bs)) (hu : ∀ p ∈ ps, ∀ x ∈ p.bs, 0 ≤ x ∧ x ≤ 255) (hl : ps.length ≤ 1000) : SameU ps qs := by
  have h1 : SameU qs ps := ⟨h, hu, hl⟩
  exact ⟨h.symm, h1.u8', by rw [h1.length]; exact hl⟩
set_option maxRecDepth 100000 in
/-- Messages that say the same are the same. -/
theorem keep_same {w : World} {x y : MV} (hx : GoodM w x) (hy : MAt w y) (h : y.c = x.c) :
    Calls Try.prog 19 #[.agg #[.int .i64 x.m.fr, .int .i64 x.m.tt, .int .i64 x.m.ki, .int .i64 x.m.bau, .int .i64 x.m.bnu, .slice x.m.bta x.m.btn x.m.btc, .int .i64 x.m.hau, .int .i64 x.m.hrd, .slice x.m.hba x.m.hbn x.m.hbc, .slice x.m.hpa x.m.hpn x.m.hpc, .int .i64 x.m.sau, .int .i64 x.m.srd, .slice x.m.sda x.m.sdn x.m.sdc, .int .i64 x.m.cau, .int .i64 x.m.crd, .slice x.m.cba x.m.cbn x.m.cbc, .slice x.m.cpa x.m.cpn x.m.cpc, .slice x.m.cva x.m.cvn x.m.cvc, .int .i64 x.m.ro], .agg #[.int .i64 y.m.fr, .int .i64 y.m.tt, .int .i64 y.m.ki, .int .i64 y.m.bau, .int .i64 y.m.bnu, .slice y.m.bta y.m.btn y.m.btc, .int .i64 y.m.hau, .int .i64 y.m.hrd, .slice y.m.hba y.m.hbn y.m.hbc, .slice y.m.hpa y.m.hpn y.m.hpc, .int .i64 y.m.sau, .int .i64 y.m.srd, .slice y.m.sda y.m.sdn y.m.sdc, .int .i64 y.m.cau, .int .i64 y.m.crd, .slice y.m.cba y.m.cbn y.m.cbc, .slice y.m.cpa y.m.cpn y.m.cpc, .slice y.m.cva y.m.cvn y.m.cvc, .int .i64 y.m.ro]] w fun e w' => e = .returned (.bool true) ∧ Below w.heap.size w w' := by
  obtain ⟨l1, l2, l3, l4⟩ := msg_small hx.lies hx.ok
  simp only [MV.c, MC.mk.injEq] at h
  obtain ⟨e1, e2, e3, e4, e5, e6, e7, e8, e9, e10, e11, e12, e13, e14, e15, e16, e17, e18, e19⟩ := h
  have s1 : SameU x.bl y.bl := sameU_of e9 hx.u8.hb l1
  have s2 : SameU x.pl y.pl := sameU_of e10 hx.u8.hp l2
  have s3 : SameU x.cbl y.cbl := sameU_of e16 hx.u8.cb l3
  have s4 : SameU x.cpl y.cpl := sameU_of e17 hx.u8.cp l4
  have t1 : StrsAt w y.m.bta x.ss := by rw [← e6]; exact hy.at'.txs
  have t4 : SliceAt w y.m.sda y.m.sdc x.ds := by rw [← e13]; exact hy.dig
  have t7 : IntsAt w y.m.cva x.vl := by rw [← e18]; exact hy.at'.vot
  have H := hx.lies.at'
  have K := hy.at'
  have n1 : y.m.btn = x.ss.length := by rw [K.e1, e6]
  have n4 : y.m.sdn = x.ds.length := by rw [hy.dn, e13]
  have n7 : y.m.cvn = x.vl.length := by rw [K.e6, e18]
  have m2 : x.m.hbn = y.bl.length := by rw [H.e2, s1.length]
  have m3 : x.m.hpn = y.pl.length := by rw [H.e3, s2.length]
  have m5 : x.m.cbn = y.cbl.length := by rw [H.e4, s3.length]
  have m6 : x.m.cpn = y.cpl.length := by rw [H.e5, s4.length]
  rw [e1, e2, e3, e4, e5, e7, e8, e11, e12, e14, e15, e19, n1, n4, n7, K.e2, K.e3, K.e4, K.e5, H.e1, hx.lies.dn, H.e6, m2, m3, m5, m6]
  exact sameMsgK_eq x.m.fr x.m.tt x.m.ki x.m.bau x.m.bnu x.m.hau x.m.hrd x.m.sau x.m.srd x.m.cau x.m.crd x.m.ro x.m.bta x.m.hba x.m.hpa x.m.sda x.m.cba x.m.cpa x.m.cva y.m.bta y.m.hba y.m.hpa y.m.sda y.m.cba y.m.cpa y.m.cva x.m.btc x.m.hbc x.m.hpc x.m.sdc x.m.cbc x.m.cpc x.m.cvc y.m.btc y.m.hbc y.m.hpc y.m.sdc y.m.cbc y.m.cpc y.m.cvc x.ss x.bl x.pl x.cbl x.cpl y.bl y.pl y.cbl y.cpl x.ds x.vl w s1 s2 s3 s4 H.s1 H.s6 H.txs H.bat H.par hx.lies.dig H.cbat H.cpar H.vot t1 K.bat K.par t4 K.cbat K.cpar t7
end Go.Proofs.Ythpocgndgphedaa

namespace Go.Proofs.Ythpocgndgphedaa
open Go.RowKit

set_option maxRecDepth 100000 in
set_option maxHeartbeats 2000000 in
theorem begins_eq (ys ms : List MV) (sa sc : Option Addr) (n m ca cc : Nat) (w : World) (hn : n = ys.length) (hm : m = ms.length) (hle : ys.length ≤ ms.length) (hl : ms.length ≤ 1000000) (ra : MsRow w sa ys) (rb : MsRow w sc ms)
    (hG : ∀ (i : Nat) (h1 : i < ys.length) (h2 : i < ms.length), GoodM w (ys[i]) ∧ MAt w (ms[i]) ∧ (ms[i]).c = (ys[i]).c) :
    Calls Try.prog 16 #[.slice sa n ca, .slice sc m cc] w fun e w' => e = .returned (.bool true) ∧ Below w.heap.size w w' := by
  subst hn hm
  have HG : Hid (∀ W : World, Below w.heap.size w W → MsRow W sa ys ∧ MsRow W sc ms ∧ ∀ (i : Nat) (h1 : i < ys.length) (h2 : i < ms.length), GoodM W (ys[i]) ∧ MAt W (ms[i]) ∧ (ms[i]).c = (ys[i]).c) := by
    show ∀ _, _
    intro W hW
    exact ⟨ra.below hW, rb.below hW, fun i h1 h2 => ⟨(hG i h1 h2).1.below hW, (hG i h1 h2).2.1.below hW, (hG i h1 h2).2.2⟩⟩
  clear ra rb hG
  have hleI : ¬ (ys.length : Int) > ms.length := by omega
  have hleJ : ¬ (ms.length : Int) < ys.length := by omega
  go_enter Try.func16, Try.ntmps16
  go_wp2_with fail
  go_loopw [5] (fun j wr => ∃ k : Nat, k ≤ ys.length ∧ j = .int .i64 k ∧ Below w.heap.size w wr) (fun j _ => ys.length - (intOf j).toNat)
  case atStart => exact ⟨0, Nat.zero_le _, rfl, Below.refl _ _⟩
  case round =>
    obtain ⟨k, hk, rfl, hb⟩ := hrel
    by_cases hlt : k < ys.length
    · have hltI : (k : Int) < ys.length := by omega
      have hmI : (k : Int) < ms.length := by omega
      have hml : k < ms.length := by omega
      obtain ⟨rA, rB, hg⟩ := HG.out wr.drew hb.drew
      obtain ⟨sb, so, rfl, hrow⟩ : ∃ sb so, sa = some ⟨sb, so, none⟩ ∧ ∀ (k : Nat) (hk : k < ys.length), wr.drew.rangeAt sb (so + k * 19) (mcell (ys[k]).m) := by
        rcases rA with h | h
        · rw [h] at hlt; simp at hlt
        · exact h
      obtain ⟨tb, tq, rfl, hrow2⟩ : ∃ sb so, sc = some ⟨sb, so, none⟩ ∧ ∀ (k : Nat) (hk : k < ms.length), wr.drew.rangeAt sb (so + k * 19) (mcell (ms[k]).m) := by
        rcases rB with h | h
        · rw [h] at hml; simp at hml
        · exact h
      have hrg := hrow k hlt
      have hrh := hrow2 k hml
      obtain ⟨g1, g2, g3⟩ := hg k hlt hml
      have hS : Hid (Calls Try.prog 19 #[.agg #[.int .i64 (ys[k]).m.fr, .int .i64 (ys[k]).m.tt, .int .i64 (ys[k]).m.ki, .int .i64 (ys[k]).m.bau, .int .i64 (ys[k]).m.bnu, .slice (ys[k]).m.bta (ys[k]).m.btn (ys[k]).m.btc, .int .i64 (ys[k]).m.hau, .int .i64 (ys[k]).m.hrd, .slice (ys[k]).m.hba (ys[k]).m.hbn (ys[k]).m.hbc, .slice (ys[k]).m.hpa (ys[k]).m.hpn (ys[k]).m.hpc, .int .i64 (ys[k]).m.sau, .int .i64 (ys[k]).m.srd, .slice (ys[k]).m.sda (ys[k]).m.sdn (ys[k]).m.sdc, .int .i64 (ys[k]).m.cau, .int .i64 (ys[k]).m.crd, .slice (ys[k]).m.cba (ys[k]).m.cbn (ys[k]).m.cbc, .slice (ys[k]).m.cpa (ys[k]).m.cpn (ys[k]).m.cpc, .slice (ys[k]).m.cva (ys[k]).m.cvn (ys[k]).m.cvc, .int .i64 (ys[k]).m.ro], .agg #[.int .i64 (ms[k]).m.fr, .int .i64 (ms[k]).m.tt, .int .i64 (ms[k]).m.ki, .int .i64 (ms[k]).m.bau, .int .i64 (ms[k]).m.bnu, .slice (ms[k]).m.bta (ms[k]).m.btn (ms[k]).m.btc, .int .i64 (ms[k]).m.hau, .int .i64 (ms[k]).m.hrd, .slice (ms[k]).m.hba (ms[k]).m.hbn (ms[k]).m.hbc, .slice (ms[k]).m.hpa (ms[k]).m.hpn (ms[k]).m.hpc, .int .i64 (ms[k]).m.sau, .int .i64 (ms[k]).m.srd, .slice (ms[k]).m.sda (ms[k]).m.sdn (ms[k]).m.sdc, .int .i64 (ms[k]).m.cau, .int .i64 (ms[k]).m.crd, .slice (ms[k]).m.cba (ms[k]).m.cbn (ms[k]).m.cbc, .slice (ms[k]).m.cpa (ms[k]).m.cpn (ms[k]).m.cpc, .slice (ms[k]).m.cva (ms[k]).m.cvn (ms[k]).m.cvc, .int .i64 (ms[k]).m.ro]] wr.drew fun e w' => e = .returned (.bool true) ∧ Below wr.drew.heap.size wr.drew w') := keep_same g1 g2 g3
      clear g1 g2 g3 hg rA rB hrow hrow2
      generalize ys[k] = x at *
      generalize ms[k] = y at *
      go_upto_region 6 with fail
      refine wp_region_held_drew (S := fun w' => w'.rangeAt sb (so + k * 19) (mcell x.m) ∧ w'.rangeAt tb (tq + k * 19) (mcell y.m)) (by kernel_rfl) ⟨hrg, hrh⟩ (fun hHeld => ?_)
      have hbd := hb.drew
      generalize wr.drew = V at hS hrg hrh hHeld hbd ⊢
      refine take_dst (i := 0) (d := 17) (v := .slice (some ⟨sb, so, none⟩) ys.length ca) rfl rfl (by kernel_rfl) (by kernel_rfl) (by kernel_rfl) (fun _ _ _ h => h) (Or.inl ⟨by rfl, ?_⟩) hHeld ?_
      · (intro w0 hSw; (try dsimp only at hSw); go_simp)
      simp only [Act.put, List.setIfInBounds_toArray, List.set_cons_zero, List.set_cons_succ]
      refine take_dst (i := 1) (d := 18) (v := .int .i64 (k : Int)) rfl rfl (by kernel_rfl) (by kernel_rfl) (by kernel_rfl) (fun _ _ _ h => h) (Or.inl ⟨by rfl, ?_⟩) hHeld ?_
      · (intro w0 hSw; (try dsimp only at hSw); go_simp)
      simp only [Act.put, List.setIfInBounds_toArray, List.set_cons_zero, List.set_cons_succ]
      refine take_dst (i := 2) (d := 19) (v := .pointer (some ⟨sb, so + k * 19, none⟩)) rfl rfl (by kernel_rfl) (by kernel_rfl) (by kernel_rfl) (fun _ _ _ h => h) (Or.inl ⟨by rfl, ?_⟩) hHeld ?_
      · (intro w0 hSw; (try dsimp only at hSw); go_simp)
      simp only [Act.put, List.setIfInBounds_toArray, List.set_cons_zero, List.set_cons_succ]
      refine take_dst (i := 3) (d := 20) (v := .agg #[.int .i64 x.m.fr, .int .i64 x.m.tt, .int .i64 x.m.ki, .int .i64 x.m.bau, .int .i64 x.m.bnu, .slice x.m.bta x.m.btn x.m.btc, .int .i64 x.m.hau, .int .i64 x.m.hrd, .slice x.m.hba x.m.hbn x.m.hbc, .slice x.m.hpa x.m.hpn x.m.hpc, .int .i64 x.m.sau, .int .i64 x.m.srd, .slice x.m.sda x.m.sdn x.m.sdc, .int .i64 x.m.cau, .int .i64 x.m.crd, .slice x.m.cba x.m.cbn x.m.cbc, .slice x.m.cpa x.m.cpn x.m.cpc, .slice x.m.cva x.m.cvn x.m.cvc, .int .i64 x.m.ro]) rfl rfl (by kernel_rfl) (by kernel_rfl) (by kernel_rfl) (fun _ _ _ h => h) (yieldsIf_load_mid rfl 47 _ rfl sb (so + k * 19) rfl (mcell x.m) _ (fun w0 h => h.1) Try.underlying47 rfl sMsg') hHeld ?_
      simp only [Act.put, List.setIfInBounds_toArray, List.set_cons_zero, List.set_cons_succ]
      refine take_dst (i := 4) (d := 21) (v := .slice (some ⟨tb, tq, none⟩) ms.length cc) rfl rfl (by kernel_rfl) (by kernel_rfl) (by kernel_rfl) (fun _ _ _ h => h) (Or.inl ⟨by rfl, ?_⟩) hHeld ?_
      · (intro w0 hSw; (try dsimp only at hSw); go_simp)
      simp only [Act.put, List.setIfInBounds_toArray, List.set_cons_zero, List.set_cons_succ]
      refine take_dst (i := 5) (d := 22) (v := .int .i64 (k : Int)) rfl rfl (by kernel_rfl) (by kernel_rfl) (by kernel_rfl) (fun _ _ _ h => h) (Or.inl ⟨by rfl, ?_⟩) hHeld ?_
      · (intro w0 hSw; (try dsimp only at hSw); go_simp)
      simp only [Act.put, List.setIfInBounds_toArray, List.set_cons_zero, List.set_cons_succ]
      refine take_dst (i := 6) (d := 23) (v := .pointer (some ⟨tb, tq + k * 19, none⟩)) rfl rfl (by kernel_rfl) (by kernel_rfl) (by kernel_rfl) (fun _ _ _ h => h) (Or.inl ⟨by rfl, ?_⟩) hHeld ?_
      · (intro w0 hSw; (try dsimp only at hSw); go_simp)
      simp only [Act.put, List.setIfInBounds_toArray, List.set_cons_zero, List.set_cons_succ]
      refine take_dst (i := 7) (d := 24) (v := .agg #[.int .i64 y.m.fr, .int .i64 y.m.tt, .int .i64 y.m.ki, .int .i64 y.m.bau, .int .i64 y.m.bnu, .slice y.m.bta y.m.btn y.m.btc, .int .i64 y.m.hau, .int .i64 y.m.hrd, .slice y.m.hba y.m.hbn y.m.hbc, .slice y.m.hpa y.m.hpn y.m.hpc, .int .i64 y.m.sau, .int .i64 y.m.srd, .slice y.m.sda y.m.sdn y.m.sdc, .int .i64 y.m.cau, .int .i64 y.m.crd, .slice y.m.cba y.m.cbn y.m.cbc, .slice y.m.cpa y.m.cpn y.m.cpc, .slice y.m.cva y.m.cvn y.m.cvc, .int .i64 y.m.ro]) rfl rfl (by kernel_rfl) (by kernel_rfl) (by kernel_rfl) (fun _ _ _ h => h) (yieldsIf_load_mid rfl 47 _ rfl tb (tq + k * 19) rfl (mcell y.m) _ (fun w0 h => h.2) Try.underlying47 rfl sMsg') hHeld ?_
      simp only [Act.put, List.setIfInBounds_toArray, List.set_cons_zero, List.set_cons_succ]
      refine wpAnyH_ready (rs := [8]) (by kernel_rfl) (by simp) (AllReadyH.cons rfl (fun K hK => ?_) AllReadyH.nil)
      refine step_calls_dst rfl 25 rfl 19 [.tmp 20, .tmp 24] #[47, 47] rfl [.agg #[.int .i64 x.m.fr, .int .i64 x.m.tt, .int .i64 x.m.ki, .int .i64 x.m.bau, .int .i64 x.m.bnu, .slice x.m.bta x.m.btn x.m.btc, .int .i64 x.m.hau, .int .i64 x.m.hrd, .slice x.m.hba x.m.hbn x.m.hbc, .slice x.m.hpa x.m.hpn x.m.hpc, .int .i64 x.m.sau, .int .i64 x.m.srd, .slice x.m.sda x.m.sdn x.m.sdc, .int .i64 x.m.cau, .int .i64 x.m.crd, .slice x.m.cba x.m.cbn x.m.cbc, .slice x.m.cpa x.m.cpn x.m.cpc, .slice x.m.cva x.m.cvn x.m.cvc, .int .i64 x.m.ro], .agg #[.int .i64 y.m.fr, .int .i64 y.m.tt, .int .i64 y.m.ki, .int .i64 y.m.bau, .int .i64 y.m.bnu, .slice y.m.bta y.m.btn y.m.btc, .int .i64 y.m.hau, .int .i64 y.m.hrd, .slice y.m.hba y.m.hbn y.m.hbc, .slice y.m.hpa y.m.hpn y.m.hpc, .int .i64 y.m.sau, .int .i64 y.m.srd, .slice y.m.sda y.m.sdn y.m.sdc, .int .i64 y.m.cau, .int .i64 y.m.crd, .slice y.m.cba y.m.cbn y.m.cbc, .slice y.m.cpa y.m.cpn y.m.cpc, .slice y.m.cva y.m.cvn y.m.cvc, .int .i64 y.m.ro]] rfl (enters_of Try.func19 (by kernel_rfl) rfl) (fun v w' => v = .bool true ∧ Below V.heap.size V w') (hS.out.mono (by rintro e w' ⟨rfl, h⟩; exact ⟨_, rfl, rfl, h⟩)) ?_
      rintro v V1 ⟨rfl, hb1⟩
      refine hK.out _ _ ⟨range_below hrg hb1, range_below hrh hb1⟩ (fun hHeld => ?_)
      simp only [Act.put, List.setIfInBounds_toArray, List.set_cons_zero, List.set_cons_succ]
      refine take_dst (i := 9) (d := 26) (v := .bool false) rfl rfl (by kernel_rfl) (by kernel_rfl) (by kernel_rfl) (fun _ _ _ h => h) (Or.inl ⟨by rfl, ?_⟩) hHeld ?_
      · (intro w0 hSw; (try dsimp only at hSw); go_simp)
      simp only [Act.put, List.setIfInBounds_toArray, List.set_cons_zero, List.set_cons_succ]
      refine wpAnyH_done (by kernel_rfl) ?_ _
      have hB1 := hbd.trans (hb1.mono hbd.size)
      go_wp2_with fail
      go_roundw
      case rel => exact ⟨k + 1, by omega, by go_num, hB1⟩
      case measure => simp [intOf]; omega
    · obtain rfl : k = ys.length := by omega
      have hltI : ¬ (ys.length : Int) < ys.length := by omega
      go_wp2_with fail
      go_ret
      exact ⟨rfl, hb⟩
end Go.Proofs.Ythpocgndgphedaa

namespace Go.Proofs.Ythpocgndgphedaa
open Go.RowKit

set_option maxRecDepth 100000 in
set_option maxHeartbeats 1000000 in
theorem tapeSync_any (bs : List Int) (sa : Option Addr) (n cap : Nat) (sy : Int) (w : World) (hn : n = bs.length) (hs : SliceAt w sa cap bs) (hl : bs.length ≤ 140737488355328) :
    Calls Try.prog 12 #[.agg #[.slice sa n cap, .int .i64 sy]] w fun e w' => TapeIs w w' e (bs.take (syncN bs.length sy)) (syncN bs.length sy) (syncF bs.length sy) := by
  subst hn
  have hA : Below w.heap.size w ((w.alloc (.cells #[.slice sa bs.length cap, .int .i64 sy] 28)).alloc (.cells #[.slice none 0 0, .int .i64 0] 28)) := ((Below.refl _ _).alloc (Nat.le_refl _) _).alloc (by simp) _
  have r0 := heap_alloc2_old w (.cells #[.slice sa bs.length cap, .int .i64 sy] 28) (.cells #[.slice none 0 0, .int .i64 0] 28)
  have r1 := heap_alloc2_new w (.cells #[.slice sa bs.length cap, .int .i64 sy] 28) (.cells #[.slice none 0 0, .int .i64 0] 28)
  have hM := mayBe_any sa bs.length cap sy ((w.alloc (.cells #[.slice sa bs.length cap, .int .i64 sy] 28)).alloc (.cells #[.slice none 0 0, .int .i64 0] 28)) hl
  have HS : Hid (∀ W : World, Below w.heap.size w W → Calls Try.prog 21 #[.agg #[.slice sa bs.length cap, .int .i64 sy], .int .i64 (bs.length : Int), .int .i64 (bs.length : Int)] W fun e w' => ∃ ra rc, e = .returned (.agg #[.slice ra bs.length rc, .int .i64 (bs.length : Int)]) ∧ SliceAt w' ra rc (bs.take bs.length) ∧ (∀ sb so, ra = some ⟨sb, so, none⟩ → W.heap.size ≤ sb ∧ sb < w'.heap.size) ∧ Below W.heap.size W w') := by
    show ∀ _, _
    intro W hW
    exact tapeCut_any bs sa _ cap bs.length sy _ W rfl (hs.below hW) (Nat.le_refl _) hl
  clear hs
  cases ht : tapeOk bs.length sy with
  | false =>
    have hF : Hid (syncF bs.length sy = 12 ∧ syncN bs.length sy = 0) := by show _ ∧ _; simp [syncF, syncN, ht]
    rw [ht] at hM
    clear ht
    go_enter Try.func12, Try.ntmps12
    go_wp2_with fail
    generalize (w.alloc (.cells #[.slice sa bs.length cap, .int .i64 sy] 28)).alloc (.cells #[.slice none 0 0, .int .i64 0] 28) = W0 at hA r0 r1 hM ⊢
    refine hM.mono ?_
    rintro e w1 ⟨he, hb1⟩
    subst he
    dsimp only
    have p1 := (hb1.block _ (lt_of_heap r1)).trans r1
    have d0 : w1.cell? ⟨w.heap.size + 1, 0, none⟩ = some (.slice none 0 0) := cells_at p1 0 _ rfl
    have d1 : w1.cell? ⟨w.heap.size + 1, 1, none⟩ = some (.int .i64 0) := cells_at p1 1 _ rfl
    have f0 := frozen_at p1 0
    have f1 := frozen_at p1 1
    go_wp2_with fail
    rw [hF.out.1, hF.out.2]
    refine bodyPost_ret (v := .tuple #[.agg #[.slice none 0 0, .int .i64 0], .int .i64 12]) (by simp [results, Try.results12, go_sem, d0, d1]) rfl (TapeIs.bad _ ?_)
    exact ((hA.trans (hb1.mono hA.size)).setCell (by simp) _).setCell (by simp) _
  | true =>
    have hF : Hid (syncF bs.length sy = 0 ∧ syncN bs.length sy = bs.length) := by show _ ∧ _; simp [syncF, syncN, ht]
    rw [ht] at hM
    clear ht
    go_enter Try.func12, Try.ntmps12
    go_wp2_with fail
    generalize (w.alloc (.cells #[.slice sa bs.length cap, .int .i64 sy] 28)).alloc (.cells #[.slice none 0 0, .int .i64 0] 28) = W0 at hA r0 r1 hM ⊢
    refine hM.mono ?_
    rintro e w1 ⟨he, hb1⟩
    subst he
    dsimp only
    have hB1 := hA.trans (hb1.mono hA.size)
    have p0 := (hb1.block _ (lt_of_heap r0)).trans r0
    have p1 := (hb1.block _ (lt_of_heap r1)).trans r1
    have c0 : w1.cell? ⟨w.heap.size, 0, none⟩ = some (.slice sa bs.length cap) := cells_at p0 0 _ rfl
    have c1 : w1.cell? ⟨w.heap.size, 1, none⟩ = some (.int .i64 sy) := cells_at p0 1 _ rfl
    go_wp2_with fail
    refine (HS.out w1 hB1).mono ?_
    rintro e w2 ⟨ra, rc, he, hs2, hfr, hb2⟩
    subst he
    dsimp only
    have hlt : w.heap.size + 1 < w1.heap.size := lt_of_heap p1
    have q1 := (hb2.block _ hlt).trans p1
    have d0 : w2.cell? ⟨w.heap.size + 1, 0, none⟩ = some (.slice none 0 0) := cells_at q1 0 _ rfl
    have d1 : w2.cell? ⟨w.heap.size + 1, 1, none⟩ = some (.int .i64 0) := cells_at q1 1 _ rfl
    have f0 := frozen_at q1 0
    have f1 := frozen_at q1 1
    clear c0 c1
    go_wp2_with fail
    rw [hF.out.1, hF.out.2]
    rw [List.take_of_length_le (Nat.le_refl _)] at hs2 ⊢
    refine bodyPost_ret (v := .tuple #[.agg #[.slice ra bs.length rc, .int .i64 (bs.length : Int)], .int .i64 0]) (by simp [results, Try.results12, go_sem, d0, d1]) rfl ⟨ra, rc, rfl, ?_, ?_, ?_⟩
    · exact (hs2.setCellT _ _ _ (fun sb so e => by have := (hfr sb so e).1; omega)).setCellT _ _ _ (fun sb so e => by have := (hfr sb so e).1; omega)
    · intro sb so e
      obtain ⟨g1, g2⟩ := hfr sb so e
      have := hB1.size
      exact ⟨by omega, by simpa using g2⟩
    · exact ((hB1.trans (hb2.mono hB1.size)).setCell (by simp) _).setCell (by simp) _
end Go.Proofs.Ythpocgndgphedaa

namespace Go.Proofs.Ythpocgndgphedaa
open Go.RowKit

set_option maxRecDepth 100000 in
set_option maxHeartbeats 1000000 in
theorem tapeCrash_any (bs : List Int) (sa : Option Addr) (n cap : Nat) (sy keep : Int) (w : World) (hn : n = bs.length) (hs : SliceAt w sa cap bs) (hl : bs.length ≤ 140737488355328) (hk1 : keep ≤ 9223372036854775807) (hk0 : -9223372036854775808 ≤ keep) :
    Calls Try.prog 14 #[.agg #[.slice sa n cap, .int .i64 sy], .int .i64 keep] w fun e w' => TapeIs w w' e (bs.take (crashN bs.length sy keep)) (crashN bs.length sy keep) (crashF bs.length sy keep) := by
  subst hn
  have hA : Below w.heap.size w ((w.alloc (.cells #[.slice sa bs.length cap, .int .i64 sy] 28)).alloc (.cells #[.slice none 0 0, .int .i64 0] 28)) := ((Below.refl _ _).alloc (Nat.le_refl _) _).alloc (by simp) _
  have r0 := heap_alloc2_old w (.cells #[.slice sa bs.length cap, .int .i64 sy] 28) (.cells #[.slice none 0 0, .int .i64 0] 28)
  have r1 := heap_alloc2_new w (.cells #[.slice sa bs.length cap, .int .i64 sy] 28) (.cells #[.slice none 0 0, .int .i64 0] 28)
  have hM := mayBe_any sa bs.length cap sy ((w.alloc (.cells #[.slice sa bs.length cap, .int .i64 sy] 28)).alloc (.cells #[.slice none 0 0, .int .i64 0] 28)) hl
  have HS : Hid (∀ (W : World) (x : Int) (k : Nat), Below w.heap.size w W → x = k → k ≤ bs.length → Calls Try.prog 21 #[.agg #[.slice sa bs.length cap, .int .i64 sy], .int .i64 x, .int .i64 x] W fun e w' => ∃ ra rc, e = .returned (.agg #[.slice ra k rc, .int .i64 (k : Int)]) ∧ SliceAt w' ra rc (bs.take k) ∧ (∀ sb so, ra = some ⟨sb, so, none⟩ → W.heap.size ≤ sb ∧ sb < w'.heap.size) ∧ Below W.heap.size W w') := by
    show ∀ _, _
    intro W x k hW hx hk
    subst hx
    exact tapeCut_any bs sa _ cap k sy _ W rfl (hs.below hW) hk hl
  clear hs
  cases ht : tapeOk bs.length sy with
  | false =>
    have hF : Hid (crashF bs.length sy keep = 12 ∧ crashN bs.length sy keep = 0) := by show _ ∧ _; simp [crashF, crashN, ht]
    rw [ht] at hM
    clear ht
    go_enter Try.func14, Try.ntmps14
    go_wp2_with fail
    generalize (w.alloc (.cells #[.slice sa bs.length cap, .int .i64 sy] 28)).alloc (.cells #[.slice none 0 0, .int .i64 0] 28) = W0 at hA r0 r1 hM ⊢
    refine hM.mono ?_
    rintro e w1 ⟨he, hb1⟩
    subst he
    dsimp only
    have p1 := (hb1.block _ (lt_of_heap r1)).trans r1
    have d0 : w1.cell? ⟨w.heap.size + 1, 0, none⟩ = some (.slice none 0 0) := cells_at p1 0 _ rfl
    have d1 : w1.cell? ⟨w.heap.size + 1, 1, none⟩ = some (.int .i64 0) := cells_at p1 1 _ rfl
    have f0 := frozen_at p1 0
    have f1 := frozen_at p1 1
    go_wp2_with fail
    rw [hF.out.1, hF.out.2]
    refine bodyPost_ret (v := .tuple #[.agg #[.slice none 0 0, .int .i64 0], .int .i64 12]) (by simp [results, Try.results14, go_sem, d0, d1]) rfl (TapeIs.bad _ ?_)
    exact ((hA.trans (hb1.mono hA.size)).setCell (by simp) _).setCell (by simp) _
  | true =>
    obtain ⟨t1, t2, t3⟩ := tapeOk_iff.1 ht
    rw [ht] at hM
    by_cases hk : keep < 0
    · have hF : Hid (crashF bs.length sy keep = 2 ∧ crashN bs.length sy keep = 0) := by show _ ∧ _; simp [crashF, crashN, ht, hk]; omega
      clear ht
      go_enter Try.func14, Try.ntmps14
      go_wp2_with fail
      generalize (w.alloc (.cells #[.slice sa bs.length cap, .int .i64 sy] 28)).alloc (.cells #[.slice none 0 0, .int .i64 0] 28) = W0 at hA r0 r1 hM ⊢
      refine hM.mono ?_
      rintro e w1 ⟨he, hb1⟩
      subst he
      dsimp only
      have p1 := (hb1.block _ (lt_of_heap r1)).trans r1
      have d0 : w1.cell? ⟨w.heap.size + 1, 0, none⟩ = some (.slice none 0 0) := cells_at p1 0 _ rfl
      have d1 : w1.cell? ⟨w.heap.size + 1, 1, none⟩ = some (.int .i64 0) := cells_at p1 1 _ rfl
      have f0 := frozen_at p1 0
      have f1 := frozen_at p1 1
      go_wp2_with fail
      rw [hF.out.1, hF.out.2]
      refine bodyPost_ret (v := .tuple #[.agg #[.slice none 0 0, .int .i64 0], .int .i64 2]) (by simp [results, Try.results14, go_sem, d0, d1]) rfl (TapeIs.bad _ ?_)
      exact ((hA.trans (hb1.mono hA.size)).setCell (by simp) _).setCell (by simp) _
    · have hF0 : Hid (crashF bs.length sy keep = 0 ∧ crashN bs.length sy keep = leftN bs.length sy keep) := by show _ ∧ _; simp [crashF, crashN, ht, hk]
      have hLe := leftN_le (n := bs.length) (sy := sy) (keep := keep) t2
      clear ht
      go_enter Try.func14, Try.ntmps14
      go_wp2_with fail
      generalize (w.alloc (.cells #[.slice sa bs.length cap, .int .i64 sy] 28)).alloc (.cells #[.slice none 0 0, .int .i64 0] 28) = W0 at hA r0 r1 hM ⊢
      refine hM.mono ?_
      rintro e w1 ⟨he, hb1⟩
      subst he
      dsimp only
      have hB1 := hA.trans (hb1.mono hA.size)
      have p0 := (hb1.block _ (lt_of_heap r0)).trans r0
      have p1 := (hb1.block _ (lt_of_heap r1)).trans r1
      have c0 : w1.cell? ⟨w.heap.size, 0, none⟩ = some (.slice sa bs.length cap) := cells_at p0 0 _ rfl
      have c1 : w1.cell? ⟨w.heap.size, 1, none⟩ = some (.int .i64 sy) := cells_at p0 1 _ rfl
      have hlt : w.heap.size + 1 < w1.heap.size := lt_of_heap p1
      have hw1 : IntKind.i64.wrap ((bs.length : Int) - sy) = (bs.length : Int) - sy := by rw [IntKind.wrap_i64]; omega
      generalize hK : leftN bs.length sy keep = K at hF0 hLe
      by_cases hm : keep ≤ (bs.length : Int) - sy
      · have hE : Hid (sy + keep = (K : Int)) := by show _ = _; rw [← hK, leftN]; split <;> omega
        have hw2 : IntKind.i64.wrap (sy + keep) = sy + keep := by rw [IntKind.wrap_i64]; omega
        clear hK
        go_wp2_with fail
        refine (HS.out w1 _ K hB1 hE.out hLe).mono ?_
        rintro e w2 ⟨ra, rc, he, hs2, hfr, hb2⟩
        subst he
        dsimp only
        have q1 := (hb2.block _ hlt).trans p1
        have d0 : w2.cell? ⟨w.heap.size + 1, 0, none⟩ = some (.slice none 0 0) := cells_at q1 0 _ rfl
        have d1 : w2.cell? ⟨w.heap.size + 1, 1, none⟩ = some (.int .i64 0) := cells_at q1 1 _ rfl
        have f0 := frozen_at q1 0
        have f1 := frozen_at q1 1
        clear c0 c1
        go_wp2_with fail
        rw [hF0.out.1, hF0.out.2]
        have hLK : (bs.take K).length = K := by rw [List.length_take]; omega
        refine bodyPost_ret (v := .tuple #[.agg #[.slice ra K rc, .int .i64 (K : Int)], .int .i64 0]) (by simp [results, Try.results14, go_sem, d0, d1]) rfl ⟨ra, rc, by rw [hLK], ?_, ?_, ?_⟩
        · exact (hs2.setCellT _ _ _ (fun sb so e => by have := (hfr sb so e).1; omega)).setCellT _ _ _ (fun sb so e => by have := (hfr sb so e).1; omega)
        · intro sb so e
          obtain ⟨g1, g2⟩ := hfr sb so e
          have := hB1.size
          exact ⟨by omega, by simpa using g2⟩
        · exact ((hB1.trans (hb2.mono hB1.size)).setCell (by simp) _).setCell (by simp) _
      · have hE : Hid (sy + ((bs.length : Int) - sy) = (K : Int)) := by show _ = _; rw [← hK, leftN]; split <;> omega
        have hw2 : IntKind.i64.wrap (sy + ((bs.length : Int) - sy)) = sy + ((bs.length : Int) - sy) := by rw [IntKind.wrap_i64]; omega
        clear hK
        go_wp2_with fail
        refine (HS.out w1 _ K hB1 hE.out hLe).mono ?_
        rintro e w2 ⟨ra, rc, he, hs2, hfr, hb2⟩
        subst he
        dsimp only
        have q1 := (hb2.block _ hlt).trans p1
        have d0 : w2.cell? ⟨w.heap.size + 1, 0, none⟩ = some (.slice none 0 0) := cells_at q1 0 _ rfl
        have d1 : w2.cell? ⟨w.heap.size + 1, 1, none⟩ = some (.int .i64 0) := cells_at q1 1 _ rfl
        have f0 := frozen_at q1 0
        have f1 := frozen_at q1 1
        clear c0 c1
        go_wp2_with fail
        rw [hF0.out.1, hF0.out.2]
        have hLK : (bs.take K).length = K := by rw [List.length_take]; omega
        refine bodyPost_ret (v := .tuple #[.agg #[.slice ra K rc, .int .i64 (K : Int)], .int .i64 0]) (by simp [results, Try.results14, go_sem, d0, d1]) rfl ⟨ra, rc, by rw [hLK], ?_, ?_, ?_⟩
        · exact (hs2.setCellT _ _ _ (fun sb so e => by have := (hfr sb so e).1; omega)).setCellT _ _ _ (fun sb so e => by have := (hfr sb so e).1; omega)
        · intro sb so e
          obtain ⟨g1, g2⟩ := hfr sb so e
          have := hB1.size
          exact ⟨by omega, by simpa using g2⟩
        · exact ((hB1.trans (hb2.mono hB1.size)).setCell (by simp) _).setCell (by simp) _
end Go.Proofs.Ythpocgndgphedaa
