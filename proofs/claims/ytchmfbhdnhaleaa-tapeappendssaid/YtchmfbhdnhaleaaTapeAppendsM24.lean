/- The document's answer: sameBytes, digestsFault, for every list. -/
import Derived.Test.YtchmfbhdnhaleaaTapF
import Derived.Test.YtchmfbhdnhaleaaTapeAppendsM18
import Derived.Deep.RegionHeld3
import Derived.Test.YtchmfbhdnhaleaaMsg
import Derived.Test.YtchmfbhdnhaleaaStrs
import Derived.Test.YtchmfbhdnhaleaaTxL
import Derived.Deep.RegionHeld2
import Derived.Test.YtchmfbhdnhaleaaDigs
namespace Go.Proofs.Ytchmfbhdnhaleaa
open Go.RowKit

set_option maxRecDepth 100000 in
set_option maxHeartbeats 400000 in
theorem tapeMay_any (sa : Option Addr) (n cap : Nat) (sy : Int) (w : World) (hn : n ≤ 140737488355328) :
    Calls Try.prog 26 #[.agg #[.slice sa n cap, .int .i64 sy]] w fun e w' => e = .returned (.bool (tapeOk n sy)) ∧ Below w.heap.size w w' := by
  have hA : Below w.heap.size w (w.alloc (.cells #[.slice sa n cap, .int .i64 sy] 41)) := (Below.refl _ _).alloc (Nat.le_refl _) _
  by_cases h1 : (n : Int) ≤ 400000
  · have hI : Hid (∀ W : World, Calls Try.prog 36 #[.int .i64 sy, .int .i64 0, .int .i64 (n : Int)] W fun e w' => e = .returned (.bool (tapeOk n sy)) ∧ W = w') := by
      show ∀ _, _
      intro W
      exact in_bool sy 0 n _ W (by rw [tapeOk]; exact decide_eq_decide.2 (by omega))
    go_enter Try.func26, Try.ntmps26
    go_wp2_with (go_at_call 36; refine (hI.out _).mono ?_; rintro e w' ⟨rfl, rfl⟩)
    go_ret
    exact ⟨rfl, hA⟩
  · have hF : Hid (tapeOk n sy = false) := tapeOk_not (by omega)
    go_enter Try.func26, Try.ntmps26
    go_wp2_with fail
    go_ret
    exact ⟨by rw [hF.out]; rfl, hA⟩
set_option maxRecDepth 100000 in
theorem joined_nil (xs : List Int) (sa : Option Addr) (n c : Nat) (w : World) (hn : n = xs.length) (ha : SliceAt w sa c xs) (hl : xs.length ≤ 140737488355328) :
    Calls Try.prog 28 #[.slice sa n c, .slice none 0 0] w fun e w' => ∃ ra rc, e = .returned (.slice ra xs.length rc) ∧ SliceAt w' ra rc xs ∧ (∀ sb so, ra = some ⟨sb, so, none⟩ → w.heap.size ≤ sb ∧ sb < w'.heap.size) ∧ Below w.heap.size w w' := by
  refine (joined_any xs [] sa none n 0 c 0 w hn rfl ha (nilSliceT _) (by simpa using hl)).mono ?_
  rintro e w1 ⟨v, he, ho, hb⟩
  simp only [List.append_nil, List.length_nil, Nat.add_zero] at ho
  obtain ⟨ra, rc, hv, _, hs⟩ := owns_form ho
  have hlt := ho.lt
  subst hv
  exact ⟨ra, rc, he, hs, fun sb so e => hlt sb (by rw [e]; rfl), hb⟩
set_option maxRecDepth 100000 in
set_option maxHeartbeats 1000000 in
theorem tapeSynced_any (bs : List Int) (sa : Option Addr) (n cap : Nat) (sy : Int) (w : World) (hn : n = bs.length) (hs : SliceAt w sa cap bs) (hl : bs.length ≤ 140737488355328) :
    Calls Try.prog 15 #[.agg #[.slice sa n cap, .int .i64 sy]] w fun e w' => TapeIs w w' e (bs.take (syncN bs.length sy)) (syncN bs.length sy) (syncF bs.length sy) := by
  subst hn
  have hA : Below w.heap.size w ((w.alloc (.cells #[.slice sa bs.length cap, .int .i64 sy] 41)).alloc (.cells #[.slice none 0 0, .int .i64 0] 41)) := ((Below.refl _ _).alloc (Nat.le_refl _) _).alloc (by simp) _
  have r0 := heap_alloc2_old w (.cells #[.slice sa bs.length cap, .int .i64 sy] 41) (.cells #[.slice none 0 0, .int .i64 0] 41)
  have r1 := heap_alloc2_new w (.cells #[.slice sa bs.length cap, .int .i64 sy] 41) (.cells #[.slice none 0 0, .int .i64 0] 41)
  have hM := tapeMay_any sa bs.length cap sy ((w.alloc (.cells #[.slice sa bs.length cap, .int .i64 sy] 41)).alloc (.cells #[.slice none 0 0, .int .i64 0] 41)) hl
  have HS : Hid (∀ W : World, Below w.heap.size w W → Calls Try.prog 28 #[.slice sa bs.length cap, .slice none 0 0] W fun e w' => ∃ ra rc, e = .returned (.slice ra bs.length rc) ∧ SliceAt w' ra rc bs ∧ (∀ sb so, ra = some ⟨sb, so, none⟩ → W.heap.size ≤ sb ∧ sb < w'.heap.size) ∧ Below W.heap.size W w') := by
    show ∀ _, _
    intro W hW
    exact joined_nil bs sa _ cap W rfl (hs.below hW) hl
  clear hs
  cases ht : tapeOk bs.length sy with
  | false =>
    have hF : Hid (syncF bs.length sy = 12 ∧ syncN bs.length sy = 0) := by show _ ∧ _; simp [syncF, syncN, ht]
    rw [ht] at hM
    clear ht
    go_enter Try.func15, Try.ntmps15
    go_wp2_with fail
    generalize (w.alloc (.cells #[.slice sa bs.length cap, .int .i64 sy] 41)).alloc (.cells #[.slice none 0 0, .int .i64 0] 41) = W0 at hA r0 r1 hM ⊢
    refine hM.mono ?_
    rintro e w1 ⟨he, hb1⟩
    subst he
    dsimp only
    have p1 := (hb1.block _ (lt_of_heap r1)).trans r1
    have d0 : w1.cell? ⟨w.heap.size + 1, 0, none⟩ = some (.slice none 0 0) := cells_at p1 0 _ rfl
    have d1 : w1.cell? ⟨w.heap.size + 1, 1, none⟩ = some (.int .i64 0) := cells_at p1 1 _ rfl
    have f0 := frozen_at p1 0
    have f1 := frozen_at p1 1
    go_wp2_with fail
    rw [hF.out.1, hF.out.2]
    refine bodyPost_ret (v := .tuple #[.agg #[.slice none 0 0, .int .i64 0], .int .i64 12]) (by simp [results, Try.results15, go_sem, d0, d1]) rfl (TapeIs.bad _ ?_)
    exact ((hA.trans (hb1.mono hA.size)).setCell (by simp) _).setCell (by simp) _
  | true =>
    have hF : Hid (syncF bs.length sy = 0 ∧ syncN bs.length sy = bs.length) := by show _ ∧ _; simp [syncF, syncN, ht]
    rw [ht] at hM
    clear ht
    go_enter Try.func15, Try.ntmps15
    go_wp2_with fail
    generalize (w.alloc (.cells #[.slice sa bs.length cap, .int .i64 sy] 41)).alloc (.cells #[.slice none 0 0, .int .i64 0] 41) = W0 at hA r0 r1 hM ⊢
    refine hM.mono ?_
    rintro e w1 ⟨he, hb1⟩
    subst he
    dsimp only
    have hB1 := hA.trans (hb1.mono hA.size)
    have p0 := (hb1.block _ (lt_of_heap r0)).trans r0
    have p1 := (hb1.block _ (lt_of_heap r1)).trans r1
    have c0 : w1.cell? ⟨w.heap.size, 0, none⟩ = some (.slice sa bs.length cap) := cells_at p0 0 _ rfl
    have hlt : w.heap.size + 1 < w1.heap.size := lt_of_heap p1
    go_wp2_with fail
    go_region_held3 (fun w' => w'.cell? ⟨w.heap.size, 0, none⟩ = some (.slice sa bs.length cap)) (go_keep) ((go_at_call 28; refine (HS.out _ hB1.drew).mono ?_; rintro e w2 ⟨ra, rc, rfl, hs2, hfr, hb2⟩; replace hb2 := below_drew hb2; have s0 := (hb2.block _ (lt_of_heap p0)).trans p0; have s1 := (hb2.block _ (lt_of_heap p1)).trans p1; have g0 : w2.cell? ⟨w.heap.size, 0, none⟩ = some (.slice sa bs.length cap) := cells_at s0 0 _ rfl; have e0 : w2.cell? ⟨w.heap.size + 1, 0, none⟩ = some (.slice none 0 0) := cells_at s1 0 _ rfl; have e1 : w2.cell? ⟨w.heap.size + 1, 1, none⟩ = some (.int .i64 0) := cells_at s1 1 _ rfl; have k0 := frozen_at s1 0; have k1 := frozen_at s1 1))
    all_goals
      go_wp2_with fail
      rw [hF.out.1, hF.out.2]
      rw [List.take_of_length_le (Nat.le_refl _)]
      refine bodyPost_ret (v := .tuple #[.agg #[.slice ra bs.length rc, .int .i64 (bs.length : Int)], .int .i64 0]) (by simp [results, Try.results15, go_sem, e0, e1]) rfl ⟨ra, rc, rfl, ?_, ?_, ?_⟩
      · exact (hs2.setCellT _ _ _ (fun sb so e => by have := (hfr sb so e).1; simp at this; omega)).setCellT _ _ _ (fun sb so e => by have := (hfr sb so e).1; simp at this; omega)
      · intro sb so e
        obtain ⟨g1, g2⟩ := hfr sb so e
        have := hB1.size
        simp at g1
        exact ⟨by omega, by simpa using g2⟩
      · exact ((hB1.trans (hb2.mono hB1.size)).setCell (by simp) _).setCell (by simp) _
end Go.Proofs.Ytchmfbhdnhaleaa

namespace Go.Proofs.Ytchmfbhdnhaleaa
open Go.RowKit

set_option maxRecDepth 100000 in
set_option maxHeartbeats 4000000 in
theorem tapeAppended_any (m : Msg) (bs : List Int) (sa : Option Addr) (n cap : Nat) (sy X : Int) (B : List Int) (w : World) (hn : n = bs.length) (hs : SliceAt w sa cap bs) (hl : bs.length ≤ 140737488351232) (hBL : B.length ≤ 4000)
    (HR : ∀ W : World, Below w.heap.size w W → Calls Try.prog 9 #[.agg #[.int .i64 m.fr, .int .i64 m.tt, .int .i64 m.ki, .int .i64 m.bau, .int .i64 m.bnu, .slice m.bta m.btn m.btc, .int .i64 m.hau, .int .i64 m.hrd, .slice m.hba m.hbn m.hbc, .slice m.hpa m.hpn m.hpc, .int .i64 m.sau, .int .i64 m.srd, .slice m.sda m.sdn m.sdc, .int .i64 m.cau, .int .i64 m.crd, .slice m.cba m.cbn m.cbc, .slice m.cpa m.cpn m.cpc, .slice m.cva m.cvn m.cvc, .int .i64 m.ro]] W fun e w' => e = .returned (.int .i64 X) ∧ Below W.heap.size W w')
    (HM : ∀ W : World, Below w.heap.size w W → X = 0 → Calls Try.prog 27 #[.agg #[.int .i64 m.fr, .int .i64 m.tt, .int .i64 m.ki, .int .i64 m.bau, .int .i64 m.bnu, .slice m.bta m.btn m.btc, .int .i64 m.hau, .int .i64 m.hrd, .slice m.hba m.hbn m.hbc, .slice m.hpa m.hpn m.hpc, .int .i64 m.sau, .int .i64 m.srd, .slice m.sda m.sdn m.sdc, .int .i64 m.cau, .int .i64 m.crd, .slice m.cba m.cbn m.cbc, .slice m.cpa m.cpn m.cpc, .slice m.cva m.cvn m.cvc, .int .i64 m.ro]] W fun e w' => ∃ v, e = .returned (.tuple #[v, .int .i64 0]) ∧ w'.ownsRow W.heap.size 5 1 v B.length (ub B) ∧ Below W.heap.size W w') :
    Calls Try.prog 12 #[.agg #[.slice sa n cap, .int .i64 sy], .agg #[.int .i64 m.fr, .int .i64 m.tt, .int .i64 m.ki, .int .i64 m.bau, .int .i64 m.bnu, .slice m.bta m.btn m.btc, .int .i64 m.hau, .int .i64 m.hrd, .slice m.hba m.hbn m.hbc, .slice m.hpa m.hpn m.hpc, .int .i64 m.sau, .int .i64 m.srd, .slice m.sda m.sdn m.sdc, .int .i64 m.cau, .int .i64 m.crd, .slice m.cba m.cbn m.cbc, .slice m.cpa m.cpn m.cpc, .slice m.cva m.cvn m.cvc, .int .i64 m.ro]] w fun e w' => TapeIs w w' e (appB bs (appF bs.length sy X B.length) B) (appS sy (appF bs.length sy X B.length)) (appF bs.length sy X B.length) := by
  subst hn
  have HR' : Hid (∀ W : World, Below w.heap.size w W → Calls Try.prog 9 #[.agg #[.int .i64 m.fr, .int .i64 m.tt, .int .i64 m.ki, .int .i64 m.bau, .int .i64 m.bnu, .slice m.bta m.btn m.btc, .int .i64 m.hau, .int .i64 m.hrd, .slice m.hba m.hbn m.hbc, .slice m.hpa m.hpn m.hpc, .int .i64 m.sau, .int .i64 m.srd, .slice m.sda m.sdn m.sdc, .int .i64 m.cau, .int .i64 m.crd, .slice m.cba m.cbn m.cbc, .slice m.cpa m.cpn m.cpc, .slice m.cva m.cvn m.cvc, .int .i64 m.ro]] W fun e w' => e = .returned (.int .i64 X) ∧ Below W.heap.size W w') := HR
  have HM' : Hid (∀ W : World, Below w.heap.size w W → X = 0 → Calls Try.prog 27 #[.agg #[.int .i64 m.fr, .int .i64 m.tt, .int .i64 m.ki, .int .i64 m.bau, .int .i64 m.bnu, .slice m.bta m.btn m.btc, .int .i64 m.hau, .int .i64 m.hrd, .slice m.hba m.hbn m.hbc, .slice m.hpa m.hpn m.hpc, .int .i64 m.sau, .int .i64 m.srd, .slice m.sda m.sdn m.sdc, .int .i64 m.cau, .int .i64 m.crd, .slice m.cba m.cbn m.cbc, .slice m.cpa m.cpn m.cpc, .slice m.cva m.cvn m.cvc, .int .i64 m.ro]] W fun e w' => ∃ v, e = .returned (.tuple #[v, .int .i64 0]) ∧ w'.ownsRow W.heap.size 5 1 v B.length (ub B) ∧ Below W.heap.size W w') := HM
  clear HR HM
  have HS : Hid (SliceAt w sa cap bs) := hs
  have hle := hs.le
  have hA : Below w.heap.size w (((w.alloc (.cells #[.slice sa bs.length cap, .int .i64 sy] 41)).alloc (.cells #[.int .i64 m.fr, .int .i64 m.tt, .int .i64 m.ki, .int .i64 m.bau, .int .i64 m.bnu, .slice m.bta m.btn m.btc, .int .i64 m.hau, .int .i64 m.hrd, .slice m.hba m.hbn m.hbc, .slice m.hpa m.hpn m.hpc, .int .i64 m.sau, .int .i64 m.srd, .slice m.sda m.sdn m.sdc, .int .i64 m.cau, .int .i64 m.crd, .slice m.cba m.cbn m.cbc, .slice m.cpa m.cpn m.cpc, .slice m.cva m.cvn m.cvc, .int .i64 m.ro] 35)).alloc (.cells #[.slice none 0 0, .int .i64 0] 41)) := (((Below.refl _ _).alloc (Nat.le_refl _) _).alloc (by simp) _).alloc (by simp; omega) _
  have r0 := heap_keep (o := .cells #[.slice none 0 0, .int .i64 0] 41) (heap_alloc2_old w (.cells #[.slice sa bs.length cap, .int .i64 sy] 41) (.cells #[.int .i64 m.fr, .int .i64 m.tt, .int .i64 m.ki, .int .i64 m.bau, .int .i64 m.bnu, .slice m.bta m.btn m.btc, .int .i64 m.hau, .int .i64 m.hrd, .slice m.hba m.hbn m.hbc, .slice m.hpa m.hpn m.hpc, .int .i64 m.sau, .int .i64 m.srd, .slice m.sda m.sdn m.sdc, .int .i64 m.cau, .int .i64 m.crd, .slice m.cba m.cbn m.cbc, .slice m.cpa m.cpn m.cpc, .slice m.cva m.cvn m.cvc, .int .i64 m.ro] 35))
  have r1 := heap_keep (o := .cells #[.slice none 0 0, .int .i64 0] 41) (heap_alloc2_new w (.cells #[.slice sa bs.length cap, .int .i64 sy] 41) (.cells #[.int .i64 m.fr, .int .i64 m.tt, .int .i64 m.ki, .int .i64 m.bau, .int .i64 m.bnu, .slice m.bta m.btn m.btc, .int .i64 m.hau, .int .i64 m.hrd, .slice m.hba m.hbn m.hbc, .slice m.hpa m.hpn m.hpc, .int .i64 m.sau, .int .i64 m.srd, .slice m.sda m.sdn m.sdc, .int .i64 m.cau, .int .i64 m.crd, .slice m.cba m.cbn m.cbc, .slice m.cpa m.cpn m.cpc, .slice m.cva m.cvn m.cvc, .int .i64 m.ro] 35))
  have r2 := heap_new_at ((w.alloc (.cells #[.slice sa bs.length cap, .int .i64 sy] 41)).alloc (.cells #[.int .i64 m.fr, .int .i64 m.tt, .int .i64 m.ki, .int .i64 m.bau, .int .i64 m.bnu, .slice m.bta m.btn m.btc, .int .i64 m.hau, .int .i64 m.hrd, .slice m.hba m.hbn m.hbc, .slice m.hpa m.hpn m.hpc, .int .i64 m.sau, .int .i64 m.srd, .slice m.sda m.sdn m.sdc, .int .i64 m.cau, .int .i64 m.crd, .slice m.cba m.cbn m.cbc, .slice m.cpa m.cpn m.cpc, .slice m.cva m.cvn m.cvc, .int .i64 m.ro] 35)) (.cells #[.slice none 0 0, .int .i64 0] 41) (w.heap.size + 1 + 1) (by simp)
  have hM := tapeMay_any sa bs.length cap sy (((w.alloc (.cells #[.slice sa bs.length cap, .int .i64 sy] 41)).alloc (.cells #[.int .i64 m.fr, .int .i64 m.tt, .int .i64 m.ki, .int .i64 m.bau, .int .i64 m.bnu, .slice m.bta m.btn m.btc, .int .i64 m.hau, .int .i64 m.hrd, .slice m.hba m.hbn m.hbc, .slice m.hpa m.hpn m.hpc, .int .i64 m.sau, .int .i64 m.srd, .slice m.sda m.sdn m.sdc, .int .i64 m.cau, .int .i64 m.crd, .slice m.cba m.cbn m.cbc, .slice m.cpa m.cpn m.cpc, .slice m.cva m.cvn m.cvc, .int .i64 m.ro] 35)).alloc (.cells #[.slice none 0 0, .int .i64 0] 41)) (by omega)
  have hF : appF bs.length sy X B.length = if tapeOk bs.length sy then (if X ≠ 0 then X else if 400000 < bs.length + 2 + B.length then 6 else 0) else 12 := rfl
  generalize appF bs.length sy X B.length = F at hF ⊢
  have HF : Hid _ := hF
  clear hF hs
  go_enter Try.func12, Try.ntmps12
  go_wp2_with fail
  generalize ((w.alloc (.cells #[.slice sa bs.length cap, .int .i64 sy] 41)).alloc (.cells #[.int .i64 m.fr, .int .i64 m.tt, .int .i64 m.ki, .int .i64 m.bau, .int .i64 m.bnu, .slice m.bta m.btn m.btc, .int .i64 m.hau, .int .i64 m.hrd, .slice m.hba m.hbn m.hbc, .slice m.hpa m.hpn m.hpc, .int .i64 m.sau, .int .i64 m.srd, .slice m.sda m.sdn m.sdc, .int .i64 m.cau, .int .i64 m.crd, .slice m.cba m.cbn m.cbc, .slice m.cpa m.cpn m.cpc, .slice m.cva m.cvn m.cvc, .int .i64 m.ro] 35)).alloc (.cells #[.slice none 0 0, .int .i64 0] 41) = W0 at hA r0 r1 r2 hM ⊢
  refine hM.mono ?_
  rintro e w1 ⟨he, hb1⟩
  subst he
  dsimp only
  have hB1 := hA.trans (hb1.mono hA.size)
  have p0 := (hb1.block _ (lt_of_heap r0)).trans r0
  have p1 := (hb1.block _ (lt_of_heap r1)).trans r1
  have p2 := (hb1.block _ (lt_of_heap r2)).trans r2
  clear hM r0 r1 r2 hb1 hA
  cases ht : tapeOk bs.length sy with
  | false =>
    have hF : Hid (F = 12) := by show _ = _; rw [HF.out, ht]; rfl
    have d0 : w1.cell? ⟨w.heap.size + 1 + 1, 0, none⟩ = some (.slice none 0 0) := cells_at p2 0 _ rfl
    have d1 : w1.cell? ⟨w.heap.size + 1 + 1, 1, none⟩ = some (.int .i64 0) := cells_at p2 1 _ rfl
    have f0 := frozen_at p2 0
    have f1 := frozen_at p2 1
    clear ht
    go_wp2_with fail
    refine bodyPost_ret (v := .tuple #[.agg #[.slice none 0 0, .int .i64 0], .int .i64 12]) (by simp [results, Try.results12, go_sem, d0, d1]) rfl (appIs_bad hF.out (by decide) ?_)
    exact (hB1.setCell (by simp; omega) _).setCell (by simp; omega) _
  | true =>
    obtain ⟨t1, t2, t3⟩ := tapeOk_iff.1 ht
    go_wp2_with (refine wpList_load_row rfl 35 _ rfl (w.heap.size + 1) rfl 35 _ (0, 0) _ p1 Try.underlying35 rfl sMsg ?_)
    refine (HR'.out w1 hB1).mono ?_
    rintro e w2 ⟨he, hb2⟩
    subst he
    dsimp only
    have hB2 := hB1.trans (hb2.mono hB1.size)
    have q0 := (hb2.block _ (lt_of_heap p0)).trans p0
    have q1 := (hb2.block _ (lt_of_heap p1)).trans p1
    have q2 := (hb2.block _ (lt_of_heap p2)).trans p2
    have hlt2 : w.heap.size + 1 + 1 < w1.heap.size := lt_of_heap p2
    clear p0 p1 p2
    by_cases hx : X = 0
    · subst hx
      go_wp2_with (refine wpList_load_row rfl 35 _ rfl (w.heap.size + 1) rfl 35 _ (0, 0) _ q1 Try.underlying35 rfl sMsg ?_)
      refine (HM'.out w2 hB2 (by first | rfl | trivial)).mono ?_
      rintro e w3 ⟨v, he, ho, hb3⟩
      subst he
      dsimp only
      obtain ⟨ra, rc, hv, -, hs3⟩ := owns_form ho
      subst hv
      have hB3 := hB2.trans (hb3.mono hB2.size)
      have s0 := (hb3.block _ (lt_of_heap q0)).trans q0
      have s2 := (hb3.block _ (lt_of_heap q2)).trans q2
      have hL0 : (0 : Int) ≤ B.length := by omega
      have hL1 : (B.length : Int) ≤ 4000 := by omega
      have hA3 : Below w3.heap.size w3 (w3.alloc (.cells #[.int .u8 ((B.length : Int) / 256), .int .u8 ((B.length : Int) % 256)] 5)) := (Below.refl _ _).alloc (Nat.le_refl _) _
      have hlit := World.ownsRow_lit (base := w3.heap.size) (e := 5) (size := 1) w3 (ub [(B.length : Int) / 256, (B.length : Int) % 256]).toArray 2 (Nat.le_refl _) (by decide) rfl
      obtain ⟨-, hl1⟩ := sliceAt_of_owns hlit
      have hJ := joined_any [(B.length : Int) / 256, (B.length : Int) % 256] B _ ra 2 _ 2 rc _ rfl rfl hl1 (hs3.below hA3) (by show 2 + _ ≤ _; omega)
      clear hl1 hlit
      have HLen : Hid (B.length ≤ 4000) := hBL
      go_wp2_with fail
      refine hJ.mono ?_
      rintro e w4 ⟨v4, he, ho4, hb4⟩
      subst he
      dsimp only
      obtain ⟨fa, fc, hv, -, hs4⟩ := owns_form ho4
      subst hv
      have hb34 := hA3.trans (hb4.mono hA3.size)
      have hB4 := hB3.trans (hb34.mono hB3.size)
      have u0 := (hb34.block _ (lt_of_heap s0)).trans s0
      have u2 := (hb34.block _ (lt_of_heap s2)).trans s2
      have c0 : w4.cell? ⟨w.heap.size, 0, none⟩ = some (.slice sa bs.length cap) := cells_at u0 0 _ rfl
      have c1 : w4.cell? ⟨w.heap.size, 1, none⟩ = some (.int .i64 sy) := cells_at u0 1 _ rfl
      have hneO : ¬ w.heap.size + 1 + 1 = w.heap.size := by omega
      have HFL : Hid ([(B.length : Int) / 256, (B.length : Int) % 256].length + B.length = 2 + B.length) := rfl
      rw [HFL.out]
      have hs4' : SliceAt w4 fa fc ([(B.length : Int) / 256, (B.length : Int) % 256] ++ B) := hs4
      have hlt4 : w.heap.size + 1 + 1 < w4.heap.size := lt_of_heap u2
      clear hs4 ho4 hJ
      by_cases hbig : 400000 < bs.length + 2 + B.length
      · have hF : Hid (F = 6) := by show _ = _; rw [HF.out, ht]; simp [hbig]
        have hbigI : (400000 : Int) < (bs.length : Int) + (2 + (B.length : Int)) := by omega
        have d0 : w4.cell? ⟨w.heap.size + 1 + 1, 0, none⟩ = some (.slice none 0 0) := cells_at u2 0 _ rfl
        have d1 : w4.cell? ⟨w.heap.size + 1 + 1, 1, none⟩ = some (.int .i64 0) := cells_at u2 1 _ rfl
        have f0 := frozen_at u2 0
        have f1 := frozen_at u2 1
        clear ht hbig
        go_wp2_with fail
        refine bodyPost_ret (v := .tuple #[.agg #[.slice none 0 0, .int .i64 0], .int .i64 6]) (by simp [results, Try.results12, go_sem, d0, d1]) rfl (appIs_bad hF.out (by decide) ?_)
        exact (hB4.setCell (by simp; omega) _).setCell (by simp; omega) _
      · have hF : Hid (F = 0) := by show _ = _; rw [HF.out, ht]; simp [hbig]
        have hbigI : ¬ (400000 : Int) < (bs.length : Int) + (2 + (B.length : Int)) := by omega
        have HJ2 : Hid (∀ W : World, Below w4.heap.size w4 W → Calls Try.prog 28 #[.slice sa bs.length cap, .slice fa (2 + B.length) fc] W fun e w' => ∃ v, e = .returned v ∧ w'.ownsRow W.heap.size 5 1 v (bs.length + (2 + B.length)) (ub (bs ++ ([(B.length : Int) / 256, (B.length : Int) % 256] ++ B))) ∧ Below W.heap.size W w') := by
          show ∀ _, _
          intro W hW
          have h := joined_any bs ([(B.length : Int) / 256, (B.length : Int) % 256] ++ B) sa fa bs.length (2 + B.length) cap fc W rfl (by rw [List.length_append]; rfl) (HS.out.below (hB4.trans (hW.mono hB4.size))) (hs4'.below hW) (by rw [List.length_append]; show _ + (2 + _) ≤ _; omega)
          rw [show ([(B.length : Int) / 256, (B.length : Int) % 256] ++ B).length = 2 + B.length by rw [List.length_append]; rfl] at h
          exact h
        clear ht hbig
        go_wp2_with fail
        go_region_held3 (fun w' => w'.cell? ⟨w.heap.size, 0, none⟩ = some (.slice sa bs.length cap) ∧ w'.cell? ⟨w.heap.size, 1, none⟩ = some (.int .i64 sy)) (go_keep) ((go_at_call 28; refine (HJ2.out _ ((Below.refl _ _).drew)).mono ?_; rintro e w5 ⟨v5, rfl, ho5, hb5⟩; replace hb5 := below_drew hb5; have z0 := (hb5.block _ (lt_of_heap u0)).trans u0; have z2 := (hb5.block _ (lt_of_heap u2)).trans u2; have g0 : w5.cell? ⟨w.heap.size, 0, none⟩ = some (.slice sa bs.length cap) := cells_at z0 0 _ rfl; have g1 : w5.cell? ⟨w.heap.size, 1, none⟩ = some (.int .i64 sy) := cells_at z0 1 _ rfl; have e0 : w5.cell? ⟨w.heap.size + 1 + 1, 0, none⟩ = some (.slice none 0 0) := cells_at z2 0 _ rfl; have e1 : w5.cell? ⟨w.heap.size + 1 + 1, 1, none⟩ = some (.int .i64 0) := cells_at z2 1 _ rfl; have k0 := frozen_at z2 0; have k1 := frozen_at z2 1; obtain ⟨za, zc, rfl⟩ := owns_shape ho5))
        all_goals
          have ho6 : w5.ownsRow w4.heap.size 5 1 (.slice za (bs.length + (2 + B.length)) zc) (bs.length + (2 + B.length)) (ub (bs ++ [(B.length : Int) / 256, (B.length : Int) % 256] ++ B)) := by rw [List.append_assoc]; exact ho5
          go_wp2_with fail
          obtain ⟨xa, xc, hv, hlen, hs5⟩ := owns_form ho6
          have hlt5 := ho6.lt
          simp only [Value.slice.injEq, true_and] at hv
          obtain ⟨rfl, rfl⟩ := hv
          have hE : appB bs F B = bs ++ [(B.length : Int) / 256, (B.length : Int) % 256] ++ B := by rw [appB, if_pos hF.out]
          have hS : appS sy F = sy := by rw [appS, if_pos hF.out]
          rw [hE, hS, hF.out]
          refine bodyPost_ret (v := .tuple #[.agg #[.slice za (bs.length + (2 + B.length)) zc, .int .i64 sy], .int .i64 0]) (by simp [results, Try.results12, go_sem, e0, e1]) rfl ⟨za, zc, by rw [← hlen], ?_, ?_, ?_⟩
          · exact (hs5.setCellT _ _ _ (fun sb so e => by have := (hlt5 sb (by rw [e]; rfl)).1; omega)).setCellT _ _ _ (fun sb so e => by have := (hlt5 sb (by rw [e]; rfl)).1; omega)
          · intro sb so e
            have := hlt5 sb (by rw [e]; rfl)
            exact ⟨by have := hB4.size; omega, by simpa using this.2⟩
          · exact ((hB4.trans (hb5.mono hB4.size)).setCell (by simp; omega) _).setCell (by simp; omega) _
    · have hF : Hid (F = X) := by show _ = _; rw [HF.out, ht]; simp [hx]
      have d0 : w2.cell? ⟨w.heap.size + 1 + 1, 0, none⟩ = some (.slice none 0 0) := cells_at q2 0 _ rfl
      have d1 : w2.cell? ⟨w.heap.size + 1 + 1, 1, none⟩ = some (.int .i64 0) := cells_at q2 1 _ rfl
      have f0 := frozen_at q2 0
      have f1 := frozen_at q2 1
      clear ht
      go_wp2_with fail
      refine bodyPost_ret (v := .tuple #[.agg #[.slice none 0 0, .int .i64 0], .int .i64 X]) (by simp [results, Try.results12, go_sem, d0, d1]) rfl (appIs_bad hF.out hx ?_)
      exact (hB2.setCell (by simp; omega) _).setCell (by simp; omega) _
end Go.Proofs.Ytchmfbhdnhaleaa

namespace Go.Proofs.Ytchmfbhdnhaleaa
open Go.RowKit

set_option maxRecDepth 100000 in
set_option maxHeartbeats 400000 in
theorem headerEmpty_bool (au nu : Int) (sa : Option Addr) (n c : Nat) (sb : Option Addr) (m d : Nat) (r : Bool) (w : World) (h : r = decide (au = 0 ∧ nu = 0 ∧ n = 0 ∧ m = 0)) :
    Calls Try.prog 41 #[.agg #[.int .i64 au, .int .i64 nu, .slice sa n c, .slice sb m d]] w fun e w' => e = .returned (.bool r) ∧ Below w.heap.size w w' := by
  by_cases h1 : au = 0
  · by_cases h2 : nu = 0
    · by_cases h3 : n = 0
      · by_cases h4 : m = 0
        · obtain rfl : r = true := by simp [h, h1, h2, h3, h4]
          clear h
          go_enter Try.func41, Try.ntmps41
          go_wp2_with fail
          go_ret
          exact ⟨by first | rfl | exact ret_bool (beq_eq_false_iff_ne.2 (by omega)), (Below.refl _ _).alloc (Nat.le_refl _) _⟩
        · have h4I : ¬ (m : Int) = 0 := by omega
          obtain rfl : r = false := by simp [h, h4]
          clear h
          go_enter Try.func41, Try.ntmps41
          go_wp2_with fail
          go_ret
          exact ⟨by first | rfl | exact ret_bool (beq_eq_false_iff_ne.2 (by omega)), (Below.refl _ _).alloc (Nat.le_refl _) _⟩
      · have h3I : ¬ (n : Int) = 0 := by omega
        obtain rfl : r = false := by simp [h, h3]
        clear h
        go_enter Try.func41, Try.ntmps41
        go_wp2_with fail
        go_ret
        exact ⟨by first | rfl | exact ret_bool (beq_eq_false_iff_ne.2 (by omega)), (Below.refl _ _).alloc (Nat.le_refl _) _⟩
    · obtain rfl : r = false := by simp [h, h2]
      clear h
      go_enter Try.func41, Try.ntmps41
      go_wp2_with fail
      go_ret
      exact ⟨by first | rfl | exact ret_bool (beq_eq_false_iff_ne.2 (by omega)), (Below.refl _ _).alloc (Nat.le_refl _) _⟩
  · obtain rfl : r = false := by simp [h, h1]
    clear h
    go_enter Try.func41, Try.ntmps41
    go_wp2_with fail
    go_ret
    exact ⟨by first | rfl | exact ret_bool (beq_eq_false_iff_ne.2 (by omega)), (Below.refl _ _).alloc (Nat.le_refl _) _⟩
set_option maxRecDepth 100000 in
theorem headerEmpty_true (au nu : Int) (sa : Option Addr) (n c : Nat) (sb : Option Addr) (m d : Nat) (w : World) (h : au = 0 ∧ nu = 0 ∧ n = 0 ∧ m = 0) : Calls Try.prog 41 #[.agg #[.int .i64 au, .int .i64 nu, .slice sa n c, .slice sb m d]] w fun e w' => e = .returned (.bool true) ∧ Below w.heap.size w w' := headerEmpty_bool _ _ _ _ _ _ _ _ true w (by simp [h])
set_option maxRecDepth 100000 in
theorem headerEmpty_false (au nu : Int) (sa : Option Addr) (n c : Nat) (sb : Option Addr) (m d : Nat) (w : World) (h : ¬ (au = 0 ∧ nu = 0 ∧ n = 0 ∧ m = 0)) : Calls Try.prog 41 #[.agg #[.int .i64 au, .int .i64 nu, .slice sa n c, .slice sb m d]] w fun e w' => e = .returned (.bool false) ∧ Below w.heap.size w w' := headerEmpty_bool _ _ _ _ _ _ _ _ false w (by rw [decide_eq_false h])
end Go.Proofs.Ytchmfbhdnhaleaa

namespace Go.Proofs.Ytchmfbhdnhaleaa
open Go.RowKit

set_option maxRecDepth 100000 in
set_option maxHeartbeats 1000000 in
theorem batchFault_any (au nu : Int) (sa : Option Addr) (n cap : Nat) (ss : List ByteArray) (w : World) (hn : n = ss.length) (hm : n ≤ maxLen) (hs : StrsAt w sa ss) :
    Calls Try.prog 37 #[.agg #[.int .i64 au, .int .i64 nu, .slice sa n cap]] w fun e w' => e = .returned (.int .i64 (batchF au nu ss)) ∧ Below w.heap.size w w' := by
  subst hn
  unfold maxLen at hm
  by_cases ha : 0 ≤ au ∧ au < 4
  · by_cases hr : 1 ≤ nu ∧ nu ≤ 1048576
    · by_cases hl : ss.length < 1 ∨ 4 < ss.length
      · have hF : Hid (batchF au nu ss = 1) := by show _ = _; rw [batchF, if_neg (by simp [ha, hr]), if_pos hl]
        have hlI : ¬ (1 ≤ (ss.length : Int) ∧ (ss.length : Int) ≤ 4) := by omega
        rcases hl with hl | hl
        · have hl0 : ss.length = 0 := by omega
          rw [hl0]
          go_enter Try.func37, Try.ntmps37
          go_wp2_with (go_at_call 36; first | (refine (in_true _ _ _ _ (by omega)).mono ?_; rintro e w' ⟨rfl, rfl⟩) | (refine (in_false _ _ _ _ (by omega)).mono ?_; rintro e w' ⟨rfl, rfl⟩))
          go_ret
          exact ⟨ret_int hF.out.symm, (Below.refl _ _).alloc (Nat.le_refl _) _⟩
        · have hl1 : (4 : Int) < ss.length := by omega
          have hl2 : ¬ (ss.length : Int) < 1 := by omega
          go_enter Try.func37, Try.ntmps37
          go_wp2_with (go_at_call 36; first | (refine (in_true _ _ _ _ (by omega)).mono ?_; rintro e w' ⟨rfl, rfl⟩) | (refine (in_false _ _ _ _ (by omega)).mono ?_; rintro e w' ⟨rfl, rfl⟩))
          go_ret
          exact ⟨ret_int hF.out.symm, (Below.refl _ _).alloc (Nat.le_refl _) _⟩
      · have hF : Hid (batchF au nu ss = if ss.all txOk then 0 else 1) := by show _ = _; rw [batchF, if_neg (by simp [ha, hr]), if_neg hl]
        have hl1 : ¬ (4 : Int) < ss.length := by omega
        have hl2 : ¬ (ss.length : Int) < 1 := by omega
        go_enter Try.func37, Try.ntmps37
        go_wp2_with (go_at_call 36; first | (refine (in_true _ _ _ _ (by omega)).mono ?_; rintro e w' ⟨rfl, rfl⟩) | (refine (in_false _ _ _ _ (by omega)).mono ?_; rintro e w' ⟨rfl, rfl⟩))
        go_loop [3] (fun i => ∃ k : Nat, k ≤ ss.length ∧ i = .int .i64 k ∧ ∀ q, q < k → txOk (ss.getD q ByteArray.empty) = true) (fun i => ss.length - (intOf i).toNat)
        case atStart => exact ⟨0, Nat.zero_le _, rfl, fun q hq => by omega⟩
        case round =>
          obtain ⟨k, hk, rfl, hall⟩ := hrel
          by_cases hlt : k < ss.length
          · rcases hs.cells with hc | ⟨sb, so, rfl, hc⟩
            · subst hc; simp at hlt
            have hltI : (k : Int) < ss.length := by omega
            have ck := hc k hlt
            have ck2 := (((Below.refl w.heap.size w).alloc (Nat.le_refl _) (.cells #[.int .i64 au, .int .i64 nu, .slice (some ⟨sb, so, none⟩) ss.length cap] 24)).cell (p := ⟨sb, so + k, none⟩) (block_lt_of_cell ck)).trans ck
            have hz : (ss.getD k ByteArray.empty).size ≤ 9223372036854775807 := hs.size _ (by simp [List.getD, hlt])
            have hT : txOk (ss.getD k ByteArray.empty) = decide (1 ≤ (ss.getD k ByteArray.empty).size ∧ (ss.getD k ByteArray.empty).size ≤ 20) := rfl
            have hstep : Hid (txOk (ss.getD k ByteArray.empty) = true → ∀ q, q < k + 1 → txOk (ss.getD q ByteArray.empty) = true) := by
              show _ → _
              intro h q hq
              rcases Nat.lt_or_ge q k with g | g
              · exact hall q g
              · obtain rfl : q = k := by omega
                exact h
            have hno : Hid (txOk (ss.getD k ByteArray.empty) = false → ss.all txOk = false) := by
              show _ → _
              exact all_false ss txOk ByteArray.empty k hlt
            clear hall hc ck
            generalize ss.getD k ByteArray.empty = s at *
            by_cases h1 : 1 ≤ s.size
            · have h1I : ¬ (s.size : Int) < 1 := by omega
              by_cases h2 : s.size ≤ 20
              · have h2I : ¬ (20 : Int) < s.size := by omega
                have hst := hstep.out (by rw [hT]; simp [h1, h2])
                clear hT hstep hno
                go_wp2_with (go_at_call 36; first | (refine (in_true _ _ _ _ (by omega)).mono ?_; rintro e w' ⟨rfl, rfl⟩) | (refine (in_false _ _ _ _ (by omega)).mono ?_; rintro e w' ⟨rfl, rfl⟩))
                go_round
                case rel => exact ⟨k + 1, by omega, by go_num, hst⟩
                case measure => simp [intOf]; omega
              · have h2I : (20 : Int) < s.size := by omega
                have hst := hno.out (by rw [hT]; simp [h2])
                clear hT hstep hno
                rw [hst] at hF
                go_wp2_with (go_at_call 36; first | (refine (in_true _ _ _ _ (by omega)).mono ?_; rintro e w' ⟨rfl, rfl⟩) | (refine (in_false _ _ _ _ (by omega)).mono ?_; rintro e w' ⟨rfl, rfl⟩))
                go_ret
                exact ⟨ret_int (by rw [hF.out]; rfl), (Below.refl _ _).alloc (Nat.le_refl _) _⟩
            · have h1I : (s.size : Int) < 1 := by omega
              have hst := hno.out (by rw [hT]; simp [h1])
              clear hT hstep hno
              rw [hst] at hF
              go_wp2_with (go_at_call 36; first | (refine (in_true _ _ _ _ (by omega)).mono ?_; rintro e w' ⟨rfl, rfl⟩) | (refine (in_false _ _ _ _ (by omega)).mono ?_; rintro e w' ⟨rfl, rfl⟩))
              go_ret
              exact ⟨ret_int (by rw [hF.out]; rfl), (Below.refl _ _).alloc (Nat.le_refl _) _⟩
          · obtain rfl : k = ss.length := by omega
            have hst := all_true ss txOk ByteArray.empty hall
            rw [hst] at hF
            go_wp2_with fail
            go_ret
            exact ⟨ret_int (by rw [hF.out]; rfl), (Below.refl _ _).alloc (Nat.le_refl _) _⟩
    · have hF : Hid (batchF au nu ss = 2) := by show _ = _; simp [batchF, hr]
      go_enter Try.func37, Try.ntmps37
      go_wp2_with (go_at_call 36; first | (refine (in_true _ _ _ _ (by omega)).mono ?_; rintro e w' ⟨rfl, rfl⟩) | (refine (in_false _ _ _ _ (by omega)).mono ?_; rintro e w' ⟨rfl, rfl⟩))
      go_ret
      exact ⟨ret_int hF.out.symm, (Below.refl _ _).alloc (Nat.le_refl _) _⟩
  · have hF : Hid (batchF au nu ss = 2) := by show _ = _; simp [batchF, ha]
    go_enter Try.func37, Try.ntmps37
    go_wp2_with (go_at_call 36; first | (refine (in_true _ _ _ _ (by omega)).mono ?_; rintro e w' ⟨rfl, rfl⟩) | (refine (in_false _ _ _ _ (by omega)).mono ?_; rintro e w' ⟨rfl, rfl⟩))
    go_ret
    exact ⟨ret_int hF.out.symm, (Below.refl _ _).alloc (Nat.le_refl _) _⟩
end Go.Proofs.Ytchmfbhdnhaleaa

namespace Go.Proofs.Ytchmfbhdnhaleaa
open Go.RowKit

set_option maxRecDepth 100000 in
theorem sameBytes_any (xs ys : List Int) (sa sb : Option Addr) (n m c d : Nat) (w : World) (hn : n = xs.length) (hm : m = ys.length) (ha : SliceAt w sa c xs) (hb : SliceAt w sb d ys) :
    Calls Try.prog 63 #[.slice sa n c, .slice sb m d] w fun e w' => e = .returned (.bool (decide (txL xs = txL ys))) ∧ w = w' := by
  have h1 := run_text w sa n c xs hn ha
  have h2 := run_text w sb m d ys hm hb
  clear hn hm ha hb
  unfold txL
  generalize bstr xs = A at *
  generalize bstr ys = B at *
  go_enter Try.func63, Try.ntmps63
  go_wp2_with fail
  go_ret
  refine ⟨ret_bool ?_, rfl⟩
  by_cases h : A.toList = B.toList <;> simp [h]
end Go.Proofs.Ytchmfbhdnhaleaa

namespace Go.Proofs.Ytchmfbhdnhaleaa
open Go.RowKit

set_option maxRecDepth 100000 in
theorem twice_yes (ps : List Part) (k m : Nat) (hm : m < k) (h : txL (partAt ps m).bs = txL (partAt ps k).bs) : twice ps k = true := by
  simp only [twice, List.any_eq_true]
  exact ⟨m, by simpa using hm, by simpa using h⟩
set_option maxRecDepth 100000 in
theorem twice_no (ps : List Part) (k : Nat) (h : ∀ j, j < k → ¬ txL (partAt ps j).bs = txL (partAt ps k).bs) : twice ps k = false := by
  simp only [twice, List.any_eq_false]
  intro j hj
  simpa using h j (by simpa using hj)

set_option maxRecDepth 100000 in
set_option maxHeartbeats 1000000 in
theorem digestsFault_any (ps : List Part) (sa : Option Addr) (n cap : Nat) (w : World) (hn : n = ps.length) (hcm : n ≤ 9000000000000000000) (hp : PartsAt w sa ps) :
    Calls Try.prog 55 #[.slice sa n cap] w fun e w' => e = .returned (.int .i64 (digF ps)) ∧ Below w.heap.size w w' := by
  subst hn
  go_enter Try.func55, Try.ntmps55
  go_wp2_with fail
  go_loopw [3] (fun i wr => ∃ k : Nat, k ≤ ps.length ∧ i = .int .i64 k ∧ digTo1 ps k = 0 ∧ Below w.heap.size w wr) (fun i _ => ps.length - (intOf i).toNat)
  case atStart => exact ⟨0, Nat.zero_le _, rfl, rfl, Below.refl _ _⟩
  case round =>
    obtain ⟨k, hk, rfl, h0, hb⟩ := hrel
    by_cases hlt : k < ps.length
    · have hpw := hp.below hb
      obtain ⟨sb, so, rfl, hc⟩ : ∃ sb so, sa = some ⟨sb, so, none⟩ ∧ ∀ j (h : j < ps.length), wr.cell? ⟨sb, so + j, none⟩ = some (.slice (ps[j]).sa (ps[j]).bs.length (ps[j]).cap) := by
        rcases hpw.cells with h | h
        · rw [h] at hlt; simp at hlt
        · exact h
      have hx := hpw.each (ps[k]) (List.getElem_mem hlt)
      have hpe := partAt_get ps k hlt
      have ck := hc k hlt
      have Hc : Hid (∀ j (h : j < ps.length), wr.cell? ⟨sb, so + j, none⟩ = some (.slice (ps[j]).sa (ps[j]).bs.length (ps[j]).cap)) := hc
      clear hc
      have hltI : (k : Int) < ps.length := by omega
      have hAt : Hid (digAt ps k = if (ps[k]).bs.length ≠ 32 then 4 else if twice ps k then 7 else 0) := by
        show _ = _
        rw [digAt, hpe]
      have hF : Hid (digAt ps k ≠ 0 → digF ps = digAt ps k) := by
        show _ → _
        exact digF_at ps k hlt h0
      have hS : Hid (digAt ps k = 0 → digTo1 ps (k + 1) = 0) := by
        show _ → _
        intro h
        rw [digTo1, h0, h]; rfl
      have hxl : (ps[k]).bs.length ≤ 9223372036854775807 := Nat.le_trans hx.le hx.max
      generalize hpk : ps[k] = p at *
      by_cases h32 : p.bs.length = 32
      · have e7 : Hid (twice ps k = true → digF ps = 7) := by
          show _ → _
          intro hT
          have : digAt ps k = 7 := by rw [hAt.out, if_neg (by simp [h32]), hT]; rfl
          rw [hF.out (by rw [this]; decide), this]
        have e0 : Hid (twice ps k = false → digTo1 ps (k + 1) = 0) := by
          show _ → _
          intro hT
          exact hS.out (by rw [hAt.out, if_neg (by simp [h32]), hT]; rfl)
        have hY : Hid (∀ m, m < k → txL (partAt ps m).bs = txL p.bs → twice ps k = true) := by
          show ∀ m, _
          intro m hm h
          exact twice_yes ps k m hm (by rw [hpe]; exact h)
        have hN : Hid ((∀ j, j < k → ¬ txL (partAt ps j).bs = txL p.bs) → twice ps k = false) := by
          show _ → _
          intro h
          exact twice_no ps k (fun j hj => by rw [hpe]; exact h j hj)
        clear hAt hF hS h0 hpe
        go_wp2_with fail
        go_loopw [4] (fun i wq => ∃ m : Nat, m ≤ k ∧ i = .int .i64 m ∧ (∀ j, j < m → ¬ txL (partAt ps j).bs = txL p.bs) ∧ Below w.heap.size w wq) (fun i _ => k - (intOf i).toNat)
        case atStart => exact ⟨0, Nat.zero_le _, rfl, (fun j hj => by omega), hb⟩
        case round =>
          clear Hc hx ck hb hpw
          obtain ⟨m, hm, rfl, hno, hb⟩ := hrel
          have hpw := hp.below hb
          by_cases hmk : m < k
          · have hmp : m < ps.length := by omega
            have hc : ∀ j (h : j < ps.length), wr.cell? ⟨sb, so + j, none⟩ = some (.slice (ps[j]).sa (ps[j]).bs.length (ps[j]).cap) := by
              rcases hpw.cells with h | ⟨sb', so', e, h⟩
              · rw [h] at hlt; simp at hlt
              · cases e; exact h
            have cm := hc m hmp
            have ck := hc k hlt
            have hx := hpw.each (ps[k]) (List.getElem_mem hlt)
            rw [hpk] at ck hx
            clear hc
            have hxm := hpw.each (ps[m]) (List.getElem_mem hmp)
            have hpm := partAt_get ps m hmp
            have hmkI : (m : Int) < k := by omega
            have hmpI : (m : Int) < ps.length := by omega
            have Hno : Hid (¬ txL (ps[m]).bs = txL p.bs → ∀ j, j < m + 1 → ¬ txL (partAt ps j).bs = txL p.bs) := by
              show _ → _
              intro h j hj
              rcases Nat.lt_or_ge j m with g | g
              · exact hno j g
              · obtain rfl : j = m := by omega
                rw [hpm]; exact h
            have Hyes : Hid (txL (ps[m]).bs = txL p.bs → digF ps = 7) := by
              show _ → _
              intro h
              exact e7.out (hY.out m hmk (by rw [hpm]; exact h))
            clear hno hpm
            generalize ps[m] = q at *
            go_wp2_with fail
            go_region_held2 (fun w' => w'.cell? ⟨sb, so + m, none⟩ = some (.slice q.sa q.bs.length q.cap) ∧ w'.cell? ⟨sb, so + k, none⟩ = some (.slice p.sa p.bs.length p.cap)) (go_keep) ((go_at_call 63; refine (sameBytes_any q.bs p.bs q.sa p.sa _ _ q.cap p.cap _ (by first | rfl | exact h32.symm) (by first | rfl | exact h32.symm) (hxm.below ?_) (hx.below ?_)).mono ?_; exact (Below.refl _ _).drew; exact (Below.refl _ _).drew; rintro e w1 ⟨rfl, rfl⟩))
            all_goals
              by_cases h : txL q.bs = txL p.bs
              · have hy := Hyes.out h
                rw [decide_eq_true h]
                clear Hyes Hno h
                go_wp2_with fail
                go_ret
                exact ⟨ret_int hy.symm, hb.drew⟩
              · have hn := Hno.out h
                rw [decide_eq_false h]
                clear Hyes Hno h
                go_wp2_with fail
                go_roundw
                case rel =>
                  have hR : ∃ m' : Nat, m' ≤ k ∧ (Value.int .i64 ((m : Int) + 1)) = .int .i64 m' ∧ (∀ j, j < m' → ¬ txL (partAt ps j).bs = txL p.bs) ∧ Below w.heap.size w wr.drew := ⟨m + 1, by omega, by go_num, hn, hb.drew⟩
                  first | exact hR | ((repeat apply Exists.intro); exact ⟨hR, rfl⟩)
                case measure => simp [intOf]; omega
          · obtain rfl : m = k := by omega
            have h1 := e0.out (hN.out hno)
            clear hno
            go_wp2_with fail
            go_roundw
            case rel =>
              have hR : ∃ k' : Nat, k' ≤ ps.length ∧ (Value.int .i64 ((m : Int) + 1)) = .int .i64 k' ∧ digTo1 ps k' = 0 ∧ Below w.heap.size w wr := ⟨m + 1, by omega, by go_num, h1, hb⟩
              first | exact hR | ((repeat apply Exists.intro); exact ⟨hR, rfl⟩)
            case measure => simp [intOf]; omega
      · have h32I : ¬ (p.bs.length : Int) = 32 := by omega
        have e4 : Hid (digF ps = 4) := by
          show _ = _
          have : digAt ps k = 4 := by rw [hAt.out, if_pos h32]
          rw [hF.out (by rw [this]; decide), this]
        clear hAt hF hS
        go_wp2_with fail
        go_ret
        exact ⟨ret_int e4.out.symm, hb⟩
    · obtain rfl : k = ps.length := by omega
      go_wp2_with fail
      go_ret
      exact ⟨ret_int h0.symm, hb⟩
end Go.Proofs.Ytchmfbhdnhaleaa
