/- The law sheaveskeep.RecordBad answers true for every argument, and each argument reads behind the call as it read before: no condition but the form's own reach. -/
import Derived.Test.YtcmlmmlcebemgaaRecordBadM24
import Derived.Test.YtcmlmmlcebemgaaCalls
import Derived.Test.YtcmlmmlcebemgaaRawU
import Derived.Test.YtcmlmmlcebemgaaOwnL
import Derived.Test.YtcmlmmlcebemgaaWithout
import Derived.Test.YtcmlmmlcebemgaaMsg
import Derived.ArgAppend
import Derived.Deep.RegionHeld3
import Derived.Deep.CutRange
import Derived.Deep.DeepCutAuto
import Derived.Test.YtcmlmmlcebemgaaRecordBadM12
import Derived.Test.YtcmlmmlcebemgaaOpenB
import Derived.Test.YtcmlmmlcebemgaaTextsAt
import Derived.Deep.Strs
import Derived.Test.YtcmlmmlcebemgaaRecordBadM18
import Derived.Test.YtcmlmmlcebemgaaRows
import Derived.WalkKit
import Derived.ProofKit
import Derived.OpenShut
import Derived.Deep.DeepHandedRow
import Derived.SevenTiedAt
import Derived.Below
namespace Go.Proofs.Ytcmlmmlcebemgaa
open Go.RowKit

set_option maxRecDepth 100000 in
set_option maxHeartbeats 400000 in
theorem mayBe_any (sa : Option Addr) (n cap : Nat) (sy : Int) (w : World) (hn : n ≤ 140737488355328) :
    Calls Try.prog 26 #[.agg #[.slice sa n cap, .int .i64 sy]] w fun e w' => e = .returned (.bool (tapeOk n sy)) ∧ Below w.heap.size w w' := by
  have hA : Below w.heap.size w (w.alloc (.cells #[.slice sa n cap, .int .i64 sy] 28)) := (Below.refl _ _).alloc (Nat.le_refl _) _
  by_cases h1 : (n : Int) ≤ 400000
  · by_cases h2 : 0 ≤ sy
    · by_cases h3 : sy ≤ n
      · have hF : Hid (tapeOk n sy = true) := tapeOk_iff.2 ⟨by omega, h2, h3⟩
        go_enter Try.func26, Try.ntmps26
        go_wp2_with fail
        go_ret
        exact ⟨by rw [hF.out]; rfl, hA⟩
      · have hF : Hid (tapeOk n sy = false) := tapeOk_not (by omega)
        go_enter Try.func26, Try.ntmps26
        go_wp2_with fail
        go_ret
        exact ⟨by rw [hF.out]; rfl, hA⟩
    · have hF : Hid (tapeOk n sy = false) := tapeOk_not (by omega)
      go_enter Try.func26, Try.ntmps26
      go_wp2_with fail
      go_ret
      exact ⟨by rw [hF.out]; rfl, hA⟩
  · have hF : Hid (tapeOk n sy = false) := tapeOk_not (by omega)
    go_enter Try.func26, Try.ntmps26
    go_wp2_with fail
    go_ret
    exact ⟨by rw [hF.out]; rfl, hA⟩
set_option maxRecDepth 100000 in
set_option maxHeartbeats 400000 in
theorem tapeCut_any (bs : List Int) (sa : Option Addr) (n cap k : Nat) (s0 sy : Int) (w : World) (hn : n = bs.length) (hs : SliceAt w sa cap bs) (hk : k ≤ bs.length) (hl : bs.length ≤ 140737488355328) :
    Calls Try.prog 27 #[.agg #[.slice sa n cap, .int .i64 s0], .int .i64 k, .int .i64 sy] w fun e w' => ∃ ra rc, e = .returned (.agg #[.slice ra k rc, .int .i64 sy]) ∧ SliceAt w' ra rc (bs.take k) ∧ (∀ sb so, ra = some ⟨sb, so, none⟩ → w.heap.size ≤ sb ∧ sb < w'.heap.size) ∧ Below w.heap.size w w' := by
  subst hn
  have hle := hs.le
  have hA : Below w.heap.size w ((w.alloc (.cells #[.slice sa bs.length cap, .int .i64 s0] 28)).alloc (.cells #[.slice none 0 0, .int .i64 0] 28)) := ((Below.refl _ _).alloc (Nat.le_refl _) _).alloc (by simp) _
  have r0 := heap_alloc2_old w (.cells #[.slice sa bs.length cap, .int .i64 s0] 28) (.cells #[.slice none 0 0, .int .i64 0] 28)
  have r1 := heap_alloc2_new w (.cells #[.slice sa bs.length cap, .int .i64 s0] 28) (.cells #[.slice none 0 0, .int .i64 0] 28)
  have hkn : sa = none → k = 0 := fun h => by have := hs.nil h; omega
  have hT := clone_any (bs.take k) sa k k _ (by simp; omega) ((hs.below hA).takeT k k hk (Nat.le_refl _) (by omega) hkn) (by rw [List.length_take]; omega)
  have hL : Hid ((bs.take k).length = k) := by show _ = _; rw [List.length_take]; omega
  rw [hL.out] at hT
  have hkc : (k : Int) ≤ cap := by omega
  have hk0 : (0 : Int) ≤ k := by omega
  clear hkn hs
  go_enter Try.func27, Try.ntmps27
  go_wp2_with fail
  generalize (w.alloc (.cells #[.slice sa bs.length cap, .int .i64 s0] 28)).alloc (.cells #[.slice none 0 0, .int .i64 0] 28) = W0 at hA r0 r1 hT ⊢
  refine hT.mono ?_
  rintro e w1 ⟨ra, rc, he, hs1, hfr, hb1⟩
  subst he
  dsimp only
  have p1 := (hb1.block _ (lt_of_heap r1)).trans r1
  have d0 : w1.cell? ⟨w.heap.size + 1, 0, none⟩ = some (.slice none 0 0) := cells_at p1 0 _ rfl
  have d1 : w1.cell? ⟨w.heap.size + 1, 1, none⟩ = some (.int .i64 0) := cells_at p1 1 _ rfl
  have f0 := frozen_at p1 0
  have f1 := frozen_at p1 1
  have hlt := lt_of_heap r1
  go_wp2_with fail
  refine bodyPost_ret (v := .agg #[.slice ra k rc, .int .i64 sy]) (by simp [results, Try.results27, go_sem, d0, d1]) rfl ⟨ra, rc, rfl, ?_, ?_, ?_⟩
  · exact (hs1.setCellT _ _ _ (fun sb so e => by have := (hfr sb so e).1; omega)).setCellT _ _ _ (fun sb so e => by have := (hfr sb so e).1; omega)
  · intro sb so e
    obtain ⟨g1, g2⟩ := hfr sb so e
    exact ⟨by omega, by simpa using g2⟩
  · exact ((hA.trans (hb1.mono hA.size)).setCell (by simp) _).setCell (by simp) _
end Go.Proofs.Ytcmlmmlcebemgaa

namespace Go.Proofs.Ytcmlmmlcebemgaa
open Go.RowKit

/-- P8.3: X is what is told of the record, B its bytes. -/
def appF (n : Nat) (sy X : Int) (L : Nat) : Int := if tapeOk n sy then (if X ≠ 0 then X else if 400000 < n + 2 + L then 6 else 0) else 12
def appB (bs : List Int) (F : Int) (B : List Int) : List Int := if F = 0 then bs ++ [(B.length : Int) / 256, (B.length : Int) % 256] ++ B else []
def appS (sy F : Int) : Int := if F = 0 then sy else 0
set_option maxRecDepth 100000 in
theorem appIs_bad {w w' : World} {bs B : List Int} {sy F er : Int} (hF : F = er) (h0 : er ≠ 0) (hb : Below w.heap.size w w') : TapeIs w w' (.returned (.tuple #[.agg #[.slice none 0 0, .int .i64 0], .int .i64 er])) (appB bs F B) (appS sy F) F := by
  subst hF
  rw [appB, appS, if_neg h0, if_neg h0]
  exact TapeIs.bad _ hb
set_option maxRecDepth 100000 in
theorem heap_cell_alloc {w : World} {o : Obj} {a : Addr} {v : Value} (h : w.cell? a = some v) : (w.alloc o).cell? a = some v := by
  have hl : a.block < w.heap.size := block_lt_of_cell h
  exact (((Below.refl w.heap.size w).alloc (Nat.le_refl _) o).cell hl).trans h
set_option maxRecDepth 100000 in
set_option maxHeartbeats 4000000 in
theorem tapeAppend_any (m : Msg) (bs : List Int) (sa : Option Addr) (n cap : Nat) (sy X : Int) (B : List Int) (w : World) (hn : n = bs.length) (hs : SliceAt w sa cap bs) (hl : bs.length ≤ 140737488355328) (hX : X ≠ 0 → B = []) (hX0 : X = 0 → 0 < B.length) (hBL : B.length ≤ 4000)
    (HE : ∀ W : World, Below w.heap.size w W → Calls Try.prog 28 #[.agg #[.int .i64 m.fr, .int .i64 m.tt, .int .i64 m.ki, .int .i64 m.bau, .int .i64 m.bnu, .slice m.bta m.btn m.btc, .int .i64 m.hau, .int .i64 m.hrd, .slice m.hba m.hbn m.hbc, .slice m.hpa m.hpn m.hpc, .int .i64 m.sau, .int .i64 m.srd, .slice m.sda m.sdn m.sdc, .int .i64 m.cau, .int .i64 m.crd, .slice m.cba m.cbn m.cbc, .slice m.cpa m.cpn m.cpc, .slice m.cva m.cvn m.cvc, .int .i64 m.ro]] W fun e w' => ∃ v, e = .returned (.tuple #[v, .int .i64 X]) ∧ w'.ownsRow W.heap.size 5 1 v B.length (ub B) ∧ Below W.heap.size W w') :
    Calls Try.prog 17 #[.agg #[.slice sa n cap, .int .i64 sy], .agg #[.int .i64 m.fr, .int .i64 m.tt, .int .i64 m.ki, .int .i64 m.bau, .int .i64 m.bnu, .slice m.bta m.btn m.btc, .int .i64 m.hau, .int .i64 m.hrd, .slice m.hba m.hbn m.hbc, .slice m.hpa m.hpn m.hpc, .int .i64 m.sau, .int .i64 m.srd, .slice m.sda m.sdn m.sdc, .int .i64 m.cau, .int .i64 m.crd, .slice m.cba m.cbn m.cbc, .slice m.cpa m.cpn m.cpc, .slice m.cva m.cvn m.cvc, .int .i64 m.ro]] w fun e w' => TapeIs w w' e (appB bs (appF bs.length sy X B.length) B) (appS sy (appF bs.length sy X B.length)) (appF bs.length sy X B.length) := by
  subst hn
  have HE' : Hid (∀ W : World, Below w.heap.size w W → Calls Try.prog 28 #[.agg #[.int .i64 m.fr, .int .i64 m.tt, .int .i64 m.ki, .int .i64 m.bau, .int .i64 m.bnu, .slice m.bta m.btn m.btc, .int .i64 m.hau, .int .i64 m.hrd, .slice m.hba m.hbn m.hbc, .slice m.hpa m.hpn m.hpc, .int .i64 m.sau, .int .i64 m.srd, .slice m.sda m.sdn m.sdc, .int .i64 m.cau, .int .i64 m.crd, .slice m.cba m.cbn m.cbc, .slice m.cpa m.cpn m.cpc, .slice m.cva m.cvn m.cvc, .int .i64 m.ro]] W fun e w' => ∃ v, e = .returned (.tuple #[v, .int .i64 X]) ∧ w'.ownsRow W.heap.size 5 1 v B.length (ub B) ∧ Below W.heap.size W w') := HE
  clear HE
  have HS : Hid (SliceAt w sa cap bs) := hs
  have hle := hs.le
  have hA : Below w.heap.size w (((w.alloc (.cells #[.slice sa bs.length cap, .int .i64 sy] 28)).alloc (.cells #[.int .i64 m.fr, .int .i64 m.tt, .int .i64 m.ki, .int .i64 m.bau, .int .i64 m.bnu, .slice m.bta m.btn m.btc, .int .i64 m.hau, .int .i64 m.hrd, .slice m.hba m.hbn m.hbc, .slice m.hpa m.hpn m.hpc, .int .i64 m.sau, .int .i64 m.srd, .slice m.sda m.sdn m.sdc, .int .i64 m.cau, .int .i64 m.crd, .slice m.cba m.cbn m.cbc, .slice m.cpa m.cpn m.cpc, .slice m.cva m.cvn m.cvc, .int .i64 m.ro] 47)).alloc (.cells #[.slice none 0 0, .int .i64 0] 28)) := (((Below.refl _ _).alloc (Nat.le_refl _) _).alloc (by simp) _).alloc (by simp; omega) _
  have r0 := heap_keep (o := .cells #[.slice none 0 0, .int .i64 0] 28) (heap_alloc2_old w (.cells #[.slice sa bs.length cap, .int .i64 sy] 28) (.cells #[.int .i64 m.fr, .int .i64 m.tt, .int .i64 m.ki, .int .i64 m.bau, .int .i64 m.bnu, .slice m.bta m.btn m.btc, .int .i64 m.hau, .int .i64 m.hrd, .slice m.hba m.hbn m.hbc, .slice m.hpa m.hpn m.hpc, .int .i64 m.sau, .int .i64 m.srd, .slice m.sda m.sdn m.sdc, .int .i64 m.cau, .int .i64 m.crd, .slice m.cba m.cbn m.cbc, .slice m.cpa m.cpn m.cpc, .slice m.cva m.cvn m.cvc, .int .i64 m.ro] 47))
  have r1 := heap_keep (o := .cells #[.slice none 0 0, .int .i64 0] 28) (heap_alloc2_new w (.cells #[.slice sa bs.length cap, .int .i64 sy] 28) (.cells #[.int .i64 m.fr, .int .i64 m.tt, .int .i64 m.ki, .int .i64 m.bau, .int .i64 m.bnu, .slice m.bta m.btn m.btc, .int .i64 m.hau, .int .i64 m.hrd, .slice m.hba m.hbn m.hbc, .slice m.hpa m.hpn m.hpc, .int .i64 m.sau, .int .i64 m.srd, .slice m.sda m.sdn m.sdc, .int .i64 m.cau, .int .i64 m.crd, .slice m.cba m.cbn m.cbc, .slice m.cpa m.cpn m.cpc, .slice m.cva m.cvn m.cvc, .int .i64 m.ro] 47))
  have r2 := heap_new_at ((w.alloc (.cells #[.slice sa bs.length cap, .int .i64 sy] 28)).alloc (.cells #[.int .i64 m.fr, .int .i64 m.tt, .int .i64 m.ki, .int .i64 m.bau, .int .i64 m.bnu, .slice m.bta m.btn m.btc, .int .i64 m.hau, .int .i64 m.hrd, .slice m.hba m.hbn m.hbc, .slice m.hpa m.hpn m.hpc, .int .i64 m.sau, .int .i64 m.srd, .slice m.sda m.sdn m.sdc, .int .i64 m.cau, .int .i64 m.crd, .slice m.cba m.cbn m.cbc, .slice m.cpa m.cpn m.cpc, .slice m.cva m.cvn m.cvc, .int .i64 m.ro] 47)) (.cells #[.slice none 0 0, .int .i64 0] 28) (w.heap.size + 1 + 1) (by simp)
  have hM := mayBe_any sa bs.length cap sy (((w.alloc (.cells #[.slice sa bs.length cap, .int .i64 sy] 28)).alloc (.cells #[.int .i64 m.fr, .int .i64 m.tt, .int .i64 m.ki, .int .i64 m.bau, .int .i64 m.bnu, .slice m.bta m.btn m.btc, .int .i64 m.hau, .int .i64 m.hrd, .slice m.hba m.hbn m.hbc, .slice m.hpa m.hpn m.hpc, .int .i64 m.sau, .int .i64 m.srd, .slice m.sda m.sdn m.sdc, .int .i64 m.cau, .int .i64 m.crd, .slice m.cba m.cbn m.cbc, .slice m.cpa m.cpn m.cpc, .slice m.cva m.cvn m.cvc, .int .i64 m.ro] 47)).alloc (.cells #[.slice none 0 0, .int .i64 0] 28)) hl
  have hF : appF bs.length sy X B.length = if tapeOk bs.length sy then (if X ≠ 0 then X else if 400000 < bs.length + 2 + B.length then 6 else 0) else 12 := rfl
  generalize appF bs.length sy X B.length = F at hF ⊢
  have HF : Hid _ := hF
  clear hF hs
  go_enter Try.func17, Try.ntmps17
  go_wp2_with fail
  generalize ((w.alloc (.cells #[.slice sa bs.length cap, .int .i64 sy] 28)).alloc (.cells #[.int .i64 m.fr, .int .i64 m.tt, .int .i64 m.ki, .int .i64 m.bau, .int .i64 m.bnu, .slice m.bta m.btn m.btc, .int .i64 m.hau, .int .i64 m.hrd, .slice m.hba m.hbn m.hbc, .slice m.hpa m.hpn m.hpc, .int .i64 m.sau, .int .i64 m.srd, .slice m.sda m.sdn m.sdc, .int .i64 m.cau, .int .i64 m.crd, .slice m.cba m.cbn m.cbc, .slice m.cpa m.cpn m.cpc, .slice m.cva m.cvn m.cvc, .int .i64 m.ro] 47)).alloc (.cells #[.slice none 0 0, .int .i64 0] 28) = W0 at hA r0 r1 r2 hM ⊢
  refine hM.mono ?_
  rintro e w1 ⟨he, hb1⟩
  subst he
  dsimp only
  have hB1 := hA.trans (hb1.mono hA.size)
  have p0 := (hb1.block _ (lt_of_heap r0)).trans r0
  have p1 := (hb1.block _ (lt_of_heap r1)).trans r1
  have p2 := (hb1.block _ (lt_of_heap r2)).trans r2
  clear hM r0 r1 r2 hb1 hA
  cases ht : tapeOk bs.length sy with
  | false =>
    have hF : Hid (F = 12) := by show _ = _; rw [HF.out, ht]; rfl
    have d0 : w1.cell? ⟨w.heap.size + 1 + 1, 0, none⟩ = some (.slice none 0 0) := cells_at p2 0 _ rfl
    have d1 : w1.cell? ⟨w.heap.size + 1 + 1, 1, none⟩ = some (.int .i64 0) := cells_at p2 1 _ rfl
    have f0 := frozen_at p2 0
    have f1 := frozen_at p2 1
    clear ht
    go_wp2_with fail
    refine bodyPost_ret (v := .tuple #[.agg #[.slice none 0 0, .int .i64 0], .int .i64 12]) (by simp [results, Try.results17, go_sem, d0, d1]) rfl (appIs_bad hF.out (by decide) ?_)
    exact (hB1.setCell (by simp; omega) _).setCell (by simp; omega) _
  | true =>
    obtain ⟨t1, t2, t3⟩ := tapeOk_iff.1 ht
    go_wp2_with (refine wpList_load_row rfl 47 _ rfl (w.heap.size + 1) rfl 47 _ (0, 0) _ p1 Try.underlying47 rfl sMsg ?_)
    refine (HE'.out w1 hB1).mono ?_
    rintro e w2 ⟨v, he, ho, hb2⟩
    subst he
    dsimp only
    have hB2 := hB1.trans (hb2.mono hB1.size)
    have q0 := (hb2.block _ (lt_of_heap p0)).trans p0
    have q2 := (hb2.block _ (lt_of_heap p2)).trans p2
    have hlt2 : w.heap.size + 1 + 1 < w1.heap.size := lt_of_heap p2
    clear p0 p1 p2
    by_cases hx : X = 0
    · have hLp := hX0 hx
      obtain ⟨ra, rc, hv, -, hs2⟩ := owns_form ho
      subst hv
      have c0 : w2.cell? ⟨w.heap.size, 0, none⟩ = some (.slice sa bs.length cap) := cells_at q0 0 _ rfl
      subst hx
      by_cases hbig : 400000 < bs.length + 2 + B.length
      · have hF : Hid (F = 6) := by show _ = _; rw [HF.out, ht]; simp [hbig]
        have hbigI : (400000 : Int) < (bs.length : Int) + 2 + (B.length : Int) := by omega
        have d0 : w2.cell? ⟨w.heap.size + 1 + 1, 0, none⟩ = some (.slice none 0 0) := cells_at q2 0 _ rfl
        have d1 : w2.cell? ⟨w.heap.size + 1 + 1, 1, none⟩ = some (.int .i64 0) := cells_at q2 1 _ rfl
        have f0 := frozen_at q2 0
        have f1 := frozen_at q2 1
        clear ht hX hX0 hLp hbig
        go_wp2_with fail
        refine bodyPost_ret (v := .tuple #[.agg #[.slice none 0 0, .int .i64 0], .int .i64 6]) (by simp [results, Try.results17, go_sem, d0, d1]) rfl (appIs_bad hF.out (by decide) ?_)
        exact (hB2.setCell (by simp; omega) _).setCell (by simp; omega) _
      · have hF : Hid (F = 0) := by show _ = _; rw [HF.out, ht]; simp [hbig]
        have hbigI : ¬ (400000 : Int) < (bs.length : Int) + 2 + (B.length : Int) := by omega
        have Hbig : Hid (bs.length + 2 + B.length ≤ 400000) := by show _ ≤ _; omega
        have hnc : (bs.length : Int) ≤ cap := by omega
        have hn0 : (0 : Int) ≤ bs.length := by omega
        have hL0 : (0 : Int) ≤ B.length := by omega
        have hL1 : (B.length : Int) ≤ 4000 := by omega
        have HL : Hid (0 < B.length ∧ B.length ≤ 4000) := ⟨hLp, hBL⟩
        obtain ⟨i, hi, hz0, hz1, hz2⟩ := info_parts infoU8
        have hsW := HS.out.below hB2
        clear ht hX hX0 hLp hbig hBL t1
        have hlt0 : w.heap.size < w2.heap.size := lt_of_heap q0
        have hlt2' : w.heap.size + 1 + 1 < w2.heap.size := lt_of_heap q2
        have Hnil : Hid (sa = none → bs.length = 0 ∧ bs.length = 0) := by
          show _ → _
          intro h
          have := hsW.nil h
          have := hsW.le
          omega
        have Hcell : Hid (∀ b, sa = some b → ∀ j u, (ub bs)[j]? = some u → w2.cell? (b.add j) = some u) := by
          show ∀ _, _
          intro b hb j u hu
          have hj : j < bs.length := by
            rcases Nat.lt_or_ge j bs.length with g | g
            · exact g
            · rw [List.getElem?_eq_none (by rw [ub_length]; exact g)] at hu; cases hu
          rcases hsW.bytes with h | ⟨sb, so, e, h⟩
          · rw [h] at hj; simp at hj
          · rw [hb] at e
            cases e
            rw [add_off, h j hj]
            simp [ub, hj] at hu
            simp [hj, hu]
        obtain ⟨rb, ro, hra, hrec⟩ : ∃ rb ro, ra = some ⟨rb, ro, none⟩ ∧ ∀ j, j < B.length → w2.cell? ⟨rb, ro + j, none⟩ = some (.int .u8 (B.getD j 0)) := by
          rcases hs2.bytes with h | h
          · rw [h] at HL; exact absurd HL.out.1 (by simp)
          · exact h
        subst hra
        have hrb : rb < w2.heap.size := block_lt_of_cell (hrec 0 HL.out.1)
        have Hrec : Hid (∀ j u, (ub B)[j]? = some u → w2.cell? ((⟨rb, ro, none⟩ : Addr).add j) = some u) := by
          show ∀ _, _
          intro j u hu
          have hj : j < B.length := by
            rcases Nat.lt_or_ge j B.length with g | g
            · exact g
            · rw [List.getElem?_eq_none (by rw [ub_length]; exact g)] at hu; cases hu
          rw [add_off, hrec j hj]
          simp [ub, hj] at hu
          simp [hj, hu]
        clear hrec hsW hs2 hB1 ho
        go_wp2_with (at_builtin; refine wpList_append_grows _ rfl _ _ 26 rfl 5 i (.int .u8 0) 1 1 Try.underlying26 hi hz0 hz1 hz2 rfl (by decide) sa bs.length bs.length (ub bs) rfl Hnil.out (by rw [ub_length]; omega) (fun b hb j u hu => (heap_cell_alloc (Hcell.out b hb j u hu))) ⟨w2.heap.size, 0, none⟩ 2 2 [.int .u8 ((B.length : Int) / 256), .int .u8 ((B.length : Int) % 256)] rfl rfl (cells_new _ _ _) (u8_one [_, _]) (by omega) (by unfold maxLen; omega) (by omega) ?_; intro v3 w3 ho3 hg3; have hb3 : Below w2.heap.size w2 w3 := ((Below.refl _ _).alloc (Nat.le_refl _) _).trans ((grown_none hg3).mono (le_alloc (Nat.le_refl _) _)))
        have s0 := (hb3.block _ hlt0).trans q0
        have s2 := (hb3.block _ hlt2').trans q2
        have c1 : w3.cell? ⟨w.heap.size, 1, none⟩ = some (.int .i64 sy) := cells_at s0 1 _ rfl
        have hB3 := hB2.trans (hb3.mono hB2.size)
        have ho3' : w3.ownsRow w2.heap.size 5 1 v3 (bs.length + 2) (ub (bs ++ [(B.length : Int) / 256, (B.length : Int) % 256])) := by
          have := ownsRow_base' ho3 (le_alloc (Nat.le_refl w2.heap.size) (.cells #[.int .u8 ((B.length : Int) / 256), .int .u8 ((B.length : Int) % 256)] 5))
          simpa [ub] using this
        have hne0 : v3.ownBlock ≠ some w.heap.size := fun e => by have := (ho3'.lt _ e).1; omega
        have hne2 : v3.ownBlock ≠ some (w.heap.size + 1 + 1) := fun e => by have := (ho3'.lt _ e).1; omega
        have Hrec3 : Hid (∀ j u, (ub B)[j]? = some u → w3.drew.cell? ((⟨rb, ro, none⟩ : Addr).add j) = some u) := by
          show ∀ _, _
          intro j u hu
          have h1 := Hrec.out j u hu
          exact (hb3.cell (by simpa [add_off] using hrb)).trans h1
        clear ho3 hg3 c0 q0 q2
        have hneO : ¬ w.heap.size + 1 + 1 = w.heap.size := by omega
        go_region_held3 (fun w' => w'.cell? ⟨w.heap.size, 1, none⟩ = some (.int .i64 sy)) (go_keep) ((refine step_append_at rfl _ _ 26 rfl w2.heap.size 5 i (.int .u8 0) 1 1 Try.underlying26 hi hz0 hz1 hz2 rfl (by decide) v3 (bs.length + 2) _ rfl ho3'.drew ⟨rb, ro, none⟩ B.length rc (ub B) rfl (by rw [ub_length]; omega) Hrec3.out (u8_one B) (by have := Hbig.out; unfold maxLen; omega) (by have := Hbig.out; omega) hb3.size ?_; intro v4 w4 ho4 G4; have t0 := G4.row s0 hne0; have t2 := G4.row s2 hne2; have g1 : w4.cell? ⟨w.heap.size, 1, none⟩ = some (.int .i64 sy) := cells_at t0 1 _ rfl; have e0 : w4.cell? ⟨w.heap.size + 1 + 1, 0, none⟩ = some (.slice none 0 0) := cells_at t2 0 _ rfl; have e1 : w4.cell? ⟨w.heap.size + 1 + 1, 1, none⟩ = some (.int .i64 0) := cells_at t2 1 _ rfl; have k0 := frozen_at t2 0; have k1 := frozen_at t2 1; obtain ⟨za, zc, rfl⟩ := owns_shape ho4))
        all_goals
          have ho5 : w4.ownsRow w2.heap.size 5 1 (.slice za (bs.length + 2 + B.length) zc) (bs.length + 2 + B.length) (ub (bs ++ [(B.length : Int) / 256, (B.length : Int) % 256] ++ B)) := by simpa [ub] using ho4
          have hb4 := G4.below (base := w2.heap.size) hb3.size (fun q e => (ho3'.lt q e).1)
          go_wp2_with fail
          obtain ⟨xa, xc, hv, hlen, hs5⟩ := owns_form ho5
          have hlt5 := ho5.lt
          simp only [Value.slice.injEq, true_and] at hv
          obtain ⟨rfl, rfl⟩ := hv
          have hE : appB bs F B = bs ++ [(B.length : Int) / 256, (B.length : Int) % 256] ++ B := by rw [appB, if_pos hF.out]
          have hS : appS sy F = sy := by rw [appS, if_pos hF.out]
          have h34 := hb4.size
          rw [hE, hS, hF.out]
          refine bodyPost_ret (v := .tuple #[.agg #[.slice za (bs.length + 2 + B.length) zc, .int .i64 sy], .int .i64 0]) (by simp [results, Try.results17, go_sem, e0, e1]) rfl ⟨za, zc, by rw [← hlen], ?_, ?_, ?_⟩
          · exact (hs5.setCellT _ _ _ (fun sb so e => by have := (hlt5 sb (by rw [e]; rfl)).1; omega)).setCellT _ _ _ (fun sb so e => by have := (hlt5 sb (by rw [e]; rfl)).1; omega)
          · intro sb so e
            have := hlt5 sb (by rw [e]; rfl)
            exact ⟨by have := hB2.size; omega, by simpa using this.2⟩
          · have hb34 : Below w2.heap.size w3 w4 := ⟨hb4.os, hb4.tape, hb4.output, hb4.size, hb4.block⟩
            exact ((hB3.trans (hb34.mono hB2.size)).setCell (by simp; omega) _).setCell (by simp; omega) _
    · have hF : Hid (F = X) := by show _ = _; rw [HF.out, ht]; simp [hx]
      have d0 : w2.cell? ⟨w.heap.size + 1 + 1, 0, none⟩ = some (.slice none 0 0) := cells_at q2 0 _ rfl
      have d1 : w2.cell? ⟨w.heap.size + 1 + 1, 1, none⟩ = some (.int .i64 0) := cells_at q2 1 _ rfl
      have f0 := frozen_at q2 0
      have f1 := frozen_at q2 1
      clear ht hX hX0
      go_wp2_with fail
      refine bodyPost_ret (v := .tuple #[.agg #[.slice none 0 0, .int .i64 0], .int .i64 X]) (by simp [results, Try.results17, go_sem, d0, d1]) rfl (appIs_bad hF.out hx ?_)
      exact (hB2.setCell (by simp; omega) _).setCell (by simp; omega) _
end Go.Proofs.Ytcmlmmlcebemgaa

namespace Go.Proofs.Ytcmlmmlcebemgaa
open Go.RowKit

/-- P8.3: a record as it stands on a tape. -/
def MV.onTape (x : MV) : List Int := [(x.bytes.length : Int) / 256, (x.bytes.length : Int) % 256] ++ x.bytes
set_option maxRecDepth 100000 in
theorem IsRec.len {x : MV} (h : IsRec x) (hd : x.m.sdn = x.ds.length) : 3 ≤ x.bytes.length ∧ x.bytes.length ≤ 323 := by
  have := bodyB_le hd h.car
  simp [MV.bytes, msgB]; omega
set_option maxRecDepth 100000 in
theorem onTape_len (x : MV) : x.onTape.length = 2 + x.bytes.length := by simp [MV.onTape]; omega
set_option maxRecDepth 100000 in
theorem rec_append (x : MV) (bs : List Int) (sa : Option Addr) (n cap : Nat) (sy : Int) (w : World) (hn : n = bs.length) (hs : SliceAt w sa cap bs) (hM : MAt w x) (hI : IsRec x) (hy : 0 ≤ sy ∧ sy ≤ bs.length) (hl : bs.length + 2 + x.bytes.length ≤ 400000) :
    Calls Try.prog 17 #[.agg #[.slice sa n cap, .int .i64 sy], .agg #[.int .i64 x.m.fr, .int .i64 x.m.tt, .int .i64 x.m.ki, .int .i64 x.m.bau, .int .i64 x.m.bnu, .slice x.m.bta x.m.btn x.m.btc, .int .i64 x.m.hau, .int .i64 x.m.hrd, .slice x.m.hba x.m.hbn x.m.hbc, .slice x.m.hpa x.m.hpn x.m.hpc, .int .i64 x.m.sau, .int .i64 x.m.srd, .slice x.m.sda x.m.sdn x.m.sdc, .int .i64 x.m.cau, .int .i64 x.m.crd, .slice x.m.cba x.m.cbn x.m.cbc, .slice x.m.cpa x.m.cpn x.m.cpc, .slice x.m.cva x.m.cvn x.m.cvc, .int .i64 x.m.ro]] w fun e w' => TapeIs w w' e (bs ++ x.onTape) sy 0 := by
  obtain ⟨hl1, hl2⟩ := hI.len hM.dn
  have hE : ∀ W : World, Below w.heap.size w W → Calls Try.prog 28 #[.agg #[.int .i64 x.m.fr, .int .i64 x.m.tt, .int .i64 x.m.ki, .int .i64 x.m.bau, .int .i64 x.m.bnu, .slice x.m.bta x.m.btn x.m.btc, .int .i64 x.m.hau, .int .i64 x.m.hrd, .slice x.m.hba x.m.hbn x.m.hbc, .slice x.m.hpa x.m.hpn x.m.hpc, .int .i64 x.m.sau, .int .i64 x.m.srd, .slice x.m.sda x.m.sdn x.m.sdc, .int .i64 x.m.cau, .int .i64 x.m.crd, .slice x.m.cba x.m.cbn x.m.cbc, .slice x.m.cpa x.m.cpn x.m.cpc, .slice x.m.cva x.m.cvn x.m.cvc, .int .i64 x.m.ro]] W fun e w' => ∃ v, e = .returned (.tuple #[v, .int .i64 0]) ∧ w'.ownsRow W.heap.size 5 1 v x.bytes.length (ub x.bytes) ∧ Below W.heap.size W w' := fun W hW => by
    have h := tEnc_any x.m x.ss x.bl x.pl x.cbl x.cpl x.ds x.vl W (hM.at'.below hW) (hM.dig.below hW) hM.dn
    have h0 : recF x.m (checkF x.m (carriedF x.m x.ss x.bl x.pl x.cbl x.cpl x.vl)) = 0 := hI.rec0
    rw [h0] at h
    exact h
  have h := tapeAppend_any x.m bs sa n cap sy 0 x.bytes w hn hs (by omega) (fun h => absurd rfl h) (fun _ => by omega) (by omega) hE
  have hF : appF bs.length sy 0 x.bytes.length = 0 := by
    rw [appF, if_pos (tapeOk_iff.2 ⟨by omega, hy.1, hy.2⟩), if_neg (by simp), if_neg (by omega)]
  rw [hF, appB, if_pos rfl, appS, if_pos rfl, List.append_assoc] at h
  exact h
set_option maxRecDepth 100000 in
/-- What is no record is refused. -/
theorem bad_append (x : MV) (X : Int) (w : World) (hM : MAt w x) (hX : recF x.m (checkF x.m x.car) = X) (h0 : X ≠ 0) :
    Calls Try.prog 17 #[.agg #[.slice none 0 0, .int .i64 0], .agg #[.int .i64 x.m.fr, .int .i64 x.m.tt, .int .i64 x.m.ki, .int .i64 x.m.bau, .int .i64 x.m.bnu, .slice x.m.bta x.m.btn x.m.btc, .int .i64 x.m.hau, .int .i64 x.m.hrd, .slice x.m.hba x.m.hbn x.m.hbc, .slice x.m.hpa x.m.hpn x.m.hpc, .int .i64 x.m.sau, .int .i64 x.m.srd, .slice x.m.sda x.m.sdn x.m.sdc, .int .i64 x.m.cau, .int .i64 x.m.crd, .slice x.m.cba x.m.cbn x.m.cbc, .slice x.m.cpa x.m.cpn x.m.cpc, .slice x.m.cva x.m.cvn x.m.cvc, .int .i64 x.m.ro]] w fun e w' => TapeIs w w' e [] 0 X := by
  have hE : ∀ W : World, Below w.heap.size w W → Calls Try.prog 28 #[.agg #[.int .i64 x.m.fr, .int .i64 x.m.tt, .int .i64 x.m.ki, .int .i64 x.m.bau, .int .i64 x.m.bnu, .slice x.m.bta x.m.btn x.m.btc, .int .i64 x.m.hau, .int .i64 x.m.hrd, .slice x.m.hba x.m.hbn x.m.hbc, .slice x.m.hpa x.m.hpn x.m.hpc, .int .i64 x.m.sau, .int .i64 x.m.srd, .slice x.m.sda x.m.sdn x.m.sdc, .int .i64 x.m.cau, .int .i64 x.m.crd, .slice x.m.cba x.m.cbn x.m.cbc, .slice x.m.cpa x.m.cpn x.m.cpc, .slice x.m.cva x.m.cvn x.m.cvc, .int .i64 x.m.ro]] W fun e w' => ∃ v, e = .returned (.tuple #[v, .int .i64 X]) ∧ w'.ownsRow W.heap.size 5 1 v ([] : List Int).length (ub []) ∧ Below W.heap.size W w' := fun W hW => by
    have h := tEnc_any x.m x.ss x.bl x.pl x.cbl x.cpl x.ds x.vl W (hM.at'.below hW) (hM.dig.below hW) hM.dn
    have hX' : recF x.m (checkF x.m (carriedF x.m x.ss x.bl x.pl x.cbl x.cpl x.vl)) = X := hX
    rw [hX', recB, if_neg h0] at h
    exact h
  have h := tapeAppend_any x.m [] none 0 0 0 X [] w rfl (nilSliceT _) (by simp) (fun _ => rfl) (fun h => absurd h h0) (by simp) hE
  have hF : appF ([] : List Int).length 0 X ([] : List Int).length = X := by
    rw [appF, if_pos (tapeOk_iff.2 ⟨by simp, by simp, by simp⟩), if_pos h0]
  rw [hF, appB, if_neg h0, appS, if_neg h0] at h
  exact h
end Go.Proofs.Ytcmlmmlcebemgaa

namespace Go.Proofs.Ytcmlmmlcebemgaa
open Go.ChangeShapes Go.WideShapes Go.ChangeAt Go.RowKit Go.Deep

set_option maxRecDepth 100000 in
theorem cRaw : Try.prog.cellsOf 56 = 5 := by kernel_rfl
set_option maxRecDepth 100000 in
theorem cIntR : Try.prog.cellsOf 3 = 1 := by kernel_rfl
set_option maxRecDepth 100000 in
theorem cStrsR : Try.prog.cellsOf 35 = 1 := by kernel_rfl
set_option maxRecDepth 100000 in
theorem open_raw {H : Type} {enc : TypeId × Value → H} {W : World} {base : Nat} {v : Value} {d : DataW H} {p : List MemPlace}
    (hv : Value.okWide Try.prog W .any base 56 v) (h : DataW.Trod enc Try.prog W 0 (fun _ => true) true 56 v d p) (hfit : ∀ n ∈ d.weights Try.prog 56, n ≤ reachBytes) :
    ∃ ki ra rb rc sa cap ss, v = .agg #[.int .i64 ki, .int .i64 ra, .int .i64 rb, .int .i64 rc, .slice sa (List.length ss) cap] ∧ I64 ki ∧ I64 ra ∧ I64 rb ∧ I64 rc ∧ TextsAt W sa cap ss := by
  obtain ⟨cs, rfl, _⟩ := okWide_struct Try.underlying56 hv
  obtain ⟨fuel, hf⟩ := h
  obtain ⟨xs, n, _, hx, hl, hlen, hg⟩ := DataW.trod_struct Try.underlying56 hf
  rw [cRaw] at hl
  match xs, hlen with
  | [y0, y1, y2, y3, y4], _ =>
  have h0 := hg 0 _ rfl
  have h1 := hg 1 _ rfl
  have h2 := hg 2 _ rfl
  have h3 := hg 3 _ rfl
  have h4 := hg 4 _ rfl
  simp only [Prod.mk.injEq] at hx
  obtain ⟨rfl, rfl⟩ := hx
  obtain ⟨l⟩ := cs
  match l, hl with
  | [c0, c1, c2, c3, c4], _ =>
  obtain ⟨a0, e0, rfl, w0⟩ := DataW.trod_int Try.underlying3 h0
  obtain ⟨a1, e1, rfl, w1⟩ := DataW.trod_int Try.underlying3 h1
  obtain ⟨a2, e2, rfl, w2⟩ := DataW.trod_int Try.underlying3 h2
  obtain ⟨a3, e3, rfl, w3⟩ := DataW.trod_int Try.underlying3 h3
  obtain ⟨sa, cap, ss, e4, hs⟩ := open_texts_cells h4 (fun n hn => hfit n (by simp [DataW.weights, DataW.weightsEach, Try.underlying56, hn]))
  simp [cIntR, cStrsR, Value.cells] at e0 e1 e2 e3 e4
  subst e0 e1 e2 e3 e4
  exact ⟨a0, a1, a2, a3, sa, cap, ss, rfl, bounds_i64 w0, bounds_i64 w1, bounds_i64 w2, bounds_i64 w3, hs⟩
end Go.Proofs.Ytcmlmmlcebemgaa

namespace Go.Proofs.Ytcmlmmlcebemgaa
open Go.RowKit

def MV.from (x : MV) (k : Int) : MV := { x with m := { x.m with fr := k } }
set_option maxRecDepth 100000 in
theorem MV.from_at {w : World} {x : MV} (h : MAt w x) (k : Int) : MAt w (x.from k) := ⟨⟨h.at'.e1, h.at'.e2, h.at'.e3, h.at'.e4, h.at'.e5, h.at'.e6, h.at'.s1, h.at'.s6, h.at'.s7, h.at'.txs, h.at'.bat, h.at'.par, h.at'.cbat, h.at'.cpar, h.at'.vot⟩, h.dig, h.dn⟩
set_option maxRecDepth 100000 in
theorem MV.from_rec {x : MV} (h : IsRec x) (k : Int) (h1 : 1 ≤ k) (h2 : k < 4) : recF (x.from k).m (checkF (x.from k).m (x.from k).car) = 4 := by
  have hc : (x.from k).car = 0 := h.car
  have he : msgEmpty (strip (x.from k).m) = true := (strip_from x.m k x.m.tt).trans h.emp
  have ht : (x.from k).m.tt = 0 := h.tt
  rw [checkF_zero (by show 0 ≤ k ∧ k < 4; omega) (by rw [ht]; omega) hc he, recF, if_neg (by simp), if_pos]
  exact .inl (by show k ≠ 0; omega)
/-- Who wants something. -/
def wantMV : MV := ⟨⟨0, 0, 5, 0, 0, 0, 0, 0, 0, 0, 0, 1, none, none, none, none, none, none, none, 0, 0, 0, 0, 0, 0, 0, 0, 0, 0, 0, 0, 0, 0⟩, [], [], [], [], [], [], []⟩
def noneMV : MV := ⟨⟨0, 0, 0, 0, 0, 0, 0, 0, 0, 0, 0, 0, none, none, none, none, none, none, none, 0, 0, 0, 0, 0, 0, 0, 0, 0, 0, 0, 0, 0, 0⟩, [], [], [], [], [], [], []⟩
set_option maxRecDepth 100000 in
theorem wantMV_at (w : World) : MAt w wantMV := ⟨⟨rfl, rfl, rfl, rfl, rfl, rfl, by decide, by decide, by decide, ⟨.inl rfl, fun s h => by cases h⟩, list_nilM w, list_nilM w, list_nilM w, list_nilM w, ⟨.inl rfl⟩⟩, nilM w, rfl⟩
set_option maxRecDepth 100000 in
theorem noneMV_at (w : World) : MAt w noneMV := ⟨⟨rfl, rfl, rfl, rfl, rfl, rfl, by decide, by decide, by decide, ⟨.inl rfl, fun s h => by cases h⟩, list_nilM w, list_nilM w, list_nilM w, list_nilM w, ⟨.inl rfl⟩⟩, nilM w, rfl⟩
set_option maxRecDepth 100000 in
set_option maxHeartbeats 4000000 in
theorem recordBad_walk (ki ra rb rc : Int) (sa : Option Addr) (cap : Nat) (ss : List ByteArray) (n : Int) (w : World) (h1 : I64 ki) (h2 : I64 ra) (h3 : I64 rb) (h4 : I64 rc) (h5 : TextsAt w sa cap ss) (hn1 : -9223372036854775808 ≤ n) (hn2 : n ≤ 9223372036854775807) :
    Calls Try.prog 6 #[.agg #[.int .i64 ki, .int .i64 ra, .int .i64 rb, .int .i64 rc, .slice sa ss.length cap], .int .i64 n] w fun e w' => e = .returned (.bool true) ∧ Below w.heap.size w w' := by
  obtain ⟨pn0, pn1⟩ := pk_bounds n 3 (by decide)
  have HP : Hid (∀ W : World, Calls Try.prog 14 #[.int .i64 n, .int .i64 3] W fun e w' => e = .returned (.int .i64 (pk n 3)) ∧ W = w') := by
    show ∀ _, _
    intro W
    exact picked_any n 3 W hn1 hn2 (by omega) (by omega)
  have hw3 : IntKind.i64.wrap (1 + pk n 3) = 1 + pk n 3 := by rw [IntKind.wrap_i64]; omega
  have hA : Below w.heap.size w (w.alloc (.cells #[.int .i64 ki, .int .i64 ra, .int .i64 rb, .int .i64 rc, .slice sa ss.length cap] 56)) := (Below.refl _ _).alloc (Nat.le_refl _) _
  go_enter Try.func6, Try.ntmps6
  go_wp2_with fail
  generalize w.alloc (.cells #[.int .i64 ki, .int .i64 ra, .int .i64 rb, .int .i64 rc, .slice sa ss.length cap] 56) = W0 at hA ⊢
  refine (record_any ki ra rb rc sa cap ss W0 h1 h2 h3 h4 (h5.below hA)).mono ?_
  rintro e w1 ⟨x, he, hM, hI, -, hb1⟩
  subst he
  dsimp only
  have hB1 := hA.trans (hb1.mono hA.size)
  have qz := heap_alloc_new w1 (.cells #[.int .i64 0, .int .i64 0, .int .i64 0, .int .i64 0, .int .i64 0, .slice none 0 0, .int .i64 0, .int .i64 0, .slice none 0 0, .slice none 0 0, .int .i64 0, .int .i64 0, .slice none 0 0, .int .i64 0, .int .i64 0, .slice none 0 0, .slice none 0 0, .slice none 0 0, .int .i64 0] 47)
  have hA1 : Below w1.heap.size w1 ((w1.alloc (.cells #[.int .i64 0, .int .i64 0, .int .i64 0, .int .i64 0, .int .i64 0, .slice none 0 0, .int .i64 0, .int .i64 0, .slice none 0 0, .slice none 0 0, .int .i64 0, .int .i64 0, .slice none 0 0, .int .i64 0, .int .i64 0, .slice none 0 0, .slice none 0 0, .slice none 0 0, .int .i64 0] 47)).setRow w1.heap.size #[.int .i64 x.m.fr, .int .i64 x.m.tt, .int .i64 x.m.ki, .int .i64 x.m.bau, .int .i64 x.m.bnu, .slice x.m.bta x.m.btn x.m.btc, .int .i64 x.m.hau, .int .i64 x.m.hrd, .slice x.m.hba x.m.hbn x.m.hbc, .slice x.m.hpa x.m.hpn x.m.hpc, .int .i64 x.m.sau, .int .i64 x.m.srd, .slice x.m.sda x.m.sdn x.m.sdc, .int .i64 x.m.cau, .int .i64 x.m.crd, .slice x.m.cba x.m.cbn x.m.cbc, .slice x.m.cpa x.m.cpn x.m.cpc, .slice x.m.cva x.m.cvn x.m.cvc, .int .i64 x.m.ro]) := laid_row w1 #[.int .i64 0, .int .i64 0, .int .i64 0, .int .i64 0, .int .i64 0, .slice none 0 0, .int .i64 0, .int .i64 0, .slice none 0 0, .slice none 0 0, .int .i64 0, .int .i64 0, .slice none 0 0, .int .i64 0, .int .i64 0, .slice none 0 0, .slice none 0 0, .slice none 0 0, .int .i64 0] #[.int .i64 x.m.fr, .int .i64 x.m.tt, .int .i64 x.m.ki, .int .i64 x.m.bau, .int .i64 x.m.bnu, .slice x.m.bta x.m.btn x.m.btc, .int .i64 x.m.hau, .int .i64 x.m.hrd, .slice x.m.hba x.m.hbn x.m.hbc, .slice x.m.hpa x.m.hpn x.m.hpc, .int .i64 x.m.sau, .int .i64 x.m.srd, .slice x.m.sda x.m.sdn x.m.sdc, .int .i64 x.m.cau, .int .i64 x.m.crd, .slice x.m.cba x.m.cbn x.m.cbc, .slice x.m.cpa x.m.cpn x.m.cpc, .slice x.m.cva x.m.cvn x.m.cvc, .int .i64 x.m.ro] 47
  have qN := setRow_heap _ _ _ #[.int .i64 x.m.fr, .int .i64 x.m.tt, .int .i64 x.m.ki, .int .i64 x.m.bau, .int .i64 x.m.bnu, .slice x.m.bta x.m.btn x.m.btc, .int .i64 x.m.hau, .int .i64 x.m.hrd, .slice x.m.hba x.m.hbn x.m.hbc, .slice x.m.hpa x.m.hpn x.m.hpc, .int .i64 x.m.sau, .int .i64 x.m.srd, .slice x.m.sda x.m.sdn x.m.sdc, .int .i64 x.m.cau, .int .i64 x.m.crd, .slice x.m.cba x.m.cbn x.m.cbc, .slice x.m.cpa x.m.cpn x.m.cpc, .slice x.m.cva x.m.cvn x.m.cvc, .int .i64 x.m.ro] _ _ qz
  have HM : Hid (∀ W : World, Below w1.heap.size w1 W → MAt W x) := by show ∀ _, _; intro W hW; exact hM.below hW
  have HI : Hid (IsRec x) := hI
  clear hM hI
  go_wp2_with (first | refine wpList_store_row rfl 47 _ _ rfl w1.heap.size #[.int .i64 x.m.fr, .int .i64 x.m.tt, .int .i64 x.m.ki, .int .i64 x.m.bau, .int .i64 x.m.bnu, .slice x.m.bta x.m.btn x.m.btc, .int .i64 x.m.hau, .int .i64 x.m.hrd, .slice x.m.hba x.m.hbn x.m.hbc, .slice x.m.hpa x.m.hpn x.m.hpc, .int .i64 x.m.sau, .int .i64 x.m.srd, .slice x.m.sda x.m.sdn x.m.sdc, .int .i64 x.m.cau, .int .i64 x.m.crd, .slice x.m.cba x.m.cbn x.m.cbc, .slice x.m.cpa x.m.cpn x.m.cpc, .slice x.m.cva x.m.cvn x.m.cvc, .int .i64 x.m.ro] rfl rfl 47 _ qz sMsg' rfl (by simp [Value.oneCell']) ?_ | refine wpList_load_row rfl 47 _ rfl w1.heap.size rfl 47 #[.int .i64 x.m.fr, .int .i64 x.m.tt, .int .i64 x.m.ki, .int .i64 x.m.bau, .int .i64 x.m.bnu, .slice x.m.bta x.m.btn x.m.btc, .int .i64 x.m.hau, .int .i64 x.m.hrd, .slice x.m.hba x.m.hbn x.m.hbc, .slice x.m.hpa x.m.hpn x.m.hpc, .int .i64 x.m.sau, .int .i64 x.m.srd, .slice x.m.sda x.m.sdn x.m.sdc, .int .i64 x.m.cau, .int .i64 x.m.crd, .slice x.m.cba x.m.cbn x.m.cbc, .slice x.m.cpa x.m.cpn x.m.cpc, .slice x.m.cva x.m.cvn x.m.cvc, .int .i64 x.m.ro] (0, 0) _ qN Try.underlying47 rfl sMsg' ?_)
  generalize (w1.alloc (.cells #[.int .i64 0, .int .i64 0, .int .i64 0, .int .i64 0, .int .i64 0, .slice none 0 0, .int .i64 0, .int .i64 0, .slice none 0 0, .slice none 0 0, .int .i64 0, .int .i64 0, .slice none 0 0, .int .i64 0, .int .i64 0, .slice none 0 0, .slice none 0 0, .slice none 0 0, .int .i64 0] 47)).setRow w1.heap.size #[.int .i64 x.m.fr, .int .i64 x.m.tt, .int .i64 x.m.ki, .int .i64 x.m.bau, .int .i64 x.m.bnu, .slice x.m.bta x.m.btn x.m.btc, .int .i64 x.m.hau, .int .i64 x.m.hrd, .slice x.m.hba x.m.hbn x.m.hbc, .slice x.m.hpa x.m.hpn x.m.hpc, .int .i64 x.m.sau, .int .i64 x.m.srd, .slice x.m.sda x.m.sdn x.m.sdc, .int .i64 x.m.cau, .int .i64 x.m.crd, .slice x.m.cba x.m.cbn x.m.cbc, .slice x.m.cpa x.m.cpn x.m.cpc, .slice x.m.cva x.m.cvn x.m.cvc, .int .i64 x.m.ro] = W1 at hA1 qN ⊢
  have hC := tapeCheck_any x.m x.ss x.bl x.pl x.cbl x.cpl x.vl W1 (HM.out W1 hA1).at'
  have h0 : recF x.m (checkF x.m (carriedF x.m x.ss x.bl x.pl x.cbl x.cpl x.vl)) = 0 := HI.out.rec0
  rw [h0] at hC
  clear h0
  refine hC.mono ?_
  rintro e w2 ⟨he, hb2⟩
  subst he
  dsimp only
  clear hC qz
  have hA2 := hA1.trans (hb2.mono hA1.size)
  have hB2 := hB1.trans (hA2.mono hB1.size)
  have q2 := (hb2.block _ (lt_of_heap qN)).trans qN
  have e0 : w2.cell? ⟨w1.heap.size, 0, none⟩ = some (.int .i64 x.m.fr) := cells_at q2 0 _ rfl
  have f0 := frozen_at q2 0
  have q3 : (w2.setCell ⟨w1.heap.size, 0, none⟩ (.int .i64 (1 + pk n 3))).heap[w1.heap.size]? = some (.cells #[.int .i64 (1 + pk n 3), .int .i64 x.m.tt, .int .i64 x.m.ki, .int .i64 x.m.bau, .int .i64 x.m.bnu, .slice x.m.bta x.m.btn x.m.btc, .int .i64 x.m.hau, .int .i64 x.m.hrd, .slice x.m.hba x.m.hbn x.m.hbc, .slice x.m.hpa x.m.hpn x.m.hpc, .int .i64 x.m.sau, .int .i64 x.m.srd, .slice x.m.sda x.m.sdn x.m.sdc, .int .i64 x.m.cau, .int .i64 x.m.crd, .slice x.m.cba x.m.cbn x.m.cbc, .slice x.m.cpa x.m.cpn x.m.cpc, .slice x.m.cva x.m.cvn x.m.cvc, .int .i64 x.m.ro] 47 (0, 0)) := by simpa using heap_setCell_same _ _ 0 _ _ (.int .i64 (1 + pk n 3)) q2
  have hA3 : Below w1.heap.size w1 (w2.setCell ⟨w1.heap.size, 0, none⟩ (.int .i64 (1 + pk n 3))) := hA2.setCell (p := ⟨w1.heap.size, 0, none⟩) (Nat.le_refl _) _
  have hB3 := hB1.trans (hA3.mono hB1.size)
  go_wp2_with (first | (go_at_call 14; refine (HP.out _).mono ?_; rintro e w9 ⟨rfl, rfl⟩) | refine wpList_load_row rfl 47 _ rfl w1.heap.size rfl 47 #[.int .i64 (1 + pk n 3), .int .i64 x.m.tt, .int .i64 x.m.ki, .int .i64 x.m.bau, .int .i64 x.m.bnu, .slice x.m.bta x.m.btn x.m.btc, .int .i64 x.m.hau, .int .i64 x.m.hrd, .slice x.m.hba x.m.hbn x.m.hbc, .slice x.m.hpa x.m.hpn x.m.hpc, .int .i64 x.m.sau, .int .i64 x.m.srd, .slice x.m.sda x.m.sdn x.m.sdc, .int .i64 x.m.cau, .int .i64 x.m.crd, .slice x.m.cba x.m.cbn x.m.cbc, .slice x.m.cpa x.m.cpn x.m.cpc, .slice x.m.cva x.m.cvn x.m.cvc, .int .i64 x.m.ro] (0, 0) _ q3 Try.underlying47 rfl sMsg' ?_)
  generalize w2.setCell ⟨w1.heap.size, 0, none⟩ (.int .i64 (1 + pk n 3)) = W3 at q3 hA3 hB3 ⊢
  refine (bad_append (x.from (1 + pk n 3)) 4 W3 (MV.from_at (HM.out W3 hA3) _) (MV.from_rec HI.out _ (by omega) (by omega)) (by decide)).mono ?_
  rintro e w4 ⟨xa, xc, he, -, -, hb4⟩
  subst he
  dsimp only
  have hB4 := hB3.trans (hb4.mono hB3.size)
  have hA4 := hA3.trans (hb4.mono hA3.size)
  have q4 := (hb4.block _ (lt_of_heap q3)).trans q3
  clear q3 q2 e0 f0
  go_wp2_with fail
  have hAa : Below w4.heap.size w4 (w4.alloc (.cells #[.slice xa 0 xc, .int .i64 0] 28)) := (Below.refl _ _).alloc (Nat.le_refl _) _
  have q4a := heap_keep (o := .cells #[.slice xa 0 xc, .int .i64 0] 28) q4
  generalize w4.alloc (.cells #[.slice xa 0 xc, .int .i64 0] 28) = W4 at hAa q4a ⊢
  have hB4a := hB4.trans (hAa.mono hB4.size)
  have hA4a := hA4.trans (hAa.mono hA4.size)
  refine (bad_append wantMV 4 W4 (wantMV_at _) (by decide) (by decide)).mono ?_
  rintro e w5 ⟨ya, yc, he, -, -, hb5⟩
  subst he
  dsimp only
  have hB5 := hB4a.trans (hb5.mono hB4a.size)
  have hA5 := hA4a.trans (hb5.mono hA4a.size)
  have q5 := (hb5.block _ (lt_of_heap q4a)).trans q4a
  go_wp2_with fail
  have hAb : Below w5.heap.size w5 (w5.alloc (.cells #[.slice ya 0 yc, .int .i64 0] 28)) := (Below.refl _ _).alloc (Nat.le_refl _) _
  have q5a := heap_keep (o := .cells #[.slice ya 0 yc, .int .i64 0] 28) q5
  generalize w5.alloc (.cells #[.slice ya 0 yc, .int .i64 0] 28) = W5 at hAb q5a ⊢
  have hB5a := hB5.trans (hAb.mono hB5.size)
  have hA5a := hA5.trans (hAb.mono hA5.size)
  refine (bad_append noneMV 3 W5 (noneMV_at _) (by decide) (by decide)).mono ?_
  rintro e w6 ⟨za, zc, he, -, -, hb6⟩
  subst he
  dsimp only
  have hB6 := hB5a.trans (hb6.mono hB5a.size)
  have hA6 := hA5a.trans (hb6.mono hA5a.size)
  have q6 := (hb6.block _ (lt_of_heap q5a)).trans q5a
  have q6a := heap_keep (o := .cells #[.slice za 0 zc, .int .i64 0] 28) q6
  have hAc : Below w6.heap.size w6 (w6.alloc (.cells #[.slice za 0 zc, .int .i64 0] 28)) := (Below.refl _ _).alloc (Nat.le_refl _) _
  have hB6a := hB6.trans (hAc.mono hB6.size)
  have hA6a := hA6.trans (hAc.mono hA6.size)
  go_wp2_with (refine wpList_load_row rfl 47 _ rfl w1.heap.size rfl 47 #[.int .i64 (1 + pk n 3), .int .i64 x.m.tt, .int .i64 x.m.ki, .int .i64 x.m.bau, .int .i64 x.m.bnu, .slice x.m.bta x.m.btn x.m.btc, .int .i64 x.m.hau, .int .i64 x.m.hrd, .slice x.m.hba x.m.hbn x.m.hbc, .slice x.m.hpa x.m.hpn x.m.hpc, .int .i64 x.m.sau, .int .i64 x.m.srd, .slice x.m.sda x.m.sdn x.m.sdc, .int .i64 x.m.cau, .int .i64 x.m.crd, .slice x.m.cba x.m.cbn x.m.cbc, .slice x.m.cpa x.m.cpn x.m.cpc, .slice x.m.cva x.m.cvn x.m.cvc, .int .i64 x.m.ro] (0, 0) _ q6a Try.underlying47 rfl sMsg' ?_)
  generalize w6.alloc (.cells #[.slice za 0 zc, .int .i64 0] 28) = W6 at hAc q6a hB6a hA6a ⊢
  have hC2 := tapeCheck_any (x.from (1 + pk n 3)).m x.ss x.bl x.pl x.cbl x.cpl x.vl W6 (MV.from_at (HM.out W6 hA6a) _).at'
  have h4' : recF (x.from (1 + pk n 3)).m (checkF (x.from (1 + pk n 3)).m (carriedF (x.from (1 + pk n 3)).m x.ss x.bl x.pl x.cbl x.cpl x.vl)) = 4 := MV.from_rec HI.out _ (by omega) (by omega)
  rw [h4'] at hC2
  clear h4'
  refine hC2.mono ?_
  rintro e w7 ⟨he, hb7⟩
  subst he
  dsimp only
  clear hC2
  go_wp2_with fail
  go_ret
  exact ⟨rfl, hB6a.trans (hb7.mono hB6a.size)⟩
end Go.Proofs.Ytcmlmmlcebemgaa

namespace Go.Proofs.Ytcmlmmlcebemgaa.recordBad
open Go.ChangeShapes Go.WideShapes Go.ChangeAt Go.RowKit

set_option maxRecDepth 100000 in
/-- What the walk gives, for every argument and every world. -/
theorem contract (H : Type) (enc : TypeId × Value → H) (W : World) (base : Nat) (args : Array Value) (ds gs : List (DataW H)) (before : List MemPlace)
    (hval : ∀ (j : Nat) t v, Try.f6.params[j]? = some t → args[j]? = some v → Value.okWide Try.prog W .any base t v)
    (hW : DataW.Whole enc Try.prog Try.f6.params.toList Rows.recordBadSpec.vars false W args.toList ds gs before) (hsz : (DataW.weightsEach Try.prog (Try.f6.params.toList ++ (OpenSpec.ofChange Rows.recordBadSpec).bare.plain.varTypes Try.prog) (ds ++ gs)).all (· ≤ reachBytes) = true) (_hL : laidMetH Try.prog Rows.recordBadRow.laid W) :
    Calls Try.prog 6 args W fun e W' => ∃ v, e = .returned v ∧ Rows.recordBadSpec.post enc Try.prog Try.f6 false true false false W args v W' := by
  have hW' := hW
  obtain ⟨p, q, hA0, hV, rfl, hfz, hnd⟩ := hW
  have hA : DataW.TrodAll enc Try.prog W 0 (fun _ => true) true Try.f6.params.toList args.toList ds p := hA0
  rw [Try.params6] at hA hval hsz
  obtain ⟨v0, vs0, d0, ds0, p0, q0, hargs, rfl, rfl, h0, r0⟩ := trodAll_cons hA
  obtain ⟨v1, vs1, d1, ds1, p1, q1, rfl, rfl, rfl, h1, r1⟩ := trodAll_cons r0
  obtain ⟨rfl, rfl, rfl⟩ := trodAll_nil r1
  obtain rfl : args = #[v0, v1] := by cases args; simp_all
  obtain ⟨rfl, rfl⟩ := trodVars_none hV
  have k0 := h0
  have lt0 : ∀ x ∈ p0, x.block < W.heap.size := by obtain ⟨m, hm⟩ := k0; exact DataW.trod_lt m _ _ _ hm
  obtain ⟨ki0, ra0, rb0, rc0, sa0, cap0, ss0, rfl, q0_0, q0_1, q0_2, q0_3, q0_4⟩ := open_raw (hval 0 56 v0 rfl rfl) h0 (fit_each hsz (j := 0) rfl rfl)
  obtain ⟨a1, rfl, rfl, rfl, w1⟩ := open_int Try.underlying3 (hval 1 3 v1 rfl rfl) h1
  obtain ⟨lo1, hi1⟩ := bounds_i64 w1
  clear hA0
  refine (recordBad_walk ki0 ra0 rb0 rc0 sa0 cap0 ss0 a1 W q0_0 q0_1 q0_2 q0_3 q0_4 lo1 hi1).mono fun e W' ⟨he, bel⟩ => ?_
  subst he
  exact ⟨_, rfl, _, _, _, [], _, [], hW', trodAll_mk1 (shut_bool Try.underlying4 _), (trodAll_cons_mk (Below.trod laidOut (by kernel_rfl) (of_decide_eq_true (by kernel_rfl)) k0 bel lt0) (trodAll_cons_mk (shut_int Try.underlying3 w1) trodAll_mk0)), rfl, bel.frame _, fun h => by cases h⟩

set_option maxRecDepth 100000 in
theorem laid_met (os : Os) : laidMet Try.prog Rows.recordBadRow.laid ((World.holding Try.prog os ⟨#[], #[], []⟩).forCall (fun _ _ => 0) ⟨#[], #[.agg #[.int .i64 0, .int .i64 0, .int .i64 0, .int .i64 0, .slice none 0 0], .int .i64 0], []⟩).memory :=
  laidMet_of_run' 8 (by kernel_rfl) (by kernel_rfl)
set_option maxRecDepth 100000 in
theorem reads (os : Os) {H : Type} (enc : TypeId × Value → H) : ∃ places, DataW.whole enc Try.prog ((World.holding Try.prog os ⟨#[], #[], []⟩).forCall (fun _ _ => 0) ⟨#[], #[.agg #[.int .i64 0, .int .i64 0, .int .i64 0, .int .i64 0, .slice none 0 0], .int .i64 0], []⟩).memory Try.f6.params.toList Rows.recordBadSpec.vars false (#[.agg #[.int .i64 0, .int .i64 0, .int .i64 0, .int .i64 0, .slice none 0 0], .int .i64 0] : Array Value).toList 8 = some ([.agg [.lit (.int .i64 0), .lit (.int .i64 0), .lit (.int .i64 0), .lit (.int .i64 0), .nil], .lit (.int .i64 0)], [], places) :=
  ⟨[], by kernel_rfl⟩

set_option maxRecDepth 100000 in
theorem lifted (os : Os) (started : os.Started) (H : Type) (enc : TypeId × Value → H) (F : Stop.Interp) :
    ReturnsInHanded {} Try.checked os 6 .any ((OpenSpec.ofChange Rows.recordBadSpec).preRow enc Try.prog Try.f6 Rows.recordBadRow.domain false Rows.recordBadRow.laid) (((OpenSpec.ofChange Rows.recordBadSpec).at F).post enc Try.prog Try.f6 false true false false) := by
  obtain ⟨places, hx⟩ := reads os enc
  refine returnsInHanded_of_row (C := Try.checked) (s := OpenSpec.ofChange Rows.recordBadSpec) own started (by kernel_rfl) Try.func6
    (witness_row_at (enc := enc) (C := Try.checked) false (World.holding Try.prog os ⟨#[], #[], []⟩) #[.agg #[.int .i64 0, .int .i64 0, .int .i64 0, .int .i64 0, .slice none 0 0], .int .i64 0] rfl (by kernel_rfl) (by kernel_rfl) (by kernel_rfl)
      (OpenSpec.preRow_of_cond 8 hx (by kernel_rfl) (fun k hk => by cases hk) (by kernel_rfl) (laid_met os))) ?_
  intro W base args ds gs before hval hW _ _ hsz hL _ _
  exact contract H enc W base args ds gs before hval hW hsz hL

set_option maxRecDepth 100000 in
theorem said : Rows.RecordBadSaid :=
  OpenClaim.holds_of_cond 6 Try.f6 rfl rfl rfl rfl rfl rfl rfl ⟨rfl, rfl, rfl, rfl, rfl⟩ rfl rfl rfl rfl rfl (by kernel_rfl) Try.func6 (by kernel_rfl)
    (of_decide_eq_true (by kernel_rfl)) (by unfold Func.isWrapper; first | (rw [if_pos (by decide +kernel)]; kernel_rfl) | (rw [if_neg (by decide +kernel)]; exact ⟨rfl, rfl⟩))
    (fun os started H enc _ F => by rw [OpenClaim.pre_eq_preRow]; exact lifted os started H enc F)

end Go.Proofs.Ytcmlmmlcebemgaa.recordBad
namespace Go.Proofs.Ytcmlmmlcebemgaa
set_option maxRecDepth 100000 in
theorem recordBad_holds : Rows.RecordBadSaid := recordBad.said
#print axioms recordBad_holds
end Go.Proofs.Ytcmlmmlcebemgaa
