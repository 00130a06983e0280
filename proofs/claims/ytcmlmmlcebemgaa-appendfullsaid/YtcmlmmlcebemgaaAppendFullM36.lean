/- tape.Crash: what it answers, for every argument. -/
import Derived.Test.YtcmlmmlcebemgaaAppendFullM30
import Derived.Test.YtcmlmmlcebemgaaCalls
import Derived.Test.YtcmlmmlcebemgaaRawU
import Derived.Test.YtcmlmmlcebemgaaOwnL
import Derived.Test.YtcmlmmlcebemgaaWithout
import Derived.Test.YtcmlmmlcebemgaaMsg
import Derived.ArgAppend
import Derived.Deep.RegionHeld3
import Derived.Deep.CutRange
import Derived.Deep.DeepCutAuto
import Derived.Test.YtcmlmmlcebemgaaAppendFullM18
import Derived.Deep.MidRow
namespace Go.Proofs.Ytcmlmmlcebemgaa
open Go.RowKit

/-- P8.3: X is what is told of the record, B its bytes. -/
def appF (n : Nat) (sy X : Int) (L : Nat) : Int := if tapeOk n sy then (if X ≠ 0 then X else if 400000 < n + 2 + L then 6 else 0) else 12
def appB (bs : List Int) (F : Int) (B : List Int) : List Int := if F = 0 then bs ++ [(B.length : Int) / 256, (B.length : Int) % 256] ++ B else []
def appS (sy F : Int) : Int := if F = 0 then sy else 0
set_option maxRecDepth 100000 in
theorem appIs_bad {w w' : World} {bs B : List Int} {sy F er : Int} (hF : F = er) (h0 : er ≠ 0) (hb : Below w.heap.size w w') : TapeIs w w' (.returned (.tuple #[.agg #[.slice none 0 0, .int .i64 0], .int .i64 er])) (appB bs F B) (appS sy F) F := by
  subst hF
  rw [appB, appS, if_neg h0, if_neg h0]
  exact TapeIs.bad _ hb
set_option maxRecDepth 100000 in
theorem heap_cell_alloc {w : World} {o : Obj} {a : Addr} {v : Value} (h : w.cell? a = some v) : (w.alloc o).cell? a = some v := by
  have hl : a.block < w.heap.size := block_lt_of_cell h
  exact (((Below.refl w.heap.size w).alloc (Nat.le_refl _) o).cell hl).trans h
set_option maxRecDepth 100000 in
set_option maxHeartbeats 4000000 in
theorem tapeAppend_any (m : Msg) (bs : List Int) (sa : Option Addr) (n cap : Nat) (sy X : Int) (B : List Int) (w : World) (hn : n = bs.length) (hs : SliceAt w sa cap bs) (hl : bs.length ≤ 140737488355328) (hX : X ≠ 0 → B = []) (hX0 : X = 0 → 0 < B.length) (hBL : B.length ≤ 4000)
    (HE : ∀ W : World, Below w.heap.size w W → Calls Try.prog 28 #[.agg #[.int .i64 m.fr, .int .i64 m.tt, .int .i64 m.ki, .int .i64 m.bau, .int .i64 m.bnu, .slice m.bta m.btn m.btc, .int .i64 m.hau, .int .i64 m.hrd, .slice m.hba m.hbn m.hbc, .slice m.hpa m.hpn m.hpc, .int .i64 m.sau, .int .i64 m.srd, .slice m.sda m.sdn m.sdc, .int .i64 m.cau, .int .i64 m.crd, .slice m.cba m.cbn m.cbc, .slice m.cpa m.cpn m.cpc, .slice m.cva m.cvn m.cvc, .int .i64 m.ro]] W fun e w' => ∃ v, e = .returned (.tuple #[v, .int .i64 X]) ∧ w'.ownsRow W.heap.size 5 1 v B.length (ub B) ∧ Below W.heap.size W w') :
    Calls Try.prog 17 #[.agg #[.slice sa n cap, .int .i64 sy], .agg #[.int .i64 m.fr, .int .i64 m.tt, .int .i64 m.ki, .int .i64 m.bau, .int .i64 m.bnu, .slice m.bta m.btn m.btc, .int .i64 m.hau, .int .i64 m.hrd, .slice m.hba m.hbn m.hbc, .slice m.hpa m.hpn m.hpc, .int .i64 m.sau, .int .i64 m.srd, .slice m.sda m.sdn m.sdc, .int .i64 m.cau, .int .i64 m.crd, .slice m.cba m.cbn m.cbc, .slice m.cpa m.cpn m.cpc, .slice m.cva m.cvn m.cvc, .int .i64 m.ro]] w fun e w' => TapeIs w w' e (appB bs (appF bs.length sy X B.length) B) (appS sy (appF bs.length sy X B.length)) (appF bs.length sy X B.length) := by
  subst hn
  have HE' : Hid (∀ W : World, Below w.heap.size w W → Calls Try.prog 28 #[.agg #[.int .i64 m.fr, .int .i64 m.tt, .int .i64 m.ki, .int .i64 m.bau, .int .i64 m.bnu, .slice m.bta m.btn m.btc, .int .i64 m.hau, .int .i64 m.hrd, .slice m.hba m.hbn m.hbc, .slice m.hpa m.hpn m.hpc, .int .i64 m.sau, .int .i64 m.srd, .slice m.sda m.sdn m.sdc, .int .i64 m.cau, .int .i64 m.crd, .slice m.cba m.cbn m.cbc, .slice m.cpa m.cpn m.cpc, .slice m.cva m.cvn m.cvc, .int .i64 m.ro]] W fun e w' => ∃ v, e = .returned (.tuple #[v, .int .i64 X]) ∧ w'.ownsRow W.heap.size 5 1 v B.length (ub B) ∧ Below W.heap.size W w') := HE
  clear HE
  have HS : Hid (SliceAt w sa cap bs) := hs
  have hle := hs.le
  have hA : Below w.heap.size w (((w.alloc (.cells #[.slice sa bs.length cap, .int .i64 sy] 28)).alloc (.cells #[.int .i64 m.fr, .int .i64 m.tt, .int .i64 m.ki, .int .i64 m.bau, .int .i64 m.bnu, .slice m.bta m.btn m.btc, .int .i64 m.hau, .int .i64 m.hrd, .slice m.hba m.hbn m.hbc, .slice m.hpa m.hpn m.hpc, .int .i64 m.sau, .int .i64 m.srd, .slice m.sda m.sdn m.sdc, .int .i64 m.cau, .int .i64 m.crd, .slice m.cba m.cbn m.cbc, .slice m.cpa m.cpn m.cpc, .slice m.cva m.cvn m.cvc, .int .i64 m.ro] 47)).alloc (.cells #[.slice none 0 0, .int .i64 0] 28)) := (((Below.refl _ _).alloc (Nat.le_refl _) _).alloc (by simp) _).alloc (by simp; omega) _
  have r0 := heap_keep (o := .cells #[.slice none 0 0, .int .i64 0] 28) (heap_alloc2_old w (.cells #[.slice sa bs.length cap, .int .i64 sy] 28) (.cells #[.int .i64 m.fr, .int .i64 m.tt, .int .i64 m.ki, .int .i64 m.bau, .int .i64 m.bnu, .slice m.bta m.btn m.btc, .int .i64 m.hau, .int .i64 m.hrd, .slice m.hba m.hbn m.hbc, .slice m.hpa m.hpn m.hpc, .int .i64 m.sau, .int .i64 m.srd, .slice m.sda m.sdn m.sdc, .int .i64 m.cau, .int .i64 m.crd, .slice m.cba m.cbn m.cbc, .slice m.cpa m.cpn m.cpc, .slice m.cva m.cvn m.cvc, .int .i64 m.ro] 47))
  have r1 := heap_keep (o := .cells #[.slice none 0 0, .int .i64 0] 28) (heap_alloc2_new w (.cells #[.slice sa bs.length cap, .int .i64 sy] 28) (.cells #[.int .i64 m.fr, .int .i64 m.tt, .int .i64 m.ki, .int .i64 m.bau, .int .i64 m.bnu, .slice m.bta m.btn m.btc, .int .i64 m.hau, .int .i64 m.hrd, .slice m.hba m.hbn m.hbc, .slice m.hpa m.hpn m.hpc, .int .i64 m.sau, .int .i64 m.srd, .slice m.sda m.sdn m.sdc, .int .i64 m.cau, .int .i64 m.crd, .slice m.cba m.cbn m.cbc, .slice m.cpa m.cpn m.cpc, .slice m.cva m.cvn m.cvc, .int .i64 m.ro] 47))
  have r2 := heap_new_at ((w.alloc (.cells #[.slice sa bs.length cap, .int .i64 sy] 28)).alloc (.cells #[.int .i64 m.fr, .int .i64 m.tt, .int .i64 m.ki, .int .i64 m.bau, .int .i64 m.bnu, .slice m.bta m.btn m.btc, .int .i64 m.hau, .int .i64 m.hrd, .slice m.hba m.hbn m.hbc, .slice m.hpa m.hpn m.hpc, .int .i64 m.sau, .int .i64 m.srd, .slice m.sda m.sdn m.sdc, .int .i64 m.cau, .int .i64 m.crd, .slice m.cba m.cbn m.cbc, .slice m.cpa m.cpn m.cpc, .slice m.cva m.cvn m.cvc, .int .i64 m.ro] 47)) (.cells #[.slice none 0 0, .int .i64 0] 28) (w.heap.size + 1 + 1) (by simp)
  have hM := mayBe_any sa bs.length cap sy (((w.alloc (.cells #[.slice sa bs.length cap, .int .i64 sy] 28)).alloc (.cells #[.int .i64 m.fr, .int .i64 m.tt, .int .i64 m.ki, .int .i64 m.bau, .int .i64 m.bnu, .slice m.bta m.btn m.btc, .int .i64 m.hau, .int .i64 m.hrd, .slice m.hba m.hbn m.hbc, .slice m.hpa m.hpn m.hpc, .int .i64 m.sau, .int .i64 m.srd, .slice m.sda m.sdn m.sdc, .int .i64 m.cau, .int .i64 m.crd, .slice m.cba m.cbn m.cbc, .slice m.cpa m.cpn m.cpc, .slice m.cva m.cvn m.cvc, .int .i64 m.ro] 47)).alloc (.cells #[.slice none 0 0, .int .i64 0] 28)) hl
  have hF : appF bs.length sy X B.length = if tapeOk bs.length sy then (if X ≠ 0 then X else if 400000 < bs.length + 2 + B.length then 6 else 0) else 12 := rfl
  generalize appF bs.length sy X B.length = F at hF ⊢
  have HF : Hid _ := hF
  clear hF hs
  go_enter Try.func17, Try.ntmps17
  go_wp2_with fail
  generalize ((w.alloc (.cells #[.slice sa bs.length cap, .int .i64 sy] 28)).alloc (.cells #[.int .i64 m.fr, .int .i64 m.tt, .int .i64 m.ki, .int .i64 m.bau, .int .i64 m.bnu, .slice m.bta m.btn m.btc, .int .i64 m.hau, .int .i64 m.hrd, .slice m.hba m.hbn m.hbc, .slice m.hpa m.hpn m.hpc, .int .i64 m.sau, .int .i64 m.srd, .slice m.sda m.sdn m.sdc, .int .i64 m.cau, .int .i64 m.crd, .slice m.cba m.cbn m.cbc, .slice m.cpa m.cpn m.cpc, .slice m.cva m.cvn m.cvc, .int .i64 m.ro] 47)).alloc (.cells #[.slice none 0 0, .int .i64 0] 28) = W0 at hA r0 r1 r2 hM ⊢
  refine hM.mono ?_
  rintro e w1 ⟨he, hb1⟩
  subst he
  dsimp only
  have hB1 := hA.trans (hb1.mono hA.size)
  have p0 := (hb1.block _ (lt_of_heap r0)).trans r0
  have p1 := (hb1.block _ (lt_of_heap r1)).trans r1
  have p2 := (hb1.block _ (lt_of_heap r2)).trans r2
  clear hM r0 r1 r2 hb1 hA
  cases ht : tapeOk bs.length sy with
  | false =>
    have hF : Hid (F = 12) := by show _ = _; rw [HF.out, ht]; rfl
    have d0 : w1.cell? ⟨w.heap.size + 1 + 1, 0, none⟩ = some (.slice none 0 0) := cells_at p2 0 _ rfl
    have d1 : w1.cell? ⟨w.heap.size + 1 + 1, 1, none⟩ = some (.int .i64 0) := cells_at p2 1 _ rfl
    have f0 := frozen_at p2 0
    have f1 := frozen_at p2 1
    clear ht
    go_wp2_with fail
    refine bodyPost_ret (v := .tuple #[.agg #[.slice none 0 0, .int .i64 0], .int .i64 12]) (by simp [results, Try.results17, go_sem, d0, d1]) rfl (appIs_bad hF.out (by decide) ?_)
    exact (hB1.setCell (by simp; omega) _).setCell (by simp; omega) _
  | true =>
    obtain ⟨t1, t2, t3⟩ := tapeOk_iff.1 ht
    go_wp2_with (refine wpList_load_row rfl 47 _ rfl (w.heap.size + 1) rfl 47 _ (0, 0) _ p1 Try.underlying47 rfl sMsg ?_)
    refine (HE'.out w1 hB1).mono ?_
    rintro e w2 ⟨v, he, ho, hb2⟩
    subst he
    dsimp only
    have hB2 := hB1.trans (hb2.mono hB1.size)
    have q0 := (hb2.block _ (lt_of_heap p0)).trans p0
    have q2 := (hb2.block _ (lt_of_heap p2)).trans p2
    have hlt2 : w.heap.size + 1 + 1 < w1.heap.size := lt_of_heap p2
    clear p0 p1 p2
    by_cases hx : X = 0
    · have hLp := hX0 hx
      obtain ⟨ra, rc, hv, -, hs2⟩ := owns_form ho
      subst hv
      have c0 : w2.cell? ⟨w.heap.size, 0, none⟩ = some (.slice sa bs.length cap) := cells_at q0 0 _ rfl
      subst hx
      by_cases hbig : 400000 < bs.length + 2 + B.length
      · have hF : Hid (F = 6) := by show _ = _; rw [HF.out, ht]; simp [hbig]
        have hbigI : (400000 : Int) < (bs.length : Int) + 2 + (B.length : Int) := by omega
        have d0 : w2.cell? ⟨w.heap.size + 1 + 1, 0, none⟩ = some (.slice none 0 0) := cells_at q2 0 _ rfl
        have d1 : w2.cell? ⟨w.heap.size + 1 + 1, 1, none⟩ = some (.int .i64 0) := cells_at q2 1 _ rfl
        have f0 := frozen_at q2 0
        have f1 := frozen_at q2 1
        clear ht hX hX0 hLp hbig
        go_wp2_with fail
        refine bodyPost_ret (v := .tuple #[.agg #[.slice none 0 0, .int .i64 0], .int .i64 6]) (by simp [results, Try.results17, go_sem, d0, d1]) rfl (appIs_bad hF.out (by decide) ?_)
        exact (hB2.setCell (by simp; omega) _).setCell (by simp; omega) _
      · have hF : Hid (F = 0) := by show _ = _; rw [HF.out, ht]; simp [hbig]
        have hbigI : ¬ (400000 : Int) < (bs.length : Int) + 2 + (B.length : Int) := by omega
        have Hbig : Hid (bs.length + 2 + B.length ≤ 400000) := by show _ ≤ _; omega
        have hnc : (bs.length : Int) ≤ cap := by omega
        have hn0 : (0 : Int) ≤ bs.length := by omega
        have hL0 : (0 : Int) ≤ B.length := by omega
        have hL1 : (B.length : Int) ≤ 4000 := by omega
        have HL : Hid (0 < B.length ∧ B.length ≤ 4000) := ⟨hLp, hBL⟩
        obtain ⟨i, hi, hz0, hz1, hz2⟩ := info_parts infoU8
        have hsW := HS.out.below hB2
        clear ht hX hX0 hLp hbig hBL t1
        have hlt0 : w.heap.size < w2.heap.size := lt_of_heap q0
        have hlt2' : w.heap.size + 1 + 1 < w2.heap.size := lt_of_heap q2
        have Hnil : Hid (sa = none → bs.length = 0 ∧ bs.length = 0) := by
          show _ → _
          intro h
          have := hsW.nil h
          have := hsW.le
          omega
        have Hcell : Hid (∀ b, sa = some b → ∀ j u, (ub bs)[j]? = some u → w2.cell? (b.add j) = some u) := by
          show ∀ _, _
          intro b hb j u hu
          have hj : j < bs.length := by
            rcases Nat.lt_or_ge j bs.length with g | g
            · exact g
            · rw [List.getElem?_eq_none (by rw [ub_length]; exact g)] at hu; cases hu
          rcases hsW.bytes with h | ⟨sb, so, e, h⟩
          · rw [h] at hj; simp at hj
          · rw [hb] at e
            cases e
            rw [add_off, h j hj]
            simp [ub, hj] at hu
            simp [hj, hu]
        obtain ⟨rb, ro, hra, hrec⟩ : ∃ rb ro, ra = some ⟨rb, ro, none⟩ ∧ ∀ j, j < B.length → w2.cell? ⟨rb, ro + j, none⟩ = some (.int .u8 (B.getD j 0)) := by
          rcases hs2.bytes with h | h
          · rw [h] at HL; exact absurd HL.out.1 (by simp)
          · exact h
        subst hra
        have hrb : rb < w2.heap.size := block_lt_of_cell (hrec 0 HL.out.1)
        have Hrec : Hid (∀ j u, (ub B)[j]? = some u → w2.cell? ((⟨rb, ro, none⟩ : Addr).add j) = some u) := by
          show ∀ _, _
          intro j u hu
          have hj : j < B.length := by
            rcases Nat.lt_or_ge j B.length with g | g
            · exact g
            · rw [List.getElem?_eq_none (by rw [ub_length]; exact g)] at hu; cases hu
          rw [add_off, hrec j hj]
          simp [ub, hj] at hu
          simp [hj, hu]
        clear hrec hsW hs2 hB1 ho
        go_wp2_with (at_builtin; refine wpList_append_grows _ rfl _ _ 26 rfl 5 i (.int .u8 0) 1 1 Try.underlying26 hi hz0 hz1 hz2 rfl (by decide) sa bs.length bs.length (ub bs) rfl Hnil.out (by rw [ub_length]; omega) (fun b hb j u hu => (heap_cell_alloc (Hcell.out b hb j u hu))) ⟨w2.heap.size, 0, none⟩ 2 2 [.int .u8 ((B.length : Int) / 256), .int .u8 ((B.length : Int) % 256)] rfl rfl (cells_new _ _ _) (u8_one [_, _]) (by omega) (by unfold maxLen; omega) (by omega) ?_; intro v3 w3 ho3 hg3; have hb3 : Below w2.heap.size w2 w3 := ((Below.refl _ _).alloc (Nat.le_refl _) _).trans ((grown_none hg3).mono (le_alloc (Nat.le_refl _) _)))
        have s0 := (hb3.block _ hlt0).trans q0
        have s2 := (hb3.block _ hlt2').trans q2
        have c1 : w3.cell? ⟨w.heap.size, 1, none⟩ = some (.int .i64 sy) := cells_at s0 1 _ rfl
        have hB3 := hB2.trans (hb3.mono hB2.size)
        have ho3' : w3.ownsRow w2.heap.size 5 1 v3 (bs.length + 2) (ub (bs ++ [(B.length : Int) / 256, (B.length : Int) % 256])) := by
          have := ownsRow_base' ho3 (le_alloc (Nat.le_refl w2.heap.size) (.cells #[.int .u8 ((B.length : Int) / 256), .int .u8 ((B.length : Int) % 256)] 5))
          simpa [ub] using this
        have hne0 : v3.ownBlock ≠ some w.heap.size := fun e => by have := (ho3'.lt _ e).1; omega
        have hne2 : v3.ownBlock ≠ some (w.heap.size + 1 + 1) := fun e => by have := (ho3'.lt _ e).1; omega
        have Hrec3 : Hid (∀ j u, (ub B)[j]? = some u → w3.drew.cell? ((⟨rb, ro, none⟩ : Addr).add j) = some u) := by
          show ∀ _, _
          intro j u hu
          have h1 := Hrec.out j u hu
          exact (hb3.cell (by simpa [add_off] using hrb)).trans h1
        clear ho3 hg3 c0 q0 q2
        have hneO : ¬ w.heap.size + 1 + 1 = w.heap.size := by omega
        go_region_held3 (fun w' => w'.cell? ⟨w.heap.size, 1, none⟩ = some (.int .i64 sy)) (go_keep) ((refine step_append_at rfl _ _ 26 rfl w2.heap.size 5 i (.int .u8 0) 1 1 Try.underlying26 hi hz0 hz1 hz2 rfl (by decide) v3 (bs.length + 2) _ rfl ho3'.drew ⟨rb, ro, none⟩ B.length rc (ub B) rfl (by rw [ub_length]; omega) Hrec3.out (u8_one B) (by have := Hbig.out; unfold maxLen; omega) (by have := Hbig.out; omega) hb3.size ?_; intro v4 w4 ho4 G4; have t0 := G4.row s0 hne0; have t2 := G4.row s2 hne2; have g1 : w4.cell? ⟨w.heap.size, 1, none⟩ = some (.int .i64 sy) := cells_at t0 1 _ rfl; have e0 : w4.cell? ⟨w.heap.size + 1 + 1, 0, none⟩ = some (.slice none 0 0) := cells_at t2 0 _ rfl; have e1 : w4.cell? ⟨w.heap.size + 1 + 1, 1, none⟩ = some (.int .i64 0) := cells_at t2 1 _ rfl; have k0 := frozen_at t2 0; have k1 := frozen_at t2 1; obtain ⟨za, zc, rfl⟩ := owns_shape ho4))
        all_goals
          have ho5 : w4.ownsRow w2.heap.size 5 1 (.slice za (bs.length + 2 + B.length) zc) (bs.length + 2 + B.length) (ub (bs ++ [(B.length : Int) / 256, (B.length : Int) % 256] ++ B)) := by simpa [ub] using ho4
          have hb4 := G4.below (base := w2.heap.size) hb3.size (fun q e => (ho3'.lt q e).1)
          go_wp2_with fail
          obtain ⟨xa, xc, hv, hlen, hs5⟩ := owns_form ho5
          have hlt5 := ho5.lt
          simp only [Value.slice.injEq, true_and] at hv
          obtain ⟨rfl, rfl⟩ := hv
          have hE : appB bs F B = bs ++ [(B.length : Int) / 256, (B.length : Int) % 256] ++ B := by rw [appB, if_pos hF.out]
          have hS : appS sy F = sy := by rw [appS, if_pos hF.out]
          have h34 := hb4.size
          rw [hE, hS, hF.out]
          refine bodyPost_ret (v := .tuple #[.agg #[.slice za (bs.length + 2 + B.length) zc, .int .i64 sy], .int .i64 0]) (by simp [results, Try.results17, go_sem, e0, e1]) rfl ⟨za, zc, by rw [← hlen], ?_, ?_, ?_⟩
          · exact (hs5.setCellT _ _ _ (fun sb so e => by have := (hlt5 sb (by rw [e]; rfl)).1; omega)).setCellT _ _ _ (fun sb so e => by have := (hlt5 sb (by rw [e]; rfl)).1; omega)
          · intro sb so e
            have := hlt5 sb (by rw [e]; rfl)
            exact ⟨by have := hB2.size; omega, by simpa using this.2⟩
          · have hb34 : Below w2.heap.size w3 w4 := ⟨hb4.os, hb4.tape, hb4.output, hb4.size, hb4.block⟩
            exact ((hB3.trans (hb34.mono hB2.size)).setCell (by simp; omega) _).setCell (by simp; omega) _
    · have hF : Hid (F = X) := by show _ = _; rw [HF.out, ht]; simp [hx]
      have d0 : w2.cell? ⟨w.heap.size + 1 + 1, 0, none⟩ = some (.slice none 0 0) := cells_at q2 0 _ rfl
      have d1 : w2.cell? ⟨w.heap.size + 1 + 1, 1, none⟩ = some (.int .i64 0) := cells_at q2 1 _ rfl
      have f0 := frozen_at q2 0
      have f1 := frozen_at q2 1
      clear ht hX hX0
      go_wp2_with fail
      refine bodyPost_ret (v := .tuple #[.agg #[.slice none 0 0, .int .i64 0], .int .i64 X]) (by simp [results, Try.results17, go_sem, d0, d1]) rfl (appIs_bad hF.out hx ?_)
      exact (hB2.setCell (by simp; omega) _).setCell (by simp; omega) _
end Go.Proofs.Ytcmlmmlcebemgaa

namespace Go.Proofs.Ytcmlmmlcebemgaa
open Go.RowKit

/-- P8.3: a record as it stands on a tape. -/
def MV.onTape (x : MV) : List Int := [(x.bytes.length : Int) / 256, (x.bytes.length : Int) % 256] ++ x.bytes
set_option maxRecDepth 100000 in
theorem IsRec.len {x : MV} (h : IsRec x) (hd : x.m.sdn = x.ds.length) : 3 ≤ x.bytes.length ∧ x.bytes.length ≤ 323 := by
  have := bodyB_le hd h.car
  simp [MV.bytes, msgB]; omega
set_option maxRecDepth 100000 in
theorem onTape_len (x : MV) : x.onTape.length = 2 + x.bytes.length := by simp [MV.onTape]; omega
set_option maxRecDepth 100000 in
theorem rec_append (x : MV) (bs : List Int) (sa : Option Addr) (n cap : Nat) (sy : Int) (w : World) (hn : n = bs.length) (hs : SliceAt w sa cap bs) (hM : MAt w x) (hI : IsRec x) (hy : 0 ≤ sy ∧ sy ≤ bs.length) (hl : bs.length + 2 + x.bytes.length ≤ 400000) :
    Calls Try.prog 17 #[.agg #[.slice sa n cap, .int .i64 sy], .agg #[.int .i64 x.m.fr, .int .i64 x.m.tt, .int .i64 x.m.ki, .int .i64 x.m.bau, .int .i64 x.m.bnu, .slice x.m.bta x.m.btn x.m.btc, .int .i64 x.m.hau, .int .i64 x.m.hrd, .slice x.m.hba x.m.hbn x.m.hbc, .slice x.m.hpa x.m.hpn x.m.hpc, .int .i64 x.m.sau, .int .i64 x.m.srd, .slice x.m.sda x.m.sdn x.m.sdc, .int .i64 x.m.cau, .int .i64 x.m.crd, .slice x.m.cba x.m.cbn x.m.cbc, .slice x.m.cpa x.m.cpn x.m.cpc, .slice x.m.cva x.m.cvn x.m.cvc, .int .i64 x.m.ro]] w fun e w' => TapeIs w w' e (bs ++ x.onTape) sy 0 := by
  obtain ⟨hl1, hl2⟩ := hI.len hM.dn
  have hE : ∀ W : World, Below w.heap.size w W → Calls Try.prog 28 #[.agg #[.int .i64 x.m.fr, .int .i64 x.m.tt, .int .i64 x.m.ki, .int .i64 x.m.bau, .int .i64 x.m.bnu, .slice x.m.bta x.m.btn x.m.btc, .int .i64 x.m.hau, .int .i64 x.m.hrd, .slice x.m.hba x.m.hbn x.m.hbc, .slice x.m.hpa x.m.hpn x.m.hpc, .int .i64 x.m.sau, .int .i64 x.m.srd, .slice x.m.sda x.m.sdn x.m.sdc, .int .i64 x.m.cau, .int .i64 x.m.crd, .slice x.m.cba x.m.cbn x.m.cbc, .slice x.m.cpa x.m.cpn x.m.cpc, .slice x.m.cva x.m.cvn x.m.cvc, .int .i64 x.m.ro]] W fun e w' => ∃ v, e = .returned (.tuple #[v, .int .i64 0]) ∧ w'.ownsRow W.heap.size 5 1 v x.bytes.length (ub x.bytes) ∧ Below W.heap.size W w' := fun W hW => by
    have h := tEnc_any x.m x.ss x.bl x.pl x.cbl x.cpl x.ds x.vl W (hM.at'.below hW) (hM.dig.below hW) hM.dn
    have h0 : recF x.m (checkF x.m (carriedF x.m x.ss x.bl x.pl x.cbl x.cpl x.vl)) = 0 := hI.rec0
    rw [h0] at h
    exact h
  have h := tapeAppend_any x.m bs sa n cap sy 0 x.bytes w hn hs (by omega) (fun h => absurd rfl h) (fun _ => by omega) (by omega) hE
  have hF : appF bs.length sy 0 x.bytes.length = 0 := by
    rw [appF, if_pos (tapeOk_iff.2 ⟨by omega, hy.1, hy.2⟩), if_neg (by simp), if_neg (by omega)]
  rw [hF, appB, if_pos rfl, appS, if_pos rfl, List.append_assoc] at h
  exact h
set_option maxRecDepth 100000 in
/-- What is no record is refused. -/
theorem bad_append (x : MV) (X : Int) (w : World) (hM : MAt w x) (hX : recF x.m (checkF x.m x.car) = X) (h0 : X ≠ 0) :
    Calls Try.prog 17 #[.agg #[.slice none 0 0, .int .i64 0], .agg #[.int .i64 x.m.fr, .int .i64 x.m.tt, .int .i64 x.m.ki, .int .i64 x.m.bau, .int .i64 x.m.bnu, .slice x.m.bta x.m.btn x.m.btc, .int .i64 x.m.hau, .int .i64 x.m.hrd, .slice x.m.hba x.m.hbn x.m.hbc, .slice x.m.hpa x.m.hpn x.m.hpc, .int .i64 x.m.sau, .int .i64 x.m.srd, .slice x.m.sda x.m.sdn x.m.sdc, .int .i64 x.m.cau, .int .i64 x.m.crd, .slice x.m.cba x.m.cbn x.m.cbc, .slice x.m.cpa x.m.cpn x.m.cpc, .slice x.m.cva x.m.cvn x.m.cvc, .int .i64 x.m.ro]] w fun e w' => TapeIs w w' e [] 0 X := by
  have hE : ∀ W : World, Below w.heap.size w W → Calls Try.prog 28 #[.agg #[.int .i64 x.m.fr, .int .i64 x.m.tt, .int .i64 x.m.ki, .int .i64 x.m.bau, .int .i64 x.m.bnu, .slice x.m.bta x.m.btn x.m.btc, .int .i64 x.m.hau, .int .i64 x.m.hrd, .slice x.m.hba x.m.hbn x.m.hbc, .slice x.m.hpa x.m.hpn x.m.hpc, .int .i64 x.m.sau, .int .i64 x.m.srd, .slice x.m.sda x.m.sdn x.m.sdc, .int .i64 x.m.cau, .int .i64 x.m.crd, .slice x.m.cba x.m.cbn x.m.cbc, .slice x.m.cpa x.m.cpn x.m.cpc, .slice x.m.cva x.m.cvn x.m.cvc, .int .i64 x.m.ro]] W fun e w' => ∃ v, e = .returned (.tuple #[v, .int .i64 X]) ∧ w'.ownsRow W.heap.size 5 1 v ([] : List Int).length (ub []) ∧ Below W.heap.size W w' := fun W hW => by
    have h := tEnc_any x.m x.ss x.bl x.pl x.cbl x.cpl x.ds x.vl W (hM.at'.below hW) (hM.dig.below hW) hM.dn
    have hX' : recF x.m (checkF x.m (carriedF x.m x.ss x.bl x.pl x.cbl x.cpl x.vl)) = X := hX
    rw [hX', recB, if_neg h0] at h
    exact h
  have h := tapeAppend_any x.m [] none 0 0 0 X [] w rfl (nilSliceT _) (by simp) (fun _ => rfl) (fun h => absurd h h0) (by simp) hE
  have hF : appF ([] : List Int).length 0 X ([] : List Int).length = X := by
    rw [appF, if_pos (tapeOk_iff.2 ⟨by simp, by simp, by simp⟩), if_pos h0]
  rw [hF, appB, if_neg h0, appS, if_neg h0] at h
  exact h
end Go.Proofs.Ytcmlmmlcebemgaa

namespace Go.Proofs.Ytcmlmmlcebemgaa
open Go.RowKit

set_option maxRecDepth 100000 in
theorem step_append_on {ops : Array Oper} {o : Oper} {a : Act} {w : World} {K : Act → World → Prop} {Q : Exit → Act → World → Prop} {E : Prop}
    (hw : Region.wanted o (yielded ops a.tmps) = true) (d : Nat) (hd : o.dst = some d) (s x : Operand) (t : TypeId) (ho : o.op = .call { callee := .builtin .append, args := #[s, x], argTypes := #[t, t] })
    (base : Nat) (e : TypeId) (i : TypeInfo) (z : Value) (size bytes : Nat) (ht : Try.prog.underlying t = some (.slice e)) (hi : Try.prog.info? e = some i) (hz : i.zero = some z)
    (hsize : i.size = size) (hby : i.bytes = bytes) (hzs : z.cells.size = size) (hsz : 0 < size)
    (v : Value) (n : Nat) (xs : List Value) (hs : a.eval s = v) (hown : w.ownsRow base e size v n xs)
    (ad : Addr) (m c : Nat) (news : List Value) (hx : a.eval x = .slice (some ad) m c) (hl : news.length = m * size) (hnews : ∀ j u, news[j]? = some u → w.cell? (ad.add j) = some u) (h1 : ∀ u ∈ news, u.oneCell' = true)
    (h63 : n + m ≤ maxLen) (hbytes : (n + m) * bytes ≤ 140737488355328) (hbase : base ≤ w.heap.size)
    (hK : ∀ v' w', w'.ownsRow base e size v' (n + m) (xs ++ news) → Grew w v w' v' → K (a.put (some d) v') w') :
    if Region.wanted o (yielded ops a.tmps) = true then Oper.wp Try.prog o a w K Q else E := by
  rw [if_pos hw]
  obtain ⟨v', w', hr, h2, h3, _, h5⟩ := run_append_own_at (P := Try.prog) w base t o.type e i z size bytes ht hi hz hsize hby hzs hsz v n xs hown ad m c news hl hnews h1 h63 hbytes hbase
  unfold Oper.wp execOp
  simp only [ho, resolve, invoke, builtin, Sem.run_bind, Sem.run_pure, Result.andThen_ok, List.map_toArray, List.map_cons, List.map_nil, hs, hx, hr]
  rw [Oper.upon_value, hd]
  exact hK v' w' h2 (Grew.of h3 h5)
set_option maxRecDepth 100000 in
/-- An operation behind a guard that is no call, and that turns the world. -/
theorem step_run_on {ops : Array Oper} {o : Oper} {a : Act} {w : World} {K : Act → World → Prop} {Q : Exit → Act → World → Prop} {E : Prop}
    (hw : Region.wanted o (yielded ops a.tmps) = true) (d : Nat) (hd : o.dst = some d) (v : Value) (w' : World) (hr : (execOp a.eval o).run Try.prog w = .ok (.value v) w') (hK : K (a.put (some d) v) w') :
    if Region.wanted o (yielded ops a.tmps) = true then Oper.wp Try.prog o a w K Q else E := by
  rw [if_pos hw]
  unfold Oper.wp
  rw [hr, Oper.upon_value, hd]
  exact hK
set_option maxRecDepth 100000 in
/-- A store as the operation that comes up. -/
theorem step_store {ops : Array Oper} {o : Oper} {a : Act} {w : World} {K : Act → World → Prop} {Q : Exit → Act → World → Prop} {E : Prop}
    (hg : o.guard = none) (hd : o.dst = none) (w' : World) (hr : (execOp a.eval o).run Try.prog w = .ok .skip w') (hK : K a w') :
    if Region.wanted o (yielded ops a.tmps) = true then Oper.wp Try.prog o a w K Q else E := by
  have hw : Region.wanted o (yielded ops a.tmps) = true := by simp [Region.wanted, hg]
  rw [if_pos hw]
  unfold Oper.wp
  rw [hr, Oper.upon_skip, hd]
  exact hK
end Go.Proofs.Ytcmlmmlcebemgaa

namespace Go.Proofs.Ytcmlmmlcebemgaa
open Go.RowKit

/-- P8.3: records as they stand on a tape. -/
def tapeB (ms : List MV) : List Int := ms.flatMap MV.onTape
set_option maxRecDepth 100000 in
theorem tapeB_snoc (ms : List MV) (x : MV) : tapeB (ms ++ [x]) = tapeB ms ++ x.onTape := by simp [tapeB]
set_option maxRecDepth 100000 in
theorem tapeB_le (ms : List MV) (h : ∀ x ∈ ms, x.bytes.length ≤ 323) : (tapeB ms).length ≤ 325 * ms.length := by
  induction ms with
  | nil => simp [tapeB]
  | cons x l ih =>
    have h1 := h x (by simp)
    have h2 := ih (fun y hy => h y (by simp [hy]))
    have h3 := onTape_len x
    simp only [tapeB, List.flatMap_cons, List.length_append, List.length_cons] at h2 ⊢
    omega
/-- Messages in a row. -/
def MsRow (w : World) (sa : Option Addr) (ms : List MV) : Prop := ms = [] ∨ ∃ sb so, sa = some ⟨sb, so, none⟩ ∧ ∀ (k : Nat) (hk : k < ms.length), w.rangeAt sb (so + k * 19) (mcell (ms[k]).m)
set_option maxRecDepth 100000 in
theorem range_lt {w : World} {b o : Nat} {m : Msg} (h : w.rangeAt b o (mcell m)) : b < w.heap.size := by
  have h0 := h 0 (.int .i64 m.fr) rfl
  exact block_lt_of_cell h0
set_option maxRecDepth 100000 in
theorem range_below {w w' : World} {b o : Nat} {m : Msg} (h : w.rangeAt b o (mcell m)) (hb : Below w.heap.size w w') : w'.rangeAt b o (mcell m) := fun j v hv => (hb.cell (p := ⟨b, o + j, none⟩) (range_lt h)).trans (h j v hv)
set_option maxRecDepth 100000 in
theorem range_far {w : World} {b o g j : Nat} {v : Value} {m : Msg} (h : w.rangeAt b o (mcell m)) (hne : b ≠ g) : (w.setCell ⟨g, j, none⟩ v).rangeAt b o (mcell m) := fun i u hu => (World.cell?_setCell_far _ _ _ _ (show g ≠ b from fun e => hne e.symm)).trans (h i u hu)
set_option maxRecDepth 100000 in
theorem MsRow.below {w w' : World} {sa : Option Addr} {ms : List MV} (h : MsRow w sa ms) (hb : Below w.heap.size w w') : MsRow w' sa ms := by
  rcases h with h | ⟨sb, so, e, h⟩
  · exact .inl h
  · exact .inr ⟨sb, so, e, fun k hk => range_below (h k hk) hb⟩
set_option maxRecDepth 100000 in
theorem msRow_of_owns {w : World} {base n : Nat} {v : Value} {ms : List MV} (h : w.ownsRow base 47 19 v n (mcells ms)) : ∃ sa cap, v = .slice sa n cap ∧ n = ms.length ∧ n ≤ cap ∧ cap ≤ maxLen ∧ MsRow w sa ms := by
  have hl : n = ms.length := by have := h.1; rw [mcells_len] at this; omega
  rcases h.2 with ⟨rfl, hn⟩ | ⟨g, cap, cur, rfl, hr⟩
  · exact ⟨none, 0, by rw [hn], hl, by omega, by decide, .inl (List.eq_nil_of_length_eq_zero (by omega))⟩
  · refine ⟨some ⟨g, 0, none⟩, cap, rfl, hl, ?_, ?_, .inr ⟨g, 0, rfl, fun k hk j v hv => ?_⟩⟩
    · obtain ⟨_, _, h1, _⟩ := hr; exact h1
    · obtain ⟨_, _, _, h2, _⟩ := hr; exact h2
    · have hj : j < 19 := by
        rcases Nat.lt_or_ge j 19 with g | g
        · exact g
        · rw [List.getElem?_eq_none (by rw [mcell_len]; exact g)] at hv; cases hv
      have hlt : k * 19 + j < n * 19 := by omega
      rw [show 0 + k * 19 + j = k * 19 + j by omega, World.ownsRow.cellAt h (k * 19 + j) hlt, mcells_at ms k hk j hj, hv]
set_option maxRecDepth 100000 in
set_option maxHeartbeats 8000000 in
theorem taped_any (ms : List MV) (sa : Option Addr) (n cap : Nat) (w : World) (hn : n = ms.length) (h24 : ms.length ≤ 100) (hR : MsRow w sa ms) (hM : ∀ x ∈ ms, MAt w x ∧ IsRec x) :
    Calls Try.prog 15 #[.slice sa n cap] w fun e w' => ∃ ta tc, e = .returned (.tuple #[.agg #[.slice ta (tapeB ms).length tc, .int .i64 0], .bool true]) ∧ SliceAt w' ta tc (tapeB ms) ∧ (∀ sb so, ta = some ⟨sb, so, none⟩ → w.heap.size ≤ sb) ∧ Below w.heap.size w w' := by
  subst hn
  have HL : Hid (∀ j, (tapeB (ms.take j)).length ≤ 32500) := by
    show ∀ _, _
    intro j
    have := tapeB_le (ms.take j) (fun x hx => ((hM x (List.mem_of_mem_take hx)).2.len (hM x (List.mem_of_mem_take hx)).1.dn).2)
    rw [List.length_take] at this
    omega
  have hA : Below w.heap.size w ((w.alloc (.cells #[.slice none 0 0, .int .i64 0] 28)).alloc (.cells #[.slice none 0 0, .int .i64 0] 28)) := ((Below.refl _ _).alloc (Nat.le_refl _) _).alloc (by simp) _
  have q0 := heap_alloc2_old w (.cells #[.slice none 0 0, .int .i64 0] 28) (.cells #[.slice none 0 0, .int .i64 0] 28)
  have q1 := heap_alloc2_new w (.cells #[.slice none 0 0, .int .i64 0] 28) (.cells #[.slice none 0 0, .int .i64 0] 28)
  have HM : Hid (∀ x ∈ ms, MAt w x ∧ IsRec x) := hM
  clear hM
  go_enter Try.func15, Try.ntmps15
  go_upto_region 3 with fail
  generalize (w.alloc (.cells #[.slice none 0 0, .int .i64 0] 28)).alloc (.cells #[.slice none 0 0, .int .i64 0] 28) = W0 at hA q0 q1 ⊢
  go_loopw [5] (fun j wr => ∃ (k : Nat) (ta : Option Addr) (tc : Nat) (D : List Int), k ≤ ms.length ∧ j = .int .i64 k ∧ Hid (D = tapeB (ms.take k)) ∧ Below w.heap.size w wr ∧ wr.heap[w.heap.size]? = some (.cells #[.slice none 0 0, .int .i64 0] 28 (0, 0)) ∧ wr.heap[w.heap.size + 1]? = some (.cells #[.slice ta D.length tc, .int .i64 0] 28 (0, 0)) ∧ SliceAt wr ta tc D ∧ (∀ sb so, ta = some ⟨sb, so, none⟩ → w.heap.size + 2 ≤ sb)) (fun j _ => ms.length - (intOf j).toNat)
  case atStart => exact ⟨0, none, 0, [], Nat.zero_le _, rfl, rfl, hA, q0, q1, nilSliceT _, (fun _ _ e => by cases e)⟩
  case round =>
    clear hA q0 q1
    obtain ⟨k, ta, tc, D, hk, rfl, hD, hb, r0, r1, hS, hf⟩ := hrel
    have hsz : w.heap.size + 1 < wr.heap.size := lt_of_heap r1
    by_cases hlt : k < ms.length
    · have hltI : (k : Int) < ms.length := by omega
      obtain ⟨sb, so, rfl, hrow⟩ : ∃ sb so, sa = some ⟨sb, so, none⟩ ∧ ∀ (k : Nat) (hk : k < ms.length), wr.rangeAt sb (so + k * 19) (mcell (ms[k]).m) := by
        rcases hR.below hb with h | h
        · rw [h] at hlt; simp at hlt
        · exact h
      have hrg := hrow k hlt
      have hxm := HM.out (ms[k]) (List.getElem_mem hlt)
      have hst : Hid (D ++ (ms[k]).onTape = tapeB (ms.take (k + 1))) := by
        show _ = _
        rw [List.take_succ_eq_append_getElem hlt, tapeB_snoc, hD.out]
      have hDl : D.length ≤ 32500 := by rw [hD.out]; exact HL.out k
      have hlen := hxm.2.len hxm.1.dn
      have hol := onTape_len (ms[k])
      clear hrow
      generalize ms[k] = x at *
      have HAp : Hid (∀ W : World, Below wr.heap.size wr W → Calls Try.prog 17 #[.agg #[.slice ta D.length tc, .int .i64 0], .agg #[.int .i64 x.m.fr, .int .i64 x.m.tt, .int .i64 x.m.ki, .int .i64 x.m.bau, .int .i64 x.m.bnu, .slice x.m.bta x.m.btn x.m.btc, .int .i64 x.m.hau, .int .i64 x.m.hrd, .slice x.m.hba x.m.hbn x.m.hbc, .slice x.m.hpa x.m.hpn x.m.hpc, .int .i64 x.m.sau, .int .i64 x.m.srd, .slice x.m.sda x.m.sdn x.m.sdc, .int .i64 x.m.cau, .int .i64 x.m.crd, .slice x.m.cba x.m.cbn x.m.cbc, .slice x.m.cpa x.m.cpn x.m.cpc, .slice x.m.cva x.m.cvn x.m.cvc, .int .i64 x.m.ro]] W fun e w' => TapeIs W w' e (D ++ x.onTape) 0 0) := by
        show ∀ _, _
        intro W hW
        exact rec_append x D ta _ tc 0 W rfl (hS.below hW) (hxm.1.below (hb.trans (hW.mono hb.size))) hxm.2 ⟨by omega, by omega⟩ (by omega)
      have hXl : D.length < (D ++ x.onTape).length := by rw [List.length_append, hol]; omega
      clear hxm hlen hol hDl hD HM HL
      generalize D ++ x.onTape = XS at *
      have HXl : Hid (D.length < XS.length) := hXl
      clear hXl
      go_upto_region 5 with fail
      go_cut [6, 7] from 15 to 35 (fun p q wx => ∃ b xe xce, p = .pointer (some ⟨b, 0, none⟩) ∧ q = .int .i64 0 ∧ wr.heap.size ≤ b ∧ Below wr.heap.size wr wx ∧ wx.heap[b]? = some (.cells #[.slice xe XS.length xce, .int .i64 0] 28 (0, 0)) ∧ wx.heap[w.heap.size + 1]? = some (.cells #[.slice ta D.length tc, .int .i64 0] 28 (0, 0)) ∧ wx.heap[w.heap.size]? = some (.cells #[.slice none 0 0, .int .i64 0] 28 (0, 0)) ∧ SliceAt wx xe xce XS ∧ (∀ sb so, xe = some ⟨sb, so, none⟩ → wr.heap.size ≤ sb))
      case first =>
          have hV0 : Below wr.heap.size wr wr.drew := (Below.refl _ _).drew
          have qT0 : wr.drew.heap[w.heap.size + 1]? = some (.cells #[.slice ta D.length tc, .int .i64 0] 28 (0, 0)) := r1
          have q00 : wr.drew.heap[w.heap.size]? = some (.cells #[.slice none 0 0, .int .i64 0] 28 (0, 0)) := r0
          have qR0 : wr.drew.rangeAt sb (so + k * 19) (mcell x.m) := hrg
          refine wp_region_held_drew (S := fun w' => w'.cell? ⟨(w.heap.size + 1), 0, none⟩ = some (.slice ta D.length tc) ∧ w'.cell? ⟨(w.heap.size + 1), 1, none⟩ = some (.int .i64 0) ∧ w'.rangeAt sb (so + k * 19) (mcell x.m)) (by kernel_rfl) ⟨cells_at qT0 0 _ rfl, cells_at qT0 1 _ rfl, qR0⟩ (fun hHeld => ?_)
          generalize wr.drew = V0 at hV0 qT0 q00 qR0 hHeld ⊢
          refine take_dst (i := 0) (d := 15) (v := .agg #[.slice ta D.length tc, .int .i64 0]) rfl rfl (by kernel_rfl) (by kernel_rfl) (by kernel_rfl) (fun _ _ _ h => h) (Or.inl ⟨by rfl, ?_⟩) hHeld ?_
          · (intro w0 hSw; (try dsimp only at hSw); go_simp)
          simp only [Act.put, List.setIfInBounds_toArray, List.set_cons_zero, List.set_cons_succ]
          refine take_dst (i := 1) (d := 16) (v := .slice (some ⟨sb, so, none⟩) ms.length cap) rfl rfl (by kernel_rfl) (by kernel_rfl) (by kernel_rfl) (fun _ _ _ h => h) (Or.inl ⟨by rfl, ?_⟩) hHeld ?_
          · (intro w0 hSw; (try dsimp only at hSw); go_simp)
          simp only [Act.put, List.setIfInBounds_toArray, List.set_cons_zero, List.set_cons_succ]
          refine take_dst (i := 2) (d := 17) (v := .int .i64 (k : Int)) rfl rfl (by kernel_rfl) (by kernel_rfl) (by kernel_rfl) (fun _ _ _ h => h) (Or.inl ⟨by rfl, ?_⟩) hHeld ?_
          · (intro w0 hSw; (try dsimp only at hSw); go_simp)
          simp only [Act.put, List.setIfInBounds_toArray, List.set_cons_zero, List.set_cons_succ]
          refine take_dst (i := 3) (d := 18) (v := .pointer (some ⟨sb, so + k * 19, none⟩)) rfl rfl (by kernel_rfl) (by kernel_rfl) (by kernel_rfl) (fun _ _ _ h => h) (Or.inl ⟨by rfl, ?_⟩) hHeld ?_
          · (intro w0 hSw; (try dsimp only at hSw); go_simp)
          simp only [Act.put, List.setIfInBounds_toArray, List.set_cons_zero, List.set_cons_succ]
          refine take_dst (i := 4) (d := 19) (v := .agg #[.int .i64 x.m.fr, .int .i64 x.m.tt, .int .i64 x.m.ki, .int .i64 x.m.bau, .int .i64 x.m.bnu, .slice x.m.bta x.m.btn x.m.btc, .int .i64 x.m.hau, .int .i64 x.m.hrd, .slice x.m.hba x.m.hbn x.m.hbc, .slice x.m.hpa x.m.hpn x.m.hpc, .int .i64 x.m.sau, .int .i64 x.m.srd, .slice x.m.sda x.m.sdn x.m.sdc, .int .i64 x.m.cau, .int .i64 x.m.crd, .slice x.m.cba x.m.cbn x.m.cbc, .slice x.m.cpa x.m.cpn x.m.cpc, .slice x.m.cva x.m.cvn x.m.cvc, .int .i64 x.m.ro]) rfl rfl (by kernel_rfl) (by kernel_rfl) (by kernel_rfl) (fun _ _ _ h => h) (yieldsIf_load_mid rfl 47 _ rfl sb (so + k * 19) rfl (mcell x.m) _ (fun w0 h => h.2.2) Try.underlying47 rfl sMsg') hHeld ?_
          simp only [Act.put, List.setIfInBounds_toArray, List.set_cons_zero, List.set_cons_succ]
          refine wpAnyH_ready (rs := [5, 9]) (by kernel_rfl) (by simp) (AllReadyH.cons rfl (fun K hK => ?_) (AllReadyH.cons rfl (fun K hK => ?_) AllReadyH.nil))
          · skip
            refine step_calls_dst rfl 20 rfl 17 [.tmp 15, .tmp 19] #[28, 47] rfl [.agg #[.slice ta D.length tc, .int .i64 0], .agg #[.int .i64 x.m.fr, .int .i64 x.m.tt, .int .i64 x.m.ki, .int .i64 x.m.bau, .int .i64 x.m.bnu, .slice x.m.bta x.m.btn x.m.btc, .int .i64 x.m.hau, .int .i64 x.m.hrd, .slice x.m.hba x.m.hbn x.m.hbc, .slice x.m.hpa x.m.hpn x.m.hpc, .int .i64 x.m.sau, .int .i64 x.m.srd, .slice x.m.sda x.m.sdn x.m.sdc, .int .i64 x.m.cau, .int .i64 x.m.crd, .slice x.m.cba x.m.cbn x.m.cbc, .slice x.m.cpa x.m.cpn x.m.cpc, .slice x.m.cva x.m.cvn x.m.cvc, .int .i64 x.m.ro]] rfl (enters_of Try.func17 (by kernel_rfl) rfl) (fun v w' => (∃ xe xce, v = .tuple #[.agg #[.slice xe XS.length xce, .int .i64 0], .int .i64 0] ∧ SliceAt w' xe xce XS ∧ (∀ sb so, xe = some ⟨sb, so, none⟩ → V0.heap.size ≤ sb ∧ sb < w'.heap.size)) ∧ Below V0.heap.size V0 w') ((HAp.out V0 hV0).mono (fun e w2 h => by obtain ⟨xe, xce, he, h1, h2, h3⟩ := h; exact ⟨_, he, ⟨xe, xce, rfl, h1, h2⟩, h3⟩)) ?_
            rintro v V1 ⟨⟨xe, xce, rfl, hse, hfe⟩, hb_1⟩
            have hle_1 := hV0.size
            have qT_2 := (hb_1.block _ (lt_of_heap qT0)).trans qT0
            have q0_2 := (hb_1.block _ (lt_of_heap q00)).trans q00
            have qR_2 := range_below qR0 hb_1
            have hB_2 := hV0.trans (hb_1.mono hV0.size)
            have hfw_1 : ∀ sb so, xe = some ⟨sb, so, none⟩ → wr.heap.size ≤ sb := fun sb so e => by have := (hfe sb so e).1; omega
            refine hK.out _ _ ⟨cells_at qT_2 0 _ rfl, cells_at qT_2 1 _ rfl, qR_2⟩ (fun hHeld => ?_)
            simp only [Act.put, List.setIfInBounds_toArray, List.set_cons_zero, List.set_cons_succ]
            refine take_dst (i := 6) (d := 14) (v := .tuple #[.agg #[.slice xe XS.length xce, .int .i64 0], .int .i64 0]) rfl rfl (by kernel_rfl) (by kernel_rfl) (by kernel_rfl) (fun _ _ _ h => h) (Or.inl ⟨by rfl, ?_⟩) hHeld ?_
            · (intro w0 hSw; (try dsimp only at hSw); go_simp)
            simp only [Act.put, List.setIfInBounds_toArray, List.set_cons_zero, List.set_cons_succ]
            refine take_dst (i := 7) (d := 21) (v := .agg #[.slice xe XS.length xce, .int .i64 0]) rfl rfl (by kernel_rfl) (by kernel_rfl) (by kernel_rfl) (fun _ _ _ h => h) (Or.inl ⟨by rfl, ?_⟩) hHeld ?_
            · (intro w0 hSw; (try dsimp only at hSw); go_simp)
            simp only [Act.put, List.setIfInBounds_toArray, List.set_cons_zero, List.set_cons_succ]
            refine take_dst (i := 8) (d := 22) (v := .int .i64 0) rfl rfl (by kernel_rfl) (by kernel_rfl) (by kernel_rfl) (fun _ _ _ h => h) (Or.inl ⟨by rfl, ?_⟩) hHeld ?_
            · (intro w0 hSw; (try dsimp only at hSw); go_simp)
            simp only [Act.put, List.setIfInBounds_toArray, List.set_cons_zero, List.set_cons_succ]
            refine wpAnyH_ready (rs := [9]) (by kernel_rfl) (by simp) (AllReadyH.cons rfl (fun K hK => ?_) AllReadyH.nil)
            refine step_run rfl 6 rfl (.pointer (some ⟨V1.heap.size, 0, none⟩)) (V1.alloc (.cells #[.slice none 0 0, .int .i64 0] 28)) (by go_simp) ?_
            have hA_3 : Below V1.heap.size V1 (V1.alloc (.cells #[.slice none 0 0, .int .i64 0] 28)) := (Below.refl _ _).alloc (Nat.le_refl _) _
            have qN_3 := heap_alloc_new V1 (.cells #[.slice none 0 0, .int .i64 0] 28)
            have hnT_3 := Nat.ne_of_lt (lt_of_heap qT_2)
            have hn0_3 := Nat.ne_of_lt (lt_of_heap q0_2)
            have hnR_3 := Nat.ne_of_lt (range_lt qR_2)
            have hl_3 : wr.heap.size ≤ V1.heap.size := hB_2.size
            have hx_3 : ∀ sb so, xe = some ⟨sb, so, none⟩ → sb ≠ V1.heap.size := fun sb so e => Nat.ne_of_lt (hfe sb so e).2
            have qT_4 := (hA_3.block _ (lt_of_heap qT_2)).trans qT_2
            have q0_4 := (hA_3.block _ (lt_of_heap q0_2)).trans q0_2
            have qR_4 := range_below qR_2 hA_3
            have hB_4 := hB_2.trans (hA_3.mono hB_2.size)
            have hX_4 := hse.below hA_3
            refine hK.out _ _ ⟨cells_at qT_4 0 _ rfl, cells_at qT_4 1 _ rfl, qR_4⟩ (fun hHeld => ?_)
            simp only [Act.put, List.setIfInBounds_toArray, List.set_cons_zero, List.set_cons_succ]
            generalize V1.alloc (.cells #[.slice none 0 0, .int .i64 0] 28) = V3 at hA_3 qN_3 qT_4 q0_4 qR_4 hB_4 hX_4 hHeld ⊢
            clear hA_3
            generalize V1.heap.size = b3 at qN_3 hnT_3 hn0_3 hnR_3 hl_3 hx_3 ⊢
            have z0_5 := cells_at qN_3 0 _ rfl
            have y0_5 := frozen_at qN_3 0
            have z1_5 := cells_at qN_3 1 _ rfl
            have y1_5 := frozen_at qN_3 1
            refine wpAnyH_ready (rs := [10]) (by kernel_rfl) (by simp) (AllReadyH.cons rfl (fun K hK => ?_) AllReadyH.nil)
            have hxB : ∀ sb so, xe = some ⟨sb, so, none⟩ → b3 ≠ sb := fun sb so e => by have := hx_3 sb so e; omega
            refine step_store rfl rfl ((V3.setCell ⟨b3, 0, none⟩ (.slice xe XS.length xce)).setCell ⟨b3, 1, none⟩ (.int .i64 0)) (by go_simp) ?_
            have qB_5 : ((V3.setCell ⟨b3, 0, none⟩ (.slice xe XS.length xce)).setCell ⟨b3, 1, none⟩ (.int .i64 0)).heap[b3]? = some (.cells #[.slice xe XS.length xce, .int .i64 0] 28 (0, 0)) := by simpa using (heap_setCell_same _ _ 1 _ _ (.int .i64 0) (heap_setCell_same _ _ 0 _ _ (.slice xe XS.length xce) qN_3))
            have qT_5 := (heap_far (j := 1) (v := .int .i64 0) (heap_far (j := 0) (v := .slice xe XS.length xce) qT_4 hnT_3) hnT_3)
            have q0_5 := (heap_far (j := 1) (v := .int .i64 0) (heap_far (j := 0) (v := .slice xe XS.length xce) q0_4 hn0_3) hn0_3)
            have qR_5 := (range_far (j := 1) (v := .int .i64 0) (range_far (j := 0) (v := .slice xe XS.length xce) qR_4 hnR_3) hnR_3)
            have hB_5 := ((hB_4.setCell (p := ⟨b3, 0, none⟩) hl_3 (.slice xe XS.length xce)).setCell (p := ⟨b3, 1, none⟩) hl_3 (.int .i64 0))
            have hX_5 := ((hX_4.setCellT b3 0 (.slice xe XS.length xce) hxB).setCellT b3 1 (.int .i64 0) hxB)
            refine hK.out _ _ ⟨cells_at qT_5 0 _ rfl, cells_at qT_5 1 _ rfl, qR_5⟩ (fun hHeld => ?_)
            generalize ((V3.setCell ⟨b3, 0, none⟩ (.slice xe XS.length xce)).setCell ⟨b3, 1, none⟩ (.int .i64 0)) = VE at qB_5 qT_5 q0_5 qR_5 hB_5 hX_5 hHeld ⊢
            refine take_dst (i := 11) (d := 7) (v := .int .i64 0) rfl rfl (by kernel_rfl) (by kernel_rfl) (by kernel_rfl) (fun _ _ _ h => h) (Or.inl ⟨by rfl, ?_⟩) hHeld ?_
            · (intro w0 hSw; (try dsimp only at hSw); go_simp)
            simp only [Act.put, List.setIfInBounds_toArray, List.set_cons_zero, List.set_cons_succ]
            refine wpAnyH_done (by kernel_rfl) ?_ _
            go_wp2_with fail
            go_meet
            case rel => exact ⟨b3, xe, xce, rfl, rfl, hl_3, hB_5, qB_5, qT_5, q0_5, hX_5, hfw_1⟩
          · skip
            refine step_run rfl 6 rfl (.pointer (some ⟨V0.heap.size, 0, none⟩)) (V0.alloc (.cells #[.slice none 0 0, .int .i64 0] 28)) (by go_simp) ?_
            have hA_6 : Below V0.heap.size V0 (V0.alloc (.cells #[.slice none 0 0, .int .i64 0] 28)) := (Below.refl _ _).alloc (Nat.le_refl _) _
            have qN_6 := heap_alloc_new V0 (.cells #[.slice none 0 0, .int .i64 0] 28)
            have hnT_6 := Nat.ne_of_lt (lt_of_heap qT0)
            have hn0_6 := Nat.ne_of_lt (lt_of_heap q00)
            have hnR_6 := Nat.ne_of_lt (range_lt qR0)
            have hl_6 : wr.heap.size ≤ V0.heap.size := hV0.size
            have qT_7 := (hA_6.block _ (lt_of_heap qT0)).trans qT0
            have q0_7 := (hA_6.block _ (lt_of_heap q00)).trans q00
            have qR_7 := range_below qR0 hA_6
            have hB_7 := hV0.trans (hA_6.mono hV0.size)
            refine hK.out _ _ ⟨cells_at qT_7 0 _ rfl, cells_at qT_7 1 _ rfl, qR_7⟩ (fun hHeld => ?_)
            simp only [Act.put, List.setIfInBounds_toArray, List.set_cons_zero, List.set_cons_succ]
            generalize V0.alloc (.cells #[.slice none 0 0, .int .i64 0] 28) = V6 at hA_6 qN_6 qT_7 q0_7 qR_7 hB_7 hHeld ⊢
            clear hA_6
            generalize V0.heap.size = b6 at qN_6 hnT_6 hn0_6 hnR_6 hl_6 ⊢
            refine wpAnyH_ready (rs := [5]) (by kernel_rfl) (by simp) (AllReadyH.cons rfl (fun K hK => ?_) AllReadyH.nil)
            refine step_calls_dst rfl 20 rfl 17 [.tmp 15, .tmp 19] #[28, 47] rfl [.agg #[.slice ta D.length tc, .int .i64 0], .agg #[.int .i64 x.m.fr, .int .i64 x.m.tt, .int .i64 x.m.ki, .int .i64 x.m.bau, .int .i64 x.m.bnu, .slice x.m.bta x.m.btn x.m.btc, .int .i64 x.m.hau, .int .i64 x.m.hrd, .slice x.m.hba x.m.hbn x.m.hbc, .slice x.m.hpa x.m.hpn x.m.hpc, .int .i64 x.m.sau, .int .i64 x.m.srd, .slice x.m.sda x.m.sdn x.m.sdc, .int .i64 x.m.cau, .int .i64 x.m.crd, .slice x.m.cba x.m.cbn x.m.cbc, .slice x.m.cpa x.m.cpn x.m.cpc, .slice x.m.cva x.m.cvn x.m.cvc, .int .i64 x.m.ro]] rfl (enters_of Try.func17 (by kernel_rfl) rfl) (fun v w' => (∃ xe xce, v = .tuple #[.agg #[.slice xe XS.length xce, .int .i64 0], .int .i64 0] ∧ SliceAt w' xe xce XS ∧ (∀ sb so, xe = some ⟨sb, so, none⟩ → V6.heap.size ≤ sb ∧ sb < w'.heap.size)) ∧ Below V6.heap.size V6 w') ((HAp.out V6 hB_7).mono (fun e w2 h => by obtain ⟨xe, xce, he, h1, h2, h3⟩ := h; exact ⟨_, he, ⟨xe, xce, rfl, h1, h2⟩, h3⟩)) ?_
            rintro v V8 ⟨⟨xe, xce, rfl, hse, hfe⟩, hb_8⟩
            have hle_8 := hB_7.size
            have hbe_8 := lt_of_heap qN_6
            have qT_9 := (hb_8.block _ (lt_of_heap qT_7)).trans qT_7
            have q0_9 := (hb_8.block _ (lt_of_heap q0_7)).trans q0_7
            have qB_9 := (hb_8.block _ (lt_of_heap qN_6)).trans qN_6
            have qR_9 := range_below qR_7 hb_8
            have hB_9 := hB_7.trans (hb_8.mono hB_7.size)
            have hfw_8 : ∀ sb so, xe = some ⟨sb, so, none⟩ → wr.heap.size ≤ sb := fun sb so e => by have := (hfe sb so e).1; omega
            have hx_8 : ∀ sb so, xe = some ⟨sb, so, none⟩ → sb ≠ b6 := fun sb so e => by have := (hfe sb so e).1; omega
            refine hK.out _ _ ⟨cells_at qT_9 0 _ rfl, cells_at qT_9 1 _ rfl, qR_9⟩ (fun hHeld => ?_)
            simp only [Act.put, List.setIfInBounds_toArray, List.set_cons_zero, List.set_cons_succ]
            refine take_dst (i := 6) (d := 14) (v := .tuple #[.agg #[.slice xe XS.length xce, .int .i64 0], .int .i64 0]) rfl rfl (by kernel_rfl) (by kernel_rfl) (by kernel_rfl) (fun _ _ _ h => h) (Or.inl ⟨by rfl, ?_⟩) hHeld ?_
            · (intro w0 hSw; (try dsimp only at hSw); go_simp)
            simp only [Act.put, List.setIfInBounds_toArray, List.set_cons_zero, List.set_cons_succ]
            refine take_dst (i := 7) (d := 21) (v := .agg #[.slice xe XS.length xce, .int .i64 0]) rfl rfl (by kernel_rfl) (by kernel_rfl) (by kernel_rfl) (fun _ _ _ h => h) (Or.inl ⟨by rfl, ?_⟩) hHeld ?_
            · (intro w0 hSw; (try dsimp only at hSw); go_simp)
            simp only [Act.put, List.setIfInBounds_toArray, List.set_cons_zero, List.set_cons_succ]
            refine take_dst (i := 8) (d := 22) (v := .int .i64 0) rfl rfl (by kernel_rfl) (by kernel_rfl) (by kernel_rfl) (fun _ _ _ h => h) (Or.inl ⟨by rfl, ?_⟩) hHeld ?_
            · (intro w0 hSw; (try dsimp only at hSw); go_simp)
            simp only [Act.put, List.setIfInBounds_toArray, List.set_cons_zero, List.set_cons_succ]
            have z0_10 := cells_at qB_9 0 _ rfl
            have y0_10 := frozen_at qB_9 0
            have z1_10 := cells_at qB_9 1 _ rfl
            have y1_10 := frozen_at qB_9 1
            refine wpAnyH_ready (rs := [10]) (by kernel_rfl) (by simp) (AllReadyH.cons rfl (fun K hK => ?_) AllReadyH.nil)
            have hxB : ∀ sb so, xe = some ⟨sb, so, none⟩ → b6 ≠ sb := fun sb so e => by have := hx_8 sb so e; omega
            refine step_store rfl rfl ((V8.setCell ⟨b6, 0, none⟩ (.slice xe XS.length xce)).setCell ⟨b6, 1, none⟩ (.int .i64 0)) (by go_simp) ?_
            have qB_10 : ((V8.setCell ⟨b6, 0, none⟩ (.slice xe XS.length xce)).setCell ⟨b6, 1, none⟩ (.int .i64 0)).heap[b6]? = some (.cells #[.slice xe XS.length xce, .int .i64 0] 28 (0, 0)) := by simpa using (heap_setCell_same _ _ 1 _ _ (.int .i64 0) (heap_setCell_same _ _ 0 _ _ (.slice xe XS.length xce) qB_9))
            have qT_10 := (heap_far (j := 1) (v := .int .i64 0) (heap_far (j := 0) (v := .slice xe XS.length xce) qT_9 hnT_6) hnT_6)
            have q0_10 := (heap_far (j := 1) (v := .int .i64 0) (heap_far (j := 0) (v := .slice xe XS.length xce) q0_9 hn0_6) hn0_6)
            have qR_10 := (range_far (j := 1) (v := .int .i64 0) (range_far (j := 0) (v := .slice xe XS.length xce) qR_9 hnR_6) hnR_6)
            have hB_10 := ((hB_9.setCell (p := ⟨b6, 0, none⟩) hl_6 (.slice xe XS.length xce)).setCell (p := ⟨b6, 1, none⟩) hl_6 (.int .i64 0))
            have hX_10 := ((hse.setCellT b6 0 (.slice xe XS.length xce) hxB).setCellT b6 1 (.int .i64 0) hxB)
            refine hK.out _ _ ⟨cells_at qT_10 0 _ rfl, cells_at qT_10 1 _ rfl, qR_10⟩ (fun hHeld => ?_)
            generalize ((V8.setCell ⟨b6, 0, none⟩ (.slice xe XS.length xce)).setCell ⟨b6, 1, none⟩ (.int .i64 0)) = VE at qB_10 qT_10 q0_10 qR_10 hB_10 hX_10 hHeld ⊢
            refine take_dst (i := 11) (d := 7) (v := .int .i64 0) rfl rfl (by kernel_rfl) (by kernel_rfl) (by kernel_rfl) (fun _ _ _ h => h) (Or.inl ⟨by rfl, ?_⟩) hHeld ?_
            · (intro w0 hSw; (try dsimp only at hSw); go_simp)
            simp only [Act.put, List.setIfInBounds_toArray, List.set_cons_zero, List.set_cons_succ]
            refine wpAnyH_done (by kernel_rfl) ?_ _
            go_wp2_with fail
            go_meet
            case rel => exact ⟨b6, xe, xce, rfl, rfl, hl_6, hB_10, qB_10, qT_10, q0_10, hX_10, hfw_8⟩
      case rest =>
        obtain ⟨b, xe, xce, rfl, rfl, hbb, hbc, u2, uT, u0, hx2, hfx⟩ := hcut
        have hBc := hb.trans (hbc.mono hb.size)
        have hXlI : ¬ (XS.length : Int) ≤ D.length := by have := HXl.out; omega
        have b0 : wc.cell? ⟨b, 0, none⟩ = some (.slice xe XS.length xce) := cells_at u2 0 _ rfl
        have b1 : wc.cell? ⟨b, 1, none⟩ = some (.int .i64 0) := cells_at u2 1 _ rfl
        have c0 : wc.cell? ⟨w.heap.size + 1, 0, none⟩ = some (.slice ta D.length tc) := cells_at uT 0 _ rfl
        have c1 : wc.cell? ⟨w.heap.size + 1, 1, none⟩ = some (.int .i64 0) := cells_at uT 1 _ rfl
        have f0 := frozen_at uT 0
        have f1 := frozen_at uT 1
        clear HAp
        go_wp2_with fail
        go_roundw
        case rel =>
          have e1 : ∀ sb so, xe = some ⟨sb, so, none⟩ → w.heap.size + 1 ≠ sb := fun sb so e => by have := hfx sb so e; omega
          exact ⟨k + 1, xe, xce, XS, by omega, by go_num, hst, (hBc.setCell (by simp) _).setCell (by simp) _, heap_far (heap_far u0 (by omega)) (by omega), by simpa using heap_setCell_same _ _ 1 _ _ (.int .i64 0) (heap_setCell_same _ _ 0 _ _ (.slice xe XS.length xce) uT), (hx2.setCellT _ _ _ e1).setCellT _ _ _ e1, fun sb so e => by have := hfx sb so e; omega⟩
        case measure => simp [intOf]; omega
    · obtain rfl : k = ms.length := by omega
      have hltI : ¬ (ms.length : Int) < ms.length := by omega
      rw [List.take_of_length_le (Nat.le_refl _)] at hD
      have c0 : wr.cell? ⟨w.heap.size + 1, 0, none⟩ = some (.slice ta D.length tc) := cells_at r1 0 _ rfl
      have c1 : wr.cell? ⟨w.heap.size + 1, 1, none⟩ = some (.int .i64 0) := cells_at r1 1 _ rfl
      have d0 : wr.cell? ⟨w.heap.size, 0, none⟩ = some (.slice none 0 0) := cells_at r0 0 _ rfl
      have d1 : wr.cell? ⟨w.heap.size, 1, none⟩ = some (.int .i64 0) := cells_at r0 1 _ rfl
      have f0 := frozen_at r0 0
      have f1 := frozen_at r0 1
      go_wp2_with fail
      rw [← hD.out]
      refine bodyPost_ret (v := .tuple #[.agg #[.slice ta D.length tc, .int .i64 0], .bool true]) (by simp [results, Try.results15, go_sem, d0, d1]) rfl ⟨ta, tc, rfl, ?_, ?_, ?_⟩
      · exact (hS.setCellT _ _ _ (fun sb so e => by have := hf sb so e; omega)).setCellT _ _ _ (fun sb so e => by have := hf sb so e; omega)
      · intro sb so e
        have := hf sb so e
        omega
      · exact (hb.setCell (by simp) _).setCell (by simp) _
end Go.Proofs.Ytcmlmmlcebemgaa

namespace Go.Proofs.Ytcmlmmlcebemgaa
open Go.RowKit

set_option maxRecDepth 100000 in
set_option maxHeartbeats 1000000 in
theorem tapeSync_any (bs : List Int) (sa : Option Addr) (n cap : Nat) (sy : Int) (w : World) (hn : n = bs.length) (hs : SliceAt w sa cap bs) (hl : bs.length ≤ 140737488355328) :
    Calls Try.prog 16 #[.agg #[.slice sa n cap, .int .i64 sy]] w fun e w' => TapeIs w w' e (bs.take (syncN bs.length sy)) (syncN bs.length sy) (syncF bs.length sy) := by
  subst hn
  have hA : Below w.heap.size w ((w.alloc (.cells #[.slice sa bs.length cap, .int .i64 sy] 28)).alloc (.cells #[.slice none 0 0, .int .i64 0] 28)) := ((Below.refl _ _).alloc (Nat.le_refl _) _).alloc (by simp) _
  have r0 := heap_alloc2_old w (.cells #[.slice sa bs.length cap, .int .i64 sy] 28) (.cells #[.slice none 0 0, .int .i64 0] 28)
  have r1 := heap_alloc2_new w (.cells #[.slice sa bs.length cap, .int .i64 sy] 28) (.cells #[.slice none 0 0, .int .i64 0] 28)
  have hM := mayBe_any sa bs.length cap sy ((w.alloc (.cells #[.slice sa bs.length cap, .int .i64 sy] 28)).alloc (.cells #[.slice none 0 0, .int .i64 0] 28)) hl
  have HS : Hid (∀ W : World, Below w.heap.size w W → Calls Try.prog 27 #[.agg #[.slice sa bs.length cap, .int .i64 sy], .int .i64 (bs.length : Int), .int .i64 (bs.length : Int)] W fun e w' => ∃ ra rc, e = .returned (.agg #[.slice ra bs.length rc, .int .i64 (bs.length : Int)]) ∧ SliceAt w' ra rc (bs.take bs.length) ∧ (∀ sb so, ra = some ⟨sb, so, none⟩ → W.heap.size ≤ sb ∧ sb < w'.heap.size) ∧ Below W.heap.size W w') := by
    show ∀ _, _
    intro W hW
    exact tapeCut_any bs sa _ cap bs.length sy _ W rfl (hs.below hW) (Nat.le_refl _) hl
  clear hs
  cases ht : tapeOk bs.length sy with
  | false =>
    have hF : Hid (syncF bs.length sy = 12 ∧ syncN bs.length sy = 0) := by show _ ∧ _; simp [syncF, syncN, ht]
    rw [ht] at hM
    clear ht
    go_enter Try.func16, Try.ntmps16
    go_wp2_with fail
    generalize (w.alloc (.cells #[.slice sa bs.length cap, .int .i64 sy] 28)).alloc (.cells #[.slice none 0 0, .int .i64 0] 28) = W0 at hA r0 r1 hM ⊢
    refine hM.mono ?_
    rintro e w1 ⟨he, hb1⟩
    subst he
    dsimp only
    have p1 := (hb1.block _ (lt_of_heap r1)).trans r1
    have d0 : w1.cell? ⟨w.heap.size + 1, 0, none⟩ = some (.slice none 0 0) := cells_at p1 0 _ rfl
    have d1 : w1.cell? ⟨w.heap.size + 1, 1, none⟩ = some (.int .i64 0) := cells_at p1 1 _ rfl
    have f0 := frozen_at p1 0
    have f1 := frozen_at p1 1
    go_wp2_with fail
    rw [hF.out.1, hF.out.2]
    refine bodyPost_ret (v := .tuple #[.agg #[.slice none 0 0, .int .i64 0], .int .i64 12]) (by simp [results, Try.results16, go_sem, d0, d1]) rfl (TapeIs.bad _ ?_)
    exact ((hA.trans (hb1.mono hA.size)).setCell (by simp) _).setCell (by simp) _
  | true =>
    have hF : Hid (syncF bs.length sy = 0 ∧ syncN bs.length sy = bs.length) := by show _ ∧ _; simp [syncF, syncN, ht]
    rw [ht] at hM
    clear ht
    go_enter Try.func16, Try.ntmps16
    go_wp2_with fail
    generalize (w.alloc (.cells #[.slice sa bs.length cap, .int .i64 sy] 28)).alloc (.cells #[.slice none 0 0, .int .i64 0] 28) = W0 at hA r0 r1 hM ⊢
    refine hM.mono ?_
    rintro e w1 ⟨he, hb1⟩
    subst he
    dsimp only
    have hB1 := hA.trans (hb1.mono hA.size)
    have p0 := (hb1.block _ (lt_of_heap r0)).trans r0
    have p1 := (hb1.block _ (lt_of_heap r1)).trans r1
    have c0 : w1.cell? ⟨w.heap.size, 0, none⟩ = some (.slice sa bs.length cap) := cells_at p0 0 _ rfl
    have c1 : w1.cell? ⟨w.heap.size, 1, none⟩ = some (.int .i64 sy) := cells_at p0 1 _ rfl
    go_wp2_with fail
    refine (HS.out w1 hB1).mono ?_
    rintro e w2 ⟨ra, rc, he, hs2, hfr, hb2⟩
    subst he
    dsimp only
    have hlt : w.heap.size + 1 < w1.heap.size := lt_of_heap p1
    have q1 := (hb2.block _ hlt).trans p1
    have d0 : w2.cell? ⟨w.heap.size + 1, 0, none⟩ = some (.slice none 0 0) := cells_at q1 0 _ rfl
    have d1 : w2.cell? ⟨w.heap.size + 1, 1, none⟩ = some (.int .i64 0) := cells_at q1 1 _ rfl
    have f0 := frozen_at q1 0
    have f1 := frozen_at q1 1
    clear c0 c1
    go_wp2_with fail
    rw [hF.out.1, hF.out.2]
    rw [List.take_of_length_le (Nat.le_refl _)] at hs2 ⊢
    refine bodyPost_ret (v := .tuple #[.agg #[.slice ra bs.length rc, .int .i64 (bs.length : Int)], .int .i64 0]) (by simp [results, Try.results16, go_sem, d0, d1]) rfl ⟨ra, rc, rfl, ?_, ?_, ?_⟩
    · exact (hs2.setCellT _ _ _ (fun sb so e => by have := (hfr sb so e).1; omega)).setCellT _ _ _ (fun sb so e => by have := (hfr sb so e).1; omega)
    · intro sb so e
      obtain ⟨g1, g2⟩ := hfr sb so e
      have := hB1.size
      exact ⟨by omega, by simpa using g2⟩
    · exact ((hB1.trans (hb2.mono hB1.size)).setCell (by simp) _).setCell (by simp) _
end Go.Proofs.Ytcmlmmlcebemgaa

namespace Go.Proofs.Ytcmlmmlcebemgaa
open Go.RowKit

set_option maxRecDepth 100000 in
set_option maxHeartbeats 1000000 in
theorem tapeCrash_any (bs : List Int) (sa : Option Addr) (n cap : Nat) (sy keep : Int) (w : World) (hn : n = bs.length) (hs : SliceAt w sa cap bs) (hl : bs.length ≤ 140737488355328) (hk1 : keep ≤ 9223372036854775807) (hk0 : -9223372036854775808 ≤ keep) :
    Calls Try.prog 18 #[.agg #[.slice sa n cap, .int .i64 sy], .int .i64 keep] w fun e w' => TapeIs w w' e (bs.take (crashN bs.length sy keep)) (crashN bs.length sy keep) (crashF bs.length sy keep) := by
  subst hn
  have hA : Below w.heap.size w ((w.alloc (.cells #[.slice sa bs.length cap, .int .i64 sy] 28)).alloc (.cells #[.slice none 0 0, .int .i64 0] 28)) := ((Below.refl _ _).alloc (Nat.le_refl _) _).alloc (by simp) _
  have r0 := heap_alloc2_old w (.cells #[.slice sa bs.length cap, .int .i64 sy] 28) (.cells #[.slice none 0 0, .int .i64 0] 28)
  have r1 := heap_alloc2_new w (.cells #[.slice sa bs.length cap, .int .i64 sy] 28) (.cells #[.slice none 0 0, .int .i64 0] 28)
  have hM := mayBe_any sa bs.length cap sy ((w.alloc (.cells #[.slice sa bs.length cap, .int .i64 sy] 28)).alloc (.cells #[.slice none 0 0, .int .i64 0] 28)) hl
  have HS : Hid (∀ (W : World) (x : Int) (k : Nat), Below w.heap.size w W → x = k → k ≤ bs.length → Calls Try.prog 27 #[.agg #[.slice sa bs.length cap, .int .i64 sy], .int .i64 x, .int .i64 x] W fun e w' => ∃ ra rc, e = .returned (.agg #[.slice ra k rc, .int .i64 (k : Int)]) ∧ SliceAt w' ra rc (bs.take k) ∧ (∀ sb so, ra = some ⟨sb, so, none⟩ → W.heap.size ≤ sb ∧ sb < w'.heap.size) ∧ Below W.heap.size W w') := by
    show ∀ _, _
    intro W x k hW hx hk
    subst hx
    exact tapeCut_any bs sa _ cap k sy _ W rfl (hs.below hW) hk hl
  clear hs
  cases ht : tapeOk bs.length sy with
  | false =>
    have hF : Hid (crashF bs.length sy keep = 12 ∧ crashN bs.length sy keep = 0) := by show _ ∧ _; simp [crashF, crashN, ht]
    rw [ht] at hM
    clear ht
    go_enter Try.func18, Try.ntmps18
    go_wp2_with fail
    generalize (w.alloc (.cells #[.slice sa bs.length cap, .int .i64 sy] 28)).alloc (.cells #[.slice none 0 0, .int .i64 0] 28) = W0 at hA r0 r1 hM ⊢
    refine hM.mono ?_
    rintro e w1 ⟨he, hb1⟩
    subst he
    dsimp only
    have p1 := (hb1.block _ (lt_of_heap r1)).trans r1
    have d0 : w1.cell? ⟨w.heap.size + 1, 0, none⟩ = some (.slice none 0 0) := cells_at p1 0 _ rfl
    have d1 : w1.cell? ⟨w.heap.size + 1, 1, none⟩ = some (.int .i64 0) := cells_at p1 1 _ rfl
    have f0 := frozen_at p1 0
    have f1 := frozen_at p1 1
    go_wp2_with fail
    rw [hF.out.1, hF.out.2]
    refine bodyPost_ret (v := .tuple #[.agg #[.slice none 0 0, .int .i64 0], .int .i64 12]) (by simp [results, Try.results18, go_sem, d0, d1]) rfl (TapeIs.bad _ ?_)
    exact ((hA.trans (hb1.mono hA.size)).setCell (by simp) _).setCell (by simp) _
  | true =>
    obtain ⟨t1, t2, t3⟩ := tapeOk_iff.1 ht
    rw [ht] at hM
    by_cases hk : keep < 0
    · have hF : Hid (crashF bs.length sy keep = 2 ∧ crashN bs.length sy keep = 0) := by show _ ∧ _; simp [crashF, crashN, ht, hk]; omega
      clear ht
      go_enter Try.func18, Try.ntmps18
      go_wp2_with fail
      generalize (w.alloc (.cells #[.slice sa bs.length cap, .int .i64 sy] 28)).alloc (.cells #[.slice none 0 0, .int .i64 0] 28) = W0 at hA r0 r1 hM ⊢
      refine hM.mono ?_
      rintro e w1 ⟨he, hb1⟩
      subst he
      dsimp only
      have p1 := (hb1.block _ (lt_of_heap r1)).trans r1
      have d0 : w1.cell? ⟨w.heap.size + 1, 0, none⟩ = some (.slice none 0 0) := cells_at p1 0 _ rfl
      have d1 : w1.cell? ⟨w.heap.size + 1, 1, none⟩ = some (.int .i64 0) := cells_at p1 1 _ rfl
      have f0 := frozen_at p1 0
      have f1 := frozen_at p1 1
      go_wp2_with fail
      rw [hF.out.1, hF.out.2]
      refine bodyPost_ret (v := .tuple #[.agg #[.slice none 0 0, .int .i64 0], .int .i64 2]) (by simp [results, Try.results18, go_sem, d0, d1]) rfl (TapeIs.bad _ ?_)
      exact ((hA.trans (hb1.mono hA.size)).setCell (by simp) _).setCell (by simp) _
    · have hF0 : Hid (crashF bs.length sy keep = 0 ∧ crashN bs.length sy keep = leftN bs.length sy keep) := by show _ ∧ _; simp [crashF, crashN, ht, hk]
      have hLe := leftN_le (n := bs.length) (sy := sy) (keep := keep) t2
      clear ht
      go_enter Try.func18, Try.ntmps18
      go_wp2_with fail
      generalize (w.alloc (.cells #[.slice sa bs.length cap, .int .i64 sy] 28)).alloc (.cells #[.slice none 0 0, .int .i64 0] 28) = W0 at hA r0 r1 hM ⊢
      refine hM.mono ?_
      rintro e w1 ⟨he, hb1⟩
      subst he
      dsimp only
      have hB1 := hA.trans (hb1.mono hA.size)
      have p0 := (hb1.block _ (lt_of_heap r0)).trans r0
      have p1 := (hb1.block _ (lt_of_heap r1)).trans r1
      have c0 : w1.cell? ⟨w.heap.size, 0, none⟩ = some (.slice sa bs.length cap) := cells_at p0 0 _ rfl
      have c1 : w1.cell? ⟨w.heap.size, 1, none⟩ = some (.int .i64 sy) := cells_at p0 1 _ rfl
      have hlt : w.heap.size + 1 < w1.heap.size := lt_of_heap p1
      have hw1 : IntKind.i64.wrap ((bs.length : Int) - sy) = (bs.length : Int) - sy := by rw [IntKind.wrap_i64]; omega
      generalize hK : leftN bs.length sy keep = K at hF0 hLe
      by_cases hm : keep ≤ (bs.length : Int) - sy
      · have hE : Hid (sy + keep = (K : Int)) := by show _ = _; rw [← hK, leftN]; split <;> omega
        have hw2 : IntKind.i64.wrap (sy + keep) = sy + keep := by rw [IntKind.wrap_i64]; omega
        clear hK
        go_wp2_with fail
        refine (HS.out w1 _ K hB1 hE.out hLe).mono ?_
        rintro e w2 ⟨ra, rc, he, hs2, hfr, hb2⟩
        subst he
        dsimp only
        have q1 := (hb2.block _ hlt).trans p1
        have d0 : w2.cell? ⟨w.heap.size + 1, 0, none⟩ = some (.slice none 0 0) := cells_at q1 0 _ rfl
        have d1 : w2.cell? ⟨w.heap.size + 1, 1, none⟩ = some (.int .i64 0) := cells_at q1 1 _ rfl
        have f0 := frozen_at q1 0
        have f1 := frozen_at q1 1
        clear c0 c1
        go_wp2_with fail
        rw [hF0.out.1, hF0.out.2]
        have hLK : (bs.take K).length = K := by rw [List.length_take]; omega
        refine bodyPost_ret (v := .tuple #[.agg #[.slice ra K rc, .int .i64 (K : Int)], .int .i64 0]) (by simp [results, Try.results18, go_sem, d0, d1]) rfl ⟨ra, rc, by rw [hLK], ?_, ?_, ?_⟩
        · exact (hs2.setCellT _ _ _ (fun sb so e => by have := (hfr sb so e).1; omega)).setCellT _ _ _ (fun sb so e => by have := (hfr sb so e).1; omega)
        · intro sb so e
          obtain ⟨g1, g2⟩ := hfr sb so e
          have := hB1.size
          exact ⟨by omega, by simpa using g2⟩
        · exact ((hB1.trans (hb2.mono hB1.size)).setCell (by simp) _).setCell (by simp) _
      · have hE : Hid (sy + ((bs.length : Int) - sy) = (K : Int)) := by show _ = _; rw [← hK, leftN]; split <;> omega
        have hw2 : IntKind.i64.wrap (sy + ((bs.length : Int) - sy)) = sy + ((bs.length : Int) - sy) := by rw [IntKind.wrap_i64]; omega
        clear hK
        go_wp2_with fail
        refine (HS.out w1 _ K hB1 hE.out hLe).mono ?_
        rintro e w2 ⟨ra, rc, he, hs2, hfr, hb2⟩
        subst he
        dsimp only
        have q1 := (hb2.block _ hlt).trans p1
        have d0 : w2.cell? ⟨w.heap.size + 1, 0, none⟩ = some (.slice none 0 0) := cells_at q1 0 _ rfl
        have d1 : w2.cell? ⟨w.heap.size + 1, 1, none⟩ = some (.int .i64 0) := cells_at q1 1 _ rfl
        have f0 := frozen_at q1 0
        have f1 := frozen_at q1 1
        clear c0 c1
        go_wp2_with fail
        rw [hF0.out.1, hF0.out.2]
        have hLK : (bs.take K).length = K := by rw [List.length_take]; omega
        refine bodyPost_ret (v := .tuple #[.agg #[.slice ra K rc, .int .i64 (K : Int)], .int .i64 0]) (by simp [results, Try.results18, go_sem, d0, d1]) rfl ⟨ra, rc, by rw [hLK], ?_, ?_, ?_⟩
        · exact (hs2.setCellT _ _ _ (fun sb so e => by have := (hfr sb so e).1; omega)).setCellT _ _ _ (fun sb so e => by have := (hfr sb so e).1; omega)
        · intro sb so e
          obtain ⟨g1, g2⟩ := hfr sb so e
          have := hB1.size
          exact ⟨by omega, by simpa using g2⟩
        · exact ((hB1.trans (hb2.mono hB1.size)).setCell (by simp) _).setCell (by simp) _
end Go.Proofs.Ytcmlmmlcebemgaa
