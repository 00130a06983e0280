/- pool.Seal: what it answers, for every argument. -/
import Derived.Test.YtikolpdedmhljaaAddF
import Derived.Test.YtikolpdedmhljaaPChk
import Derived.Test.YtikolpdedmhljaaPJoin
import Derived.Test.YtikolpdedmhljaaRawU
import Derived.Test.YtikolpdedmhljaaOwnL
import Derived.Deep.CutRange
import Derived.Deep.DeepCutAuto
namespace Go.Proofs.Ytikolpdedmhljaa
open Go.RowKit

set_option maxRecDepth 100000 in
set_option maxHeartbeats 2000000 in
theorem poolSeal_any (nx : Int) (sa : Option Addr) (n cap : Nat) (ss : List ByteArray) (au : Int) (w : World) (hn : n = ss.length) (hs : TxsAt w sa cap ss) :
    Calls Try.prog 19 #[.agg #[.int .i64 nx, .slice sa n cap], .int .i64 au] w fun e w' => SealAt w w' e nx ss au := by
  subst hn
  have hA : Below w.heap.size w (((w.alloc (.cells #[.int .i64 nx, .slice sa ss.length cap] 24)).alloc (.cells #[.int .i64 0, .slice none 0 0] 24)).alloc (.cells #[.int .i64 0, .int .i64 0, .slice none 0 0] 34)) := (((Below.refl _ _).alloc (Nat.le_refl _) _).alloc (by simp) _).alloc (by simp; omega) _
  have r0 := heap_keep (o := .cells #[.int .i64 0, .int .i64 0, .slice none 0 0] 34) (heap_alloc2_old w (.cells #[.int .i64 nx, .slice sa ss.length cap] 24) (.cells #[.int .i64 0, .slice none 0 0] 24))
  have r1 := heap_keep (o := .cells #[.int .i64 0, .int .i64 0, .slice none 0 0] 34) (heap_alloc2_new w (.cells #[.int .i64 nx, .slice sa ss.length cap] 24) (.cells #[.int .i64 0, .slice none 0 0] 24))
  have r2 := heap_new_at ((w.alloc (.cells #[.int .i64 nx, .slice sa ss.length cap] 24)).alloc (.cells #[.int .i64 0, .slice none 0 0] 24)) (.cells #[.int .i64 0, .int .i64 0, .slice none 0 0] 34) (w.heap.size + 1 + 1) (by simp)
  have hle := hs.le
  have hmx := hs.max
  have HC : Hid (∀ W : World, Below w.heap.size w W → Calls Try.prog 13 #[.agg #[.int .i64 nx, .slice sa ss.length cap]] W fun e w' => e = .returned (.int .i64 (poolF nx ss)) ∧ Below W.heap.size W w') := by
    show ∀ _, _
    intro W hW
    exact poolCheck_any nx sa _ cap ss W rfl (hs.below hW)
  have HS : Hid (∀ W : World, Calls Try.prog 36 #[.agg #[.int .i64 nx, .slice sa ss.length cap], .int .i64 au] W fun e w' => e = .returned (.int .i64 (sealsF nx ss au)) ∧ Below W.heap.size W w') := by
    show ∀ _, _
    intro W
    exact seals_any nx sa _ cap ss au W rfl (by omega)
  have HH : Hid (TxsAt w sa cap ss) := hs
  clear hs
  go_enter Try.func19, Try.ntmps19
  go_wp2_with fail
  generalize ((w.alloc (.cells #[.int .i64 nx, .slice sa ss.length cap] 24)).alloc (.cells #[.int .i64 0, .slice none 0 0] 24)).alloc (.cells #[.int .i64 0, .int .i64 0, .slice none 0 0] 34) = W0 at hA r0 r1 r2 ⊢
  refine (HC.out W0 hA).mono ?_
  rintro e w1 ⟨he, hb1⟩
  subst he
  dsimp only
  have hB1 := hA.trans (hb1.mono hA.size)
  have p0 := (hb1.block _ (lt_of_heap r0)).trans r0
  have p1 := (hb1.block _ (lt_of_heap r1)).trans r1
  have p2 := (hb1.block _ (lt_of_heap r2)).trans r2
  have c0 : w1.cell? ⟨w.heap.size, 0, none⟩ = some (.int .i64 nx) := cells_at p0 0 _ rfl
  have c1 : w1.cell? ⟨w.heap.size, 1, none⟩ = some (.slice sa ss.length cap) := cells_at p0 1 _ rfl
  have d0 : w1.cell? ⟨w.heap.size + 1, 0, none⟩ = some (.int .i64 0) := cells_at p1 0 _ rfl
  have d1 : w1.cell? ⟨w.heap.size + 1, 1, none⟩ = some (.slice none 0 0) := cells_at p1 1 _ rfl
  have f0 := frozen_at p1 0
  have f1 := frozen_at p1 1
  have m0 : w1.cell? ⟨w.heap.size + 1 + 1, 0, none⟩ = some (.int .i64 0) := cells_at p2 0 _ rfl
  have m1 : w1.cell? ⟨w.heap.size + 1 + 1, 1, none⟩ = some (.int .i64 0) := cells_at p2 1 _ rfl
  have m2 : w1.cell? ⟨w.heap.size + 1 + 1, 2, none⟩ = some (.slice none 0 0) := cells_at p2 2 _ rfl
  have g0 := frozen_at p2 0
  have g1 := frozen_at p2 1
  have g2 := frozen_at p2 2
  by_cases hc : poolF nx ss = 0
  · have hF := sealF_good (au := au) hc
    obtain ⟨hn1, hn2, hlen, _⟩ := poolF_len hc
    rw [hc]
    go_wp2_with fail
    refine (HS.out w1).mono ?_
    rintro e w2 ⟨he, hb2⟩
    subst he
    dsimp only
    have hB2 := hB1.trans (hb2.mono hB1.size)
    have q0 := (hb2.block _ (lt_of_heap p0)).trans p0
    have q1 := (hb2.block _ (lt_of_heap p1)).trans p1
    have q2 := (hb2.block _ (lt_of_heap p2)).trans p2
    clear c0 c1 d0 d1 f0 f1 m0 m1 m2 g0 g1 g2
    have c0 : w2.cell? ⟨w.heap.size, 0, none⟩ = some (.int .i64 nx) := cells_at q0 0 _ rfl
    have c1 : w2.cell? ⟨w.heap.size, 1, none⟩ = some (.slice sa ss.length cap) := cells_at q0 1 _ rfl
    by_cases hk : sealsF nx ss au = 0
    · rw [hk] at hF ⊢
      have HF : Hid (sealF nx ss au = 0) := hF
      have hne : ss.length ≠ 0 ∧ nx ≤ 1048576 := by
        unfold sealsF at hk
        split at hk
        · cases hk
        · split at hk
          · cases hk
          · rename_i h1
            split at hk
            · cases hk
            · rename_i h2
              exact ⟨h1, by omega⟩
      have hw : IntKind.i64.wrap (nx + 1) = nx + 1 := by rw [IntKind.wrap_i64]; omega
      have hlt := lt_of_heap q2
      obtain ⟨K, hK⟩ : ∃ K, K = min ss.length 4 := ⟨_, rfl⟩
      have hK1 : K ≤ ss.length := by omega
      have hKI : (K : Int) ≤ cap := by omega
      have hK0 : (0 : Int) ≤ K := by omega
      have hKl : (K : Int) ≤ ss.length := by omega
      have hT : Hid (ss.take 4 = ss.take K ∧ (ss.take 4).length = K) := by
        refine ⟨?_, by rw [List.length_take]; omega⟩
        rw [hK]
        by_cases h : ss.length ≤ 4
        · rw [Nat.min_eq_left h, List.take_of_length_le h, List.take_of_length_le (Nat.le_refl _)]
        · rw [Nat.min_eq_right (by omega)]
      have hD : Hid (ss.drop 4 = ss.drop K ∧ (ss.drop 4).length = ss.length - K) := by
        refine ⟨?_, by rw [List.length_drop]; omega⟩
        rw [hK]
        by_cases h : ss.length ≤ 4
        · rw [Nat.min_eq_left h, List.drop_of_length_le h, List.drop_of_length_le (Nat.le_refl _)]
        · rw [Nat.min_eq_right (by omega)]
      obtain ⟨sb, so, rfl, _⟩ : ∃ sb so, sa = some ⟨sb, so, none⟩ ∧ ∀ j, j < ss.length → w.cell? ⟨sb, so + j, none⟩ = some (.string (ss.getD j ByteArray.empty)) := by
        rcases HH.out.strs.cells with h | h
        · rw [h] at hne; simp at hne
        · exact h
      have HJ1 : Hid (∀ W : World, Below w.heap.size w W → Calls Try.prog 33 #[.slice (some ⟨sb, so, none⟩) K cap, .slice none 0 0] W fun e w' => ∃ v, e = .returned v ∧ w'.ownsRow W.heap.size 9 1 v K (sv (ss.take K)) ∧ Below W.heap.size W w') := by
        show ∀ _, _
        intro W hW
        have := joined_any (ss.take K) [] (some ⟨sb, so, none⟩) none K 0 cap 0 W (by rw [List.length_take]; omega) rfl ⟨by rw [List.length_take]; omega, HH.out.max, (fun e => by cases e), (HH.out.strs.below hW).take K⟩ ⟨Nat.le_refl _, by decide, fun _ => rfl, ⟨.inl rfl, fun s h => by cases h⟩⟩ (by omega)
        rw [List.append_nil, Nat.add_zero] at this
        exact this
      have HJ2 : Hid (∀ (W : World) (A : Option Addr) (m c : Nat), Below w.heap.size w W → m = ss.length - K → m ≤ c → c ≤ cap → A ≠ none → (A = some ⟨sb, so + K, none⟩ ∨ ss.length = K) → Calls Try.prog 33 #[.slice A m c, .slice none 0 0] W fun e w' => ∃ v, e = .returned v ∧ w'.ownsRow W.heap.size 9 1 v m (sv (ss.drop K)) ∧ Below W.heap.size W w') := by
        show ∀ _, _
        intro W A m c hW hm hmc hcc hAn hA2
        have hst : StrsAt W A (ss.drop K) := by
          rcases hA2 with rfl | h
          · exact (HH.out.strs.below hW).drop K
          · rw [List.drop_of_length_le (by omega)]; exact ⟨.inl rfl, fun s h => by cases h⟩
        have := joined_any (ss.drop K) [] A none m 0 c 0 W (by rw [List.length_drop]; exact hm) rfl ⟨by rw [List.length_drop]; omega, by have := HH.out.max; omega, (fun e => absurd e hAn), hst⟩ ⟨Nat.le_refl _, by decide, fun _ => rfl, ⟨.inl rfl, fun s h => by cases h⟩⟩ (by omega)
        rw [List.append_nil, Nat.add_zero] at this
        exact this
      clear hF hc hk hne
      go_upto_region 7 with fail
      go_cut [9] (fun v wx => v = .int .i64 (K : Int) ∧ w2 = wx)
      case first =>
        by_cases h : ss.length ≤ 4
        · have h4 : (ss.length : Int) ≤ 4 := by omega
          have hE : Hid ((ss.length : Int) = K) := by show _ = _; omega
          clear hK h hK1 hKI hKl
          go_wp2_with fail
          go_meet
          case rel => exact ⟨by rw [← hE.out], rfl⟩
        · have h4 : ¬ (ss.length : Int) ≤ 4 := by omega
          have hE : Hid ((4 : Int) = K) := by show _ = _; omega
          clear hK h hK1 hKI hKl
          go_wp2_with fail
          go_meet
          case rel => exact ⟨by rw [← hE.out], rfl⟩
      case rest =>
        obtain ⟨rfl, rfl⟩ := hcut
        clear hK
        go_upto_region 8 with fail
        go_cut [10] (fun v wx => ∃ b za zc, v = .pointer (some ⟨b, 0, none⟩) ∧ w2.heap.size ≤ b ∧ Below w2.heap.size w2 wx ∧ wx.heap[b]? = some (.cells #[.int .i64 au, .int .i64 nx, .slice za K zc] 34 (0, 0)) ∧ wx.ownsRow w2.heap.size 9 1 (.slice za K zc) K (sv (ss.take K)))
        case first =>
          clear HJ2
          have cA0 : (w2.alloc (.cells #[.int .i64 0, .int .i64 0, .slice none 0 0] 34)).drew.cell? ⟨w.heap.size, 0, none⟩ = some (.int .i64 nx) := cells_at (heap_keep q0) 0 _ rfl
          have cA1 : (w2.alloc (.cells #[.int .i64 0, .int .i64 0, .slice none 0 0] 34)).drew.cell? ⟨w.heap.size, 1, none⟩ = some (.slice (some ⟨sb, so, none⟩) ss.length cap) := cells_at (heap_keep q0) 1 _ rfl
          go_region_held3 (fun w' => w'.cell? ⟨w.heap.size, 0, none⟩ = some (.int .i64 nx) ∧ w'.cell? ⟨w.heap.size, 1, none⟩ = some (.slice (some ⟨sb, so, none⟩) ss.length cap)) (go_keep) (first
            | (go_at_call 33; refine (HJ1.out w2.drew hB2.drew).mono ?_; rintro e w3 ⟨v3, rfl, ho3, hb3⟩; have hbA := below_drew hb3; have s0 := (hbA.block _ (lt_of_heap q0)).trans q0; have g0 : w3.cell? ⟨w.heap.size, 0, none⟩ = some (.int .i64 nx) := cells_at s0 0 _ rfl; have g1 : w3.cell? ⟨w.heap.size, 1, none⟩ = some (.slice (some ⟨sb, so, none⟩) ss.length cap) := cells_at s0 1 _ rfl; obtain ⟨za, zc, rfl⟩ := owns_shape ho3; have gA00 : (w3.alloc (.cells #[.int .i64 0, .int .i64 0, .slice none 0 0] 34)).cell? ⟨w.heap.size, 0, none⟩ = some (.int .i64 nx) := cells_at (heap_keep s0) 0 _ rfl; have gA01 : (w3.alloc (.cells #[.int .i64 0, .int .i64 0, .slice none 0 0] 34)).cell? ⟨w.heap.size, 1, none⟩ = some (.slice (some ⟨sb, so, none⟩) ss.length cap) := cells_at (heap_keep s0) 1 _ rfl; have gA10 : (w3.alloc (.cells #[.int .i64 au, .int .i64 nx, .slice za K zc] 34)).cell? ⟨w.heap.size, 0, none⟩ = some (.int .i64 nx) := cells_at (heap_keep s0) 0 _ rfl; have gA11 : (w3.alloc (.cells #[.int .i64 au, .int .i64 nx, .slice za K zc] 34)).cell? ⟨w.heap.size, 1, none⟩ = some (.slice (some ⟨sb, so, none⟩) ss.length cap) := cells_at (heap_keep s0) 1 _ rfl)
            | (go_at_call 33; refine (HJ1.out (w2.drew.alloc (.cells #[.int .i64 0, .int .i64 0, .slice none 0 0] 34)) (hB2.drew.alloc hB2.size _)).mono ?_; rintro e w3 ⟨v3, rfl, ho3, hb3⟩; have hbB := hb3; have s0 := (hbB.block _ (by rw [size_alloc]; have := lt_of_heap q0; simp; omega)).trans (heap_keep (o := .cells #[.int .i64 0, .int .i64 0, .slice none 0 0] 34) (w := w2.drew) q0); have sN := row_new hbB; have g0 : w3.cell? ⟨w.heap.size, 0, none⟩ = some (.int .i64 nx) := cells_at s0 0 _ rfl; have g1 : w3.cell? ⟨w.heap.size, 1, none⟩ = some (.slice (some ⟨sb, so, none⟩) ss.length cap) := cells_at s0 1 _ rfl; have e0 : w3.cell? ⟨w2.heap.size, 0, none⟩ = some (.int .i64 0) := cells_at sN 0 _ rfl; have e1 : w3.cell? ⟨w2.heap.size, 1, none⟩ = some (.int .i64 0) := cells_at sN 1 _ rfl; have e2 : w3.cell? ⟨w2.heap.size, 2, none⟩ = some (.slice none 0 0) := cells_at sN 2 _ rfl; have k0 : w3.frozen? ⟨w2.heap.size, 0, none⟩ = false := frozen_at sN 0; have k1 : w3.frozen? ⟨w2.heap.size, 1, none⟩ = false := frozen_at sN 1; have k2 : w3.frozen? ⟨w2.heap.size, 2, none⟩ = false := frozen_at sN 2; obtain ⟨za, zc, rfl⟩ := owns_shape ho3; have hneB : w.heap.size ≠ w2.heap.size := (by omega); have hB0 : (((w3.setCell ⟨w2.heap.size, 0, none⟩ (.int .i64 au)).setCell ⟨w2.heap.size, 1, none⟩ (.int .i64 nx)).setCell ⟨w2.heap.size, 2, none⟩ (.slice za K zc)).cell? ⟨w.heap.size, 0, none⟩ = some (.int .i64 nx) := cells_at (heap_far (heap_far (heap_far s0 hneB) hneB) hneB) 0 _ rfl; have hB1 : (((w3.setCell ⟨w2.heap.size, 0, none⟩ (.int .i64 au)).setCell ⟨w2.heap.size, 1, none⟩ (.int .i64 nx)).setCell ⟨w2.heap.size, 2, none⟩ (.slice za K zc)).cell? ⟨w.heap.size, 1, none⟩ = some (.slice (some ⟨sb, so, none⟩) ss.length cap) := cells_at (heap_far (heap_far (heap_far s0 hneB) hneB) hneB) 1 _ rfl))
          all_goals
            go_wp2_with fail
            go_meet
            case rel =>
              first
                | exact ⟨w2.heap.size, za, zc, rfl, Nat.le_refl _, ((((below_drew (below_alloc hbB)).setCell (by simp) _).setCell (by simp) _).setCell (by simp) _), by simpa using heap_setCell_same _ _ 2 _ _ (.slice za K zc) (heap_setCell_same _ _ 1 _ _ (.int .i64 nx) (heap_setCell_same _ _ 0 _ _ (.int .i64 au) sN)), ownsRow_base' (owns_far (owns_far (owns_far ho3 _ _ _ (by simp)) _ _ _ (by simp)) _ _ _ (by simp)) (by simp)⟩
                | exact ⟨w3.heap.size, za, zc, rfl, hbA.size, hbA.alloc hbA.size _, heap_alloc_new w3 _, ownsRow_base' (World.ownsRow.alloc ho3 _) (by simp)⟩
        case rest =>
          obtain ⟨b, za, zc, rfl, hbb, hbc, sb0, ho⟩ := hcut
          have hn1 : b ≠ w.heap.size + 1 := by omega
          have hn2 : b ≠ w.heap.size + 1 + 1 := by omega
          have hm1 : w.heap.size ≠ w.heap.size + 1 := by omega
          have hm2 : w.heap.size ≠ w.heap.size + 1 + 1 := by omega
          have hBc := hB2.trans (hbc.mono hB2.size)
          have s0 := (hbc.block _ (lt_of_heap q0)).trans q0
          have s1 := (hbc.block _ (lt_of_heap q1)).trans q1
          have s2 := (hbc.block _ (lt_of_heap q2)).trans q2
          have b0 : wc.cell? ⟨b, 0, none⟩ = some (.int .i64 au) := cells_at sb0 0 _ rfl
          have b1 : wc.cell? ⟨b, 1, none⟩ = some (.int .i64 nx) := cells_at sb0 1 _ rfl
          have b2 : wc.cell? ⟨b, 2, none⟩ = some (.slice za K zc) := cells_at sb0 2 _ rfl
          have hltc := lt_of_heap s2
          clear c0 c1
          have c0 : wc.cell? ⟨w.heap.size, 0, none⟩ = some (.int .i64 nx) := cells_at s0 0 _ rfl
          have c1 : wc.cell? ⟨w.heap.size, 1, none⟩ = some (.slice (some ⟨sb, so, none⟩) ss.length cap) := cells_at s0 1 _ rfl
          clear HJ1
          go_upto_region 9 with fail
          by_cases hcap : cap = K
          · go_region_held3 (fun w' => w'.cell? ⟨w.heap.size, 0, none⟩ = some (.int .i64 nx) ∧ w'.cell? ⟨w.heap.size, 1, none⟩ = some (.slice (some ⟨sb, so, none⟩) ss.length cap) ∧ w'.cell? ⟨b, 0, none⟩ = some (.int .i64 au) ∧ w'.cell? ⟨b, 1, none⟩ = some (.int .i64 nx) ∧ w'.cell? ⟨b, 2, none⟩ = some (.slice za K zc)) (go_keep) ((go_at_call 33; refine (HJ2.out wc.drew _ _ _ hBc.drew (by first | rfl | omega) (by omega) (by omega) (by simp) (by first | exact .inl rfl | exact .inr (by omega))).mono ?_; rintro e w4 ⟨v4, rfl, ho4, hb4⟩; replace hb4 := below_drew hb4; have t0 := (hb4.block _ (lt_of_heap s0)).trans s0; have t1 := (hb4.block _ (lt_of_heap s1)).trans s1; have t2 := (hb4.block _ (lt_of_heap s2)).trans s2; have tb := (hb4.block _ (lt_of_heap sb0)).trans sb0; have x0 : w4.cell? ⟨w.heap.size, 0, none⟩ = some (.int .i64 nx) := cells_at t0 0 _ rfl; have x1 : w4.cell? ⟨w.heap.size, 1, none⟩ = some (.slice (some ⟨sb, so, none⟩) ss.length cap) := cells_at t0 1 _ rfl; have y0 : w4.cell? ⟨b, 0, none⟩ = some (.int .i64 au) := cells_at tb 0 _ rfl; have y1 : w4.cell? ⟨b, 1, none⟩ = some (.int .i64 nx) := cells_at tb 1 _ rfl; have y2 : w4.cell? ⟨b, 2, none⟩ = some (.slice za K zc) := cells_at tb 2 _ rfl; have e0 : w4.cell? ⟨w.heap.size + 1, 0, none⟩ = some (.int .i64 0) := cells_at t1 0 _ rfl; have e1 : w4.cell? ⟨w.heap.size + 1, 1, none⟩ = some (.slice none 0 0) := cells_at t1 1 _ rfl; have k0 := frozen_at t1 0; have k1 := frozen_at t1 1; have m0 : w4.cell? ⟨w.heap.size + 1 + 1, 0, none⟩ = some (.int .i64 0) := cells_at t2 0 _ rfl; have m1 : w4.cell? ⟨w.heap.size + 1 + 1, 1, none⟩ = some (.int .i64 0) := cells_at t2 1 _ rfl; have m2 : w4.cell? ⟨w.heap.size + 1 + 1, 2, none⟩ = some (.slice none 0 0) := cells_at t2 2 _ rfl; have l0 := frozen_at t2 0; have l1 := frozen_at t2 1; have l2 := frozen_at t2 2; obtain ⟨ya, yc, rfl⟩ := owns_shape ho4; have tb1 := heap_far (j := 1) (v := .slice ya (ss.length - K) yc) (heap_far (j := 0) (v := .int .i64 (nx + 1)) tb hn1) hn1; have tb2 := heap_far (j := 2) (v := .slice za K zc) (heap_far (j := 1) (v := .int .i64 nx) (heap_far (j := 0) (v := .int .i64 au) tb1 hn2) hn2) hn2; have j00 : ((w4.setCell ⟨w.heap.size + 1, 0, none⟩ (.int .i64 (nx + 1))).setCell ⟨w.heap.size + 1, 1, none⟩ (.slice ya (ss.length - K) yc)).cell? ⟨b, 0, none⟩ = some (.int .i64 au) := cells_at tb1 0 _ rfl; have j01 : ((w4.setCell ⟨w.heap.size + 1, 0, none⟩ (.int .i64 (nx + 1))).setCell ⟨w.heap.size + 1, 1, none⟩ (.slice ya (ss.length - K) yc)).cell? ⟨b, 1, none⟩ = some (.int .i64 nx) := cells_at tb1 1 _ rfl; have j02 : ((w4.setCell ⟨w.heap.size + 1, 0, none⟩ (.int .i64 (nx + 1))).setCell ⟨w.heap.size + 1, 1, none⟩ (.slice ya (ss.length - K) yc)).cell? ⟨b, 2, none⟩ = some (.slice za K zc) := cells_at tb1 2 _ rfl; have j10 : (((((w4.setCell ⟨w.heap.size + 1, 0, none⟩ (.int .i64 (nx + 1))).setCell ⟨w.heap.size + 1, 1, none⟩ (.slice ya (ss.length - K) yc)).setCell ⟨w.heap.size + 1 + 1, 0, none⟩ (.int .i64 au)).setCell ⟨w.heap.size + 1 + 1, 1, none⟩ (.int .i64 nx)).setCell ⟨w.heap.size + 1 + 1, 2, none⟩ (.slice za K zc)).cell? ⟨b, 0, none⟩ = some (.int .i64 au) := cells_at tb2 0 _ rfl; have j11 : (((((w4.setCell ⟨w.heap.size + 1, 0, none⟩ (.int .i64 (nx + 1))).setCell ⟨w.heap.size + 1, 1, none⟩ (.slice ya (ss.length - K) yc)).setCell ⟨w.heap.size + 1 + 1, 0, none⟩ (.int .i64 au)).setCell ⟨w.heap.size + 1 + 1, 1, none⟩ (.int .i64 nx)).setCell ⟨w.heap.size + 1 + 1, 2, none⟩ (.slice za K zc)).cell? ⟨b, 1, none⟩ = some (.int .i64 nx) := cells_at tb2 1 _ rfl; have j12 : (((((w4.setCell ⟨w.heap.size + 1, 0, none⟩ (.int .i64 (nx + 1))).setCell ⟨w.heap.size + 1, 1, none⟩ (.slice ya (ss.length - K) yc)).setCell ⟨w.heap.size + 1 + 1, 0, none⟩ (.int .i64 au)).setCell ⟨w.heap.size + 1 + 1, 1, none⟩ (.int .i64 nx)).setCell ⟨w.heap.size + 1 + 1, 2, none⟩ (.slice za K zc)).cell? ⟨b, 2, none⟩ = some (.slice za K zc) := cells_at tb2 2 _ rfl; have tc1 := heap_far (j := 1) (v := .slice ya (ss.length - K) yc) (heap_far (j := 0) (v := .int .i64 (nx + 1)) t0 hm1) hm1; have tc2 := heap_far (j := 2) (v := .slice za K zc) (heap_far (j := 1) (v := .int .i64 nx) (heap_far (j := 0) (v := .int .i64 au) tc1 hm2) hm2) hm2; have o0 : (((((w4.setCell ⟨w.heap.size + 1, 0, none⟩ (.int .i64 (nx + 1))).setCell ⟨w.heap.size + 1, 1, none⟩ (.slice ya (ss.length - K) yc)).setCell ⟨w.heap.size + 1 + 1, 0, none⟩ (.int .i64 au)).setCell ⟨w.heap.size + 1 + 1, 1, none⟩ (.int .i64 nx)).setCell ⟨w.heap.size + 1 + 1, 2, none⟩ (.slice za K zc)).cell? ⟨w.heap.size, 0, none⟩ = some (.int .i64 nx) := cells_at tc2 0 _ rfl; have o1 : (((((w4.setCell ⟨w.heap.size + 1, 0, none⟩ (.int .i64 (nx + 1))).setCell ⟨w.heap.size + 1, 1, none⟩ (.slice ya (ss.length - K) yc)).setCell ⟨w.heap.size + 1 + 1, 0, none⟩ (.int .i64 au)).setCell ⟨w.heap.size + 1 + 1, 1, none⟩ (.int .i64 nx)).setCell ⟨w.heap.size + 1 + 1, 2, none⟩ (.slice za K zc)).cell? ⟨w.heap.size, 1, none⟩ = some (.slice (some ⟨sb, so, none⟩) ss.length cap) := cells_at tc2 1 _ rfl))
            all_goals
              go_wp2_with fail
              refine bodyPost_ret (v := .tuple #[.agg #[.int .i64 (nx + 1), .slice ya (ss.length - K) yc], .agg #[.int .i64 au, .int .i64 nx, .slice za K zc], .int .i64 0]) (by simp [results, Try.results19, go_sem, e0, e1, m0, m1, m2]) rfl (SealAt.good HF.out hD.out.2.symm hT.out.2.symm ?_ ?_ ?_)
              · rw [hD.out.1]; exact ownsRow_base' (owns_far (owns_far (owns_far (owns_far (owns_far ho4 _ _ _ (by simp; omega)) _ _ _ (by simp; omega)) _ _ _ (by simp; omega)) _ _ _ (by simp; omega)) _ _ _ (by simp; omega)) (by simp; omega)
              · rw [hT.out.1]; exact ownsRow_base' (owns_far (owns_far (owns_far (owns_far (owns_far (owns_keep ho hb4) _ _ _ (by omega)) _ _ _ (by omega)) _ _ _ (by omega)) _ _ _ (by omega)) _ _ _ (by omega)) (by omega)
              · exact ((((((hBc.trans (hb4.mono hBc.size)).setCell (by simp <;> omega) _).setCell (by simp <;> omega) _).setCell (by simp <;> omega) _).setCell (by simp <;> omega) _).setCell (by simp <;> omega) _)
          · go_region_held3 (fun w' => w'.cell? ⟨w.heap.size, 0, none⟩ = some (.int .i64 nx) ∧ w'.cell? ⟨w.heap.size, 1, none⟩ = some (.slice (some ⟨sb, so, none⟩) ss.length cap) ∧ w'.cell? ⟨b, 0, none⟩ = some (.int .i64 au) ∧ w'.cell? ⟨b, 1, none⟩ = some (.int .i64 nx) ∧ w'.cell? ⟨b, 2, none⟩ = some (.slice za K zc)) (go_keep) ((go_at_call 33; refine (HJ2.out wc.drew _ _ _ hBc.drew (by first | rfl | omega) (by omega) (by omega) (by simp) (by first | exact .inl rfl | exact .inr (by omega))).mono ?_; rintro e w4 ⟨v4, rfl, ho4, hb4⟩; replace hb4 := below_drew hb4; have t0 := (hb4.block _ (lt_of_heap s0)).trans s0; have t1 := (hb4.block _ (lt_of_heap s1)).trans s1; have t2 := (hb4.block _ (lt_of_heap s2)).trans s2; have tb := (hb4.block _ (lt_of_heap sb0)).trans sb0; have x0 : w4.cell? ⟨w.heap.size, 0, none⟩ = some (.int .i64 nx) := cells_at t0 0 _ rfl; have x1 : w4.cell? ⟨w.heap.size, 1, none⟩ = some (.slice (some ⟨sb, so, none⟩) ss.length cap) := cells_at t0 1 _ rfl; have y0 : w4.cell? ⟨b, 0, none⟩ = some (.int .i64 au) := cells_at tb 0 _ rfl; have y1 : w4.cell? ⟨b, 1, none⟩ = some (.int .i64 nx) := cells_at tb 1 _ rfl; have y2 : w4.cell? ⟨b, 2, none⟩ = some (.slice za K zc) := cells_at tb 2 _ rfl; have e0 : w4.cell? ⟨w.heap.size + 1, 0, none⟩ = some (.int .i64 0) := cells_at t1 0 _ rfl; have e1 : w4.cell? ⟨w.heap.size + 1, 1, none⟩ = some (.slice none 0 0) := cells_at t1 1 _ rfl; have k0 := frozen_at t1 0; have k1 := frozen_at t1 1; have m0 : w4.cell? ⟨w.heap.size + 1 + 1, 0, none⟩ = some (.int .i64 0) := cells_at t2 0 _ rfl; have m1 : w4.cell? ⟨w.heap.size + 1 + 1, 1, none⟩ = some (.int .i64 0) := cells_at t2 1 _ rfl; have m2 : w4.cell? ⟨w.heap.size + 1 + 1, 2, none⟩ = some (.slice none 0 0) := cells_at t2 2 _ rfl; have l0 := frozen_at t2 0; have l1 := frozen_at t2 1; have l2 := frozen_at t2 2; obtain ⟨ya, yc, rfl⟩ := owns_shape ho4; have tb1 := heap_far (j := 1) (v := .slice ya (ss.length - K) yc) (heap_far (j := 0) (v := .int .i64 (nx + 1)) tb hn1) hn1; have tb2 := heap_far (j := 2) (v := .slice za K zc) (heap_far (j := 1) (v := .int .i64 nx) (heap_far (j := 0) (v := .int .i64 au) tb1 hn2) hn2) hn2; have j00 : ((w4.setCell ⟨w.heap.size + 1, 0, none⟩ (.int .i64 (nx + 1))).setCell ⟨w.heap.size + 1, 1, none⟩ (.slice ya (ss.length - K) yc)).cell? ⟨b, 0, none⟩ = some (.int .i64 au) := cells_at tb1 0 _ rfl; have j01 : ((w4.setCell ⟨w.heap.size + 1, 0, none⟩ (.int .i64 (nx + 1))).setCell ⟨w.heap.size + 1, 1, none⟩ (.slice ya (ss.length - K) yc)).cell? ⟨b, 1, none⟩ = some (.int .i64 nx) := cells_at tb1 1 _ rfl; have j02 : ((w4.setCell ⟨w.heap.size + 1, 0, none⟩ (.int .i64 (nx + 1))).setCell ⟨w.heap.size + 1, 1, none⟩ (.slice ya (ss.length - K) yc)).cell? ⟨b, 2, none⟩ = some (.slice za K zc) := cells_at tb1 2 _ rfl; have j10 : (((((w4.setCell ⟨w.heap.size + 1, 0, none⟩ (.int .i64 (nx + 1))).setCell ⟨w.heap.size + 1, 1, none⟩ (.slice ya (ss.length - K) yc)).setCell ⟨w.heap.size + 1 + 1, 0, none⟩ (.int .i64 au)).setCell ⟨w.heap.size + 1 + 1, 1, none⟩ (.int .i64 nx)).setCell ⟨w.heap.size + 1 + 1, 2, none⟩ (.slice za K zc)).cell? ⟨b, 0, none⟩ = some (.int .i64 au) := cells_at tb2 0 _ rfl; have j11 : (((((w4.setCell ⟨w.heap.size + 1, 0, none⟩ (.int .i64 (nx + 1))).setCell ⟨w.heap.size + 1, 1, none⟩ (.slice ya (ss.length - K) yc)).setCell ⟨w.heap.size + 1 + 1, 0, none⟩ (.int .i64 au)).setCell ⟨w.heap.size + 1 + 1, 1, none⟩ (.int .i64 nx)).setCell ⟨w.heap.size + 1 + 1, 2, none⟩ (.slice za K zc)).cell? ⟨b, 1, none⟩ = some (.int .i64 nx) := cells_at tb2 1 _ rfl; have j12 : (((((w4.setCell ⟨w.heap.size + 1, 0, none⟩ (.int .i64 (nx + 1))).setCell ⟨w.heap.size + 1, 1, none⟩ (.slice ya (ss.length - K) yc)).setCell ⟨w.heap.size + 1 + 1, 0, none⟩ (.int .i64 au)).setCell ⟨w.heap.size + 1 + 1, 1, none⟩ (.int .i64 nx)).setCell ⟨w.heap.size + 1 + 1, 2, none⟩ (.slice za K zc)).cell? ⟨b, 2, none⟩ = some (.slice za K zc) := cells_at tb2 2 _ rfl; have tc1 := heap_far (j := 1) (v := .slice ya (ss.length - K) yc) (heap_far (j := 0) (v := .int .i64 (nx + 1)) t0 hm1) hm1; have tc2 := heap_far (j := 2) (v := .slice za K zc) (heap_far (j := 1) (v := .int .i64 nx) (heap_far (j := 0) (v := .int .i64 au) tc1 hm2) hm2) hm2; have o0 : (((((w4.setCell ⟨w.heap.size + 1, 0, none⟩ (.int .i64 (nx + 1))).setCell ⟨w.heap.size + 1, 1, none⟩ (.slice ya (ss.length - K) yc)).setCell ⟨w.heap.size + 1 + 1, 0, none⟩ (.int .i64 au)).setCell ⟨w.heap.size + 1 + 1, 1, none⟩ (.int .i64 nx)).setCell ⟨w.heap.size + 1 + 1, 2, none⟩ (.slice za K zc)).cell? ⟨w.heap.size, 0, none⟩ = some (.int .i64 nx) := cells_at tc2 0 _ rfl; have o1 : (((((w4.setCell ⟨w.heap.size + 1, 0, none⟩ (.int .i64 (nx + 1))).setCell ⟨w.heap.size + 1, 1, none⟩ (.slice ya (ss.length - K) yc)).setCell ⟨w.heap.size + 1 + 1, 0, none⟩ (.int .i64 au)).setCell ⟨w.heap.size + 1 + 1, 1, none⟩ (.int .i64 nx)).setCell ⟨w.heap.size + 1 + 1, 2, none⟩ (.slice za K zc)).cell? ⟨w.heap.size, 1, none⟩ = some (.slice (some ⟨sb, so, none⟩) ss.length cap) := cells_at tc2 1 _ rfl))
            all_goals
              go_wp2_with fail
              refine bodyPost_ret (v := .tuple #[.agg #[.int .i64 (nx + 1), .slice ya (ss.length - K) yc], .agg #[.int .i64 au, .int .i64 nx, .slice za K zc], .int .i64 0]) (by simp [results, Try.results19, go_sem, e0, e1, m0, m1, m2]) rfl (SealAt.good HF.out hD.out.2.symm hT.out.2.symm ?_ ?_ ?_)
              · rw [hD.out.1]; exact ownsRow_base' (owns_far (owns_far (owns_far (owns_far (owns_far ho4 _ _ _ (by simp; omega)) _ _ _ (by simp; omega)) _ _ _ (by simp; omega)) _ _ _ (by simp; omega)) _ _ _ (by simp; omega)) (by simp; omega)
              · rw [hT.out.1]; exact ownsRow_base' (owns_far (owns_far (owns_far (owns_far (owns_far (owns_keep ho hb4) _ _ _ (by omega)) _ _ _ (by omega)) _ _ _ (by omega)) _ _ _ (by omega)) _ _ _ (by omega)) (by omega)
              · exact ((((((hBc.trans (hb4.mono hBc.size)).setCell (by simp <;> omega) _).setCell (by simp <;> omega) _).setCell (by simp <;> omega) _).setCell (by simp <;> omega) _).setCell (by simp <;> omega) _)
    · have d0 : w2.cell? ⟨w.heap.size + 1, 0, none⟩ = some (.int .i64 0) := cells_at q1 0 _ rfl
      have d1 : w2.cell? ⟨w.heap.size + 1, 1, none⟩ = some (.slice none 0 0) := cells_at q1 1 _ rfl
      have f0 := frozen_at q1 0
      have f1 := frozen_at q1 1
      have m0 : w2.cell? ⟨w.heap.size + 1 + 1, 0, none⟩ = some (.int .i64 0) := cells_at q2 0 _ rfl
      have m1 : w2.cell? ⟨w.heap.size + 1 + 1, 1, none⟩ = some (.int .i64 0) := cells_at q2 1 _ rfl
      have m2 : w2.cell? ⟨w.heap.size + 1 + 1, 2, none⟩ = some (.slice none 0 0) := cells_at q2 2 _ rfl
      have g0 := frozen_at q2 0
      have g1 := frozen_at q2 1
      have g2 := frozen_at q2 2
      rw [← hF]
      have h9 : ¬ sealF nx ss au = 0 := by rw [hF]; exact hk
      have h9b : (sealF nx ss au != 0) = true := by simpa using h9
      have HF : Hid (sealF nx ss au ≠ 0) := h9
      clear hF hc hk h9
      generalize hE : sealF nx ss au = ec at *
      go_wp2_with fail
      refine bodyPost_ret (v := .tuple #[.agg #[.int .i64 0, .slice none 0 0], .agg #[.int .i64 0, .int .i64 0, .slice none 0 0], .int .i64 ec]) (by simp [results, Try.results19, go_sem, d0, d1, m0, m1, m2]) rfl (SealAt.bad hE HF.out ?_)
      exact (((((hB2.setCell (by simp <;> omega) _).setCell (by simp <;> omega) _).setCell (by simp <;> omega) _).setCell (by simp <;> omega) _).setCell (by simp <;> omega) _)
  · have hF := sealF_bad (au := au) hc
    have h12 : poolF nx ss = 12 := by rcases poolF_cases nx ss with h | h; exact absurd h hc; exact h
    rw [h12]
    clear hc h12
    go_wp2_with fail
    refine bodyPost_ret (v := .tuple #[.agg #[.int .i64 0, .slice none 0 0], .agg #[.int .i64 0, .int .i64 0, .slice none 0 0], .int .i64 12]) (by simp [results, Try.results19, go_sem, d0, d1, m0, m1, m2]) rfl (SealAt.bad hF (by decide) ?_)
    exact (((((hB1.setCell (by simp <;> omega) _).setCell (by simp <;> omega) _).setCell (by simp <;> omega) _).setCell (by simp <;> omega) _).setCell (by simp <;> omega) _)
end Go.Proofs.Ytikolpdedmhljaa
