/- The document's MessageOf, of bytes that begin with 4. -/
import Derived.Test.YthlknldicpeobaaWireDecodesM12
import Derived.Test.YthlknldicpeobaaCheckM
import Derived.Test.YthlknldicpeobaaWireDecodesM0
import Derived.Test.YthlknldicpeobaaWireDecodesM18
import Derived.Deep.CutRange
import Derived.Deep.DeepCutAuto
import Derived.Test.YthlknldicpeobaaRSc3
namespace Go.Proofs.Ythlknldicpeobaa
open Go.RowKit

set_option maxRecDepth 100000 in
set_option maxHeartbeats 16000000 in
theorem messageFault_any (m : Msg) (ss : List ByteArray) (bl pl cbl cpl : List Part) (vl : List Int) (w : World) (H : MsgAt w m ss bl pl cbl cpl vl) :
    Calls Try.prog 21 #[.agg #[.int .i64 m.fr, .int .i64 m.tt, .int .i64 m.ki, .int .i64 m.bau, .int .i64 m.bnu, .slice m.bta m.btn m.btc, .int .i64 m.hau, .int .i64 m.hrd, .slice m.hba m.hbn m.hbc, .slice m.hpa m.hpn m.hpc, .int .i64 m.sau, .int .i64 m.srd, .slice m.sda m.sdn m.sdc, .int .i64 m.cau, .int .i64 m.crd, .slice m.cba m.cbn m.cbc, .slice m.cpa m.cpn m.cpc, .slice m.cva m.cvn m.cvc, .int .i64 m.ro]] w fun e w' => e = .returned (.int .i64 (checkF m (carriedF m ss bl pl cbl cpl vl))) ∧ Below w.heap.size w w' := by
  have hA : Below w.heap.size w (w.alloc (.cells #[.int .i64 m.fr, .int .i64 m.tt, .int .i64 m.ki, .int .i64 m.bau, .int .i64 m.bnu, .slice m.bta m.btn m.btc, .int .i64 m.hau, .int .i64 m.hrd, .slice m.hba m.hbn m.hbc, .slice m.hpa m.hpn m.hpc, .int .i64 m.sau, .int .i64 m.srd, .slice m.sda m.sdn m.sdc, .int .i64 m.cau, .int .i64 m.crd, .slice m.cba m.cbn m.cbc, .slice m.cpa m.cpn m.cpc, .slice m.cva m.cvn m.cvc, .int .i64 m.ro] 35)) := (Below.refl _ _).alloc (Nat.le_refl _) _
  by_cases hf : 0 ≤ m.fr ∧ m.fr ≤ 3
  · by_cases ht : 0 ≤ m.tt ∧ m.tt ≤ 3
    · by_cases hk : 1 ≤ m.ki ∧ m.ki ≤ 5
      · have q0 := heap_alloc_new w (.cells #[.int .i64 m.fr, .int .i64 m.tt, .int .i64 m.ki, .int .i64 m.bau, .int .i64 m.bnu, .slice m.bta m.btn m.btc, .int .i64 m.hau, .int .i64 m.hrd, .slice m.hba m.hbn m.hbc, .slice m.hpa m.hpn m.hpc, .int .i64 m.sau, .int .i64 m.srd, .slice m.sda m.sdn m.sdc, .int .i64 m.cau, .int .i64 m.crd, .slice m.cba m.cbn m.cbc, .slice m.cpa m.cpn m.cpc, .slice m.cva m.cvn m.cvc, .int .i64 m.ro] 35)
        go_enter Try.func21, Try.ntmps21
        go_upto_region 5 with (go_at_call 16; first | (refine (in_true _ _ _ _ (by omega)).mono ?_; rintro e w' ⟨rfl, rfl⟩) | (refine (in_false _ _ _ _ (by omega)).mono ?_; rintro e w' ⟨rfl, rfl⟩))
        go_cut [3] (fun v wx => v = .int .i64 0 ∧ wx = w.alloc (.cells #[.int .i64 m.fr, .int .i64 m.tt, .int .i64 m.ki, .int .i64 m.bau, .int .i64 m.bnu, .slice m.bta m.btn m.btc, .int .i64 m.hau, .int .i64 m.hrd, .slice m.hba m.hbn m.hbc, .slice m.hpa m.hpn m.hpc, .int .i64 m.sau, .int .i64 m.srd, .slice m.sda m.sdn m.sdc, .int .i64 m.cau, .int .i64 m.crd, .slice m.cba m.cbn m.cbc, .slice m.cpa m.cpn m.cpc, .slice m.cva m.cvn m.cvc, .int .i64 m.ro] 35))
        case first =>
          go_wp2_with fail
          go_meet
          case rel => exact ⟨rfl, rfl⟩
        case rest =>
          obtain ⟨rfl, rfl⟩ := hcut
          apply_assumption
          refine wp_seq_k (fun K2 hK2 => ?_)
          go_cut [3] (fun v wx => v = .int .i64 (carriedF m ss bl pl cbl cpl vl) ∧ Below w.heap.size w wx ∧ wx.heap[w.heap.size]? = some (.cells #[.int .i64 m.fr, .int .i64 m.tt, .int .i64 m.ki, .int .i64 m.bau, .int .i64 m.bnu, .slice m.bta m.btn m.btc, .int .i64 m.hau, .int .i64 m.hrd, .slice m.hba m.hbn m.hbc, .slice m.hpa m.hpn m.hpc, .int .i64 m.sau, .int .i64 m.srd, .slice m.sda m.sdn m.sdc, .int .i64 m.cau, .int .i64 m.crd, .slice m.cba m.cbn m.cbc, .slice m.cpa m.cpn m.cpc, .slice m.cva m.cvn m.cvc, .int .i64 m.ro] 35 (0, 0)))
          case first =>
            have hkk : m.ki = 1 ∨ m.ki = 2 ∨ m.ki = 3 ∨ m.ki = 4 ∨ m.ki = 5 := by omega
            have hBf : ∀ wx, Below w.heap.size w wx → Calls Try.prog 39 #[.agg #[.int .i64 m.bau, .int .i64 m.bnu, .slice m.bta m.btn m.btc]] wx fun e w' => e = .returned (.int .i64 (batchF m.bau m.bnu ss)) ∧ Below wx.heap.size wx w' := fun wx hb => batchFault_any m.bau m.bnu m.bta m.btn m.btc ss wx H.e1 (by rw [H.e1]; have := H.s1; unfold maxLen; omega) (H.txs.below hb)
            have hHf : ∀ wx, Below w.heap.size w wx → Calls Try.prog 40 #[.agg #[.int .i64 m.hau, .int .i64 m.hrd, .slice m.hba m.hbn m.hbc, .slice m.hpa m.hpn m.hpc]] wx fun e w' => e = .returned (.int .i64 (headerF m.hau m.hrd bl pl)) ∧ Below wx.heap.size wx w' := fun wx hb => by
              have h9 := headerFault_any m.hau m.hrd m.hba m.hbc bl m.hpa m.hpc pl wx (H.bat.below hb) (H.par.below hb)
              rw [← H.e2, ← H.e3] at h9
              exact h9
            have hCf : ∀ wx, Below w.heap.size w wx → Calls Try.prog 42 #[.agg #[.int .i64 m.cau, .int .i64 m.crd, .slice m.cba m.cbn m.cbc, .slice m.cpa m.cpn m.cpc, .slice m.cva m.cvn m.cvc]] wx fun e w' => e = .returned (.int .i64 (certF m.cau m.crd cbl cpl vl)) ∧ Below wx.heap.size wx w' := fun wx hb => by
              have h9 := certFault_any m.cau m.crd m.cba m.cbc cbl m.cpa m.cpc cpl m.cva m.cvc vl wx (H.cbat.below hb) (H.cpar.below hb) (H.vot.below hb) H.s6
              rw [← H.e4, ← H.e5, ← H.e6] at h9
              exact h9
            have HBf : Hid _ := hBf
            have HHf : Hid _ := hHf
            have HCf : Hid _ := hCf
            have HA : Hid _ := hA
            clear hBf hHf hCf H hA
            rcases hkk with h | h | h | h | h
            · have hcf : Hid (carriedF m ss bl pl cbl cpl vl = batchF m.bau m.bnu ss) := by show _ = _; simp [carriedF, h]
              have hkb1 : (m.ki == 1) = true := by simp [h]
              have hkb2 : (m.ki == 2) = false := by simp [h]
              have hkb3 : (m.ki == 3) = false := by simp [h]
              have hkb4 : (m.ki == 4) = false := by simp [h]
              clear h
              go_wp2_with fail
              refine (HBf.out _ HA.out).mono ?_
              rintro e w2 ⟨rfl, hb2⟩
              go_wp2_with fail
              go_meet
              case rel => exact ⟨by rw [hcf.out], below_alloc hb2, row_new hb2⟩
            · have hcf : Hid (carriedF m ss bl pl cbl cpl vl = headerF m.hau m.hrd bl pl) := by show _ = _; simp [carriedF, h]
              have hkb1 : (m.ki == 1) = false := by simp [h]
              have hkb2 : (m.ki == 2) = true := by simp [h]
              have hkb3 : (m.ki == 3) = false := by simp [h]
              have hkb4 : (m.ki == 4) = false := by simp [h]
              clear h
              go_wp2_with fail
              refine (HHf.out _ HA.out).mono ?_
              rintro e w2 ⟨rfl, hb2⟩
              go_wp2_with fail
              go_meet
              case rel => exact ⟨by rw [hcf.out], below_alloc hb2, row_new hb2⟩
            · have hcf : Hid (carriedF m ss bl pl cbl cpl vl = slotF m.sau m.srd m.sdn) := by show _ = _; simp [carriedF, h]
              have hkb1 : (m.ki == 1) = false := by simp [h]
              have hkb2 : (m.ki == 2) = false := by simp [h]
              have hkb3 : (m.ki == 3) = true := by simp [h]
              have hkb4 : (m.ki == 4) = false := by simp [h]
              clear h
              go_wp2_with fail
              refine (slotFault_any m.sau m.srd m.sda m.sdn m.sdc _).mono ?_
              rintro e w2 ⟨rfl, hb2⟩
              go_wp2_with fail
              go_meet
              case rel => exact ⟨by rw [hcf.out], below_alloc hb2, row_new hb2⟩
            · have hcf : Hid (carriedF m ss bl pl cbl cpl vl = certF m.cau m.crd cbl cpl vl) := by show _ = _; simp [carriedF, h]
              have hkb1 : (m.ki == 1) = false := by simp [h]
              have hkb2 : (m.ki == 2) = false := by simp [h]
              have hkb3 : (m.ki == 3) = false := by simp [h]
              have hkb4 : (m.ki == 4) = true := by simp [h]
              clear h
              go_wp2_with fail
              refine (HCf.out _ HA.out).mono ?_
              rintro e w2 ⟨rfl, hb2⟩
              go_wp2_with fail
              go_meet
              case rel => exact ⟨by rw [hcf.out], below_alloc hb2, row_new hb2⟩
            · have hkb1 : (m.ki == 1) = false := by simp [h]
              have hkb2 : (m.ki == 2) = false := by simp [h]
              have hkb3 : (m.ki == 3) = false := by simp [h]
              have hkb4 : (m.ki == 4) = false := by simp [h]
              have hkb5 : (m.ki == 5) = true := by simp [h]
              by_cases hr : 1 ≤ m.ro ∧ m.ro ≤ 1048576
              · have hcf : Hid (carriedF m ss bl pl cbl cpl vl = 0) := by show _ = _; simp [carriedF, h, hr]
                clear h
                go_wp2_with (go_at_call 16; first | (refine (in_true _ _ _ _ (by omega)).mono ?_; rintro e w' ⟨rfl, rfl⟩) | (refine (in_false _ _ _ _ (by omega)).mono ?_; rintro e w' ⟨rfl, rfl⟩))
                go_meet
                case rel => exact ⟨by rw [hcf.out], HA.out, heap_alloc_new _ _⟩
              · have hcf : Hid (carriedF m ss bl pl cbl cpl vl = 2) := by show _ = _; simp [carriedF, h, hr]
                clear h
                go_wp2_with (go_at_call 16; first | (refine (in_true _ _ _ _ (by omega)).mono ?_; rintro e w' ⟨rfl, rfl⟩) | (refine (in_false _ _ _ _ (by omega)).mono ?_; rintro e w' ⟨rfl, rfl⟩))
                go_meet
                case rel => exact ⟨by rw [hcf.out], HA.out, heap_alloc_new _ _⟩
          case rest =>
            obtain ⟨rfl, hW, r0⟩ := hcut
            have HM : Hid _ := H
            clear H q0 hA
            by_cases he : carriedF m ss bl pl cbl cpl vl = 0
            · rw [he]
              have HE : Hid _ := he
              clear he
              have c3 : wc.cell? ⟨w.heap.size, 3, none⟩ = some (.int .i64 m.bau) := cells_at r0 3 _ rfl
              have c4 : wc.cell? ⟨w.heap.size, 4, none⟩ = some (.int .i64 m.bnu) := cells_at r0 4 _ rfl
              have c5 : wc.cell? ⟨w.heap.size, 5, none⟩ = some (.slice m.bta m.btn m.btc) := cells_at r0 5 _ rfl
              have c10 : wc.cell? ⟨w.heap.size, 10, none⟩ = some (.int .i64 m.sau) := cells_at r0 10 _ rfl
              have c11 : wc.cell? ⟨w.heap.size, 11, none⟩ = some (.int .i64 m.srd) := cells_at r0 11 _ rfl
              have c12 : wc.cell? ⟨w.heap.size, 12, none⟩ = some (.slice m.sda m.sdn m.sdc) := cells_at r0 12 _ rfl
              go_upto_region 20 with fail
              go_cut [4] (fun v wx => v = .bool (decide (¬ (m.bau = 0 ∧ m.bnu = 0 ∧ m.btn = 0))) ∧ wx = wc)
              case first =>
                clear r0 hW HM HE c10 c11 c12
                generalize m.bau = xA at *
                generalize m.bnu = xB at *
                generalize m.btn = xN at *
                by_cases a1 : xA = 0
                · subst a1
                  by_cases a2 : xB = 0
                  · subst a2
                    go_wp2_with fail
                    go_meet
                    case rel => exact ⟨congrArg _ (by simp [Nat.pos_iff_ne_zero]), rfl⟩
                  · have a2I : (xB == 0) = false := by simpa using a2
                    go_wp2_with fail
                    go_meet
                    case rel => exact ⟨congrArg _ (by simp [a2]), rfl⟩
                · have a1I : (xA == 0) = false := by simpa using a1
                  go_wp2_with fail
                  go_meet
                  case rel => exact ⟨congrArg _ (by simp [a1]), rfl⟩
              case rest =>
                obtain ⟨rfl, rfl⟩ := hcut
                clear c3 c4 c5
                generalize hbb : decide (¬ (m.bau = 0 ∧ m.bnu = 0 ∧ m.btn = 0)) = bb
                have HB : Hid _ := hbb
                clear hbb
                apply_assumption
                refine wp_seq_k (fun K3 hK3 => ?_)
                go_cut [5] (fun v wx => v = .bool (decide (¬ (m.sau = 0 ∧ m.srd = 0 ∧ m.sdn = 0))) ∧ wx = wc)
                case first =>
                  clear r0 hW HM HE HB
                  generalize m.sau = xA at *
                  generalize m.srd = xB at *
                  generalize m.sdn = xN at *
                  by_cases a1 : xA = 0
                  · subst a1
                    by_cases a2 : xB = 0
                    · subst a2
                      go_wp2_with fail
                      go_meet
                      case rel => exact ⟨congrArg _ (by simp [Nat.pos_iff_ne_zero]), rfl⟩
                    · have a2I : (xB == 0) = false := by simpa using a2
                      go_wp2_with fail
                      go_meet
                      case rel => exact ⟨congrArg _ (by simp [a2]), rfl⟩
                  · have a1I : (xA == 0) = false := by simpa using a1
                    go_wp2_with fail
                    go_meet
                    case rel => exact ⟨congrArg _ (by simp [a1]), rfl⟩
                case rest =>
                  obtain ⟨rfl, rfl⟩ := hcut
                  clear c10 c11 c12
                  generalize hsb : decide (¬ (m.sau = 0 ∧ m.srd = 0 ∧ m.sdn = 0)) = sb
                  have HS : Hid _ := hsb
                  clear hsb
                  apply_assumption
                  refine wp_seq_k (fun K4 hK4 => ?_)
                  have c13 : wc.cell? ⟨w.heap.size, 13, none⟩ = some (.int .i64 m.cau) := cells_at r0 13 _ rfl
                  have c14 : wc.cell? ⟨w.heap.size, 14, none⟩ = some (.int .i64 m.crd) := cells_at r0 14 _ rfl
                  have c15 : wc.cell? ⟨w.heap.size, 15, none⟩ = some (.slice m.cba m.cbn m.cbc) := cells_at r0 15 _ rfl
                  have c16 : wc.cell? ⟨w.heap.size, 16, none⟩ = some (.slice m.cpa m.cpn m.cpc) := cells_at r0 16 _ rfl
                  have c17 : wc.cell? ⟨w.heap.size, 17, none⟩ = some (.slice m.cva m.cvn m.cvc) := cells_at r0 17 _ rfl
                  go_cut [6] (fun v wx => v = .bool (decide (¬ (m.cau = 0 ∧ m.crd = 0 ∧ m.cbn = 0 ∧ m.cpn = 0 ∧ m.cvn = 0))) ∧ Below w.heap.size w wx ∧ wx.heap[w.heap.size]? = some (.cells #[.int .i64 m.fr, .int .i64 m.tt, .int .i64 m.ki, .int .i64 m.bau, .int .i64 m.bnu, .slice m.bta m.btn m.btc, .int .i64 m.hau, .int .i64 m.hrd, .slice m.hba m.hbn m.hbc, .slice m.hpa m.hpn m.hpc, .int .i64 m.sau, .int .i64 m.srd, .slice m.sda m.sdn m.sdc, .int .i64 m.cau, .int .i64 m.crd, .slice m.cba m.cbn m.cbc, .slice m.cpa m.cpn m.cpc, .slice m.cva m.cvn m.cvc, .int .i64 m.ro] 35 (0, 0)))
                  case first =>
                    have hlt := lt_of_heap r0
                    by_cases hh : m.cau = 0 ∧ m.crd = 0 ∧ m.cbn = 0 ∧ m.cpn = 0
                    · have hH : Hid _ := hh
                      clear hh
                      go_wp2_with fail
                      refine (headerEmpty_true _ _ _ _ _ _ _ _ _ hH.out).mono ?_
                      rintro e w2 ⟨rfl, hb2⟩
                      have r2 := (hb2.block _ hlt).trans r0
                      clear c13 c14 c15 c16 c17
                      have c17 : w2.cell? ⟨w.heap.size, 17, none⟩ = some (.slice m.cva m.cvn m.cvc) := cells_at r2 17 _ rfl
                      go_wp2_with fail
                      go_meet
                      case rel => exact ⟨congrArg _ (by simp [hH.out, Nat.pos_iff_ne_zero]), hW.trans (hb2.mono hW.size), r2⟩
                    · have hH : Hid _ := hh
                      clear hh
                      go_wp2_with fail
                      refine (headerEmpty_false _ _ _ _ _ _ _ _ _ hH.out).mono ?_
                      rintro e w2 ⟨rfl, hb2⟩
                      have r2 := (hb2.block _ hlt).trans r0
                      clear c13 c14 c15 c16 c17
                      go_wp2_with fail
                      go_meet
                      case rel => exact ⟨congrArg _ (by rw [decide_eq_true]; exact fun h => hH.out ⟨h.1, h.2.1, h.2.2.1, h.2.2.2.1⟩), hW.trans (hb2.mono hW.size), r2⟩
                  case rest =>
                    obtain ⟨rfl, hW3, r3⟩ := hcut
                    clear c13 c14 c15 c16 c17 r0 hW
                    generalize hcb : decide (¬ (m.cau = 0 ∧ m.crd = 0 ∧ m.cbn = 0 ∧ m.cpn = 0 ∧ m.cvn = 0)) = cb
                    have HC : Hid _ := hcb
                    clear hcb
                    have hkk : m.ki = 1 ∨ m.ki = 2 ∨ m.ki = 3 ∨ m.ki = 4 ∨ m.ki = 5 := by omega
                    have hF : Hid (checkF m (carriedF m ss bl pl cbl cpl vl) = if (bb = true ∧ m.ki ≠ 1) ∨ (¬ (m.hau = 0 ∧ m.hrd = 0 ∧ m.hbn = 0 ∧ m.hpn = 0) ∧ m.ki ≠ 2) ∨ (sb = true ∧ m.ki ≠ 3) ∨ (cb = true ∧ m.ki ≠ 4) ∨ (m.ro ≠ 0 ∧ m.ki ≠ 5) then 4 else 0) := by
                      show _ = _
                      rw [HE.out, checkF, if_neg (by omega), if_neg (by omega), ← HB.out, ← HS.out, ← HC.out]
                      simp only [decide_eq_true_eq]
                      rcases hkk with h | h | h | h | h <;> simp only [msgEmpty, strip, h] <;> simp <;> split <;> split <;> omega
                    have hlt := lt_of_heap r3
                    have c2 : wc.cell? ⟨w.heap.size, 2, none⟩ = some (.int .i64 m.ki) := cells_at r3 2 _ rfl
                    have c6 : wc.cell? ⟨w.heap.size, 6, none⟩ = some (.int .i64 m.hau) := cells_at r3 6 _ rfl
                    have c7 : wc.cell? ⟨w.heap.size, 7, none⟩ = some (.int .i64 m.hrd) := cells_at r3 7 _ rfl
                    have c8 : wc.cell? ⟨w.heap.size, 8, none⟩ = some (.slice m.hba m.hbn m.hbc) := cells_at r3 8 _ rfl
                    have c9 : wc.cell? ⟨w.heap.size, 9, none⟩ = some (.slice m.hpa m.hpn m.hpc) := cells_at r3 9 _ rfl
                    have c18 : wc.cell? ⟨w.heap.size, 18, none⟩ = some (.int .i64 m.ro) := cells_at r3 18 _ rfl
                    apply_assumption
                    rcases hkk with h | h | h | h | h
                    · have hkb1 : (m.ki == 1) = true := by simp [h]
                      have hkn1 : (m.ki != 1) = false := by simp [h]
                      have hkb2 : (m.ki == 2) = false := by simp [h]
                      have hkn2 : (m.ki != 2) = true := by simp [h]
                      have hkb3 : (m.ki == 3) = false := by simp [h]
                      have hkn3 : (m.ki != 3) = true := by simp [h]
                      have hkb4 : (m.ki == 4) = false := by simp [h]
                      have hkn4 : (m.ki != 4) = true := by simp [h]
                      have hkb5 : (m.ki == 5) = false := by simp [h]
                      have hkn5 : (m.ki != 5) = true := by simp [h]
                      have hO : Hid _ := h
                      clear h
                      cases bb
                      · by_cases hh : m.hau = 0 ∧ m.hrd = 0 ∧ m.hbn = 0 ∧ m.hpn = 0
                        · have hH : Hid (m.hau = 0 ∧ m.hrd = 0 ∧ m.hbn = 0 ∧ m.hpn = 0) := hh
                          clear hh
                          go_wp2_with fail
                          refine (headerEmpty_true _ _ _ _ _ _ _ _ _ hH.out).mono ?_
                          rintro e w2 ⟨rfl, hb2⟩
                          have r2 := (hb2.block _ hlt).trans r3
                          have hW2 := hW3.trans (hb2.mono hW3.size)
                          clear c2 c6 c7 c8 c9 c18
                          have c2 : w2.cell? ⟨w.heap.size, 2, none⟩ = some (.int .i64 m.ki) := cells_at r2 2 _ rfl
                          have c18 : w2.cell? ⟨w.heap.size, 18, none⟩ = some (.int .i64 m.ro) := cells_at r2 18 _ rfl
                          cases sb
                          · cases cb
                            · by_cases hr : m.ro = 0
                              · have hrb : (m.ro == 0) = true := by simp [hr]
                                have hrn : (m.ro != 0) = false := by simp [hr]
                                have hR : Hid (m.ro = 0) := hr
                                clear hr
                                go_wp2_with fail
                                go_ret
                                exact ⟨ret_int (hF.out.trans (by simp [hO.out, hH.out, hR.out])).symm, hW2⟩
                              · have hrb : (m.ro == 0) = false := by simpa using hr
                                have hrn : (m.ro != 0) = true := by simp [hr]
                                have hR : Hid (¬ m.ro = 0) := hr
                                clear hr
                                go_wp2_with fail
                                go_ret
                                exact ⟨ret_int (hF.out.trans (by simp [hO.out, hH.out, hR.out])).symm, hW2⟩
                            · go_wp2_with fail
                              go_ret
                              exact ⟨ret_int (hF.out.trans (by simp [hO.out, hH.out])).symm, hW2⟩
                          · go_wp2_with fail
                            go_ret
                            exact ⟨ret_int (hF.out.trans (by simp [hO.out, hH.out])).symm, hW2⟩
                        · have hH : Hid (¬ (m.hau = 0 ∧ m.hrd = 0 ∧ m.hbn = 0 ∧ m.hpn = 0)) := hh
                          clear hh
                          go_wp2_with fail
                          refine (headerEmpty_false _ _ _ _ _ _ _ _ _ hH.out).mono ?_
                          rintro e w2 ⟨rfl, hb2⟩
                          have r2 := (hb2.block _ hlt).trans r3
                          have hW2 := hW3.trans (hb2.mono hW3.size)
                          clear c2 c6 c7 c8 c9 c18
                          have c2 : w2.cell? ⟨w.heap.size, 2, none⟩ = some (.int .i64 m.ki) := cells_at r2 2 _ rfl
                          have c18 : w2.cell? ⟨w.heap.size, 18, none⟩ = some (.int .i64 m.ro) := cells_at r2 18 _ rfl
                          go_wp2_with fail
                          go_ret
                          exact ⟨ret_int (hF.out.trans (by simp [hO.out, hH.out])).symm, hW2⟩
                      · by_cases hh : m.hau = 0 ∧ m.hrd = 0 ∧ m.hbn = 0 ∧ m.hpn = 0
                        · have hH : Hid (m.hau = 0 ∧ m.hrd = 0 ∧ m.hbn = 0 ∧ m.hpn = 0) := hh
                          clear hh
                          go_wp2_with fail
                          refine (headerEmpty_true _ _ _ _ _ _ _ _ _ hH.out).mono ?_
                          rintro e w2 ⟨rfl, hb2⟩
                          have r2 := (hb2.block _ hlt).trans r3
                          have hW2 := hW3.trans (hb2.mono hW3.size)
                          clear c2 c6 c7 c8 c9 c18
                          have c2 : w2.cell? ⟨w.heap.size, 2, none⟩ = some (.int .i64 m.ki) := cells_at r2 2 _ rfl
                          have c18 : w2.cell? ⟨w.heap.size, 18, none⟩ = some (.int .i64 m.ro) := cells_at r2 18 _ rfl
                          cases sb
                          · cases cb
                            · by_cases hr : m.ro = 0
                              · have hrb : (m.ro == 0) = true := by simp [hr]
                                have hrn : (m.ro != 0) = false := by simp [hr]
                                have hR : Hid (m.ro = 0) := hr
                                clear hr
                                go_wp2_with fail
                                go_ret
                                exact ⟨ret_int (hF.out.trans (by simp [hO.out, hH.out, hR.out])).symm, hW2⟩
                              · have hrb : (m.ro == 0) = false := by simpa using hr
                                have hrn : (m.ro != 0) = true := by simp [hr]
                                have hR : Hid (¬ m.ro = 0) := hr
                                clear hr
                                go_wp2_with fail
                                go_ret
                                exact ⟨ret_int (hF.out.trans (by simp [hO.out, hH.out, hR.out])).symm, hW2⟩
                            · go_wp2_with fail
                              go_ret
                              exact ⟨ret_int (hF.out.trans (by simp [hO.out, hH.out])).symm, hW2⟩
                          · go_wp2_with fail
                            go_ret
                            exact ⟨ret_int (hF.out.trans (by simp [hO.out, hH.out])).symm, hW2⟩
                        · have hH : Hid (¬ (m.hau = 0 ∧ m.hrd = 0 ∧ m.hbn = 0 ∧ m.hpn = 0)) := hh
                          clear hh
                          go_wp2_with fail
                          refine (headerEmpty_false _ _ _ _ _ _ _ _ _ hH.out).mono ?_
                          rintro e w2 ⟨rfl, hb2⟩
                          have r2 := (hb2.block _ hlt).trans r3
                          have hW2 := hW3.trans (hb2.mono hW3.size)
                          clear c2 c6 c7 c8 c9 c18
                          have c2 : w2.cell? ⟨w.heap.size, 2, none⟩ = some (.int .i64 m.ki) := cells_at r2 2 _ rfl
                          have c18 : w2.cell? ⟨w.heap.size, 18, none⟩ = some (.int .i64 m.ro) := cells_at r2 18 _ rfl
                          go_wp2_with fail
                          go_ret
                          exact ⟨ret_int (hF.out.trans (by simp [hO.out, hH.out])).symm, hW2⟩
                    · have hkb1 : (m.ki == 1) = false := by simp [h]
                      have hkn1 : (m.ki != 1) = true := by simp [h]
                      have hkb2 : (m.ki == 2) = true := by simp [h]
                      have hkn2 : (m.ki != 2) = false := by simp [h]
                      have hkb3 : (m.ki == 3) = false := by simp [h]
                      have hkn3 : (m.ki != 3) = true := by simp [h]
                      have hkb4 : (m.ki == 4) = false := by simp [h]
                      have hkn4 : (m.ki != 4) = true := by simp [h]
                      have hkb5 : (m.ki == 5) = false := by simp [h]
                      have hkn5 : (m.ki != 5) = true := by simp [h]
                      have hO : Hid _ := h
                      clear h
                      cases bb
                      · by_cases hh : m.hau = 0 ∧ m.hrd = 0 ∧ m.hbn = 0 ∧ m.hpn = 0
                        · have hH : Hid (m.hau = 0 ∧ m.hrd = 0 ∧ m.hbn = 0 ∧ m.hpn = 0) := hh
                          clear hh
                          go_wp2_with fail
                          refine (headerEmpty_true _ _ _ _ _ _ _ _ _ hH.out).mono ?_
                          rintro e w2 ⟨rfl, hb2⟩
                          have r2 := (hb2.block _ hlt).trans r3
                          have hW2 := hW3.trans (hb2.mono hW3.size)
                          clear c2 c6 c7 c8 c9 c18
                          have c2 : w2.cell? ⟨w.heap.size, 2, none⟩ = some (.int .i64 m.ki) := cells_at r2 2 _ rfl
                          have c18 : w2.cell? ⟨w.heap.size, 18, none⟩ = some (.int .i64 m.ro) := cells_at r2 18 _ rfl
                          cases sb
                          · cases cb
                            · by_cases hr : m.ro = 0
                              · have hrb : (m.ro == 0) = true := by simp [hr]
                                have hrn : (m.ro != 0) = false := by simp [hr]
                                have hR : Hid (m.ro = 0) := hr
                                clear hr
                                go_wp2_with fail
                                go_ret
                                exact ⟨ret_int (hF.out.trans (by simp [hO.out, hR.out])).symm, hW2⟩
                              · have hrb : (m.ro == 0) = false := by simpa using hr
                                have hrn : (m.ro != 0) = true := by simp [hr]
                                have hR : Hid (¬ m.ro = 0) := hr
                                clear hr
                                go_wp2_with fail
                                go_ret
                                exact ⟨ret_int (hF.out.trans (by simp [hO.out, hR.out])).symm, hW2⟩
                            · go_wp2_with fail
                              go_ret
                              exact ⟨ret_int (hF.out.trans (by simp [hO.out])).symm, hW2⟩
                          · go_wp2_with fail
                            go_ret
                            exact ⟨ret_int (hF.out.trans (by simp [hO.out])).symm, hW2⟩
                        · have hH : Hid (¬ (m.hau = 0 ∧ m.hrd = 0 ∧ m.hbn = 0 ∧ m.hpn = 0)) := hh
                          clear hh
                          go_wp2_with fail
                          refine (headerEmpty_false _ _ _ _ _ _ _ _ _ hH.out).mono ?_
                          rintro e w2 ⟨rfl, hb2⟩
                          have r2 := (hb2.block _ hlt).trans r3
                          have hW2 := hW3.trans (hb2.mono hW3.size)
                          clear c2 c6 c7 c8 c9 c18
                          have c2 : w2.cell? ⟨w.heap.size, 2, none⟩ = some (.int .i64 m.ki) := cells_at r2 2 _ rfl
                          have c18 : w2.cell? ⟨w.heap.size, 18, none⟩ = some (.int .i64 m.ro) := cells_at r2 18 _ rfl
                          cases sb
                          · cases cb
                            · by_cases hr : m.ro = 0
                              · have hrb : (m.ro == 0) = true := by simp [hr]
                                have hrn : (m.ro != 0) = false := by simp [hr]
                                have hR : Hid (m.ro = 0) := hr
                                clear hr
                                go_wp2_with fail
                                go_ret
                                exact ⟨ret_int (hF.out.trans (by simp [hO.out, hR.out])).symm, hW2⟩
                              · have hrb : (m.ro == 0) = false := by simpa using hr
                                have hrn : (m.ro != 0) = true := by simp [hr]
                                have hR : Hid (¬ m.ro = 0) := hr
                                clear hr
                                go_wp2_with fail
                                go_ret
                                exact ⟨ret_int (hF.out.trans (by simp [hO.out, hR.out])).symm, hW2⟩
                            · go_wp2_with fail
                              go_ret
                              exact ⟨ret_int (hF.out.trans (by simp [hO.out])).symm, hW2⟩
                          · go_wp2_with fail
                            go_ret
                            exact ⟨ret_int (hF.out.trans (by simp [hO.out])).symm, hW2⟩
                      · go_wp2_with fail
                        go_ret
                        exact ⟨ret_int (hF.out.trans (by simp [hO.out])).symm, hW3⟩
                    · have hkb1 : (m.ki == 1) = false := by simp [h]
                      have hkn1 : (m.ki != 1) = true := by simp [h]
                      have hkb2 : (m.ki == 2) = false := by simp [h]
                      have hkn2 : (m.ki != 2) = true := by simp [h]
                      have hkb3 : (m.ki == 3) = true := by simp [h]
                      have hkn3 : (m.ki != 3) = false := by simp [h]
                      have hkb4 : (m.ki == 4) = false := by simp [h]
                      have hkn4 : (m.ki != 4) = true := by simp [h]
                      have hkb5 : (m.ki == 5) = false := by simp [h]
                      have hkn5 : (m.ki != 5) = true := by simp [h]
                      have hO : Hid _ := h
                      clear h
                      cases bb
                      · by_cases hh : m.hau = 0 ∧ m.hrd = 0 ∧ m.hbn = 0 ∧ m.hpn = 0
                        · have hH : Hid (m.hau = 0 ∧ m.hrd = 0 ∧ m.hbn = 0 ∧ m.hpn = 0) := hh
                          clear hh
                          go_wp2_with fail
                          refine (headerEmpty_true _ _ _ _ _ _ _ _ _ hH.out).mono ?_
                          rintro e w2 ⟨rfl, hb2⟩
                          have r2 := (hb2.block _ hlt).trans r3
                          have hW2 := hW3.trans (hb2.mono hW3.size)
                          clear c2 c6 c7 c8 c9 c18
                          have c2 : w2.cell? ⟨w.heap.size, 2, none⟩ = some (.int .i64 m.ki) := cells_at r2 2 _ rfl
                          have c18 : w2.cell? ⟨w.heap.size, 18, none⟩ = some (.int .i64 m.ro) := cells_at r2 18 _ rfl
                          cases sb
                          · cases cb
                            · by_cases hr : m.ro = 0
                              · have hrb : (m.ro == 0) = true := by simp [hr]
                                have hrn : (m.ro != 0) = false := by simp [hr]
                                have hR : Hid (m.ro = 0) := hr
                                clear hr
                                go_wp2_with fail
                                go_ret
                                exact ⟨ret_int (hF.out.trans (by simp [hO.out, hH.out, hR.out])).symm, hW2⟩
                              · have hrb : (m.ro == 0) = false := by simpa using hr
                                have hrn : (m.ro != 0) = true := by simp [hr]
                                have hR : Hid (¬ m.ro = 0) := hr
                                clear hr
                                go_wp2_with fail
                                go_ret
                                exact ⟨ret_int (hF.out.trans (by simp [hO.out, hH.out, hR.out])).symm, hW2⟩
                            · go_wp2_with fail
                              go_ret
                              exact ⟨ret_int (hF.out.trans (by simp [hO.out, hH.out])).symm, hW2⟩
                          · cases cb
                            · by_cases hr : m.ro = 0
                              · have hrb : (m.ro == 0) = true := by simp [hr]
                                have hrn : (m.ro != 0) = false := by simp [hr]
                                have hR : Hid (m.ro = 0) := hr
                                clear hr
                                go_wp2_with fail
                                go_ret
                                exact ⟨ret_int (hF.out.trans (by simp [hO.out, hH.out, hR.out])).symm, hW2⟩
                              · have hrb : (m.ro == 0) = false := by simpa using hr
                                have hrn : (m.ro != 0) = true := by simp [hr]
                                have hR : Hid (¬ m.ro = 0) := hr
                                clear hr
                                go_wp2_with fail
                                go_ret
                                exact ⟨ret_int (hF.out.trans (by simp [hO.out, hH.out, hR.out])).symm, hW2⟩
                            · go_wp2_with fail
                              go_ret
                              exact ⟨ret_int (hF.out.trans (by simp [hO.out, hH.out])).symm, hW2⟩
                        · have hH : Hid (¬ (m.hau = 0 ∧ m.hrd = 0 ∧ m.hbn = 0 ∧ m.hpn = 0)) := hh
                          clear hh
                          go_wp2_with fail
                          refine (headerEmpty_false _ _ _ _ _ _ _ _ _ hH.out).mono ?_
                          rintro e w2 ⟨rfl, hb2⟩
                          have r2 := (hb2.block _ hlt).trans r3
                          have hW2 := hW3.trans (hb2.mono hW3.size)
                          clear c2 c6 c7 c8 c9 c18
                          have c2 : w2.cell? ⟨w.heap.size, 2, none⟩ = some (.int .i64 m.ki) := cells_at r2 2 _ rfl
                          have c18 : w2.cell? ⟨w.heap.size, 18, none⟩ = some (.int .i64 m.ro) := cells_at r2 18 _ rfl
                          go_wp2_with fail
                          go_ret
                          exact ⟨ret_int (hF.out.trans (by simp [hO.out, hH.out])).symm, hW2⟩
                      · go_wp2_with fail
                        go_ret
                        exact ⟨ret_int (hF.out.trans (by simp [hO.out])).symm, hW3⟩
                    · have hkb1 : (m.ki == 1) = false := by simp [h]
                      have hkn1 : (m.ki != 1) = true := by simp [h]
                      have hkb2 : (m.ki == 2) = false := by simp [h]
                      have hkn2 : (m.ki != 2) = true := by simp [h]
                      have hkb3 : (m.ki == 3) = false := by simp [h]
                      have hkn3 : (m.ki != 3) = true := by simp [h]
                      have hkb4 : (m.ki == 4) = true := by simp [h]
                      have hkn4 : (m.ki != 4) = false := by simp [h]
                      have hkb5 : (m.ki == 5) = false := by simp [h]
                      have hkn5 : (m.ki != 5) = true := by simp [h]
                      have hO : Hid _ := h
                      clear h
                      cases bb
                      · by_cases hh : m.hau = 0 ∧ m.hrd = 0 ∧ m.hbn = 0 ∧ m.hpn = 0
                        · have hH : Hid (m.hau = 0 ∧ m.hrd = 0 ∧ m.hbn = 0 ∧ m.hpn = 0) := hh
                          clear hh
                          go_wp2_with fail
                          refine (headerEmpty_true _ _ _ _ _ _ _ _ _ hH.out).mono ?_
                          rintro e w2 ⟨rfl, hb2⟩
                          have r2 := (hb2.block _ hlt).trans r3
                          have hW2 := hW3.trans (hb2.mono hW3.size)
                          clear c2 c6 c7 c8 c9 c18
                          have c2 : w2.cell? ⟨w.heap.size, 2, none⟩ = some (.int .i64 m.ki) := cells_at r2 2 _ rfl
                          have c18 : w2.cell? ⟨w.heap.size, 18, none⟩ = some (.int .i64 m.ro) := cells_at r2 18 _ rfl
                          cases sb
                          · cases cb
                            · by_cases hr : m.ro = 0
                              · have hrb : (m.ro == 0) = true := by simp [hr]
                                have hrn : (m.ro != 0) = false := by simp [hr]
                                have hR : Hid (m.ro = 0) := hr
                                clear hr
                                go_wp2_with fail
                                go_ret
                                exact ⟨ret_int (hF.out.trans (by simp [hO.out, hH.out, hR.out])).symm, hW2⟩
                              · have hrb : (m.ro == 0) = false := by simpa using hr
                                have hrn : (m.ro != 0) = true := by simp [hr]
                                have hR : Hid (¬ m.ro = 0) := hr
                                clear hr
                                go_wp2_with fail
                                go_ret
                                exact ⟨ret_int (hF.out.trans (by simp [hO.out, hH.out, hR.out])).symm, hW2⟩
                            · by_cases hr : m.ro = 0
                              · have hrb : (m.ro == 0) = true := by simp [hr]
                                have hrn : (m.ro != 0) = false := by simp [hr]
                                have hR : Hid (m.ro = 0) := hr
                                clear hr
                                go_wp2_with fail
                                go_ret
                                exact ⟨ret_int (hF.out.trans (by simp [hO.out, hH.out, hR.out])).symm, hW2⟩
                              · have hrb : (m.ro == 0) = false := by simpa using hr
                                have hrn : (m.ro != 0) = true := by simp [hr]
                                have hR : Hid (¬ m.ro = 0) := hr
                                clear hr
                                go_wp2_with fail
                                go_ret
                                exact ⟨ret_int (hF.out.trans (by simp [hO.out, hH.out, hR.out])).symm, hW2⟩
                          · go_wp2_with fail
                            go_ret
                            exact ⟨ret_int (hF.out.trans (by simp [hO.out, hH.out])).symm, hW2⟩
                        · have hH : Hid (¬ (m.hau = 0 ∧ m.hrd = 0 ∧ m.hbn = 0 ∧ m.hpn = 0)) := hh
                          clear hh
                          go_wp2_with fail
                          refine (headerEmpty_false _ _ _ _ _ _ _ _ _ hH.out).mono ?_
                          rintro e w2 ⟨rfl, hb2⟩
                          have r2 := (hb2.block _ hlt).trans r3
                          have hW2 := hW3.trans (hb2.mono hW3.size)
                          clear c2 c6 c7 c8 c9 c18
                          have c2 : w2.cell? ⟨w.heap.size, 2, none⟩ = some (.int .i64 m.ki) := cells_at r2 2 _ rfl
                          have c18 : w2.cell? ⟨w.heap.size, 18, none⟩ = some (.int .i64 m.ro) := cells_at r2 18 _ rfl
                          go_wp2_with fail
                          go_ret
                          exact ⟨ret_int (hF.out.trans (by simp [hO.out, hH.out])).symm, hW2⟩
                      · go_wp2_with fail
                        go_ret
                        exact ⟨ret_int (hF.out.trans (by simp [hO.out])).symm, hW3⟩
                    · have hkb1 : (m.ki == 1) = false := by simp [h]
                      have hkn1 : (m.ki != 1) = true := by simp [h]
                      have hkb2 : (m.ki == 2) = false := by simp [h]
                      have hkn2 : (m.ki != 2) = true := by simp [h]
                      have hkb3 : (m.ki == 3) = false := by simp [h]
                      have hkn3 : (m.ki != 3) = true := by simp [h]
                      have hkb4 : (m.ki == 4) = false := by simp [h]
                      have hkn4 : (m.ki != 4) = true := by simp [h]
                      have hkb5 : (m.ki == 5) = true := by simp [h]
                      have hkn5 : (m.ki != 5) = false := by simp [h]
                      have hO : Hid _ := h
                      clear h
                      cases bb
                      · by_cases hh : m.hau = 0 ∧ m.hrd = 0 ∧ m.hbn = 0 ∧ m.hpn = 0
                        · have hH : Hid (m.hau = 0 ∧ m.hrd = 0 ∧ m.hbn = 0 ∧ m.hpn = 0) := hh
                          clear hh
                          go_wp2_with fail
                          refine (headerEmpty_true _ _ _ _ _ _ _ _ _ hH.out).mono ?_
                          rintro e w2 ⟨rfl, hb2⟩
                          have r2 := (hb2.block _ hlt).trans r3
                          have hW2 := hW3.trans (hb2.mono hW3.size)
                          clear c2 c6 c7 c8 c9 c18
                          have c2 : w2.cell? ⟨w.heap.size, 2, none⟩ = some (.int .i64 m.ki) := cells_at r2 2 _ rfl
                          have c18 : w2.cell? ⟨w.heap.size, 18, none⟩ = some (.int .i64 m.ro) := cells_at r2 18 _ rfl
                          cases sb
                          · cases cb
                            · by_cases hr : m.ro = 0
                              · have hrb : (m.ro == 0) = true := by simp [hr]
                                have hrn : (m.ro != 0) = false := by simp [hr]
                                have hR : Hid (m.ro = 0) := hr
                                clear hr
                                go_wp2_with fail
                                go_ret
                                exact ⟨ret_int (hF.out.trans (by simp [hO.out, hH.out])).symm, hW2⟩
                              · have hrb : (m.ro == 0) = false := by simpa using hr
                                have hrn : (m.ro != 0) = true := by simp [hr]
                                have hR : Hid (¬ m.ro = 0) := hr
                                clear hr
                                go_wp2_with fail
                                go_ret
                                exact ⟨ret_int (hF.out.trans (by simp [hO.out, hH.out])).symm, hW2⟩
                            · go_wp2_with fail
                              go_ret
                              exact ⟨ret_int (hF.out.trans (by simp [hO.out, hH.out])).symm, hW2⟩
                          · go_wp2_with fail
                            go_ret
                            exact ⟨ret_int (hF.out.trans (by simp [hO.out, hH.out])).symm, hW2⟩
                        · have hH : Hid (¬ (m.hau = 0 ∧ m.hrd = 0 ∧ m.hbn = 0 ∧ m.hpn = 0)) := hh
                          clear hh
                          go_wp2_with fail
                          refine (headerEmpty_false _ _ _ _ _ _ _ _ _ hH.out).mono ?_
                          rintro e w2 ⟨rfl, hb2⟩
                          have r2 := (hb2.block _ hlt).trans r3
                          have hW2 := hW3.trans (hb2.mono hW3.size)
                          clear c2 c6 c7 c8 c9 c18
                          have c2 : w2.cell? ⟨w.heap.size, 2, none⟩ = some (.int .i64 m.ki) := cells_at r2 2 _ rfl
                          have c18 : w2.cell? ⟨w.heap.size, 18, none⟩ = some (.int .i64 m.ro) := cells_at r2 18 _ rfl
                          go_wp2_with fail
                          go_ret
                          exact ⟨ret_int (hF.out.trans (by simp [hO.out, hH.out])).symm, hW2⟩
                      · go_wp2_with fail
                        go_ret
                        exact ⟨ret_int (hF.out.trans (by simp [hO.out])).symm, hW3⟩
            · have hF : Hid (checkF m (carriedF m ss bl pl cbl cpl vl) = carriedF m ss bl pl cbl cpl vl) := by show _ = _; rw [checkF, if_neg (by omega), if_pos he]
              have heb : (carriedF m ss bl pl cbl cpl vl == 0) = false := by simpa using he
              go_wp2_with fail
              go_ret
              exact ⟨ret_int hF.out.symm, hW⟩
      · have hF : Hid (checkF m (carriedF m ss bl pl cbl cpl vl) = 3) := by
          show _ = _
          have h3 : carriedF m ss bl pl cbl cpl vl = 3 := by rw [carriedF, if_neg (by omega), if_neg (by omega), if_neg (by omega), if_neg (by omega), if_neg (by omega)]
          rw [h3, checkF, if_neg (by omega)]
          simp
        go_enter Try.func21, Try.ntmps21
        go_wp2_with (go_at_call 16; first | (refine (in_true _ _ _ _ (by omega)).mono ?_; rintro e w' ⟨rfl, rfl⟩) | (refine (in_false _ _ _ _ (by omega)).mono ?_; rintro e w' ⟨rfl, rfl⟩))
        go_ret
        exact ⟨ret_int hF.out.symm, hA⟩
    · have hF : Hid (checkF m (carriedF m ss bl pl cbl cpl vl) = 2) := by show _ = _; rw [checkF, if_pos (by omega)]
      go_enter Try.func21, Try.ntmps21
      go_wp2_with (go_at_call 16; first | (refine (in_true _ _ _ _ (by omega)).mono ?_; rintro e w' ⟨rfl, rfl⟩) | (refine (in_false _ _ _ _ (by omega)).mono ?_; rintro e w' ⟨rfl, rfl⟩))
      go_ret
      exact ⟨ret_int hF.out.symm, hA⟩
  · have hF : Hid (checkF m (carriedF m ss bl pl cbl cpl vl) = 2) := by show _ = _; rw [checkF, if_pos (by omega)]
    go_enter Try.func21, Try.ntmps21
    go_wp2_with (go_at_call 16; first | (refine (in_true _ _ _ _ (by omega)).mono ?_; rintro e w' ⟨rfl, rfl⟩) | (refine (in_false _ _ _ _ (by omega)).mono ?_; rintro e w' ⟨rfl, rfl⟩))
    go_ret
    exact ⟨ret_int hF.out.symm, hA⟩
end Go.Proofs.Ythlknldicpeobaa

namespace Go.Proofs.Ythlknldicpeobaa
open Go.RowKit

/-- The result's box, the scan's, the message's. -/
structure MoB (W w : World) (R S M : Nat) (b : List Int) (s : St) (N : Nat) (cs : Array Value) : Prop where
  box : W.heap[M]? = some (.cells cs 35 (0, 0))
  res : W.heap[R]? = some (.cells #[.int .i64 0, .int .i64 0, .int .i64 0, .int .i64 0, .int .i64 0, .slice none 0 0, .int .i64 0, .int .i64 0, .slice none 0 0, .slice none 0 0, .int .i64 0, .int .i64 0, .slice none 0 0, .int .i64 0, .int .i64 0, .slice none 0 0, .slice none 0 0, .slice none 0 0, .int .i64 0] 35 (0, 0))
  sc : ScAt W S b s N
  below : Below w.heap.size w W
  l0 : w.heap.size ≤ R
  l1 : R < S
  l2 : S < M
set_option maxRecDepth 100000 in
theorem MoB.call {W W' w : World} {R S M : Nat} {b : List Int} {s s' : St} {N N' : Nat} {cs : Array Value} (h : MoB W w R S M b s N cs) (ho : Only S W W') (hsc : ScAt W' S b s' N') : MoB W' w R S M b s' N' cs := by
  have h1 := h.l1
  have h2 := h.l2
  have h0 := h.l0
  have hs := h.below.size
  exact ⟨(ho.block _ (lt_of_heap h.box) (by omega)).trans h.box, (ho.block _ (lt_of_heap h.res) (by omega)).trans h.res, hsc, h.below.trans (ho.below (by omega) hs), h.l0, h.l1, h.l2⟩
set_option maxRecDepth 100000 in
theorem MoB.cell {W w : World} {R S M : Nat} {b : List Int} {s : St} {N : Nat} {cs : Array Value} (h : MoB W w R S M b s N cs) (j : Nat) (v : Value) (cs' : Array Value) (hc : cs.setIfInBounds j v = cs') : MoB (W.setCell ⟨M, j, none⟩ v) w R S M b s N cs' := by
  have h1 := h.l1
  have h2 := h.l2
  have h0 := h.l0
  refine ⟨?_, heap_far h.res (by omega), h.sc.stays (fun q hq => heap_setCell_other _ ⟨M, j, none⟩ q _ (by show q ≠ M; omega)), ?_, h.l0, h.l1, h.l2⟩
  · rw [← hc]
    exact heap_setCell_same _ _ j _ _ v h.box
  · exact ⟨h.below.os, h.below.tape, h.below.output, by simpa using h.below.size, fun k hk => (heap_setCell_other _ ⟨M, j, none⟩ k _ (by show k ≠ M; omega)).trans (h.below.block k hk)⟩
set_option maxRecDepth 100000 in
/-- New memory, and a row of one's own that lies behind all of these. -/
theorem MoB.grown {W W' w : World} {R S M : Nat} {b : List Int} {s : St} {N : Nat} {cs : Array Value} {g : Option Nat} (h : MoB W w R S M b s N cs) (hg : W.grownBy W' g) (hn : ∀ q, g = some q → M < q) : MoB W' w R S M b s N cs := by
  have h1 := h.l1
  have h2 := h.l2
  have h0 := h.l0
  have hM := lt_of_heap h.box
  have key : ∀ q, q ≤ M → W'.heap[q]? = W.heap[q]? := fun q hq => hg.block q (by omega) (fun e => by have := hn q e.symm; omega)
  exact ⟨(key M (by omega)).trans h.box, (key R (by omega)).trans h.res, h.sc.stays (fun q hq => key q (by omega)), ⟨hg.os.trans h.below.os, hg.tape.trans h.below.tape, hg.output.trans h.below.output, Nat.le_trans h.below.size hg.size, fun k hk => (key k (by omega)).trans (h.below.block k hk)⟩, h.l0, h.l1, h.l2⟩
set_option maxRecDepth 100000 in
theorem MoB.belowW {W W' w : World} {R S M : Nat} {b : List Int} {s : St} {N : Nat} {cs : Array Value} (h : MoB W w R S M b s N cs) (hb : Below W.heap.size W W') : MoB W' w R S M b s N cs :=
  ⟨(hb.block _ (lt_of_heap h.box)).trans h.box, (hb.block _ (lt_of_heap h.res)).trans h.res, h.sc.below hb, h.below.trans (hb.mono h.below.size), h.l0, h.l1, h.l2⟩
set_option maxRecDepth 100000 in
theorem strs_nil (w : World) : StrsAt w none [] := ⟨.inl rfl, fun s hs => by cases hs⟩
set_option maxRecDepth 100000 in
theorem ints_nil (w : World) : IntsAt w none [] := ⟨.inl rfl⟩
set_option maxRecDepth 100000 in
theorem MoB.st {W w : World} {R S M : Nat} {b : List Int} {s : St} {N N' : Nat} {cs : Array Value} (h : MoB W w R S M b s N cs) (hN : N ≤ N') : MoB W w R S M b s N' cs := ⟨h.box, h.res, h.sc.mono hN, h.below, h.l0, h.l1, h.l2⟩
set_option maxRecDepth 100000 in
theorem has_fresh {B M : Nat} {ra : Option Addr} {qs : List Part} (h : Fresh B ra qs) (hB : M < B) : HasL (fun q => M < q) ra qs := ⟨fun sb so e _ => by have := h.row sb so e; omega, fun p hp sb so e _ => by have := h.each p hp sb so e; omega⟩
set_option maxRecDepth 100000 in
theorem has_nil {M : Nat} : HasL (fun q => M < q) none [] := ⟨fun sb so e => (by cases e), fun p hp => (by cases hp)⟩
set_option maxRecDepth 100000 in
theorem MoB.beyond {W w : World} {R S M : Nat} {b : List Int} {s t : St} {N : Nat} {cs : Array Value} (h : MoB W w R S M b s N cs) (h1 : s.2 = true) (h2 : t.2 = true) : MoB W w R S M b t N cs := ⟨h.box, h.res, h.sc.beyond h1 h2, h.below, h.l0, h.l1, h.l2⟩
set_option maxRecDepth 100000 in
theorem MoB.within {W w : World} {R S M : Nat} {b : List Int} {s : St} {N : Nat} {cs : Array Value} (h : MoB W w R S M b s N cs) (h1 : s.2 = false) : MoB W w R S M b s b.length cs := ⟨h.box, h.res, h.sc.within h1, h.below, h.l0, h.l1, h.l2⟩
set_option maxRecDepth 100000 in
theorem list_call {S M : Nat} {W W' : World} {ra : Option Addr} {rc : Nat} {qs : List Part} (h : ListAt W ra rc qs) (hG : HasL (fun q => M < q) ra qs) (ho : Only S W W') (hS : S < M) : ListAt W' ra rc qs :=
  list_stays (G := fun q => M < q ∧ q < W.heap.size) (fun k hk => ho.block k hk.2 (by omega)) h (hG.lt h)
set_option maxRecDepth 100000 in
theorem list_keep5 {B M : Nat} {W W' : World} {ra : Option Addr} {rc : Nat} {qs : List Part} (h : ListAt W ra rc qs) (hG : HasL (fun q => M < q ∧ q < B) ra qs) (hk : ∀ q, M < q → q < B → W'.heap[q]? = W.heap[q]?) : ListAt W' ra rc qs :=
  list_stays (G := fun q => M < q ∧ q < B) (fun q hq => hk q hq.1 hq.2) h hG
/-- What the switch has made: a message, if it is not beyond the end. -/
structure MoX (W w : World) (R S M : Nat) (b : List Int) (N : Nat) : Prop where
  out : ∃ x : MV, MoB W w R S M b (mS (b, false)) N #[.int .i64 x.m.fr, .int .i64 x.m.tt, .int .i64 x.m.ki, .int .i64 x.m.bau, .int .i64 x.m.bnu, .slice x.m.bta x.m.btn x.m.btc, .int .i64 x.m.hau, .int .i64 x.m.hrd, .slice x.m.hba x.m.hbn x.m.hbc, .slice x.m.hpa x.m.hpn x.m.hpc, .int .i64 x.m.sau, .int .i64 x.m.srd, .slice x.m.sda x.m.sdn x.m.sdc, .int .i64 x.m.cau, .int .i64 x.m.crd, .slice x.m.cba x.m.cbn x.m.cbc, .slice x.m.cpa x.m.cpn x.m.cpc, .slice x.m.cva x.m.cvn x.m.cvc, .int .i64 x.m.ro] ∧ MAt W x ∧ HasM (fun q => M < q) x ∧ ((mS (b, false)).2 = false → x.c = pM (b, false))
set_option maxRecDepth 100000 in
/-- How the loops go: beyond stays beyond. -/
theorem bL_over {s : St} {i n : Nat} (h : i ≤ n) (hf : (bL s n).2 = false) : (bL s i).2 = false := by
  induction n with
  | zero => obtain rfl : i = 0 := by omega
            exact hf
  | succ n ih =>
    rcases Nat.lt_or_ge i (n + 1) with g | g
    · exact ih (by omega) (nx_over (nx_over hf))
    · obtain rfl : i = n + 1 := by omega
      exact hf
set_option maxRecDepth 100000 in
theorem nL_over {s : St} {i n : Nat} (h : i ≤ n) (hf : (nL s n).2 = false) : (nL s i).2 = false := by
  induction n with
  | zero => obtain rfl : i = 0 := by omega
            exact hf
  | succ n ih =>
    rcases Nat.lt_or_ge i (n + 1) with g | g
    · exact ih (by omega) (nx_over hf)
    · obtain rfl : i = n + 1 := by omega
      exact hf
end Go.Proofs.Ythlknldicpeobaa

namespace Go.Proofs.Ythlknldicpeobaa
open Go.RowKit

set_option maxRecDepth 100000 in
set_option maxHeartbeats 8000000 in
theorem mof_1 (bs : List Int) (sb so cap : Nat) (w : World) (hs : SliceAt w (some ⟨sb, so, none⟩) cap bs) (hu : U8s bs) (hl : bs.length ≤ 4000) (hpos : 0 < bs.length) (hk : bs.getD 0 0 = 1) :
    Calls Try.prog 7 #[.slice (some ⟨sb, so, none⟩) bs.length cap] w fun e w' => DecIs w w' e bs := by
  have hne : bs ≠ [] := by intro h; rw [h] at hpos; simp at hpos
  have hK0 : nB 1 (bs, false) = 1 := by rw [nB1_first hne, hk]
  have HRF : Hid (readF bs = if (mS (bs, false)).2 = true then 5 else if (mS (bs, false)).1 ≠ [] then 4 else 0) := by
    show _ = _
    rw [readF, if_neg (by omega), if_neg hne, hk, if_neg (by decide)]
  have HMS : Hid (mS (bs, false) = bL (nx 1 (nx 3 (nx 1 (nx 1 (nx 1 (nx 1 (bs, false))))))) (bN (nx 1 (nx 1 (nx 1 (bs, false)))))) := by
    show _ = _
    rw [mS, hK0]; rfl
  have HPM : Hid (pM (bs, false) = ⟨nB 1 (nx 1 (bs, false)), nB 1 (nx 1 (nx 1 (bs, false))), nB 1 (bs, false), nB 1 (nx 1 (nx 1 (nx 1 (bs, false)))), nB 3 (nx 1 (nx 1 (nx 1 (nx 1 (bs, false))))), bT (nx 1 (nx 3 (nx 1 (nx 1 (nx 1 (nx 1 (bs, false))))))) (bN (nx 1 (nx 1 (nx 1 (bs, false))))), 0, 0, [], [], 0, 0, [], 0, 0, [], [], [], 0⟩) := by
    show _ = _
    rw [pM, hK0]; rfl
  have HN1 : Hid ((nx 1 (bs, false)).2 = false) := (tk_ok (n := 1) (l := bs) (by omega)).2.2
  have HK0 : Hid (nB 1 (bs, false) = 1) := hK0
  have c0 : w.cell? ⟨sb, so, none⟩ = some (.int .u8 1) := by
    rcases hs.bytes with h | ⟨sb', so', e, h⟩
    · rw [h] at hpos; simp at hpos
    · cases e
      have := h 0 hpos
      rw [hk] at this
      simpa using this
  have hlI : ¬ (4000 : Int) < bs.length := by omega
  have hpI : ((bs.length : Int) == 0) = false := by rw [beq_eq_false_iff_ne]; omega
  have hpJ : (0 : Int) < bs.length := by omega
  have hblt : sb < w.heap.size := block_lt_of_cell c0
  clear hk hK0 hne
  go_enter Try.func7, Try.ntmps7
  go_upto_region 8 with (first
    | (go_at_call 16; refine (in_true _ _ _ _ (by decide)).mono ?_; rintro e w9 ⟨rfl, rfl⟩))
  have hA1 : Below w.heap.size w ((w.alloc (.cells #[.int .i64 0, .int .i64 0, .int .i64 0, .int .i64 0, .int .i64 0, .slice none 0 0, .int .i64 0, .int .i64 0, .slice none 0 0, .slice none 0 0, .int .i64 0, .int .i64 0, .slice none 0 0, .int .i64 0, .int .i64 0, .slice none 0 0, .slice none 0 0, .slice none 0 0, .int .i64 0] 35)).alloc (.cells #[.slice (some ⟨sb, so, none⟩) bs.length cap, .int .i64 0] 55)) := ((Below.refl _ _).alloc (Nat.le_refl _) _).alloc (by simp) _
  have qR := heap_alloc2_old w (.cells #[.int .i64 0, .int .i64 0, .int .i64 0, .int .i64 0, .int .i64 0, .slice none 0 0, .int .i64 0, .int .i64 0, .slice none 0 0, .slice none 0 0, .int .i64 0, .int .i64 0, .slice none 0 0, .int .i64 0, .int .i64 0, .slice none 0 0, .slice none 0 0, .slice none 0 0, .int .i64 0] 35) (.cells #[.slice (some ⟨sb, so, none⟩) bs.length cap, .int .i64 0] 55)
  have qS := heap_alloc2_new w (.cells #[.int .i64 0, .int .i64 0, .int .i64 0, .int .i64 0, .int .i64 0, .slice none 0 0, .int .i64 0, .int .i64 0, .slice none 0 0, .slice none 0 0, .int .i64 0, .int .i64 0, .slice none 0 0, .int .i64 0, .int .i64 0, .slice none 0 0, .slice none 0 0, .slice none 0 0, .int .i64 0] 35) (.cells #[.slice (some ⟨sb, so, none⟩) bs.length cap, .int .i64 0] 55)
  have hz1 : ((w.alloc (.cells #[.int .i64 0, .int .i64 0, .int .i64 0, .int .i64 0, .int .i64 0, .slice none 0 0, .int .i64 0, .int .i64 0, .slice none 0 0, .slice none 0 0, .int .i64 0, .int .i64 0, .slice none 0 0, .int .i64 0, .int .i64 0, .slice none 0 0, .slice none 0 0, .slice none 0 0, .int .i64 0] 35)).alloc (.cells #[.slice (some ⟨sb, so, none⟩) bs.length cap, .int .i64 0] 55)).heap.size = w.heap.size + 2 := by simp
  generalize (w.alloc (.cells #[.int .i64 0, .int .i64 0, .int .i64 0, .int .i64 0, .int .i64 0, .slice none 0 0, .int .i64 0, .int .i64 0, .slice none 0 0, .slice none 0 0, .int .i64 0, .int .i64 0, .slice none 0 0, .int .i64 0, .int .i64 0, .slice none 0 0, .slice none 0 0, .slice none 0 0, .int .i64 0] 35)).alloc (.cells #[.slice (some ⟨sb, so, none⟩) bs.length cap, .int .i64 0] 55) = W1 at hA1 qR qS hz1 ⊢
  have hSc1 : ScAt W1 (w.heap.size + 1) bs (bs, false) 0 := ⟨_, _, 0, qS, hs.below hA1, (fun sb' so' e => by cases e; omega), Nat.le_refl _, (fun _ => ⟨Nat.zero_le _, rfl⟩), (fun h => by cases h)⟩
  have qz : (W1.alloc (.cells #[.int .i64 0, .int .i64 0, .int .i64 0, .int .i64 0, .int .i64 0, .slice none 0 0, .int .i64 0, .int .i64 0, .slice none 0 0, .slice none 0 0, .int .i64 0, .int .i64 0, .slice none 0 0, .int .i64 0, .int .i64 0, .slice none 0 0, .slice none 0 0, .slice none 0 0, .int .i64 0] 35)).heap[w.heap.size + 2]? = some (.cells #[.int .i64 0, .int .i64 0, .int .i64 0, .int .i64 0, .int .i64 0, .slice none 0 0, .int .i64 0, .int .i64 0, .slice none 0 0, .slice none 0 0, .int .i64 0, .int .i64 0, .slice none 0 0, .int .i64 0, .int .i64 0, .slice none 0 0, .slice none 0 0, .slice none 0 0, .int .i64 0] 35 (0, 0)) := by rw [← hz1]; exact heap_alloc_new W1 (.cells #[.int .i64 0, .int .i64 0, .int .i64 0, .int .i64 0, .int .i64 0, .slice none 0 0, .int .i64 0, .int .i64 0, .slice none 0 0, .slice none 0 0, .int .i64 0, .int .i64 0, .slice none 0 0, .int .i64 0, .int .i64 0, .slice none 0 0, .slice none 0 0, .slice none 0 0, .int .i64 0] 35)
  have hM0 : MoB ((W1.alloc (.cells #[.int .i64 0, .int .i64 0, .int .i64 0, .int .i64 0, .int .i64 0, .slice none 0 0, .int .i64 0, .int .i64 0, .slice none 0 0, .slice none 0 0, .int .i64 0, .int .i64 0, .slice none 0 0, .int .i64 0, .int .i64 0, .slice none 0 0, .slice none 0 0, .slice none 0 0, .int .i64 0] 35)).setRow (w.heap.size + 2) #[.int .i64 0, .int .i64 0, .int .i64 0, .int .i64 0, .int .i64 0, .slice none 0 0, .int .i64 0, .int .i64 0, .slice none 0 0, .slice none 0 0, .int .i64 0, .int .i64 0, .slice none 0 0, .int .i64 0, .int .i64 0, .slice none 0 0, .slice none 0 0, .slice none 0 0, .int .i64 0]) w w.heap.size (w.heap.size + 1) (w.heap.size + 2) bs (bs, false) 0 #[.int .i64 0, .int .i64 0, .int .i64 0, .int .i64 0, .int .i64 0, .slice none 0 0, .int .i64 0, .int .i64 0, .slice none 0 0, .slice none 0 0, .int .i64 0, .int .i64 0, .slice none 0 0, .int .i64 0, .int .i64 0, .slice none 0 0, .slice none 0 0, .slice none 0 0, .int .i64 0] := by
    have hb : Below W1.heap.size W1 ((W1.alloc (.cells #[.int .i64 0, .int .i64 0, .int .i64 0, .int .i64 0, .int .i64 0, .slice none 0 0, .int .i64 0, .int .i64 0, .slice none 0 0, .slice none 0 0, .int .i64 0, .int .i64 0, .slice none 0 0, .int .i64 0, .int .i64 0, .slice none 0 0, .slice none 0 0, .slice none 0 0, .int .i64 0] 35)).setRow (w.heap.size + 2) #[.int .i64 0, .int .i64 0, .int .i64 0, .int .i64 0, .int .i64 0, .slice none 0 0, .int .i64 0, .int .i64 0, .slice none 0 0, .slice none 0 0, .int .i64 0, .int .i64 0, .slice none 0 0, .int .i64 0, .int .i64 0, .slice none 0 0, .slice none 0 0, .slice none 0 0, .int .i64 0]) := ⟨rfl, rfl, rfl, by simp [World.setRow], fun k hk => (setRow_other _ _ _ _ (by omega)).trans (Below.heap_alloc _ _ _ hk)⟩
    exact ⟨setRow_heap _ _ _ _ _ _ qz, (hb.block _ (by omega)).trans qR, hSc1.below hb, hA1.trans (hb.mono (by omega)), Nat.le_refl _, by omega, by omega⟩
  go_upto_region 9 with (refine wpList_store_row rfl 35 _ _ rfl (w.heap.size + 2) #[.int .i64 0, .int .i64 0, .int .i64 0, .int .i64 0, .int .i64 0, .slice none 0 0, .int .i64 0, .int .i64 0, .slice none 0 0, .slice none 0 0, .int .i64 0, .int .i64 0, .slice none 0 0, .int .i64 0, .int .i64 0, .slice none 0 0, .slice none 0 0, .slice none 0 0, .int .i64 0] rfl rfl 35 _ qz sMsg' rfl (by simp [Value.oneCell']) ?_)
  generalize (W1.alloc (.cells #[.int .i64 0, .int .i64 0, .int .i64 0, .int .i64 0, .int .i64 0, .slice none 0 0, .int .i64 0, .int .i64 0, .slice none 0 0, .slice none 0 0, .int .i64 0, .int .i64 0, .slice none 0 0, .int .i64 0, .int .i64 0, .slice none 0 0, .slice none 0 0, .slice none 0 0, .int .i64 0] 35)).setRow (w.heap.size + 2) #[.int .i64 0, .int .i64 0, .int .i64 0, .int .i64 0, .int .i64 0, .slice none 0 0, .int .i64 0, .int .i64 0, .slice none 0 0, .slice none 0 0, .int .i64 0, .int .i64 0, .slice none 0 0, .int .i64 0, .int .i64 0, .slice none 0 0, .slice none 0 0, .slice none 0 0, .int .i64 0] = V0 at hM0 ⊢
  clear qz qR qS hSc1 hA1 hz1 c0 hblt hpI hs
  generalize hMM : w.heap.size + 2 = M at hM0 ⊢
  generalize hSS : w.heap.size + 1 = S at hM0 ⊢
  clear hMM hSS
  go_wp2_with fail
  refine (num_sc S 1 bs (bs, false) _ V0 hM0.sc hu (by omega) (by omega)).mono ?_
  intro e w1 h1
  obtain ⟨ki, he, ki0, ki1, ki2, kig, hSc, ho1⟩ := h1.out
  subst he
  dsimp only
  clear h1
  have hC1 := hM0.call ho1 hSc
  have dj := cells_at hC1.box 2 _ rfl
  have fj := frozen_at hC1.box 2
  have hM1 := hC1.cell 2 (.int .i64 ki) #[.int .i64 0, .int .i64 0, .int .i64 ki, .int .i64 0, .int .i64 0, .slice none 0 0, .int .i64 0, .int .i64 0, .slice none 0 0, .slice none 0 0, .int .i64 0, .int .i64 0, .slice none 0 0, .int .i64 0, .int .i64 0, .slice none 0 0, .slice none 0 0, .slice none 0 0, .int .i64 0] rfl
  go_upto_region 10 with fail
  generalize w1.setCell ⟨M, 2, none⟩ (.int .i64 ki) = V1 at hM1 ⊢
  clear dj fj hC1 hSc ho1 hM0
  go_wp2_with fail
  refine (num_sc S 1 bs (nx 1 (bs, false)) _ V1 hM1.sc hu (by omega) (by omega)).mono ?_
  intro e w2 h1
  obtain ⟨fr, he, fr0, fr1, fr2, frg, hSc, ho1⟩ := h1.out
  subst he
  dsimp only
  clear h1
  have hC2 := hM1.call ho1 hSc
  have dj := cells_at hC2.box 0 _ rfl
  have fj := frozen_at hC2.box 0
  have hM2 := hC2.cell 0 (.int .i64 fr) #[.int .i64 fr, .int .i64 0, .int .i64 ki, .int .i64 0, .int .i64 0, .slice none 0 0, .int .i64 0, .int .i64 0, .slice none 0 0, .slice none 0 0, .int .i64 0, .int .i64 0, .slice none 0 0, .int .i64 0, .int .i64 0, .slice none 0 0, .slice none 0 0, .slice none 0 0, .int .i64 0] rfl
  go_upto_region 11 with fail
  generalize w2.setCell ⟨M, 0, none⟩ (.int .i64 fr) = V2 at hM2 ⊢
  clear dj fj hC2 hSc ho1 hM1
  go_wp2_with fail
  refine (num_sc S 1 bs (nx 1 (nx 1 (bs, false))) _ V2 hM2.sc hu (by omega) (by omega)).mono ?_
  intro e w3 h1
  obtain ⟨tt, he, tt0, tt1, tt2, ttg, hSc, ho1⟩ := h1.out
  subst he
  dsimp only
  clear h1
  have hC3 := hM2.call ho1 hSc
  have dj := cells_at hC3.box 1 _ rfl
  have fj := frozen_at hC3.box 1
  have hM3 := hC3.cell 1 (.int .i64 tt) #[.int .i64 fr, .int .i64 tt, .int .i64 ki, .int .i64 0, .int .i64 0, .slice none 0 0, .int .i64 0, .int .i64 0, .slice none 0 0, .slice none 0 0, .int .i64 0, .int .i64 0, .slice none 0 0, .int .i64 0, .int .i64 0, .slice none 0 0, .slice none 0 0, .slice none 0 0, .int .i64 0] rfl
  go_upto_region 12 with fail
  generalize w3.setCell ⟨M, 1, none⟩ (.int .i64 tt) = V3 at hM3 ⊢
  clear dj fj hC3 hSc ho1 hM2
  have hki : ki = 1 := (kig HN1.out).trans HK0.out
  subst hki
  have dk := cells_at hM3.box 2 _ rfl
  go_wp2_with fail
  refine (num_sc S 1 bs (nx 1 (nx 1 (nx 1 (bs, false)))) _ V3 hM3.sc hu (by omega) (by omega)).mono ?_
  intro e w4 h1
  obtain ⟨au, he, au0, au1, au2, aug, hSc, ho1⟩ := h1.out
  subst he
  dsimp only
  clear h1
  have hC4 := hM3.call ho1 hSc
  have dj := cells_at hC4.box 3 _ rfl
  have fj := frozen_at hC4.box 3
  have hM4 := hC4.cell 3 (.int .i64 au) #[.int .i64 fr, .int .i64 tt, .int .i64 1, .int .i64 au, .int .i64 0, .slice none 0 0, .int .i64 0, .int .i64 0, .slice none 0 0, .slice none 0 0, .int .i64 0, .int .i64 0, .slice none 0 0, .int .i64 0, .int .i64 0, .slice none 0 0, .slice none 0 0, .slice none 0 0, .int .i64 0] rfl
  go_upto_region 15 with fail
  generalize w4.setCell ⟨M, 3, none⟩ (.int .i64 au) = V4 at hM4 ⊢
  clear dj fj hC4 hSc ho1 hM3
  go_wp2_with fail
  refine (num_sc S 3 bs (nx 1 (nx 1 (nx 1 (nx 1 (bs, false))))) _ V4 hM4.sc hu (by omega) (by omega)).mono ?_
  intro e w5 h1
  obtain ⟨rd, he, rd0, rd1, rd2, rdg, hSc, ho1⟩ := h1.out
  subst he
  dsimp only
  clear h1
  have hC5 := hM4.call ho1 hSc
  have dj := cells_at hC5.box 4 _ rfl
  have fj := frozen_at hC5.box 4
  have hM5 := hC5.cell 4 (.int .i64 rd) #[.int .i64 fr, .int .i64 tt, .int .i64 1, .int .i64 au, .int .i64 rd, .slice none 0 0, .int .i64 0, .int .i64 0, .slice none 0 0, .slice none 0 0, .int .i64 0, .int .i64 0, .slice none 0 0, .int .i64 0, .int .i64 0, .slice none 0 0, .slice none 0 0, .slice none 0 0, .int .i64 0] rfl
  go_upto_region 16 with fail
  generalize w5.setCell ⟨M, 4, none⟩ (.int .i64 rd) = V5 at hM5 ⊢
  clear dj fj hC5 hSc ho1 hM4
  generalize hV5 : V5 = V4 at hM5 ⊢
  have hM4 := hM5
  clear hM5 hV5
  obtain ⟨i, hi, hz0, hz1, hz2⟩ := info_parts infoStr
  go_wp2_with fail
  refine (num_sc S 1 bs (nx 3 (nx 1 (nx 1 (nx 1 (nx 1 (bs, false)))))) _ V4 hM4.sc hu (by omega) (by omega)).mono ?_
  intro e w5 h1
  obtain ⟨n, he, n0, -, n2, ng, hSc, ho1⟩ := h1.out
  subst he
  dsimp only
  clear h1
  obtain ⟨V, rfl⟩ : ∃ V : Nat, n = V := ⟨n.toNat, by omega⟩
  have hV : V ≤ 255 := by have := n2 rfl; omega
  have hM5 := (hM4.call ho1 hSc).st (N' := 20000) (by omega)
  have lM5 : M < w5.heap.size := lt_of_heap hM5.box
  have HNV : Hid ((nx 1 (nx 3 (nx 1 (nx 1 (nx 1 (nx 1 (bs, false))))))).2 = false → V = bN (nx 1 (nx 1 (nx 1 (bs, false))))) := by
    show _ → _
    intro h9
    rw [show bN (nx 1 (nx 1 (nx 1 (bs, false)))) = (nB 1 (nx 3 (nx 1 (nx 1 (nx 1 (nx 1 (bs, false))))))).toNat from rfl, ← ng h9]
    rfl
  have HO5 : Hid ((nx 1 (nx 3 (nx 1 (nx 1 (nx 1 (nx 1 (bs, false))))))).2 = false → (nx 3 (nx 1 (nx 1 (nx 1 (nx 1 (bs, false)))))).2 = false) := by
    show _ → _
    exact fun h => nx_over h
  clear n0 n2 ng hSc ho1 hM4 dk
  generalize nx 1 (nx 3 (nx 1 (nx 1 (nx 1 (nx 1 (bs, false)))))) = s5 at *
  go_wp2_with fail
  go_loopw [7] (fun j wr => ∃ (k : Nat) (v : Value) (vs : List ByteArray), k ≤ V ∧ j = .int .i64 k ∧ MoB wr w w.heap.size S M bs (bL s5 k) 20000 #[.int .i64 fr, .int .i64 tt, .int .i64 1, .int .i64 au, .int .i64 rd, v, .int .i64 0, .int .i64 0, .slice none 0 0, .slice none 0 0, .int .i64 0, .int .i64 0, .slice none 0 0, .int .i64 0, .int .i64 0, .slice none 0 0, .slice none 0 0, .slice none 0 0, .int .i64 0] ∧ w5.heap.size ≤ wr.heap.size ∧ wr.ownsRow w5.heap.size 9 1 v k (sv vs) ∧ Hid ((bL s5 k).2 = false → vs = bT s5 k) ∧ (∀ s ∈ vs, s.size ≤ maxLen)) (fun j _ => V - (intOf j).toNat)
  case atStart => exact ⟨0, .slice none 0 0, [], Nat.zero_le _, rfl, hM5, Nat.le_refl _, World.ownsRow_nil _ _ _ _, (show _ → _ from fun _ => rfl), (fun s hs => by cases hs)⟩
  case round =>
    clear hM5
    obtain ⟨k, v, vs, hk, rfl, hM, hsz, ho, hq, hzs⟩ := hrel
    have lS : S < M := hM.l2
    have lM : M < wr.heap.size := lt_of_heap hM.box
    obtain ⟨va, vc, hve⟩ := owns_shape ho
    subst hve
    by_cases hltk : k < V
    · have hltI : (k : Int) < V := by omega
      go_wp2_with fail
      refine (over_sc S bs _ _ wr hM.sc).mono ?_
      rintro e w2 ⟨he, hb2⟩
      subst he
      dsimp only
      have hM2 := hM.belowW hb2
      have ho2 := owns_keep ho hb2
      clear hM ho
      cases hov : (bL s5 k).2 with
      | true =>
        have HOV : Hid ((mS (bs, false)).2 = true) := by
          show _ = _
          rw [HMS.out]
          cases h9 : s5.2 with
          | false =>
            have h8 := HNV.out h9
            cases h7 : (bL s5 (bN (nx 1 (nx 1 (nx 1 (bs, false)))))).2 with
            | true => rfl
            | false =>
              have h6 := bL_over (i := k) (n := bN (nx 1 (nx 1 (nx 1 (bs, false))))) (by omega) h7
              rw [h6] at hov
              cases hov
          | true =>
            cases h7 : (bL s5 (bN (nx 1 (nx 1 (nx 1 (bs, false)))))).2 with
            | true => rfl
            | false =>
              have h6 := bL_over (i := 0) (n := bN (nx 1 (nx 1 (nx 1 (bs, false))))) (Nat.zero_le _) h7
              have h5 : s5.2 = false := h6
              rw [h9] at h5
              cases h5
        have hX : Hid (MoX w2 w w.heap.size S M bs 20000) := by
          obtain ⟨za, zc, hv, hl, hI, hf⟩ := strsAt_of_owns ho2 hzs
          cases hv
          refine ⟨⟨{ fr := fr, tt := tt, ki := 1, bau := au, bnu := rd, bta := va, btn := vs.length, btc := vc, hau := 0, hrd := 0, hba := none, hbn := 0, hbc := 0, hpa := none, hpn := 0, hpc := 0, sau := 0, srd := 0, sda := none, sdn := 0, sdc := 0, cau := 0, crd := 0, cba := none, cbn := 0, cbc := 0, cpa := none, cpn := 0, cpc := 0, cva := none, cvn := 0, cvc := 0, ro := 0 }, vs, [], [], [], [], [], []⟩, ?_, ?_, ?_, ?_⟩
          · rw [← hl]; exact hM2.beyond hov HOV.out
          · exact ⟨⟨rfl, rfl, rfl, rfl, rfl, rfl, (by show vs.length ≤ _; omega), Nat.zero_le _, Nat.zero_le _, hI, list_nilM _, list_nilM _, list_nilM _, list_nilM _, ints_nil _⟩, nilM _, rfl⟩
          · exact ⟨(fun sb so e _ => by have := hf sb so e; omega), has_nil, has_nil, (fun sb so e => by cases e), has_nil, has_nil, (fun sb so e => by cases e)⟩
          · intro h9
            rw [HOV.out] at h9
            cases h9
        clear hM2 ho2 hov
        go_upto_region 39 with fail
        generalize w2 = VX at hX ⊢
        obtain ⟨x, hM, hA, hH, hC⟩ := hX.out.out
        clear hX
        go_wp2_with fail
        refine (over_sc S bs _ _ VX hM.sc).mono ?_
        rintro e w1 ⟨he, hb1⟩
        subst he
        dsimp only
        have hB := hM.belowW hb1
        have hA1 := hA.below hb1
        have HH : Hid (HasM (fun q => M < q) x) := hH
        have l1 := hB.l1
        have l2 := hB.l2
        have lM : M < w1.heap.size := lt_of_heap hB.box
        clear hM hA hH hb1
        obtain ⟨ba, bc, a, qS, hbS, hneS, haN, h5, h6⟩ := hB.sc.out
        generalize mS (bs, false) = ms at *
        obtain ⟨ml, msh⟩ := ms
        dsimp only at *
        cases msh with
        | true =>
          have hF : Hid (readF bs = 5) := by show _ = _; rw [HRF.out, if_pos rfl]
          clear h5 h6 hC
          go_wp2_with (refine wpList_store_row rfl 35 _ _ rfl w.heap.size #[.int .i64 0, .int .i64 0, .int .i64 0, .int .i64 0, .int .i64 0, .slice none 0 0, .int .i64 0, .int .i64 0, .slice none 0 0, .slice none 0 0, .int .i64 0, .int .i64 0, .slice none 0 0, .int .i64 0, .int .i64 0, .slice none 0 0, .slice none 0 0, .slice none 0 0, .int .i64 0] rfl rfl 35 _ hB.res sMsg' rfl (by simp [Value.oneCell']) ?_)
          have hFc := hF.out
          refine bodyPost_ret (v := .tuple #[.agg #[.int .i64 0, .int .i64 0, .int .i64 0, .int .i64 0, .int .i64 0, .slice none 0 0, .int .i64 0, .int .i64 0, .slice none 0 0, .slice none 0 0, .int .i64 0, .int .i64 0, .slice none 0 0, .int .i64 0, .int .i64 0, .slice none 0 0, .slice none 0 0, .slice none 0 0, .int .i64 0], .int .i64 5]) (results_cell_slot (fn := Try.f7) (p := 2) (q := 3) (ty := 35) rfl _ _ w.heap.size 35 _ (0, 0) _ (.int .i64 5) ⟨rfl, rfl⟩ (setRow_heap _ _ _ _ _ _ hB.res) Try.underlying35 rfl sMsg') rfl ⟨.inl ⟨by rw [hFc]; decide, by rw [hFc]⟩, (Upd.setRow hB.res).below hB.below hB.below.size (Nat.le_refl _)⟩
        | false =>
          obtain ⟨h51, h52⟩ := h5 rfl
          have HCX : Hid (x.c = pM (bs, false)) := hC rfl
          clear h5 h6 hC
          have s1 : w1.cell? ⟨S, 1, none⟩ = some (.int .i64 (a : Int)) := cells_at qS 1 _ rfl
          by_cases hml : a = bs.length
          · have hF : Hid (readF bs = 0) := by
              show _ = _
              rw [HRF.out, if_neg (by decide), if_neg (fun h => h (by rw [h52, hml]; simp))]
            have haI : ¬ (a : Int) < bs.length := by omega
            clear hml h51 h52 HRF
            have hB2 : Below w1.heap.size w1 w1.drew := (Below.refl _ _).drew
            go_upto_region 43 with fail
            have HF9 := messageFault_any x.m x.ss x.bl x.pl x.cbl x.cpl x.vl w1 hA1.at'
            go_wp2_with (refine wpList_load_row rfl 35 _ rfl M rfl 35 #[.int .i64 x.m.fr, .int .i64 x.m.tt, .int .i64 x.m.ki, .int .i64 x.m.bau, .int .i64 x.m.bnu, .slice x.m.bta x.m.btn x.m.btc, .int .i64 x.m.hau, .int .i64 x.m.hrd, .slice x.m.hba x.m.hbn x.m.hbc, .slice x.m.hpa x.m.hpn x.m.hpc, .int .i64 x.m.sau, .int .i64 x.m.srd, .slice x.m.sda x.m.sdn x.m.sdc, .int .i64 x.m.cau, .int .i64 x.m.crd, .slice x.m.cba x.m.cbn x.m.cbc, .slice x.m.cpa x.m.cpn x.m.cpc, .slice x.m.cva x.m.cvn x.m.cvc, .int .i64 x.m.ro] (0, 0) _ hB.box Try.underlying35 rfl sMsg' ?_)
            refine HF9.mono ?_
            rintro e w2 ⟨he, hb2⟩
            subst he
            dsimp only
            clear HF9 s1
            have hD := hB.belowW hb2
            have hA2 : Hid (MAt w2 x) := hA1.below hb2
            have HCR : Hid (carriedF x.m x.ss x.bl x.pl x.cbl x.cpl x.vl = x.car) := rfl
            generalize hCk : checkF x.m (carriedF x.m x.ss x.bl x.pl x.cbl x.cpl x.vl) = C at *
            have HCK : Hid (checkF x.m x.car = C) := hCk
            clear hCk
            by_cases hc0 : C = 0
            · subst hc0
              go_wp2_with (first | refine wpList_load_row rfl 35 _ rfl M rfl 35 #[.int .i64 x.m.fr, .int .i64 x.m.tt, .int .i64 x.m.ki, .int .i64 x.m.bau, .int .i64 x.m.bnu, .slice x.m.bta x.m.btn x.m.btc, .int .i64 x.m.hau, .int .i64 x.m.hrd, .slice x.m.hba x.m.hbn x.m.hbc, .slice x.m.hpa x.m.hpn x.m.hpc, .int .i64 x.m.sau, .int .i64 x.m.srd, .slice x.m.sda x.m.sdn x.m.sdc, .int .i64 x.m.cau, .int .i64 x.m.crd, .slice x.m.cba x.m.cbn x.m.cbc, .slice x.m.cpa x.m.cpn x.m.cpc, .slice x.m.cva x.m.cvn x.m.cvc, .int .i64 x.m.ro] (0, 0) _ hD.box Try.underlying35 rfl sMsg' ?_ | refine wpList_store_row rfl 35 _ _ rfl w.heap.size #[.int .i64 x.m.fr, .int .i64 x.m.tt, .int .i64 x.m.ki, .int .i64 x.m.bau, .int .i64 x.m.bnu, .slice x.m.bta x.m.btn x.m.btc, .int .i64 x.m.hau, .int .i64 x.m.hrd, .slice x.m.hba x.m.hbn x.m.hbc, .slice x.m.hpa x.m.hpn x.m.hpc, .int .i64 x.m.sau, .int .i64 x.m.srd, .slice x.m.sda x.m.sdn x.m.sdc, .int .i64 x.m.cau, .int .i64 x.m.crd, .slice x.m.cba x.m.cbn x.m.cbc, .slice x.m.cpa x.m.cpn x.m.cpc, .slice x.m.cva x.m.cvn x.m.cvc, .int .i64 x.m.ro] rfl rfl 35 _ hD.res sMsg' rfl (by simp [Value.oneCell']) ?_)
              refine bodyPost_ret (v := .tuple #[.agg #[.int .i64 x.m.fr, .int .i64 x.m.tt, .int .i64 x.m.ki, .int .i64 x.m.bau, .int .i64 x.m.bnu, .slice x.m.bta x.m.btn x.m.btc, .int .i64 x.m.hau, .int .i64 x.m.hrd, .slice x.m.hba x.m.hbn x.m.hbc, .slice x.m.hpa x.m.hpn x.m.hpc, .int .i64 x.m.sau, .int .i64 x.m.srd, .slice x.m.sda x.m.sdn x.m.sdc, .int .i64 x.m.cau, .int .i64 x.m.crd, .slice x.m.cba x.m.cbn x.m.cbc, .slice x.m.cpa x.m.cpn x.m.cpc, .slice x.m.cva x.m.cvn x.m.cvc, .int .i64 x.m.ro], .int .i64 0]) (results_cell_slot (fn := Try.f7) (p := 2) (q := 3) (ty := 35) rfl _ _ w.heap.size 35 _ (0, 0) _ (.int .i64 0) ⟨rfl, rfl⟩ (setRow_heap _ _ _ _ _ _ hD.res) Try.underlying35 rfl sMsg') rfl ⟨.inr ⟨hF.out, x, HCX.out, ?_, HH.out.mono (fun q hq => by omega), .inl ⟨HCK.out, rfl⟩⟩, (Upd.setRow hD.res).below hD.below hD.below.size (Nat.le_refl _)⟩
              exact hA2.out.setRow (B := M + 1) (HH.out.mono (fun q hq => by omega)) (by omega)
            · have hcn : (C != 0) = true := by simpa using hc0
              have HC0 : Hid (C ≠ 0) := hc0
              go_wp2_with (refine wpList_store_row rfl 35 _ _ rfl w.heap.size #[.int .i64 0, .int .i64 0, .int .i64 0, .int .i64 0, .int .i64 0, .slice none 0 0, .int .i64 0, .int .i64 0, .slice none 0 0, .slice none 0 0, .int .i64 0, .int .i64 0, .slice none 0 0, .int .i64 0, .int .i64 0, .slice none 0 0, .slice none 0 0, .slice none 0 0, .int .i64 0] rfl rfl 35 _ hD.res sMsg' rfl (by simp [Value.oneCell']) ?_)
              refine bodyPost_ret (v := .tuple #[.agg #[.int .i64 0, .int .i64 0, .int .i64 0, .int .i64 0, .int .i64 0, .slice none 0 0, .int .i64 0, .int .i64 0, .slice none 0 0, .slice none 0 0, .int .i64 0, .int .i64 0, .slice none 0 0, .int .i64 0, .int .i64 0, .slice none 0 0, .slice none 0 0, .slice none 0 0, .int .i64 0], .int .i64 C]) (results_cell_slot (fn := Try.f7) (p := 2) (q := 3) (ty := 35) rfl _ _ w.heap.size 35 _ (0, 0) _ (.int .i64 C) ⟨rfl, rfl⟩ (setRow_heap _ _ _ _ _ _ hD.res) Try.underlying35 rfl sMsg') rfl ⟨.inr ⟨hF.out, x, HCX.out, ?_, HH.out.mono (fun q hq => by omega), .inr ⟨by rw [HCK.out]; exact HC0.out, by rw [HCK.out]⟩⟩, (Upd.setRow hD.res).below hD.below hD.below.size (Nat.le_refl _)⟩
              exact hA2.out.setRow (B := M + 1) (HH.out.mono (fun q hq => by omega)) (by omega)
          · have hF : Hid (readF bs = 4) := by
              show _ = _
              rw [HRF.out, if_neg (by decide), if_pos (fun h => hml (by rw [h52, List.drop_eq_nil_iff] at h; omega))]
            have haI : (a : Int) < bs.length := by omega
            clear hml h51 h52 HRF
            go_wp2_with (refine wpList_store_row rfl 35 _ _ rfl w.heap.size #[.int .i64 0, .int .i64 0, .int .i64 0, .int .i64 0, .int .i64 0, .slice none 0 0, .int .i64 0, .int .i64 0, .slice none 0 0, .slice none 0 0, .int .i64 0, .int .i64 0, .slice none 0 0, .int .i64 0, .int .i64 0, .slice none 0 0, .slice none 0 0, .slice none 0 0, .int .i64 0] rfl rfl 35 _ hB.res sMsg' rfl (by simp [Value.oneCell']) ?_)
            have hFc := hF.out
            refine bodyPost_ret (v := .tuple #[.agg #[.int .i64 0, .int .i64 0, .int .i64 0, .int .i64 0, .int .i64 0, .slice none 0 0, .int .i64 0, .int .i64 0, .slice none 0 0, .slice none 0 0, .int .i64 0, .int .i64 0, .slice none 0 0, .int .i64 0, .int .i64 0, .slice none 0 0, .slice none 0 0, .slice none 0 0, .int .i64 0], .int .i64 4]) (results_cell_slot (fn := Try.f7) (p := 2) (q := 3) (ty := 35) rfl _ _ w.heap.size 35 _ (0, 0) _ (.int .i64 4) ⟨rfl, rfl⟩ (setRow_heap _ _ _ _ _ _ hB.res) Try.underlying35 rfl sMsg') rfl ⟨.inl ⟨by rw [hFc]; decide, by rw [hFc]⟩, (Upd.setRow hB.res).below hB.below hB.below.size (Nat.le_refl _)⟩
      | false =>
        have HOV : Hid ((bL s5 k).2 = false) := hov
        have hst : Hid (bT s5 (k + 1) = bT s5 k ++ [bstr (tT (nB 1 (bL s5 k)).toNat (nx 1 (bL s5 k)))] ∧ bL s5 (k + 1) = nx (nB 1 (bL s5 k)).toNat (nx 1 (bL s5 k))) := ⟨rfl, rfl⟩
        have hW2 := hM2.within hov
        clear hov hM2
        go_wp2_with fail
        refine (num_sc S 1 bs _ _ w2 hW2.sc hu (by omega) (by omega)).mono ?_
        intro e w3 h3
        obtain ⟨y, he, y0, -, y2, yg, hSc, ho3⟩ := h3.out
        subst he
        dsimp only
        clear h3
        obtain ⟨Y, rfl⟩ : ∃ Y : Nat, y = Y := ⟨y.toNat, by omega⟩
        have hY : Y ≤ 255 := by have := y2 rfl; omega
        have YG : Hid _ := yg
        clear y0 y2 yg
        have hM3 := hW2.call ho3 hSc
        have hs2 := hb2.size
        have hs3 := ho3.size
        have hob3 := owns_only ho2 ho3 (by omega)
        clear hSc hW2 ho2
        go_wp2_with fail
        refine (next_sc S Y bs _ _ w3 hM3.sc (by omega) (by omega)).mono ?_
        intro e w4 h4
        obtain ⟨ta, tc, tx, he, hS4, hf4, hta, htb, hSc, ho4⟩ := h4.out
        subst he
        dsimp only
        clear h4
        have htl : tx.length ≤ 255 := by
          cases h9 : (nx Y (nx 1 (bL s5 k))).2 with
          | true => rw [htb h9]; simp; omega
          | false => rw [hta h9]; exact Nat.le_trans tkT_len (by omega)
        have HTA : Hid _ := hta
        have hM4 := (hM3.call ho4 hSc).st (N' := 20000) (by omega)
        have HBL : Hid (bL s5 (k + 1) = nx Y (nx 1 (bL s5 k)) ∨ ((nx Y (nx 1 (bL s5 k))).2 = true ∧ (bL s5 (k + 1)).2 = true)) := by
          show _ ∨ _
          cases h9 : (nx 1 (bL s5 k)).2 with
          | false =>
            left
            rw [hst.out.2, ← YG.out h9]
            rfl
          | true =>
            right
            have hov9 : ∀ n : Nat, (nx n (nx 1 (bL s5 k))).2 = true := fun n => by
              cases h8 : (nx n (nx 1 (bL s5 k))).2 with
              | true => rfl
              | false =>
                have h7 := nx_over h8
                rw [h9] at h7
                cases h7
            exact ⟨hov9 Y, by rw [hst.out.2]; exact hov9 _⟩
        have hs4 := ho4.size
        have hob := owns_only hob3 ho4 (by omega)
        have hw3 : w5.heap.size ≤ w4.heap.size := by omega
        have v5 := hM4.box
        have d4 := cells_at v5 5 _ rfl
        have d4a : (w4.alloc (.cells #[.string (bstr tx)] 9)).cell? ⟨M, 5, none⟩ = some (.slice va k vc) := cells_at (heap_keep v5) 5 _ rfl
        have hvC : (Value.slice va k vc).ownBlock ≠ some M := fun e => by have := (hob.lt _ e).1; omega
        have hvlt : ∀ q, (Value.slice va k vc).ownBlock = some q → w5.heap.size ≤ q := fun q e => (hob.lt _ e).1
        have htx := run_text w4 ta _ tc tx rfl hS4
        clear hSc ho3 ho4 hta htb hM3 hob3 hf4
        go_wp2_with (at_builtin; refine wpList_append_own_at _ rfl _ _ 23 rfl w5.heap.size 9 i (.string ByteArray.empty) 1 16 Try.underlying23 hi hz0 hz1 hz2 rfl (by decide) _ k (sv vs) rfl (World.ownsRow.alloc hob _) ⟨w4.heap.size, 0, none⟩ 1 1 [.string (bstr tx)] rfl rfl (cells_new _ _ _) (by intro u hu; simp at hu; subst hu; rfl) (by unfold maxLen; omega) (by omega) (le_alloc hw3 _) ?_; intro v6 w6 ho6 hg6 _ hat6; have G6 := Grew.of hg6 hat6; have x5 := G6.row (heap_keep v5) hvC; have xd4 := cells_at x5 5 _ rfl; have xf4 := frozen_at x5 5; obtain ⟨fa, fc, hvf⟩ := owns_shape ho6; subst hvf)
        all_goals
          have hM6 : MoB w6 w w.heap.size S M bs (nx Y (nx 1 (bL s5 k))) 20000 #[.int .i64 fr, .int .i64 tt, .int .i64 1, .int .i64 au, .int .i64 rd, .slice va k vc, .int .i64 0, .int .i64 0, .slice none 0 0, .slice none 0 0, .int .i64 0, .int .i64 0, .slice none 0 0, .int .i64 0, .int .i64 0, .slice none 0 0, .slice none 0 0, .slice none 0 0, .int .i64 0] := (hM4.belowW ((Below.refl _ _).alloc (Nat.le_refl _) _)).grown G6.grown (fun q e => by have := hvlt q e; omega)
          have hb3 : Below w4.heap.size w4 (w4.alloc (.cells #[.string (bstr tx)] 9)) := (Below.refl _ _).alloc (Nat.le_refl _) _
          have hs6 : w5.heap.size ≤ w6.heap.size := by have := hb3.size; have : (w4.alloc (.cells #[.string (bstr tx)] 9)).heap.size ≤ w6.heap.size := G6.grown.size; omega
          (try go_wp2_with fail)
          go_roundw
          case rel =>
            refine ⟨k + 1, .slice fa (k + 1) fc, vs ++ [bstr tx], by omega, by go_num, ?_, by simpa using hs6, ?_, ?_, ?_⟩
            · have hC6 := hM6.cell 5 (.slice fa (k + 1) fc) #[.int .i64 fr, .int .i64 tt, .int .i64 1, .int .i64 au, .int .i64 rd, .slice fa (k + 1) fc, .int .i64 0, .int .i64 0, .slice none 0 0, .slice none 0 0, .int .i64 0, .int .i64 0, .slice none 0 0, .int .i64 0, .int .i64 0, .slice none 0 0, .slice none 0 0, .slice none 0 0, .int .i64 0] rfl
              rcases HBL.out with h9 | ⟨h9, h8⟩
              · rw [h9]; exact hC6
              · exact hC6.beyond h9 h8
            · have h := owns_far ho6 M 5 (.slice fa (k + 1) fc) lM5
              simpa [sv] using h
            · show _ → _
              intro h9
              rcases HBL.out with h8 | ⟨_, h8⟩
              · have h10 : (nx Y (nx 1 (bL s5 k))).2 = false := by rw [← h8]; exact h9
                have h7 := nx_over h10
                have h6 := YG.out h7
                rw [hst.out.1, hq.out HOV.out, HTA.out h10, ← h6]
                rfl
              · rw [h8] at h9; cases h9
            · intro s hs
              rcases List.mem_append.1 hs with hs | hs
              · exact hzs s hs
              · obtain rfl : s = bstr tx := by simpa using hs
                rw [bstr_size]
                unfold maxLen
                omega
          case measure => simp [intOf]; omega
    · obtain rfl : k = V := by omega
      have hltI : ¬ (k : Int) < k := by omega
      have hX : Hid (MoX wr w w.heap.size S M bs 20000) := by
        obtain ⟨za, zc, hv, hl, hI, hf⟩ := strsAt_of_owns ho hzs
        cases hv
        refine ⟨⟨{ fr := fr, tt := tt, ki := 1, bau := au, bnu := rd, bta := va, btn := vs.length, btc := vc, hau := 0, hrd := 0, hba := none, hbn := 0, hbc := 0, hpa := none, hpn := 0, hpc := 0, sau := 0, srd := 0, sda := none, sdn := 0, sdc := 0, cau := 0, crd := 0, cba := none, cbn := 0, cbc := 0, cpa := none, cpn := 0, cpc := 0, cva := none, cvn := 0, cvc := 0, ro := 0 }, vs, [], [], [], [], [], []⟩, ?_, ?_, ?_, ?_⟩
        · rw [← hl, HMS.out]
          cases h9 : s5.2 with
          | false => rw [← HNV.out h9]; exact hM
          | true =>
            have h7 : ∀ n, (bL s5 n).2 = true := fun n => by
              cases h6 : (bL s5 n).2 with
              | true => rfl
              | false =>
                have h5 : s5.2 = false := bL_over (i := 0) (n := n) (Nat.zero_le _) h6
                rw [h9] at h5
                cases h5
            exact hM.beyond (h7 _) (h7 _)
        · exact ⟨⟨rfl, rfl, rfl, rfl, rfl, rfl, (by show vs.length ≤ _; omega), Nat.zero_le _, Nat.zero_le _, hI, list_nilM _, list_nilM _, list_nilM _, list_nilM _, ints_nil _⟩, nilM _, rfl⟩
        · exact ⟨(fun sb so e _ => by have := hf sb so e; omega), has_nil, has_nil, (fun sb so e => by cases e), has_nil, has_nil, (fun sb so e => by cases e)⟩
        · intro h9
          rw [HMS.out] at h9
          have h8 : s5.2 = false := bL_over (i := 0) (Nat.zero_le _) h9
          have h7 := HO5.out h8
          have h7b := nx_over h7
          have h6 := nx_over h7b
          have h5 := nx_over h6
          have hcv : vs = bT s5 (bN (nx 1 (nx 1 (nx 1 (bs, false))))) := by rw [← HNV.out h8]; exact hq.out (by rw [HNV.out h8]; exact h9)
          rw [HPM.out, HK0.out, ← rdg h7, ← aug h7b, ← hcv, ← ttg h6, ← frg h5]
          rfl
      clear hM ho
      go_upto_region 39 with fail
      generalize wr = VX at hX ⊢
      obtain ⟨x, hM, hA, hH, hC⟩ := hX.out.out
      clear hX
      go_wp2_with fail
      refine (over_sc S bs _ _ VX hM.sc).mono ?_
      rintro e w1 ⟨he, hb1⟩
      subst he
      dsimp only
      have hB := hM.belowW hb1
      have hA1 := hA.below hb1
      have HH : Hid (HasM (fun q => M < q) x) := hH
      have l1 := hB.l1
      have l2 := hB.l2
      have lM : M < w1.heap.size := lt_of_heap hB.box
      clear hM hA hH hb1
      obtain ⟨ba, bc, a, qS, hbS, hneS, haN, h5, h6⟩ := hB.sc.out
      generalize mS (bs, false) = ms at *
      obtain ⟨ml, msh⟩ := ms
      dsimp only at *
      cases msh with
      | true =>
        have hF : Hid (readF bs = 5) := by show _ = _; rw [HRF.out, if_pos rfl]
        clear h5 h6 hC
        go_wp2_with (refine wpList_store_row rfl 35 _ _ rfl w.heap.size #[.int .i64 0, .int .i64 0, .int .i64 0, .int .i64 0, .int .i64 0, .slice none 0 0, .int .i64 0, .int .i64 0, .slice none 0 0, .slice none 0 0, .int .i64 0, .int .i64 0, .slice none 0 0, .int .i64 0, .int .i64 0, .slice none 0 0, .slice none 0 0, .slice none 0 0, .int .i64 0] rfl rfl 35 _ hB.res sMsg' rfl (by simp [Value.oneCell']) ?_)
        have hFc := hF.out
        refine bodyPost_ret (v := .tuple #[.agg #[.int .i64 0, .int .i64 0, .int .i64 0, .int .i64 0, .int .i64 0, .slice none 0 0, .int .i64 0, .int .i64 0, .slice none 0 0, .slice none 0 0, .int .i64 0, .int .i64 0, .slice none 0 0, .int .i64 0, .int .i64 0, .slice none 0 0, .slice none 0 0, .slice none 0 0, .int .i64 0], .int .i64 5]) (results_cell_slot (fn := Try.f7) (p := 2) (q := 3) (ty := 35) rfl _ _ w.heap.size 35 _ (0, 0) _ (.int .i64 5) ⟨rfl, rfl⟩ (setRow_heap _ _ _ _ _ _ hB.res) Try.underlying35 rfl sMsg') rfl ⟨.inl ⟨by rw [hFc]; decide, by rw [hFc]⟩, (Upd.setRow hB.res).below hB.below hB.below.size (Nat.le_refl _)⟩
      | false =>
        obtain ⟨h51, h52⟩ := h5 rfl
        have HCX : Hid (x.c = pM (bs, false)) := hC rfl
        clear h5 h6 hC
        have s1 : w1.cell? ⟨S, 1, none⟩ = some (.int .i64 (a : Int)) := cells_at qS 1 _ rfl
        by_cases hml : a = bs.length
        · have hF : Hid (readF bs = 0) := by
            show _ = _
            rw [HRF.out, if_neg (by decide), if_neg (fun h => h (by rw [h52, hml]; simp))]
          have haI : ¬ (a : Int) < bs.length := by omega
          clear hml h51 h52 HRF
          have hB2 : Below w1.heap.size w1 w1.drew := (Below.refl _ _).drew
          go_upto_region 43 with fail
          have HF9 := messageFault_any x.m x.ss x.bl x.pl x.cbl x.cpl x.vl w1 hA1.at'
          go_wp2_with (refine wpList_load_row rfl 35 _ rfl M rfl 35 #[.int .i64 x.m.fr, .int .i64 x.m.tt, .int .i64 x.m.ki, .int .i64 x.m.bau, .int .i64 x.m.bnu, .slice x.m.bta x.m.btn x.m.btc, .int .i64 x.m.hau, .int .i64 x.m.hrd, .slice x.m.hba x.m.hbn x.m.hbc, .slice x.m.hpa x.m.hpn x.m.hpc, .int .i64 x.m.sau, .int .i64 x.m.srd, .slice x.m.sda x.m.sdn x.m.sdc, .int .i64 x.m.cau, .int .i64 x.m.crd, .slice x.m.cba x.m.cbn x.m.cbc, .slice x.m.cpa x.m.cpn x.m.cpc, .slice x.m.cva x.m.cvn x.m.cvc, .int .i64 x.m.ro] (0, 0) _ hB.box Try.underlying35 rfl sMsg' ?_)
          refine HF9.mono ?_
          rintro e w2 ⟨he, hb2⟩
          subst he
          dsimp only
          clear HF9 s1
          have hD := hB.belowW hb2
          have hA2 : Hid (MAt w2 x) := hA1.below hb2
          have HCR : Hid (carriedF x.m x.ss x.bl x.pl x.cbl x.cpl x.vl = x.car) := rfl
          generalize hCk : checkF x.m (carriedF x.m x.ss x.bl x.pl x.cbl x.cpl x.vl) = C at *
          have HCK : Hid (checkF x.m x.car = C) := hCk
          clear hCk
          by_cases hc0 : C = 0
          · subst hc0
            go_wp2_with (first | refine wpList_load_row rfl 35 _ rfl M rfl 35 #[.int .i64 x.m.fr, .int .i64 x.m.tt, .int .i64 x.m.ki, .int .i64 x.m.bau, .int .i64 x.m.bnu, .slice x.m.bta x.m.btn x.m.btc, .int .i64 x.m.hau, .int .i64 x.m.hrd, .slice x.m.hba x.m.hbn x.m.hbc, .slice x.m.hpa x.m.hpn x.m.hpc, .int .i64 x.m.sau, .int .i64 x.m.srd, .slice x.m.sda x.m.sdn x.m.sdc, .int .i64 x.m.cau, .int .i64 x.m.crd, .slice x.m.cba x.m.cbn x.m.cbc, .slice x.m.cpa x.m.cpn x.m.cpc, .slice x.m.cva x.m.cvn x.m.cvc, .int .i64 x.m.ro] (0, 0) _ hD.box Try.underlying35 rfl sMsg' ?_ | refine wpList_store_row rfl 35 _ _ rfl w.heap.size #[.int .i64 x.m.fr, .int .i64 x.m.tt, .int .i64 x.m.ki, .int .i64 x.m.bau, .int .i64 x.m.bnu, .slice x.m.bta x.m.btn x.m.btc, .int .i64 x.m.hau, .int .i64 x.m.hrd, .slice x.m.hba x.m.hbn x.m.hbc, .slice x.m.hpa x.m.hpn x.m.hpc, .int .i64 x.m.sau, .int .i64 x.m.srd, .slice x.m.sda x.m.sdn x.m.sdc, .int .i64 x.m.cau, .int .i64 x.m.crd, .slice x.m.cba x.m.cbn x.m.cbc, .slice x.m.cpa x.m.cpn x.m.cpc, .slice x.m.cva x.m.cvn x.m.cvc, .int .i64 x.m.ro] rfl rfl 35 _ hD.res sMsg' rfl (by simp [Value.oneCell']) ?_)
            refine bodyPost_ret (v := .tuple #[.agg #[.int .i64 x.m.fr, .int .i64 x.m.tt, .int .i64 x.m.ki, .int .i64 x.m.bau, .int .i64 x.m.bnu, .slice x.m.bta x.m.btn x.m.btc, .int .i64 x.m.hau, .int .i64 x.m.hrd, .slice x.m.hba x.m.hbn x.m.hbc, .slice x.m.hpa x.m.hpn x.m.hpc, .int .i64 x.m.sau, .int .i64 x.m.srd, .slice x.m.sda x.m.sdn x.m.sdc, .int .i64 x.m.cau, .int .i64 x.m.crd, .slice x.m.cba x.m.cbn x.m.cbc, .slice x.m.cpa x.m.cpn x.m.cpc, .slice x.m.cva x.m.cvn x.m.cvc, .int .i64 x.m.ro], .int .i64 0]) (results_cell_slot (fn := Try.f7) (p := 2) (q := 3) (ty := 35) rfl _ _ w.heap.size 35 _ (0, 0) _ (.int .i64 0) ⟨rfl, rfl⟩ (setRow_heap _ _ _ _ _ _ hD.res) Try.underlying35 rfl sMsg') rfl ⟨.inr ⟨hF.out, x, HCX.out, ?_, HH.out.mono (fun q hq => by omega), .inl ⟨HCK.out, rfl⟩⟩, (Upd.setRow hD.res).below hD.below hD.below.size (Nat.le_refl _)⟩
            exact hA2.out.setRow (B := M + 1) (HH.out.mono (fun q hq => by omega)) (by omega)
          · have hcn : (C != 0) = true := by simpa using hc0
            have HC0 : Hid (C ≠ 0) := hc0
            go_wp2_with (refine wpList_store_row rfl 35 _ _ rfl w.heap.size #[.int .i64 0, .int .i64 0, .int .i64 0, .int .i64 0, .int .i64 0, .slice none 0 0, .int .i64 0, .int .i64 0, .slice none 0 0, .slice none 0 0, .int .i64 0, .int .i64 0, .slice none 0 0, .int .i64 0, .int .i64 0, .slice none 0 0, .slice none 0 0, .slice none 0 0, .int .i64 0] rfl rfl 35 _ hD.res sMsg' rfl (by simp [Value.oneCell']) ?_)
            refine bodyPost_ret (v := .tuple #[.agg #[.int .i64 0, .int .i64 0, .int .i64 0, .int .i64 0, .int .i64 0, .slice none 0 0, .int .i64 0, .int .i64 0, .slice none 0 0, .slice none 0 0, .int .i64 0, .int .i64 0, .slice none 0 0, .int .i64 0, .int .i64 0, .slice none 0 0, .slice none 0 0, .slice none 0 0, .int .i64 0], .int .i64 C]) (results_cell_slot (fn := Try.f7) (p := 2) (q := 3) (ty := 35) rfl _ _ w.heap.size 35 _ (0, 0) _ (.int .i64 C) ⟨rfl, rfl⟩ (setRow_heap _ _ _ _ _ _ hD.res) Try.underlying35 rfl sMsg') rfl ⟨.inr ⟨hF.out, x, HCX.out, ?_, HH.out.mono (fun q hq => by omega), .inr ⟨by rw [HCK.out]; exact HC0.out, by rw [HCK.out]⟩⟩, (Upd.setRow hD.res).below hD.below hD.below.size (Nat.le_refl _)⟩
            exact hA2.out.setRow (B := M + 1) (HH.out.mono (fun q hq => by omega)) (by omega)
        · have hF : Hid (readF bs = 4) := by
            show _ = _
            rw [HRF.out, if_neg (by decide), if_pos (fun h => hml (by rw [h52, List.drop_eq_nil_iff] at h; omega))]
          have haI : (a : Int) < bs.length := by omega
          clear hml h51 h52 HRF
          go_wp2_with (refine wpList_store_row rfl 35 _ _ rfl w.heap.size #[.int .i64 0, .int .i64 0, .int .i64 0, .int .i64 0, .int .i64 0, .slice none 0 0, .int .i64 0, .int .i64 0, .slice none 0 0, .slice none 0 0, .int .i64 0, .int .i64 0, .slice none 0 0, .int .i64 0, .int .i64 0, .slice none 0 0, .slice none 0 0, .slice none 0 0, .int .i64 0] rfl rfl 35 _ hB.res sMsg' rfl (by simp [Value.oneCell']) ?_)
          have hFc := hF.out
          refine bodyPost_ret (v := .tuple #[.agg #[.int .i64 0, .int .i64 0, .int .i64 0, .int .i64 0, .int .i64 0, .slice none 0 0, .int .i64 0, .int .i64 0, .slice none 0 0, .slice none 0 0, .int .i64 0, .int .i64 0, .slice none 0 0, .int .i64 0, .int .i64 0, .slice none 0 0, .slice none 0 0, .slice none 0 0, .int .i64 0], .int .i64 4]) (results_cell_slot (fn := Try.f7) (p := 2) (q := 3) (ty := 35) rfl _ _ w.heap.size 35 _ (0, 0) _ (.int .i64 4) ⟨rfl, rfl⟩ (setRow_heap _ _ _ _ _ _ hB.res) Try.underlying35 rfl sMsg') rfl ⟨.inl ⟨by rw [hFc]; decide, by rw [hFc]⟩, (Upd.setRow hB.res).below hB.below hB.below.size (Nat.le_refl _)⟩
end Go.Proofs.Ythlknldicpeobaa

namespace Go.Proofs.Ythlknldicpeobaa
open Go.RowKit

set_option maxRecDepth 100000 in
set_option maxHeartbeats 8000000 in
theorem mof_2 (bs : List Int) (sb so cap : Nat) (w : World) (hs : SliceAt w (some ⟨sb, so, none⟩) cap bs) (hu : U8s bs) (hl : bs.length ≤ 4000) (hpos : 0 < bs.length) (hk : bs.getD 0 0 = 2) :
    Calls Try.prog 7 #[.slice (some ⟨sb, so, none⟩) bs.length cap] w fun e w' => DecIs w w' e bs := by
  have hne : bs ≠ [] := by intro h; rw [h] at hpos; simp at hpos
  have hK0 : nB 1 (bs, false) = 2 := by rw [nB1_first hne, hk]
  have HRF : Hid (readF bs = if (mS (bs, false)).2 = true then 5 else if (mS (bs, false)).1 ≠ [] then 4 else 0) := by
    show _ = _
    rw [readF, if_neg (by omega), if_neg hne, hk, if_neg (by decide)]
  have HMS : Hid (mS (bs, false) = dgS (dgS (nx 3 (nx 1 (nx 1 (nx 1 (nx 1 (bs, false)))))))) := by
    show _ = _
    rw [mS, hK0]; rfl
  have HPM : Hid (pM (bs, false) = ⟨nB 1 (nx 1 (bs, false)), nB 1 (nx 1 (nx 1 (bs, false))), nB 1 (bs, false), 0, 0, [], nB 1 (nx 1 (nx 1 (nx 1 (bs, false)))), nB 3 (nx 1 (nx 1 (nx 1 (nx 1 (bs, false))))), dgs (nx 3 (nx 1 (nx 1 (nx 1 (nx 1 (bs, false)))))), dgs (dgS (nx 3 (nx 1 (nx 1 (nx 1 (nx 1 (bs, false))))))), 0, 0, [], 0, 0, [], [], [], 0⟩) := by
    show _ = _
    rw [pM, hK0]; rfl
  have HN1 : Hid ((nx 1 (bs, false)).2 = false) := (tk_ok (n := 1) (l := bs) (by omega)).2.2
  have HK0 : Hid (nB 1 (bs, false) = 2) := hK0
  have c0 : w.cell? ⟨sb, so, none⟩ = some (.int .u8 2) := by
    rcases hs.bytes with h | ⟨sb', so', e, h⟩
    · rw [h] at hpos; simp at hpos
    · cases e
      have := h 0 hpos
      rw [hk] at this
      simpa using this
  have hlI : ¬ (4000 : Int) < bs.length := by omega
  have hpI : ((bs.length : Int) == 0) = false := by rw [beq_eq_false_iff_ne]; omega
  have hpJ : (0 : Int) < bs.length := by omega
  have hblt : sb < w.heap.size := block_lt_of_cell c0
  clear hk hK0 hne
  go_enter Try.func7, Try.ntmps7
  go_upto_region 8 with (first
    | (go_at_call 16; refine (in_true _ _ _ _ (by decide)).mono ?_; rintro e w9 ⟨rfl, rfl⟩))
  have hA1 : Below w.heap.size w ((w.alloc (.cells #[.int .i64 0, .int .i64 0, .int .i64 0, .int .i64 0, .int .i64 0, .slice none 0 0, .int .i64 0, .int .i64 0, .slice none 0 0, .slice none 0 0, .int .i64 0, .int .i64 0, .slice none 0 0, .int .i64 0, .int .i64 0, .slice none 0 0, .slice none 0 0, .slice none 0 0, .int .i64 0] 35)).alloc (.cells #[.slice (some ⟨sb, so, none⟩) bs.length cap, .int .i64 0] 55)) := ((Below.refl _ _).alloc (Nat.le_refl _) _).alloc (by simp) _
  have qR := heap_alloc2_old w (.cells #[.int .i64 0, .int .i64 0, .int .i64 0, .int .i64 0, .int .i64 0, .slice none 0 0, .int .i64 0, .int .i64 0, .slice none 0 0, .slice none 0 0, .int .i64 0, .int .i64 0, .slice none 0 0, .int .i64 0, .int .i64 0, .slice none 0 0, .slice none 0 0, .slice none 0 0, .int .i64 0] 35) (.cells #[.slice (some ⟨sb, so, none⟩) bs.length cap, .int .i64 0] 55)
  have qS := heap_alloc2_new w (.cells #[.int .i64 0, .int .i64 0, .int .i64 0, .int .i64 0, .int .i64 0, .slice none 0 0, .int .i64 0, .int .i64 0, .slice none 0 0, .slice none 0 0, .int .i64 0, .int .i64 0, .slice none 0 0, .int .i64 0, .int .i64 0, .slice none 0 0, .slice none 0 0, .slice none 0 0, .int .i64 0] 35) (.cells #[.slice (some ⟨sb, so, none⟩) bs.length cap, .int .i64 0] 55)
  have hz1 : ((w.alloc (.cells #[.int .i64 0, .int .i64 0, .int .i64 0, .int .i64 0, .int .i64 0, .slice none 0 0, .int .i64 0, .int .i64 0, .slice none 0 0, .slice none 0 0, .int .i64 0, .int .i64 0, .slice none 0 0, .int .i64 0, .int .i64 0, .slice none 0 0, .slice none 0 0, .slice none 0 0, .int .i64 0] 35)).alloc (.cells #[.slice (some ⟨sb, so, none⟩) bs.length cap, .int .i64 0] 55)).heap.size = w.heap.size + 2 := by simp
  generalize (w.alloc (.cells #[.int .i64 0, .int .i64 0, .int .i64 0, .int .i64 0, .int .i64 0, .slice none 0 0, .int .i64 0, .int .i64 0, .slice none 0 0, .slice none 0 0, .int .i64 0, .int .i64 0, .slice none 0 0, .int .i64 0, .int .i64 0, .slice none 0 0, .slice none 0 0, .slice none 0 0, .int .i64 0] 35)).alloc (.cells #[.slice (some ⟨sb, so, none⟩) bs.length cap, .int .i64 0] 55) = W1 at hA1 qR qS hz1 ⊢
  have hSc1 : ScAt W1 (w.heap.size + 1) bs (bs, false) 0 := ⟨_, _, 0, qS, hs.below hA1, (fun sb' so' e => by cases e; omega), Nat.le_refl _, (fun _ => ⟨Nat.zero_le _, rfl⟩), (fun h => by cases h)⟩
  have qz : (W1.alloc (.cells #[.int .i64 0, .int .i64 0, .int .i64 0, .int .i64 0, .int .i64 0, .slice none 0 0, .int .i64 0, .int .i64 0, .slice none 0 0, .slice none 0 0, .int .i64 0, .int .i64 0, .slice none 0 0, .int .i64 0, .int .i64 0, .slice none 0 0, .slice none 0 0, .slice none 0 0, .int .i64 0] 35)).heap[w.heap.size + 2]? = some (.cells #[.int .i64 0, .int .i64 0, .int .i64 0, .int .i64 0, .int .i64 0, .slice none 0 0, .int .i64 0, .int .i64 0, .slice none 0 0, .slice none 0 0, .int .i64 0, .int .i64 0, .slice none 0 0, .int .i64 0, .int .i64 0, .slice none 0 0, .slice none 0 0, .slice none 0 0, .int .i64 0] 35 (0, 0)) := by rw [← hz1]; exact heap_alloc_new W1 (.cells #[.int .i64 0, .int .i64 0, .int .i64 0, .int .i64 0, .int .i64 0, .slice none 0 0, .int .i64 0, .int .i64 0, .slice none 0 0, .slice none 0 0, .int .i64 0, .int .i64 0, .slice none 0 0, .int .i64 0, .int .i64 0, .slice none 0 0, .slice none 0 0, .slice none 0 0, .int .i64 0] 35)
  have hM0 : MoB ((W1.alloc (.cells #[.int .i64 0, .int .i64 0, .int .i64 0, .int .i64 0, .int .i64 0, .slice none 0 0, .int .i64 0, .int .i64 0, .slice none 0 0, .slice none 0 0, .int .i64 0, .int .i64 0, .slice none 0 0, .int .i64 0, .int .i64 0, .slice none 0 0, .slice none 0 0, .slice none 0 0, .int .i64 0] 35)).setRow (w.heap.size + 2) #[.int .i64 0, .int .i64 0, .int .i64 0, .int .i64 0, .int .i64 0, .slice none 0 0, .int .i64 0, .int .i64 0, .slice none 0 0, .slice none 0 0, .int .i64 0, .int .i64 0, .slice none 0 0, .int .i64 0, .int .i64 0, .slice none 0 0, .slice none 0 0, .slice none 0 0, .int .i64 0]) w w.heap.size (w.heap.size + 1) (w.heap.size + 2) bs (bs, false) 0 #[.int .i64 0, .int .i64 0, .int .i64 0, .int .i64 0, .int .i64 0, .slice none 0 0, .int .i64 0, .int .i64 0, .slice none 0 0, .slice none 0 0, .int .i64 0, .int .i64 0, .slice none 0 0, .int .i64 0, .int .i64 0, .slice none 0 0, .slice none 0 0, .slice none 0 0, .int .i64 0] := by
    have hb : Below W1.heap.size W1 ((W1.alloc (.cells #[.int .i64 0, .int .i64 0, .int .i64 0, .int .i64 0, .int .i64 0, .slice none 0 0, .int .i64 0, .int .i64 0, .slice none 0 0, .slice none 0 0, .int .i64 0, .int .i64 0, .slice none 0 0, .int .i64 0, .int .i64 0, .slice none 0 0, .slice none 0 0, .slice none 0 0, .int .i64 0] 35)).setRow (w.heap.size + 2) #[.int .i64 0, .int .i64 0, .int .i64 0, .int .i64 0, .int .i64 0, .slice none 0 0, .int .i64 0, .int .i64 0, .slice none 0 0, .slice none 0 0, .int .i64 0, .int .i64 0, .slice none 0 0, .int .i64 0, .int .i64 0, .slice none 0 0, .slice none 0 0, .slice none 0 0, .int .i64 0]) := ⟨rfl, rfl, rfl, by simp [World.setRow], fun k hk => (setRow_other _ _ _ _ (by omega)).trans (Below.heap_alloc _ _ _ hk)⟩
    exact ⟨setRow_heap _ _ _ _ _ _ qz, (hb.block _ (by omega)).trans qR, hSc1.below hb, hA1.trans (hb.mono (by omega)), Nat.le_refl _, by omega, by omega⟩
  go_upto_region 9 with (refine wpList_store_row rfl 35 _ _ rfl (w.heap.size + 2) #[.int .i64 0, .int .i64 0, .int .i64 0, .int .i64 0, .int .i64 0, .slice none 0 0, .int .i64 0, .int .i64 0, .slice none 0 0, .slice none 0 0, .int .i64 0, .int .i64 0, .slice none 0 0, .int .i64 0, .int .i64 0, .slice none 0 0, .slice none 0 0, .slice none 0 0, .int .i64 0] rfl rfl 35 _ qz sMsg' rfl (by simp [Value.oneCell']) ?_)
  generalize (W1.alloc (.cells #[.int .i64 0, .int .i64 0, .int .i64 0, .int .i64 0, .int .i64 0, .slice none 0 0, .int .i64 0, .int .i64 0, .slice none 0 0, .slice none 0 0, .int .i64 0, .int .i64 0, .slice none 0 0, .int .i64 0, .int .i64 0, .slice none 0 0, .slice none 0 0, .slice none 0 0, .int .i64 0] 35)).setRow (w.heap.size + 2) #[.int .i64 0, .int .i64 0, .int .i64 0, .int .i64 0, .int .i64 0, .slice none 0 0, .int .i64 0, .int .i64 0, .slice none 0 0, .slice none 0 0, .int .i64 0, .int .i64 0, .slice none 0 0, .int .i64 0, .int .i64 0, .slice none 0 0, .slice none 0 0, .slice none 0 0, .int .i64 0] = V0 at hM0 ⊢
  clear qz qR qS hSc1 hA1 hz1 c0 hblt hpI hs
  generalize hMM : w.heap.size + 2 = M at hM0 ⊢
  generalize hSS : w.heap.size + 1 = S at hM0 ⊢
  clear hMM hSS
  go_wp2_with fail
  refine (num_sc S 1 bs (bs, false) _ V0 hM0.sc hu (by omega) (by omega)).mono ?_
  intro e w1 h1
  obtain ⟨ki, he, ki0, ki1, ki2, kig, hSc, ho1⟩ := h1.out
  subst he
  dsimp only
  clear h1
  have hC1 := hM0.call ho1 hSc
  have dj := cells_at hC1.box 2 _ rfl
  have fj := frozen_at hC1.box 2
  have hM1 := hC1.cell 2 (.int .i64 ki) #[.int .i64 0, .int .i64 0, .int .i64 ki, .int .i64 0, .int .i64 0, .slice none 0 0, .int .i64 0, .int .i64 0, .slice none 0 0, .slice none 0 0, .int .i64 0, .int .i64 0, .slice none 0 0, .int .i64 0, .int .i64 0, .slice none 0 0, .slice none 0 0, .slice none 0 0, .int .i64 0] rfl
  go_upto_region 10 with fail
  generalize w1.setCell ⟨M, 2, none⟩ (.int .i64 ki) = V1 at hM1 ⊢
  clear dj fj hC1 hSc ho1 hM0
  go_wp2_with fail
  refine (num_sc S 1 bs (nx 1 (bs, false)) _ V1 hM1.sc hu (by omega) (by omega)).mono ?_
  intro e w2 h1
  obtain ⟨fr, he, fr0, fr1, fr2, frg, hSc, ho1⟩ := h1.out
  subst he
  dsimp only
  clear h1
  have hC2 := hM1.call ho1 hSc
  have dj := cells_at hC2.box 0 _ rfl
  have fj := frozen_at hC2.box 0
  have hM2 := hC2.cell 0 (.int .i64 fr) #[.int .i64 fr, .int .i64 0, .int .i64 ki, .int .i64 0, .int .i64 0, .slice none 0 0, .int .i64 0, .int .i64 0, .slice none 0 0, .slice none 0 0, .int .i64 0, .int .i64 0, .slice none 0 0, .int .i64 0, .int .i64 0, .slice none 0 0, .slice none 0 0, .slice none 0 0, .int .i64 0] rfl
  go_upto_region 11 with fail
  generalize w2.setCell ⟨M, 0, none⟩ (.int .i64 fr) = V2 at hM2 ⊢
  clear dj fj hC2 hSc ho1 hM1
  go_wp2_with fail
  refine (num_sc S 1 bs (nx 1 (nx 1 (bs, false))) _ V2 hM2.sc hu (by omega) (by omega)).mono ?_
  intro e w3 h1
  obtain ⟨tt, he, tt0, tt1, tt2, ttg, hSc, ho1⟩ := h1.out
  subst he
  dsimp only
  clear h1
  have hC3 := hM2.call ho1 hSc
  have dj := cells_at hC3.box 1 _ rfl
  have fj := frozen_at hC3.box 1
  have hM3 := hC3.cell 1 (.int .i64 tt) #[.int .i64 fr, .int .i64 tt, .int .i64 ki, .int .i64 0, .int .i64 0, .slice none 0 0, .int .i64 0, .int .i64 0, .slice none 0 0, .slice none 0 0, .int .i64 0, .int .i64 0, .slice none 0 0, .int .i64 0, .int .i64 0, .slice none 0 0, .slice none 0 0, .slice none 0 0, .int .i64 0] rfl
  go_upto_region 12 with fail
  generalize w3.setCell ⟨M, 1, none⟩ (.int .i64 tt) = V3 at hM3 ⊢
  clear dj fj hC3 hSc ho1 hM2
  have hki : ki = 2 := (kig HN1.out).trans HK0.out
  subst hki
  have dk := cells_at hM3.box 2 _ rfl
  go_wp2_with fail
  refine (header_sc S bs (nx 1 (nx 1 (nx 1 (bs, false)))) _ V3 hM3.sc hu (by omega) (by omega)).mono ?_
  intro e w4 h1
  obtain ⟨au, rd, ba, bc, bl, pa, pc, pl, he, hvals, hLb, hLp, hFb, hFp, hSc, ho1⟩ := h1.out
  subst he
  dsimp only
  clear h1
  have hC4 := hM3.call ho1 hSc
  have HV : Hid _ := hvals
  clear hvals
  have d0 := cells_at hC4.box 6 _ rfl
  have f0 := frozen_at hC4.box 6
  have d1 := cells_at hC4.box 7 _ rfl
  have f1 := frozen_at hC4.box 7
  have d2 := cells_at hC4.box 8 _ rfl
  have f2 := frozen_at hC4.box 8
  have d3 := cells_at hC4.box 9 _ rfl
  have f3 := frozen_at hC4.box 9
  have hM4 := ((((hC4.cell 6 (.int .i64 au) #[.int .i64 fr, .int .i64 tt, .int .i64 2, .int .i64 0, .int .i64 0, .slice none 0 0, .int .i64 au, .int .i64 0, .slice none 0 0, .slice none 0 0, .int .i64 0, .int .i64 0, .slice none 0 0, .int .i64 0, .int .i64 0, .slice none 0 0, .slice none 0 0, .slice none 0 0, .int .i64 0] rfl).cell 7 (.int .i64 rd) #[.int .i64 fr, .int .i64 tt, .int .i64 2, .int .i64 0, .int .i64 0, .slice none 0 0, .int .i64 au, .int .i64 rd, .slice none 0 0, .slice none 0 0, .int .i64 0, .int .i64 0, .slice none 0 0, .int .i64 0, .int .i64 0, .slice none 0 0, .slice none 0 0, .slice none 0 0, .int .i64 0] rfl).cell 8 (.slice ba bl.length bc) #[.int .i64 fr, .int .i64 tt, .int .i64 2, .int .i64 0, .int .i64 0, .slice none 0 0, .int .i64 au, .int .i64 rd, .slice ba bl.length bc, .slice none 0 0, .int .i64 0, .int .i64 0, .slice none 0 0, .int .i64 0, .int .i64 0, .slice none 0 0, .slice none 0 0, .slice none 0 0, .int .i64 0] rfl).cell 9 (.slice pa pl.length pc) #[.int .i64 fr, .int .i64 tt, .int .i64 2, .int .i64 0, .int .i64 0, .slice none 0 0, .int .i64 au, .int .i64 rd, .slice ba bl.length bc, .slice pa pl.length pc, .int .i64 0, .int .i64 0, .slice none 0 0, .int .i64 0, .int .i64 0, .slice none 0 0, .slice none 0 0, .slice none 0 0, .int .i64 0] rfl)
  have lM : M < V3.heap.size := lt_of_heap hM3.box
  have hKq : ∀ q, M < q → ((((w4.setCell ⟨M, 6, none⟩ (.int .i64 au)).setCell ⟨M, 7, none⟩ (.int .i64 rd)).setCell ⟨M, 8, none⟩ (.slice ba bl.length bc)).setCell ⟨M, 9, none⟩ (.slice pa pl.length pc)).heap[q]? = w4.heap[q]? := fun q hq => by
    have hn : q ≠ M := by omega
    rw [heap_setCell_other _ ⟨M, 9, none⟩ q _ hn, heap_setCell_other _ ⟨M, 8, none⟩ q _ hn, heap_setCell_other _ ⟨M, 7, none⟩ q _ hn, heap_setCell_other _ ⟨M, 6, none⟩ q _ hn]
  have hGb := has_fresh hFb lM
  have hGp := has_fresh hFp lM
  have hLb1 := list_stays (G := fun q => M < q) hKq hLb hGb
  have hLp1 := list_stays (G := fun q => M < q) hKq hLp hGp
  have HGB : Hid _ := hGb
  have HGP : Hid _ := hGp
  clear hKq hLb hLp hFb hFp lM hGb hGp
  go_upto_region 39 with fail
  generalize ((((w4.setCell ⟨M, 6, none⟩ (.int .i64 au)).setCell ⟨M, 7, none⟩ (.int .i64 rd)).setCell ⟨M, 8, none⟩ (.slice ba bl.length bc)).setCell ⟨M, 9, none⟩ (.slice pa pl.length pc)) = V4 at hM4 hLb1 hLp1 ⊢
  clear d0 d1 d2 d3 f0 f1 f2 f3 hC4 hSc ho1 hM3
  have hX : Hid (MoX V4 w w.heap.size S M bs 20000) := by
    refine ⟨⟨{ fr := fr, tt := tt, ki := 2, bau := 0, bnu := 0, bta := none, btn := 0, btc := 0, hau := au, hrd := rd, hba := ba, hbn := bl.length, hbc := bc, hpa := pa, hpn := pl.length, hpc := pc, sau := 0, srd := 0, sda := none, sdn := 0, sdc := 0, cau := 0, crd := 0, cba := none, cbn := 0, cbc := 0, cpa := none, cpn := 0, cpc := 0, cva := none, cvn := 0, cvc := 0, ro := 0 }, [], bl, pl, [], [], [], []⟩, ?_, ?_, ?_, ?_⟩
    · rw [HMS.out]; exact hM4.st (by omega)
    · exact ⟨⟨rfl, rfl, rfl, rfl, rfl, rfl, Nat.zero_le _, Nat.zero_le _, Nat.zero_le _, strs_nil _, hLb1, hLp1, list_nilM _, list_nilM _, ints_nil _⟩, nilM _, rfl⟩
    · exact ⟨(fun sb so e => by cases e), HGB.out, HGP.out, (fun sb so e => by cases e), has_nil, has_nil, (fun sb so e => by cases e)⟩
    · intro h9
      rw [HMS.out] at h9
      obtain ⟨a1, a2, a3, a4⟩ := HV.out h9
      have h8 := dgS_over (dgS_over h9)
      have h6 := nx_over (nx_over h8)
      have h5 := nx_over h6
      rw [HPM.out, HK0.out, ← a1, ← a2, ← a3, ← a4, ← ttg h6, ← frg h5]
      rfl
  clear hM4 dk hLb1 hLp1
  obtain ⟨x, hM, hA, hH, hC⟩ := hX.out.out
  clear hX
  go_wp2_with fail
  refine (over_sc S bs _ _ V4 hM.sc).mono ?_
  rintro e w1 ⟨he, hb1⟩
  subst he
  dsimp only
  have hB := hM.belowW hb1
  have hA1 := hA.below hb1
  have HH : Hid (HasM (fun q => M < q) x) := hH
  have l1 := hB.l1
  have l2 := hB.l2
  have lM : M < w1.heap.size := lt_of_heap hB.box
  clear hM hA hH hb1
  obtain ⟨ba, bc, a, qS, hbS, hneS, haN, h5, h6⟩ := hB.sc.out
  generalize mS (bs, false) = ms at *
  obtain ⟨ml, msh⟩ := ms
  dsimp only at *
  cases msh with
  | true =>
    have hF : Hid (readF bs = 5) := by show _ = _; rw [HRF.out, if_pos rfl]
    clear h5 h6 hC
    go_wp2_with (refine wpList_store_row rfl 35 _ _ rfl w.heap.size #[.int .i64 0, .int .i64 0, .int .i64 0, .int .i64 0, .int .i64 0, .slice none 0 0, .int .i64 0, .int .i64 0, .slice none 0 0, .slice none 0 0, .int .i64 0, .int .i64 0, .slice none 0 0, .int .i64 0, .int .i64 0, .slice none 0 0, .slice none 0 0, .slice none 0 0, .int .i64 0] rfl rfl 35 _ hB.res sMsg' rfl (by simp [Value.oneCell']) ?_)
    have hFc := hF.out
    refine bodyPost_ret (v := .tuple #[.agg #[.int .i64 0, .int .i64 0, .int .i64 0, .int .i64 0, .int .i64 0, .slice none 0 0, .int .i64 0, .int .i64 0, .slice none 0 0, .slice none 0 0, .int .i64 0, .int .i64 0, .slice none 0 0, .int .i64 0, .int .i64 0, .slice none 0 0, .slice none 0 0, .slice none 0 0, .int .i64 0], .int .i64 5]) (results_cell_slot (fn := Try.f7) (p := 2) (q := 3) (ty := 35) rfl _ _ w.heap.size 35 _ (0, 0) _ (.int .i64 5) ⟨rfl, rfl⟩ (setRow_heap _ _ _ _ _ _ hB.res) Try.underlying35 rfl sMsg') rfl ⟨.inl ⟨by rw [hFc]; decide, by rw [hFc]⟩, (Upd.setRow hB.res).below hB.below hB.below.size (Nat.le_refl _)⟩
  | false =>
    obtain ⟨h51, h52⟩ := h5 rfl
    have HCX : Hid (x.c = pM (bs, false)) := hC rfl
    clear h5 h6 hC
    have s1 : w1.cell? ⟨S, 1, none⟩ = some (.int .i64 (a : Int)) := cells_at qS 1 _ rfl
    by_cases hml : a = bs.length
    · have hF : Hid (readF bs = 0) := by
        show _ = _
        rw [HRF.out, if_neg (by decide), if_neg (fun h => h (by rw [h52, hml]; simp))]
      have haI : ¬ (a : Int) < bs.length := by omega
      clear hml h51 h52 HRF
      have hB2 : Below w1.heap.size w1 w1.drew := (Below.refl _ _).drew
      go_upto_region 43 with fail
      have HF9 := messageFault_any x.m x.ss x.bl x.pl x.cbl x.cpl x.vl w1 hA1.at'
      go_wp2_with (refine wpList_load_row rfl 35 _ rfl M rfl 35 #[.int .i64 x.m.fr, .int .i64 x.m.tt, .int .i64 x.m.ki, .int .i64 x.m.bau, .int .i64 x.m.bnu, .slice x.m.bta x.m.btn x.m.btc, .int .i64 x.m.hau, .int .i64 x.m.hrd, .slice x.m.hba x.m.hbn x.m.hbc, .slice x.m.hpa x.m.hpn x.m.hpc, .int .i64 x.m.sau, .int .i64 x.m.srd, .slice x.m.sda x.m.sdn x.m.sdc, .int .i64 x.m.cau, .int .i64 x.m.crd, .slice x.m.cba x.m.cbn x.m.cbc, .slice x.m.cpa x.m.cpn x.m.cpc, .slice x.m.cva x.m.cvn x.m.cvc, .int .i64 x.m.ro] (0, 0) _ hB.box Try.underlying35 rfl sMsg' ?_)
      refine HF9.mono ?_
      rintro e w2 ⟨he, hb2⟩
      subst he
      dsimp only
      clear HF9 s1
      have hD := hB.belowW hb2
      have hA2 : Hid (MAt w2 x) := hA1.below hb2
      have HCR : Hid (carriedF x.m x.ss x.bl x.pl x.cbl x.cpl x.vl = x.car) := rfl
      generalize hCk : checkF x.m (carriedF x.m x.ss x.bl x.pl x.cbl x.cpl x.vl) = C at *
      have HCK : Hid (checkF x.m x.car = C) := hCk
      clear hCk
      by_cases hc0 : C = 0
      · subst hc0
        go_wp2_with (first | refine wpList_load_row rfl 35 _ rfl M rfl 35 #[.int .i64 x.m.fr, .int .i64 x.m.tt, .int .i64 x.m.ki, .int .i64 x.m.bau, .int .i64 x.m.bnu, .slice x.m.bta x.m.btn x.m.btc, .int .i64 x.m.hau, .int .i64 x.m.hrd, .slice x.m.hba x.m.hbn x.m.hbc, .slice x.m.hpa x.m.hpn x.m.hpc, .int .i64 x.m.sau, .int .i64 x.m.srd, .slice x.m.sda x.m.sdn x.m.sdc, .int .i64 x.m.cau, .int .i64 x.m.crd, .slice x.m.cba x.m.cbn x.m.cbc, .slice x.m.cpa x.m.cpn x.m.cpc, .slice x.m.cva x.m.cvn x.m.cvc, .int .i64 x.m.ro] (0, 0) _ hD.box Try.underlying35 rfl sMsg' ?_ | refine wpList_store_row rfl 35 _ _ rfl w.heap.size #[.int .i64 x.m.fr, .int .i64 x.m.tt, .int .i64 x.m.ki, .int .i64 x.m.bau, .int .i64 x.m.bnu, .slice x.m.bta x.m.btn x.m.btc, .int .i64 x.m.hau, .int .i64 x.m.hrd, .slice x.m.hba x.m.hbn x.m.hbc, .slice x.m.hpa x.m.hpn x.m.hpc, .int .i64 x.m.sau, .int .i64 x.m.srd, .slice x.m.sda x.m.sdn x.m.sdc, .int .i64 x.m.cau, .int .i64 x.m.crd, .slice x.m.cba x.m.cbn x.m.cbc, .slice x.m.cpa x.m.cpn x.m.cpc, .slice x.m.cva x.m.cvn x.m.cvc, .int .i64 x.m.ro] rfl rfl 35 _ hD.res sMsg' rfl (by simp [Value.oneCell']) ?_)
        refine bodyPost_ret (v := .tuple #[.agg #[.int .i64 x.m.fr, .int .i64 x.m.tt, .int .i64 x.m.ki, .int .i64 x.m.bau, .int .i64 x.m.bnu, .slice x.m.bta x.m.btn x.m.btc, .int .i64 x.m.hau, .int .i64 x.m.hrd, .slice x.m.hba x.m.hbn x.m.hbc, .slice x.m.hpa x.m.hpn x.m.hpc, .int .i64 x.m.sau, .int .i64 x.m.srd, .slice x.m.sda x.m.sdn x.m.sdc, .int .i64 x.m.cau, .int .i64 x.m.crd, .slice x.m.cba x.m.cbn x.m.cbc, .slice x.m.cpa x.m.cpn x.m.cpc, .slice x.m.cva x.m.cvn x.m.cvc, .int .i64 x.m.ro], .int .i64 0]) (results_cell_slot (fn := Try.f7) (p := 2) (q := 3) (ty := 35) rfl _ _ w.heap.size 35 _ (0, 0) _ (.int .i64 0) ⟨rfl, rfl⟩ (setRow_heap _ _ _ _ _ _ hD.res) Try.underlying35 rfl sMsg') rfl ⟨.inr ⟨hF.out, x, HCX.out, ?_, HH.out.mono (fun q hq => by omega), .inl ⟨HCK.out, rfl⟩⟩, (Upd.setRow hD.res).below hD.below hD.below.size (Nat.le_refl _)⟩
        exact hA2.out.setRow (B := M + 1) (HH.out.mono (fun q hq => by omega)) (by omega)
      · have hcn : (C != 0) = true := by simpa using hc0
        have HC0 : Hid (C ≠ 0) := hc0
        go_wp2_with (refine wpList_store_row rfl 35 _ _ rfl w.heap.size #[.int .i64 0, .int .i64 0, .int .i64 0, .int .i64 0, .int .i64 0, .slice none 0 0, .int .i64 0, .int .i64 0, .slice none 0 0, .slice none 0 0, .int .i64 0, .int .i64 0, .slice none 0 0, .int .i64 0, .int .i64 0, .slice none 0 0, .slice none 0 0, .slice none 0 0, .int .i64 0] rfl rfl 35 _ hD.res sMsg' rfl (by simp [Value.oneCell']) ?_)
        refine bodyPost_ret (v := .tuple #[.agg #[.int .i64 0, .int .i64 0, .int .i64 0, .int .i64 0, .int .i64 0, .slice none 0 0, .int .i64 0, .int .i64 0, .slice none 0 0, .slice none 0 0, .int .i64 0, .int .i64 0, .slice none 0 0, .int .i64 0, .int .i64 0, .slice none 0 0, .slice none 0 0, .slice none 0 0, .int .i64 0], .int .i64 C]) (results_cell_slot (fn := Try.f7) (p := 2) (q := 3) (ty := 35) rfl _ _ w.heap.size 35 _ (0, 0) _ (.int .i64 C) ⟨rfl, rfl⟩ (setRow_heap _ _ _ _ _ _ hD.res) Try.underlying35 rfl sMsg') rfl ⟨.inr ⟨hF.out, x, HCX.out, ?_, HH.out.mono (fun q hq => by omega), .inr ⟨by rw [HCK.out]; exact HC0.out, by rw [HCK.out]⟩⟩, (Upd.setRow hD.res).below hD.below hD.below.size (Nat.le_refl _)⟩
        exact hA2.out.setRow (B := M + 1) (HH.out.mono (fun q hq => by omega)) (by omega)
    · have hF : Hid (readF bs = 4) := by
        show _ = _
        rw [HRF.out, if_neg (by decide), if_pos (fun h => hml (by rw [h52, List.drop_eq_nil_iff] at h; omega))]
      have haI : (a : Int) < bs.length := by omega
      clear hml h51 h52 HRF
      go_wp2_with (refine wpList_store_row rfl 35 _ _ rfl w.heap.size #[.int .i64 0, .int .i64 0, .int .i64 0, .int .i64 0, .int .i64 0, .slice none 0 0, .int .i64 0, .int .i64 0, .slice none 0 0, .slice none 0 0, .int .i64 0, .int .i64 0, .slice none 0 0, .int .i64 0, .int .i64 0, .slice none 0 0, .slice none 0 0, .slice none 0 0, .int .i64 0] rfl rfl 35 _ hB.res sMsg' rfl (by simp [Value.oneCell']) ?_)
      have hFc := hF.out
      refine bodyPost_ret (v := .tuple #[.agg #[.int .i64 0, .int .i64 0, .int .i64 0, .int .i64 0, .int .i64 0, .slice none 0 0, .int .i64 0, .int .i64 0, .slice none 0 0, .slice none 0 0, .int .i64 0, .int .i64 0, .slice none 0 0, .int .i64 0, .int .i64 0, .slice none 0 0, .slice none 0 0, .slice none 0 0, .int .i64 0], .int .i64 4]) (results_cell_slot (fn := Try.f7) (p := 2) (q := 3) (ty := 35) rfl _ _ w.heap.size 35 _ (0, 0) _ (.int .i64 4) ⟨rfl, rfl⟩ (setRow_heap _ _ _ _ _ _ hB.res) Try.underlying35 rfl sMsg') rfl ⟨.inl ⟨by rw [hFc]; decide, by rw [hFc]⟩, (Upd.setRow hB.res).below hB.below hB.below.size (Nat.le_refl _)⟩
end Go.Proofs.Ythlknldicpeobaa

namespace Go.Proofs.Ythlknldicpeobaa
open Go.RowKit

set_option maxRecDepth 100000 in
set_option maxHeartbeats 8000000 in
theorem mof_3 (bs : List Int) (sb so cap : Nat) (w : World) (hs : SliceAt w (some ⟨sb, so, none⟩) cap bs) (hu : U8s bs) (hl : bs.length ≤ 4000) (hpos : 0 < bs.length) (hk : bs.getD 0 0 = 3) :
    Calls Try.prog 7 #[.slice (some ⟨sb, so, none⟩) bs.length cap] w fun e w' => DecIs w w' e bs := by
  have hne : bs ≠ [] := by intro h; rw [h] at hpos; simp at hpos
  have hK0 : nB 1 (bs, false) = 3 := by rw [nB1_first hne, hk]
  have HRF : Hid (readF bs = if (mS (bs, false)).2 = true then 5 else if (mS (bs, false)).1 ≠ [] then 4 else 0) := by
    show _ = _
    rw [readF, if_neg (by omega), if_neg hne, hk, if_neg (by decide)]
  have HMS : Hid (mS (bs, false) = nx 32 (nx 3 (nx 1 (nx 1 (nx 1 (nx 1 (bs, false))))))) := by
    show _ = _
    rw [mS, hK0]; rfl
  have HPM : Hid (pM (bs, false) = ⟨nB 1 (nx 1 (bs, false)), nB 1 (nx 1 (nx 1 (bs, false))), nB 1 (bs, false), 0, 0, [], 0, 0, [], [], nB 1 (nx 1 (nx 1 (nx 1 (bs, false)))), nB 3 (nx 1 (nx 1 (nx 1 (nx 1 (bs, false))))), tT 32 (nx 3 (nx 1 (nx 1 (nx 1 (nx 1 (bs, false)))))), 0, 0, [], [], [], 0⟩) := by
    show _ = _
    rw [pM, hK0]; rfl
  have HN1 : Hid ((nx 1 (bs, false)).2 = false) := (tk_ok (n := 1) (l := bs) (by omega)).2.2
  have HK0 : Hid (nB 1 (bs, false) = 3) := hK0
  have c0 : w.cell? ⟨sb, so, none⟩ = some (.int .u8 3) := by
    rcases hs.bytes with h | ⟨sb', so', e, h⟩
    · rw [h] at hpos; simp at hpos
    · cases e
      have := h 0 hpos
      rw [hk] at this
      simpa using this
  have hlI : ¬ (4000 : Int) < bs.length := by omega
  have hpI : ((bs.length : Int) == 0) = false := by rw [beq_eq_false_iff_ne]; omega
  have hpJ : (0 : Int) < bs.length := by omega
  have hblt : sb < w.heap.size := block_lt_of_cell c0
  clear hk hK0 hne
  go_enter Try.func7, Try.ntmps7
  go_upto_region 8 with (first
    | (go_at_call 16; refine (in_true _ _ _ _ (by decide)).mono ?_; rintro e w9 ⟨rfl, rfl⟩))
  have hA1 : Below w.heap.size w ((w.alloc (.cells #[.int .i64 0, .int .i64 0, .int .i64 0, .int .i64 0, .int .i64 0, .slice none 0 0, .int .i64 0, .int .i64 0, .slice none 0 0, .slice none 0 0, .int .i64 0, .int .i64 0, .slice none 0 0, .int .i64 0, .int .i64 0, .slice none 0 0, .slice none 0 0, .slice none 0 0, .int .i64 0] 35)).alloc (.cells #[.slice (some ⟨sb, so, none⟩) bs.length cap, .int .i64 0] 55)) := ((Below.refl _ _).alloc (Nat.le_refl _) _).alloc (by simp) _
  have qR := heap_alloc2_old w (.cells #[.int .i64 0, .int .i64 0, .int .i64 0, .int .i64 0, .int .i64 0, .slice none 0 0, .int .i64 0, .int .i64 0, .slice none 0 0, .slice none 0 0, .int .i64 0, .int .i64 0, .slice none 0 0, .int .i64 0, .int .i64 0, .slice none 0 0, .slice none 0 0, .slice none 0 0, .int .i64 0] 35) (.cells #[.slice (some ⟨sb, so, none⟩) bs.length cap, .int .i64 0] 55)
  have qS := heap_alloc2_new w (.cells #[.int .i64 0, .int .i64 0, .int .i64 0, .int .i64 0, .int .i64 0, .slice none 0 0, .int .i64 0, .int .i64 0, .slice none 0 0, .slice none 0 0, .int .i64 0, .int .i64 0, .slice none 0 0, .int .i64 0, .int .i64 0, .slice none 0 0, .slice none 0 0, .slice none 0 0, .int .i64 0] 35) (.cells #[.slice (some ⟨sb, so, none⟩) bs.length cap, .int .i64 0] 55)
  have hz1 : ((w.alloc (.cells #[.int .i64 0, .int .i64 0, .int .i64 0, .int .i64 0, .int .i64 0, .slice none 0 0, .int .i64 0, .int .i64 0, .slice none 0 0, .slice none 0 0, .int .i64 0, .int .i64 0, .slice none 0 0, .int .i64 0, .int .i64 0, .slice none 0 0, .slice none 0 0, .slice none 0 0, .int .i64 0] 35)).alloc (.cells #[.slice (some ⟨sb, so, none⟩) bs.length cap, .int .i64 0] 55)).heap.size = w.heap.size + 2 := by simp
  generalize (w.alloc (.cells #[.int .i64 0, .int .i64 0, .int .i64 0, .int .i64 0, .int .i64 0, .slice none 0 0, .int .i64 0, .int .i64 0, .slice none 0 0, .slice none 0 0, .int .i64 0, .int .i64 0, .slice none 0 0, .int .i64 0, .int .i64 0, .slice none 0 0, .slice none 0 0, .slice none 0 0, .int .i64 0] 35)).alloc (.cells #[.slice (some ⟨sb, so, none⟩) bs.length cap, .int .i64 0] 55) = W1 at hA1 qR qS hz1 ⊢
  have hSc1 : ScAt W1 (w.heap.size + 1) bs (bs, false) 0 := ⟨_, _, 0, qS, hs.below hA1, (fun sb' so' e => by cases e; omega), Nat.le_refl _, (fun _ => ⟨Nat.zero_le _, rfl⟩), (fun h => by cases h)⟩
  have qz : (W1.alloc (.cells #[.int .i64 0, .int .i64 0, .int .i64 0, .int .i64 0, .int .i64 0, .slice none 0 0, .int .i64 0, .int .i64 0, .slice none 0 0, .slice none 0 0, .int .i64 0, .int .i64 0, .slice none 0 0, .int .i64 0, .int .i64 0, .slice none 0 0, .slice none 0 0, .slice none 0 0, .int .i64 0] 35)).heap[w.heap.size + 2]? = some (.cells #[.int .i64 0, .int .i64 0, .int .i64 0, .int .i64 0, .int .i64 0, .slice none 0 0, .int .i64 0, .int .i64 0, .slice none 0 0, .slice none 0 0, .int .i64 0, .int .i64 0, .slice none 0 0, .int .i64 0, .int .i64 0, .slice none 0 0, .slice none 0 0, .slice none 0 0, .int .i64 0] 35 (0, 0)) := by rw [← hz1]; exact heap_alloc_new W1 (.cells #[.int .i64 0, .int .i64 0, .int .i64 0, .int .i64 0, .int .i64 0, .slice none 0 0, .int .i64 0, .int .i64 0, .slice none 0 0, .slice none 0 0, .int .i64 0, .int .i64 0, .slice none 0 0, .int .i64 0, .int .i64 0, .slice none 0 0, .slice none 0 0, .slice none 0 0, .int .i64 0] 35)
  have hM0 : MoB ((W1.alloc (.cells #[.int .i64 0, .int .i64 0, .int .i64 0, .int .i64 0, .int .i64 0, .slice none 0 0, .int .i64 0, .int .i64 0, .slice none 0 0, .slice none 0 0, .int .i64 0, .int .i64 0, .slice none 0 0, .int .i64 0, .int .i64 0, .slice none 0 0, .slice none 0 0, .slice none 0 0, .int .i64 0] 35)).setRow (w.heap.size + 2) #[.int .i64 0, .int .i64 0, .int .i64 0, .int .i64 0, .int .i64 0, .slice none 0 0, .int .i64 0, .int .i64 0, .slice none 0 0, .slice none 0 0, .int .i64 0, .int .i64 0, .slice none 0 0, .int .i64 0, .int .i64 0, .slice none 0 0, .slice none 0 0, .slice none 0 0, .int .i64 0]) w w.heap.size (w.heap.size + 1) (w.heap.size + 2) bs (bs, false) 0 #[.int .i64 0, .int .i64 0, .int .i64 0, .int .i64 0, .int .i64 0, .slice none 0 0, .int .i64 0, .int .i64 0, .slice none 0 0, .slice none 0 0, .int .i64 0, .int .i64 0, .slice none 0 0, .int .i64 0, .int .i64 0, .slice none 0 0, .slice none 0 0, .slice none 0 0, .int .i64 0] := by
    have hb : Below W1.heap.size W1 ((W1.alloc (.cells #[.int .i64 0, .int .i64 0, .int .i64 0, .int .i64 0, .int .i64 0, .slice none 0 0, .int .i64 0, .int .i64 0, .slice none 0 0, .slice none 0 0, .int .i64 0, .int .i64 0, .slice none 0 0, .int .i64 0, .int .i64 0, .slice none 0 0, .slice none 0 0, .slice none 0 0, .int .i64 0] 35)).setRow (w.heap.size + 2) #[.int .i64 0, .int .i64 0, .int .i64 0, .int .i64 0, .int .i64 0, .slice none 0 0, .int .i64 0, .int .i64 0, .slice none 0 0, .slice none 0 0, .int .i64 0, .int .i64 0, .slice none 0 0, .int .i64 0, .int .i64 0, .slice none 0 0, .slice none 0 0, .slice none 0 0, .int .i64 0]) := ⟨rfl, rfl, rfl, by simp [World.setRow], fun k hk => (setRow_other _ _ _ _ (by omega)).trans (Below.heap_alloc _ _ _ hk)⟩
    exact ⟨setRow_heap _ _ _ _ _ _ qz, (hb.block _ (by omega)).trans qR, hSc1.below hb, hA1.trans (hb.mono (by omega)), Nat.le_refl _, by omega, by omega⟩
  go_upto_region 9 with (refine wpList_store_row rfl 35 _ _ rfl (w.heap.size + 2) #[.int .i64 0, .int .i64 0, .int .i64 0, .int .i64 0, .int .i64 0, .slice none 0 0, .int .i64 0, .int .i64 0, .slice none 0 0, .slice none 0 0, .int .i64 0, .int .i64 0, .slice none 0 0, .int .i64 0, .int .i64 0, .slice none 0 0, .slice none 0 0, .slice none 0 0, .int .i64 0] rfl rfl 35 _ qz sMsg' rfl (by simp [Value.oneCell']) ?_)
  generalize (W1.alloc (.cells #[.int .i64 0, .int .i64 0, .int .i64 0, .int .i64 0, .int .i64 0, .slice none 0 0, .int .i64 0, .int .i64 0, .slice none 0 0, .slice none 0 0, .int .i64 0, .int .i64 0, .slice none 0 0, .int .i64 0, .int .i64 0, .slice none 0 0, .slice none 0 0, .slice none 0 0, .int .i64 0] 35)).setRow (w.heap.size + 2) #[.int .i64 0, .int .i64 0, .int .i64 0, .int .i64 0, .int .i64 0, .slice none 0 0, .int .i64 0, .int .i64 0, .slice none 0 0, .slice none 0 0, .int .i64 0, .int .i64 0, .slice none 0 0, .int .i64 0, .int .i64 0, .slice none 0 0, .slice none 0 0, .slice none 0 0, .int .i64 0] = V0 at hM0 ⊢
  clear qz qR qS hSc1 hA1 hz1 c0 hblt hpI hs
  generalize hMM : w.heap.size + 2 = M at hM0 ⊢
  generalize hSS : w.heap.size + 1 = S at hM0 ⊢
  clear hMM hSS
  go_wp2_with fail
  refine (num_sc S 1 bs (bs, false) _ V0 hM0.sc hu (by omega) (by omega)).mono ?_
  intro e w1 h1
  obtain ⟨ki, he, ki0, ki1, ki2, kig, hSc, ho1⟩ := h1.out
  subst he
  dsimp only
  clear h1
  have hC1 := hM0.call ho1 hSc
  have dj := cells_at hC1.box 2 _ rfl
  have fj := frozen_at hC1.box 2
  have hM1 := hC1.cell 2 (.int .i64 ki) #[.int .i64 0, .int .i64 0, .int .i64 ki, .int .i64 0, .int .i64 0, .slice none 0 0, .int .i64 0, .int .i64 0, .slice none 0 0, .slice none 0 0, .int .i64 0, .int .i64 0, .slice none 0 0, .int .i64 0, .int .i64 0, .slice none 0 0, .slice none 0 0, .slice none 0 0, .int .i64 0] rfl
  go_upto_region 10 with fail
  generalize w1.setCell ⟨M, 2, none⟩ (.int .i64 ki) = V1 at hM1 ⊢
  clear dj fj hC1 hSc ho1 hM0
  go_wp2_with fail
  refine (num_sc S 1 bs (nx 1 (bs, false)) _ V1 hM1.sc hu (by omega) (by omega)).mono ?_
  intro e w2 h1
  obtain ⟨fr, he, fr0, fr1, fr2, frg, hSc, ho1⟩ := h1.out
  subst he
  dsimp only
  clear h1
  have hC2 := hM1.call ho1 hSc
  have dj := cells_at hC2.box 0 _ rfl
  have fj := frozen_at hC2.box 0
  have hM2 := hC2.cell 0 (.int .i64 fr) #[.int .i64 fr, .int .i64 0, .int .i64 ki, .int .i64 0, .int .i64 0, .slice none 0 0, .int .i64 0, .int .i64 0, .slice none 0 0, .slice none 0 0, .int .i64 0, .int .i64 0, .slice none 0 0, .int .i64 0, .int .i64 0, .slice none 0 0, .slice none 0 0, .slice none 0 0, .int .i64 0] rfl
  go_upto_region 11 with fail
  generalize w2.setCell ⟨M, 0, none⟩ (.int .i64 fr) = V2 at hM2 ⊢
  clear dj fj hC2 hSc ho1 hM1
  go_wp2_with fail
  refine (num_sc S 1 bs (nx 1 (nx 1 (bs, false))) _ V2 hM2.sc hu (by omega) (by omega)).mono ?_
  intro e w3 h1
  obtain ⟨tt, he, tt0, tt1, tt2, ttg, hSc, ho1⟩ := h1.out
  subst he
  dsimp only
  clear h1
  have hC3 := hM2.call ho1 hSc
  have dj := cells_at hC3.box 1 _ rfl
  have fj := frozen_at hC3.box 1
  have hM3 := hC3.cell 1 (.int .i64 tt) #[.int .i64 fr, .int .i64 tt, .int .i64 ki, .int .i64 0, .int .i64 0, .slice none 0 0, .int .i64 0, .int .i64 0, .slice none 0 0, .slice none 0 0, .int .i64 0, .int .i64 0, .slice none 0 0, .int .i64 0, .int .i64 0, .slice none 0 0, .slice none 0 0, .slice none 0 0, .int .i64 0] rfl
  go_upto_region 12 with fail
  generalize w3.setCell ⟨M, 1, none⟩ (.int .i64 tt) = V3 at hM3 ⊢
  clear dj fj hC3 hSc ho1 hM2
  have hki : ki = 3 := (kig HN1.out).trans HK0.out
  subst hki
  have dk := cells_at hM3.box 2 _ rfl
  go_wp2_with fail
  refine (num_sc S 1 bs (nx 1 (nx 1 (nx 1 (bs, false)))) _ V3 hM3.sc hu (by omega) (by omega)).mono ?_
  intro e w4 h1
  obtain ⟨au, he, au0, au1, au2, aug, hSc, ho1⟩ := h1.out
  subst he
  dsimp only
  clear h1
  have hC4 := hM3.call ho1 hSc
  have dj := cells_at hC4.box 10 _ rfl
  have fj := frozen_at hC4.box 10
  have hM4 := hC4.cell 10 (.int .i64 au) #[.int .i64 fr, .int .i64 tt, .int .i64 3, .int .i64 0, .int .i64 0, .slice none 0 0, .int .i64 0, .int .i64 0, .slice none 0 0, .slice none 0 0, .int .i64 au, .int .i64 0, .slice none 0 0, .int .i64 0, .int .i64 0, .slice none 0 0, .slice none 0 0, .slice none 0 0, .int .i64 0] rfl
  go_upto_region 27 with fail
  generalize w4.setCell ⟨M, 10, none⟩ (.int .i64 au) = V4 at hM4 ⊢
  clear dj fj hC4 hSc ho1 hM3
  go_wp2_with fail
  refine (num_sc S 3 bs (nx 1 (nx 1 (nx 1 (nx 1 (bs, false))))) _ V4 hM4.sc hu (by omega) (by omega)).mono ?_
  intro e w5 h1
  obtain ⟨rd, he, rd0, rd1, rd2, rdg, hSc, ho1⟩ := h1.out
  subst he
  dsimp only
  clear h1
  have hC5 := hM4.call ho1 hSc
  have dj := cells_at hC5.box 11 _ rfl
  have fj := frozen_at hC5.box 11
  have hM5 := hC5.cell 11 (.int .i64 rd) #[.int .i64 fr, .int .i64 tt, .int .i64 3, .int .i64 0, .int .i64 0, .slice none 0 0, .int .i64 0, .int .i64 0, .slice none 0 0, .slice none 0 0, .int .i64 au, .int .i64 rd, .slice none 0 0, .int .i64 0, .int .i64 0, .slice none 0 0, .slice none 0 0, .slice none 0 0, .int .i64 0] rfl
  go_upto_region 28 with fail
  generalize w5.setCell ⟨M, 11, none⟩ (.int .i64 rd) = V5 at hM5 ⊢
  clear dj fj hC5 hSc ho1 hM4
  go_wp2_with fail
  refine (next_sc S 32 bs (nx 3 (nx 1 (nx 1 (nx 1 (nx 1 (bs, false)))))) _ V5 hM5.sc (by omega) (by omega)).mono ?_
  intro e w6 h1
  obtain ⟨ra, rc, t, he, hS6, hf6, hta, htb, hSc, ho1⟩ := h1.out
  subst he
  dsimp only
  clear h1
  have hC6 := hM5.call ho1 hSc
  have htl : t.length ≤ 1000 := by
    cases h9 : (nx 32 (nx 3 (nx 1 (nx 1 (nx 1 (nx 1 (bs, false))))))).2 with
    | true => rw [htb h9]; simp
    | false => rw [hta h9]; exact Nat.le_trans tkT_len (by omega)
  have HT : Hid ((nx 32 (nx 3 (nx 1 (nx 1 (nx 1 (nx 1 (bs, false))))))).2 = false → t = tT 32 (nx 3 (nx 1 (nx 1 (nx 1 (nx 1 (bs, false))))))) := hta
  have dj := cells_at hC6.box 12 _ rfl
  have fj := frozen_at hC6.box 12
  have hM6 := hC6.cell 12 (.slice ra t.length rc) #[.int .i64 fr, .int .i64 tt, .int .i64 3, .int .i64 0, .int .i64 0, .slice none 0 0, .int .i64 0, .int .i64 0, .slice none 0 0, .slice none 0 0, .int .i64 au, .int .i64 rd, .slice ra t.length rc, .int .i64 0, .int .i64 0, .slice none 0 0, .slice none 0 0, .slice none 0 0, .int .i64 0] rfl
  have lM : M < V5.heap.size := lt_of_heap hM5.box
  have hfr : Hid (∀ sb so, ra = some ⟨sb, so, none⟩ → M < sb) := by
    show ∀ sb, _
    exact fun sb so e => by have := (hf6 sb so e).1; omega
  have hS7 : SliceAt (w6.setCell ⟨M, 12, none⟩ (.slice ra t.length rc)) ra rc t := slice_stays (G := fun q => M < q) (fun k hk => heap_setCell_other w6 ⟨M, 12, none⟩ k _ (by show k ≠ M; omega)) hS6 (fun sb so e _ => hfr.out sb so e)
  clear hta htb hf6 hS6 lM
  go_upto_region 39 with fail
  generalize w6.setCell ⟨M, 12, none⟩ (.slice ra t.length rc) = V6 at hM6 hS7 ⊢
  clear dj fj hC6 hSc ho1 hM5
  have hX : Hid (MoX V6 w w.heap.size S M bs 100) := by
    refine ⟨⟨{ fr := fr, tt := tt, ki := 3, bau := 0, bnu := 0, bta := none, btn := 0, btc := 0, hau := 0, hrd := 0, hba := none, hbn := 0, hbc := 0, hpa := none, hpn := 0, hpc := 0, sau := au, srd := rd, sda := ra, sdn := t.length, sdc := rc, cau := 0, crd := 0, cba := none, cbn := 0, cbc := 0, cpa := none, cpn := 0, cpc := 0, cva := none, cvn := 0, cvc := 0, ro := 0 }, [], [], [], [], [], t, []⟩, ?_, ?_, ?_, ?_⟩
    · rw [HMS.out]; exact hM6.st (by omega)
    · exact ⟨⟨rfl, rfl, rfl, rfl, rfl, rfl, Nat.zero_le _, Nat.zero_le _, (by show t.length ≤ _; omega), strs_nil _, list_nilM _, list_nilM _, list_nilM _, list_nilM _, ints_nil _⟩, hS7, rfl⟩
    · exact ⟨(fun sb so e => by cases e), has_nil, has_nil, (fun sb so e _ => hfr.out sb so e), has_nil, has_nil, (fun sb so e => by cases e)⟩
    · intro h9
      rw [HMS.out] at h9
      have h8 := nx_over h9
      have h7 := nx_over h8
      have h6 := nx_over h7
      have h5 := nx_over h6
      rw [HPM.out, HK0.out, ← HT.out h9, ← rdg h8, ← aug h7, ← ttg h6, ← frg h5]
      rfl
  clear hM6 dk hS7
  obtain ⟨x, hM, hA, hH, hC⟩ := hX.out.out
  clear hX
  go_wp2_with fail
  refine (over_sc S bs _ _ V6 hM.sc).mono ?_
  rintro e w1 ⟨he, hb1⟩
  subst he
  dsimp only
  have hB := hM.belowW hb1
  have hA1 := hA.below hb1
  have HH : Hid (HasM (fun q => M < q) x) := hH
  have l1 := hB.l1
  have l2 := hB.l2
  have lM : M < w1.heap.size := lt_of_heap hB.box
  clear hM hA hH hb1
  obtain ⟨ba, bc, a, qS, hbS, hneS, haN, h5, h6⟩ := hB.sc.out
  generalize mS (bs, false) = ms at *
  obtain ⟨ml, msh⟩ := ms
  dsimp only at *
  cases msh with
  | true =>
    have hF : Hid (readF bs = 5) := by show _ = _; rw [HRF.out, if_pos rfl]
    clear h5 h6 hC
    go_wp2_with (refine wpList_store_row rfl 35 _ _ rfl w.heap.size #[.int .i64 0, .int .i64 0, .int .i64 0, .int .i64 0, .int .i64 0, .slice none 0 0, .int .i64 0, .int .i64 0, .slice none 0 0, .slice none 0 0, .int .i64 0, .int .i64 0, .slice none 0 0, .int .i64 0, .int .i64 0, .slice none 0 0, .slice none 0 0, .slice none 0 0, .int .i64 0] rfl rfl 35 _ hB.res sMsg' rfl (by simp [Value.oneCell']) ?_)
    have hFc := hF.out
    refine bodyPost_ret (v := .tuple #[.agg #[.int .i64 0, .int .i64 0, .int .i64 0, .int .i64 0, .int .i64 0, .slice none 0 0, .int .i64 0, .int .i64 0, .slice none 0 0, .slice none 0 0, .int .i64 0, .int .i64 0, .slice none 0 0, .int .i64 0, .int .i64 0, .slice none 0 0, .slice none 0 0, .slice none 0 0, .int .i64 0], .int .i64 5]) (results_cell_slot (fn := Try.f7) (p := 2) (q := 3) (ty := 35) rfl _ _ w.heap.size 35 _ (0, 0) _ (.int .i64 5) ⟨rfl, rfl⟩ (setRow_heap _ _ _ _ _ _ hB.res) Try.underlying35 rfl sMsg') rfl ⟨.inl ⟨by rw [hFc]; decide, by rw [hFc]⟩, (Upd.setRow hB.res).below hB.below hB.below.size (Nat.le_refl _)⟩
  | false =>
    obtain ⟨h51, h52⟩ := h5 rfl
    have HCX : Hid (x.c = pM (bs, false)) := hC rfl
    clear h5 h6 hC
    have s1 : w1.cell? ⟨S, 1, none⟩ = some (.int .i64 (a : Int)) := cells_at qS 1 _ rfl
    by_cases hml : a = bs.length
    · have hF : Hid (readF bs = 0) := by
        show _ = _
        rw [HRF.out, if_neg (by decide), if_neg (fun h => h (by rw [h52, hml]; simp))]
      have haI : ¬ (a : Int) < bs.length := by omega
      clear hml h51 h52 HRF
      have hB2 : Below w1.heap.size w1 w1.drew := (Below.refl _ _).drew
      go_upto_region 43 with fail
      have HF9 := messageFault_any x.m x.ss x.bl x.pl x.cbl x.cpl x.vl w1 hA1.at'
      go_wp2_with (refine wpList_load_row rfl 35 _ rfl M rfl 35 #[.int .i64 x.m.fr, .int .i64 x.m.tt, .int .i64 x.m.ki, .int .i64 x.m.bau, .int .i64 x.m.bnu, .slice x.m.bta x.m.btn x.m.btc, .int .i64 x.m.hau, .int .i64 x.m.hrd, .slice x.m.hba x.m.hbn x.m.hbc, .slice x.m.hpa x.m.hpn x.m.hpc, .int .i64 x.m.sau, .int .i64 x.m.srd, .slice x.m.sda x.m.sdn x.m.sdc, .int .i64 x.m.cau, .int .i64 x.m.crd, .slice x.m.cba x.m.cbn x.m.cbc, .slice x.m.cpa x.m.cpn x.m.cpc, .slice x.m.cva x.m.cvn x.m.cvc, .int .i64 x.m.ro] (0, 0) _ hB.box Try.underlying35 rfl sMsg' ?_)
      refine HF9.mono ?_
      rintro e w2 ⟨he, hb2⟩
      subst he
      dsimp only
      clear HF9 s1
      have hD := hB.belowW hb2
      have hA2 : Hid (MAt w2 x) := hA1.below hb2
      have HCR : Hid (carriedF x.m x.ss x.bl x.pl x.cbl x.cpl x.vl = x.car) := rfl
      generalize hCk : checkF x.m (carriedF x.m x.ss x.bl x.pl x.cbl x.cpl x.vl) = C at *
      have HCK : Hid (checkF x.m x.car = C) := hCk
      clear hCk
      by_cases hc0 : C = 0
      · subst hc0
        go_wp2_with (first | refine wpList_load_row rfl 35 _ rfl M rfl 35 #[.int .i64 x.m.fr, .int .i64 x.m.tt, .int .i64 x.m.ki, .int .i64 x.m.bau, .int .i64 x.m.bnu, .slice x.m.bta x.m.btn x.m.btc, .int .i64 x.m.hau, .int .i64 x.m.hrd, .slice x.m.hba x.m.hbn x.m.hbc, .slice x.m.hpa x.m.hpn x.m.hpc, .int .i64 x.m.sau, .int .i64 x.m.srd, .slice x.m.sda x.m.sdn x.m.sdc, .int .i64 x.m.cau, .int .i64 x.m.crd, .slice x.m.cba x.m.cbn x.m.cbc, .slice x.m.cpa x.m.cpn x.m.cpc, .slice x.m.cva x.m.cvn x.m.cvc, .int .i64 x.m.ro] (0, 0) _ hD.box Try.underlying35 rfl sMsg' ?_ | refine wpList_store_row rfl 35 _ _ rfl w.heap.size #[.int .i64 x.m.fr, .int .i64 x.m.tt, .int .i64 x.m.ki, .int .i64 x.m.bau, .int .i64 x.m.bnu, .slice x.m.bta x.m.btn x.m.btc, .int .i64 x.m.hau, .int .i64 x.m.hrd, .slice x.m.hba x.m.hbn x.m.hbc, .slice x.m.hpa x.m.hpn x.m.hpc, .int .i64 x.m.sau, .int .i64 x.m.srd, .slice x.m.sda x.m.sdn x.m.sdc, .int .i64 x.m.cau, .int .i64 x.m.crd, .slice x.m.cba x.m.cbn x.m.cbc, .slice x.m.cpa x.m.cpn x.m.cpc, .slice x.m.cva x.m.cvn x.m.cvc, .int .i64 x.m.ro] rfl rfl 35 _ hD.res sMsg' rfl (by simp [Value.oneCell']) ?_)
        refine bodyPost_ret (v := .tuple #[.agg #[.int .i64 x.m.fr, .int .i64 x.m.tt, .int .i64 x.m.ki, .int .i64 x.m.bau, .int .i64 x.m.bnu, .slice x.m.bta x.m.btn x.m.btc, .int .i64 x.m.hau, .int .i64 x.m.hrd, .slice x.m.hba x.m.hbn x.m.hbc, .slice x.m.hpa x.m.hpn x.m.hpc, .int .i64 x.m.sau, .int .i64 x.m.srd, .slice x.m.sda x.m.sdn x.m.sdc, .int .i64 x.m.cau, .int .i64 x.m.crd, .slice x.m.cba x.m.cbn x.m.cbc, .slice x.m.cpa x.m.cpn x.m.cpc, .slice x.m.cva x.m.cvn x.m.cvc, .int .i64 x.m.ro], .int .i64 0]) (results_cell_slot (fn := Try.f7) (p := 2) (q := 3) (ty := 35) rfl _ _ w.heap.size 35 _ (0, 0) _ (.int .i64 0) ⟨rfl, rfl⟩ (setRow_heap _ _ _ _ _ _ hD.res) Try.underlying35 rfl sMsg') rfl ⟨.inr ⟨hF.out, x, HCX.out, ?_, HH.out.mono (fun q hq => by omega), .inl ⟨HCK.out, rfl⟩⟩, (Upd.setRow hD.res).below hD.below hD.below.size (Nat.le_refl _)⟩
        exact hA2.out.setRow (B := M + 1) (HH.out.mono (fun q hq => by omega)) (by omega)
      · have hcn : (C != 0) = true := by simpa using hc0
        have HC0 : Hid (C ≠ 0) := hc0
        go_wp2_with (refine wpList_store_row rfl 35 _ _ rfl w.heap.size #[.int .i64 0, .int .i64 0, .int .i64 0, .int .i64 0, .int .i64 0, .slice none 0 0, .int .i64 0, .int .i64 0, .slice none 0 0, .slice none 0 0, .int .i64 0, .int .i64 0, .slice none 0 0, .int .i64 0, .int .i64 0, .slice none 0 0, .slice none 0 0, .slice none 0 0, .int .i64 0] rfl rfl 35 _ hD.res sMsg' rfl (by simp [Value.oneCell']) ?_)
        refine bodyPost_ret (v := .tuple #[.agg #[.int .i64 0, .int .i64 0, .int .i64 0, .int .i64 0, .int .i64 0, .slice none 0 0, .int .i64 0, .int .i64 0, .slice none 0 0, .slice none 0 0, .int .i64 0, .int .i64 0, .slice none 0 0, .int .i64 0, .int .i64 0, .slice none 0 0, .slice none 0 0, .slice none 0 0, .int .i64 0], .int .i64 C]) (results_cell_slot (fn := Try.f7) (p := 2) (q := 3) (ty := 35) rfl _ _ w.heap.size 35 _ (0, 0) _ (.int .i64 C) ⟨rfl, rfl⟩ (setRow_heap _ _ _ _ _ _ hD.res) Try.underlying35 rfl sMsg') rfl ⟨.inr ⟨hF.out, x, HCX.out, ?_, HH.out.mono (fun q hq => by omega), .inr ⟨by rw [HCK.out]; exact HC0.out, by rw [HCK.out]⟩⟩, (Upd.setRow hD.res).below hD.below hD.below.size (Nat.le_refl _)⟩
        exact hA2.out.setRow (B := M + 1) (HH.out.mono (fun q hq => by omega)) (by omega)
    · have hF : Hid (readF bs = 4) := by
        show _ = _
        rw [HRF.out, if_neg (by decide), if_pos (fun h => hml (by rw [h52, List.drop_eq_nil_iff] at h; omega))]
      have haI : (a : Int) < bs.length := by omega
      clear hml h51 h52 HRF
      go_wp2_with (refine wpList_store_row rfl 35 _ _ rfl w.heap.size #[.int .i64 0, .int .i64 0, .int .i64 0, .int .i64 0, .int .i64 0, .slice none 0 0, .int .i64 0, .int .i64 0, .slice none 0 0, .slice none 0 0, .int .i64 0, .int .i64 0, .slice none 0 0, .int .i64 0, .int .i64 0, .slice none 0 0, .slice none 0 0, .slice none 0 0, .int .i64 0] rfl rfl 35 _ hB.res sMsg' rfl (by simp [Value.oneCell']) ?_)
      have hFc := hF.out
      refine bodyPost_ret (v := .tuple #[.agg #[.int .i64 0, .int .i64 0, .int .i64 0, .int .i64 0, .int .i64 0, .slice none 0 0, .int .i64 0, .int .i64 0, .slice none 0 0, .slice none 0 0, .int .i64 0, .int .i64 0, .slice none 0 0, .int .i64 0, .int .i64 0, .slice none 0 0, .slice none 0 0, .slice none 0 0, .int .i64 0], .int .i64 4]) (results_cell_slot (fn := Try.f7) (p := 2) (q := 3) (ty := 35) rfl _ _ w.heap.size 35 _ (0, 0) _ (.int .i64 4) ⟨rfl, rfl⟩ (setRow_heap _ _ _ _ _ _ hB.res) Try.underlying35 rfl sMsg') rfl ⟨.inl ⟨by rw [hFc]; decide, by rw [hFc]⟩, (Upd.setRow hB.res).below hB.below hB.below.size (Nat.le_refl _)⟩
end Go.Proofs.Ythlknldicpeobaa

namespace Go.Proofs.Ythlknldicpeobaa
open Go.RowKit

set_option maxRecDepth 100000 in
set_option maxHeartbeats 8000000 in
theorem mof_4 (bs : List Int) (sb so cap : Nat) (w : World) (hs : SliceAt w (some ⟨sb, so, none⟩) cap bs) (hu : U8s bs) (hl : bs.length ≤ 4000) (hpos : 0 < bs.length) (hk : bs.getD 0 0 = 4) :
    Calls Try.prog 7 #[.slice (some ⟨sb, so, none⟩) bs.length cap] w fun e w' => DecIs w w' e bs := by
  have hne : bs ≠ [] := by intro h; rw [h] at hpos; simp at hpos
  have hK0 : nB 1 (bs, false) = 4 := by rw [nB1_first hne, hk]
  have HRF : Hid (readF bs = if (mS (bs, false)).2 = true then 5 else if (mS (bs, false)).1 ≠ [] then 4 else 0) := by
    show _ = _
    rw [readF, if_neg (by omega), if_neg hne, hk, if_neg (by decide)]
  have HMS : Hid (mS (bs, false) = nL (nx 1 (dgS (dgS (nx 3 (nx 1 (nx 1 (nx 1 (nx 1 (bs, false))))))))) (cN (nx 1 (nx 1 (nx 1 (bs, false)))))) := by
    show _ = _
    rw [mS, hK0]; rfl
  have HPM : Hid (pM (bs, false) = ⟨nB 1 (nx 1 (bs, false)), nB 1 (nx 1 (nx 1 (bs, false))), nB 1 (bs, false), 0, 0, [], 0, 0, [], [], 0, 0, [], nB 1 (nx 1 (nx 1 (nx 1 (bs, false)))), nB 3 (nx 1 (nx 1 (nx 1 (nx 1 (bs, false))))), dgs (nx 3 (nx 1 (nx 1 (nx 1 (nx 1 (bs, false)))))), dgs (dgS (nx 3 (nx 1 (nx 1 (nx 1 (nx 1 (bs, false))))))), nV (nx 1 (dgS (dgS (nx 3 (nx 1 (nx 1 (nx 1 (nx 1 (bs, false))))))))) (cN (nx 1 (nx 1 (nx 1 (bs, false))))), 0⟩) := by
    show _ = _
    rw [pM, hK0]; rfl
  have HN1 : Hid ((nx 1 (bs, false)).2 = false) := (tk_ok (n := 1) (l := bs) (by omega)).2.2
  have HK0 : Hid (nB 1 (bs, false) = 4) := hK0
  have c0 : w.cell? ⟨sb, so, none⟩ = some (.int .u8 4) := by
    rcases hs.bytes with h | ⟨sb', so', e, h⟩
    · rw [h] at hpos; simp at hpos
    · cases e
      have := h 0 hpos
      rw [hk] at this
      simpa using this
  have hlI : ¬ (4000 : Int) < bs.length := by omega
  have hpI : ((bs.length : Int) == 0) = false := by rw [beq_eq_false_iff_ne]; omega
  have hpJ : (0 : Int) < bs.length := by omega
  have hblt : sb < w.heap.size := block_lt_of_cell c0
  clear hk hK0 hne
  go_enter Try.func7, Try.ntmps7
  go_upto_region 8 with (first
    | (go_at_call 16; refine (in_true _ _ _ _ (by decide)).mono ?_; rintro e w9 ⟨rfl, rfl⟩))
  have hA1 : Below w.heap.size w ((w.alloc (.cells #[.int .i64 0, .int .i64 0, .int .i64 0, .int .i64 0, .int .i64 0, .slice none 0 0, .int .i64 0, .int .i64 0, .slice none 0 0, .slice none 0 0, .int .i64 0, .int .i64 0, .slice none 0 0, .int .i64 0, .int .i64 0, .slice none 0 0, .slice none 0 0, .slice none 0 0, .int .i64 0] 35)).alloc (.cells #[.slice (some ⟨sb, so, none⟩) bs.length cap, .int .i64 0] 55)) := ((Below.refl _ _).alloc (Nat.le_refl _) _).alloc (by simp) _
  have qR := heap_alloc2_old w (.cells #[.int .i64 0, .int .i64 0, .int .i64 0, .int .i64 0, .int .i64 0, .slice none 0 0, .int .i64 0, .int .i64 0, .slice none 0 0, .slice none 0 0, .int .i64 0, .int .i64 0, .slice none 0 0, .int .i64 0, .int .i64 0, .slice none 0 0, .slice none 0 0, .slice none 0 0, .int .i64 0] 35) (.cells #[.slice (some ⟨sb, so, none⟩) bs.length cap, .int .i64 0] 55)
  have qS := heap_alloc2_new w (.cells #[.int .i64 0, .int .i64 0, .int .i64 0, .int .i64 0, .int .i64 0, .slice none 0 0, .int .i64 0, .int .i64 0, .slice none 0 0, .slice none 0 0, .int .i64 0, .int .i64 0, .slice none 0 0, .int .i64 0, .int .i64 0, .slice none 0 0, .slice none 0 0, .slice none 0 0, .int .i64 0] 35) (.cells #[.slice (some ⟨sb, so, none⟩) bs.length cap, .int .i64 0] 55)
  have hz1 : ((w.alloc (.cells #[.int .i64 0, .int .i64 0, .int .i64 0, .int .i64 0, .int .i64 0, .slice none 0 0, .int .i64 0, .int .i64 0, .slice none 0 0, .slice none 0 0, .int .i64 0, .int .i64 0, .slice none 0 0, .int .i64 0, .int .i64 0, .slice none 0 0, .slice none 0 0, .slice none 0 0, .int .i64 0] 35)).alloc (.cells #[.slice (some ⟨sb, so, none⟩) bs.length cap, .int .i64 0] 55)).heap.size = w.heap.size + 2 := by simp
  generalize (w.alloc (.cells #[.int .i64 0, .int .i64 0, .int .i64 0, .int .i64 0, .int .i64 0, .slice none 0 0, .int .i64 0, .int .i64 0, .slice none 0 0, .slice none 0 0, .int .i64 0, .int .i64 0, .slice none 0 0, .int .i64 0, .int .i64 0, .slice none 0 0, .slice none 0 0, .slice none 0 0, .int .i64 0] 35)).alloc (.cells #[.slice (some ⟨sb, so, none⟩) bs.length cap, .int .i64 0] 55) = W1 at hA1 qR qS hz1 ⊢
  have hSc1 : ScAt W1 (w.heap.size + 1) bs (bs, false) 0 := ⟨_, _, 0, qS, hs.below hA1, (fun sb' so' e => by cases e; omega), Nat.le_refl _, (fun _ => ⟨Nat.zero_le _, rfl⟩), (fun h => by cases h)⟩
  have qz : (W1.alloc (.cells #[.int .i64 0, .int .i64 0, .int .i64 0, .int .i64 0, .int .i64 0, .slice none 0 0, .int .i64 0, .int .i64 0, .slice none 0 0, .slice none 0 0, .int .i64 0, .int .i64 0, .slice none 0 0, .int .i64 0, .int .i64 0, .slice none 0 0, .slice none 0 0, .slice none 0 0, .int .i64 0] 35)).heap[w.heap.size + 2]? = some (.cells #[.int .i64 0, .int .i64 0, .int .i64 0, .int .i64 0, .int .i64 0, .slice none 0 0, .int .i64 0, .int .i64 0, .slice none 0 0, .slice none 0 0, .int .i64 0, .int .i64 0, .slice none 0 0, .int .i64 0, .int .i64 0, .slice none 0 0, .slice none 0 0, .slice none 0 0, .int .i64 0] 35 (0, 0)) := by rw [← hz1]; exact heap_alloc_new W1 (.cells #[.int .i64 0, .int .i64 0, .int .i64 0, .int .i64 0, .int .i64 0, .slice none 0 0, .int .i64 0, .int .i64 0, .slice none 0 0, .slice none 0 0, .int .i64 0, .int .i64 0, .slice none 0 0, .int .i64 0, .int .i64 0, .slice none 0 0, .slice none 0 0, .slice none 0 0, .int .i64 0] 35)
  have hM0 : MoB ((W1.alloc (.cells #[.int .i64 0, .int .i64 0, .int .i64 0, .int .i64 0, .int .i64 0, .slice none 0 0, .int .i64 0, .int .i64 0, .slice none 0 0, .slice none 0 0, .int .i64 0, .int .i64 0, .slice none 0 0, .int .i64 0, .int .i64 0, .slice none 0 0, .slice none 0 0, .slice none 0 0, .int .i64 0] 35)).setRow (w.heap.size + 2) #[.int .i64 0, .int .i64 0, .int .i64 0, .int .i64 0, .int .i64 0, .slice none 0 0, .int .i64 0, .int .i64 0, .slice none 0 0, .slice none 0 0, .int .i64 0, .int .i64 0, .slice none 0 0, .int .i64 0, .int .i64 0, .slice none 0 0, .slice none 0 0, .slice none 0 0, .int .i64 0]) w w.heap.size (w.heap.size + 1) (w.heap.size + 2) bs (bs, false) 0 #[.int .i64 0, .int .i64 0, .int .i64 0, .int .i64 0, .int .i64 0, .slice none 0 0, .int .i64 0, .int .i64 0, .slice none 0 0, .slice none 0 0, .int .i64 0, .int .i64 0, .slice none 0 0, .int .i64 0, .int .i64 0, .slice none 0 0, .slice none 0 0, .slice none 0 0, .int .i64 0] := by
    have hb : Below W1.heap.size W1 ((W1.alloc (.cells #[.int .i64 0, .int .i64 0, .int .i64 0, .int .i64 0, .int .i64 0, .slice none 0 0, .int .i64 0, .int .i64 0, .slice none 0 0, .slice none 0 0, .int .i64 0, .int .i64 0, .slice none 0 0, .int .i64 0, .int .i64 0, .slice none 0 0, .slice none 0 0, .slice none 0 0, .int .i64 0] 35)).setRow (w.heap.size + 2) #[.int .i64 0, .int .i64 0, .int .i64 0, .int .i64 0, .int .i64 0, .slice none 0 0, .int .i64 0, .int .i64 0, .slice none 0 0, .slice none 0 0, .int .i64 0, .int .i64 0, .slice none 0 0, .int .i64 0, .int .i64 0, .slice none 0 0, .slice none 0 0, .slice none 0 0, .int .i64 0]) := ⟨rfl, rfl, rfl, by simp [World.setRow], fun k hk => (setRow_other _ _ _ _ (by omega)).trans (Below.heap_alloc _ _ _ hk)⟩
    exact ⟨setRow_heap _ _ _ _ _ _ qz, (hb.block _ (by omega)).trans qR, hSc1.below hb, hA1.trans (hb.mono (by omega)), Nat.le_refl _, by omega, by omega⟩
  go_upto_region 9 with (refine wpList_store_row rfl 35 _ _ rfl (w.heap.size + 2) #[.int .i64 0, .int .i64 0, .int .i64 0, .int .i64 0, .int .i64 0, .slice none 0 0, .int .i64 0, .int .i64 0, .slice none 0 0, .slice none 0 0, .int .i64 0, .int .i64 0, .slice none 0 0, .int .i64 0, .int .i64 0, .slice none 0 0, .slice none 0 0, .slice none 0 0, .int .i64 0] rfl rfl 35 _ qz sMsg' rfl (by simp [Value.oneCell']) ?_)
  generalize (W1.alloc (.cells #[.int .i64 0, .int .i64 0, .int .i64 0, .int .i64 0, .int .i64 0, .slice none 0 0, .int .i64 0, .int .i64 0, .slice none 0 0, .slice none 0 0, .int .i64 0, .int .i64 0, .slice none 0 0, .int .i64 0, .int .i64 0, .slice none 0 0, .slice none 0 0, .slice none 0 0, .int .i64 0] 35)).setRow (w.heap.size + 2) #[.int .i64 0, .int .i64 0, .int .i64 0, .int .i64 0, .int .i64 0, .slice none 0 0, .int .i64 0, .int .i64 0, .slice none 0 0, .slice none 0 0, .int .i64 0, .int .i64 0, .slice none 0 0, .int .i64 0, .int .i64 0, .slice none 0 0, .slice none 0 0, .slice none 0 0, .int .i64 0] = V0 at hM0 ⊢
  clear qz qR qS hSc1 hA1 hz1 c0 hblt hpI hs
  generalize hMM : w.heap.size + 2 = M at hM0 ⊢
  generalize hSS : w.heap.size + 1 = S at hM0 ⊢
  clear hMM hSS
  go_wp2_with fail
  refine (num_sc S 1 bs (bs, false) _ V0 hM0.sc hu (by omega) (by omega)).mono ?_
  intro e w1 h1
  obtain ⟨ki, he, ki0, ki1, ki2, kig, hSc, ho1⟩ := h1.out
  subst he
  dsimp only
  clear h1
  have hC1 := hM0.call ho1 hSc
  have dj := cells_at hC1.box 2 _ rfl
  have fj := frozen_at hC1.box 2
  have hM1 := hC1.cell 2 (.int .i64 ki) #[.int .i64 0, .int .i64 0, .int .i64 ki, .int .i64 0, .int .i64 0, .slice none 0 0, .int .i64 0, .int .i64 0, .slice none 0 0, .slice none 0 0, .int .i64 0, .int .i64 0, .slice none 0 0, .int .i64 0, .int .i64 0, .slice none 0 0, .slice none 0 0, .slice none 0 0, .int .i64 0] rfl
  go_upto_region 10 with fail
  generalize w1.setCell ⟨M, 2, none⟩ (.int .i64 ki) = V1 at hM1 ⊢
  clear dj fj hC1 hSc ho1 hM0
  go_wp2_with fail
  refine (num_sc S 1 bs (nx 1 (bs, false)) _ V1 hM1.sc hu (by omega) (by omega)).mono ?_
  intro e w2 h1
  obtain ⟨fr, he, fr0, fr1, fr2, frg, hSc, ho1⟩ := h1.out
  subst he
  dsimp only
  clear h1
  have hC2 := hM1.call ho1 hSc
  have dj := cells_at hC2.box 0 _ rfl
  have fj := frozen_at hC2.box 0
  have hM2 := hC2.cell 0 (.int .i64 fr) #[.int .i64 fr, .int .i64 0, .int .i64 ki, .int .i64 0, .int .i64 0, .slice none 0 0, .int .i64 0, .int .i64 0, .slice none 0 0, .slice none 0 0, .int .i64 0, .int .i64 0, .slice none 0 0, .int .i64 0, .int .i64 0, .slice none 0 0, .slice none 0 0, .slice none 0 0, .int .i64 0] rfl
  go_upto_region 11 with fail
  generalize w2.setCell ⟨M, 0, none⟩ (.int .i64 fr) = V2 at hM2 ⊢
  clear dj fj hC2 hSc ho1 hM1
  go_wp2_with fail
  refine (num_sc S 1 bs (nx 1 (nx 1 (bs, false))) _ V2 hM2.sc hu (by omega) (by omega)).mono ?_
  intro e w3 h1
  obtain ⟨tt, he, tt0, tt1, tt2, ttg, hSc, ho1⟩ := h1.out
  subst he
  dsimp only
  clear h1
  have hC3 := hM2.call ho1 hSc
  have dj := cells_at hC3.box 1 _ rfl
  have fj := frozen_at hC3.box 1
  have hM3 := hC3.cell 1 (.int .i64 tt) #[.int .i64 fr, .int .i64 tt, .int .i64 ki, .int .i64 0, .int .i64 0, .slice none 0 0, .int .i64 0, .int .i64 0, .slice none 0 0, .slice none 0 0, .int .i64 0, .int .i64 0, .slice none 0 0, .int .i64 0, .int .i64 0, .slice none 0 0, .slice none 0 0, .slice none 0 0, .int .i64 0] rfl
  go_upto_region 12 with fail
  generalize w3.setCell ⟨M, 1, none⟩ (.int .i64 tt) = V3 at hM3 ⊢
  clear dj fj hC3 hSc ho1 hM2
  have hki : ki = 4 := (kig HN1.out).trans HK0.out
  subst hki
  have dk := cells_at hM3.box 2 _ rfl
  go_wp2_with fail
  refine (header_sc S bs (nx 1 (nx 1 (nx 1 (bs, false)))) _ V3 hM3.sc hu (by omega) (by omega)).mono ?_
  intro e w4 h1
  obtain ⟨au, rd, ba, bc, bl, pa, pc, pl, he, hvals, hLb, hLp, hFb, hFp, hSc, ho1⟩ := h1.out
  subst he
  dsimp only
  clear h1
  have hC4 := hM3.call ho1 hSc
  have HV : Hid _ := hvals
  clear hvals
  have d0 := cells_at hC4.box 13 _ rfl
  have f0 := frozen_at hC4.box 13
  have d1 := cells_at hC4.box 14 _ rfl
  have f1 := frozen_at hC4.box 14
  have d2 := cells_at hC4.box 15 _ rfl
  have f2 := frozen_at hC4.box 15
  have d3 := cells_at hC4.box 16 _ rfl
  have f3 := frozen_at hC4.box 16
  have hM4 := ((((hC4.cell 13 (.int .i64 au) #[.int .i64 fr, .int .i64 tt, .int .i64 4, .int .i64 0, .int .i64 0, .slice none 0 0, .int .i64 0, .int .i64 0, .slice none 0 0, .slice none 0 0, .int .i64 0, .int .i64 0, .slice none 0 0, .int .i64 au, .int .i64 0, .slice none 0 0, .slice none 0 0, .slice none 0 0, .int .i64 0] rfl).cell 14 (.int .i64 rd) #[.int .i64 fr, .int .i64 tt, .int .i64 4, .int .i64 0, .int .i64 0, .slice none 0 0, .int .i64 0, .int .i64 0, .slice none 0 0, .slice none 0 0, .int .i64 0, .int .i64 0, .slice none 0 0, .int .i64 au, .int .i64 rd, .slice none 0 0, .slice none 0 0, .slice none 0 0, .int .i64 0] rfl).cell 15 (.slice ba bl.length bc) #[.int .i64 fr, .int .i64 tt, .int .i64 4, .int .i64 0, .int .i64 0, .slice none 0 0, .int .i64 0, .int .i64 0, .slice none 0 0, .slice none 0 0, .int .i64 0, .int .i64 0, .slice none 0 0, .int .i64 au, .int .i64 rd, .slice ba bl.length bc, .slice none 0 0, .slice none 0 0, .int .i64 0] rfl).cell 16 (.slice pa pl.length pc) #[.int .i64 fr, .int .i64 tt, .int .i64 4, .int .i64 0, .int .i64 0, .slice none 0 0, .int .i64 0, .int .i64 0, .slice none 0 0, .slice none 0 0, .int .i64 0, .int .i64 0, .slice none 0 0, .int .i64 au, .int .i64 rd, .slice ba bl.length bc, .slice pa pl.length pc, .slice none 0 0, .int .i64 0] rfl)
  have lM : M < V3.heap.size := lt_of_heap hM3.box
  have hKq : ∀ q, M < q → ((((w4.setCell ⟨M, 13, none⟩ (.int .i64 au)).setCell ⟨M, 14, none⟩ (.int .i64 rd)).setCell ⟨M, 15, none⟩ (.slice ba bl.length bc)).setCell ⟨M, 16, none⟩ (.slice pa pl.length pc)).heap[q]? = w4.heap[q]? := fun q hq => by
    have hn : q ≠ M := by omega
    rw [heap_setCell_other _ ⟨M, 16, none⟩ q _ hn, heap_setCell_other _ ⟨M, 15, none⟩ q _ hn, heap_setCell_other _ ⟨M, 14, none⟩ q _ hn, heap_setCell_other _ ⟨M, 13, none⟩ q _ hn]
  have hGb := has_fresh hFb lM
  have hGp := has_fresh hFp lM
  have hLb1 := list_stays (G := fun q => M < q) hKq hLb hGb
  have hLp1 := list_stays (G := fun q => M < q) hKq hLp hGp
  have HGB : Hid _ := hGb
  have HGP : Hid _ := hGp
  clear hKq hLb hLp hFb hFp lM hGb hGp
  go_upto_region 31 with fail
  generalize ((((w4.setCell ⟨M, 13, none⟩ (.int .i64 au)).setCell ⟨M, 14, none⟩ (.int .i64 rd)).setCell ⟨M, 15, none⟩ (.slice ba bl.length bc)).setCell ⟨M, 16, none⟩ (.slice pa pl.length pc)) = V4 at hM4 hLb1 hLp1 ⊢
  clear d0 d1 d2 d3 f0 f1 f2 f3 hC4 hSc ho1 hM3
  obtain ⟨i, hi, hz0, hz1, hz2⟩ := info_parts infoIntR
  go_wp2_with fail
  refine (num_sc S 1 bs (dgS (dgS (nx 3 (nx 1 (nx 1 (nx 1 (nx 1 (bs, false)))))))) _ V4 hM4.sc hu (by omega) (by omega)).mono ?_
  intro e w5 h1
  obtain ⟨n, he, n0, -, n2, ng, hSc, ho1⟩ := h1.out
  subst he
  dsimp only
  clear h1
  obtain ⟨V, rfl⟩ : ∃ V : Nat, n = V := ⟨n.toNat, by omega⟩
  have hV : V ≤ 255 := by have := n2 rfl; omega
  have hM5 := (hM4.call ho1 hSc).st (N' := 20000) (by omega)
  have hLb5 := list_call hLb1 HGB.out ho1 hM5.l2
  have hLp5 := list_call hLp1 HGP.out ho1 hM5.l2
  have GB5 : Hid _ := HGB.out.lt hLb5
  have GP5 : Hid _ := HGP.out.lt hLp5
  have lM5 : M < w5.heap.size := lt_of_heap hM5.box
  have HNV : Hid ((nx 1 (dgS (dgS (nx 3 (nx 1 (nx 1 (nx 1 (nx 1 (bs, false))))))))).2 = false → V = cN (nx 1 (nx 1 (nx 1 (bs, false))))) := by
    show _ → _
    intro h9
    rw [show cN (nx 1 (nx 1 (nx 1 (bs, false)))) = (nB 1 (dgS (dgS (nx 3 (nx 1 (nx 1 (nx 1 (nx 1 (bs, false))))))))).toNat from rfl, ← ng h9]
    rfl
  have HO5 : Hid ((nx 1 (dgS (dgS (nx 3 (nx 1 (nx 1 (nx 1 (nx 1 (bs, false))))))))).2 = false → (dgS (dgS (nx 3 (nx 1 (nx 1 (nx 1 (nx 1 (bs, false)))))))).2 = false) := by
    show _ → _
    exact fun h => nx_over h
  clear n0 n2 ng hSc ho1 hM4 hLb1 hLp1 dk
  generalize nx 1 (dgS (dgS (nx 3 (nx 1 (nx 1 (nx 1 (nx 1 (bs, false)))))))) = s5 at *
  go_wp2_with fail
  go_loopw [11] (fun j wr => ∃ (k : Nat) (v : Value) (vs : List Int), k ≤ V ∧ j = .int .i64 k ∧ MoB wr w w.heap.size S M bs (nL s5 k) 20000 #[.int .i64 fr, .int .i64 tt, .int .i64 4, .int .i64 0, .int .i64 0, .slice none 0 0, .int .i64 0, .int .i64 0, .slice none 0 0, .slice none 0 0, .int .i64 0, .int .i64 0, .slice none 0 0, .int .i64 au, .int .i64 rd, .slice ba bl.length bc, .slice pa pl.length pc, v, .int .i64 0] ∧ w5.heap.size ≤ wr.heap.size ∧ wr.ownsRow w5.heap.size 3 1 v k (iv vs) ∧ Hid ((nL s5 k).2 = false → vs = nV s5 k) ∧ ListAt wr ba bc bl ∧ ListAt wr pa pc pl) (fun j _ => V - (intOf j).toNat)
  case atStart => exact ⟨0, .slice none 0 0, [], Nat.zero_le _, rfl, hM5, Nat.le_refl _, World.ownsRow_nil _ _ _ _, (show _ → _ from fun _ => rfl), hLb5, hLp5⟩
  case round =>
    clear hM5 hLb5 hLp5
    obtain ⟨k, v, vs, hk, rfl, hM, hsz, ho, hq, hLb, hLp⟩ := hrel
    have lS : S < M := hM.l2
    have lM : M < wr.heap.size := lt_of_heap hM.box
    obtain ⟨va, vc, hve⟩ := owns_shape ho
    subst hve
    by_cases hltk : k < V
    · have hltI : (k : Int) < V := by omega
      go_wp2_with fail
      refine (over_sc S bs _ _ wr hM.sc).mono ?_
      rintro e w2 ⟨he, hb2⟩
      subst he
      dsimp only
      have hM2 := hM.belowW hb2
      have ho2 := owns_keep ho hb2
      have hLb2 := hLb.below hb2
      have hLp2 := hLp.below hb2
      clear hM hLb hLp ho
      cases hov : (nL s5 k).2 with
      | true =>
        have HOV : Hid ((mS (bs, false)).2 = true) := by
          show _ = _
          rw [HMS.out]
          cases h9 : s5.2 with
          | false =>
            have h8 := HNV.out h9
            cases h7 : (nL s5 (cN (nx 1 (nx 1 (nx 1 (bs, false)))))).2 with
            | true => rfl
            | false =>
              have h6 := nL_over (i := k) (n := cN (nx 1 (nx 1 (nx 1 (bs, false))))) (by omega) h7
              rw [h6] at hov
              cases hov
          | true =>
            cases h7 : (nL s5 (cN (nx 1 (nx 1 (nx 1 (bs, false)))))).2 with
            | true => rfl
            | false =>
              have h6 := nL_over (i := 0) (n := cN (nx 1 (nx 1 (nx 1 (bs, false))))) (Nat.zero_le _) h7
              have h5 : s5.2 = false := h6
              rw [h9] at h5
              cases h5
        have hX : Hid (MoX w2 w w.heap.size S M bs 20000) := by
          obtain ⟨za, zc, hv, hl, hI, hf⟩ := intsAt_of_owns ho2
          cases hv
          refine ⟨⟨{ fr := fr, tt := tt, ki := 4, bau := 0, bnu := 0, bta := none, btn := 0, btc := 0, hau := 0, hrd := 0, hba := none, hbn := 0, hbc := 0, hpa := none, hpn := 0, hpc := 0, sau := 0, srd := 0, sda := none, sdn := 0, sdc := 0, cau := au, crd := rd, cba := ba, cbn := bl.length, cbc := bc, cpa := pa, cpn := pl.length, cpc := pc, cva := va, cvn := vs.length, cvc := vc, ro := 0 }, [], [], [], bl, pl, [], vs⟩, ?_, ?_, ?_, ?_⟩
          · rw [← hl]; exact hM2.beyond hov HOV.out
          · exact ⟨⟨rfl, rfl, rfl, rfl, rfl, rfl, Nat.zero_le _, (by show vs.length ≤ _; omega), Nat.zero_le _, strs_nil _, list_nilM _, list_nilM _, hLb2, hLp2, hI⟩, nilM _, rfl⟩
          · exact ⟨(fun sb so e => by cases e), has_nil, has_nil, (fun sb so e => by cases e), HGB.out, HGP.out, (fun sb so e _ => by have := hf sb so e; omega)⟩
          · intro h9
            rw [HOV.out] at h9
            cases h9
        clear hM2 hLb2 hLp2 ho2 hov
        go_upto_region 39 with fail
        generalize w2 = VX at hX ⊢
        obtain ⟨x, hM, hA, hH, hC⟩ := hX.out.out
        clear hX
        go_wp2_with fail
        refine (over_sc S bs _ _ VX hM.sc).mono ?_
        rintro e w1 ⟨he, hb1⟩
        subst he
        dsimp only
        have hB := hM.belowW hb1
        have hA1 := hA.below hb1
        have HH : Hid (HasM (fun q => M < q) x) := hH
        have l1 := hB.l1
        have l2 := hB.l2
        have lM : M < w1.heap.size := lt_of_heap hB.box
        clear hM hA hH hb1
        obtain ⟨ba, bc, a, qS, hbS, hneS, haN, h5, h6⟩ := hB.sc.out
        generalize mS (bs, false) = ms at *
        obtain ⟨ml, msh⟩ := ms
        dsimp only at *
        cases msh with
        | true =>
          have hF : Hid (readF bs = 5) := by show _ = _; rw [HRF.out, if_pos rfl]
          clear h5 h6 hC
          go_wp2_with (refine wpList_store_row rfl 35 _ _ rfl w.heap.size #[.int .i64 0, .int .i64 0, .int .i64 0, .int .i64 0, .int .i64 0, .slice none 0 0, .int .i64 0, .int .i64 0, .slice none 0 0, .slice none 0 0, .int .i64 0, .int .i64 0, .slice none 0 0, .int .i64 0, .int .i64 0, .slice none 0 0, .slice none 0 0, .slice none 0 0, .int .i64 0] rfl rfl 35 _ hB.res sMsg' rfl (by simp [Value.oneCell']) ?_)
          have hFc := hF.out
          refine bodyPost_ret (v := .tuple #[.agg #[.int .i64 0, .int .i64 0, .int .i64 0, .int .i64 0, .int .i64 0, .slice none 0 0, .int .i64 0, .int .i64 0, .slice none 0 0, .slice none 0 0, .int .i64 0, .int .i64 0, .slice none 0 0, .int .i64 0, .int .i64 0, .slice none 0 0, .slice none 0 0, .slice none 0 0, .int .i64 0], .int .i64 5]) (results_cell_slot (fn := Try.f7) (p := 2) (q := 3) (ty := 35) rfl _ _ w.heap.size 35 _ (0, 0) _ (.int .i64 5) ⟨rfl, rfl⟩ (setRow_heap _ _ _ _ _ _ hB.res) Try.underlying35 rfl sMsg') rfl ⟨.inl ⟨by rw [hFc]; decide, by rw [hFc]⟩, (Upd.setRow hB.res).below hB.below hB.below.size (Nat.le_refl _)⟩
        | false =>
          obtain ⟨h51, h52⟩ := h5 rfl
          have HCX : Hid (x.c = pM (bs, false)) := hC rfl
          clear h5 h6 hC
          have s1 : w1.cell? ⟨S, 1, none⟩ = some (.int .i64 (a : Int)) := cells_at qS 1 _ rfl
          by_cases hml : a = bs.length
          · have hF : Hid (readF bs = 0) := by
              show _ = _
              rw [HRF.out, if_neg (by decide), if_neg (fun h => h (by rw [h52, hml]; simp))]
            have haI : ¬ (a : Int) < bs.length := by omega
            clear hml h51 h52 HRF
            have hB2 : Below w1.heap.size w1 w1.drew := (Below.refl _ _).drew
            go_upto_region 43 with fail
            have HF9 := messageFault_any x.m x.ss x.bl x.pl x.cbl x.cpl x.vl w1 hA1.at'
            go_wp2_with (refine wpList_load_row rfl 35 _ rfl M rfl 35 #[.int .i64 x.m.fr, .int .i64 x.m.tt, .int .i64 x.m.ki, .int .i64 x.m.bau, .int .i64 x.m.bnu, .slice x.m.bta x.m.btn x.m.btc, .int .i64 x.m.hau, .int .i64 x.m.hrd, .slice x.m.hba x.m.hbn x.m.hbc, .slice x.m.hpa x.m.hpn x.m.hpc, .int .i64 x.m.sau, .int .i64 x.m.srd, .slice x.m.sda x.m.sdn x.m.sdc, .int .i64 x.m.cau, .int .i64 x.m.crd, .slice x.m.cba x.m.cbn x.m.cbc, .slice x.m.cpa x.m.cpn x.m.cpc, .slice x.m.cva x.m.cvn x.m.cvc, .int .i64 x.m.ro] (0, 0) _ hB.box Try.underlying35 rfl sMsg' ?_)
            refine HF9.mono ?_
            rintro e w2 ⟨he, hb2⟩
            subst he
            dsimp only
            clear HF9 s1
            have hD := hB.belowW hb2
            have hA2 : Hid (MAt w2 x) := hA1.below hb2
            have HCR : Hid (carriedF x.m x.ss x.bl x.pl x.cbl x.cpl x.vl = x.car) := rfl
            generalize hCk : checkF x.m (carriedF x.m x.ss x.bl x.pl x.cbl x.cpl x.vl) = C at *
            have HCK : Hid (checkF x.m x.car = C) := hCk
            clear hCk
            by_cases hc0 : C = 0
            · subst hc0
              go_wp2_with (first | refine wpList_load_row rfl 35 _ rfl M rfl 35 #[.int .i64 x.m.fr, .int .i64 x.m.tt, .int .i64 x.m.ki, .int .i64 x.m.bau, .int .i64 x.m.bnu, .slice x.m.bta x.m.btn x.m.btc, .int .i64 x.m.hau, .int .i64 x.m.hrd, .slice x.m.hba x.m.hbn x.m.hbc, .slice x.m.hpa x.m.hpn x.m.hpc, .int .i64 x.m.sau, .int .i64 x.m.srd, .slice x.m.sda x.m.sdn x.m.sdc, .int .i64 x.m.cau, .int .i64 x.m.crd, .slice x.m.cba x.m.cbn x.m.cbc, .slice x.m.cpa x.m.cpn x.m.cpc, .slice x.m.cva x.m.cvn x.m.cvc, .int .i64 x.m.ro] (0, 0) _ hD.box Try.underlying35 rfl sMsg' ?_ | refine wpList_store_row rfl 35 _ _ rfl w.heap.size #[.int .i64 x.m.fr, .int .i64 x.m.tt, .int .i64 x.m.ki, .int .i64 x.m.bau, .int .i64 x.m.bnu, .slice x.m.bta x.m.btn x.m.btc, .int .i64 x.m.hau, .int .i64 x.m.hrd, .slice x.m.hba x.m.hbn x.m.hbc, .slice x.m.hpa x.m.hpn x.m.hpc, .int .i64 x.m.sau, .int .i64 x.m.srd, .slice x.m.sda x.m.sdn x.m.sdc, .int .i64 x.m.cau, .int .i64 x.m.crd, .slice x.m.cba x.m.cbn x.m.cbc, .slice x.m.cpa x.m.cpn x.m.cpc, .slice x.m.cva x.m.cvn x.m.cvc, .int .i64 x.m.ro] rfl rfl 35 _ hD.res sMsg' rfl (by simp [Value.oneCell']) ?_)
              refine bodyPost_ret (v := .tuple #[.agg #[.int .i64 x.m.fr, .int .i64 x.m.tt, .int .i64 x.m.ki, .int .i64 x.m.bau, .int .i64 x.m.bnu, .slice x.m.bta x.m.btn x.m.btc, .int .i64 x.m.hau, .int .i64 x.m.hrd, .slice x.m.hba x.m.hbn x.m.hbc, .slice x.m.hpa x.m.hpn x.m.hpc, .int .i64 x.m.sau, .int .i64 x.m.srd, .slice x.m.sda x.m.sdn x.m.sdc, .int .i64 x.m.cau, .int .i64 x.m.crd, .slice x.m.cba x.m.cbn x.m.cbc, .slice x.m.cpa x.m.cpn x.m.cpc, .slice x.m.cva x.m.cvn x.m.cvc, .int .i64 x.m.ro], .int .i64 0]) (results_cell_slot (fn := Try.f7) (p := 2) (q := 3) (ty := 35) rfl _ _ w.heap.size 35 _ (0, 0) _ (.int .i64 0) ⟨rfl, rfl⟩ (setRow_heap _ _ _ _ _ _ hD.res) Try.underlying35 rfl sMsg') rfl ⟨.inr ⟨hF.out, x, HCX.out, ?_, HH.out.mono (fun q hq => by omega), .inl ⟨HCK.out, rfl⟩⟩, (Upd.setRow hD.res).below hD.below hD.below.size (Nat.le_refl _)⟩
              exact hA2.out.setRow (B := M + 1) (HH.out.mono (fun q hq => by omega)) (by omega)
            · have hcn : (C != 0) = true := by simpa using hc0
              have HC0 : Hid (C ≠ 0) := hc0
              go_wp2_with (refine wpList_store_row rfl 35 _ _ rfl w.heap.size #[.int .i64 0, .int .i64 0, .int .i64 0, .int .i64 0, .int .i64 0, .slice none 0 0, .int .i64 0, .int .i64 0, .slice none 0 0, .slice none 0 0, .int .i64 0, .int .i64 0, .slice none 0 0, .int .i64 0, .int .i64 0, .slice none 0 0, .slice none 0 0, .slice none 0 0, .int .i64 0] rfl rfl 35 _ hD.res sMsg' rfl (by simp [Value.oneCell']) ?_)
              refine bodyPost_ret (v := .tuple #[.agg #[.int .i64 0, .int .i64 0, .int .i64 0, .int .i64 0, .int .i64 0, .slice none 0 0, .int .i64 0, .int .i64 0, .slice none 0 0, .slice none 0 0, .int .i64 0, .int .i64 0, .slice none 0 0, .int .i64 0, .int .i64 0, .slice none 0 0, .slice none 0 0, .slice none 0 0, .int .i64 0], .int .i64 C]) (results_cell_slot (fn := Try.f7) (p := 2) (q := 3) (ty := 35) rfl _ _ w.heap.size 35 _ (0, 0) _ (.int .i64 C) ⟨rfl, rfl⟩ (setRow_heap _ _ _ _ _ _ hD.res) Try.underlying35 rfl sMsg') rfl ⟨.inr ⟨hF.out, x, HCX.out, ?_, HH.out.mono (fun q hq => by omega), .inr ⟨by rw [HCK.out]; exact HC0.out, by rw [HCK.out]⟩⟩, (Upd.setRow hD.res).below hD.below hD.below.size (Nat.le_refl _)⟩
              exact hA2.out.setRow (B := M + 1) (HH.out.mono (fun q hq => by omega)) (by omega)
          · have hF : Hid (readF bs = 4) := by
              show _ = _
              rw [HRF.out, if_neg (by decide), if_pos (fun h => hml (by rw [h52, List.drop_eq_nil_iff] at h; omega))]
            have haI : (a : Int) < bs.length := by omega
            clear hml h51 h52 HRF
            go_wp2_with (refine wpList_store_row rfl 35 _ _ rfl w.heap.size #[.int .i64 0, .int .i64 0, .int .i64 0, .int .i64 0, .int .i64 0, .slice none 0 0, .int .i64 0, .int .i64 0, .slice none 0 0, .slice none 0 0, .int .i64 0, .int .i64 0, .slice none 0 0, .int .i64 0, .int .i64 0, .slice none 0 0, .slice none 0 0, .slice none 0 0, .int .i64 0] rfl rfl 35 _ hB.res sMsg' rfl (by simp [Value.oneCell']) ?_)
            have hFc := hF.out
            refine bodyPost_ret (v := .tuple #[.agg #[.int .i64 0, .int .i64 0, .int .i64 0, .int .i64 0, .int .i64 0, .slice none 0 0, .int .i64 0, .int .i64 0, .slice none 0 0, .slice none 0 0, .int .i64 0, .int .i64 0, .slice none 0 0, .int .i64 0, .int .i64 0, .slice none 0 0, .slice none 0 0, .slice none 0 0, .int .i64 0], .int .i64 4]) (results_cell_slot (fn := Try.f7) (p := 2) (q := 3) (ty := 35) rfl _ _ w.heap.size 35 _ (0, 0) _ (.int .i64 4) ⟨rfl, rfl⟩ (setRow_heap _ _ _ _ _ _ hB.res) Try.underlying35 rfl sMsg') rfl ⟨.inl ⟨by rw [hFc]; decide, by rw [hFc]⟩, (Upd.setRow hB.res).below hB.below hB.below.size (Nat.le_refl _)⟩
      | false =>
        have HOV : Hid ((nL s5 k).2 = false) := hov
        have hst : Hid (nV s5 (k + 1) = nV s5 k ++ [nB 1 (nL s5 k)] ∧ nL s5 (k + 1) = nx 1 (nL s5 k)) := ⟨rfl, rfl⟩
        have hW2 := hM2.within hov
        clear hov hM2
        go_wp2_with fail
        refine (num_sc S 1 bs _ _ w2 hW2.sc hu (by omega) (by omega)).mono ?_
        intro e w3 h3
        obtain ⟨y, he, y0, y1, -, yg, hSc, ho3⟩ := h3.out
        subst he
        dsimp only
        clear h3
        have YG : Hid _ := yg
        have hM3 := (hW2.call ho3 hSc).st (N' := 20000) (by omega)
        have hob := owns_only ho2 ho3 (by omega)
        have hs2 := hb2.size
        have hs3 := ho3.size
        have hLb3 := list_keep5 hLb2 GB5.out (fun q h1 h2 => ho3.block q (by omega) (by omega))
        have hLp3 := list_keep5 hLp2 GP5.out (fun q h1 h2 => ho3.block q (by omega) (by omega))
        have hw3 : w5.heap.size ≤ w3.heap.size := by omega
        have v5 := hM3.box
        have d4 := cells_at v5 17 _ rfl
        have d4d : w3.drew.cell? ⟨M, 17, none⟩ = some (.slice va k vc) := d4
        have d4a : (w3.alloc (.cells #[.int .i64 y] 3)).cell? ⟨M, 17, none⟩ = some (.slice va k vc) := cells_at (heap_keep v5) 17 _ rfl
        have hvC : (Value.slice va k vc).ownBlock ≠ some M := fun e => by have := (hob.lt _ e).1; omega
        have hvlt : ∀ q, (Value.slice va k vc).ownBlock = some q → w5.heap.size ≤ q := fun q e => (hob.lt _ e).1
        clear hW2 hSc ho3 hLb2 hLp2 ho2 yg
        go_wp2_with (at_builtin; refine wpList_append_own_at _ rfl _ _ 31 rfl w5.heap.size 3 i (.int .i64 0) 1 8 Try.underlying31 hi hz0 hz1 hz2 rfl (by decide) _ k (iv vs) rfl (World.ownsRow.alloc hob _) ⟨w3.heap.size, 0, none⟩ 1 1 [.int .i64 y] rfl rfl (cells_new _ _ _) (by intro u hu; simp at hu; subst hu; rfl) (by unfold maxLen; omega) (by omega) (le_alloc hw3 _) ?_; intro v6 w6 ho6 hg6 _ hat6; have G6 := Grew.of hg6 hat6; have x5 := G6.row (heap_keep v5) hvC; have xd4 := cells_at x5 17 _ rfl; have xf4 := frozen_at x5 17; obtain ⟨fa, fc, hvf⟩ := owns_shape ho6; subst hvf)
        all_goals
          have hM6 : MoB w6 w w.heap.size S M bs (nx 1 (nL s5 k)) 20000 #[.int .i64 fr, .int .i64 tt, .int .i64 4, .int .i64 0, .int .i64 0, .slice none 0 0, .int .i64 0, .int .i64 0, .slice none 0 0, .slice none 0 0, .int .i64 0, .int .i64 0, .slice none 0 0, .int .i64 au, .int .i64 rd, .slice ba bl.length bc, .slice pa pl.length pc, .slice va k vc, .int .i64 0] := (hM3.belowW ((Below.refl _ _).alloc (Nat.le_refl _) _)).grown G6.grown (fun q e => by have := hvlt q e; omega)
          have hb3 : Below w3.heap.size w3 (w3.alloc (.cells #[.int .i64 y] 3)) := (Below.refl _ _).alloc (Nat.le_refl _) _
          have hk6 : ∀ q, M < q → q < w5.heap.size → (w6.setCell ⟨M, 17, none⟩ (.slice fa (k + 1) fc)).heap[q]? = w3.heap[q]? := fun q h1 h2 =>
            (heap_setCell_other _ ⟨M, 17, none⟩ q _ (by show q ≠ M; omega)).trans ((G6.grown.block q (by have := hb3.size; show q < (w3.alloc _).heap.size; omega) (fun e => by have := hvlt q e.symm; omega)).trans (hb3.block q (by omega)))
          have hLb6 := list_keep5 hLb3 GB5.out hk6
          have hLp6 := list_keep5 hLp3 GP5.out hk6
          have hs6 : w5.heap.size ≤ w6.heap.size := by have := hb3.size; have : (w3.alloc (.cells #[.int .i64 y] 3)).heap.size ≤ w6.heap.size := G6.grown.size; omega
          (try go_wp2_with fail)
          go_roundw
          case rel =>
            refine ⟨k + 1, .slice fa (k + 1) fc, vs ++ [y], by omega, by go_num, ?_, by simpa using hs6, ?_, ?_, hLb6, hLp6⟩
            · rw [hst.out.2]
              exact hM6.cell 17 (.slice fa (k + 1) fc) #[.int .i64 fr, .int .i64 tt, .int .i64 4, .int .i64 0, .int .i64 0, .slice none 0 0, .int .i64 0, .int .i64 0, .slice none 0 0, .slice none 0 0, .int .i64 0, .int .i64 0, .slice none 0 0, .int .i64 au, .int .i64 rd, .slice ba bl.length bc, .slice pa pl.length pc, .slice fa (k + 1) fc, .int .i64 0] rfl
            · have h := owns_far ho6 M 17 (.slice fa (k + 1) fc) lM5
              simpa [iv] using h
            · show _ → _
              intro h9
              rw [hst.out.2] at h9
              rw [hst.out.1, hq.out HOV.out, ← YG.out h9]
          case measure => simp [intOf]; omega
    · obtain rfl : k = V := by omega
      have hltI : ¬ (k : Int) < k := by omega
      have hX : Hid (MoX wr w w.heap.size S M bs 20000) := by
        obtain ⟨za, zc, hv, hl, hI, hf⟩ := intsAt_of_owns ho
        cases hv
        refine ⟨⟨{ fr := fr, tt := tt, ki := 4, bau := 0, bnu := 0, bta := none, btn := 0, btc := 0, hau := 0, hrd := 0, hba := none, hbn := 0, hbc := 0, hpa := none, hpn := 0, hpc := 0, sau := 0, srd := 0, sda := none, sdn := 0, sdc := 0, cau := au, crd := rd, cba := ba, cbn := bl.length, cbc := bc, cpa := pa, cpn := pl.length, cpc := pc, cva := va, cvn := vs.length, cvc := vc, ro := 0 }, [], [], [], bl, pl, [], vs⟩, ?_, ?_, ?_, ?_⟩
        · rw [← hl, HMS.out]
          cases h9 : s5.2 with
          | false => rw [← HNV.out h9]; exact hM
          | true =>
            have h7 : ∀ n, (nL s5 n).2 = true := fun n => by
              cases h6 : (nL s5 n).2 with
              | true => rfl
              | false =>
                have h5 : s5.2 = false := nL_over (i := 0) (n := n) (Nat.zero_le _) h6
                rw [h9] at h5
                cases h5
            exact hM.beyond (h7 _) (h7 _)
        · exact ⟨⟨rfl, rfl, rfl, rfl, rfl, rfl, Nat.zero_le _, (by show vs.length ≤ _; omega), Nat.zero_le _, strs_nil _, list_nilM _, list_nilM _, hLb, hLp, hI⟩, nilM _, rfl⟩
        · exact ⟨(fun sb so e => by cases e), has_nil, has_nil, (fun sb so e => by cases e), HGB.out, HGP.out, (fun sb so e _ => by have := hf sb so e; omega)⟩
        · intro h9
          rw [HMS.out] at h9
          have h8 : s5.2 = false := nL_over (i := 0) (Nat.zero_le _) h9
          have h7 := HO5.out h8
          obtain ⟨a1, a2, a3, a4⟩ := HV.out h7
          have h6 := nx_over (nx_over (dgS_over (dgS_over h7)))
          have h5 := nx_over h6
          have hcv : vs = nV s5 (cN (nx 1 (nx 1 (nx 1 (bs, false))))) := by rw [← HNV.out h8]; exact hq.out (by rw [HNV.out h8]; exact h9)
          rw [HPM.out, HK0.out, ← a1, ← a2, ← a3, ← a4, ← hcv, ← ttg h6, ← frg h5]
          rfl
      clear hM hLb hLp ho
      go_upto_region 39 with fail
      generalize wr = VX at hX ⊢
      obtain ⟨x, hM, hA, hH, hC⟩ := hX.out.out
      clear hX
      go_wp2_with fail
      refine (over_sc S bs _ _ VX hM.sc).mono ?_
      rintro e w1 ⟨he, hb1⟩
      subst he
      dsimp only
      have hB := hM.belowW hb1
      have hA1 := hA.below hb1
      have HH : Hid (HasM (fun q => M < q) x) := hH
      have l1 := hB.l1
      have l2 := hB.l2
      have lM : M < w1.heap.size := lt_of_heap hB.box
      clear hM hA hH hb1
      obtain ⟨ba, bc, a, qS, hbS, hneS, haN, h5, h6⟩ := hB.sc.out
      generalize mS (bs, false) = ms at *
      obtain ⟨ml, msh⟩ := ms
      dsimp only at *
      cases msh with
      | true =>
        have hF : Hid (readF bs = 5) := by show _ = _; rw [HRF.out, if_pos rfl]
        clear h5 h6 hC
        go_wp2_with (refine wpList_store_row rfl 35 _ _ rfl w.heap.size #[.int .i64 0, .int .i64 0, .int .i64 0, .int .i64 0, .int .i64 0, .slice none 0 0, .int .i64 0, .int .i64 0, .slice none 0 0, .slice none 0 0, .int .i64 0, .int .i64 0, .slice none 0 0, .int .i64 0, .int .i64 0, .slice none 0 0, .slice none 0 0, .slice none 0 0, .int .i64 0] rfl rfl 35 _ hB.res sMsg' rfl (by simp [Value.oneCell']) ?_)
        have hFc := hF.out
        refine bodyPost_ret (v := .tuple #[.agg #[.int .i64 0, .int .i64 0, .int .i64 0, .int .i64 0, .int .i64 0, .slice none 0 0, .int .i64 0, .int .i64 0, .slice none 0 0, .slice none 0 0, .int .i64 0, .int .i64 0, .slice none 0 0, .int .i64 0, .int .i64 0, .slice none 0 0, .slice none 0 0, .slice none 0 0, .int .i64 0], .int .i64 5]) (results_cell_slot (fn := Try.f7) (p := 2) (q := 3) (ty := 35) rfl _ _ w.heap.size 35 _ (0, 0) _ (.int .i64 5) ⟨rfl, rfl⟩ (setRow_heap _ _ _ _ _ _ hB.res) Try.underlying35 rfl sMsg') rfl ⟨.inl ⟨by rw [hFc]; decide, by rw [hFc]⟩, (Upd.setRow hB.res).below hB.below hB.below.size (Nat.le_refl _)⟩
      | false =>
        obtain ⟨h51, h52⟩ := h5 rfl
        have HCX : Hid (x.c = pM (bs, false)) := hC rfl
        clear h5 h6 hC
        have s1 : w1.cell? ⟨S, 1, none⟩ = some (.int .i64 (a : Int)) := cells_at qS 1 _ rfl
        by_cases hml : a = bs.length
        · have hF : Hid (readF bs = 0) := by
            show _ = _
            rw [HRF.out, if_neg (by decide), if_neg (fun h => h (by rw [h52, hml]; simp))]
          have haI : ¬ (a : Int) < bs.length := by omega
          clear hml h51 h52 HRF
          have hB2 : Below w1.heap.size w1 w1.drew := (Below.refl _ _).drew
          go_upto_region 43 with fail
          have HF9 := messageFault_any x.m x.ss x.bl x.pl x.cbl x.cpl x.vl w1 hA1.at'
          go_wp2_with (refine wpList_load_row rfl 35 _ rfl M rfl 35 #[.int .i64 x.m.fr, .int .i64 x.m.tt, .int .i64 x.m.ki, .int .i64 x.m.bau, .int .i64 x.m.bnu, .slice x.m.bta x.m.btn x.m.btc, .int .i64 x.m.hau, .int .i64 x.m.hrd, .slice x.m.hba x.m.hbn x.m.hbc, .slice x.m.hpa x.m.hpn x.m.hpc, .int .i64 x.m.sau, .int .i64 x.m.srd, .slice x.m.sda x.m.sdn x.m.sdc, .int .i64 x.m.cau, .int .i64 x.m.crd, .slice x.m.cba x.m.cbn x.m.cbc, .slice x.m.cpa x.m.cpn x.m.cpc, .slice x.m.cva x.m.cvn x.m.cvc, .int .i64 x.m.ro] (0, 0) _ hB.box Try.underlying35 rfl sMsg' ?_)
          refine HF9.mono ?_
          rintro e w2 ⟨he, hb2⟩
          subst he
          dsimp only
          clear HF9 s1
          have hD := hB.belowW hb2
          have hA2 : Hid (MAt w2 x) := hA1.below hb2
          have HCR : Hid (carriedF x.m x.ss x.bl x.pl x.cbl x.cpl x.vl = x.car) := rfl
          generalize hCk : checkF x.m (carriedF x.m x.ss x.bl x.pl x.cbl x.cpl x.vl) = C at *
          have HCK : Hid (checkF x.m x.car = C) := hCk
          clear hCk
          by_cases hc0 : C = 0
          · subst hc0
            go_wp2_with (first | refine wpList_load_row rfl 35 _ rfl M rfl 35 #[.int .i64 x.m.fr, .int .i64 x.m.tt, .int .i64 x.m.ki, .int .i64 x.m.bau, .int .i64 x.m.bnu, .slice x.m.bta x.m.btn x.m.btc, .int .i64 x.m.hau, .int .i64 x.m.hrd, .slice x.m.hba x.m.hbn x.m.hbc, .slice x.m.hpa x.m.hpn x.m.hpc, .int .i64 x.m.sau, .int .i64 x.m.srd, .slice x.m.sda x.m.sdn x.m.sdc, .int .i64 x.m.cau, .int .i64 x.m.crd, .slice x.m.cba x.m.cbn x.m.cbc, .slice x.m.cpa x.m.cpn x.m.cpc, .slice x.m.cva x.m.cvn x.m.cvc, .int .i64 x.m.ro] (0, 0) _ hD.box Try.underlying35 rfl sMsg' ?_ | refine wpList_store_row rfl 35 _ _ rfl w.heap.size #[.int .i64 x.m.fr, .int .i64 x.m.tt, .int .i64 x.m.ki, .int .i64 x.m.bau, .int .i64 x.m.bnu, .slice x.m.bta x.m.btn x.m.btc, .int .i64 x.m.hau, .int .i64 x.m.hrd, .slice x.m.hba x.m.hbn x.m.hbc, .slice x.m.hpa x.m.hpn x.m.hpc, .int .i64 x.m.sau, .int .i64 x.m.srd, .slice x.m.sda x.m.sdn x.m.sdc, .int .i64 x.m.cau, .int .i64 x.m.crd, .slice x.m.cba x.m.cbn x.m.cbc, .slice x.m.cpa x.m.cpn x.m.cpc, .slice x.m.cva x.m.cvn x.m.cvc, .int .i64 x.m.ro] rfl rfl 35 _ hD.res sMsg' rfl (by simp [Value.oneCell']) ?_)
            refine bodyPost_ret (v := .tuple #[.agg #[.int .i64 x.m.fr, .int .i64 x.m.tt, .int .i64 x.m.ki, .int .i64 x.m.bau, .int .i64 x.m.bnu, .slice x.m.bta x.m.btn x.m.btc, .int .i64 x.m.hau, .int .i64 x.m.hrd, .slice x.m.hba x.m.hbn x.m.hbc, .slice x.m.hpa x.m.hpn x.m.hpc, .int .i64 x.m.sau, .int .i64 x.m.srd, .slice x.m.sda x.m.sdn x.m.sdc, .int .i64 x.m.cau, .int .i64 x.m.crd, .slice x.m.cba x.m.cbn x.m.cbc, .slice x.m.cpa x.m.cpn x.m.cpc, .slice x.m.cva x.m.cvn x.m.cvc, .int .i64 x.m.ro], .int .i64 0]) (results_cell_slot (fn := Try.f7) (p := 2) (q := 3) (ty := 35) rfl _ _ w.heap.size 35 _ (0, 0) _ (.int .i64 0) ⟨rfl, rfl⟩ (setRow_heap _ _ _ _ _ _ hD.res) Try.underlying35 rfl sMsg') rfl ⟨.inr ⟨hF.out, x, HCX.out, ?_, HH.out.mono (fun q hq => by omega), .inl ⟨HCK.out, rfl⟩⟩, (Upd.setRow hD.res).below hD.below hD.below.size (Nat.le_refl _)⟩
            exact hA2.out.setRow (B := M + 1) (HH.out.mono (fun q hq => by omega)) (by omega)
          · have hcn : (C != 0) = true := by simpa using hc0
            have HC0 : Hid (C ≠ 0) := hc0
            go_wp2_with (refine wpList_store_row rfl 35 _ _ rfl w.heap.size #[.int .i64 0, .int .i64 0, .int .i64 0, .int .i64 0, .int .i64 0, .slice none 0 0, .int .i64 0, .int .i64 0, .slice none 0 0, .slice none 0 0, .int .i64 0, .int .i64 0, .slice none 0 0, .int .i64 0, .int .i64 0, .slice none 0 0, .slice none 0 0, .slice none 0 0, .int .i64 0] rfl rfl 35 _ hD.res sMsg' rfl (by simp [Value.oneCell']) ?_)
            refine bodyPost_ret (v := .tuple #[.agg #[.int .i64 0, .int .i64 0, .int .i64 0, .int .i64 0, .int .i64 0, .slice none 0 0, .int .i64 0, .int .i64 0, .slice none 0 0, .slice none 0 0, .int .i64 0, .int .i64 0, .slice none 0 0, .int .i64 0, .int .i64 0, .slice none 0 0, .slice none 0 0, .slice none 0 0, .int .i64 0], .int .i64 C]) (results_cell_slot (fn := Try.f7) (p := 2) (q := 3) (ty := 35) rfl _ _ w.heap.size 35 _ (0, 0) _ (.int .i64 C) ⟨rfl, rfl⟩ (setRow_heap _ _ _ _ _ _ hD.res) Try.underlying35 rfl sMsg') rfl ⟨.inr ⟨hF.out, x, HCX.out, ?_, HH.out.mono (fun q hq => by omega), .inr ⟨by rw [HCK.out]; exact HC0.out, by rw [HCK.out]⟩⟩, (Upd.setRow hD.res).below hD.below hD.below.size (Nat.le_refl _)⟩
            exact hA2.out.setRow (B := M + 1) (HH.out.mono (fun q hq => by omega)) (by omega)
        · have hF : Hid (readF bs = 4) := by
            show _ = _
            rw [HRF.out, if_neg (by decide), if_pos (fun h => hml (by rw [h52, List.drop_eq_nil_iff] at h; omega))]
          have haI : (a : Int) < bs.length := by omega
          clear hml h51 h52 HRF
          go_wp2_with (refine wpList_store_row rfl 35 _ _ rfl w.heap.size #[.int .i64 0, .int .i64 0, .int .i64 0, .int .i64 0, .int .i64 0, .slice none 0 0, .int .i64 0, .int .i64 0, .slice none 0 0, .slice none 0 0, .int .i64 0, .int .i64 0, .slice none 0 0, .int .i64 0, .int .i64 0, .slice none 0 0, .slice none 0 0, .slice none 0 0, .int .i64 0] rfl rfl 35 _ hB.res sMsg' rfl (by simp [Value.oneCell']) ?_)
          have hFc := hF.out
          refine bodyPost_ret (v := .tuple #[.agg #[.int .i64 0, .int .i64 0, .int .i64 0, .int .i64 0, .int .i64 0, .slice none 0 0, .int .i64 0, .int .i64 0, .slice none 0 0, .slice none 0 0, .int .i64 0, .int .i64 0, .slice none 0 0, .int .i64 0, .int .i64 0, .slice none 0 0, .slice none 0 0, .slice none 0 0, .int .i64 0], .int .i64 4]) (results_cell_slot (fn := Try.f7) (p := 2) (q := 3) (ty := 35) rfl _ _ w.heap.size 35 _ (0, 0) _ (.int .i64 4) ⟨rfl, rfl⟩ (setRow_heap _ _ _ _ _ _ hB.res) Try.underlying35 rfl sMsg') rfl ⟨.inl ⟨by rw [hFc]; decide, by rw [hFc]⟩, (Upd.setRow hB.res).below hB.below hB.below.size (Nat.le_refl _)⟩
end Go.Proofs.Ythlknldicpeobaa
