/- The document's MessageFault: P2.8, for every message. -/
import Derived.Test.YtchmfbhdnhaleaaRMsg
import Derived.Test.YtchmfbhdnhaleaaCheckM
import Derived.Test.YtchmfbhdnhaleaaMsgF
import Derived.Test.YtchmfbhdnhaleaaRBatch
import Derived.Test.YtchmfbhdnhaleaaRHead
import Derived.Test.YtchmfbhdnhaleaaRSlot
import Derived.Test.YtchmfbhdnhaleaaRCert
import Derived.Deep.CutRange
import Derived.Deep.DeepCutAuto
namespace Go.Proofs.Ytchmfbhdnhaleaa
open Go.RowKit

set_option maxRecDepth 100000 in
set_option maxHeartbeats 16000000 in
theorem messageFault_any (m : Msg) (ss : List ByteArray) (bl pl cbl cpl : List Part) (vl : List Int) (w : World) (H : MsgAt w m ss bl pl cbl cpl vl) :
    Calls Try.prog 23 #[.agg #[.int .i64 m.fr, .int .i64 m.tt, .int .i64 m.ki, .int .i64 m.bau, .int .i64 m.bnu, .slice m.bta m.btn m.btc, .int .i64 m.hau, .int .i64 m.hrd, .slice m.hba m.hbn m.hbc, .slice m.hpa m.hpn m.hpc, .int .i64 m.sau, .int .i64 m.srd, .slice m.sda m.sdn m.sdc, .int .i64 m.cau, .int .i64 m.crd, .slice m.cba m.cbn m.cbc, .slice m.cpa m.cpn m.cpc, .slice m.cva m.cvn m.cvc, .int .i64 m.ro]] w fun e w' => e = .returned (.int .i64 (checkF m (carriedF m ss bl pl cbl cpl vl))) ∧ Below w.heap.size w w' := by
  have hA : Below w.heap.size w (w.alloc (.cells #[.int .i64 m.fr, .int .i64 m.tt, .int .i64 m.ki, .int .i64 m.bau, .int .i64 m.bnu, .slice m.bta m.btn m.btc, .int .i64 m.hau, .int .i64 m.hrd, .slice m.hba m.hbn m.hbc, .slice m.hpa m.hpn m.hpc, .int .i64 m.sau, .int .i64 m.srd, .slice m.sda m.sdn m.sdc, .int .i64 m.cau, .int .i64 m.crd, .slice m.cba m.cbn m.cbc, .slice m.cpa m.cpn m.cpc, .slice m.cva m.cvn m.cvc, .int .i64 m.ro] 35)) := (Below.refl _ _).alloc (Nat.le_refl _) _
  by_cases hf : 0 ≤ m.fr ∧ m.fr ≤ 3
  · by_cases ht : 0 ≤ m.tt ∧ m.tt ≤ 3
    · by_cases hk : 1 ≤ m.ki ∧ m.ki ≤ 5
      · have q0 := heap_alloc_new w (.cells #[.int .i64 m.fr, .int .i64 m.tt, .int .i64 m.ki, .int .i64 m.bau, .int .i64 m.bnu, .slice m.bta m.btn m.btc, .int .i64 m.hau, .int .i64 m.hrd, .slice m.hba m.hbn m.hbc, .slice m.hpa m.hpn m.hpc, .int .i64 m.sau, .int .i64 m.srd, .slice m.sda m.sdn m.sdc, .int .i64 m.cau, .int .i64 m.crd, .slice m.cba m.cbn m.cbc, .slice m.cpa m.cpn m.cpc, .slice m.cva m.cvn m.cvc, .int .i64 m.ro] 35)
        go_enter Try.func23, Try.ntmps23
        go_upto_region 5 with (go_at_call 36; first | (refine (in_true _ _ _ _ (by omega)).mono ?_; rintro e w' ⟨rfl, rfl⟩) | (refine (in_false _ _ _ _ (by omega)).mono ?_; rintro e w' ⟨rfl, rfl⟩))
        go_cut [3] (fun v wx => v = .int .i64 0 ∧ wx = w.alloc (.cells #[.int .i64 m.fr, .int .i64 m.tt, .int .i64 m.ki, .int .i64 m.bau, .int .i64 m.bnu, .slice m.bta m.btn m.btc, .int .i64 m.hau, .int .i64 m.hrd, .slice m.hba m.hbn m.hbc, .slice m.hpa m.hpn m.hpc, .int .i64 m.sau, .int .i64 m.srd, .slice m.sda m.sdn m.sdc, .int .i64 m.cau, .int .i64 m.crd, .slice m.cba m.cbn m.cbc, .slice m.cpa m.cpn m.cpc, .slice m.cva m.cvn m.cvc, .int .i64 m.ro] 35))
        case first =>
          go_wp2_with fail
          go_meet
          case rel => exact ⟨rfl, rfl⟩
        case rest =>
          obtain ⟨rfl, rfl⟩ := hcut
          apply_assumption
          refine wp_seq_k (fun K2 hK2 => ?_)
          go_cut [3] (fun v wx => v = .int .i64 (carriedF m ss bl pl cbl cpl vl) ∧ Below w.heap.size w wx ∧ wx.heap[w.heap.size]? = some (.cells #[.int .i64 m.fr, .int .i64 m.tt, .int .i64 m.ki, .int .i64 m.bau, .int .i64 m.bnu, .slice m.bta m.btn m.btc, .int .i64 m.hau, .int .i64 m.hrd, .slice m.hba m.hbn m.hbc, .slice m.hpa m.hpn m.hpc, .int .i64 m.sau, .int .i64 m.srd, .slice m.sda m.sdn m.sdc, .int .i64 m.cau, .int .i64 m.crd, .slice m.cba m.cbn m.cbc, .slice m.cpa m.cpn m.cpc, .slice m.cva m.cvn m.cvc, .int .i64 m.ro] 35 (0, 0)))
          case first =>
            have hkk : m.ki = 1 ∨ m.ki = 2 ∨ m.ki = 3 ∨ m.ki = 4 ∨ m.ki = 5 := by omega
            have hBf : ∀ wx, Below w.heap.size w wx → Calls Try.prog 37 #[.agg #[.int .i64 m.bau, .int .i64 m.bnu, .slice m.bta m.btn m.btc]] wx fun e w' => e = .returned (.int .i64 (batchF m.bau m.bnu ss)) ∧ Below wx.heap.size wx w' := fun wx hb => batchFault_any m.bau m.bnu m.bta m.btn m.btc ss wx H.e1 (by rw [H.e1]; have := H.s1; unfold maxLen; omega) (H.txs.below hb)
            have hHf : ∀ wx, Below w.heap.size w wx → Calls Try.prog 38 #[.agg #[.int .i64 m.hau, .int .i64 m.hrd, .slice m.hba m.hbn m.hbc, .slice m.hpa m.hpn m.hpc]] wx fun e w' => e = .returned (.int .i64 (headerF m.hau m.hrd bl pl)) ∧ Below wx.heap.size wx w' := fun wx hb => by
              have h9 := headerFault_any m.hau m.hrd m.hba m.hbc bl m.hpa m.hpc pl wx (H.bat.below hb) (H.par.below hb)
              rw [← H.e2, ← H.e3] at h9
              exact h9
            have hCf : ∀ wx, Below w.heap.size w wx → Calls Try.prog 40 #[.agg #[.int .i64 m.cau, .int .i64 m.crd, .slice m.cba m.cbn m.cbc, .slice m.cpa m.cpn m.cpc, .slice m.cva m.cvn m.cvc]] wx fun e w' => e = .returned (.int .i64 (certF m.cau m.crd cbl cpl vl)) ∧ Below wx.heap.size wx w' := fun wx hb => by
              have h9 := certFault_any m.cau m.crd m.cba m.cbc cbl m.cpa m.cpc cpl m.cva m.cvc vl wx (H.cbat.below hb) (H.cpar.below hb) (H.vot.below hb) H.s6
              rw [← H.e4, ← H.e5, ← H.e6] at h9
              exact h9
            have HBf : Hid _ := hBf
            have HHf : Hid _ := hHf
            have HCf : Hid _ := hCf
            have HA : Hid _ := hA
            clear hBf hHf hCf H hA
            rcases hkk with h | h | h | h | h
            · have hcf : Hid (carriedF m ss bl pl cbl cpl vl = batchF m.bau m.bnu ss) := by show _ = _; simp [carriedF, h]
              have hkb1 : (m.ki == 1) = true := by simp [h]
              have hkb2 : (m.ki == 2) = false := by simp [h]
              have hkb3 : (m.ki == 3) = false := by simp [h]
              have hkb4 : (m.ki == 4) = false := by simp [h]
              clear h
              go_wp2_with fail
              refine (HBf.out _ HA.out).mono ?_
              rintro e w2 ⟨rfl, hb2⟩
              go_wp2_with fail
              go_meet
              case rel => exact ⟨by rw [hcf.out], below_alloc hb2, row_new hb2⟩
            · have hcf : Hid (carriedF m ss bl pl cbl cpl vl = headerF m.hau m.hrd bl pl) := by show _ = _; simp [carriedF, h]
              have hkb1 : (m.ki == 1) = false := by simp [h]
              have hkb2 : (m.ki == 2) = true := by simp [h]
              have hkb3 : (m.ki == 3) = false := by simp [h]
              have hkb4 : (m.ki == 4) = false := by simp [h]
              clear h
              go_wp2_with fail
              refine (HHf.out _ HA.out).mono ?_
              rintro e w2 ⟨rfl, hb2⟩
              go_wp2_with fail
              go_meet
              case rel => exact ⟨by rw [hcf.out], below_alloc hb2, row_new hb2⟩
            · have hcf : Hid (carriedF m ss bl pl cbl cpl vl = slotF m.sau m.srd m.sdn) := by show _ = _; simp [carriedF, h]
              have hkb1 : (m.ki == 1) = false := by simp [h]
              have hkb2 : (m.ki == 2) = false := by simp [h]
              have hkb3 : (m.ki == 3) = true := by simp [h]
              have hkb4 : (m.ki == 4) = false := by simp [h]
              clear h
              go_wp2_with fail
              refine (slotFault_any m.sau m.srd m.sda m.sdn m.sdc _).mono ?_
              rintro e w2 ⟨rfl, hb2⟩
              go_wp2_with fail
              go_meet
              case rel => exact ⟨by rw [hcf.out], below_alloc hb2, row_new hb2⟩
            · have hcf : Hid (carriedF m ss bl pl cbl cpl vl = certF m.cau m.crd cbl cpl vl) := by show _ = _; simp [carriedF, h]
              have hkb1 : (m.ki == 1) = false := by simp [h]
              have hkb2 : (m.ki == 2) = false := by simp [h]
              have hkb3 : (m.ki == 3) = false := by simp [h]
              have hkb4 : (m.ki == 4) = true := by simp [h]
              clear h
              go_wp2_with fail
              refine (HCf.out _ HA.out).mono ?_
              rintro e w2 ⟨rfl, hb2⟩
              go_wp2_with fail
              go_meet
              case rel => exact ⟨by rw [hcf.out], below_alloc hb2, row_new hb2⟩
            · have hkb1 : (m.ki == 1) = false := by simp [h]
              have hkb2 : (m.ki == 2) = false := by simp [h]
              have hkb3 : (m.ki == 3) = false := by simp [h]
              have hkb4 : (m.ki == 4) = false := by simp [h]
              have hkb5 : (m.ki == 5) = true := by simp [h]
              by_cases hr : 1 ≤ m.ro ∧ m.ro ≤ 1048576
              · have hcf : Hid (carriedF m ss bl pl cbl cpl vl = 0) := by show _ = _; simp [carriedF, h, hr]
                clear h
                go_wp2_with (go_at_call 36; first | (refine (in_true _ _ _ _ (by omega)).mono ?_; rintro e w' ⟨rfl, rfl⟩) | (refine (in_false _ _ _ _ (by omega)).mono ?_; rintro e w' ⟨rfl, rfl⟩))
                go_meet
                case rel => exact ⟨by rw [hcf.out], HA.out, heap_alloc_new _ _⟩
              · have hcf : Hid (carriedF m ss bl pl cbl cpl vl = 2) := by show _ = _; simp [carriedF, h, hr]
                clear h
                go_wp2_with (go_at_call 36; first | (refine (in_true _ _ _ _ (by omega)).mono ?_; rintro e w' ⟨rfl, rfl⟩) | (refine (in_false _ _ _ _ (by omega)).mono ?_; rintro e w' ⟨rfl, rfl⟩))
                go_meet
                case rel => exact ⟨by rw [hcf.out], HA.out, heap_alloc_new _ _⟩
          case rest =>
            obtain ⟨rfl, hW, r0⟩ := hcut
            have HM : Hid _ := H
            clear H q0 hA
            by_cases he : carriedF m ss bl pl cbl cpl vl = 0
            · rw [he]
              have HE : Hid _ := he
              clear he
              have c3 : wc.cell? ⟨w.heap.size, 3, none⟩ = some (.int .i64 m.bau) := cells_at r0 3 _ rfl
              have c4 : wc.cell? ⟨w.heap.size, 4, none⟩ = some (.int .i64 m.bnu) := cells_at r0 4 _ rfl
              have c5 : wc.cell? ⟨w.heap.size, 5, none⟩ = some (.slice m.bta m.btn m.btc) := cells_at r0 5 _ rfl
              have c10 : wc.cell? ⟨w.heap.size, 10, none⟩ = some (.int .i64 m.sau) := cells_at r0 10 _ rfl
              have c11 : wc.cell? ⟨w.heap.size, 11, none⟩ = some (.int .i64 m.srd) := cells_at r0 11 _ rfl
              have c12 : wc.cell? ⟨w.heap.size, 12, none⟩ = some (.slice m.sda m.sdn m.sdc) := cells_at r0 12 _ rfl
              go_upto_region 20 with fail
              go_cut [4] (fun v wx => v = .bool (decide (¬ (m.bau = 0 ∧ m.bnu = 0 ∧ m.btn = 0))) ∧ wx = wc)
              case first =>
                clear r0 hW HM HE c10 c11 c12
                generalize m.bau = xA at *
                generalize m.bnu = xB at *
                generalize m.btn = xN at *
                by_cases a1 : xA = 0
                · subst a1
                  by_cases a2 : xB = 0
                  · subst a2
                    go_wp2_with fail
                    go_meet
                    case rel => exact ⟨congrArg _ (by simp [Nat.pos_iff_ne_zero]), rfl⟩
                  · have a2I : (xB == 0) = false := by simpa using a2
                    go_wp2_with fail
                    go_meet
                    case rel => exact ⟨congrArg _ (by simp [a2]), rfl⟩
                · have a1I : (xA == 0) = false := by simpa using a1
                  go_wp2_with fail
                  go_meet
                  case rel => exact ⟨congrArg _ (by simp [a1]), rfl⟩
              case rest =>
                obtain ⟨rfl, rfl⟩ := hcut
                clear c3 c4 c5
                generalize hbb : decide (¬ (m.bau = 0 ∧ m.bnu = 0 ∧ m.btn = 0)) = bb
                have HB : Hid _ := hbb
                clear hbb
                apply_assumption
                refine wp_seq_k (fun K3 hK3 => ?_)
                go_cut [5] (fun v wx => v = .bool (decide (¬ (m.sau = 0 ∧ m.srd = 0 ∧ m.sdn = 0))) ∧ wx = wc)
                case first =>
                  clear r0 hW HM HE HB
                  generalize m.sau = xA at *
                  generalize m.srd = xB at *
                  generalize m.sdn = xN at *
                  by_cases a1 : xA = 0
                  · subst a1
                    by_cases a2 : xB = 0
                    · subst a2
                      go_wp2_with fail
                      go_meet
                      case rel => exact ⟨congrArg _ (by simp [Nat.pos_iff_ne_zero]), rfl⟩
                    · have a2I : (xB == 0) = false := by simpa using a2
                      go_wp2_with fail
                      go_meet
                      case rel => exact ⟨congrArg _ (by simp [a2]), rfl⟩
                  · have a1I : (xA == 0) = false := by simpa using a1
                    go_wp2_with fail
                    go_meet
                    case rel => exact ⟨congrArg _ (by simp [a1]), rfl⟩
                case rest =>
                  obtain ⟨rfl, rfl⟩ := hcut
                  clear c10 c11 c12
                  generalize hsb : decide (¬ (m.sau = 0 ∧ m.srd = 0 ∧ m.sdn = 0)) = sb
                  have HS : Hid _ := hsb
                  clear hsb
                  apply_assumption
                  refine wp_seq_k (fun K4 hK4 => ?_)
                  have c13 : wc.cell? ⟨w.heap.size, 13, none⟩ = some (.int .i64 m.cau) := cells_at r0 13 _ rfl
                  have c14 : wc.cell? ⟨w.heap.size, 14, none⟩ = some (.int .i64 m.crd) := cells_at r0 14 _ rfl
                  have c15 : wc.cell? ⟨w.heap.size, 15, none⟩ = some (.slice m.cba m.cbn m.cbc) := cells_at r0 15 _ rfl
                  have c16 : wc.cell? ⟨w.heap.size, 16, none⟩ = some (.slice m.cpa m.cpn m.cpc) := cells_at r0 16 _ rfl
                  have c17 : wc.cell? ⟨w.heap.size, 17, none⟩ = some (.slice m.cva m.cvn m.cvc) := cells_at r0 17 _ rfl
                  go_cut [6] (fun v wx => v = .bool (decide (¬ (m.cau = 0 ∧ m.crd = 0 ∧ m.cbn = 0 ∧ m.cpn = 0 ∧ m.cvn = 0))) ∧ Below w.heap.size w wx ∧ wx.heap[w.heap.size]? = some (.cells #[.int .i64 m.fr, .int .i64 m.tt, .int .i64 m.ki, .int .i64 m.bau, .int .i64 m.bnu, .slice m.bta m.btn m.btc, .int .i64 m.hau, .int .i64 m.hrd, .slice m.hba m.hbn m.hbc, .slice m.hpa m.hpn m.hpc, .int .i64 m.sau, .int .i64 m.srd, .slice m.sda m.sdn m.sdc, .int .i64 m.cau, .int .i64 m.crd, .slice m.cba m.cbn m.cbc, .slice m.cpa m.cpn m.cpc, .slice m.cva m.cvn m.cvc, .int .i64 m.ro] 35 (0, 0)))
                  case first =>
                    have hlt := lt_of_heap r0
                    by_cases hh : m.cau = 0 ∧ m.crd = 0 ∧ m.cbn = 0 ∧ m.cpn = 0
                    · have hH : Hid _ := hh
                      clear hh
                      go_wp2_with fail
                      refine (headerEmpty_true _ _ _ _ _ _ _ _ _ hH.out).mono ?_
                      rintro e w2 ⟨rfl, hb2⟩
                      have r2 := (hb2.block _ hlt).trans r0
                      clear c13 c14 c15 c16 c17
                      have c17 : w2.cell? ⟨w.heap.size, 17, none⟩ = some (.slice m.cva m.cvn m.cvc) := cells_at r2 17 _ rfl
                      go_wp2_with fail
                      go_meet
                      case rel => exact ⟨congrArg _ (by simp [hH.out, Nat.pos_iff_ne_zero]), hW.trans (hb2.mono hW.size), r2⟩
                    · have hH : Hid _ := hh
                      clear hh
                      go_wp2_with fail
                      refine (headerEmpty_false _ _ _ _ _ _ _ _ _ hH.out).mono ?_
                      rintro e w2 ⟨rfl, hb2⟩
                      have r2 := (hb2.block _ hlt).trans r0
                      clear c13 c14 c15 c16 c17
                      go_wp2_with fail
                      go_meet
                      case rel => exact ⟨congrArg _ (by rw [decide_eq_true]; exact fun h => hH.out ⟨h.1, h.2.1, h.2.2.1, h.2.2.2.1⟩), hW.trans (hb2.mono hW.size), r2⟩
                  case rest =>
                    obtain ⟨rfl, hW3, r3⟩ := hcut
                    clear c13 c14 c15 c16 c17 r0 hW
                    generalize hcb : decide (¬ (m.cau = 0 ∧ m.crd = 0 ∧ m.cbn = 0 ∧ m.cpn = 0 ∧ m.cvn = 0)) = cb
                    have HC : Hid _ := hcb
                    clear hcb
                    have hkk : m.ki = 1 ∨ m.ki = 2 ∨ m.ki = 3 ∨ m.ki = 4 ∨ m.ki = 5 := by omega
                    have hF : Hid (checkF m (carriedF m ss bl pl cbl cpl vl) = if (bb = true ∧ m.ki ≠ 1) ∨ (¬ (m.hau = 0 ∧ m.hrd = 0 ∧ m.hbn = 0 ∧ m.hpn = 0) ∧ m.ki ≠ 2) ∨ (sb = true ∧ m.ki ≠ 3) ∨ (cb = true ∧ m.ki ≠ 4) ∨ (m.ro ≠ 0 ∧ m.ki ≠ 5) then 4 else 0) := by
                      show _ = _
                      rw [HE.out, checkF, if_neg (by omega), if_neg (by omega), ← HB.out, ← HS.out, ← HC.out]
                      simp only [decide_eq_true_eq]
                      rcases hkk with h | h | h | h | h <;> simp only [msgEmpty, strip, h] <;> simp <;> split <;> split <;> omega
                    have hlt := lt_of_heap r3
                    have c2 : wc.cell? ⟨w.heap.size, 2, none⟩ = some (.int .i64 m.ki) := cells_at r3 2 _ rfl
                    have c6 : wc.cell? ⟨w.heap.size, 6, none⟩ = some (.int .i64 m.hau) := cells_at r3 6 _ rfl
                    have c7 : wc.cell? ⟨w.heap.size, 7, none⟩ = some (.int .i64 m.hrd) := cells_at r3 7 _ rfl
                    have c8 : wc.cell? ⟨w.heap.size, 8, none⟩ = some (.slice m.hba m.hbn m.hbc) := cells_at r3 8 _ rfl
                    have c9 : wc.cell? ⟨w.heap.size, 9, none⟩ = some (.slice m.hpa m.hpn m.hpc) := cells_at r3 9 _ rfl
                    have c18 : wc.cell? ⟨w.heap.size, 18, none⟩ = some (.int .i64 m.ro) := cells_at r3 18 _ rfl
                    apply_assumption
                    rcases hkk with h | h | h | h | h
                    · have hkb1 : (m.ki == 1) = true := by simp [h]
                      have hkn1 : (m.ki != 1) = false := by simp [h]
                      have hkb2 : (m.ki == 2) = false := by simp [h]
                      have hkn2 : (m.ki != 2) = true := by simp [h]
                      have hkb3 : (m.ki == 3) = false := by simp [h]
                      have hkn3 : (m.ki != 3) = true := by simp [h]
                      have hkb4 : (m.ki == 4) = false := by simp [h]
                      have hkn4 : (m.ki != 4) = true := by simp [h]
                      have hkb5 : (m.ki == 5) = false := by simp [h]
                      have hkn5 : (m.ki != 5) = true := by simp [h]
                      have hO : Hid _ := h
                      clear h
                      cases bb
                      · by_cases hh : m.hau = 0 ∧ m.hrd = 0 ∧ m.hbn = 0 ∧ m.hpn = 0
                        · have hH : Hid (m.hau = 0 ∧ m.hrd = 0 ∧ m.hbn = 0 ∧ m.hpn = 0) := hh
                          clear hh
                          go_wp2_with fail
                          refine (headerEmpty_true _ _ _ _ _ _ _ _ _ hH.out).mono ?_
                          rintro e w2 ⟨rfl, hb2⟩
                          have r2 := (hb2.block _ hlt).trans r3
                          have hW2 := hW3.trans (hb2.mono hW3.size)
                          clear c2 c6 c7 c8 c9 c18
                          have c2 : w2.cell? ⟨w.heap.size, 2, none⟩ = some (.int .i64 m.ki) := cells_at r2 2 _ rfl
                          have c18 : w2.cell? ⟨w.heap.size, 18, none⟩ = some (.int .i64 m.ro) := cells_at r2 18 _ rfl
                          cases sb
                          · cases cb
                            · by_cases hr : m.ro = 0
                              · have hrb : (m.ro == 0) = true := by simp [hr]
                                have hrn : (m.ro != 0) = false := by simp [hr]
                                have hR : Hid (m.ro = 0) := hr
                                clear hr
                                go_wp2_with fail
                                go_ret
                                exact ⟨ret_int (hF.out.trans (by simp [hO.out, hH.out, hR.out])).symm, hW2⟩
                              · have hrb : (m.ro == 0) = false := by simpa using hr
                                have hrn : (m.ro != 0) = true := by simp [hr]
                                have hR : Hid (¬ m.ro = 0) := hr
                                clear hr
                                go_wp2_with fail
                                go_ret
                                exact ⟨ret_int (hF.out.trans (by simp [hO.out, hH.out, hR.out])).symm, hW2⟩
                            · go_wp2_with fail
                              go_ret
                              exact ⟨ret_int (hF.out.trans (by simp [hO.out, hH.out])).symm, hW2⟩
                          · go_wp2_with fail
                            go_ret
                            exact ⟨ret_int (hF.out.trans (by simp [hO.out, hH.out])).symm, hW2⟩
                        · have hH : Hid (¬ (m.hau = 0 ∧ m.hrd = 0 ∧ m.hbn = 0 ∧ m.hpn = 0)) := hh
                          clear hh
                          go_wp2_with fail
                          refine (headerEmpty_false _ _ _ _ _ _ _ _ _ hH.out).mono ?_
                          rintro e w2 ⟨rfl, hb2⟩
                          have r2 := (hb2.block _ hlt).trans r3
                          have hW2 := hW3.trans (hb2.mono hW3.size)
                          clear c2 c6 c7 c8 c9 c18
                          have c2 : w2.cell? ⟨w.heap.size, 2, none⟩ = some (.int .i64 m.ki) := cells_at r2 2 _ rfl
                          have c18 : w2.cell? ⟨w.heap.size, 18, none⟩ = some (.int .i64 m.ro) := cells_at r2 18 _ rfl
                          go_wp2_with fail
                          go_ret
                          exact ⟨ret_int (hF.out.trans (by simp [hO.out, hH.out])).symm, hW2⟩
                      · by_cases hh : m.hau = 0 ∧ m.hrd = 0 ∧ m.hbn = 0 ∧ m.hpn = 0
                        · have hH : Hid (m.hau = 0 ∧ m.hrd = 0 ∧ m.hbn = 0 ∧ m.hpn = 0) := hh
                          clear hh
                          go_wp2_with fail
                          refine (headerEmpty_true _ _ _ _ _ _ _ _ _ hH.out).mono ?_
                          rintro e w2 ⟨rfl, hb2⟩
                          have r2 := (hb2.block _ hlt).trans r3
                          have hW2 := hW3.trans (hb2.mono hW3.size)
                          clear c2 c6 c7 c8 c9 c18
                          have c2 : w2.cell? ⟨w.heap.size, 2, none⟩ = some (.int .i64 m.ki) := cells_at r2 2 _ rfl
                          have c18 : w2.cell? ⟨w.heap.size, 18, none⟩ = some (.int .i64 m.ro) := cells_at r2 18 _ rfl
                          cases sb
                          · cases cb
                            · by_cases hr : m.ro = 0
                              · have hrb : (m.ro == 0) = true := by simp [hr]
                                have hrn : (m.ro != 0) = false := by simp [hr]
                                have hR : Hid (m.ro = 0) := hr
                                clear hr
                                go_wp2_with fail
                                go_ret
                                exact ⟨ret_int (hF.out.trans (by simp [hO.out, hH.out, hR.out])).symm, hW2⟩
                              · have hrb : (m.ro == 0) = false := by simpa using hr
                                have hrn : (m.ro != 0) = true := by simp [hr]
                                have hR : Hid (¬ m.ro = 0) := hr
                                clear hr
                                go_wp2_with fail
                                go_ret
                                exact ⟨ret_int (hF.out.trans (by simp [hO.out, hH.out, hR.out])).symm, hW2⟩
                            · go_wp2_with fail
                              go_ret
                              exact ⟨ret_int (hF.out.trans (by simp [hO.out, hH.out])).symm, hW2⟩
                          · go_wp2_with fail
                            go_ret
                            exact ⟨ret_int (hF.out.trans (by simp [hO.out, hH.out])).symm, hW2⟩
                        · have hH : Hid (¬ (m.hau = 0 ∧ m.hrd = 0 ∧ m.hbn = 0 ∧ m.hpn = 0)) := hh
                          clear hh
                          go_wp2_with fail
                          refine (headerEmpty_false _ _ _ _ _ _ _ _ _ hH.out).mono ?_
                          rintro e w2 ⟨rfl, hb2⟩
                          have r2 := (hb2.block _ hlt).trans r3
                          have hW2 := hW3.trans (hb2.mono hW3.size)
                          clear c2 c6 c7 c8 c9 c18
                          have c2 : w2.cell? ⟨w.heap.size, 2, none⟩ = some (.int .i64 m.ki) := cells_at r2 2 _ rfl
                          have c18 : w2.cell? ⟨w.heap.size, 18, none⟩ = some (.int .i64 m.ro) := cells_at r2 18 _ rfl
                          go_wp2_with fail
                          go_ret
                          exact ⟨ret_int (hF.out.trans (by simp [hO.out, hH.out])).symm, hW2⟩
                    · have hkb1 : (m.ki == 1) = false := by simp [h]
                      have hkn1 : (m.ki != 1) = true := by simp [h]
                      have hkb2 : (m.ki == 2) = true := by simp [h]
                      have hkn2 : (m.ki != 2) = false := by simp [h]
                      have hkb3 : (m.ki == 3) = false := by simp [h]
                      have hkn3 : (m.ki != 3) = true := by simp [h]
                      have hkb4 : (m.ki == 4) = false := by simp [h]
                      have hkn4 : (m.ki != 4) = true := by simp [h]
                      have hkb5 : (m.ki == 5) = false := by simp [h]
                      have hkn5 : (m.ki != 5) = true := by simp [h]
                      have hO : Hid _ := h
                      clear h
                      cases bb
                      · by_cases hh : m.hau = 0 ∧ m.hrd = 0 ∧ m.hbn = 0 ∧ m.hpn = 0
                        · have hH : Hid (m.hau = 0 ∧ m.hrd = 0 ∧ m.hbn = 0 ∧ m.hpn = 0) := hh
                          clear hh
                          go_wp2_with fail
                          refine (headerEmpty_true _ _ _ _ _ _ _ _ _ hH.out).mono ?_
                          rintro e w2 ⟨rfl, hb2⟩
                          have r2 := (hb2.block _ hlt).trans r3
                          have hW2 := hW3.trans (hb2.mono hW3.size)
                          clear c2 c6 c7 c8 c9 c18
                          have c2 : w2.cell? ⟨w.heap.size, 2, none⟩ = some (.int .i64 m.ki) := cells_at r2 2 _ rfl
                          have c18 : w2.cell? ⟨w.heap.size, 18, none⟩ = some (.int .i64 m.ro) := cells_at r2 18 _ rfl
                          cases sb
                          · cases cb
                            · by_cases hr : m.ro = 0
                              · have hrb : (m.ro == 0) = true := by simp [hr]
                                have hrn : (m.ro != 0) = false := by simp [hr]
                                have hR : Hid (m.ro = 0) := hr
                                clear hr
                                go_wp2_with fail
                                go_ret
                                exact ⟨ret_int (hF.out.trans (by simp [hO.out, hR.out])).symm, hW2⟩
                              · have hrb : (m.ro == 0) = false := by simpa using hr
                                have hrn : (m.ro != 0) = true := by simp [hr]
                                have hR : Hid (¬ m.ro = 0) := hr
                                clear hr
                                go_wp2_with fail
                                go_ret
                                exact ⟨ret_int (hF.out.trans (by simp [hO.out, hR.out])).symm, hW2⟩
                            · go_wp2_with fail
                              go_ret
                              exact ⟨ret_int (hF.out.trans (by simp [hO.out])).symm, hW2⟩
                          · go_wp2_with fail
                            go_ret
                            exact ⟨ret_int (hF.out.trans (by simp [hO.out])).symm, hW2⟩
                        · have hH : Hid (¬ (m.hau = 0 ∧ m.hrd = 0 ∧ m.hbn = 0 ∧ m.hpn = 0)) := hh
                          clear hh
                          go_wp2_with fail
                          refine (headerEmpty_false _ _ _ _ _ _ _ _ _ hH.out).mono ?_
                          rintro e w2 ⟨rfl, hb2⟩
                          have r2 := (hb2.block _ hlt).trans r3
                          have hW2 := hW3.trans (hb2.mono hW3.size)
                          clear c2 c6 c7 c8 c9 c18
                          have c2 : w2.cell? ⟨w.heap.size, 2, none⟩ = some (.int .i64 m.ki) := cells_at r2 2 _ rfl
                          have c18 : w2.cell? ⟨w.heap.size, 18, none⟩ = some (.int .i64 m.ro) := cells_at r2 18 _ rfl
                          cases sb
                          · cases cb
                            · by_cases hr : m.ro = 0
                              · have hrb : (m.ro == 0) = true := by simp [hr]
                                have hrn : (m.ro != 0) = false := by simp [hr]
                                have hR : Hid (m.ro = 0) := hr
                                clear hr
                                go_wp2_with fail
                                go_ret
                                exact ⟨ret_int (hF.out.trans (by simp [hO.out, hR.out])).symm, hW2⟩
                              · have hrb : (m.ro == 0) = false := by simpa using hr
                                have hrn : (m.ro != 0) = true := by simp [hr]
                                have hR : Hid (¬ m.ro = 0) := hr
                                clear hr
                                go_wp2_with fail
                                go_ret
                                exact ⟨ret_int (hF.out.trans (by simp [hO.out, hR.out])).symm, hW2⟩
                            · go_wp2_with fail
                              go_ret
                              exact ⟨ret_int (hF.out.trans (by simp [hO.out])).symm, hW2⟩
                          · go_wp2_with fail
                            go_ret
                            exact ⟨ret_int (hF.out.trans (by simp [hO.out])).symm, hW2⟩
                      · go_wp2_with fail
                        go_ret
                        exact ⟨ret_int (hF.out.trans (by simp [hO.out])).symm, hW3⟩
                    · have hkb1 : (m.ki == 1) = false := by simp [h]
                      have hkn1 : (m.ki != 1) = true := by simp [h]
                      have hkb2 : (m.ki == 2) = false := by simp [h]
                      have hkn2 : (m.ki != 2) = true := by simp [h]
                      have hkb3 : (m.ki == 3) = true := by simp [h]
                      have hkn3 : (m.ki != 3) = false := by simp [h]
                      have hkb4 : (m.ki == 4) = false := by simp [h]
                      have hkn4 : (m.ki != 4) = true := by simp [h]
                      have hkb5 : (m.ki == 5) = false := by simp [h]
                      have hkn5 : (m.ki != 5) = true := by simp [h]
                      have hO : Hid _ := h
                      clear h
                      cases bb
                      · by_cases hh : m.hau = 0 ∧ m.hrd = 0 ∧ m.hbn = 0 ∧ m.hpn = 0
                        · have hH : Hid (m.hau = 0 ∧ m.hrd = 0 ∧ m.hbn = 0 ∧ m.hpn = 0) := hh
                          clear hh
                          go_wp2_with fail
                          refine (headerEmpty_true _ _ _ _ _ _ _ _ _ hH.out).mono ?_
                          rintro e w2 ⟨rfl, hb2⟩
                          have r2 := (hb2.block _ hlt).trans r3
                          have hW2 := hW3.trans (hb2.mono hW3.size)
                          clear c2 c6 c7 c8 c9 c18
                          have c2 : w2.cell? ⟨w.heap.size, 2, none⟩ = some (.int .i64 m.ki) := cells_at r2 2 _ rfl
                          have c18 : w2.cell? ⟨w.heap.size, 18, none⟩ = some (.int .i64 m.ro) := cells_at r2 18 _ rfl
                          cases sb
                          · cases cb
                            · by_cases hr : m.ro = 0
                              · have hrb : (m.ro == 0) = true := by simp [hr]
                                have hrn : (m.ro != 0) = false := by simp [hr]
                                have hR : Hid (m.ro = 0) := hr
                                clear hr
                                go_wp2_with fail
                                go_ret
                                exact ⟨ret_int (hF.out.trans (by simp [hO.out, hH.out, hR.out])).symm, hW2⟩
                              · have hrb : (m.ro == 0) = false := by simpa using hr
                                have hrn : (m.ro != 0) = true := by simp [hr]
                                have hR : Hid (¬ m.ro = 0) := hr
                                clear hr
                                go_wp2_with fail
                                go_ret
                                exact ⟨ret_int (hF.out.trans (by simp [hO.out, hH.out, hR.out])).symm, hW2⟩
                            · go_wp2_with fail
                              go_ret
                              exact ⟨ret_int (hF.out.trans (by simp [hO.out, hH.out])).symm, hW2⟩
                          · cases cb
                            · by_cases hr : m.ro = 0
                              · have hrb : (m.ro == 0) = true := by simp [hr]
                                have hrn : (m.ro != 0) = false := by simp [hr]
                                have hR : Hid (m.ro = 0) := hr
                                clear hr
                                go_wp2_with fail
                                go_ret
                                exact ⟨ret_int (hF.out.trans (by simp [hO.out, hH.out, hR.out])).symm, hW2⟩
                              · have hrb : (m.ro == 0) = false := by simpa using hr
                                have hrn : (m.ro != 0) = true := by simp [hr]
                                have hR : Hid (¬ m.ro = 0) := hr
                                clear hr
                                go_wp2_with fail
                                go_ret
                                exact ⟨ret_int (hF.out.trans (by simp [hO.out, hH.out, hR.out])).symm, hW2⟩
                            · go_wp2_with fail
                              go_ret
                              exact ⟨ret_int (hF.out.trans (by simp [hO.out, hH.out])).symm, hW2⟩
                        · have hH : Hid (¬ (m.hau = 0 ∧ m.hrd = 0 ∧ m.hbn = 0 ∧ m.hpn = 0)) := hh
                          clear hh
                          go_wp2_with fail
                          refine (headerEmpty_false _ _ _ _ _ _ _ _ _ hH.out).mono ?_
                          rintro e w2 ⟨rfl, hb2⟩
                          have r2 := (hb2.block _ hlt).trans r3
                          have hW2 := hW3.trans (hb2.mono hW3.size)
                          clear c2 c6 c7 c8 c9 c18
                          have c2 : w2.cell? ⟨w.heap.size, 2, none⟩ = some (.int .i64 m.ki) := cells_at r2 2 _ rfl
                          have c18 : w2.cell? ⟨w.heap.size, 18, none⟩ = some (.int .i64 m.ro) := cells_at r2 18 _ rfl
                          go_wp2_with fail
                          go_ret
                          exact ⟨ret_int (hF.out.trans (by simp [hO.out, hH.out])).symm, hW2⟩
                      · go_wp2_with fail
                        go_ret
                        exact ⟨ret_int (hF.out.trans (by simp [hO.out])).symm, hW3⟩
                    · have hkb1 : (m.ki == 1) = false := by simp [h]
                      have hkn1 : (m.ki != 1) = true := by simp [h]
                      have hkb2 : (m.ki == 2) = false := by simp [h]
                      have hkn2 : (m.ki != 2) = true := by simp [h]
                      have hkb3 : (m.ki == 3) = false := by simp [h]
                      have hkn3 : (m.ki != 3) = true := by simp [h]
                      have hkb4 : (m.ki == 4) = true := by simp [h]
                      have hkn4 : (m.ki != 4) = false := by simp [h]
                      have hkb5 : (m.ki == 5) = false := by simp [h]
                      have hkn5 : (m.ki != 5) = true := by simp [h]
                      have hO : Hid _ := h
                      clear h
                      cases bb
                      · by_cases hh : m.hau = 0 ∧ m.hrd = 0 ∧ m.hbn = 0 ∧ m.hpn = 0
                        · have hH : Hid (m.hau = 0 ∧ m.hrd = 0 ∧ m.hbn = 0 ∧ m.hpn = 0) := hh
                          clear hh
                          go_wp2_with fail
                          refine (headerEmpty_true _ _ _ _ _ _ _ _ _ hH.out).mono ?_
                          rintro e w2 ⟨rfl, hb2⟩
                          have r2 := (hb2.block _ hlt).trans r3
                          have hW2 := hW3.trans (hb2.mono hW3.size)
                          clear c2 c6 c7 c8 c9 c18
                          have c2 : w2.cell? ⟨w.heap.size, 2, none⟩ = some (.int .i64 m.ki) := cells_at r2 2 _ rfl
                          have c18 : w2.cell? ⟨w.heap.size, 18, none⟩ = some (.int .i64 m.ro) := cells_at r2 18 _ rfl
                          cases sb
                          · cases cb
                            · by_cases hr : m.ro = 0
                              · have hrb : (m.ro == 0) = true := by simp [hr]
                                have hrn : (m.ro != 0) = false := by simp [hr]
                                have hR : Hid (m.ro = 0) := hr
                                clear hr
                                go_wp2_with fail
                                go_ret
                                exact ⟨ret_int (hF.out.trans (by simp [hO.out, hH.out, hR.out])).symm, hW2⟩
                              · have hrb : (m.ro == 0) = false := by simpa using hr
                                have hrn : (m.ro != 0) = true := by simp [hr]
                                have hR : Hid (¬ m.ro = 0) := hr
                                clear hr
                                go_wp2_with fail
                                go_ret
                                exact ⟨ret_int (hF.out.trans (by simp [hO.out, hH.out, hR.out])).symm, hW2⟩
                            · by_cases hr : m.ro = 0
                              · have hrb : (m.ro == 0) = true := by simp [hr]
                                have hrn : (m.ro != 0) = false := by simp [hr]
                                have hR : Hid (m.ro = 0) := hr
                                clear hr
                                go_wp2_with fail
                                go_ret
                                exact ⟨ret_int (hF.out.trans (by simp [hO.out, hH.out, hR.out])).symm, hW2⟩
                              · have hrb : (m.ro == 0) = false := by simpa using hr
                                have hrn : (m.ro != 0) = true := by simp [hr]
                                have hR : Hid (¬ m.ro = 0) := hr
                                clear hr
                                go_wp2_with fail
                                go_ret
                                exact ⟨ret_int (hF.out.trans (by simp [hO.out, hH.out, hR.out])).symm, hW2⟩
                          · go_wp2_with fail
                            go_ret
                            exact ⟨ret_int (hF.out.trans (by simp [hO.out, hH.out])).symm, hW2⟩
                        · have hH : Hid (¬ (m.hau = 0 ∧ m.hrd = 0 ∧ m.hbn = 0 ∧ m.hpn = 0)) := hh
                          clear hh
                          go_wp2_with fail
                          refine (headerEmpty_false _ _ _ _ _ _ _ _ _ hH.out).mono ?_
                          rintro e w2 ⟨rfl, hb2⟩
                          have r2 := (hb2.block _ hlt).trans r3
                          have hW2 := hW3.trans (hb2.mono hW3.size)
                          clear c2 c6 c7 c8 c9 c18
                          have c2 : w2.cell? ⟨w.heap.size, 2, none⟩ = some (.int .i64 m.ki) := cells_at r2 2 _ rfl
                          have c18 : w2.cell? ⟨w.heap.size, 18, none⟩ = some (.int .i64 m.ro) := cells_at r2 18 _ rfl
                          go_wp2_with fail
                          go_ret
                          exact ⟨ret_int (hF.out.trans (by simp [hO.out, hH.out])).symm, hW2⟩
                      · go_wp2_with fail
                        go_ret
                        exact ⟨ret_int (hF.out.trans (by simp [hO.out])).symm, hW3⟩
                    · have hkb1 : (m.ki == 1) = false := by simp [h]
                      have hkn1 : (m.ki != 1) = true := by simp [h]
                      have hkb2 : (m.ki == 2) = false := by simp [h]
                      have hkn2 : (m.ki != 2) = true := by simp [h]
                      have hkb3 : (m.ki == 3) = false := by simp [h]
                      have hkn3 : (m.ki != 3) = true := by simp [h]
                      have hkb4 : (m.ki == 4) = false := by simp [h]
                      have hkn4 : (m.ki != 4) = true := by simp [h]
                      have hkb5 : (m.ki == 5) = true := by simp [h]
                      have hkn5 : (m.ki != 5) = false := by simp [h]
                      have hO : Hid _ := h
                      clear h
                      cases bb
                      · by_cases hh : m.hau = 0 ∧ m.hrd = 0 ∧ m.hbn = 0 ∧ m.hpn = 0
                        · have hH : Hid (m.hau = 0 ∧ m.hrd = 0 ∧ m.hbn = 0 ∧ m.hpn = 0) := hh
                          clear hh
                          go_wp2_with fail
                          refine (headerEmpty_true _ _ _ _ _ _ _ _ _ hH.out).mono ?_
                          rintro e w2 ⟨rfl, hb2⟩
                          have r2 := (hb2.block _ hlt).trans r3
                          have hW2 := hW3.trans (hb2.mono hW3.size)
                          clear c2 c6 c7 c8 c9 c18
                          have c2 : w2.cell? ⟨w.heap.size, 2, none⟩ = some (.int .i64 m.ki) := cells_at r2 2 _ rfl
                          have c18 : w2.cell? ⟨w.heap.size, 18, none⟩ = some (.int .i64 m.ro) := cells_at r2 18 _ rfl
                          cases sb
                          · cases cb
                            · by_cases hr : m.ro = 0
                              · have hrb : (m.ro == 0) = true := by simp [hr]
                                have hrn : (m.ro != 0) = false := by simp [hr]
                                have hR : Hid (m.ro = 0) := hr
                                clear hr
                                go_wp2_with fail
                                go_ret
                                exact ⟨ret_int (hF.out.trans (by simp [hO.out, hH.out])).symm, hW2⟩
                              · have hrb : (m.ro == 0) = false := by simpa using hr
                                have hrn : (m.ro != 0) = true := by simp [hr]
                                have hR : Hid (¬ m.ro = 0) := hr
                                clear hr
                                go_wp2_with fail
                                go_ret
                                exact ⟨ret_int (hF.out.trans (by simp [hO.out, hH.out])).symm, hW2⟩
                            · go_wp2_with fail
                              go_ret
                              exact ⟨ret_int (hF.out.trans (by simp [hO.out, hH.out])).symm, hW2⟩
                          · go_wp2_with fail
                            go_ret
                            exact ⟨ret_int (hF.out.trans (by simp [hO.out, hH.out])).symm, hW2⟩
                        · have hH : Hid (¬ (m.hau = 0 ∧ m.hrd = 0 ∧ m.hbn = 0 ∧ m.hpn = 0)) := hh
                          clear hh
                          go_wp2_with fail
                          refine (headerEmpty_false _ _ _ _ _ _ _ _ _ hH.out).mono ?_
                          rintro e w2 ⟨rfl, hb2⟩
                          have r2 := (hb2.block _ hlt).trans r3
                          have hW2 := hW3.trans (hb2.mono hW3.size)
                          clear c2 c6 c7 c8 c9 c18
                          have c2 : w2.cell? ⟨w.heap.size, 2, none⟩ = some (.int .i64 m.ki) := cells_at r2 2 _ rfl
                          have c18 : w2.cell? ⟨w.heap.size, 18, none⟩ = some (.int .i64 m.ro) := cells_at r2 18 _ rfl
                          go_wp2_with fail
                          go_ret
                          exact ⟨ret_int (hF.out.trans (by simp [hO.out, hH.out])).symm, hW2⟩
                      · go_wp2_with fail
                        go_ret
                        exact ⟨ret_int (hF.out.trans (by simp [hO.out])).symm, hW3⟩
            · have hF : Hid (checkF m (carriedF m ss bl pl cbl cpl vl) = carriedF m ss bl pl cbl cpl vl) := by show _ = _; rw [checkF, if_neg (by omega), if_pos he]
              have heb : (carriedF m ss bl pl cbl cpl vl == 0) = false := by simpa using he
              go_wp2_with fail
              go_ret
              exact ⟨ret_int hF.out.symm, hW⟩
      · have hF : Hid (checkF m (carriedF m ss bl pl cbl cpl vl) = 3) := by
          show _ = _
          have h3 : carriedF m ss bl pl cbl cpl vl = 3 := by rw [carriedF, if_neg (by omega), if_neg (by omega), if_neg (by omega), if_neg (by omega), if_neg (by omega)]
          rw [h3, checkF, if_neg (by omega)]
          simp
        go_enter Try.func23, Try.ntmps23
        go_wp2_with (go_at_call 36; first | (refine (in_true _ _ _ _ (by omega)).mono ?_; rintro e w' ⟨rfl, rfl⟩) | (refine (in_false _ _ _ _ (by omega)).mono ?_; rintro e w' ⟨rfl, rfl⟩))
        go_ret
        exact ⟨ret_int hF.out.symm, hA⟩
    · have hF : Hid (checkF m (carriedF m ss bl pl cbl cpl vl) = 2) := by show _ = _; rw [checkF, if_pos (by omega)]
      go_enter Try.func23, Try.ntmps23
      go_wp2_with (go_at_call 36; first | (refine (in_true _ _ _ _ (by omega)).mono ?_; rintro e w' ⟨rfl, rfl⟩) | (refine (in_false _ _ _ _ (by omega)).mono ?_; rintro e w' ⟨rfl, rfl⟩))
      go_ret
      exact ⟨ret_int hF.out.symm, hA⟩
  · have hF : Hid (checkF m (carriedF m ss bl pl cbl cpl vl) = 2) := by show _ = _; rw [checkF, if_pos (by omega)]
    go_enter Try.func23, Try.ntmps23
    go_wp2_with (go_at_call 36; first | (refine (in_true _ _ _ _ (by omega)).mono ?_; rintro e w' ⟨rfl, rfl⟩) | (refine (in_false _ _ _ _ (by omega)).mono ?_; rintro e w' ⟨rfl, rfl⟩))
    go_ret
    exact ⟨ret_int hF.out.symm, hA⟩
end Go.Proofs.Ytchmfbhdnhaleaa
