/- A message as a value; wire.isEmpty, for every message. -/
import Derived.Test.YtldlknmpkoebbaaEmpty
namespace Go.Proofs.Ytldlknmpkoebbaa
open Go.RowKit

/-- A message: its numbers and its slices. -/
structure Msg where
  (fr tt ki bau bnu hau hrd sau srd cau crd ro : Int)
  (bta hba hpa sda cba cpa cva : Option Addr)
  (btn btc hbn hbc hpn hpc sdn sdc cbn cbc cpn cpc cvn cvc : Nat)
def Msg.cells (m : Msg) : Array Value := #[.int .i64 m.fr, .int .i64 m.tt, .int .i64 m.ki, .int .i64 m.bau, .int .i64 m.bnu, .slice m.bta m.btn m.btc, .int .i64 m.hau, .int .i64 m.hrd, .slice m.hba m.hbn m.hbc, .slice m.hpa m.hpn m.hpc, .int .i64 m.sau, .int .i64 m.srd, .slice m.sda m.sdn m.sdc, .int .i64 m.cau, .int .i64 m.crd, .slice m.cba m.cbn m.cbc, .slice m.cpa m.cpn m.cpc, .slice m.cva m.cvn m.cvc, .int .i64 m.ro]
def msgEmpty (m : Msg) : Bool := decide ((m.bau = 0 ∧ m.bnu = 0 ∧ m.btn = 0) ∧ (m.hau = 0 ∧ m.hrd = 0 ∧ m.hbn = 0 ∧ m.hpn = 0) ∧ (m.sau = 0 ∧ m.srd = 0 ∧ m.sdn = 0) ∧ (m.cau = 0 ∧ m.crd = 0 ∧ m.cbn = 0 ∧ m.cpn = 0) ∧ m.cvn = 0 ∧ m.ro = 0)

set_option maxRecDepth 100000 in
set_option maxHeartbeats 2000000 in
theorem isEmpty_bool (m : Msg) (r : Bool) (w : World) (h : r = msgEmpty m) :
    Calls Try.prog 76 #[.agg #[.int .i64 m.fr, .int .i64 m.tt, .int .i64 m.ki, .int .i64 m.bau, .int .i64 m.bnu, .slice m.bta m.btn m.btc, .int .i64 m.hau, .int .i64 m.hrd, .slice m.hba m.hbn m.hbc, .slice m.hpa m.hpn m.hpc, .int .i64 m.sau, .int .i64 m.srd, .slice m.sda m.sdn m.sdc, .int .i64 m.cau, .int .i64 m.crd, .slice m.cba m.cbn m.cbc, .slice m.cpa m.cpn m.cpc, .slice m.cva m.cvn m.cvc, .int .i64 m.ro]] w fun e w' => e = .returned (.bool r) ∧ Below w.heap.size w w' := by
  by_cases e1 : m.bau = 0 ∧ m.bnu = 0 ∧ m.btn = 0
  · by_cases e2 : m.hau = 0 ∧ m.hrd = 0 ∧ m.hbn = 0 ∧ m.hpn = 0
    · by_cases e3 : m.sau = 0 ∧ m.srd = 0 ∧ m.sdn = 0
      · by_cases e4 : m.cau = 0 ∧ m.crd = 0 ∧ m.cbn = 0 ∧ m.cpn = 0
        · by_cases e5 : m.cvn = 0
          · by_cases e6 : m.ro = 0
            · obtain rfl : r = true := by simp [h, msgEmpty, e1, e2, e3, e4, e5, e6]
              clear h
              go_enter Try.func76, Try.ntmps76
              go_wp2_with fail
              refine (isEmptyBatch_true _ _ _ _ _ _ (by omega)).mono ?_
              rintro e w1 ⟨rfl, hb1⟩
              have r1 := row_new hb1
              replace hb1 := below_alloc hb1
              have c6 := cells_at r1 6 _ rfl
              have c7 := cells_at r1 7 _ rfl
              have c8 := cells_at r1 8 _ rfl
              have c9 := cells_at r1 9 _ rfl
              go_wp2_with fail
              clear c6 c7 c8 c9
              refine (isEmptyHeader_true _ _ _ _ _ _ _ _ _ (by omega)).mono ?_
              rintro e w2 ⟨rfl, hb2⟩
              have r2 := (hb2.block _ (lt_of_heap r1)).trans r1
              replace hb2 := hb1.trans (hb2.mono hb1.size)
              clear r1
              have c10 := cells_at r2 10 _ rfl
              have c11 := cells_at r2 11 _ rfl
              have c12 := cells_at r2 12 _ rfl
              go_wp2_with fail
              clear c10 c11 c12
              refine (isEmptySlot_true _ _ _ _ _ _ (by omega)).mono ?_
              rintro e w3 ⟨rfl, hb3⟩
              have r3 := (hb3.block _ (lt_of_heap r2)).trans r2
              replace hb3 := hb2.trans (hb3.mono hb2.size)
              clear r2
              have c13 := cells_at r3 13 _ rfl
              have c14 := cells_at r3 14 _ rfl
              have c15 := cells_at r3 15 _ rfl
              have c16 := cells_at r3 16 _ rfl
              go_wp2_with fail
              clear c13 c14 c15 c16
              refine (isEmptyHeader_true _ _ _ _ _ _ _ _ _ (by omega)).mono ?_
              rintro e w4 ⟨rfl, hb4⟩
              have r4 := (hb4.block _ (lt_of_heap r3)).trans r3
              replace hb4 := hb3.trans (hb4.mono hb3.size)
              clear r3
              have c17 := cells_at r4 17 _ rfl
              have c18 := cells_at r4 18 _ rfl
              go_wp2_with fail
              go_ret
              exact ⟨by first | rfl | exact ret_bool (by simp; omega), hb4⟩
            · obtain rfl : r = false := by simp [h, msgEmpty, e6]
              clear h
              go_enter Try.func76, Try.ntmps76
              go_wp2_with fail
              refine (isEmptyBatch_true _ _ _ _ _ _ (by omega)).mono ?_
              rintro e w1 ⟨rfl, hb1⟩
              have r1 := row_new hb1
              replace hb1 := below_alloc hb1
              have c6 := cells_at r1 6 _ rfl
              have c7 := cells_at r1 7 _ rfl
              have c8 := cells_at r1 8 _ rfl
              have c9 := cells_at r1 9 _ rfl
              go_wp2_with fail
              clear c6 c7 c8 c9
              refine (isEmptyHeader_true _ _ _ _ _ _ _ _ _ (by omega)).mono ?_
              rintro e w2 ⟨rfl, hb2⟩
              have r2 := (hb2.block _ (lt_of_heap r1)).trans r1
              replace hb2 := hb1.trans (hb2.mono hb1.size)
              clear r1
              have c10 := cells_at r2 10 _ rfl
              have c11 := cells_at r2 11 _ rfl
              have c12 := cells_at r2 12 _ rfl
              go_wp2_with fail
              clear c10 c11 c12
              refine (isEmptySlot_true _ _ _ _ _ _ (by omega)).mono ?_
              rintro e w3 ⟨rfl, hb3⟩
              have r3 := (hb3.block _ (lt_of_heap r2)).trans r2
              replace hb3 := hb2.trans (hb3.mono hb2.size)
              clear r2
              have c13 := cells_at r3 13 _ rfl
              have c14 := cells_at r3 14 _ rfl
              have c15 := cells_at r3 15 _ rfl
              have c16 := cells_at r3 16 _ rfl
              go_wp2_with fail
              clear c13 c14 c15 c16
              refine (isEmptyHeader_true _ _ _ _ _ _ _ _ _ (by omega)).mono ?_
              rintro e w4 ⟨rfl, hb4⟩
              have r4 := (hb4.block _ (lt_of_heap r3)).trans r3
              replace hb4 := hb3.trans (hb4.mono hb3.size)
              clear r3
              have c17 := cells_at r4 17 _ rfl
              have c18 := cells_at r4 18 _ rfl
              go_wp2_with fail
              go_ret
              exact ⟨by first | rfl | exact ret_bool (by simp; omega), hb4⟩
          · obtain rfl : r = false := by simp [h, msgEmpty, e5]
            have e5I : ¬ (m.cvn : Int) = 0 := by omega
            clear h
            go_enter Try.func76, Try.ntmps76
            go_wp2_with fail
            refine (isEmptyBatch_true _ _ _ _ _ _ (by omega)).mono ?_
            rintro e w1 ⟨rfl, hb1⟩
            have r1 := row_new hb1
            replace hb1 := below_alloc hb1
            have c6 := cells_at r1 6 _ rfl
            have c7 := cells_at r1 7 _ rfl
            have c8 := cells_at r1 8 _ rfl
            have c9 := cells_at r1 9 _ rfl
            go_wp2_with fail
            clear c6 c7 c8 c9
            refine (isEmptyHeader_true _ _ _ _ _ _ _ _ _ (by omega)).mono ?_
            rintro e w2 ⟨rfl, hb2⟩
            have r2 := (hb2.block _ (lt_of_heap r1)).trans r1
            replace hb2 := hb1.trans (hb2.mono hb1.size)
            clear r1
            have c10 := cells_at r2 10 _ rfl
            have c11 := cells_at r2 11 _ rfl
            have c12 := cells_at r2 12 _ rfl
            go_wp2_with fail
            clear c10 c11 c12
            refine (isEmptySlot_true _ _ _ _ _ _ (by omega)).mono ?_
            rintro e w3 ⟨rfl, hb3⟩
            have r3 := (hb3.block _ (lt_of_heap r2)).trans r2
            replace hb3 := hb2.trans (hb3.mono hb2.size)
            clear r2
            have c13 := cells_at r3 13 _ rfl
            have c14 := cells_at r3 14 _ rfl
            have c15 := cells_at r3 15 _ rfl
            have c16 := cells_at r3 16 _ rfl
            go_wp2_with fail
            clear c13 c14 c15 c16
            refine (isEmptyHeader_true _ _ _ _ _ _ _ _ _ (by omega)).mono ?_
            rintro e w4 ⟨rfl, hb4⟩
            have r4 := (hb4.block _ (lt_of_heap r3)).trans r3
            replace hb4 := hb3.trans (hb4.mono hb3.size)
            clear r3
            have c17 := cells_at r4 17 _ rfl
            have c18 := cells_at r4 18 _ rfl
            go_wp2_with fail
            go_ret
            exact ⟨by first | rfl | exact ret_bool (by simp; omega), hb4⟩
        · obtain rfl : r = false := by rw [h]; exact decide_eq_false (fun q => e4 q.2.2.2.1)
          clear h
          go_enter Try.func76, Try.ntmps76
          go_wp2_with fail
          refine (isEmptyBatch_true _ _ _ _ _ _ (by omega)).mono ?_
          rintro e w1 ⟨rfl, hb1⟩
          have r1 := row_new hb1
          replace hb1 := below_alloc hb1
          have c6 := cells_at r1 6 _ rfl
          have c7 := cells_at r1 7 _ rfl
          have c8 := cells_at r1 8 _ rfl
          have c9 := cells_at r1 9 _ rfl
          go_wp2_with fail
          clear c6 c7 c8 c9
          refine (isEmptyHeader_true _ _ _ _ _ _ _ _ _ (by omega)).mono ?_
          rintro e w2 ⟨rfl, hb2⟩
          have r2 := (hb2.block _ (lt_of_heap r1)).trans r1
          replace hb2 := hb1.trans (hb2.mono hb1.size)
          clear r1
          have c10 := cells_at r2 10 _ rfl
          have c11 := cells_at r2 11 _ rfl
          have c12 := cells_at r2 12 _ rfl
          go_wp2_with fail
          clear c10 c11 c12
          refine (isEmptySlot_true _ _ _ _ _ _ (by omega)).mono ?_
          rintro e w3 ⟨rfl, hb3⟩
          have r3 := (hb3.block _ (lt_of_heap r2)).trans r2
          replace hb3 := hb2.trans (hb3.mono hb2.size)
          clear r2
          have c13 := cells_at r3 13 _ rfl
          have c14 := cells_at r3 14 _ rfl
          have c15 := cells_at r3 15 _ rfl
          have c16 := cells_at r3 16 _ rfl
          go_wp2_with fail
          clear c13 c14 c15 c16
          refine (isEmptyHeader_false _ _ _ _ _ _ _ _ _ (by omega)).mono ?_
          rintro e w4 ⟨rfl, hb4⟩
          have r4 := (hb4.block _ (lt_of_heap r3)).trans r3
          replace hb4 := hb3.trans (hb4.mono hb3.size)
          clear r3
          have c17 := cells_at r4 17 _ rfl
          have c18 := cells_at r4 18 _ rfl
          go_wp2_with fail
          go_ret
          exact ⟨by first | rfl | exact ret_bool (by simp; omega), hb4⟩
      · obtain rfl : r = false := by rw [h]; exact decide_eq_false (fun q => e3 q.2.2.1)
        clear h
        go_enter Try.func76, Try.ntmps76
        go_wp2_with fail
        refine (isEmptyBatch_true _ _ _ _ _ _ (by omega)).mono ?_
        rintro e w1 ⟨rfl, hb1⟩
        have r1 := row_new hb1
        replace hb1 := below_alloc hb1
        have c6 := cells_at r1 6 _ rfl
        have c7 := cells_at r1 7 _ rfl
        have c8 := cells_at r1 8 _ rfl
        have c9 := cells_at r1 9 _ rfl
        go_wp2_with fail
        clear c6 c7 c8 c9
        refine (isEmptyHeader_true _ _ _ _ _ _ _ _ _ (by omega)).mono ?_
        rintro e w2 ⟨rfl, hb2⟩
        have r2 := (hb2.block _ (lt_of_heap r1)).trans r1
        replace hb2 := hb1.trans (hb2.mono hb1.size)
        clear r1
        have c10 := cells_at r2 10 _ rfl
        have c11 := cells_at r2 11 _ rfl
        have c12 := cells_at r2 12 _ rfl
        go_wp2_with fail
        clear c10 c11 c12
        refine (isEmptySlot_false _ _ _ _ _ _ (by omega)).mono ?_
        rintro e w3 ⟨rfl, hb3⟩
        have r3 := (hb3.block _ (lt_of_heap r2)).trans r2
        replace hb3 := hb2.trans (hb3.mono hb2.size)
        clear r2
        have c13 := cells_at r3 13 _ rfl
        have c14 := cells_at r3 14 _ rfl
        have c15 := cells_at r3 15 _ rfl
        have c16 := cells_at r3 16 _ rfl
        go_wp2_with fail
        go_ret
        exact ⟨by first | rfl | exact ret_bool (by simp; omega), hb3⟩
    · obtain rfl : r = false := by rw [h]; exact decide_eq_false (fun q => e2 q.2.1)
      clear h
      go_enter Try.func76, Try.ntmps76
      go_wp2_with fail
      refine (isEmptyBatch_true _ _ _ _ _ _ (by omega)).mono ?_
      rintro e w1 ⟨rfl, hb1⟩
      have r1 := row_new hb1
      replace hb1 := below_alloc hb1
      have c6 := cells_at r1 6 _ rfl
      have c7 := cells_at r1 7 _ rfl
      have c8 := cells_at r1 8 _ rfl
      have c9 := cells_at r1 9 _ rfl
      go_wp2_with fail
      clear c6 c7 c8 c9
      refine (isEmptyHeader_false _ _ _ _ _ _ _ _ _ (by omega)).mono ?_
      rintro e w2 ⟨rfl, hb2⟩
      have r2 := (hb2.block _ (lt_of_heap r1)).trans r1
      replace hb2 := hb1.trans (hb2.mono hb1.size)
      clear r1
      have c10 := cells_at r2 10 _ rfl
      have c11 := cells_at r2 11 _ rfl
      have c12 := cells_at r2 12 _ rfl
      go_wp2_with fail
      go_ret
      exact ⟨by first | rfl | exact ret_bool (by simp; omega), hb2⟩
  · obtain rfl : r = false := by rw [h]; exact decide_eq_false (fun q => e1 q.1)
    clear h
    go_enter Try.func76, Try.ntmps76
    go_wp2_with fail
    refine (isEmptyBatch_false _ _ _ _ _ _ (by omega)).mono ?_
    rintro e w1 ⟨rfl, hb1⟩
    have r1 := row_new hb1
    replace hb1 := below_alloc hb1
    have c6 := cells_at r1 6 _ rfl
    have c7 := cells_at r1 7 _ rfl
    have c8 := cells_at r1 8 _ rfl
    have c9 := cells_at r1 9 _ rfl
    go_wp2_with fail
    go_ret
    exact ⟨by first | rfl | exact ret_bool (by simp; omega), hb1⟩
end Go.Proofs.Ytldlknmpkoebbaa
