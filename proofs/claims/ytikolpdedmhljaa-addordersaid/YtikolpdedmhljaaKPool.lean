/- sheaveskeep.Pool: a pool of raw texts. -/
import Derived.Test.YtikolpdedmhljaaPAdd
import Derived.Test.YtikolpdedmhljaaTxS
import Derived.Test.YtikolpdedmhljaaPicked
import Derived.Test.YtikolpdedmhljaaOwnL
import Derived.Deep.CutRange
import Derived.Deep.DeepCutAuto
namespace Go.Proofs.Ytikolpdedmhljaa
open Go.RowKit

/-- One transaction more, if it is not there. -/
def pstep (acc : List ByteArray) (t : ByteArray) : List ByteArray := if inS t acc = true then acc else acc ++ [t]
/-- The transactions of a pool of raw texts. -/
def poolT (ss : List ByteArray) : List ByteArray := ss.foldl (fun acc s => pstep acc (txS s)) []
def poolL (ss : List ByteArray) : List ByteArray := poolT (ss.take 30)
set_option maxRecDepth 100000 in
theorem txS_ok (s : ByteArray) : txOk (txS s) = true := by
  have := txS_size s
  simp [txOk, this]
set_option maxRecDepth 100000 in
theorem not_in {t : ByteArray} {acc : List ByteArray} (h : inS t acc = false) : t ∉ acc := fun e => by rw [inS_true e] at h; cases h
set_option maxRecDepth 100000 in
theorem pstep_ok {acc : List ByteArray} {s : ByteArray} (h : poolOk acc = true) : poolOk (pstep acc (txS s)) = true := by
  unfold pstep
  cases h1 : inS (txS s) acc with
  | true => simpa using h
  | false =>
    simp only [Bool.false_eq_true, if_false]
    exact poolOk_snoc h (txS_ok s) (not_in h1)
set_option maxRecDepth 100000 in
theorem pstep_len (acc : List ByteArray) (t : ByteArray) : acc.length ≤ (pstep acc t).length ∧ (pstep acc t).length ≤ acc.length + 1 := by
  unfold pstep; split
  · omega
  · simp
set_option maxRecDepth 100000 in
theorem fold_ok (ss : List ByteArray) : ∀ acc, poolOk acc = true → poolOk (ss.foldl (fun acc s => pstep acc (txS s)) acc) = true := by
  induction ss with
  | nil => intro acc h; exact h
  | cons x l ih => intro acc h; exact ih _ (pstep_ok h)
set_option maxRecDepth 100000 in
theorem fold_len (ss : List ByteArray) : ∀ acc : List ByteArray, acc.length ≤ (ss.foldl (fun acc s => pstep acc (txS s)) acc).length ∧ (ss.foldl (fun acc s => pstep acc (txS s)) acc).length ≤ acc.length + ss.length := by
  induction ss with
  | nil => intro acc; simp
  | cons x l ih =>
    intro acc
    have h1 := ih (pstep acc (txS x))
    have h2 := pstep_len acc (txS x)
    rw [List.foldl_cons, List.length_cons]
    omega
set_option maxRecDepth 100000 in
theorem poolT_ok (ss : List ByteArray) : poolOk (poolT ss) = true := fold_ok ss [] poolOk_nil
set_option maxRecDepth 100000 in
theorem poolT_len (ss : List ByteArray) : (poolT ss).length ≤ ss.length := by have := (fold_len ss []).2; simpa [poolT] using this
set_option maxRecDepth 100000 in
theorem poolL_ok (ss : List ByteArray) : poolOk (poolL ss) = true := poolT_ok _
set_option maxRecDepth 100000 in
theorem poolL_len (ss : List ByteArray) : (poolL ss).length ≤ 30 := by have := poolT_len (ss.take 30); rw [List.length_take] at this; unfold poolL; omega
set_option maxRecDepth 100000 in
theorem poolL_pos (x : ByteArray) (ss : List ByteArray) : 1 ≤ (poolL (x :: ss)).length := by
  unfold poolL poolT
  rw [show (x :: ss).take 30 = x :: ss.take 29 by rfl, List.foldl_cons]
  refine Nat.le_trans ?_ (fold_len _ _).1
  simp [pstep, inS]
set_option maxRecDepth 100000 in
theorem ok_size {ss : List ByteArray} (h : poolOk ss = true) : ∀ s ∈ ss, s.size ≤ maxLen := fun s hs => by
  have := (poolOk_iff.1 h).1 s hs
  simp [txOk] at this
  unfold maxLen; omega
set_option maxRecDepth 100000 in
theorem addF_new {nx : Int} {acc : List ByteArray} {s : ByteArray} (h1 : 1 ≤ nx) (h2 : nx ≤ 1048577) (h3 : acc.length < 40) (h4 : poolOk acc = true) (h5 : inS (txS s) acc = false) : addF nx acc (txS s) = 0 := by
  rw [addF, if_pos (poolF_zero h1 h2 (by omega) h4), takesF, if_neg (by rw [txS_ok]; simp), if_neg (by rw [h5]; simp), if_neg (by omega)]
set_option maxRecDepth 100000 in
theorem addF_old {nx : Int} {acc : List ByteArray} {s : ByteArray} (h1 : 1 ≤ nx) (h2 : nx ≤ 1048577) (h3 : acc.length < 40) (h4 : poolOk acc = true) (h5 : inS (txS s) acc = true) : addF nx acc (txS s) = 7 := by
  rw [addF, if_pos (poolF_zero h1 h2 (by omega) h4), takesF, if_neg (by rw [txS_ok]; simp), if_pos h5]
set_option maxRecDepth 100000 in
theorem maxTx : (20 : Nat) ≤ maxLen := by decide
set_option maxRecDepth 100000 in
set_option maxHeartbeats 2000000 in
theorem pool_raw (ss : List ByteArray) (sa : Option Addr) (n cap : Nat) (nr : Int) (w : World) (hn : n = ss.length) (hs : TxsAt w sa cap ss) (h2 : I64 nr) :
    Calls Try.prog 22 #[.slice sa n cap, .int .i64 nr] w fun e w' => ∃ v, e = .returned (.agg #[.int .i64 (1 + pk nr 99), v]) ∧ w'.ownsRow w.heap.size 9 1 v (poolL ss).length (sv (poolL ss)) ∧ Below w.heap.size w w' := by
  subst hn
  obtain ⟨pa0, pa1⟩ := pk_bounds nr 99 (by decide)
  have hle := hs.le
  have hmx := hs.max
  unfold maxLen at hmx
  have hw : IntKind.i64.wrap (1 + pk nr 99) = 1 + pk nr 99 := by rw [IntKind.wrap_i64]; omega
  have hA : Below w.heap.size w ((w.alloc (.cells #[.int .i64 0, .slice none 0 0] 24)).alloc (.cells #[.int .i64 (1 + pk nr 99), .slice none 0 0] 24)) := ((Below.refl _ _).alloc (Nat.le_refl _) _).alloc (by simp) _
  have r0 := heap_alloc2_old w (.cells #[.int .i64 0, .slice none 0 0] 24) (.cells #[.int .i64 (1 + pk nr 99), .slice none 0 0] 24)
  have r1 := heap_alloc2_new w (.cells #[.int .i64 0, .slice none 0 0] 24) (.cells #[.int .i64 (1 + pk nr 99), .slice none 0 0] 24)
  have HH : Hid (TxsAt w sa cap ss) := hs
  clear hs
  go_enter Try.func22, Try.ntmps22
  go_wp2_with (go_at_call 25; refine (picked_any _ _ _ h2.1 h2.2 (by omega) (by omega)).mono ?_; rintro e w9 ⟨rfl, rfl⟩)
  generalize (w.alloc (.cells #[.int .i64 0, .slice none 0 0] 24)).alloc (.cells #[.int .i64 (1 + pk nr 99), .slice none 0 0] 24) = W0 at hA r0 r1 ⊢
  have hN1 : 1 ≤ 1 + pk nr 99 := by omega
  have hN2 : 1 + pk nr 99 ≤ 1048577 := by omega
  clear hw pa0 pa1 h2
  generalize hnx : 1 + pk nr 99 = nx at *
  have HNX : Hid (1 + pk nr 99 = nx) := hnx
  clear hnx
  go_loopw [6] (fun j wr => ∃ (k : Nat) (v : Value), k ≤ ss.length ∧ k ≤ 30 ∧ j = .int .i64 k ∧ Below w.heap.size w wr ∧ wr.heap[w.heap.size]? = some (.cells #[.int .i64 0, .slice none 0 0] 24 (0, 0)) ∧ wr.heap[w.heap.size + 1]? = some (.cells #[.int .i64 nx, v] 24 (0, 0)) ∧ wr.ownsRow (w.heap.size + 2) 9 1 v (poolT (ss.take k)).length (sv (poolT (ss.take k)))) (fun j _ => ss.length - (intOf j).toNat)
  case atStart => exact ⟨0, _, Nat.zero_le _, Nat.zero_le _, rfl, hA, r0, r1, World.ownsRow_nil _ _ _ _⟩
  case round =>
    clear hA r0 r1
    obtain ⟨k, v, hk, hk30, rfl, hW, r0, r1, ho⟩ := hrel
    obtain ⟨va, vc, hv, _, hT, _⟩ := txsAt_of_owns ho (ok_size (poolT_ok _))
    subst hv
    have c0 : wr.cell? ⟨w.heap.size + 1, 0, none⟩ = some (.int .i64 nx) := cells_at r1 0 _ rfl
    have c1 : wr.cell? ⟨w.heap.size + 1, 1, none⟩ = some (.slice va (poolT (ss.take k)).length vc) := cells_at r1 1 _ rfl
    have hN : w.heap.size + 1 < wr.heap.size := lt_of_heap r1
    have hTl : (poolT (ss.take k)).length ≤ 30 := by have := poolT_len (ss.take k); rw [List.length_take] at this; omega
    have hTk := poolT_ok (ss.take k)
    by_cases hlt : k < ss.length ∧ k < 30
    · obtain ⟨hlt, hlt3⟩ := hlt
      obtain ⟨sb, so, rfl, hcw⟩ : ∃ sb so, sa = some ⟨sb, so, none⟩ ∧ ∀ j, j < ss.length → w.cell? ⟨sb, so + j, none⟩ = some (.string (ss.getD j ByteArray.empty)) := by
        rcases HH.out.strs.cells with h | h
        · rw [h] at hlt; simp at hlt
        · exact h
      have hsbN : sb < w.heap.size := block_lt_of_cell (hcw k hlt)
      have ck : wr.cell? ⟨sb, so + k, none⟩ = some (.string (ss.getD k ByteArray.empty)) := (hW.cell (p := ⟨sb, so + k, none⟩) hsbN).trans (hcw k hlt)
      have hsz : (ss.getD k ByteArray.empty).size ≤ maxLen := HH.out.strs.size _ (by simp [List.getD, hlt])
      have hltI : (k : Int) < ss.length := by omega
      have hlt3I : (k : Int) < 30 := by omega
      have h0 : (0 : Int) ≤ k := by omega
      have hst : Hid (poolT (ss.take (k + 1)) = pstep (poolT (ss.take k)) (txS (ss.getD k ByteArray.empty))) := by
        show _ = _
        rw [take_more hlt, poolT, List.foldl_append]; rfl
      clear hcw
      generalize ss.getD k ByteArray.empty = x at *
      generalize poolT (ss.take k) = T at *
      have HD : Hid (∀ W : World, Below wr.heap.size wr W → Calls Try.prog 16 #[.agg #[.int .i64 nx, .slice va T.length vc], .string (txS x)] W fun e w' => AddAt W w' e nx T (txS x)) := by
        show ∀ _, _
        intro W hW2
        exact poolAdd_any nx va _ vc T (txS x) W rfl (hT.below hW2) (Nat.le_trans (txS_size x).2 maxTx)
      go_upto_region 5 with fail
      go_cut [7, 8] from 13 to 35 (fun p q wx => ∃ b za zc, p = .pointer (some ⟨b, 0, none⟩) ∧ q = .int .i64 (addF nx T (txS x)) ∧ wr.heap.size ≤ b ∧ Below wr.heap.size wr wx ∧ wx.heap[b]? = some (.cells #[.int .i64 (addN nx T (txS x)), .slice za (addS nx T (txS x)).length zc] 24 (0, 0)) ∧ wx.ownsRow wr.heap.size 9 1 (.slice za (addS nx T (txS x)).length zc) (addS nx T (txS x)).length (sv (addS nx T (txS x))))
      case first =>
        have cA0 : (wr.alloc (.cells #[.int .i64 0, .slice none 0 0] 24)).drew.cell? ⟨w.heap.size + 1, 0, none⟩ = some (.int .i64 nx) := cells_at (heap_keep r1) 0 _ rfl
        have cA1 : (wr.alloc (.cells #[.int .i64 0, .slice none 0 0] 24)).drew.cell? ⟨w.heap.size + 1, 1, none⟩ = some (.slice va T.length vc) := cells_at (heap_keep r1) 1 _ rfl
        have ckA : (wr.alloc (.cells #[.int .i64 0, .slice none 0 0] 24)).drew.cell? ⟨sb, so + k, none⟩ = some (.string x) := (((Below.refl wr.heap.size wr).alloc (Nat.le_refl _) _).cell (p := ⟨sb, so + k, none⟩) (block_lt_of_cell ck)).trans ck
        generalize hXN : addN nx T (txS x) = XN at *
        generalize hXF : addF nx T (txS x) = XF at *
        generalize hXS : addS nx T (txS x) = XS at *
        go_region_held3 (fun w' => w'.cell? ⟨w.heap.size + 1, 0, none⟩ = some (.int .i64 nx) ∧ w'.cell? ⟨w.heap.size + 1, 1, none⟩ = some (.slice va T.length vc) ∧ w'.cell? ⟨sb, so + k, none⟩ = some (.string x)) (go_keep) (first
          | (go_at_call 23; refine (tx_any x _ hsz).mono ?_; rintro e w9 ⟨rfl, rfl⟩)
          | (go_at_call 16; refine (HD.out wr.drew ((Below.refl _ _).drew)).mono ?_; rintro e w3 ⟨v3, he, ho3, hb3⟩; rw [hXN, hXF] at he; rw [hXS] at ho3; subst he; have hbA := below_drew hb3; have s1 := (hbA.block _ (lt_of_heap r1)).trans r1; have g0 : w3.cell? ⟨w.heap.size + 1, 0, none⟩ = some (.int .i64 nx) := cells_at s1 0 _ rfl; have g1 : w3.cell? ⟨w.heap.size + 1, 1, none⟩ = some (.slice va T.length vc) := cells_at s1 1 _ rfl; have gk := (hbA.cell (p := ⟨sb, so + k, none⟩) (block_lt_of_cell ck)).trans ck; obtain ⟨za, zc, rfl⟩ := owns_shape ho3; have gA0 : (w3.alloc (.cells #[.int .i64 XN, .slice za XS.length zc] 24)).cell? ⟨w.heap.size + 1, 0, none⟩ = some (.int .i64 nx) := cells_at (heap_keep s1) 0 _ rfl; have gA1 : (w3.alloc (.cells #[.int .i64 XN, .slice za XS.length zc] 24)).cell? ⟨w.heap.size + 1, 1, none⟩ = some (.slice va T.length vc) := cells_at (heap_keep s1) 1 _ rfl; have gAk : (w3.alloc (.cells #[.int .i64 XN, .slice za XS.length zc] 24)).cell? ⟨sb, so + k, none⟩ = some (.string x) := (((Below.refl w3.heap.size w3).alloc (Nat.le_refl _) _).cell (p := ⟨sb, so + k, none⟩) (block_lt_of_cell gk)).trans gk; have gB0 : (w3.alloc (.cells #[.int .i64 0, .slice none 0 0] 24)).cell? ⟨w.heap.size + 1, 0, none⟩ = some (.int .i64 nx) := cells_at (heap_keep s1) 0 _ rfl; have gB1 : (w3.alloc (.cells #[.int .i64 0, .slice none 0 0] 24)).cell? ⟨w.heap.size + 1, 1, none⟩ = some (.slice va T.length vc) := cells_at (heap_keep s1) 1 _ rfl; have gBk : (w3.alloc (.cells #[.int .i64 0, .slice none 0 0] 24)).cell? ⟨sb, so + k, none⟩ = some (.string x) := (((Below.refl w3.heap.size w3).alloc (Nat.le_refl _) _).cell (p := ⟨sb, so + k, none⟩) (block_lt_of_cell gk)).trans gk)
          | (go_at_call 16; refine (HD.out (wr.drew.alloc (.cells #[.int .i64 0, .slice none 0 0] 24)) ((Below.refl _ _).drew.alloc (Nat.le_refl _) _)).mono ?_; rintro e w3 ⟨v3, he, ho3, hb3⟩; rw [hXN, hXF] at he; rw [hXS] at ho3; subst he; have hbB := hb3; have hbC := below_drew (below_alloc hbB); have s1 := (hbC.block _ (lt_of_heap r1)).trans r1; have sN := row_new hbB; have g0 : w3.cell? ⟨w.heap.size + 1, 0, none⟩ = some (.int .i64 nx) := cells_at s1 0 _ rfl; have g1 : w3.cell? ⟨w.heap.size + 1, 1, none⟩ = some (.slice va T.length vc) := cells_at s1 1 _ rfl; have gk := (hbC.cell (p := ⟨sb, so + k, none⟩) (block_lt_of_cell ck)).trans ck; obtain ⟨za, zc, rfl⟩ := owns_shape ho3; have e0 : w3.cell? ⟨wr.heap.size, 0, none⟩ = some (.int .i64 0) := cells_at sN 0 _ rfl; have e1 : w3.cell? ⟨wr.heap.size, 1, none⟩ = some (.slice none 0 0) := cells_at sN 1 _ rfl; have k0 : w3.frozen? ⟨wr.heap.size, 0, none⟩ = false := frozen_at sN 0; have k1 : w3.frozen? ⟨wr.heap.size, 1, none⟩ = false := frozen_at sN 1; have hneB : w.heap.size + 1 ≠ wr.heap.size := (by omega); have hneS : sb ≠ wr.heap.size := (by omega); have gC0 : ((w3.setCell ⟨wr.heap.size, 0, none⟩ (.int .i64 XN)).setCell ⟨wr.heap.size, 1, none⟩ (.slice za XS.length zc)).cell? ⟨w.heap.size + 1, 0, none⟩ = some (.int .i64 nx) := cells_at (heap_far (heap_far s1 hneB) hneB) 0 _ rfl; have gC1 : ((w3.setCell ⟨wr.heap.size, 0, none⟩ (.int .i64 XN)).setCell ⟨wr.heap.size, 1, none⟩ (.slice za XS.length zc)).cell? ⟨w.heap.size + 1, 1, none⟩ = some (.slice va T.length vc) := cells_at (heap_far (heap_far s1 hneB) hneB) 1 _ rfl; have gCk : ((w3.setCell ⟨wr.heap.size, 0, none⟩ (.int .i64 XN)).setCell ⟨wr.heap.size, 1, none⟩ (.slice za XS.length zc)).cell? ⟨sb, so + k, none⟩ = some (.string x) := ((World.cell?_setCell_far _ _ _ _ hneS.symm).trans ((World.cell?_setCell_far _ _ _ _ hneS.symm).trans gk))))
        all_goals
          go_wp2_with fail
          go_meet
          case rel =>
            first
              | exact ⟨wr.heap.size, za, zc, rfl, rfl, Nat.le_refl _, ((hbC.setCell (by simp) _).setCell (by simp) _), by simpa using heap_setCell_same _ _ 1 _ _ (.slice za XS.length zc) (heap_setCell_same _ _ 0 _ _ (.int .i64 XN) sN), ownsRow_base' (owns_far (owns_far ho3 _ _ _ (by simp)) _ _ _ (by simp)) (by simp)⟩
              | exact ⟨w3.heap.size, za, zc, rfl, rfl, hbA.size, hbA.alloc hbA.size _, heap_alloc_new w3 _, ownsRow_base' (World.ownsRow.alloc ho3 _) (by simp)⟩
      case rest =>
        obtain ⟨b, za, zc, rfl, rfl, hbb, hbc, sb0, hoc⟩ := hcut
        have hBc := hW.trans (hbc.mono hW.size)
        have s0 := (hbc.block _ (lt_of_heap r0)).trans r0
        have s1 := (hbc.block _ (lt_of_heap r1)).trans r1
        have ho2 := owns_keep ho hbc
        clear HD c0 c1
        cases hi : inS (txS x) T with
        | true =>
          have hE := addF_old (s := x) hN1 hN2 (by omega) hTk hi
          have hP : Hid (poolT (ss.take (k + 1)) = T) := by show _ = _; rw [hst.out, pstep, if_pos hi]
          rw [hE]
          clear hst hi hE
          go_wp2_with fail
          go_roundw
          case rel => exact ⟨k + 1, _, by omega, by omega, by go_num, hBc, s0, s1, by rw [hP.out]; exact ho2⟩
          case measure => simp [intOf]; omega
        | false =>
          have hE := addF_new (s := x) hN1 hN2 (by omega) hTk hi
          have hP : Hid (poolT (ss.take (k + 1)) = T ++ [txS x]) := by show _ = _; rw [hst.out, pstep, if_neg (by rw [hi]; simp)]
          have hSx : addS nx T (txS x) = T ++ [txS x] := by rw [addS, if_pos hE]
          have hNx : addN nx T (txS x) = nx := by rw [addN, if_pos hE]
          rw [hSx, hNx] at sb0
          rw [hSx] at hoc
          rw [hE]
          clear hst hi hE hSx hNx
          have b0 : wc.cell? ⟨b, 0, none⟩ = some (.int .i64 nx) := cells_at sb0 0 _ rfl
          have b1 : wc.cell? ⟨b, 1, none⟩ = some (.slice za (T ++ [txS x]).length zc) := cells_at sb0 1 _ rfl
          have c0 : wc.cell? ⟨w.heap.size + 1, 0, none⟩ = some (.int .i64 nx) := cells_at s1 0 _ rfl
          have c1 : wc.cell? ⟨w.heap.size + 1, 1, none⟩ = some (.slice va T.length vc) := cells_at s1 1 _ rfl
          have f0 := frozen_at s1 0
          have f1 := frozen_at s1 1
          generalize T ++ [txS x] = T2 at *
          go_wp2_with fail
          go_roundw
          case rel => exact ⟨k + 1, .slice za T2.length zc, by omega, by omega, by go_num, (hBc.setCell (by simp) _).setCell (by simp) _, heap_far (heap_far s0 (by omega)) (by omega), by simpa using heap_setCell_same _ _ 1 _ _ (.slice za T2.length zc) (heap_setCell_same _ _ 0 _ _ (.int .i64 nx) s1), by rw [hP.out]; exact ownsRow_base' (owns_far (owns_far hoc _ _ _ (by omega)) _ _ _ (by omega)) (by omega)⟩
          case measure => simp [intOf]; omega
    · have hP : Hid (poolT (ss.take k) = poolL ss) := by
        show _ = _
        rw [poolL]
        by_cases h30 : k = 30
        · rw [h30]
        · have : k = ss.length := by omega
          rw [List.take_of_length_le (by omega), List.take_of_length_le (by omega)]
      rw [hP.out] at ho c1 r1
      have d0 : wr.cell? ⟨w.heap.size, 0, none⟩ = some (.int .i64 0) := cells_at r0 0 _ rfl
      have d1 : wr.cell? ⟨w.heap.size, 1, none⟩ = some (.slice none 0 0) := cells_at r0 1 _ rfl
      have f0 := frozen_at r0 0
      have f1 := frozen_at r0 1
      clear hT hTl hTk
      by_cases hkl : k < ss.length
      · have hkI : (k : Int) < ss.length := by omega
        have hk3I : ¬ (k : Int) < 30 := by omega
        go_wp2_with fail
        refine bodyPost_ret (v := .agg #[.int .i64 nx, .slice va (poolL ss).length vc]) (by simp [results, Try.results22, go_sem, d0, d1]) rfl ⟨_, by rw [HNX.out], ?_, ?_⟩
        · exact ownsRow_base' (owns_far (owns_far ho _ _ _ (by omega)) _ _ _ (by omega)) (by omega)
        · exact (hW.setCell (by simp) _).setCell (by simp) _
      · have hkI : ¬ (k : Int) < ss.length := by omega
        go_wp2_with fail
        refine bodyPost_ret (v := .agg #[.int .i64 nx, .slice va (poolL ss).length vc]) (by simp [results, Try.results22, go_sem, d0, d1]) rfl ⟨_, by rw [HNX.out], ?_, ?_⟩
        · exact ownsRow_base' (owns_far (owns_far ho _ _ _ (by omega)) _ _ _ (by omega)) (by omega)
        · exact (hW.setCell (by simp) _).setCell (by simp) _
end Go.Proofs.Ytikolpdedmhljaa
