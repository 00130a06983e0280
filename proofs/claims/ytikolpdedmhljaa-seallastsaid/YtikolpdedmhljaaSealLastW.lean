/- The walk of SealLast. -/
import Derived.Test.YtikolpdedmhljaaKHead
import Derived.Test.YtikolpdedmhljaaOpenP
namespace Go.Proofs.Ytikolpdedmhljaa
open Go.RowKit

set_option maxRecDepth 100000 in
theorem a_ok : poolOk [⟨#[97]⟩] = true := by decide
set_option maxRecDepth 100000 in
set_option maxHeartbeats 400000 in
theorem sealLast_walk (sa : Option Addr) (cap : Nat) (ss : List ByteArray) (w : World) (hs : TextsAt w sa cap ss) :
    Calls Try.prog 11 #[.slice sa ss.length cap] w fun e w' => e = .returned (.bool true) ∧ Below w.heap.size w w' := by
  have hle := hs.le
  have hre := hs.reach
  have hO := head_owns w ⟨#[97]⟩
  have hA : Below w.heap.size w (w.alloc (.cells #[.string ⟨#[97]⟩] 9)) := (Below.refl _ _).alloc (Nat.le_refl _) _
  have HT : Hid (TxsAt (w.alloc (.cells #[.string ⟨#[97]⟩] 9)) sa cap ss) := hs.txs.below hA
  have HZ : Hid _ := head_size (x := ⟨#[97]⟩) (by decide) hs.strs.size
  go_enter Try.func11, Try.ntmps11
  go_wp2_with (at_builtin; refine wpList_append_txs rfl _ _ rfl w.heap.size _ 1 [⟨#[97]⟩] rfl hO sa ss.length cap ss rfl rfl HT.out (by omega) hA.size ?_; intro v1 w1 ho1 hg1; obtain ⟨ra, rc, hv1, -, hT1, -⟩ := txsAt_of_owns ho1 HZ.out; subst hv1)
  have hB1 : Below w.heap.size w w1 := Below.grown hA hg1 hA.size (fun q e => (hO.lt q e).1)
  refine (pool_raw ([⟨#[97]⟩] ++ ss) ra _ rc 3 w1 (by simp) hT1 (by unfold I64; omega)).mono ?_
  rintro e w2 ⟨v2, he, ho2, hb2⟩
  subst he
  dsimp only
  have hLn : (poolL ([⟨#[97]⟩] ++ ss)).length ≠ 0 := by have := poolL_pos ⟨#[97]⟩ ss; simp only [List.cons_append, List.nil_append]; omega
  have hLl := poolL_len ([⟨#[97]⟩] ++ ss)
  have hLk := poolL_ok ([⟨#[97]⟩] ++ ss)
  generalize poolL ([⟨#[97]⟩] ++ ss) = L at *
  obtain ⟨la, lc, hv, -, hT2, -⟩ := txsAt_of_owns ho2 (ok_size hLk)
  subst hv
  have hB2 := hB1.trans (hb2.mono hB1.size)
  have hA2 : Below w2.heap.size w2 (w2.alloc (.cells #[.int .i64 1048576, .slice la L.length lc] 24)) := (Below.refl _ _).alloc (Nat.le_refl _) _
  have hE := sealF_zero (nx := 1048576) (au := 1) (by omega) (by omega) (by omega) hLk hLn (by omega)
  generalize 1 + pk 3 99 = z
  go_wp2_with fail
  generalize w2.alloc (.cells #[.int .i64 1048576, .slice la L.length lc] 24) = W2 at hA2 ⊢
  have hB2A := hB2.trans (hA2.mono hB2.size)
  refine (seal_good 1048576 la _ lc L 1 W2 rfl (hT2.below hA2) hE (ok_size hLk)).mono ?_
  rintro e w3 ⟨xa, xc, ba, bc, he, hX3, hY3, hb3⟩
  rw [show (1048576 : Int) + 1 = 1048577 by rfl] at he
  subst he
  dsimp only
  have hB3 := hB2A.trans (hb3.mono hB2A.size)
  have hA3 : Below w3.heap.size w3 ((w3.alloc (.cells #[.int .i64 1048577, .slice xa (L.drop 4).length xc] 24)).alloc (.cells #[.int .i64 1, .int .i64 1048576, .slice ba (L.take 4).length bc] 34)) := ((Below.refl _ _).alloc (Nat.le_refl _) _).alloc (by simp) _
  have q0 := heap_alloc2_old w3 (.cells #[.int .i64 1048577, .slice xa (L.drop 4).length xc] 24) (.cells #[.int .i64 1, .int .i64 1048576, .slice ba (L.take 4).length bc] 34)
  have hDk := poolOk_drop hLk 4
  have hDl : (L.drop 4).length ≤ 40 := by rw [List.length_drop]; omega
  have HC : Hid (∀ W, Below w3.heap.size w3 W → Calls Try.prog 13 #[.agg #[.int .i64 1048577, .slice xa (L.drop 4).length xc]] W fun e w' => e = .returned (.int .i64 0) ∧ Below W.heap.size W w') := by
    show ∀ _, _
    intro W hW
    have := poolCheck_any 1048577 xa _ xc (L.drop 4) W rfl (hX3.below hW)
    rw [poolF_zero (by omega) (by omega) hDl hDk] at this
    exact this
  have HS : Hid (∀ (w4 : World), w4.heap[w3.heap.size]? = some (.cells #[.int .i64 1048577, .slice xa (L.drop 4).length xc] 24 (0, 0)) → Calls Try.prog 19 #[.agg #[.int .i64 1048577, (.slice (some ⟨w4.heap.size, 0, none⟩) 1 1)], .int .i64 1] ((w4.alloc (.cells #[.string ⟨#[97]⟩] 9)).setCell ⟨w3.heap.size, 1, none⟩ (.slice (some ⟨w4.heap.size, 0, none⟩) 1 1)) fun e w' => ∃ xa xc ba bc, e = .returned (.tuple #[.agg #[.int .i64 0, .slice xa 0 xc], .agg #[.int .i64 0, .int .i64 0, .slice ba 0 bc], .int .i64 6]) ∧ Below ((w4.alloc (.cells #[.string ⟨#[97]⟩] 9)).setCell ⟨w3.heap.size, 1, none⟩ (.slice (some ⟨w4.heap.size, 0, none⟩) 1 1)).heap.size ((w4.alloc (.cells #[.string ⟨#[97]⟩] 9)).setCell ⟨w3.heap.size, 1, none⟩ (.slice (some ⟨w4.heap.size, 0, none⟩) 1 1)) w') := by
    show ∀ _, _
    intro w4 hw4
    refine seal_bad 1048577 _ 1 1 [⟨#[97]⟩] 1 _ 6 rfl ⟨by simp, by decide, (fun e => by cases e), ⟨.inr ⟨w4.heap.size, 0, rfl, fun j hj => ?_⟩, fun s hs => ?_⟩⟩ (sealF_last (by simp) a_ok (by simp) (by omega)) (by omega)
    · obtain rfl : j = 0 := by simp at hj; omega
      have hne : w3.heap.size ≠ w4.heap.size := by have := lt_of_heap hw4; omega
      exact (World.cell?_setCell_far _ _ _ _ hne).trans (laid_cell w4 #[.string ⟨#[97]⟩] 9 0 _ rfl)
    · rw [show s = ⟨#[97]⟩ by simpa using hs]; decide
  generalize (L.drop 4).length = D at *
  generalize (L.take 4).length = E at *
  go_wp2_with (first
    | (go_at_call 13; refine (HC.out _ hA3).mono ?_; rintro e w4 ⟨he, hb4⟩; subst he; have p0 := (hb4.block _ (lt_of_heap q0)).trans q0; have c0 : w4.cell? ⟨w3.heap.size, 0, none⟩ = some (.int .i64 1048577) := cells_at p0 0 _ rfl; have c1 : w4.cell? ⟨w3.heap.size, 1, none⟩ = some (.slice xa D xc) := cells_at p0 1 _ rfl; have f1 := frozen_at p0 1; have d0 : (w4.alloc (.cells #[.string ⟨#[97]⟩] 9)).cell? ⟨w3.heap.size, 0, none⟩ = some (.int .i64 1048577) := cells_at (heap_keep p0) 0 _ rfl; have d1 : (w4.alloc (.cells #[.string ⟨#[97]⟩] 9)).cell? ⟨w3.heap.size, 1, none⟩ = some (.slice xa D xc) := cells_at (heap_keep p0) 1 _ rfl; have g1 : (w4.alloc (.cells #[.string ⟨#[97]⟩] 9)).frozen? ⟨w3.heap.size, 1, none⟩ = false := frozen_at (heap_keep p0) 1; have x0 : ((w4.alloc (.cells #[.string ⟨#[97]⟩] 9)).setCell ⟨w3.heap.size, 1, none⟩ (.slice (some ⟨w4.heap.size, 0, none⟩) 1 1)).cell? ⟨w3.heap.size, 0, none⟩ = some (.int .i64 1048577) := cells_at (heap_setCell_same _ _ 1 _ _ (.slice (some ⟨w4.heap.size, 0, none⟩) 1 1) (heap_keep p0)) 0 _ rfl; have x1 : ((w4.alloc (.cells #[.string ⟨#[97]⟩] 9)).setCell ⟨w3.heap.size, 1, none⟩ (.slice (some ⟨w4.heap.size, 0, none⟩) 1 1)).cell? ⟨w3.heap.size, 1, none⟩ = some (.slice (some ⟨w4.heap.size, 0, none⟩) 1 1) := cells_at (heap_setCell_same _ _ 1 _ _ (.slice (some ⟨w4.heap.size, 0, none⟩) 1 1) (heap_keep p0)) 1 _ rfl)
    | (go_at_call 19; refine (HS.out w4 p0).mono ?_; rintro e w5 ⟨ya, yc, za, zc, he, hb5⟩; subst he))
  go_ret
  have hB4 := hB3.trans ((hA3.trans (hb4.mono hA3.size)).mono hB3.size)
  have hB5 := (hB4.alloc hB4.size (.cells #[.string ⟨#[97]⟩] 9)).setCell (p := ⟨w3.heap.size, 1, none⟩) (by simpa using hB3.size) (.slice (some ⟨w4.heap.size, 0, none⟩) 1 1)
  exact ⟨by rfl, ((hB5.trans (hb5.mono hB5.size)).alloc (Nat.le_trans hB5.size hb5.size) _).alloc (le_alloc (Nat.le_trans hB5.size hb5.size) _) _⟩
end Go.Proofs.Ytikolpdedmhljaa
