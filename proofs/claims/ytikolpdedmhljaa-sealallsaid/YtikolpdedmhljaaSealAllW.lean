/- The walk of SealAll. -/
import Derived.Test.YtikolpdedmhljaaKHead
import Derived.Test.YtikolpdedmhljaaOpenP
import Derived.Test.YtikolpdedmhljaaSameTx
import Derived.Test.YtikolpdedmhljaaTxG
namespace Go.Proofs.Ytikolpdedmhljaa
open Go.RowKit

set_option maxRecDepth 100000 in
set_option maxHeartbeats 1000000 in
theorem sealAll_walk (sa : Option Addr) (cap : Nat) (ss : List ByteArray) (w : World) (hs : TextsAt w sa cap ss) :
    Calls Try.prog 8 #[.slice sa ss.length cap] w fun e w' => e = .returned (.bool true) ∧ Below w.heap.size w w' := by
  have hle := hs.le
  have hre := hs.reach
  have hO := head_owns w ⟨#[102, 105, 114, 115, 116]⟩
  have hA : Below w.heap.size w (w.alloc (.cells #[.string ⟨#[102, 105, 114, 115, 116]⟩] 9)) := (Below.refl _ _).alloc (Nat.le_refl _) _
  have HT : Hid (TxsAt (w.alloc (.cells #[.string ⟨#[102, 105, 114, 115, 116]⟩] 9)) sa cap ss) := hs.txs.below hA
  have HZ : Hid _ := head_size (x := ⟨#[102, 105, 114, 115, 116]⟩) (by decide) hs.strs.size
  go_enter Try.func8, Try.ntmps8
  go_wp2_with (at_builtin; refine wpList_append_txs rfl _ _ rfl w.heap.size _ 1 [⟨#[102, 105, 114, 115, 116]⟩] rfl hO sa ss.length cap ss rfl rfl HT.out (by omega) hA.size ?_; intro v1 w1 ho1 hg1; obtain ⟨ra, rc, hv1, -, hT1, -⟩ := txsAt_of_owns ho1 HZ.out; subst hv1)
  have hB1 : Below w.heap.size w w1 := Below.grown hA hg1 hA.size (fun q e => (hO.lt q e).1)
  refine (pool_raw ([⟨#[102, 105, 114, 115, 116]⟩] ++ ss) ra _ rc 0 w1 (by simp) hT1 (by unfold I64; omega)).mono ?_
  rintro e w2 ⟨v2, he, ho2, hb2⟩
  rw [show 1 + pk 0 99 = 1 by decide] at he
  subst he
  dsimp only
  have hLn : (poolL ([⟨#[102, 105, 114, 115, 116]⟩] ++ ss)).length ≠ 0 := by have := poolL_pos ⟨#[102, 105, 114, 115, 116]⟩ ss; simp only [List.cons_append, List.nil_append]; omega
  have hLl := poolL_len ([⟨#[102, 105, 114, 115, 116]⟩] ++ ss)
  have hLk := poolL_ok ([⟨#[102, 105, 114, 115, 116]⟩] ++ ss)
  generalize poolL ([⟨#[102, 105, 114, 115, 116]⟩] ++ ss) = L at *
  obtain ⟨la, lc, hv, -, hT2, -⟩ := txsAt_of_owns ho2 (ok_size hLk)
  subst hv
  have hB2 := hB1.trans (hb2.mono hB1.size)
  have hA2 : Below w2.heap.size w2 (w2.alloc (.cells #[.int .i64 1, .slice la L.length lc] 24)) := (Below.refl _ _).alloc (Nat.le_refl _) _
  have p0 := heap_alloc_new w2 (.cells #[.int .i64 1, .slice la L.length lc] 24)
  have hla : Hid (∀ sb so, la = some ⟨sb, so, none⟩ → sb < w2.heap.size) := by
    show ∀ _, _
    intro sb so e
    rcases hT2.strs.cells with h | ⟨b, o, e2, h⟩
    · rw [h] at hLn; simp at hLn
    · rw [e] at e2; cases e2; exact block_lt_of_cell (h 0 (by omega))
  go_wp2_with fail
  generalize w2.alloc (.cells #[.int .i64 1, .slice la L.length lc] 24) = W2 at hA2 p0 ⊢
  go_loopw [5, 6] (fun g j wr => ∃ (k : Nat) (va : Option Addr) (vc n : Nat), 4 * k ≤ L.length + 3 ∧ j = .int .i64 k ∧ Hid (n = (L.drop (4 * k)).length) ∧ Below w2.heap.size w2 wr ∧ wr.heap[w2.heap.size]? = some (.cells #[.int .i64 (1 + (k : Int)), .slice va n vc] 24 (0, 0)) ∧ TxsAt wr va vc (L.drop (4 * k)) ∧ wr.ownsRow (w2.heap.size + 1) 9 1 g (L.take (4 * k)).length (sv (L.take (4 * k))) ∧ ∀ sb so, va = some ⟨sb, so, none⟩ → w2.heap.size ≠ sb ∧ g.ownBlock ≠ some sb) (fun _ j _ => L.length + 4 - 4 * (intOf j).toNat)
  case atStart => exact ⟨0, la, lc, L.length, by omega, rfl, by show _ = _; simp, hA2, p0, hT2.below hA2, World.ownsRow_nil _ _ _ _, fun sb so e => ⟨by have := hla.out sb so e; omega, by simp [Value.ownBlock]⟩⟩
  case round =>
    clear hA2 p0
    obtain ⟨k, va, vc, n, hk, rfl, hn, hW, r0, hV, ho, hap⟩ := hrel
    have hN := lt_of_heap r0
    have c0 : wr.cell? ⟨w2.heap.size, 0, none⟩ = some (.int .i64 (1 + (k : Int))) := cells_at r0 0 _ rfl
    have c1 : wr.cell? ⟨w2.heap.size, 1, none⟩ = some (.slice va n vc) := cells_at r0 1 _ rfl
    have hk20 : (k : Int) < 20 := by omega
    have hDk := poolOk_drop hLk (4 * k)
    have hw : IntKind.i64.wrap (1 + (k : Int)) = 1 + (k : Int) := by rw [IntKind.wrap_i64]; omega
    by_cases hlt : 4 * k < L.length
    · have hn0 : (0 : Int) < n := by have := hn.out; rw [List.length_drop] at this; omega
      have hE := sealF_zero (nx := 1 + (k : Int)) (au := 2) (ss := L.drop (4 * k)) (by omega) (by omega) (by rw [List.length_drop]; omega) hDk (by rw [List.length_drop]; omega) (by omega)
      have HS := poolSeal_any (1 + (k : Int)) va n vc (L.drop (4 * k)) 2 wr hn.out hV
      go_wp2_with fail
      refine HS.mono ?_
      rintro e w3 ⟨v, u, he, h1, h2, hb3⟩
      rw [sealN, sealA, sealNo, if_pos hE, if_pos hE, if_pos hE, hE] at he
      rw [sealP, if_pos hE] at h1
      rw [sealB, if_pos hE] at h2
      have hD2 : (L.drop (4 * k)).drop 4 = L.drop (4 * (k + 1)) := by rw [List.drop_drop]; congr 1
      have hT4 : L.take (4 * k) ++ (L.drop (4 * k)).take 4 = L.take (4 * (k + 1)) := by rw [show 4 * (k + 1) = 4 * k + 4 by omega, List.take_add]
      rw [hD2] at h1
      obtain ⟨xa, xc, hv, -, hX3, hfx⟩ := txsAt_of_owns h1 (fun s hs => ok_size hLk s (List.mem_of_mem_drop hs))
      obtain ⟨ba, bc, hu, -, hY3, hfb⟩ := txsAt_of_owns h2 (fun s hs => ok_size hDk s (List.mem_of_mem_take hs))
      have hXlt : ∀ sb so, xa = some ⟨sb, so, none⟩ → wr.heap.size ≤ sb ∧ sb < w3.heap.size := fun sb so e => h1.lt sb (by rw [hv, e]; rfl)
      have hBlt : ∀ sb so, ba = some ⟨sb, so, none⟩ → wr.heap.size ≤ sb ∧ sb < w3.heap.size := fun sb so e => h2.lt sb (by rw [hu, e]; rfl)
      have HX : Hid _ := hXlt
      have HY : Hid _ := hBlt
      subst hv hu
      have HD : Hid (L.drop (4 * (k + 1)) = L.drop (4 * (k + 1))) := rfl
      have HT4 : Hid _ := hT4
      have hlb : ((L.drop (4 * k)).take 4).length ≤ 4 := by rw [List.length_take]; omega
      have hlt4 : (L.take (4 * k)).length ≤ 30 := by rw [List.length_take]; omega
      clear hD2 hT4 hXlt hBlt hfx hfb h1 h2 HS c0 c1 hE
      generalize hXL : (L.drop (4 * (k + 1))).length = XL at *
      have HXL : Hid (XL = (L.drop (4 * (k + 1))).length) := hXL.symm
      clear hXL
      generalize hBL : ((L.drop (4 * k)).take 4).length = BL at *
      have HBL : Hid (BL = ((L.drop (4 * k)).take 4).length) := hBL.symm
      clear hBL
      generalize hGL : (L.take (4 * k)).length = GL at *
      have HGL : Hid (GL = (L.take (4 * k)).length) := hGL.symm
      clear hGL
      subst he
      dsimp only
      have hA3 : Below w3.heap.size w3 ((w3.alloc (.cells #[.int .i64 (1 + (k : Int) + 1), .slice xa XL xc] 24)).alloc (.cells #[.int .i64 2, .int .i64 (1 + (k : Int)), .slice ba BL bc] 34)) := ((Below.refl _ _).alloc (Nat.le_refl _) _).alloc (by simp) _
      have hbW := hb3.trans (hA3.mono hb3.size)
      have s0 := (hbW.block _ (lt_of_heap r0)).trans r0
      have sX := heap_alloc2_old w3 (.cells #[.int .i64 (1 + (k : Int) + 1), .slice xa XL xc] 24) (.cells #[.int .i64 2, .int .i64 (1 + (k : Int)), .slice ba BL bc] 34)
      have sB := heap_alloc2_new w3 (.cells #[.int .i64 (1 + (k : Int) + 1), .slice xa XL xc] 24) (.cells #[.int .i64 2, .int .i64 (1 + (k : Int)), .slice ba BL bc] 34)
      have hoW := owns_keep ho hbW
      have hXW := hX3.below hA3
      have hYW := hY3.below hA3
      go_upto_region 8 with fail
      have hszW : ((w3.alloc (.cells #[.int .i64 (1 + (k : Int) + 1), .slice xa XL xc] 24)).alloc (.cells #[.int .i64 2, .int .i64 (1 + (k : Int)), .slice ba BL bc] 34)).heap.size = w3.heap.size + 2 := by simp
      generalize (w3.alloc (.cells #[.int .i64 (1 + (k : Int) + 1), .slice xa XL xc] 24)).alloc (.cells #[.int .i64 2, .int .i64 (1 + (k : Int)), .slice ba BL bc] 34) = W3 at *
      have HSZ : Hid (W3.heap.size = w3.heap.size + 2) := hszW
      clear hszW
      have b1 : W3.cell? ⟨w3.heap.size + 1, 1, none⟩ = some (.int .i64 (1 + (k : Int))) := cells_at sB 1 _ rfl
      have b2 : W3.cell? ⟨w3.heap.size + 1, 2, none⟩ = some (.slice ba BL bc) := cells_at sB 2 _ rfl
      have hbase : w2.heap.size + 1 ≤ W3.heap.size := by have := hbW.size; omega
      go_wp2_with (at_builtin; refine wpList_append_txs_at rfl _ _ rfl (w2.heap.size + 1) _ GL _ rfl hoW ba BL bc _ rfl HBL.out hYW (by omega) hbase ?_; intro g4 w4 ho4 G4; have hg0 : _ := fun q e => (hoW.lt q e); have t0 := G4.row s0 (fun e => by have := (hg0 _ e).1; omega); have tX := G4.row sX (fun e => by have := (hg0 _ e).2; have h9 := (ho.lt _ e).2; have := hb3.size; omega); have x0 : w4.cell? ⟨w3.heap.size, 0, none⟩ = some (.int .i64 (1 + (k : Int) + 1)) := cells_at tX 0 _ rfl; have x1 : w4.cell? ⟨w3.heap.size, 1, none⟩ = some (.slice xa XL xc) := cells_at tX 1 _ rfl; have d0 : w4.cell? ⟨w2.heap.size, 0, none⟩ = some (.int .i64 (1 + (k : Int))) := cells_at t0 0 _ rfl; have d1 : w4.cell? ⟨w2.heap.size, 1, none⟩ = some (.slice va n vc) := cells_at t0 1 _ rfl; have f0 := frozen_at t0 0; have f1 := frozen_at t0 1)
      go_roundw
      case rel =>
        have hB4 : Below w2.heap.size w2 w4 := (hW.trans (hbW.mono hW.size)).trans (G4.below (base := w2.heap.size) (by omega) (fun q e => by have := (hoW.lt q e).1; omega))
        have hX4 := G4.txs hXW (fun sb so e e2 => by have := (HX.out sb so e).1; have := (ho.lt sb e2).2; omega)
        refine ⟨k + 1, xa, xc, XL, by omega, by go_num, HXL, (hB4.setCell (by simp) _).setCell (by simp) _, ?_, ?_, ?_, ?_⟩
        · rw [show 1 + ((k + 1 : Nat) : Int) = 1 + (k : Int) + 1 by omega]
          simpa using heap_setCell_same _ _ 1 _ _ (.slice xa XL xc) (heap_setCell_same _ _ 0 _ _ (.int .i64 (1 + (k : Int) + 1)) t0)
        · have hne : ∀ sb so, xa = some ⟨sb, so, none⟩ → w2.heap.size ≠ sb := fun sb so e => by have := (HX.out sb so e).1; omega
          exact (hX4.setCell _ _ _ hne).setCell _ _ _ hne
        · rw [HT4.out] at ho4
          have : GL + BL = (L.take (4 * (k + 1))).length := by rw [← HT4.out, List.length_append, ← HGL.out, ← HBL.out]
          rw [this] at ho4
          exact owns_far (owns_far ho4 _ _ _ (by omega)) _ _ _ (by omega)
        · intro sb so e
          refine ⟨by have := (HX.out sb so e).1; omega, fun e2 => ?_⟩
          rcases G4.fresh sb e2 with g | g
          · have := (HX.out sb so e).1; have := (ho.lt sb g).2; omega
          · have := (HX.out sb so e).2; have := HSZ.out; omega
      case measure => simp [intOf]; omega
    · have hd : L.drop (4 * k) = [] := List.drop_of_length_le (by omega)
      have ht : L.take (4 * k) = L := List.take_of_length_le (by omega)
      rw [hd] at hn hV hDk
      rw [ht] at ho
      obtain rfl : n = 0 := hn.out
      have hE := sealF_none (nx := 1 + (k : Int)) (au := 2) (ss := []) (by omega) (by omega) hDk rfl (by omega)
      obtain ⟨ga, gc, rfl⟩ := owns_shape ho
      obtain ⟨_, _, hge, -, hG, -⟩ := txsAt_of_owns ho (ok_size hLk)
      simp only [Value.slice.injEq, true_and] at hge
      obtain ⟨rfl, rfl⟩ := hge
      clear hd ht hap hDk
      go_wp2_with fail
      refine (seal_bad (1 + (k : Int)) va 0 vc [] 2 wr 8 rfl hV hE (by decide)).mono ?_
      rintro e w3 ⟨xa, xc, ba, bc, he, hb3⟩
      subst he
      dsimp only
      have hA3 : Below w3.heap.size w3 ((w3.alloc (.cells #[.int .i64 0, .slice xa 0 xc] 24)).alloc (.cells #[.int .i64 0, .int .i64 0, .slice ba 0 bc] 34)) := ((Below.refl _ _).alloc (Nat.le_refl _) _).alloc (by simp) _
      have hbW := hb3.trans (hA3.mono hb3.size)
      have hWW := hW.trans (hbW.mono hW.size)
      have hLI : (0 : Int) < L.length := by omega
      go_wp2_with fail
      refine (sameTexts_any L L ga la _ _ gc lc _ rfl rfl (by omega) (by omega) (hG.strs.below hbW) (hT2.strs.below hWW)).mono ?_
      rintro e w4 ⟨he, hb4⟩
      rw [decide_eq_true rfl] at he
      subst he
      dsimp only
      go_wp2_with fail
      go_ret
      exact ⟨by first | rfl | exact ret_bool (decide_eq_true hLI) | (simp; omega), hB2.trans ((hWW.trans (hb4.mono hWW.size)).mono hB2.size)⟩
end Go.Proofs.Ytikolpdedmhljaa
