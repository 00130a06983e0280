/- The walk of BundleBytes. -/
import Derived.Test.YtcecjdoabnhcgaaRawB
import Derived.Test.YtcecjdoabnhcgaaBunM
import Derived.Test.YtcecjdoabnhcgaaSame
import Derived.Test.YtcecjdoabnhcgaaOpenR
namespace Go.Proofs.Ytcecjdoabnhcgaa
open Go.RowKit

set_option maxRecDepth 100000 in
theorem bTxs_ok (ss : List ByteArray) : (1 ≤ (bTxs ss).length ∧ (bTxs ss).length ≤ 4) ∧ ∀ s ∈ bTxs ss, 1 ≤ s.size ∧ s.size ≤ 20 := by
  unfold bTxs
  by_cases h : ss = []
  · rw [if_pos h]
    exact ⟨by simp, fun s hs => by simp at hs; subst hs; decide⟩
  · rw [if_neg h]
    have : 0 < ss.length := List.length_pos_iff.2 h
    refine ⟨by simp; omega, fun s hs => ?_⟩
    simp only [List.mem_map] at hs
    obtain ⟨x, _, rfl⟩ := hs
    exact txS_size x
set_option maxRecDepth 100000 in
theorem batchF_raw (ra rb : Int) (ss : List ByteArray) : batchF (pk ra 4) (1 + pk rb 9) (bTxs ss) = 0 := by
  obtain ⟨pa0, pa1⟩ := pk_bounds ra 4 (by decide)
  obtain ⟨pb0, pb1⟩ := pk_bounds rb 9 (by decide)
  obtain ⟨⟨h1, h2⟩, h3⟩ := bTxs_ok ss
  rw [batchF, if_neg (by omega), if_neg (by omega), if_pos]
  rw [List.all_eq_true]
  exact fun s hs => by simpa [txOk] using h3 s hs
set_option maxRecDepth 100000 in
theorem rd3_small (n : Int) (h : 0 ≤ n ∧ n < 256) : rd3 n = [0, 0, n] := by
  have e1 : n / 65536 = 0 := by omega
  have e2 : n / 256 % 256 = 0 := by omega
  have e3 : n % 256 = n := by omega
  rw [rd3, e1, e2, e3]
set_option maxRecDepth 100000 in
set_option maxHeartbeats 2000000 in
theorem bundleBytes_walk (ki ra rb rc : Int) (sa : Option Addr) (cap : Nat) (ss : List ByteArray) (w : World) (_h1 : I64 ki) (h2 : I64 ra) (h3 : I64 rb) (_h4 : I64 rc) (h5 : TextsAt w sa cap ss) :
    Calls Try.prog 13 #[.agg #[.int .i64 ki, .int .i64 ra, .int .i64 rb, .int .i64 rc, .slice sa ss.length cap]] w fun e w' => e = .returned (.bool true) ∧ Below w.heap.size w w' := by
  have hF := batchF_raw ra rb ss
  obtain ⟨⟨hl1, hl2⟩, hl3⟩ := bTxs_ok ss
  obtain ⟨pa0, pa1⟩ := pk_bounds ra 4 (by decide)
  obtain ⟨pb0, pb1⟩ := pk_bounds rb 9 (by decide)
  have hA : Below w.heap.size w (w.alloc (.cells #[.int .i64 ki, .int .i64 ra, .int .i64 rb, .int .i64 rc, .slice sa ss.length cap] 48)) := (Below.refl _ _).alloc (Nat.le_refl _) _
  have hB := batch_raw ki ra rb rc sa cap ss _ h2 h3 (h5.below hA)
  generalize bTxs ss = ts at *
  generalize hau : pk ra 4 = au at *
  generalize hnu : pk rb 9 = nu at *
  have HF : Hid (batchF au (1 + nu) ts = 0) := hF
  clear hF hau hnu
  go_enter Try.func13, Try.ntmps13
  go_wp2_with fail
  refine hB.mono ?_
  rintro e w1 ⟨ba, bc, rfl, ho1, hb1⟩
  replace hb1 := below_alloc hb1
  go_wp2_with fail
  obtain ⟨ra', rc', e0, _, hS1, hS2⟩ := strsAt_of_owns ho1 (fun s h => by have := (hl3 s h).2; unfold maxLen; omega)
  cases e0
  have hlt1 : ∀ sb so, ba = some ⟨sb, so, none⟩ → sb < w1.heap.size := fun sb so e => by subst e; exact (ho1.lt sb rfl).2
  refine (encode_b 0 0 au (1 + nu) ba _ bc ts _ (by omega) (by omega) rfl (hS1.below ((Below.refl _ _).alloc (Nat.le_refl _) _)) (fun sb so e => by have := hlt1 sb so e; rw [size_alloc]; omega) HF.out).mono ?_
  rintro e w2 ⟨v2, rfl, ho2, hb2⟩
  have r2 := row_new hb2
  replace hb2 := below_alloc hb2
  have hS := hS1.below hb2
  have hW2 := hb1.trans (hb2.mono hb1.size)
  have c0 : w2.cell? ⟨w1.heap.size, 0, none⟩ = some (.int .i64 au) := cells_at r2 0 _ rfl
  have c1 : w2.cell? ⟨w1.heap.size, 1, none⟩ = some (.int .i64 (1 + nu)) := cells_at r2 1 _ rfl
  have c2 : w2.cell? ⟨w1.heap.size, 2, none⟩ = some (.slice ba ts.length bc) := cells_at r2 2 _ rfl
  have hlt2 : w1.heap.size < w2.heap.size := lt_of_heap r2
  have hlit := World.ownsRow_lit (base := w2.heap.size) (e := 5) (size := 1) w2 (ub [1, 0, 0, au, 0, 0, 1 + nu, (ts.length : Int)]).toArray 8 (Nat.le_refl _) (by decide) rfl
  obtain ⟨xa, xc, hv, hxl, hx⟩ := owns_form ho2
  subst hv
  have hx' : SliceAt w2 xa xc ([1, 0, 0, au, 0, 0, 1 + nu, (ts.length : Int)] ++ txsB ts) := by
    have h9 := hx
    rw [show batchB au (1 + nu) ts = [au, 0, 0, 1 + nu, (ts.length : Int)] ++ txsB ts by rw [batchB, rd3_small _ (by omega)]; simp] at h9
    simpa using h9
  have HL : Hid (3 + (batchB au (1 + nu) ts).length = ([1, 0, 0, au, 0, 0, 1 + nu, (ts.length : Int)] ++ txsB ts).length) := by
    show _ = _
    rw [show batchB au (1 + nu) ts = [au, 0, 0, 1 + nu, (ts.length : Int)] ++ txsB ts by rw [batchB, rd3_small _ (by omega)]; simp]
    simp; omega
  generalize (3 + (batchB au (1 + nu) ts).length) = X at *
  clear ho2 hx hxl hB hS1 hb2 HF ho1 hA
  obtain ⟨i, hi, hz0, hz1, hz2⟩ := info_parts infoU8
  go_wp2_with fail
  go_loopw [7, 6] (fun j t wr => ∃ (m : Nat) (tv : Value), m ≤ ts.length ∧ j = .int .i64 m ∧ tv = t ∧ wr.ownsRow w2.heap.size 5 1 tv (8 + (txsB (ts.take m)).length) (ub ([1, 0, 0, au, 0, 0, 1 + nu, (ts.length : Int)] ++ txsB (ts.take m))) ∧ Below w2.heap.size w2 wr) (fun j _ _ => ts.length - (intOf j).toNat)
  case atStart => exact ⟨0, _, Nat.zero_le _, rfl, rfl, by simpa [txsB, ub] using hlit, (Below.refl _ _).alloc (Nat.le_refl _) _⟩
  case round =>
    clear hlit c0 c1 c2
    obtain ⟨m, tv, hm, rfl, rfl, ho, hbw⟩ := hrel
    have rr := (hbw.block _ hlt2).trans r2
    have c2 : wr.cell? ⟨w1.heap.size, 2, none⟩ = some (.slice ba ts.length bc) := cells_at rr 2 _ rfl
    by_cases hlt : m < ts.length
    · obtain ⟨sb, so, rfl, hc⟩ : ∃ sb so, ba = some ⟨sb, so, none⟩ ∧ ∀ j, j < ts.length → wr.cell? ⟨sb, so + j, none⟩ = some (.string (ts.getD j ByteArray.empty)) := by
        rcases (hS.below hbw).cells with h | h
        · rw [h] at hlt; simp at hlt
        · exact h
      have ck := hc m hlt
      have hsz : (ts.getD m ByteArray.empty).size ≤ 20 := (hl3 _ (by simp [List.getD, hlt])).2
      have hst : Hid (txsB (ts.take (m + 1)) = txsB (ts.take m) ++ (((ts.getD m ByteArray.empty).size : Int) :: tb (ts.getD m ByteArray.empty))) := by
        show _ = _
        rw [List.take_succ_eq_append_getElem hlt, txsB_snoc]
        simp only [List.getD, List.getElem?_eq_getElem hlt, Option.getD_some]
      have hLe : (txsB (ts.take m)).length ≤ 84 := by
        have h1 := txsB_le (ts.take m) (fun s h => (hl3 s (List.mem_of_mem_take h)).2)
        have h2 : (ts.take m).length ≤ 4 := by rw [List.length_take]; omega
        omega
      have hltI : (m : Int) < ts.length := by omega
      have hsb2 : sb < w2.heap.size := Nat.lt_trans (hlt1 sb so rfl) hlt2
      have hown0 : ∀ q, tv.ownBlock = some q → w2.heap.size ≤ q := fun q e => (ho.lt q e).1
      clear hc
      generalize ts.getD m ByteArray.empty = x at ck hst hsz
      generalize txsB (ts.take m) = T at ho hst hLe
      have hBr : w2.heap.size ≤ wr.heap.size := hbw.size
      have hA : Below wr.heap.size wr (wr.alloc (.cells #[.int .u8 (x.size : Int)] 5)).drew := ((Below.refl _ _).alloc (Nat.le_refl _) _).drew
      have c2A := (hA.cell (p := ⟨w1.heap.size, 2, none⟩) (block_lt_of_cell c2)).trans c2
      have ckA := (hA.cell (p := ⟨sb, so + m, none⟩) (block_lt_of_cell ck)).trans ck
      have hwr : IntKind.u8.wrap (x.size : Int) = (x.size : Int) := by rw [IntKind.wrap_u8']; omega
      have hm1 : 8 + T.length + 1 ≤ maxLen := by unfold maxLen; omega
      have hm2 : (8 + T.length + 1) * 1 ≤ 140737488355328 := by omega
      have hm3 : 8 + T.length + 1 + x.size ≤ 140737488355328 := by omega
      have hoA : (wr.alloc (.cells #[.int .u8 (x.size : Int)] 5)).drew.ownsRow w2.heap.size 5 1 tv (8 + T.length) (ub ([1, 0, 0, au, 0, 0, 1 + nu, (ts.length : Int)] ++ T)) := (World.ownsRow.alloc ho _).drew
      have hcA : ∀ j u, [Value.int .u8 (x.size : Int)][j]? = some u → (wr.alloc (.cells #[.int .u8 (x.size : Int)] 5)).drew.cell? ((⟨wr.heap.size, 0, none⟩ : Addr).add j) = some u := cells_new wr _ 5
      have hbA : w2.heap.size ≤ (wr.alloc (.cells #[.int .u8 (x.size : Int)] 5)).drew.heap.size := le_alloc hBr _
      have hne1 : tv.ownBlock ≠ some w1.heap.size := fun e => by have := hown0 _ e; omega
      have hne2 : tv.ownBlock ≠ some sb := fun e => by have := hown0 _ e; omega
      go_wp2_with fail
      go_region_held3 (fun w' => w'.cell? ⟨w1.heap.size, 2, none⟩ = some (.slice (some ⟨sb, so, none⟩) ts.length bc) ∧ w'.cell? ⟨sb, so + m, none⟩ = some (.string x)) (go_keep) (first | (refine step_append_own (by rfl) _ _ 28 (by rfl) w2.heap.size 5 i (.int .u8 0) 1 1 Try.underlying28 hi hz0 hz1 hz2 rfl (by decide) _ (8 + T.length) _ (by rfl) hoA ⟨wr.heap.size, 0, none⟩ 1 1 [.int .u8 (x.size : Int)] (by rfl) rfl hcA (u8_one [_]) hm1 hm2 hbA ?_; intro v4 w4 ho4 hg4; have ho4' : w4.ownsRow w2.heap.size 5 1 v4 (8 + T.length + 1) (ub ([1, 0, 0, au, 0, 0, 1 + nu, (ts.length : Int)] ++ T ++ [(x.size : Int)])) := owns_snoc ho4; have d2 : w4.cell? ⟨w1.heap.size, 2, none⟩ = some (.slice (some ⟨sb, so, none⟩) ts.length bc) := (World.cell?_of_block (hg4.block _ (block_lt_of_cell c2A) (fun e => hne1 e.symm))).trans c2A; have dk : w4.cell? ⟨sb, so + m, none⟩ = some (.string x) := (World.cell?_of_block (hg4.block _ (block_lt_of_cell ckA) (fun e => hne2 e.symm))).trans ckA) | (refine step_append_str (by rfl) _ _ (by rfl) w2.heap.size _ (8 + T.length + 1) ([1, 0, 0, au, 0, 0, 1 + nu, (ts.length : Int)] ++ T ++ [(x.size : Int)]) (by rfl) ho4' x (by rfl) hm3 (Nat.le_trans hbA hg4.size) ?_; intro v5 w5 ho5 G5; have e2 : w5.cell? ⟨w1.heap.size, 2, none⟩ = some (.slice (some ⟨sb, so, none⟩) ts.length bc) := (World.cell?_of_block (G5.grown.block _ (block_lt_of_cell d2) (fun e => Nat.not_le_of_lt hlt2 (ho4.lt w1.heap.size e.symm).1))).trans d2; have ek : w5.cell? ⟨sb, so + m, none⟩ = some (.string x) := (World.cell?_of_block (G5.grown.block _ (block_lt_of_cell dk) (fun e => Nat.not_le_of_lt hsb2 (ho4.lt sb e.symm).1))).trans dk))
      all_goals
        go_wp2_with fail
        go_roundw
        case rel =>
          have hb4 : Below w2.heap.size w2 w4 := Below.grown (hbw.alloc hBr _).drew hg4 hbA hown0
          have hb5 : Below w2.heap.size w2 w5 := Below.grown hb4 G5.grown (Nat.le_trans hbA hg4.size) (fun q e => (ho4.lt q e).1)
          have hR : ∃ (m' : Nat) (tv' : Value), m' ≤ ts.length ∧ (Value.int .i64 ((m : Int) + 1)) = .int .i64 m' ∧ tv' = v5 ∧ w5.ownsRow w2.heap.size 5 1 tv' (8 + (txsB (ts.take m')).length) (ub ([1, 0, 0, au, 0, 0, 1 + nu, (ts.length : Int)] ++ txsB (ts.take m'))) ∧ Below w2.heap.size w2 w5 :=
            ⟨m + 1, v5, by omega, by go_num, rfl, by rw [hst.out]; simp only [List.length_append, List.length_cons, tb_length]; rw [show 8 + (T.length + (x.size + 1)) = 8 + T.length + 1 + x.size by omega]; simpa using ho5, hb5⟩
          first | exact hR | ((repeat apply Exists.intro); exact ⟨hR, rfl⟩)
        case measure => simp [intOf]; omega
    · obtain rfl : m = ts.length := by omega
      rw [List.take_of_length_le (Nat.le_refl _)] at ho
      have hltI : ¬ (ts.length : Int) < ts.length := by omega
      obtain ⟨ya, yc, hv, hyl, hy⟩ := owns_form ho
      subst hv
      have HY : Hid (8 + (txsB ts).length = ([1, 0, 0, au, 0, 0, 1 + nu, (ts.length : Int)] ++ txsB ts).length) := hyl
      generalize 8 + (txsB ts).length = Y at *
      generalize ([1, 0, 0, au, 0, 0, 1 + nu, (ts.length : Int)] ++ txsB ts) = L at *
      clear hyl ho
      go_wp2_with fail
      refine (same_eq L xa ya X Y xc yc wr HL.out HY.out (hx'.below hbw) hy).mono ?_
      rintro e w4 ⟨he, rfl⟩
      subst he
      dsimp only
      go_wp2_with fail
      go_ret
      exact ⟨rfl, hW2.trans (hbw.mono hW2.size)⟩
end Go.Proofs.Ytcecjdoabnhcgaa
