/- The document's answer, package sheavesref: Digested: the digest that P1.4 says, for every slice of at most 4000 bytes. -/
import Derived.Test.YtcecjdoabnhcgaaDoorRTaken
import Derived.Test.YtcecjdoabnhcgaaDoorApp
import Derived.Test.YtcecjdoabnhcgaaDoorOpen
namespace Go.Proofs.YtcecjdoabnhcgaaDoor
open Go.RowKit

set_option maxRecDepth 100000 in
theorem foldTo_W1 (s v : List Int) (hsw : ∀ z ∈ s, W1 z) (hv : ∀ z ∈ v, W1 z) (n : Nat) : ∀ z ∈ foldTo s v n, W1 z := by
  induction n with
  | zero => exact hsw
  | succ n ih =>
    rw [foldTo]
    exact set_W1 ih n (W1.xor (getD_W1 ih n) (W1.xor (getD_W1 hv n) (getD_W1 hv (n + 8))))
set_option maxRecDepth 100000 in
theorem takeL_W1 (s bs : List Int) (hs : s.length = 8) (hsw : ∀ z ∈ s, W1 z) (n : Int) (hn : W1 n) (last : Bool) : ∀ z ∈ takeL s bs n last, W1 z :=
  foldTo_W1 s _ hsw (roundsTo_W1 _ _ (spreadL_length s hs n last) (spreadL_W1 s hs hsw n hn last) 10) 8
set_option maxRecDepth 100000 in
theorem beginL_eq : fw.set 0 (bits .xor .i64 (fw.getD 0 0) 16842784) = beginL := by decide +kernel
set_option maxRecDepth 100000 in
theorem beginL_W1 : ∀ z ∈ beginL, W1 z := by unfold W1; decide +kernel
set_option maxRecDepth 100000 in
theorem sumTo_W1 (bs : List Int) (k : Nat) (hk : k ≤ 1000) : ∀ z ∈ sumTo bs k, W1 z := by
  induction k with
  | zero => exact beginL_W1
  | succ k ih => exact takeL_W1 _ _ (sumTo_length bs k) (ih (by omega)) _ ⟨by omega, by omega⟩ false
set_option maxRecDepth 100000 in
theorem dig_get (s : List Int) (k i : Nat) (h : i < 4 * k) : (digTo s k).getD i 0 = s.getD (i / 4) 0 / 2 ^ (8 * (i % 4)) % 256 := by
  induction k with
  | zero => omega
  | succ k ih =>
    have hl := digTo_length s k
    rw [digTo]
    by_cases hi : i < 4 * k
    · rw [← ih hi]
      simp [List.getD, List.getElem?_append, hl, hi]
    · have hq : i / 4 = k := by omega
      have hr : i = 4 * k ∨ i = 4 * k + 1 ∨ i = 4 * k + 2 ∨ i = 4 * k + 3 := by omega
      rw [hq]
      rcases hr with rfl | rfl | rfl | rfl
      · simp [List.getD, hl]
      · rw [show (4 * k + 1) % 4 = 1 by omega]; simp [List.getD, hl]
      · rw [show (4 * k + 2) % 4 = 2 by omega]; simp [List.getD, hl]
      · rw [show (4 * k + 3) % 4 = 3 by omega]; simp [List.getD, hl]

set_option maxRecDepth 100000 in
set_option maxHeartbeats 4000000 in
theorem digested_any (bs : List Int) (sa : Option Addr) (n cap : Nat) (w : World) (hn : n = bs.length) (hl : bs.length ≤ 4000) (hs : SliceAt w sa cap bs) (hu : AllU8 bs) :
    Calls Tryd.prog 63 #[.slice sa n cap] w fun e w' => ∃ g c, e = .returned (.slice (some ⟨g, 0, none⟩) 32 c) ∧ Below w.heap.size w w' ∧ w'.ownsRow w.heap.size 5 1 (.slice (some ⟨g, 0, none⟩) 32 c) 32 (ub (sumL bs)) := by
  subst hn
  obtain ⟨i, hi, hz0, hz1, hz2⟩ := info_parts infoInt
  obtain ⟨iu, hui, hu0, hu1, hu2⟩ := info_parts infoU8
  go_enter Tryd.func63, Tryd.ntmps63
  go_wp2_with fail
  go_loopw [4, 3] (fun j v wr => ∃ k : Nat, k ≤ 8 ∧ j = .int .i64 k ∧ Below w.heap.size w wr ∧ wr.ownsRow w.heap.size 3 1 v k (ia (fw.take k))) (fun j _ _ => 8 - (intOf j).toNat)
  case atStart => exact ⟨0, Nat.zero_le _, rfl, Below.refl _ _, World.ownsRow_nil _ _ _ _⟩
  case round =>
    obtain ⟨k, hk, rfl, hb, ho⟩ := hrel
    by_cases hlt : k < 8
    · have hltI : (k : Int) < 8 := by omega
      have hst : Hid (fw.take (k + 1) = fw.take k ++ [fw.getD k 0]) := by
        show _ = _
        have hf : k < fw.length := hlt
        rw [List.take_succ_eq_append_getElem hf]
        simp [List.getD, hf]
      go_wp2_with fail
      refine (firstWord_any k hlt _).mono ?_
      rintro e w3 ⟨rfl, hb3⟩
      have ho3 := owns_below' ho hb3
      have hB3 := hb.trans (hb3.mono hb.size)
      generalize fw.getD k 0 = x at hst ⊢
      go_wp2_with (at_builtin; refine wpList_append_own _ rfl _ _ 45 rfl w.heap.size 3 i (.int .i64 0) 1 8 Tryd.underlying45 hi hz0 hz1 hz2 rfl (by decide) _ k _ rfl (World.ownsRow.alloc ho3 _) ⟨w3.heap.size, 0, none⟩ 1 1 [.int .i64 x] rfl rfl (cells_new _ _ _) (i64_one [_]) (by unfold maxLen; omega) (by omega) (le_alloc hB3.size _) ?_; intro v1 w2 ho1 hg1 _)
      have hb2 := Below.grown (hB3.alloc hB3.size _) hg1 (le_alloc hB3.size _) (fun q e => (ho3.lt q e).1)
      go_roundw
      case rel =>
        have hR : ∃ k' : Nat, k' ≤ 8 ∧ (Value.int .i64 ((k : Int) + 1)) = .int .i64 k' ∧ Below w.heap.size w w2 ∧ w2.ownsRow w.heap.size 3 1 v1 k' (ia (fw.take k')) :=
          ⟨k + 1, by omega, by go_num, hb2, by rw [hst.out, ia_app]; exact ho1⟩
        first | exact hR | ((repeat apply Exists.intro); exact ⟨hR, rfl⟩)
      case measure => simp [intOf]; omega
    · obtain rfl : k = 8 := by omega
      rw [fw_take] at ho
      have hf : ∃ g c, u3 = .slice (some ⟨g, 0, none⟩) 8 c := by
        rcases ho.2 with ⟨_, h0⟩ | ⟨g, c, cur, rfl, _⟩
        · cases h0
        · exact ⟨g, c, rfl⟩
      obtain ⟨g, c, hv⟩ := hf
      subst hv
      have c0 := (World.ownsRow.cellAt ho 0 (by omega)).trans (ia_get _ _ (by decide))
      have f0 := World.ownsRow.frozenAt ho 0
      have hst := World.ownsRow.stored ho 0 (.int .i64 (bits .xor .i64 (fw.getD 0 0) 16842784))
      rw [ia_set, beginL_eq] at hst
      have Hst : Hid ((wr.setCell ⟨g, 0, none⟩ (.int .i64 (bits .xor .i64 (fw.getD 0 0) 16842784))).ownsRow w.heap.size 3 1 (.slice (some ⟨g, 0, none⟩) 8 c) 8 (ia beginL) ∧ wr.grownBy (wr.setCell ⟨g, 0, none⟩ (.int .i64 (bits .xor .i64 (fw.getD 0 0) 16842784))) (some g)) := hst
      have hgw : w.heap.size ≤ g := (ho.lt _ rfl).1
      clear hst
      generalize fw.getD 0 0 = x at *
      go_wp2_with fail
      go_loopw [5, 3] (fun j v wq => ∃ (k d g c : Nat), j = .int .i64 d ∧ v = .slice (some ⟨g, 0, none⟩) 8 c ∧ Hid (d = 64 * k) ∧ (d < bs.length ∨ d = 0) ∧ Below w.heap.size w wq ∧ wq.ownsRow w.heap.size 3 1 (.slice (some ⟨g, 0, none⟩) 8 c) 8 (ia (sumTo bs k))) (fun j _ _ => bs.length - (intOf j).toNat)
      case atStart => exact ⟨0, 0, g, c, rfl, rfl, rfl, .inr rfl, hb.trans (below_of_grown Hst.out.2 hb.size hgw), Hst.out.1⟩
      case round =>
        clear Hst ho c0 f0 hb hgw
        obtain ⟨k, d, g, c, rfl, rfl, hd, hdl, hb, ho⟩ := hrel
        have hgw : g < wr.heap.size := (ho.lt _ rfl).2
        have hSl := sumTo_length bs k
        have hSw := sumTo_W1 bs k (by have := hd.out; omega)
        have hcs : ∀ j, j < 8 → wr.cell? ⟨g, j, none⟩ = some (.int .i64 ((sumTo bs k).getD j 0)) := fun j hj => (World.ownsRow.cellAt ho j (by omega)).trans (ia_get _ _ (by rw [hSl]; exact hj))
        have hub : ∀ l : List Int, (∀ x ∈ l, x ∈ bs) → ∀ j, 0 ≤ l.getD j 0 ∧ l.getD j 0 ≤ 255 := fun l hx j => by
          rcases Nat.lt_or_ge j l.length with q | q
          · rw [List.getD, List.getElem?_eq_getElem q]; exact hu _ (hx _ (List.getElem_mem q))
          · rw [List.getD, List.getElem?_eq_none q]; exact ⟨by decide, by decide⟩
        by_cases hlt : d + 64 < bs.length
        · obtain ⟨sb, so, rfl⟩ : ∃ sb so, sa = some ⟨sb, so, none⟩ := by
            rcases hs.some with h0 | h0
            · have := hs.le; omega
            · exact h0
          have hltI : (64 : Int) < (bs.length : Int) - d := by omega
          have hm : W1 ((d : Int) + 64) := ⟨by omega, by omega⟩
          have hcut : BytesAt w (some ⟨sb, so + d, none⟩) ((bs.drop d).take 64) := hs.bytes.cut d 64
          have hcl : Hid (64 = ((bs.drop d).take 64).length) := by show _ = _; simp; omega
          have hu1 := hub ((bs.drop d).take 64) (fun x hx => List.mem_of_mem_drop (List.mem_of_mem_take hx))
          have hs1 : Hid (sumTo bs (k + 1) = takeL (sumTo bs k) ((bs.drop d).take 64) ((d : Int) + 64) false) := by
            have hd' := hd.out
            have e : ((64 * k + 64 : Nat) : Int) = (d : Int) + 64 := by omega
            show _ = _
            rw [sumTo, e, ← hd']
          have hdc : (d : Int) + 64 ≤ cap := by have := hs.le; omega
          generalize sumTo bs k = S at *
          go_wp2_with fail
          refine (taken_any S ((bs.drop d).take 64) g c _ _ _ _ _ _ hcl.out hSl hSw (by simp; omega) (hcut.below' hb) hu1 hm hcs).mono ?_
          rintro e w2 ⟨g2, c2, rfl, hb2, ho2⟩
          go_wp2_with fail
          go_roundw
          case rel =>
            have hR : ∃ (k' d' g' c' : Nat), (Value.int .i64 ((d : Int) + 64)) = .int .i64 d' ∧ (Value.slice (some ⟨g2, 0, none⟩) 8 c2) = .slice (some ⟨g', 0, none⟩) 8 c' ∧ Hid (d' = 64 * k') ∧ (d' < bs.length ∨ d' = 0) ∧ Below w.heap.size w w2 ∧ w2.ownsRow w.heap.size 3 1 (.slice (some ⟨g', 0, none⟩) 8 c') 8 (ia (sumTo bs k')) :=
              ⟨k + 1, d + 64, g2, c2, by go_num, rfl, by rw [hd.out]; exact (Nat.mul_succ 64 k).symm, .inl (by omega), hb.trans (hb2.mono hb.size), by rw [hs1.out]; exact ownsRow_base ho2 hb.size⟩
            first | exact hR | ((repeat apply Exists.intro); exact ⟨hR, rfl⟩)
          case measure => simp [intOf]; omega
        · have hk : k = fullB bs.length := by
            have := hd.out
            unfold fullB
            omega
          have hltI : ¬ (64 : Int) < (bs.length : Int) - d := by omega
          have hfin : Hid (sumL bs = digTo (takeL (sumTo bs k) (bs.drop d) (bs.length : Int) true) 8) := by
            show _ = _
            rw [sumL, ← hk, ← hd.out]
          have hby : BytesAt w (sa.map fun a => ⟨a.block, a.off + d, none⟩) (bs.drop d) := by
            rcases hs.bytes with hc | ⟨sb, so, rfl, hc⟩
            · exact .inl (by rw [hc]; simp)
            · have := BytesAt.cut (.inr ⟨sb, so, rfl, hc⟩) d (bs.length)
              rwa [List.take_of_length_le (by simp)] at this
          have hcl : Hid (bs.length - d = (bs.drop d).length) := by show _ = _; simp
          have hv1 := hub (bs.drop d) (fun x hx => List.mem_of_mem_drop hx)
          have hm : W1 (bs.length : Int) := ⟨by omega, by omega⟩
          have hlen : (bs.drop d).length ≤ 64 := by simp; omega
          have hdc : (d : Int) ≤ bs.length := by omega
          have hTl := takeL_length (sumTo bs k) (bs.drop d) (bs.length : Int) true
          have hTw := takeL_W1 (sumTo bs k) (bs.drop d) hSl hSw (bs.length : Int) hm true
          rw [hSl] at hTl
          clear hk
          generalize sumTo bs k = S at *
          go_upto_region 11 with (fail)
          go_cut [3] (fun v wx => ∃ g2 c2, v = .slice (some ⟨g2, 0, none⟩) 8 c2 ∧ Below w.heap.size w wx ∧ wx.ownsRow w.heap.size 3 1 (.slice (some ⟨g2, 0, none⟩) 8 c2) 8 (ia (takeL S (bs.drop d) (bs.length : Int) true)))
          case first =>
            cases sa with
            | none =>
              obtain rfl := hs.nil rfl
              obtain rfl : bs = [] := List.eq_nil_of_length_eq_zero (by have := hs.le; omega)
              obtain rfl : d = 0 := by simpa using hdl
              go_wp2_with fail
              refine (taken_any S _ g c _ _ _ _ _ _ rfl hSl hSw hlen (.inl rfl) hv1 hm hcs).mono ?_
              rintro e w2 ⟨g2, c2, rfl, hb2, ho2⟩
              go_wp2_with fail
              go_meet
              case rel => exact ⟨g2, c2, rfl, hb.trans (hb2.mono hb.size), ownsRow_base ho2 hb.size⟩
            | some a =>
              by_cases hc0 : cap = 0
              · subst hc0
                obtain rfl : bs = [] := List.eq_nil_of_length_eq_zero (by have := hs.le; omega)
                obtain rfl : d = 0 := by simpa using hdl
                go_wp2_with fail
                refine (taken_any S _ g c _ _ _ _ _ _ rfl hSl hSw hlen (.inl rfl) hv1 hm hcs).mono ?_
                rintro e w2 ⟨g2, c2, rfl, hb2, ho2⟩
                go_wp2_with fail
                go_meet
                case rel => exact ⟨g2, c2, rfl, hb.trans (hb2.mono hb.size), ownsRow_base ho2 hb.size⟩
              · obtain ⟨sb, so, ha⟩ : ∃ sb so, some a = some (⟨sb, so, none⟩ : Addr) := by
                  rcases hs.some with h0 | h0
                  · exact absurd h0 hc0
                  · exact h0
                cases ha
                have hl9 := hs.le
                have hdc2 : (d : Int) < cap := by omega
                have hn1 : ¬ d = cap := by omega
                have hn2 : ¬ cap = d := by omega
                have hn3 : ¬ (d : Int) = cap := by omega
                go_wp2_with fail
                refine (taken_any S _ g c _ _ _ _ _ _ hcl.out hSl hSw hlen (hby.below' hb) hv1 hm hcs).mono ?_
                rintro e w2 ⟨g2, c2, rfl, hb2, ho2⟩
                go_wp2_with fail
                go_meet
                case rel => exact ⟨g2, c2, rfl, hb.trans (hb2.mono hb.size), ownsRow_base ho2 hb.size⟩
          case rest =>
            obtain ⟨g2, c2, rfl, hb3, ho2⟩ := hcut
            clear ho hcs hSl hSw hv1 hb hcl hlen hub hu hby hs hgw
            generalize takeL S (bs.drop d) (bs.length : Int) true = T at *
            have hg2 : g2 < wc.heap.size := (ho2.lt _ rfl).2
            have hcs : ∀ j, j < 8 → wc.cell? ⟨g2, j, none⟩ = some (.int .i64 (T.getD j 0)) := fun j hj => (World.ownsRow.cellAt ho2 j (by omega)).trans (ia_get _ _ (by rw [hTl]; exact hj))
            obtain ⟨B, hB⟩ : ∃ B, B = wc.heap.size := ⟨_, rfl⟩
            have hwB : w.heap.size ≤ B := by rw [hB]; exact hb3.size
            have hgB : g2 < B := by rw [hB]; exact hg2
            go_wp2_with fail
            go_loopw [7, 6] (fun j v wq => ∃ k : Nat, k ≤ 32 ∧ j = .int .i64 k ∧ Below w.heap.size w wq ∧ B ≤ wq.heap.size ∧ (∀ j, j < 8 → wq.cell? ⟨g2, j, none⟩ = some (.int .i64 (T.getD j 0))) ∧ wq.ownsRow B 5 1 v k (ub ((digTo T 8).take k))) (fun j _ _ => 32 - (intOf j).toNat)
            case atStart => exact ⟨0, Nat.zero_le _, rfl, hb3, by omega, hcs, World.ownsRow_nil _ _ _ _⟩
            case round =>
              clear hcs hb3 hB ho2 hg2
              obtain ⟨k, hk, rfl, hb, hBs, hcs, ho⟩ := hrel
              by_cases hk32 : k < 32
              · have hkI : (k : Int) < 32 := by omega
                have ck := hcs (k / 4) (by omega)
                obtain ⟨hx0, hx1⟩ := getD_W1 hTw (k / 4)
                have hst : Hid ((digTo T 8).take (k + 1) = (digTo T 8).take k ++ [T.getD (k / 4) 0 / 2 ^ (8 * (k % 4)) % 256]) := by
                  show _ = _
                  have hlk : k < (digTo T 8).length := by rw [digTo_length]; exact hk32
                  rw [List.take_succ_eq_append_getElem hlk, ← dig_get T 8 k (by omega)]
                  simp [List.getD, hlk]
                have Hcs : Hid (∀ j, j < 8 → wr.cell? ⟨g2, j, none⟩ = some (.int .i64 (T.getD j 0))) := hcs
                clear hcs
                generalize T.getD (k / 4) 0 = x at ck hst hx0 hx1
                have hr : k % 4 = 0 ∨ k % 4 = 1 ∨ k % 4 = 2 ∨ k % 4 = 3 := by omega
                have hqI : (k : Int) / 4 < 8 := by omega
                have hqt : ((k : Int) / 4).toNat = k / 4 := by omega
                rcases hr with hr | hr | hr | hr
                · have hrI : (k : Int) % 4 = ((k % 4 : Nat) : Int) := by omega
                  rw [hr] at hrI hst
                  simp only [Nat.reduceMul, Int.reducePow] at hst
                  rw [Int.ediv_one] at hst
                  clear hr
                  go_wp2_with (at_builtin; refine wpList_append_own _ rfl _ _ 25 rfl B 5 iu (.int .u8 0) 1 1 Tryd.underlying25 hui hu0 hu1 hu2 rfl (by decide) _ k _ rfl (World.ownsRow.alloc ho _) ⟨wr.heap.size, 0, none⟩ 1 1 [.int .u8 (x % 256)] rfl rfl (cells_new _ _ _) (u8_one [_]) (by unfold maxLen; omega) (by omega) (le_alloc hBs _) ?_; intro v1 w2 ho1 hg1 _)
                  have hbB := Below.grown ((Below.refl B wr).alloc hBs _) hg1 (le_alloc hBs _) (fun q e => (ho.lt q e).1)
                  go_roundw
                  case rel =>
                    have hR : ∃ k' : Nat, k' ≤ 32 ∧ (Value.int .i64 ((k : Int) + 1)) = .int .i64 k' ∧ Below w.heap.size w w2 ∧ B ≤ w2.heap.size ∧ (∀ j, j < 8 → w2.cell? ⟨g2, j, none⟩ = some (.int .i64 (T.getD j 0))) ∧ w2.ownsRow B 5 1 v1 k' (ub ((digTo T 8).take k')) :=
                      ⟨k + 1, by omega, by go_num, hb.trans (hbB.mono hwB), Nat.le_trans hBs hbB.size, fun j hj => (hbB.cell (p := ⟨g2, j, none⟩) hgB).trans (Hcs.out j hj), by rw [hst.out]; simpa [ub] using ho1⟩
                    first | exact hR | ((repeat apply Exists.intro); exact ⟨hR, rfl⟩)
                  case measure => simp [intOf]; omega
                · have hrI : (k : Int) % 4 = ((k % 4 : Nat) : Int) := by omega
                  rw [hr] at hrI hst
                  simp only [Nat.reduceMul, Int.reducePow] at hst
                  clear hr
                  go_wp2_with (at_builtin; refine wpList_append_own _ rfl _ _ 25 rfl B 5 iu (.int .u8 0) 1 1 Tryd.underlying25 hui hu0 hu1 hu2 rfl (by decide) _ k _ rfl (World.ownsRow.alloc ho _) ⟨wr.heap.size, 0, none⟩ 1 1 [.int .u8 (x / 256 % 256)] rfl rfl (cells_new _ _ _) (u8_one [_]) (by unfold maxLen; omega) (by omega) (le_alloc hBs _) ?_; intro v1 w2 ho1 hg1 _)
                  have hbB := Below.grown ((Below.refl B wr).alloc hBs _) hg1 (le_alloc hBs _) (fun q e => (ho.lt q e).1)
                  go_roundw
                  case rel =>
                    have hR : ∃ k' : Nat, k' ≤ 32 ∧ (Value.int .i64 ((k : Int) + 1)) = .int .i64 k' ∧ Below w.heap.size w w2 ∧ B ≤ w2.heap.size ∧ (∀ j, j < 8 → w2.cell? ⟨g2, j, none⟩ = some (.int .i64 (T.getD j 0))) ∧ w2.ownsRow B 5 1 v1 k' (ub ((digTo T 8).take k')) :=
                      ⟨k + 1, by omega, by go_num, hb.trans (hbB.mono hwB), Nat.le_trans hBs hbB.size, fun j hj => (hbB.cell (p := ⟨g2, j, none⟩) hgB).trans (Hcs.out j hj), by rw [hst.out]; simpa [ub] using ho1⟩
                    first | exact hR | ((repeat apply Exists.intro); exact ⟨hR, rfl⟩)
                  case measure => simp [intOf]; omega
                · have hrI : (k : Int) % 4 = ((k % 4 : Nat) : Int) := by omega
                  rw [hr] at hrI hst
                  simp only [Nat.reduceMul, Int.reducePow] at hst
                  clear hr
                  go_wp2_with (at_builtin; refine wpList_append_own _ rfl _ _ 25 rfl B 5 iu (.int .u8 0) 1 1 Tryd.underlying25 hui hu0 hu1 hu2 rfl (by decide) _ k _ rfl (World.ownsRow.alloc ho _) ⟨wr.heap.size, 0, none⟩ 1 1 [.int .u8 (x / 65536 % 256)] rfl rfl (cells_new _ _ _) (u8_one [_]) (by unfold maxLen; omega) (by omega) (le_alloc hBs _) ?_; intro v1 w2 ho1 hg1 _)
                  have hbB := Below.grown ((Below.refl B wr).alloc hBs _) hg1 (le_alloc hBs _) (fun q e => (ho.lt q e).1)
                  go_roundw
                  case rel =>
                    have hR : ∃ k' : Nat, k' ≤ 32 ∧ (Value.int .i64 ((k : Int) + 1)) = .int .i64 k' ∧ Below w.heap.size w w2 ∧ B ≤ w2.heap.size ∧ (∀ j, j < 8 → w2.cell? ⟨g2, j, none⟩ = some (.int .i64 (T.getD j 0))) ∧ w2.ownsRow B 5 1 v1 k' (ub ((digTo T 8).take k')) :=
                      ⟨k + 1, by omega, by go_num, hb.trans (hbB.mono hwB), Nat.le_trans hBs hbB.size, fun j hj => (hbB.cell (p := ⟨g2, j, none⟩) hgB).trans (Hcs.out j hj), by rw [hst.out]; simpa [ub] using ho1⟩
                    first | exact hR | ((repeat apply Exists.intro); exact ⟨hR, rfl⟩)
                  case measure => simp [intOf]; omega
                · have hrI : (k : Int) % 4 = ((k % 4 : Nat) : Int) := by omega
                  rw [hr] at hrI hst
                  simp only [Nat.reduceMul, Int.reducePow] at hst
                  rw [show x / 16777216 % 256 = x / 16777216 by omega] at hst
                  clear hr
                  go_wp2_with (at_builtin; refine wpList_append_own _ rfl _ _ 25 rfl B 5 iu (.int .u8 0) 1 1 Tryd.underlying25 hui hu0 hu1 hu2 rfl (by decide) _ k _ rfl (World.ownsRow.alloc ho _) ⟨wr.heap.size, 0, none⟩ 1 1 [.int .u8 (x / 16777216)] rfl rfl (cells_new _ _ _) (u8_one [_]) (by unfold maxLen; omega) (by omega) (le_alloc hBs _) ?_; intro v1 w2 ho1 hg1 _)
                  have hbB := Below.grown ((Below.refl B wr).alloc hBs _) hg1 (le_alloc hBs _) (fun q e => (ho.lt q e).1)
                  go_roundw
                  case rel =>
                    have hR : ∃ k' : Nat, k' ≤ 32 ∧ (Value.int .i64 ((k : Int) + 1)) = .int .i64 k' ∧ Below w.heap.size w w2 ∧ B ≤ w2.heap.size ∧ (∀ j, j < 8 → w2.cell? ⟨g2, j, none⟩ = some (.int .i64 (T.getD j 0))) ∧ w2.ownsRow B 5 1 v1 k' (ub ((digTo T 8).take k')) :=
                      ⟨k + 1, by omega, by go_num, hb.trans (hbB.mono hwB), Nat.le_trans hBs hbB.size, fun j hj => (hbB.cell (p := ⟨g2, j, none⟩) hgB).trans (Hcs.out j hj), by rw [hst.out]; simpa [ub] using ho1⟩
                    first | exact hR | ((repeat apply Exists.intro); exact ⟨hR, rfl⟩)
                  case measure => simp [intOf]; omega
              · obtain rfl : k = 32 := by omega
                rw [List.take_of_length_le (by rw [digTo_length]; omega)] at ho
                have hf : ∃ g c, u6 = .slice (some ⟨g, 0, none⟩) 32 c := by
                  rcases ho.2 with ⟨_, h0⟩ | ⟨g, c, cur, rfl, _⟩
                  · cases h0
                  · exact ⟨g, c, rfl⟩
                obtain ⟨g9, c9, hv⟩ := hf
                subst hv
                go_wp2_with fail
                go_ret
                refine ⟨g9, c9, rfl, hb, ?_⟩
                rw [hfin.out]
                exact ownsRow_base ho hwB
end Go.Proofs.YtcecjdoabnhcgaaDoor
