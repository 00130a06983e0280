/- The document's digestsOf. -/
import Derived.Test.YtgbomdikhidkoaaDoorLib
import Derived.Test.YtgbomdikhidkoaaDoorDagChecksM18
import Derived.Test.YtgbomdikhidkoaaDoorDagChecksM36
import Derived.ProofKit
import Derived.OpenShut
import Derived.Test.YtgbomdikhidkoaaDoorApp
import Derived.Test.YtgbomdikhidkoaaDoorTagged
import Derived.Test.YtgbomdikhidkoaaDoorOwnL
import Derived.Test.YtgbomdikhidkoaaDoorAppH
import Derived.Test.YtgbomdikhidkoaaDoorDagChecksM30
import Derived.Test.YtgbomdikhidkoaaDoorDigH
import Derived.Test.YtgbomdikhidkoaaDoorHeadK
import Derived.Test.YtgbomdikhidkoaaDoorDagChecksM24
import Derived.Test.YtgbomdikhidkoaaDoorCtFar
namespace Go.Proofs.YtgbomdikhidkoaaDoor
open Go.ChangeShapes Go.WideShapes Go.ChangeAt Go.RowKit

/-- What the initialisers of the three tables lay, in the first blocks. -/
def layBlock (c : Array Value) : Obj → Obj
  | .cells _ t frozen => .cells c t frozen
  | o => o
def layTabs (w : World) : World :=
  { w with heap := ((w.heap.modify 0 (layBlock (ua fw))).modify 1 (layBlock (ub (ordF.map Int.ofNat)).toArray)).modify 2 (layBlock (ub (laneF.map Int.ofNat)).toArray) }
end Go.Proofs.YtgbomdikhidkoaaDoor

namespace Go.Proofs.YtgbomdikhidkoaaDoor
open Go.RowKit

set_option maxRecDepth 100000 in
theorem foldTo_W1 (s v : List Int) (hsw : ∀ z ∈ s, W1 z) (hv : ∀ z ∈ v, W1 z) (n : Nat) : ∀ z ∈ foldTo s v n, W1 z := by
  induction n with
  | zero => exact hsw
  | succ n ih =>
    rw [foldTo]
    exact set_W1 ih n (W1.xor (getD_W1 ih n) (W1.xor (getD_W1 hv n) (getD_W1 hv (n + 8))))
set_option maxRecDepth 100000 in
theorem takeL_W1 (s bs : List Int) (hs : s.length = 8) (hsw : ∀ z ∈ s, W1 z) (n : Int) (hn : W1 n) (last : Bool) : ∀ z ∈ takeL s bs n last, W1 z :=
  foldTo_W1 s _ hsw (roundsTo_W1 _ _ (spreadL_length s hs n last) (spreadL_W1 s hs hsw n hn last) 10) 8
set_option maxRecDepth 100000 in
theorem beginL_eq : fw.set 0 (bits .xor .i64 (fw.getD 0 0) 16842784) = beginL := by decide +kernel
set_option maxRecDepth 100000 in
theorem beginL_W1 : ∀ z ∈ beginL, W1 z := by unfold W1; decide +kernel
set_option maxRecDepth 100000 in
theorem sumTo_W1 (bs : List Int) (k : Nat) (hk : k ≤ 1000) : ∀ z ∈ sumTo bs k, W1 z := by
  induction k with
  | zero => exact beginL_W1
  | succ k ih => exact takeL_W1 _ _ (sumTo_length bs k) (ih (by omega)) _ ⟨by omega, by omega⟩ false
set_option maxRecDepth 100000 in
theorem dig_get (s : List Int) (k i : Nat) (h : i < 4 * k) : (digTo s k).getD i 0 = s.getD (i / 4) 0 / 2 ^ (8 * (i % 4)) % 256 := by
  induction k with
  | zero => omega
  | succ k ih =>
    have hl := digTo_length s k
    rw [digTo]
    by_cases hi : i < 4 * k
    · rw [← ih hi]
      simp [List.getD, List.getElem?_append, hl, hi]
    · have hq : i / 4 = k := by omega
      have hr : i = 4 * k ∨ i = 4 * k + 1 ∨ i = 4 * k + 2 ∨ i = 4 * k + 3 := by omega
      rw [hq]
      rcases hr with rfl | rfl | rfl | rfl
      · simp [List.getD, hl]
      · rw [show (4 * k + 1) % 4 = 1 by omega]; simp [List.getD, hl]
      · rw [show (4 * k + 2) % 4 = 2 by omega]; simp [List.getD, hl]
      · rw [show (4 * k + 3) % 4 = 3 by omega]; simp [List.getD, hl]

set_option maxRecDepth 100000 in
set_option maxHeartbeats 4000000 in
theorem digested_any (bs : List Int) (sa : Option Addr) (n cap : Nat) (w : World) (hn : n = bs.length) (hl : bs.length ≤ 4000) (hs : SliceAt w sa cap bs) (hu : AllU8 bs) :
    Calls Tryd.prog 78 #[.slice sa n cap] w fun e w' => ∃ g c, e = .returned (.slice (some ⟨g, 0, none⟩) 32 c) ∧ Below w.heap.size w w' ∧ w'.ownsRow w.heap.size 5 1 (.slice (some ⟨g, 0, none⟩) 32 c) 32 (ub (sumL bs)) := by
  subst hn
  obtain ⟨i, hi, hz0, hz1, hz2⟩ := info_parts infoInt
  obtain ⟨iu, hui, hu0, hu1, hu2⟩ := info_parts infoU8
  go_enter Tryd.func78, Tryd.ntmps78
  go_wp2_with fail
  go_loopw [4, 3] (fun j v wr => ∃ k : Nat, k ≤ 8 ∧ j = .int .i64 k ∧ Below w.heap.size w wr ∧ wr.ownsRow w.heap.size 3 1 v k (ia (fw.take k))) (fun j _ _ => 8 - (intOf j).toNat)
  case atStart => exact ⟨0, Nat.zero_le _, rfl, Below.refl _ _, World.ownsRow_nil _ _ _ _⟩
  case round =>
    obtain ⟨k, hk, rfl, hb, ho⟩ := hrel
    by_cases hlt : k < 8
    · have hltI : (k : Int) < 8 := by omega
      have hst : Hid (fw.take (k + 1) = fw.take k ++ [fw.getD k 0]) := by
        show _ = _
        have hf : k < fw.length := hlt
        rw [List.take_succ_eq_append_getElem hf]
        simp [List.getD, hf]
      go_wp2_with fail
      refine (firstWord_any k hlt _).mono ?_
      rintro e w3 ⟨rfl, hb3⟩
      have ho3 := owns_below' ho hb3
      have hB3 := hb.trans (hb3.mono hb.size)
      generalize fw.getD k 0 = x at hst ⊢
      go_wp2_with (at_builtin; refine wpList_append_own _ rfl _ _ 33 rfl w.heap.size 3 i (.int .i64 0) 1 8 Tryd.underlying33 hi hz0 hz1 hz2 rfl (by decide) _ k _ rfl (World.ownsRow.alloc ho3 _) ⟨w3.heap.size, 0, none⟩ 1 1 [.int .i64 x] rfl rfl (cells_new _ _ _) (i64_one [_]) (by unfold maxLen; omega) (by omega) (le_alloc hB3.size _) ?_; intro v1 w2 ho1 hg1 _)
      have hb2 := Below.grown (hB3.alloc hB3.size _) hg1 (le_alloc hB3.size _) (fun q e => (ho3.lt q e).1)
      go_roundw
      case rel =>
        have hR : ∃ k' : Nat, k' ≤ 8 ∧ (Value.int .i64 ((k : Int) + 1)) = .int .i64 k' ∧ Below w.heap.size w w2 ∧ w2.ownsRow w.heap.size 3 1 v1 k' (ia (fw.take k')) :=
          ⟨k + 1, by omega, by go_num, hb2, by rw [hst.out, ia_app]; exact ho1⟩
        first | exact hR | ((repeat apply Exists.intro); exact ⟨hR, rfl⟩)
      case measure => simp [intOf]; omega
    · obtain rfl : k = 8 := by omega
      rw [fw_take] at ho
      have hf : ∃ g c, u3 = .slice (some ⟨g, 0, none⟩) 8 c := by
        rcases ho.2 with ⟨_, h0⟩ | ⟨g, c, cur, rfl, _⟩
        · cases h0
        · exact ⟨g, c, rfl⟩
      obtain ⟨g, c, hv⟩ := hf
      subst hv
      have c0 := (World.ownsRow.cellAt ho 0 (by omega)).trans (ia_get _ _ (by decide))
      have f0 := World.ownsRow.frozenAt ho 0
      have hst := World.ownsRow.stored ho 0 (.int .i64 (bits .xor .i64 (fw.getD 0 0) 16842784))
      rw [ia_set, beginL_eq] at hst
      have Hst : Hid ((wr.setCell ⟨g, 0, none⟩ (.int .i64 (bits .xor .i64 (fw.getD 0 0) 16842784))).ownsRow w.heap.size 3 1 (.slice (some ⟨g, 0, none⟩) 8 c) 8 (ia beginL) ∧ wr.grownBy (wr.setCell ⟨g, 0, none⟩ (.int .i64 (bits .xor .i64 (fw.getD 0 0) 16842784))) (some g)) := hst
      have hgw : w.heap.size ≤ g := (ho.lt _ rfl).1
      clear hst
      generalize fw.getD 0 0 = x at *
      go_wp2_with fail
      go_loopw [5, 3] (fun j v wq => ∃ (k d g c : Nat), j = .int .i64 d ∧ v = .slice (some ⟨g, 0, none⟩) 8 c ∧ Hid (d = 64 * k) ∧ (d < bs.length ∨ d = 0) ∧ Below w.heap.size w wq ∧ wq.ownsRow w.heap.size 3 1 (.slice (some ⟨g, 0, none⟩) 8 c) 8 (ia (sumTo bs k))) (fun j _ _ => bs.length - (intOf j).toNat)
      case atStart => exact ⟨0, 0, g, c, rfl, rfl, rfl, .inr rfl, hb.trans (below_of_grown Hst.out.2 hb.size hgw), Hst.out.1⟩
      case round =>
        clear Hst ho c0 f0 hb hgw
        obtain ⟨k, d, g, c, rfl, rfl, hd, hdl, hb, ho⟩ := hrel
        have hgw : g < wr.heap.size := (ho.lt _ rfl).2
        have hSl := sumTo_length bs k
        have hSw := sumTo_W1 bs k (by have := hd.out; omega)
        have hcs : ∀ j, j < 8 → wr.cell? ⟨g, j, none⟩ = some (.int .i64 ((sumTo bs k).getD j 0)) := fun j hj => (World.ownsRow.cellAt ho j (by omega)).trans (ia_get _ _ (by rw [hSl]; exact hj))
        have hub : ∀ l : List Int, (∀ x ∈ l, x ∈ bs) → ∀ j, 0 ≤ l.getD j 0 ∧ l.getD j 0 ≤ 255 := fun l hx j => by
          rcases Nat.lt_or_ge j l.length with q | q
          · rw [List.getD, List.getElem?_eq_getElem q]; exact hu _ (hx _ (List.getElem_mem q))
          · rw [List.getD, List.getElem?_eq_none q]; exact ⟨by decide, by decide⟩
        by_cases hlt : d + 64 < bs.length
        · obtain ⟨sb, so, rfl⟩ : ∃ sb so, sa = some ⟨sb, so, none⟩ := by
            rcases hs.some with h0 | h0
            · have := hs.le; omega
            · exact h0
          have hltI : (64 : Int) < (bs.length : Int) - d := by omega
          have hm : W1 ((d : Int) + 64) := ⟨by omega, by omega⟩
          have hcut : BytesAt w (some ⟨sb, so + d, none⟩) ((bs.drop d).take 64) := hs.bytes.cut d 64
          have hcl : Hid (64 = ((bs.drop d).take 64).length) := by show _ = _; simp; omega
          have hu1 := hub ((bs.drop d).take 64) (fun x hx => List.mem_of_mem_drop (List.mem_of_mem_take hx))
          have hs1 : Hid (sumTo bs (k + 1) = takeL (sumTo bs k) ((bs.drop d).take 64) ((d : Int) + 64) false) := by
            have hd' := hd.out
            have e : ((64 * k + 64 : Nat) : Int) = (d : Int) + 64 := by omega
            show _ = _
            rw [sumTo, e, ← hd']
          have hdc : (d : Int) + 64 ≤ cap := by have := hs.le; omega
          generalize sumTo bs k = S at *
          go_wp2_with fail
          refine (taken_any S ((bs.drop d).take 64) g c _ _ _ _ _ _ hcl.out hSl hSw (by simp; omega) (hcut.below' hb) hu1 hm hcs).mono ?_
          rintro e w2 ⟨g2, c2, rfl, hb2, ho2⟩
          go_wp2_with fail
          go_roundw
          case rel =>
            have hR : ∃ (k' d' g' c' : Nat), (Value.int .i64 ((d : Int) + 64)) = .int .i64 d' ∧ (Value.slice (some ⟨g2, 0, none⟩) 8 c2) = .slice (some ⟨g', 0, none⟩) 8 c' ∧ Hid (d' = 64 * k') ∧ (d' < bs.length ∨ d' = 0) ∧ Below w.heap.size w w2 ∧ w2.ownsRow w.heap.size 3 1 (.slice (some ⟨g', 0, none⟩) 8 c') 8 (ia (sumTo bs k')) :=
              ⟨k + 1, d + 64, g2, c2, by go_num, rfl, by rw [hd.out]; exact (Nat.mul_succ 64 k).symm, .inl (by omega), hb.trans (hb2.mono hb.size), by rw [hs1.out]; exact ownsRow_base ho2 hb.size⟩
            first | exact hR | ((repeat apply Exists.intro); exact ⟨hR, rfl⟩)
          case measure => simp [intOf]; omega
        · have hk : k = fullB bs.length := by
            have := hd.out
            unfold fullB
            omega
          have hltI : ¬ (64 : Int) < (bs.length : Int) - d := by omega
          have hfin : Hid (sumL bs = digTo (takeL (sumTo bs k) (bs.drop d) (bs.length : Int) true) 8) := by
            show _ = _
            rw [sumL, ← hk, ← hd.out]
          have hby : BytesAt w (sa.map fun a => ⟨a.block, a.off + d, none⟩) (bs.drop d) := by
            rcases hs.bytes with hc | ⟨sb, so, rfl, hc⟩
            · exact .inl (by rw [hc]; simp)
            · have := BytesAt.cut (.inr ⟨sb, so, rfl, hc⟩) d (bs.length)
              rwa [List.take_of_length_le (by simp)] at this
          have hcl : Hid (bs.length - d = (bs.drop d).length) := by show _ = _; simp
          have hv1 := hub (bs.drop d) (fun x hx => List.mem_of_mem_drop hx)
          have hm : W1 (bs.length : Int) := ⟨by omega, by omega⟩
          have hlen : (bs.drop d).length ≤ 64 := by simp; omega
          have hdc : (d : Int) ≤ bs.length := by omega
          have hTl := takeL_length (sumTo bs k) (bs.drop d) (bs.length : Int) true
          have hTw := takeL_W1 (sumTo bs k) (bs.drop d) hSl hSw (bs.length : Int) hm true
          rw [hSl] at hTl
          clear hk
          generalize sumTo bs k = S at *
          go_upto_region 11 with (fail)
          go_cut [3] (fun v wx => ∃ g2 c2, v = .slice (some ⟨g2, 0, none⟩) 8 c2 ∧ Below w.heap.size w wx ∧ wx.ownsRow w.heap.size 3 1 (.slice (some ⟨g2, 0, none⟩) 8 c2) 8 (ia (takeL S (bs.drop d) (bs.length : Int) true)))
          case first =>
            cases sa with
            | none =>
              obtain rfl := hs.nil rfl
              obtain rfl : bs = [] := List.eq_nil_of_length_eq_zero (by have := hs.le; omega)
              obtain rfl : d = 0 := by simpa using hdl
              go_wp2_with fail
              refine (taken_any S _ g c _ _ _ _ _ _ rfl hSl hSw hlen (.inl rfl) hv1 hm hcs).mono ?_
              rintro e w2 ⟨g2, c2, rfl, hb2, ho2⟩
              go_wp2_with fail
              go_meet
              case rel => exact ⟨g2, c2, rfl, hb.trans (hb2.mono hb.size), ownsRow_base ho2 hb.size⟩
            | some a =>
              by_cases hc0 : cap = 0
              · subst hc0
                obtain rfl : bs = [] := List.eq_nil_of_length_eq_zero (by have := hs.le; omega)
                obtain rfl : d = 0 := by simpa using hdl
                go_wp2_with fail
                refine (taken_any S _ g c _ _ _ _ _ _ rfl hSl hSw hlen (.inl rfl) hv1 hm hcs).mono ?_
                rintro e w2 ⟨g2, c2, rfl, hb2, ho2⟩
                go_wp2_with fail
                go_meet
                case rel => exact ⟨g2, c2, rfl, hb.trans (hb2.mono hb.size), ownsRow_base ho2 hb.size⟩
              · obtain ⟨sb, so, ha⟩ : ∃ sb so, some a = some (⟨sb, so, none⟩ : Addr) := by
                  rcases hs.some with h0 | h0
                  · exact absurd h0 hc0
                  · exact h0
                cases ha
                have hl9 := hs.le
                have hdc2 : (d : Int) < cap := by omega
                have hn1 : ¬ d = cap := by omega
                have hn2 : ¬ cap = d := by omega
                have hn3 : ¬ (d : Int) = cap := by omega
                go_wp2_with fail
                refine (taken_any S _ g c _ _ _ _ _ _ hcl.out hSl hSw hlen (hby.below' hb) hv1 hm hcs).mono ?_
                rintro e w2 ⟨g2, c2, rfl, hb2, ho2⟩
                go_wp2_with fail
                go_meet
                case rel => exact ⟨g2, c2, rfl, hb.trans (hb2.mono hb.size), ownsRow_base ho2 hb.size⟩
          case rest =>
            obtain ⟨g2, c2, rfl, hb3, ho2⟩ := hcut
            clear ho hcs hSl hSw hv1 hb hcl hlen hub hu hby hs hgw
            generalize takeL S (bs.drop d) (bs.length : Int) true = T at *
            have hg2 : g2 < wc.heap.size := (ho2.lt _ rfl).2
            have hcs : ∀ j, j < 8 → wc.cell? ⟨g2, j, none⟩ = some (.int .i64 (T.getD j 0)) := fun j hj => (World.ownsRow.cellAt ho2 j (by omega)).trans (ia_get _ _ (by rw [hTl]; exact hj))
            obtain ⟨B, hB⟩ : ∃ B, B = wc.heap.size := ⟨_, rfl⟩
            have hwB : w.heap.size ≤ B := by rw [hB]; exact hb3.size
            have hgB : g2 < B := by rw [hB]; exact hg2
            go_wp2_with fail
            go_loopw [7, 6] (fun j v wq => ∃ k : Nat, k ≤ 32 ∧ j = .int .i64 k ∧ Below w.heap.size w wq ∧ B ≤ wq.heap.size ∧ (∀ j, j < 8 → wq.cell? ⟨g2, j, none⟩ = some (.int .i64 (T.getD j 0))) ∧ wq.ownsRow B 5 1 v k (ub ((digTo T 8).take k))) (fun j _ _ => 32 - (intOf j).toNat)
            case atStart => exact ⟨0, Nat.zero_le _, rfl, hb3, by omega, hcs, World.ownsRow_nil _ _ _ _⟩
            case round =>
              clear hcs hb3 hB ho2 hg2
              obtain ⟨k, hk, rfl, hb, hBs, hcs, ho⟩ := hrel
              by_cases hk32 : k < 32
              · have hkI : (k : Int) < 32 := by omega
                have ck := hcs (k / 4) (by omega)
                obtain ⟨hx0, hx1⟩ := getD_W1 hTw (k / 4)
                have hst : Hid ((digTo T 8).take (k + 1) = (digTo T 8).take k ++ [T.getD (k / 4) 0 / 2 ^ (8 * (k % 4)) % 256]) := by
                  show _ = _
                  have hlk : k < (digTo T 8).length := by rw [digTo_length]; exact hk32
                  rw [List.take_succ_eq_append_getElem hlk, ← dig_get T 8 k (by omega)]
                  simp [List.getD, hlk]
                have Hcs : Hid (∀ j, j < 8 → wr.cell? ⟨g2, j, none⟩ = some (.int .i64 (T.getD j 0))) := hcs
                clear hcs
                generalize T.getD (k / 4) 0 = x at ck hst hx0 hx1
                have hr : k % 4 = 0 ∨ k % 4 = 1 ∨ k % 4 = 2 ∨ k % 4 = 3 := by omega
                have hqI : (k : Int) / 4 < 8 := by omega
                have hqt : ((k : Int) / 4).toNat = k / 4 := by omega
                rcases hr with hr | hr | hr | hr
                · have hrI : (k : Int) % 4 = ((k % 4 : Nat) : Int) := by omega
                  rw [hr] at hrI hst
                  simp only [Nat.reduceMul, Int.reducePow] at hst
                  rw [Int.ediv_one] at hst
                  clear hr
                  go_wp2_with (at_builtin; refine wpList_append_own _ rfl _ _ 29 rfl B 5 iu (.int .u8 0) 1 1 Tryd.underlying29 hui hu0 hu1 hu2 rfl (by decide) _ k _ rfl (World.ownsRow.alloc ho _) ⟨wr.heap.size, 0, none⟩ 1 1 [.int .u8 (x % 256)] rfl rfl (cells_new _ _ _) (u8_one [_]) (by unfold maxLen; omega) (by omega) (le_alloc hBs _) ?_; intro v1 w2 ho1 hg1 _)
                  have hbB := Below.grown ((Below.refl B wr).alloc hBs _) hg1 (le_alloc hBs _) (fun q e => (ho.lt q e).1)
                  go_roundw
                  case rel =>
                    have hR : ∃ k' : Nat, k' ≤ 32 ∧ (Value.int .i64 ((k : Int) + 1)) = .int .i64 k' ∧ Below w.heap.size w w2 ∧ B ≤ w2.heap.size ∧ (∀ j, j < 8 → w2.cell? ⟨g2, j, none⟩ = some (.int .i64 (T.getD j 0))) ∧ w2.ownsRow B 5 1 v1 k' (ub ((digTo T 8).take k')) :=
                      ⟨k + 1, by omega, by go_num, hb.trans (hbB.mono hwB), Nat.le_trans hBs hbB.size, fun j hj => (hbB.cell (p := ⟨g2, j, none⟩) hgB).trans (Hcs.out j hj), by rw [hst.out]; simpa [ub] using ho1⟩
                    first | exact hR | ((repeat apply Exists.intro); exact ⟨hR, rfl⟩)
                  case measure => simp [intOf]; omega
                · have hrI : (k : Int) % 4 = ((k % 4 : Nat) : Int) := by omega
                  rw [hr] at hrI hst
                  simp only [Nat.reduceMul, Int.reducePow] at hst
                  clear hr
                  go_wp2_with (at_builtin; refine wpList_append_own _ rfl _ _ 29 rfl B 5 iu (.int .u8 0) 1 1 Tryd.underlying29 hui hu0 hu1 hu2 rfl (by decide) _ k _ rfl (World.ownsRow.alloc ho _) ⟨wr.heap.size, 0, none⟩ 1 1 [.int .u8 (x / 256 % 256)] rfl rfl (cells_new _ _ _) (u8_one [_]) (by unfold maxLen; omega) (by omega) (le_alloc hBs _) ?_; intro v1 w2 ho1 hg1 _)
                  have hbB := Below.grown ((Below.refl B wr).alloc hBs _) hg1 (le_alloc hBs _) (fun q e => (ho.lt q e).1)
                  go_roundw
                  case rel =>
                    have hR : ∃ k' : Nat, k' ≤ 32 ∧ (Value.int .i64 ((k : Int) + 1)) = .int .i64 k' ∧ Below w.heap.size w w2 ∧ B ≤ w2.heap.size ∧ (∀ j, j < 8 → w2.cell? ⟨g2, j, none⟩ = some (.int .i64 (T.getD j 0))) ∧ w2.ownsRow B 5 1 v1 k' (ub ((digTo T 8).take k')) :=
                      ⟨k + 1, by omega, by go_num, hb.trans (hbB.mono hwB), Nat.le_trans hBs hbB.size, fun j hj => (hbB.cell (p := ⟨g2, j, none⟩) hgB).trans (Hcs.out j hj), by rw [hst.out]; simpa [ub] using ho1⟩
                    first | exact hR | ((repeat apply Exists.intro); exact ⟨hR, rfl⟩)
                  case measure => simp [intOf]; omega
                · have hrI : (k : Int) % 4 = ((k % 4 : Nat) : Int) := by omega
                  rw [hr] at hrI hst
                  simp only [Nat.reduceMul, Int.reducePow] at hst
                  clear hr
                  go_wp2_with (at_builtin; refine wpList_append_own _ rfl _ _ 29 rfl B 5 iu (.int .u8 0) 1 1 Tryd.underlying29 hui hu0 hu1 hu2 rfl (by decide) _ k _ rfl (World.ownsRow.alloc ho _) ⟨wr.heap.size, 0, none⟩ 1 1 [.int .u8 (x / 65536 % 256)] rfl rfl (cells_new _ _ _) (u8_one [_]) (by unfold maxLen; omega) (by omega) (le_alloc hBs _) ?_; intro v1 w2 ho1 hg1 _)
                  have hbB := Below.grown ((Below.refl B wr).alloc hBs _) hg1 (le_alloc hBs _) (fun q e => (ho.lt q e).1)
                  go_roundw
                  case rel =>
                    have hR : ∃ k' : Nat, k' ≤ 32 ∧ (Value.int .i64 ((k : Int) + 1)) = .int .i64 k' ∧ Below w.heap.size w w2 ∧ B ≤ w2.heap.size ∧ (∀ j, j < 8 → w2.cell? ⟨g2, j, none⟩ = some (.int .i64 (T.getD j 0))) ∧ w2.ownsRow B 5 1 v1 k' (ub ((digTo T 8).take k')) :=
                      ⟨k + 1, by omega, by go_num, hb.trans (hbB.mono hwB), Nat.le_trans hBs hbB.size, fun j hj => (hbB.cell (p := ⟨g2, j, none⟩) hgB).trans (Hcs.out j hj), by rw [hst.out]; simpa [ub] using ho1⟩
                    first | exact hR | ((repeat apply Exists.intro); exact ⟨hR, rfl⟩)
                  case measure => simp [intOf]; omega
                · have hrI : (k : Int) % 4 = ((k % 4 : Nat) : Int) := by omega
                  rw [hr] at hrI hst
                  simp only [Nat.reduceMul, Int.reducePow] at hst
                  rw [show x / 16777216 % 256 = x / 16777216 by omega] at hst
                  clear hr
                  go_wp2_with (at_builtin; refine wpList_append_own _ rfl _ _ 29 rfl B 5 iu (.int .u8 0) 1 1 Tryd.underlying29 hui hu0 hu1 hu2 rfl (by decide) _ k _ rfl (World.ownsRow.alloc ho _) ⟨wr.heap.size, 0, none⟩ 1 1 [.int .u8 (x / 16777216)] rfl rfl (cells_new _ _ _) (u8_one [_]) (by unfold maxLen; omega) (by omega) (le_alloc hBs _) ?_; intro v1 w2 ho1 hg1 _)
                  have hbB := Below.grown ((Below.refl B wr).alloc hBs _) hg1 (le_alloc hBs _) (fun q e => (ho.lt q e).1)
                  go_roundw
                  case rel =>
                    have hR : ∃ k' : Nat, k' ≤ 32 ∧ (Value.int .i64 ((k : Int) + 1)) = .int .i64 k' ∧ Below w.heap.size w w2 ∧ B ≤ w2.heap.size ∧ (∀ j, j < 8 → w2.cell? ⟨g2, j, none⟩ = some (.int .i64 (T.getD j 0))) ∧ w2.ownsRow B 5 1 v1 k' (ub ((digTo T 8).take k')) :=
                      ⟨k + 1, by omega, by go_num, hb.trans (hbB.mono hwB), Nat.le_trans hBs hbB.size, fun j hj => (hbB.cell (p := ⟨g2, j, none⟩) hgB).trans (Hcs.out j hj), by rw [hst.out]; simpa [ub] using ho1⟩
                    first | exact hR | ((repeat apply Exists.intro); exact ⟨hR, rfl⟩)
                  case measure => simp [intOf]; omega
              · obtain rfl : k = 32 := by omega
                rw [List.take_of_length_le (by rw [digTo_length]; omega)] at ho
                have hf : ∃ g c, u6 = .slice (some ⟨g, 0, none⟩) 32 c := by
                  rcases ho.2 with ⟨_, h0⟩ | ⟨g, c, cur, rfl, _⟩
                  · cases h0
                  · exact ⟨g, c, rfl⟩
                obtain ⟨g9, c9, hv⟩ := hf
                subst hv
                go_wp2_with fail
                go_ret
                refine ⟨g9, c9, rfl, hb, ?_⟩
                rw [hfin.out]
                exact ownsRow_base ho hwB
end Go.Proofs.YtgbomdikhidkoaaDoor

namespace Go.Proofs.YtgbomdikhidkoaaDoor
open Go.RowKit

set_option maxRecDepth 100000 in
theorem psz_le (ps : List Part) (k : Nat) (hk : k ≤ ps.length) : psz ps k ≤ psz ps ps.length := psz_mono ps k ps.length hk
set_option maxRecDepth 100000 in
theorem psz_two (ps : List Part) (k : Nat) : 2 * k ≤ psz ps k := by
  induction k with
  | zero => exact Nat.le_refl _
  | succ k ih => simp [psz]; omega
set_option maxRecDepth 100000 in
theorem getD_bs {ps qs : List Part} (h : Same ps qs) (k : Nat) : (ps.getD k ⟨none, 0, []⟩).bs = (qs.getD k ⟨none, 0, []⟩).bs := by
  have hk : (ps.map (·.bs))[k]? = (qs.map (·.bs))[k]? := by rw [h]
  simp only [List.getElem?_map] at hk
  simp only [List.getD]
  cases h1 : ps[k]? <;> cases h2 : qs[k]? <;> simp_all
set_option maxRecDepth 100000 in
theorem psz_same {ps qs : List Part} (h : Same ps qs) (k : Nat) : psz ps k = psz qs k := by
  induction k with
  | zero => rfl
  | succ k ih => rw [psz, psz, ih, getD_bs h]
set_option maxRecDepth 100000 in
theorem tagTo_same (tag : Int) {ps qs : List Part} (h : Same ps qs) (k : Nat) : tagTo tag ps k = tagTo tag qs k := by
  induction k with
  | zero => rfl
  | succ k ih => rw [tagTo, tagTo, ih, getD_bs h]
set_option maxRecDepth 100000 in
theorem tagTo_u8 (tag : Int) (ps : List Part) (ht : 0 ≤ tag ∧ tag ≤ 255) (hu : ∀ p ∈ ps, AllU8 p.bs) (k : Nat) (hk : k ≤ ps.length) : AllU8 (tagTo tag ps k) := by
  induction k with
  | zero => intro x hx; simp [tagTo] at hx; subst hx; exact ht
  | succ k ih =>
    have hlt : k < ps.length := by omega
    have hp : ps.getD k ⟨none, 0, []⟩ = ps[k] := by simp [hlt]
    intro x hx
    rw [tagTo, hp] at hx
    rcases List.mem_append.1 hx with hx | hx
    · rcases List.mem_append.1 hx with hx | hx
      · exact ih (by omega) x hx
      · simp at hx
        omega
    · exact hu _ (List.getElem_mem hlt) x hx

set_option maxRecDepth 100000 in
set_option maxHeartbeats 2000000 in
theorem taggedOf_new (tag : Int) (ps : List Part) (sa : Option Addr) (n cap : Nat) (w : World) (ht : 0 ≤ tag ∧ tag ≤ 255) (hn : n = ps.length) (hm : n ≤ 9000000000000000000) (hp : PartsAt w sa ps) (hu : ∀ p ∈ ps, AllU8 p.bs) :
    Calls Tryd.prog 63 #[.int .u8 tag, .slice sa n cap] w fun e w' => Below w.heap.size w w' ∧ ((4000 < 1 + psz ps ps.length ∧ e = .returned (.tuple #[.slice none 0 0, .int .i64 1])) ∨ (1 + psz ps ps.length ≤ 4000 ∧ ∃ g c, e = .returned (.tuple #[.slice (some ⟨g, 0, none⟩) 32 c, .int .i64 0]) ∧ SliceAt w' (some ⟨g, 0, none⟩) c (sumL (tagTo tag ps ps.length)) ∧ w.heap.size ≤ g)) := by
  subst hn
  obtain ⟨i, hi, hz0, hz1, hz2⟩ := info_parts infoU8
  have hlit := World.ownsRow_lit (base := w.heap.size) (e := 5) (size := 1) w (ub [tag]).toArray 1 (Nat.le_refl _) (by decide) rfl
  go_enter Tryd.func63, Tryd.ntmps63
  go_wp2_with fail
  go_loopw [7, 6] (fun j v wr => ∃ k : Nat, k ≤ ps.length ∧ j = .int .i64 k ∧ 1 + psz ps k ≤ 4000 ∧ Below w.heap.size w wr ∧ wr.ownsRow w.heap.size 5 1 v (1 + psz ps k) (ub (tagTo tag ps k))) (fun j _ _ => ps.length - (intOf j).toNat)
  case atStart => exact ⟨0, Nat.zero_le _, rfl, by simp [psz], (Below.refl _ _).alloc (Nat.le_refl _) _, hlit⟩
  case round =>
    clear hlit
    obtain ⟨k, hk, rfl, hz, hb, ho⟩ := hrel
    obtain ⟨xa, xc, hv, hxl, hxs⟩ := owns_form ho
    subst hv
    by_cases hlt : k < ps.length
    · have hpw := hp.below hb
      obtain ⟨sb, so, rfl, hc⟩ : ∃ sb so, sa = some ⟨sb, so, none⟩ ∧ ∀ j (h : j < ps.length), wr.cell? ⟨sb, so + j, none⟩ = some (.slice (ps[j]).sa (ps[j]).bs.length (ps[j]).cap) := by
        rcases hpw.cells with h | h
        · rw [h] at hlt; simp at hlt
        · exact h
      have ck := hc k hlt
      have hx := hpw.each (ps[k]) (List.getElem_mem hlt)
      have hxw := hp.each (ps[k]) (List.getElem_mem hlt)
      have hsb : sb < w.heap.size := by
        rcases hp.cells with h | ⟨sb', so', e, h⟩
        · rw [h] at hlt; simp at hlt
        · cases e; exact block_lt_of_cell (h k hlt)
      have hg : ps.getD k ⟨none, 0, []⟩ = ps[k] := by simp [hlt]
      have h2 : Hid (psz ps (k + 1) = psz ps k + (2 + (ps[k]).bs.length)) := by show _ = _; rw [psz, hg]
      have h3 : Hid (tagTo tag ps (k + 1) = tagTo tag ps k ++ [((ps[k]).bs.length : Int) / 256 % 256, ((ps[k]).bs.length : Int) % 256] ++ (ps[k]).bs) := by show _ = _; rw [tagTo, hg]
      have h4 := psz_le ps (k + 1) hlt
      rw [h2.out] at h4
      have hltI : (k : Int) < ps.length := by omega
      have hxm : (ps[k]).bs.length ≤ 9223372036854775807 := Nat.le_trans hx.le hx.max
      clear hc hg hxl
      generalize ps[k] = p at *
      have Hs : Hid (SliceAt wr xa xc (tagTo tag ps k)) := hxs
      clear hxs
      generalize hZ : psz ps ps.length = Z at *
      have hlT := tagTo_length tag ps k
      generalize tagTo tag ps k = T at *
      generalize psz ps k = z at *
      by_cases hA : 4000 < p.bs.length
      · have hAI : (4000 : Int) < p.bs.length := by omega
        have hbig : Hid (4000 < 1 + Z) := by show _ < _; omega
        clear h2 h3
        go_wp2_with fail
        go_ret2
        exact ⟨hb, .inl ⟨by first | exact hbig.out | (rw [hZ]; exact hbig.out), rfl⟩⟩
      · have hAI : ¬ (4000 : Int) < p.bs.length := by omega
        by_cases hB : 4000 < 1 + z + 2 + p.bs.length
        · have hBI : (4000 : Int) < (1 + z : Nat) + 2 + (p.bs.length : Int) := by omega
          have hbig : Hid (4000 < 1 + Z) := by show _ < _; omega
          clear h2 h3
          go_wp2_with fail
          go_ret2
          exact ⟨hb, .inl ⟨by first | exact hbig.out | (rw [hZ]; exact hbig.out), rfl⟩⟩
        · have hBI : ¬ (4000 : Int) < (1 + z : Nat) + 2 + (p.bs.length : Int) := by omega
          go_wp2_with (at_builtin; refine wpList_append_own _ rfl _ _ 29 rfl w.heap.size 5 i (.int .u8 0) 1 1 Tryd.underlying29 hi hz0 hz1 hz2 rfl (by decide) _ (1 + z) _ rfl (World.ownsRow.alloc ho _) ⟨wr.heap.size, 0, none⟩ 2 2 [.int .u8 ((p.bs.length : Int) / 256), .int .u8 ((p.bs.length : Int) % 256)] rfl rfl (cells_new _ _ _) (u8_one [_, _]) (by unfold maxLen; omega) (by omega) (le_alloc hb.size _) ?_; intro v1 w2 ho1 hg1 _; have hbr := Below.grown ((Below.refl w.heap.size wr).alloc hb.size _) hg1 (le_alloc hb.size _) (fun q e => (ho.lt q e).1); have ck2 := (hbr.cell (p := ⟨sb, so + k, none⟩) hsb).trans ck)
          have hb2 := hb.trans hbr
          have ho1' : w2.ownsRow w.heap.size 5 1 v1 (1 + z + 2) (ub (T ++ [(p.bs.length : Int) / 256, (p.bs.length : Int) % 256])) := by simpa [ub] using ho1
          obtain ⟨ya, yc, hv, hyl, hy⟩ := owns_form ho1'
          subst hv
          have e1 : (p.bs.length : Int) / 256 % 256 = (p.bs.length : Int) / 256 := by omega
          refine (joined_any (T ++ [(p.bs.length : Int) / 256, (p.bs.length : Int) % 256]) p.bs ya p.sa _ _ yc p.cap w2 hyl rfl hy (hxw.below hb2) (by simp; omega)).mono ?_
          rintro e w3 ⟨v3, he, ho3, hb3⟩
          subst he
          dsimp only
          have hlen : (T ++ [(p.bs.length : Int) / 256, (p.bs.length : Int) % 256]).length + p.bs.length = 1 + psz ps (k + 1) := by rw [h2.out]; simp; omega
          rw [hlen] at ho3
          go_wp2_with fail
          go_roundw
          case rel =>
            have hR : ∃ k' : Nat, k' ≤ ps.length ∧ (Value.int .i64 ((k : Int) + 1)) = .int .i64 k' ∧ 1 + psz ps k' ≤ 4000 ∧ Below w.heap.size w w3 ∧ w3.ownsRow w.heap.size 5 1 v3 (1 + psz ps k') (ub (tagTo tag ps k')) :=
              ⟨k + 1, by omega, by go_num, by rw [h2.out]; omega, hb2.trans (hb3.mono hb2.size), by rw [h3.out, e1]; exact ownsRow_base' ho3 hb2.size⟩
            first | exact hR | ((repeat apply Exists.intro); exact ⟨hR, rfl⟩)
          case measure => simp [intOf]; omega
    · obtain rfl : k = ps.length := by omega
      have hu8 := tagTo_u8 tag ps ht hu ps.length (Nat.le_refl _)
      have hl4 : (tagTo tag ps ps.length).length ≤ 4000 := by omega
      go_wp2_with fail
      refine (digested_any (tagTo tag ps ps.length) xa _ xc wr (by first | rfl | exact hxl) hl4 hxs hu8).mono ?_
      rintro e w3 ⟨g, c, he, hb3, ho3⟩
      subst he
      dsimp only
      go_wp2_with fail
      go_ret2
      exact ⟨hb.trans (hb3.mono hb.size), .inr ⟨hz, g, c, rfl, (sliceAt_of_owns ho3).2, Nat.le_trans hb.size (ho3.lt g rfl).1⟩⟩
set_option maxRecDepth 100000 in
theorem taggedOf_any (tag : Int) (ps : List Part) (sa : Option Addr) (n cap : Nat) (w : World) (ht : 0 ≤ tag ∧ tag ≤ 255) (hn : n = ps.length) (hm : n ≤ 9000000000000000000) (hp : PartsAt w sa ps) (hu : ∀ p ∈ ps, AllU8 p.bs) :
    Calls Tryd.prog 63 #[.int .u8 tag, .slice sa n cap] w fun e w' => Below w.heap.size w w' ∧ ((4000 < 1 + psz ps ps.length ∧ e = .returned (.tuple #[.slice none 0 0, .int .i64 1])) ∨ (1 + psz ps ps.length ≤ 4000 ∧ ∃ g c, e = .returned (.tuple #[.slice (some ⟨g, 0, none⟩) 32 c, .int .i64 0]) ∧ SliceAt w' (some ⟨g, 0, none⟩) c (sumL (tagTo tag ps ps.length)))) := by
  refine (taggedOf_new tag ps sa n cap w ht hn hm hp hu).mono ?_
  rintro e w' ⟨h1, h2 | ⟨h3, g, c, h4, h5, _⟩⟩
  · exact ⟨h1, .inl h2⟩
  · exact ⟨h1, .inr ⟨h3, g, c, h4, h5⟩⟩
end Go.Proofs.YtgbomdikhidkoaaDoor

namespace Go.Proofs.YtgbomdikhidkoaaDoor
open Go.RowKit

set_option maxRecDepth 100000 in
theorem headB_le (au rd : Int) (bl pl : List Part) (hbl : bl.length ≤ 4) (hpl : pl.length ≤ 4) (hb32 : ∀ p ∈ bl, p.bs.length = 32) (hp32 : ∀ p ∈ pl, p.bs.length = 32) : (headB au rd bl pl).length ≤ 300 := by
  have h1 := flatB_length bl hb32
  have h2 := flatB_length pl hp32
  simp [headB, rd3, digsB]; omega
end Go.Proofs.YtgbomdikhidkoaaDoor

namespace Go.Proofs.YtgbomdikhidkoaaDoor
open Go.RowKit

set_option maxRecDepth 100000 in
theorem flatB_all (l : List Part) (h : ∀ p ∈ l, AllU8 p.bs) : AllU8 (flatB l) := by
  induction l with
  | nil => intro x hx; cases hx
  | cons p l ih =>
    intro x hx
    simp only [flatB, List.mem_append] at hx
    rcases hx with hx | hx
    · exact h p (by simp) x hx
    · exact ih (fun q hq => h q (by simp [hq])) x hx
set_option maxRecDepth 100000 in
theorem headB_all {au rd : Int} {bl pl : List Part} (ha : 0 ≤ au ∧ au < 4) (hr : 0 ≤ rd ∧ rd ≤ 1048576) (hbl : bl.length ≤ 4) (hpl : pl.length ≤ 4) (hb : ∀ p ∈ bl, AllU8 p.bs) (hp : ∀ p ∈ pl, AllU8 p.bs) : AllU8 (headB au rd bl pl) := by
  intro x hx
  simp only [headB, rd3, digsB, List.mem_append, List.mem_cons, List.not_mem_nil, or_false] at hx
  rcases hx with ((hx | hx | hx | hx) | hx | hx) | hx | hx
  · omega
  · omega
  · omega
  · omega
  · omega
  · exact flatB_all bl hb x hx
  · omega
  · exact flatB_all pl hp x hx
set_option maxRecDepth 100000 in
set_option maxHeartbeats 1000000 in
theorem rHeaderDigest_new (au nu : Int) (ba : Option Addr) (bn bc : Nat) (bl : List Part) (pa : Option Addr) (pn pc : Nat) (pl : List Part) (w : World) (hbn : bn = bl.length) (hpn : pn = pl.length) (hLb : ListAt w ba bc bl) (hLp : ListAt w pa pc pl) (hub : ∀ p ∈ bl, AllU8 p.bs) (hup : ∀ p ∈ pl, AllU8 p.bs) (hF : headerF au nu bl pl = 0) :
    Calls Tryd.prog 49 #[.agg #[.int .i64 au, .int .i64 nu, .slice ba bn bc, .slice pa pn pc]] w fun e w' => ∃ g c, e = .returned (.slice (some ⟨g, 0, none⟩) 32 c) ∧ SliceAt w' (some ⟨g, 0, none⟩) c (tagD 2 (headB au nu bl pl)) ∧ Below w.heap.size w w' ∧ w.heap.size ≤ g := by
  have hA : Below w.heap.size w (w.alloc (.cells #[.int .i64 au, .int .i64 nu, .slice ba bn bc, .slice pa pn pc] 32)) := (Below.refl _ _).alloc (Nat.le_refl _) _
  obtain ⟨y1, y2, y3, y4, y5, y6⟩ := headerF_ok hF
  have hB := headerBytes_any au nu ba bn bc bl pa pn pc pl _ y1 ⟨by omega, y2.2⟩ hbn hpn (by omega) y4 y5 y6 (hLb.below hA) (hLp.below hA)
  have hu : AllU8 (headB au nu bl pl) := headB_all y1 ⟨by omega, y2.2⟩ (by omega) y4 hub hup
  have hbl : (headB au nu bl pl).length ≤ 300 := headB_le au nu bl pl (by omega) y4 y5 y6
  clear hbn hpn
  have HU : Hid _ := hu
  clear hu
  generalize headB au nu bl pl = B at *
  go_enter Tryd.func49, Tryd.ntmps49
  go_wp2_with fail
  refine hB.mono ?_
  rintro e w1 ⟨v1, rfl, ho1, hb1⟩
  replace hb1 := below_alloc hb1
  obtain ⟨xa, xc, hv, hxl, hx⟩ := owns_form ho1
  subst hv
  clear hxl ho1 hB
  have hP : ∀ p ∈ [(⟨xa, xc, B⟩ : Part)], AllU8 p.bs := by
    intro p hp
    obtain rfl : p = ⟨xa, xc, B⟩ := by simpa using hp
    exact HU.out
  have HP : Hid _ := hP
  clear hP
  go_wp2_with fail
  refine (taggedOf_new 2 [⟨xa, xc, B⟩] _ _ _ _ (by decide) rfl (by simp) (one_part w1 xa _ xc B rfl hx) HP.out).mono ?_
  rintro e w2 ⟨hb2, h9⟩
  rcases h9 with ⟨h9, _⟩ | ⟨_, g, c, rfl, hr, hge⟩
  · simp [psz] at h9; omega
  go_wp2_with fail
  go_ret
  refine ⟨g, c, rfl, ?_, hb1.trans ((below_alloc hb2).mono hb1.size), by rw [size_alloc] at hge; have := hb1.size; omega⟩
  rw [tagD, ← tagTo_part 2 xa xc B]
  exact hr
set_option maxRecDepth 100000 in
theorem rHeaderDigest_in (au nu : Int) (ba : Option Addr) (bn bc : Nat) (bl : List Part) (pa : Option Addr) (pn pc : Nat) (pl : List Part) (w : World) (hbn : bn = bl.length) (hpn : pn = pl.length) (hLb : ListAt w ba bc bl) (hLp : ListAt w pa pc pl) (hub : ∀ p ∈ bl, AllU8 p.bs) (hup : ∀ p ∈ pl, AllU8 p.bs) (hF : headerF au nu bl pl = 0) :
    Calls Tryd.prog 49 #[.agg #[.int .i64 au, .int .i64 nu, .slice ba bn bc, .slice pa pn pc]] w fun e w' => ∃ g c, e = .returned (.slice (some ⟨g, 0, none⟩) 32 c) ∧ SliceAt w' (some ⟨g, 0, none⟩) c (tagD 2 (headB au nu bl pl)) ∧ Below w.heap.size w w' := by
  refine (rHeaderDigest_new au nu ba bn bc bl pa pn pc pl w hbn hpn hLb hLp hub hup hF).mono ?_
  rintro e w' ⟨g, c, h1, h2, h3, _⟩
  exact ⟨g, c, h1, h2, h3⟩
end Go.Proofs.YtgbomdikhidkoaaDoor

namespace Go.Proofs.YtgbomdikhidkoaaDoor
open Go.RowKit

set_option maxRecDepth 100000 in
set_option maxHeartbeats 1000000 in
theorem digestsOf_any (ls : List Ct) (sa : Option Addr) (n cap : Nat) (w : World) (hn : n = ls.length) (hl4 : ls.length ≤ 400) (hc : CertsAt w sa ls) (he : ∀ c ∈ ls, CtRd w c) (hf : ∀ c ∈ ls, c.v.f = 0) :
    Calls Tryd.prog 30 #[.slice sa n cap] w fun e w' => ∃ ra rc ds, e = .returned (.slice ra ls.length rc) ∧ bss ds = (cvs ls).map CV.d ∧ ListAt w' ra rc ds ∧ Below w.heap.size w w' := by
  subst hn
  obtain ⟨i, hi, hz0, hz1, hz2⟩ := info_parts infoBs
  have HE : Hid (∀ c ∈ ls, CtRd w c) := he
  have HF : Hid (∀ c ∈ ls, c.v.f = 0) := hf
  clear he hf
  go_enter Tryd.func30, Tryd.ntmps30
  go_wp2_with fail
  go_loopw [4, 3] (fun j v wr => ∃ (k : Nat) (qs : List Part), k ≤ ls.length ∧ j = .int .i64 k ∧ bss qs = ((cvs ls).map CV.d).take k ∧ wr.ownsRow w.heap.size 29 1 v k (pv qs) ∧ Apart wr w.heap.size v qs ∧ Below w.heap.size w wr) (fun j _ _ => ls.length - (intOf j).toNat)
  case atStart => exact ⟨0, [], Nat.zero_le _, rfl, rfl, World.ownsRow_nil _ _ _ _, (fun p hp => by cases hp), Below.refl _ _⟩
  case round =>
    obtain ⟨k, qs, hk, rfl, hS, ho, hap, hb⟩ := hrel
    by_cases hlt : k < ls.length
    · obtain ⟨sb, so, rfl, c0, c1, c2, c3, _⟩ := (hc.below hb).at k hlt
      have hR := (HE.out (ls[k]) (List.getElem_mem hlt)).below hb
      have hF0 := HF.out (ls[k]) (List.getElem_mem hlt)
      have hH : headerF (ls[k]).au (ls[k]).rd (ls[k]).bl (ls[k]).pl = 0 := certF_head (vl := (ls[k]).vl) (by rw [Ct.f_v]; exact hF0)
      have hst : Hid (((cvs ls).map CV.d).take (k + 1) = ((cvs ls).map CV.d).take k ++ [hDig (ls[k]).au (ls[k]).rd (ls[k]).bl (ls[k]).pl]) := by
        show _ = _
        rw [List.take_succ_eq_append_getElem (by simp [cvs]; exact hlt)]
        simp [cvs, Ct.d_v]
      have hltI : (k : Int) < ls.length := by omega
      clear hF0
      generalize ls[k] = s at *
      have HD := rHeaderDigest_new s.au s.rd s.ba _ s.bc s.bl s.pa _ s.pc s.pl wr rfl rfl hR.rb.list hR.rp.list hR.ub hR.up hH
      clear hR hH
      go_wp2_with fail
      refine HD.mono ?_
      rintro e w2 ⟨g, gc, he, hs2, hb2, hge⟩
      subst he
      dsimp only
      have h32 : (tagD 2 (headB s.au s.rd s.bl s.pl)).length = 32 := tagD_length _ _
      have hob := owns_keep ho hb2
      have hB2 := hb.trans (hb2.mono hb.size)
      have hlt2 : g < w2.heap.size := slice_block_lt hs2 (by intro h; rw [h] at h32; simp at h32) g 0 rfl
      have hst' : Hid (((cvs ls).map CV.d).take (k + 1) = ((cvs ls).map CV.d).take k ++ [tagD 2 (headB s.au s.rd s.bl s.pl)]) := hst
      clear HD hst
      generalize tagD 2 (headB s.au s.rd s.bl s.pl) = D at *
      have H32 : Hid (D.length = 32) := h32
      clear h32
      go_wp2_with (at_builtin; refine wpList_append_own_at _ rfl _ _ 30 rfl w.heap.size 29 i (.slice none 0 0) 1 24 Tryd.underlying30 hi hz0 hz1 hz2 rfl (by decide) _ k _ rfl (World.ownsRow.alloc hob _) ⟨w2.heap.size, 0, none⟩ 1 1 [.slice (some ⟨g, 0, none⟩) 32 gc] rfl rfl (cells_new _ _ _) (by intro u hu; simp at hu; subst hu; rfl) (by unfold maxLen; omega) (by omega) (le_alloc hB2.size _) ?_; intro v1 w3 ho3 hg3 _ hat)
      have G := Grew.of hg3 hat
      have hap3 := hap.more_at (q := ⟨some ⟨g, 0, none⟩, gc, D⟩) hb.size ho hb2 (fun sb so e => by cases e; exact ⟨hge, hlt2⟩) hs2 G
      have hB3 := Below.grown (hB2.alloc hB2.size _) hg3 (le_alloc hB2.size _) (fun q e => (hob.lt q e).1)
      go_roundw
      case rel =>
        have hR : ∃ (k' : Nat) (qs' : List Part), k' ≤ ls.length ∧ (Value.int .i64 ((k : Int) + 1)) = .int .i64 k' ∧ bss qs' = ((cvs ls).map CV.d).take k' ∧ w3.ownsRow w.heap.size 29 1 v1 k' (pv qs') ∧ Apart w3 w.heap.size v1 qs' ∧ Below w.heap.size w w3 :=
          ⟨k + 1, qs ++ [⟨some ⟨g, 0, none⟩, gc, D⟩], by omega, by go_num, by rw [hst'.out, ← hS]; simp [bss], by simpa [pv, Part.val, H32.out] using ho3, hap3, hB3⟩
        first | exact hR | ((repeat apply Exists.intro); exact ⟨hR, rfl⟩)
      case measure => simp [intOf]; omega
    · obtain rfl : k = ls.length := by omega
      rw [List.take_of_length_le (by simp [cvs])] at hS
      obtain ⟨ra, rc, hv, hl, hL, hfr⟩ := listAt_of_owns ho hap
      subst hv
      have HS : Hid _ := hS
      clear hS
      go_wp2_with fail
      go_ret
      exact ⟨ra, rc, qs, rfl, HS.out, hL (by omega), hb⟩
end Go.Proofs.YtgbomdikhidkoaaDoor
