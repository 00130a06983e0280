/- wire.BatchDigest; wire.HeaderDigest is in DigH. -/
import Derived.Test.YtbmodfegcmaieaaDoorRows
import Derived.Test.YtbmodfegcmaieaaDoorK
import Derived.Test.YtbmodfegcmaieaaDoorOrderBatchesM6
import Derived.Lib.LaidTab
import Derived.OpenShut
import Derived.Stop.LaidErr
import Derived.Test.YtbmodfegcmaieaaDoorLib
import Derived.ProofKit
import Derived.Test.YtbmodfegcmaieaaDoorOrderBatchesM24
import Derived.Test.YtbmodfegcmaieaaDoorApp
import Derived.Test.YtbmodfegcmaieaaDoorTagged
import Derived.Test.YtbmodfegcmaieaaDoorOrderBatchesM18
import Derived.Test.YtbmodfegcmaieaaDoorOwnL
import Derived.Test.YtbmodfegcmaieaaDoorStrs
import Derived.Test.YtbmodfegcmaieaaDoorDigH
import Derived.Test.YtbmodfegcmaieaaDoorAppB
namespace Go.Proofs.YtbmodfegcmaieaaDoor
open Go.RowKit

set_option maxRecDepth 100000 in
/-- An array of arrays of integers that reads as a table of rows holds the rows' numbers, cell for cell. -/
theorem cells_of_tab2 {H : Type} {enc : TypeId × Value → H} {P : Program} {w : World} {base : Nat} {sp : Nat → Bool} {held : Bool} {fuel : Nat} {t e i : TypeId} {n m : Nat} {k : IntKind} {cs : List Value} {rows : List (List Int)} {p : List MemPlace}
    (ht : P.underlying t = some (.array n e)) (he : P.underlying e = some (.array m i)) (hi : P.underlying i = some (.int k)) (hci : P.cellsOf i = 1) (hce : P.cellsOf e = m) (hm : 0 < m)
    (h : DataW.trod enc P w base sp held fuel t cs = some (.agg (rows.map (Lib.tabData k)), p)) (q : Nat) (hq : q < n * m) : cs[q]? = ((rows.getD (q / m) []).map (Value.int k))[q % m]? := by
  obtain ⟨xs, f, rfl, hx, hl, hn, hr⟩ := DataW.trod_array ht h
  have hin : q / m < n := Nat.div_lt_of_lt_mul (by rw [Nat.mul_comm]; exact hq)
  have hrow := hr (q / m) hin
  have hxs : xs.map (·.1) = rows.map (Lib.tabData k) := by
    have := congrArg Prod.fst hx
    simpa using this.symm
  have hg : (xs.map (·.1))[q / m]? = some (xs[q / m]'(by omega)).1 := by simp [hn, hin]
  rw [hxs] at hg
  simp only [List.getElem?_map, Option.map_eq_some_iff] at hg
  obtain ⟨r, hr1, hr2⟩ := hg
  rw [List.getElem?_eq_getElem (by omega), hce] at hrow
  have hrow' : DataW.trod enc P w base sp held f e ((cs.drop (q / m * m)).take m) = some (Lib.tabData k r, (xs[q / m]'(by omega)).2) := by
    rw [hrow, hr2]
  have hc := Lib.cells_of_tab he hi hci hce hrow'
  have hj : q % m < m := Nat.mod_lt _ hm
  have e1 : ((cs.drop (q / m * m)).take m)[q % m]? = cs[q]? := by
    rw [List.getElem?_take, if_pos hj, List.getElem?_drop, Nat.mul_comm, Nat.div_add_mod]
  rw [← e1, hc]
  simp [List.getD, hr1]

set_option maxRecDepth 100000 in
theorem tFirst : (Tryd.prog.globals[0]?).map (·.type) = some 142 := by kernel_rfl
set_option maxRecDepth 100000 in
theorem tOrders : (Tryd.prog.globals[1]?).map (·.type) = some 172 := by kernel_rfl
set_option maxRecDepth 100000 in
theorem tLanes : (Tryd.prog.globals[2]?).map (·.type) = some 174 := by kernel_rfl
set_option maxRecDepth 100000 in
theorem cU32 : Tryd.prog.cellsOf 141 = 1 := by kernel_rfl
set_option maxRecDepth 100000 in
theorem c8U32 : Tryd.prog.cellsOf 142 = 8 := by kernel_rfl
set_option maxRecDepth 100000 in
theorem c16U8 : Tryd.prog.cellsOf 171 = 16 := by kernel_rfl
set_option maxRecDepth 100000 in
theorem c4U8 : Tryd.prog.cellsOf 173 = 4 := by kernel_rfl
def ordRows : List (List Int) := [[0, 1, 2, 3, 4, 5, 6, 7, 8, 9, 10, 11, 12, 13, 14, 15], [14, 10, 4, 8, 9, 15, 13, 6, 1, 12, 0, 2, 11, 7, 5, 3], [11, 8, 12, 0, 5, 2, 15, 13, 10, 14, 3, 6, 7, 1, 9, 4], [7, 9, 3, 1, 13, 12, 11, 14, 2, 6, 5, 10, 4, 0, 15, 8], [9, 0, 5, 7, 2, 4, 10, 15, 14, 1, 11, 12, 6, 8, 3, 13], [2, 12, 6, 10, 0, 11, 8, 3, 4, 13, 7, 5, 15, 14, 1, 9], [12, 5, 1, 15, 14, 13, 4, 10, 0, 7, 6, 3, 9, 2, 8, 11], [13, 11, 7, 14, 12, 1, 3, 9, 5, 0, 15, 4, 8, 6, 2, 10], [6, 15, 14, 9, 11, 3, 0, 8, 12, 2, 13, 7, 1, 4, 10, 5], [10, 2, 8, 4, 7, 6, 1, 5, 15, 11, 9, 14, 3, 12, 13, 0]]
def laneRows : List (List Int) := [[0, 4, 8, 12], [1, 5, 9, 13], [2, 6, 10, 14], [3, 7, 11, 15], [0, 5, 10, 15], [1, 6, 11, 12], [2, 7, 8, 13], [3, 4, 9, 14]]
set_option maxRecDepth 100000 in
theorem ordRows_flat : ∀ q, q < 160 → (ordRows.getD (q / 16) [])[q % 16]? = some ((ordF.getD q 0 : Nat) : Int) := by decide +kernel
set_option maxRecDepth 100000 in
theorem laneRows_flat : ∀ q, q < 32 → (laneRows.getD (q / 4) [])[q % 4]? = some ((laneF.getD q 0 : Nat) : Int) := by decide +kernel
set_option maxRecDepth 100000 in
theorem dFirst : Rows.laid_sheaves_blake_firstWords (H := Unit) = Lib.tabData .u32 fw := rfl
set_option maxRecDepth 100000 in
theorem dOrders : Rows.laid_sheaves_blake_orders (H := Unit) = .agg (ordRows.map (Lib.tabData .u8)) := rfl
set_option maxRecDepth 100000 in
theorem dLanes : Rows.laid_sheaves_blake_lanes (H := Unit) = .agg (laneRows.map (Lib.tabData .u8)) := rfl

set_option maxRecDepth 100000 in
theorem tabs_of_laid {W : World} {n1 n2 n3 : String} (gFirst : Tryd.prog.globalNamed n1 = some 0) (gOrders : Tryd.prog.globalNamed n2 = some 1) (gLanes : Tryd.prog.globalNamed n3 = some 2)
    (h : laidMetH Tryd.prog [(n1, Rows.laid_sheaves_blake_firstWords), (n2, Rows.laid_sheaves_blake_orders), (n3, Rows.laid_sheaves_blake_lanes)] W) : Tabs W := by
  have h1 : laidMet Tryd.prog [(n1, Rows.laid_sheaves_blake_firstWords), (n2, Rows.laid_sheaves_blake_orders), (n3, Rows.laid_sheaves_blake_lanes)] W := h
  clear h
  have h2 := h1.tail
  have h3 := h2.tail
  rw [dFirst] at h1
  rw [dOrders] at h2
  rw [dLanes] at h3
  have t1 := Lib.tabIs_of_head gFirst tFirst Tryd.underlying142 Tryd.underlying141 cU32 c8U32 h1
  refine ⟨fun i hi => t1.cell gFirst i hi, fun i hi => ?_, fun i hi => ?_⟩
  · obtain ⟨ps, ⟨g', t', cs, fuel, p, q, hg', ht', hvar, hd, _, _⟩, _⟩ := h2
    obtain rfl := Option.some.inj (gOrders.symm.trans hg')
    obtain rfl := Option.some.inj (tOrders.symm.trans ht')
    have hc := World.var?_cell gOrders hvar i
    have he := cells_of_tab2 Tryd.underlying172 Tryd.underlying171 Tryd.underlying5 cU8 c16U8 (by decide) hd i hi
    rw [hc]
    have := ordRows_flat i hi
    simp only [List.getElem?_map, this, Option.map_some] at he
    simpa using he
  · obtain ⟨ps, ⟨g', t', cs, fuel, p, q, hg', ht', hvar, hd, _, _⟩, _⟩ := h3
    obtain rfl := Option.some.inj (gLanes.symm.trans hg')
    obtain rfl := Option.some.inj (tLanes.symm.trans ht')
    have hc := World.var?_cell gLanes hvar i
    have he := cells_of_tab2 Tryd.underlying174 Tryd.underlying173 Tryd.underlying5 cU8 c4U8 (by decide) hd i hi
    rw [hc]
    have := laneRows_flat i hi
    simp only [List.getElem?_map, this, Option.map_some] at he
    simpa using he
end Go.Proofs.YtbmodfegcmaieaaDoor

namespace Go.Proofs.YtbmodfegcmaieaaDoor
open Go.ChangeShapes Go.WideShapes Go.ChangeAt Go.RowKit

/-- What the initialisers of the three tables lay, in the first blocks. -/
def layBlock (c : Array Value) : Obj → Obj
  | .cells _ t frozen => .cells c t frozen
  | o => o
def layTabs (w : World) : World :=
  { w with heap := ((w.heap.modify 0 (layBlock (ua fw))).modify 1 (layBlock (ub (ordF.map Int.ofNat)).toArray)).modify 2 (layBlock (ub (laneF.map Int.ofNat)).toArray) }
end Go.Proofs.YtbmodfegcmaieaaDoor

namespace Go.Proofs.YtbmodfegcmaieaaDoor
open Go.RowKit

set_option maxRecDepth 100000 in
theorem foldTo_W1 (s v : List Int) (hsw : ∀ z ∈ s, W1 z) (hv : ∀ z ∈ v, W1 z) (n : Nat) : ∀ z ∈ foldTo s v n, W1 z := by
  induction n with
  | zero => exact hsw
  | succ n ih =>
    rw [foldTo]
    exact set_W1 ih n (W1.xor (getD_W1 ih n) (W1.xor (getD_W1 hv n) (getD_W1 hv (n + 8))))
set_option maxRecDepth 100000 in
theorem takeL_W1 (s bs : List Int) (hs : s.length = 8) (hsw : ∀ z ∈ s, W1 z) (n : Int) (hn : W1 n) (last : Bool) : ∀ z ∈ takeL s bs n last, W1 z :=
  foldTo_W1 s _ hsw (roundsTo_W1 _ _ (spreadL_length s hs n last) (spreadL_W1 s hs hsw n hn last) 10) 8
set_option maxRecDepth 100000 in
theorem beginL_eq : fw.set 0 (bits .xor .i64 (fw.getD 0 0) 16842784) = beginL := by decide +kernel
set_option maxRecDepth 100000 in
theorem beginL_W1 : ∀ z ∈ beginL, W1 z := by unfold W1; decide +kernel
set_option maxRecDepth 100000 in
theorem sumTo_W1 (bs : List Int) (k : Nat) (hk : k ≤ 1000) : ∀ z ∈ sumTo bs k, W1 z := by
  induction k with
  | zero => exact beginL_W1
  | succ k ih => exact takeL_W1 _ _ (sumTo_length bs k) (ih (by omega)) _ ⟨by omega, by omega⟩ false
set_option maxRecDepth 100000 in
theorem dig_get (s : List Int) (k i : Nat) (h : i < 4 * k) : (digTo s k).getD i 0 = s.getD (i / 4) 0 / 2 ^ (8 * (i % 4)) % 256 := by
  induction k with
  | zero => omega
  | succ k ih =>
    have hl := digTo_length s k
    rw [digTo]
    by_cases hi : i < 4 * k
    · rw [← ih hi]
      simp [List.getD, List.getElem?_append, hl, hi]
    · have hq : i / 4 = k := by omega
      have hr : i = 4 * k ∨ i = 4 * k + 1 ∨ i = 4 * k + 2 ∨ i = 4 * k + 3 := by omega
      rw [hq]
      rcases hr with rfl | rfl | rfl | rfl
      · simp [List.getD, hl]
      · rw [show (4 * k + 1) % 4 = 1 by omega]; simp [List.getD, hl]
      · rw [show (4 * k + 2) % 4 = 2 by omega]; simp [List.getD, hl]
      · rw [show (4 * k + 3) % 4 = 3 by omega]; simp [List.getD, hl]

set_option maxRecDepth 100000 in
set_option maxHeartbeats 4000000 in
theorem digested_any (bs : List Int) (sa : Option Addr) (n cap : Nat) (w : World) (hn : n = bs.length) (hl : bs.length ≤ 4000) (hs : SliceAt w sa cap bs) (hu : AllU8 bs) :
    Calls Tryd.prog 70 #[.slice sa n cap] w fun e w' => ∃ g c, e = .returned (.slice (some ⟨g, 0, none⟩) 32 c) ∧ Below w.heap.size w w' ∧ w'.ownsRow w.heap.size 5 1 (.slice (some ⟨g, 0, none⟩) 32 c) 32 (ub (sumL bs)) := by
  subst hn
  obtain ⟨i, hi, hz0, hz1, hz2⟩ := info_parts infoInt
  obtain ⟨iu, hui, hu0, hu1, hu2⟩ := info_parts infoU8
  go_enter Tryd.func70, Tryd.ntmps70
  go_wp2_with fail
  go_loopw [4, 3] (fun j v wr => ∃ k : Nat, k ≤ 8 ∧ j = .int .i64 k ∧ Below w.heap.size w wr ∧ wr.ownsRow w.heap.size 3 1 v k (ia (fw.take k))) (fun j _ _ => 8 - (intOf j).toNat)
  case atStart => exact ⟨0, Nat.zero_le _, rfl, Below.refl _ _, World.ownsRow_nil _ _ _ _⟩
  case round =>
    obtain ⟨k, hk, rfl, hb, ho⟩ := hrel
    by_cases hlt : k < 8
    · have hltI : (k : Int) < 8 := by omega
      have hst : Hid (fw.take (k + 1) = fw.take k ++ [fw.getD k 0]) := by
        show _ = _
        have hf : k < fw.length := hlt
        rw [List.take_succ_eq_append_getElem hf]
        simp [List.getD, hf]
      go_wp2_with fail
      refine (firstWord_any k hlt _).mono ?_
      rintro e w3 ⟨rfl, hb3⟩
      have ho3 := owns_below' ho hb3
      have hB3 := hb.trans (hb3.mono hb.size)
      generalize fw.getD k 0 = x at hst ⊢
      go_wp2_with (at_builtin; refine wpList_append_own _ rfl _ _ 61 rfl w.heap.size 3 i (.int .i64 0) 1 8 Tryd.underlying61 hi hz0 hz1 hz2 rfl (by decide) _ k _ rfl (World.ownsRow.alloc ho3 _) ⟨w3.heap.size, 0, none⟩ 1 1 [.int .i64 x] rfl rfl (cells_new _ _ _) (i64_one [_]) (by unfold maxLen; omega) (by omega) (le_alloc hB3.size _) ?_; intro v1 w2 ho1 hg1 _)
      have hb2 := Below.grown (hB3.alloc hB3.size _) hg1 (le_alloc hB3.size _) (fun q e => (ho3.lt q e).1)
      go_roundw
      case rel =>
        have hR : ∃ k' : Nat, k' ≤ 8 ∧ (Value.int .i64 ((k : Int) + 1)) = .int .i64 k' ∧ Below w.heap.size w w2 ∧ w2.ownsRow w.heap.size 3 1 v1 k' (ia (fw.take k')) :=
          ⟨k + 1, by omega, by go_num, hb2, by rw [hst.out, ia_app]; exact ho1⟩
        first | exact hR | ((repeat apply Exists.intro); exact ⟨hR, rfl⟩)
      case measure => simp [intOf]; omega
    · obtain rfl : k = 8 := by omega
      rw [fw_take] at ho
      have hf : ∃ g c, u3 = .slice (some ⟨g, 0, none⟩) 8 c := by
        rcases ho.2 with ⟨_, h0⟩ | ⟨g, c, cur, rfl, _⟩
        · cases h0
        · exact ⟨g, c, rfl⟩
      obtain ⟨g, c, hv⟩ := hf
      subst hv
      have c0 := (World.ownsRow.cellAt ho 0 (by omega)).trans (ia_get _ _ (by decide))
      have f0 := World.ownsRow.frozenAt ho 0
      have hst := World.ownsRow.stored ho 0 (.int .i64 (bits .xor .i64 (fw.getD 0 0) 16842784))
      rw [ia_set, beginL_eq] at hst
      have Hst : Hid ((wr.setCell ⟨g, 0, none⟩ (.int .i64 (bits .xor .i64 (fw.getD 0 0) 16842784))).ownsRow w.heap.size 3 1 (.slice (some ⟨g, 0, none⟩) 8 c) 8 (ia beginL) ∧ wr.grownBy (wr.setCell ⟨g, 0, none⟩ (.int .i64 (bits .xor .i64 (fw.getD 0 0) 16842784))) (some g)) := hst
      have hgw : w.heap.size ≤ g := (ho.lt _ rfl).1
      clear hst
      generalize fw.getD 0 0 = x at *
      go_wp2_with fail
      go_loopw [5, 3] (fun j v wq => ∃ (k d g c : Nat), j = .int .i64 d ∧ v = .slice (some ⟨g, 0, none⟩) 8 c ∧ Hid (d = 64 * k) ∧ (d < bs.length ∨ d = 0) ∧ Below w.heap.size w wq ∧ wq.ownsRow w.heap.size 3 1 (.slice (some ⟨g, 0, none⟩) 8 c) 8 (ia (sumTo bs k))) (fun j _ _ => bs.length - (intOf j).toNat)
      case atStart => exact ⟨0, 0, g, c, rfl, rfl, rfl, .inr rfl, hb.trans (below_of_grown Hst.out.2 hb.size hgw), Hst.out.1⟩
      case round =>
        clear Hst ho c0 f0 hb hgw
        obtain ⟨k, d, g, c, rfl, rfl, hd, hdl, hb, ho⟩ := hrel
        have hgw : g < wr.heap.size := (ho.lt _ rfl).2
        have hSl := sumTo_length bs k
        have hSw := sumTo_W1 bs k (by have := hd.out; omega)
        have hcs : ∀ j, j < 8 → wr.cell? ⟨g, j, none⟩ = some (.int .i64 ((sumTo bs k).getD j 0)) := fun j hj => (World.ownsRow.cellAt ho j (by omega)).trans (ia_get _ _ (by rw [hSl]; exact hj))
        have hub : ∀ l : List Int, (∀ x ∈ l, x ∈ bs) → ∀ j, 0 ≤ l.getD j 0 ∧ l.getD j 0 ≤ 255 := fun l hx j => by
          rcases Nat.lt_or_ge j l.length with q | q
          · rw [List.getD, List.getElem?_eq_getElem q]; exact hu _ (hx _ (List.getElem_mem q))
          · rw [List.getD, List.getElem?_eq_none q]; exact ⟨by decide, by decide⟩
        by_cases hlt : d + 64 < bs.length
        · obtain ⟨sb, so, rfl⟩ : ∃ sb so, sa = some ⟨sb, so, none⟩ := by
            rcases hs.some with h0 | h0
            · have := hs.le; omega
            · exact h0
          have hltI : (64 : Int) < (bs.length : Int) - d := by omega
          have hm : W1 ((d : Int) + 64) := ⟨by omega, by omega⟩
          have hcut : BytesAt w (some ⟨sb, so + d, none⟩) ((bs.drop d).take 64) := hs.bytes.cut d 64
          have hcl : Hid (64 = ((bs.drop d).take 64).length) := by show _ = _; simp; omega
          have hu1 := hub ((bs.drop d).take 64) (fun x hx => List.mem_of_mem_drop (List.mem_of_mem_take hx))
          have hs1 : Hid (sumTo bs (k + 1) = takeL (sumTo bs k) ((bs.drop d).take 64) ((d : Int) + 64) false) := by
            have hd' := hd.out
            have e : ((64 * k + 64 : Nat) : Int) = (d : Int) + 64 := by omega
            show _ = _
            rw [sumTo, e, ← hd']
          have hdc : (d : Int) + 64 ≤ cap := by have := hs.le; omega
          generalize sumTo bs k = S at *
          go_wp2_with fail
          refine (taken_any S ((bs.drop d).take 64) g c _ _ _ _ _ _ hcl.out hSl hSw (by simp; omega) (hcut.below' hb) hu1 hm hcs).mono ?_
          rintro e w2 ⟨g2, c2, rfl, hb2, ho2⟩
          go_wp2_with fail
          go_roundw
          case rel =>
            have hR : ∃ (k' d' g' c' : Nat), (Value.int .i64 ((d : Int) + 64)) = .int .i64 d' ∧ (Value.slice (some ⟨g2, 0, none⟩) 8 c2) = .slice (some ⟨g', 0, none⟩) 8 c' ∧ Hid (d' = 64 * k') ∧ (d' < bs.length ∨ d' = 0) ∧ Below w.heap.size w w2 ∧ w2.ownsRow w.heap.size 3 1 (.slice (some ⟨g', 0, none⟩) 8 c') 8 (ia (sumTo bs k')) :=
              ⟨k + 1, d + 64, g2, c2, by go_num, rfl, by rw [hd.out]; exact (Nat.mul_succ 64 k).symm, .inl (by omega), hb.trans (hb2.mono hb.size), by rw [hs1.out]; exact ownsRow_base ho2 hb.size⟩
            first | exact hR | ((repeat apply Exists.intro); exact ⟨hR, rfl⟩)
          case measure => simp [intOf]; omega
        · have hk : k = fullB bs.length := by
            have := hd.out
            unfold fullB
            omega
          have hltI : ¬ (64 : Int) < (bs.length : Int) - d := by omega
          have hfin : Hid (sumL bs = digTo (takeL (sumTo bs k) (bs.drop d) (bs.length : Int) true) 8) := by
            show _ = _
            rw [sumL, ← hk, ← hd.out]
          have hby : BytesAt w (sa.map fun a => ⟨a.block, a.off + d, none⟩) (bs.drop d) := by
            rcases hs.bytes with hc | ⟨sb, so, rfl, hc⟩
            · exact .inl (by rw [hc]; simp)
            · have := BytesAt.cut (.inr ⟨sb, so, rfl, hc⟩) d (bs.length)
              rwa [List.take_of_length_le (by simp)] at this
          have hcl : Hid (bs.length - d = (bs.drop d).length) := by show _ = _; simp
          have hv1 := hub (bs.drop d) (fun x hx => List.mem_of_mem_drop hx)
          have hm : W1 (bs.length : Int) := ⟨by omega, by omega⟩
          have hlen : (bs.drop d).length ≤ 64 := by simp; omega
          have hdc : (d : Int) ≤ bs.length := by omega
          have hTl := takeL_length (sumTo bs k) (bs.drop d) (bs.length : Int) true
          have hTw := takeL_W1 (sumTo bs k) (bs.drop d) hSl hSw (bs.length : Int) hm true
          rw [hSl] at hTl
          clear hk
          generalize sumTo bs k = S at *
          go_upto_region 11 with (fail)
          go_cut [3] (fun v wx => ∃ g2 c2, v = .slice (some ⟨g2, 0, none⟩) 8 c2 ∧ Below w.heap.size w wx ∧ wx.ownsRow w.heap.size 3 1 (.slice (some ⟨g2, 0, none⟩) 8 c2) 8 (ia (takeL S (bs.drop d) (bs.length : Int) true)))
          case first =>
            cases sa with
            | none =>
              obtain rfl := hs.nil rfl
              obtain rfl : bs = [] := List.eq_nil_of_length_eq_zero (by have := hs.le; omega)
              obtain rfl : d = 0 := by simpa using hdl
              go_wp2_with fail
              refine (taken_any S _ g c _ _ _ _ _ _ rfl hSl hSw hlen (.inl rfl) hv1 hm hcs).mono ?_
              rintro e w2 ⟨g2, c2, rfl, hb2, ho2⟩
              go_wp2_with fail
              go_meet
              case rel => exact ⟨g2, c2, rfl, hb.trans (hb2.mono hb.size), ownsRow_base ho2 hb.size⟩
            | some a =>
              by_cases hc0 : cap = 0
              · subst hc0
                obtain rfl : bs = [] := List.eq_nil_of_length_eq_zero (by have := hs.le; omega)
                obtain rfl : d = 0 := by simpa using hdl
                go_wp2_with fail
                refine (taken_any S _ g c _ _ _ _ _ _ rfl hSl hSw hlen (.inl rfl) hv1 hm hcs).mono ?_
                rintro e w2 ⟨g2, c2, rfl, hb2, ho2⟩
                go_wp2_with fail
                go_meet
                case rel => exact ⟨g2, c2, rfl, hb.trans (hb2.mono hb.size), ownsRow_base ho2 hb.size⟩
              · obtain ⟨sb, so, ha⟩ : ∃ sb so, some a = some (⟨sb, so, none⟩ : Addr) := by
                  rcases hs.some with h0 | h0
                  · exact absurd h0 hc0
                  · exact h0
                cases ha
                have hl9 := hs.le
                have hdc2 : (d : Int) < cap := by omega
                have hn1 : ¬ d = cap := by omega
                have hn2 : ¬ cap = d := by omega
                have hn3 : ¬ (d : Int) = cap := by omega
                go_wp2_with fail
                refine (taken_any S _ g c _ _ _ _ _ _ hcl.out hSl hSw hlen (hby.below' hb) hv1 hm hcs).mono ?_
                rintro e w2 ⟨g2, c2, rfl, hb2, ho2⟩
                go_wp2_with fail
                go_meet
                case rel => exact ⟨g2, c2, rfl, hb.trans (hb2.mono hb.size), ownsRow_base ho2 hb.size⟩
          case rest =>
            obtain ⟨g2, c2, rfl, hb3, ho2⟩ := hcut
            clear ho hcs hSl hSw hv1 hb hcl hlen hub hu hby hs hgw
            generalize takeL S (bs.drop d) (bs.length : Int) true = T at *
            have hg2 : g2 < wc.heap.size := (ho2.lt _ rfl).2
            have hcs : ∀ j, j < 8 → wc.cell? ⟨g2, j, none⟩ = some (.int .i64 (T.getD j 0)) := fun j hj => (World.ownsRow.cellAt ho2 j (by omega)).trans (ia_get _ _ (by rw [hTl]; exact hj))
            obtain ⟨B, hB⟩ : ∃ B, B = wc.heap.size := ⟨_, rfl⟩
            have hwB : w.heap.size ≤ B := by rw [hB]; exact hb3.size
            have hgB : g2 < B := by rw [hB]; exact hg2
            go_wp2_with fail
            go_loopw [7, 6] (fun j v wq => ∃ k : Nat, k ≤ 32 ∧ j = .int .i64 k ∧ Below w.heap.size w wq ∧ B ≤ wq.heap.size ∧ (∀ j, j < 8 → wq.cell? ⟨g2, j, none⟩ = some (.int .i64 (T.getD j 0))) ∧ wq.ownsRow B 5 1 v k (ub ((digTo T 8).take k))) (fun j _ _ => 32 - (intOf j).toNat)
            case atStart => exact ⟨0, Nat.zero_le _, rfl, hb3, by omega, hcs, World.ownsRow_nil _ _ _ _⟩
            case round =>
              clear hcs hb3 hB ho2 hg2
              obtain ⟨k, hk, rfl, hb, hBs, hcs, ho⟩ := hrel
              by_cases hk32 : k < 32
              · have hkI : (k : Int) < 32 := by omega
                have ck := hcs (k / 4) (by omega)
                obtain ⟨hx0, hx1⟩ := getD_W1 hTw (k / 4)
                have hst : Hid ((digTo T 8).take (k + 1) = (digTo T 8).take k ++ [T.getD (k / 4) 0 / 2 ^ (8 * (k % 4)) % 256]) := by
                  show _ = _
                  have hlk : k < (digTo T 8).length := by rw [digTo_length]; exact hk32
                  rw [List.take_succ_eq_append_getElem hlk, ← dig_get T 8 k (by omega)]
                  simp [List.getD, hlk]
                have Hcs : Hid (∀ j, j < 8 → wr.cell? ⟨g2, j, none⟩ = some (.int .i64 (T.getD j 0))) := hcs
                clear hcs
                generalize T.getD (k / 4) 0 = x at ck hst hx0 hx1
                have hr : k % 4 = 0 ∨ k % 4 = 1 ∨ k % 4 = 2 ∨ k % 4 = 3 := by omega
                have hqI : (k : Int) / 4 < 8 := by omega
                have hqt : ((k : Int) / 4).toNat = k / 4 := by omega
                rcases hr with hr | hr | hr | hr
                · have hrI : (k : Int) % 4 = ((k % 4 : Nat) : Int) := by omega
                  rw [hr] at hrI hst
                  simp only [Nat.reduceMul, Int.reducePow] at hst
                  rw [Int.ediv_one] at hst
                  clear hr
                  go_wp2_with (at_builtin; refine wpList_append_own _ rfl _ _ 46 rfl B 5 iu (.int .u8 0) 1 1 Tryd.underlying46 hui hu0 hu1 hu2 rfl (by decide) _ k _ rfl (World.ownsRow.alloc ho _) ⟨wr.heap.size, 0, none⟩ 1 1 [.int .u8 (x % 256)] rfl rfl (cells_new _ _ _) (u8_one [_]) (by unfold maxLen; omega) (by omega) (le_alloc hBs _) ?_; intro v1 w2 ho1 hg1 _)
                  have hbB := Below.grown ((Below.refl B wr).alloc hBs _) hg1 (le_alloc hBs _) (fun q e => (ho.lt q e).1)
                  go_roundw
                  case rel =>
                    have hR : ∃ k' : Nat, k' ≤ 32 ∧ (Value.int .i64 ((k : Int) + 1)) = .int .i64 k' ∧ Below w.heap.size w w2 ∧ B ≤ w2.heap.size ∧ (∀ j, j < 8 → w2.cell? ⟨g2, j, none⟩ = some (.int .i64 (T.getD j 0))) ∧ w2.ownsRow B 5 1 v1 k' (ub ((digTo T 8).take k')) :=
                      ⟨k + 1, by omega, by go_num, hb.trans (hbB.mono hwB), Nat.le_trans hBs hbB.size, fun j hj => (hbB.cell (p := ⟨g2, j, none⟩) hgB).trans (Hcs.out j hj), by rw [hst.out]; simpa [ub] using ho1⟩
                    first | exact hR | ((repeat apply Exists.intro); exact ⟨hR, rfl⟩)
                  case measure => simp [intOf]; omega
                · have hrI : (k : Int) % 4 = ((k % 4 : Nat) : Int) := by omega
                  rw [hr] at hrI hst
                  simp only [Nat.reduceMul, Int.reducePow] at hst
                  clear hr
                  go_wp2_with (at_builtin; refine wpList_append_own _ rfl _ _ 46 rfl B 5 iu (.int .u8 0) 1 1 Tryd.underlying46 hui hu0 hu1 hu2 rfl (by decide) _ k _ rfl (World.ownsRow.alloc ho _) ⟨wr.heap.size, 0, none⟩ 1 1 [.int .u8 (x / 256 % 256)] rfl rfl (cells_new _ _ _) (u8_one [_]) (by unfold maxLen; omega) (by omega) (le_alloc hBs _) ?_; intro v1 w2 ho1 hg1 _)
                  have hbB := Below.grown ((Below.refl B wr).alloc hBs _) hg1 (le_alloc hBs _) (fun q e => (ho.lt q e).1)
                  go_roundw
                  case rel =>
                    have hR : ∃ k' : Nat, k' ≤ 32 ∧ (Value.int .i64 ((k : Int) + 1)) = .int .i64 k' ∧ Below w.heap.size w w2 ∧ B ≤ w2.heap.size ∧ (∀ j, j < 8 → w2.cell? ⟨g2, j, none⟩ = some (.int .i64 (T.getD j 0))) ∧ w2.ownsRow B 5 1 v1 k' (ub ((digTo T 8).take k')) :=
                      ⟨k + 1, by omega, by go_num, hb.trans (hbB.mono hwB), Nat.le_trans hBs hbB.size, fun j hj => (hbB.cell (p := ⟨g2, j, none⟩) hgB).trans (Hcs.out j hj), by rw [hst.out]; simpa [ub] using ho1⟩
                    first | exact hR | ((repeat apply Exists.intro); exact ⟨hR, rfl⟩)
                  case measure => simp [intOf]; omega
                · have hrI : (k : Int) % 4 = ((k % 4 : Nat) : Int) := by omega
                  rw [hr] at hrI hst
                  simp only [Nat.reduceMul, Int.reducePow] at hst
                  clear hr
                  go_wp2_with (at_builtin; refine wpList_append_own _ rfl _ _ 46 rfl B 5 iu (.int .u8 0) 1 1 Tryd.underlying46 hui hu0 hu1 hu2 rfl (by decide) _ k _ rfl (World.ownsRow.alloc ho _) ⟨wr.heap.size, 0, none⟩ 1 1 [.int .u8 (x / 65536 % 256)] rfl rfl (cells_new _ _ _) (u8_one [_]) (by unfold maxLen; omega) (by omega) (le_alloc hBs _) ?_; intro v1 w2 ho1 hg1 _)
                  have hbB := Below.grown ((Below.refl B wr).alloc hBs _) hg1 (le_alloc hBs _) (fun q e => (ho.lt q e).1)
                  go_roundw
                  case rel =>
                    have hR : ∃ k' : Nat, k' ≤ 32 ∧ (Value.int .i64 ((k : Int) + 1)) = .int .i64 k' ∧ Below w.heap.size w w2 ∧ B ≤ w2.heap.size ∧ (∀ j, j < 8 → w2.cell? ⟨g2, j, none⟩ = some (.int .i64 (T.getD j 0))) ∧ w2.ownsRow B 5 1 v1 k' (ub ((digTo T 8).take k')) :=
                      ⟨k + 1, by omega, by go_num, hb.trans (hbB.mono hwB), Nat.le_trans hBs hbB.size, fun j hj => (hbB.cell (p := ⟨g2, j, none⟩) hgB).trans (Hcs.out j hj), by rw [hst.out]; simpa [ub] using ho1⟩
                    first | exact hR | ((repeat apply Exists.intro); exact ⟨hR, rfl⟩)
                  case measure => simp [intOf]; omega
                · have hrI : (k : Int) % 4 = ((k % 4 : Nat) : Int) := by omega
                  rw [hr] at hrI hst
                  simp only [Nat.reduceMul, Int.reducePow] at hst
                  rw [show x / 16777216 % 256 = x / 16777216 by omega] at hst
                  clear hr
                  go_wp2_with (at_builtin; refine wpList_append_own _ rfl _ _ 46 rfl B 5 iu (.int .u8 0) 1 1 Tryd.underlying46 hui hu0 hu1 hu2 rfl (by decide) _ k _ rfl (World.ownsRow.alloc ho _) ⟨wr.heap.size, 0, none⟩ 1 1 [.int .u8 (x / 16777216)] rfl rfl (cells_new _ _ _) (u8_one [_]) (by unfold maxLen; omega) (by omega) (le_alloc hBs _) ?_; intro v1 w2 ho1 hg1 _)
                  have hbB := Below.grown ((Below.refl B wr).alloc hBs _) hg1 (le_alloc hBs _) (fun q e => (ho.lt q e).1)
                  go_roundw
                  case rel =>
                    have hR : ∃ k' : Nat, k' ≤ 32 ∧ (Value.int .i64 ((k : Int) + 1)) = .int .i64 k' ∧ Below w.heap.size w w2 ∧ B ≤ w2.heap.size ∧ (∀ j, j < 8 → w2.cell? ⟨g2, j, none⟩ = some (.int .i64 (T.getD j 0))) ∧ w2.ownsRow B 5 1 v1 k' (ub ((digTo T 8).take k')) :=
                      ⟨k + 1, by omega, by go_num, hb.trans (hbB.mono hwB), Nat.le_trans hBs hbB.size, fun j hj => (hbB.cell (p := ⟨g2, j, none⟩) hgB).trans (Hcs.out j hj), by rw [hst.out]; simpa [ub] using ho1⟩
                    first | exact hR | ((repeat apply Exists.intro); exact ⟨hR, rfl⟩)
                  case measure => simp [intOf]; omega
              · obtain rfl : k = 32 := by omega
                rw [List.take_of_length_le (by rw [digTo_length]; omega)] at ho
                have hf : ∃ g c, u6 = .slice (some ⟨g, 0, none⟩) 32 c := by
                  rcases ho.2 with ⟨_, h0⟩ | ⟨g, c, cur, rfl, _⟩
                  · cases h0
                  · exact ⟨g, c, rfl⟩
                obtain ⟨g9, c9, hv⟩ := hf
                subst hv
                go_wp2_with fail
                go_ret
                refine ⟨g9, c9, rfl, hb, ?_⟩
                rw [hfin.out]
                exact ownsRow_base ho hwB
end Go.Proofs.YtbmodfegcmaieaaDoor

namespace Go.Proofs.YtbmodfegcmaieaaDoor
open Go.RowKit

set_option maxRecDepth 100000 in
theorem psz_le (ps : List Part) (k : Nat) (hk : k ≤ ps.length) : psz ps k ≤ psz ps ps.length := psz_mono ps k ps.length hk
set_option maxRecDepth 100000 in
theorem psz_two (ps : List Part) (k : Nat) : 2 * k ≤ psz ps k := by
  induction k with
  | zero => exact Nat.le_refl _
  | succ k ih => simp [psz]; omega
set_option maxRecDepth 100000 in
theorem getD_bs {ps qs : List Part} (h : Same ps qs) (k : Nat) : (ps.getD k ⟨none, 0, []⟩).bs = (qs.getD k ⟨none, 0, []⟩).bs := by
  have hk : (ps.map (·.bs))[k]? = (qs.map (·.bs))[k]? := by rw [h]
  simp only [List.getElem?_map] at hk
  simp only [List.getD]
  cases h1 : ps[k]? <;> cases h2 : qs[k]? <;> simp_all
set_option maxRecDepth 100000 in
theorem psz_same {ps qs : List Part} (h : Same ps qs) (k : Nat) : psz ps k = psz qs k := by
  induction k with
  | zero => rfl
  | succ k ih => rw [psz, psz, ih, getD_bs h]
set_option maxRecDepth 100000 in
theorem tagTo_same (tag : Int) {ps qs : List Part} (h : Same ps qs) (k : Nat) : tagTo tag ps k = tagTo tag qs k := by
  induction k with
  | zero => rfl
  | succ k ih => rw [tagTo, tagTo, ih, getD_bs h]
set_option maxRecDepth 100000 in
theorem tagTo_u8 (tag : Int) (ps : List Part) (ht : 0 ≤ tag ∧ tag ≤ 255) (hu : ∀ p ∈ ps, AllU8 p.bs) (k : Nat) (hk : k ≤ ps.length) : AllU8 (tagTo tag ps k) := by
  induction k with
  | zero => intro x hx; simp [tagTo] at hx; subst hx; exact ht
  | succ k ih =>
    have hlt : k < ps.length := by omega
    have hp : ps.getD k ⟨none, 0, []⟩ = ps[k] := by simp [hlt]
    intro x hx
    rw [tagTo, hp] at hx
    rcases List.mem_append.1 hx with hx | hx
    · rcases List.mem_append.1 hx with hx | hx
      · exact ih (by omega) x hx
      · simp at hx
        omega
    · exact hu _ (List.getElem_mem hlt) x hx

set_option maxRecDepth 100000 in
set_option maxHeartbeats 2000000 in
theorem taggedOf_new (tag : Int) (ps : List Part) (sa : Option Addr) (n cap : Nat) (w : World) (ht : 0 ≤ tag ∧ tag ≤ 255) (hn : n = ps.length) (hm : n ≤ 9000000000000000000) (hp : PartsAt w sa ps) (hu : ∀ p ∈ ps, AllU8 p.bs) :
    Calls Tryd.prog 52 #[.int .u8 tag, .slice sa n cap] w fun e w' => Below w.heap.size w w' ∧ ((4000 < 1 + psz ps ps.length ∧ e = .returned (.tuple #[.slice none 0 0, .int .i64 1])) ∨ (1 + psz ps ps.length ≤ 4000 ∧ ∃ g c, e = .returned (.tuple #[.slice (some ⟨g, 0, none⟩) 32 c, .int .i64 0]) ∧ SliceAt w' (some ⟨g, 0, none⟩) c (sumL (tagTo tag ps ps.length)) ∧ w.heap.size ≤ g)) := by
  subst hn
  obtain ⟨i, hi, hz0, hz1, hz2⟩ := info_parts infoU8
  have hlit := World.ownsRow_lit (base := w.heap.size) (e := 5) (size := 1) w (ub [tag]).toArray 1 (Nat.le_refl _) (by decide) rfl
  go_enter Tryd.func52, Tryd.ntmps52
  go_wp2_with fail
  go_loopw [7, 6] (fun j v wr => ∃ k : Nat, k ≤ ps.length ∧ j = .int .i64 k ∧ 1 + psz ps k ≤ 4000 ∧ Below w.heap.size w wr ∧ wr.ownsRow w.heap.size 5 1 v (1 + psz ps k) (ub (tagTo tag ps k))) (fun j _ _ => ps.length - (intOf j).toNat)
  case atStart => exact ⟨0, Nat.zero_le _, rfl, by simp [psz], (Below.refl _ _).alloc (Nat.le_refl _) _, hlit⟩
  case round =>
    clear hlit
    obtain ⟨k, hk, rfl, hz, hb, ho⟩ := hrel
    obtain ⟨xa, xc, hv, hxl, hxs⟩ := owns_form ho
    subst hv
    by_cases hlt : k < ps.length
    · have hpw := hp.below hb
      obtain ⟨sb, so, rfl, hc⟩ : ∃ sb so, sa = some ⟨sb, so, none⟩ ∧ ∀ j (h : j < ps.length), wr.cell? ⟨sb, so + j, none⟩ = some (.slice (ps[j]).sa (ps[j]).bs.length (ps[j]).cap) := by
        rcases hpw.cells with h | h
        · rw [h] at hlt; simp at hlt
        · exact h
      have ck := hc k hlt
      have hx := hpw.each (ps[k]) (List.getElem_mem hlt)
      have hxw := hp.each (ps[k]) (List.getElem_mem hlt)
      have hsb : sb < w.heap.size := by
        rcases hp.cells with h | ⟨sb', so', e, h⟩
        · rw [h] at hlt; simp at hlt
        · cases e; exact block_lt_of_cell (h k hlt)
      have hg : ps.getD k ⟨none, 0, []⟩ = ps[k] := by simp [hlt]
      have h2 : Hid (psz ps (k + 1) = psz ps k + (2 + (ps[k]).bs.length)) := by show _ = _; rw [psz, hg]
      have h3 : Hid (tagTo tag ps (k + 1) = tagTo tag ps k ++ [((ps[k]).bs.length : Int) / 256 % 256, ((ps[k]).bs.length : Int) % 256] ++ (ps[k]).bs) := by show _ = _; rw [tagTo, hg]
      have h4 := psz_le ps (k + 1) hlt
      rw [h2.out] at h4
      have hltI : (k : Int) < ps.length := by omega
      have hxm : (ps[k]).bs.length ≤ 9223372036854775807 := Nat.le_trans hx.le hx.max
      clear hc hg hxl
      generalize ps[k] = p at *
      have Hs : Hid (SliceAt wr xa xc (tagTo tag ps k)) := hxs
      clear hxs
      generalize hZ : psz ps ps.length = Z at *
      have hlT := tagTo_length tag ps k
      generalize tagTo tag ps k = T at *
      generalize psz ps k = z at *
      by_cases hA : 4000 < p.bs.length
      · have hAI : (4000 : Int) < p.bs.length := by omega
        have hbig : Hid (4000 < 1 + Z) := by show _ < _; omega
        clear h2 h3
        go_wp2_with fail
        go_ret2
        exact ⟨hb, .inl ⟨by first | exact hbig.out | (rw [hZ]; exact hbig.out), rfl⟩⟩
      · have hAI : ¬ (4000 : Int) < p.bs.length := by omega
        by_cases hB : 4000 < 1 + z + 2 + p.bs.length
        · have hBI : (4000 : Int) < (1 + z : Nat) + 2 + (p.bs.length : Int) := by omega
          have hbig : Hid (4000 < 1 + Z) := by show _ < _; omega
          clear h2 h3
          go_wp2_with fail
          go_ret2
          exact ⟨hb, .inl ⟨by first | exact hbig.out | (rw [hZ]; exact hbig.out), rfl⟩⟩
        · have hBI : ¬ (4000 : Int) < (1 + z : Nat) + 2 + (p.bs.length : Int) := by omega
          go_wp2_with (at_builtin; refine wpList_append_own _ rfl _ _ 46 rfl w.heap.size 5 i (.int .u8 0) 1 1 Tryd.underlying46 hi hz0 hz1 hz2 rfl (by decide) _ (1 + z) _ rfl (World.ownsRow.alloc ho _) ⟨wr.heap.size, 0, none⟩ 2 2 [.int .u8 ((p.bs.length : Int) / 256), .int .u8 ((p.bs.length : Int) % 256)] rfl rfl (cells_new _ _ _) (u8_one [_, _]) (by unfold maxLen; omega) (by omega) (le_alloc hb.size _) ?_; intro v1 w2 ho1 hg1 _; have hbr := Below.grown ((Below.refl w.heap.size wr).alloc hb.size _) hg1 (le_alloc hb.size _) (fun q e => (ho.lt q e).1); have ck2 := (hbr.cell (p := ⟨sb, so + k, none⟩) hsb).trans ck)
          have hb2 := hb.trans hbr
          have ho1' : w2.ownsRow w.heap.size 5 1 v1 (1 + z + 2) (ub (T ++ [(p.bs.length : Int) / 256, (p.bs.length : Int) % 256])) := by simpa [ub] using ho1
          obtain ⟨ya, yc, hv, hyl, hy⟩ := owns_form ho1'
          subst hv
          have e1 : (p.bs.length : Int) / 256 % 256 = (p.bs.length : Int) / 256 := by omega
          refine (joined_any (T ++ [(p.bs.length : Int) / 256, (p.bs.length : Int) % 256]) p.bs ya p.sa _ _ yc p.cap w2 hyl rfl hy (hxw.below hb2) (by simp; omega)).mono ?_
          rintro e w3 ⟨v3, he, ho3, hb3⟩
          subst he
          dsimp only
          have hlen : (T ++ [(p.bs.length : Int) / 256, (p.bs.length : Int) % 256]).length + p.bs.length = 1 + psz ps (k + 1) := by rw [h2.out]; simp; omega
          rw [hlen] at ho3
          go_wp2_with fail
          go_roundw
          case rel =>
            have hR : ∃ k' : Nat, k' ≤ ps.length ∧ (Value.int .i64 ((k : Int) + 1)) = .int .i64 k' ∧ 1 + psz ps k' ≤ 4000 ∧ Below w.heap.size w w3 ∧ w3.ownsRow w.heap.size 5 1 v3 (1 + psz ps k') (ub (tagTo tag ps k')) :=
              ⟨k + 1, by omega, by go_num, by rw [h2.out]; omega, hb2.trans (hb3.mono hb2.size), by rw [h3.out, e1]; exact ownsRow_base' ho3 hb2.size⟩
            first | exact hR | ((repeat apply Exists.intro); exact ⟨hR, rfl⟩)
          case measure => simp [intOf]; omega
    · obtain rfl : k = ps.length := by omega
      have hu8 := tagTo_u8 tag ps ht hu ps.length (Nat.le_refl _)
      have hl4 : (tagTo tag ps ps.length).length ≤ 4000 := by omega
      go_wp2_with fail
      refine (digested_any (tagTo tag ps ps.length) xa _ xc wr (by first | rfl | exact hxl) hl4 hxs hu8).mono ?_
      rintro e w3 ⟨g, c, he, hb3, ho3⟩
      subst he
      dsimp only
      go_wp2_with fail
      go_ret2
      exact ⟨hb.trans (hb3.mono hb.size), .inr ⟨hz, g, c, rfl, (sliceAt_of_owns ho3).2, Nat.le_trans hb.size (ho3.lt g rfl).1⟩⟩
set_option maxRecDepth 100000 in
theorem taggedOf_any (tag : Int) (ps : List Part) (sa : Option Addr) (n cap : Nat) (w : World) (ht : 0 ≤ tag ∧ tag ≤ 255) (hn : n = ps.length) (hm : n ≤ 9000000000000000000) (hp : PartsAt w sa ps) (hu : ∀ p ∈ ps, AllU8 p.bs) :
    Calls Tryd.prog 52 #[.int .u8 tag, .slice sa n cap] w fun e w' => Below w.heap.size w w' ∧ ((4000 < 1 + psz ps ps.length ∧ e = .returned (.tuple #[.slice none 0 0, .int .i64 1])) ∨ (1 + psz ps ps.length ≤ 4000 ∧ ∃ g c, e = .returned (.tuple #[.slice (some ⟨g, 0, none⟩) 32 c, .int .i64 0]) ∧ SliceAt w' (some ⟨g, 0, none⟩) c (sumL (tagTo tag ps ps.length)))) := by
  refine (taggedOf_new tag ps sa n cap w ht hn hm hp hu).mono ?_
  rintro e w' ⟨h1, h2 | ⟨h3, g, c, h4, h5, _⟩⟩
  · exact ⟨h1, .inl h2⟩
  · exact ⟨h1, .inr ⟨h3, g, c, h4, h5⟩⟩
end Go.Proofs.YtbmodfegcmaieaaDoor

namespace Go.Proofs.YtbmodfegcmaieaaDoor
open Go.RowKit

set_option maxRecDepth 100000 in
set_option maxHeartbeats 1000000 in
theorem checkBatch_any (au nu : Int) (sa : Option Addr) (n cap : Nat) (ss : List ByteArray) (w : World) (hn : n = ss.length) (hm : n ≤ maxLen) (hs : StrsAt w sa ss) :
    Calls Tryd.prog 60 #[.agg #[.int .i64 au, .int .i64 nu, .slice sa n cap]] w fun e w' => e = .returned (.int .i64 (batchF au nu ss)) ∧ Below w.heap.size w w' := by
  subst hn
  unfold maxLen at hm
  by_cases ha : 0 ≤ au ∧ au < 4
  · by_cases hr : 1 ≤ nu ∧ nu ≤ 1048576
    · by_cases hl : ss.length < 1 ∨ 4 < ss.length
      · have hF : Hid (batchF au nu ss = 1) := by show _ = _; rw [batchF, if_neg (by simp [ha, hr]), if_pos hl]
        have hlI : ¬ (1 ≤ (ss.length : Int) ∧ (ss.length : Int) ≤ 4) := by omega
        rcases hl with hl | hl
        · have hl0 : ss.length = 0 := by omega
          rw [hl0]
          go_enter Tryd.func60, Tryd.ntmps60
          go_wp2_with (first | (go_at_call 81; first | (refine (isNode_true _ _ (by omega)).mono ?_; rintro e w' ⟨rfl, rfl⟩) | (refine (isNode_false _ _ (by omega)).mono ?_; rintro e w' ⟨rfl, rfl⟩)) | (go_at_call 82; first | (refine (isRound_true _ _ (by omega)).mono ?_; rintro e w' ⟨rfl, rfl⟩) | (refine (isRound_false _ _ (by omega)).mono ?_; rintro e w' ⟨rfl, rfl⟩)))
          go_ret
          exact ⟨ret_int hF.out.symm, (Below.refl _ _).alloc (Nat.le_refl _) _⟩
        · have hl1 : (4 : Int) < ss.length := by omega
          have hl2 : ¬ (ss.length : Int) < 1 := by omega
          go_enter Tryd.func60, Tryd.ntmps60
          go_wp2_with (first | (go_at_call 81; first | (refine (isNode_true _ _ (by omega)).mono ?_; rintro e w' ⟨rfl, rfl⟩) | (refine (isNode_false _ _ (by omega)).mono ?_; rintro e w' ⟨rfl, rfl⟩)) | (go_at_call 82; first | (refine (isRound_true _ _ (by omega)).mono ?_; rintro e w' ⟨rfl, rfl⟩) | (refine (isRound_false _ _ (by omega)).mono ?_; rintro e w' ⟨rfl, rfl⟩)))
          go_ret
          exact ⟨ret_int hF.out.symm, (Below.refl _ _).alloc (Nat.le_refl _) _⟩
      · have hF : Hid (batchF au nu ss = if ss.all txOk then 0 else 1) := by show _ = _; rw [batchF, if_neg (by simp [ha, hr]), if_neg hl]
        have hl1 : ¬ (4 : Int) < ss.length := by omega
        have hl2 : ¬ (ss.length : Int) < 1 := by omega
        go_enter Tryd.func60, Tryd.ntmps60
        go_wp2_with (first | (go_at_call 81; first | (refine (isNode_true _ _ (by omega)).mono ?_; rintro e w' ⟨rfl, rfl⟩) | (refine (isNode_false _ _ (by omega)).mono ?_; rintro e w' ⟨rfl, rfl⟩)) | (go_at_call 82; first | (refine (isRound_true _ _ (by omega)).mono ?_; rintro e w' ⟨rfl, rfl⟩) | (refine (isRound_false _ _ (by omega)).mono ?_; rintro e w' ⟨rfl, rfl⟩)))
        go_loop [28] (fun i => ∃ k : Nat, k ≤ ss.length ∧ i = .int .i64 k ∧ ∀ q, q < k → txOk (ss.getD q ByteArray.empty) = true) (fun i => ss.length - (intOf i).toNat)
        case atStart => exact ⟨0, Nat.zero_le _, rfl, fun q hq => by omega⟩
        case round =>
          obtain ⟨k, hk, rfl, hall⟩ := hrel
          by_cases hlt : k < ss.length
          · rcases hs.cells with hc | ⟨sb, so, rfl, hc⟩
            · subst hc; simp at hlt
            have hltI : (k : Int) < ss.length := by omega
            have ck := hc k hlt
            have ck2 := (((Below.refl w.heap.size w).alloc (Nat.le_refl _) (.cells #[.int .i64 au, .int .i64 nu, .slice (some ⟨sb, so, none⟩) ss.length cap] 42)).cell (p := ⟨sb, so + k, none⟩) (block_lt_of_cell ck)).trans ck
            have hz : (ss.getD k ByteArray.empty).size ≤ 9223372036854775807 := hs.size _ (by simp [List.getD, hlt])
            have hT : txOk (ss.getD k ByteArray.empty) = decide (1 ≤ (ss.getD k ByteArray.empty).size ∧ (ss.getD k ByteArray.empty).size ≤ 20) := rfl
            have hstep : Hid (txOk (ss.getD k ByteArray.empty) = true → ∀ q, q < k + 1 → txOk (ss.getD q ByteArray.empty) = true) := by
              show _ → _
              intro h q hq
              rcases Nat.lt_or_ge q k with g | g
              · exact hall q g
              · obtain rfl : q = k := by omega
                exact h
            have hno : Hid (txOk (ss.getD k ByteArray.empty) = false → ss.all txOk = false) := by
              show _ → _
              exact all_false ss txOk ByteArray.empty k hlt
            clear hall hc ck
            generalize ss.getD k ByteArray.empty = s at *
            by_cases h1 : 1 ≤ s.size
            · have h1I : ¬ (s.size : Int) < 1 := by omega
              by_cases h2 : s.size ≤ 20
              · have h2I : ¬ (20 : Int) < s.size := by omega
                have hst := hstep.out (by rw [hT]; simp [h1, h2])
                clear hT hstep hno
                go_wp2_with fail
                go_round
                case rel => exact ⟨k + 1, by omega, by go_num, hst⟩
                case measure => simp [intOf]; omega
              · have h2I : (20 : Int) < s.size := by omega
                have hst := hno.out (by rw [hT]; simp [h2])
                clear hT hstep hno
                rw [hst] at hF
                go_wp2_with fail
                go_ret
                exact ⟨ret_int (by rw [hF.out]; rfl), (Below.refl _ _).alloc (Nat.le_refl _) _⟩
            · have h1I : (s.size : Int) < 1 := by omega
              have hst := hno.out (by rw [hT]; simp [h1])
              clear hT hstep hno
              rw [hst] at hF
              go_wp2_with fail
              go_ret
              exact ⟨ret_int (by rw [hF.out]; rfl), (Below.refl _ _).alloc (Nat.le_refl _) _⟩
          · obtain rfl : k = ss.length := by omega
            have hst := all_true ss txOk ByteArray.empty hall
            rw [hst] at hF
            go_wp2_with fail
            go_ret
            exact ⟨ret_int (by rw [hF.out]; rfl), (Below.refl _ _).alloc (Nat.le_refl _) _⟩
    · have hF : Hid (batchF au nu ss = 2) := by show _ = _; simp [batchF, hr]
      go_enter Tryd.func60, Tryd.ntmps60
      go_wp2_with (first | (go_at_call 81; first | (refine (isNode_true _ _ (by omega)).mono ?_; rintro e w' ⟨rfl, rfl⟩) | (refine (isNode_false _ _ (by omega)).mono ?_; rintro e w' ⟨rfl, rfl⟩)) | (go_at_call 82; first | (refine (isRound_true _ _ (by omega)).mono ?_; rintro e w' ⟨rfl, rfl⟩) | (refine (isRound_false _ _ (by omega)).mono ?_; rintro e w' ⟨rfl, rfl⟩)))
      go_ret
      exact ⟨ret_int hF.out.symm, (Below.refl _ _).alloc (Nat.le_refl _) _⟩
  · have hF : Hid (batchF au nu ss = 2) := by show _ = _; simp [batchF, ha]
    go_enter Tryd.func60, Tryd.ntmps60
    go_wp2_with (first | (go_at_call 81; first | (refine (isNode_true _ _ (by omega)).mono ?_; rintro e w' ⟨rfl, rfl⟩) | (refine (isNode_false _ _ (by omega)).mono ?_; rintro e w' ⟨rfl, rfl⟩)) | (go_at_call 82; first | (refine (isRound_true _ _ (by omega)).mono ?_; rintro e w' ⟨rfl, rfl⟩) | (refine (isRound_false _ _ (by omega)).mono ?_; rintro e w' ⟨rfl, rfl⟩)))
    go_ret
    exact ⟨ret_int hF.out.symm, (Below.refl _ _).alloc (Nat.le_refl _) _⟩
end Go.Proofs.YtbmodfegcmaieaaDoor

namespace Go.Proofs.YtbmodfegcmaieaaDoor
open Go.RowKit

set_option maxRecDepth 100000 in
set_option maxHeartbeats 1000000 in
theorem batchDigest_bad (au nu : Int) (sa : Option Addr) (n cap : Nat) (ss : List ByteArray) (ec : Int) (w : World) (hn : n = ss.length) (hm : n ≤ maxLen) (hs : StrsAt w sa ss) (he : batchF au nu ss = ec) (h0 : ec ≠ 0) :
    Calls Tryd.prog 42 #[.agg #[.int .i64 au, .int .i64 nu, .slice sa n cap]] w fun e w' => e = .returned (.tuple #[.slice none 0 0, .int .i64 ec]) ∧ Below w.heap.size w w' := by
  have hA : Below w.heap.size w (w.alloc (.cells #[.int .i64 au, .int .i64 nu, .slice sa n cap] 42)) := (Below.refl _ _).alloc (Nat.le_refl _) _
  have hC := checkBatch_any au nu sa n cap ss _ hn hm (hs.below hA)
  rw [he] at hC
  clear hn hm he
  go_enter Tryd.func42, Tryd.ntmps42
  go_wp2_with fail
  refine hC.mono ?_
  rintro e w1 ⟨rfl, hb1⟩
  go_wp2_with fail
  go_ret2
  exact ⟨rfl, below_alloc hb1⟩
set_option maxRecDepth 100000 in
set_option maxHeartbeats 1000000 in
theorem batchDigest_ok (au nu : Int) (sa : Option Addr) (n cap : Nat) (ss : List ByteArray) (w : World) (hn : n = ss.length) (hs : StrsAt w sa ss) (hF : batchF au nu ss = 0) (ha : 0 ≤ au ∧ au < 4) (hr : 0 ≤ nu ∧ nu ≤ 1048576) (hl : ss.length ≤ 4) (hz : ∀ s ∈ ss, s.size ≤ 20) (hsb : ∀ sb so, sa = some ⟨sb, so, none⟩ → sb < w.heap.size) (hT : Tabs w) :
    Calls Tryd.prog 42 #[.agg #[.int .i64 au, .int .i64 nu, .slice sa n cap]] w fun e w' => ∃ b, e = .returned (.tuple #[.slice (some ⟨b, 0, none⟩) 32 32, .int .i64 0]) ∧ w.heap.size ≤ b ∧ Below w.heap.size w w' ∧ SliceAt w' (some ⟨b, 0, none⟩) 32 (tagD 1 (batchB au nu ss)) := by
  have hA : Below w.heap.size w (w.alloc (.cells #[.int .i64 au, .int .i64 nu, .slice sa n cap] 42)) := (Below.refl _ _).alloc (Nat.le_refl _) _
  have hC := checkBatch_any au nu sa n cap ss _ hn (by rw [hn]; unfold maxLen; omega) (hs.below hA)
  rw [hF] at hC
  have hle := txsB_le ss hz
  have Hn : Hid (n = ss.length) := hn
  clear hn hF
  go_enter Tryd.func42, Tryd.ntmps42
  go_wp2_with fail
  refine hC.mono ?_
  rintro e w1 ⟨rfl, hb1⟩
  have r1 := row_new hb1
  replace hb1 := below_alloc hb1
  have c0 : w1.cell? ⟨w.heap.size, 0, none⟩ = some (.int .i64 au) := cells_at r1 0 _ rfl
  have c1 : w1.cell? ⟨w.heap.size, 1, none⟩ = some (.int .i64 nu) := cells_at r1 1 _ rfl
  have c2 : w1.cell? ⟨w.heap.size, 2, none⟩ = some (.slice sa n cap) := cells_at r1 2 _ rfl
  have hsz := hb1.size
  clear hC
  go_wp2_with fail
  refine (appendBatch_any w1.heap.size (.slice none 0 0) 0 [] au nu sa n cap ss w1 ha hr Hn.out hl hz (hs.below hb1) (fun sb so e => ⟨Nat.lt_of_lt_of_le (hsb sb so e) hsz, fun h => by cases h⟩) (World.ownsRow_nil _ _ _ _) (Nat.le_refl _) (by decide)).mono ?_
  rintro e w2 ⟨v2, rfl, ho2, G2⟩
  have hb2 : Below w1.heap.size w1 w2 := G2.below (Nat.le_refl _) (fun q e => by cases e)
  rw [Nat.zero_add, List.nil_append] at ho2
  obtain ⟨xa, xc, hv, hxl, hx⟩ := owns_form ho2
  subst hv
  have hW2 := hb1.trans (hb2.mono hsz)
  have HX : Hid _ := hxl
  have hbl : (batchB au nu ss).length ≤ 100 := by simp [batchB, rd3]; omega
  have hA2 : Below w2.heap.size w2 (w2.alloc (.cells #[.slice xa (batchB au nu ss).length xc] 46)) := (Below.refl _ _).alloc (Nat.le_refl _) _
  clear hxl ho2 G2
  generalize hBB : batchB au nu ss = B at *
  have HB : Hid _ := hBB
  clear hBB
  go_wp2_with fail
  refine (tagged_ok 1 [⟨xa, xc, B⟩] _ _ _ _ rfl (one_part w2 xa _ xc B rfl hx) (by simp [psz]; omega) ((hT.below hW2).below hA2)).mono ?_
  rintro e w3 ⟨b, rfl, hle3, hb3, hr3⟩
  go_wp2_with fail
  go_ret2
  refine ⟨b, rfl, ?_, ?_, ?_⟩
  · rw [size_alloc] at hle3; have := hW2.size; omega
  · exact hW2.trans ((below_alloc hb3).mono hW2.size)
  · rw [tagD, HB.out, ← tagTo_part 1 xa xc B]; exact hr3
end Go.Proofs.YtbmodfegcmaieaaDoor
