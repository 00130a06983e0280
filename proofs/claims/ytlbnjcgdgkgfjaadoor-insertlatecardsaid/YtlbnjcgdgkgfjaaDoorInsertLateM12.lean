/- The law sheaveskeep.InsertLate answers true for every argument, and each argument reads behind the call as it read before: the tied card. Its conditions: the three tables of package blake hold what the program's text lays (the card ties that); the form's own reach. -/
import Derived.Test.YtlbnjcgdgkgfjaaDoorInsertLateM6
import Derived.Test.YtlbnjcgdgkgfjaaDoorPK
import Derived.ProofKit
import Derived.OpenShut
import Derived.SizedLaws
import Derived.Test.YtlbnjcgdgkgfjaaDoorRows
import Derived.Test.YtlbnjcgdgkgfjaaDoorK
import Derived.Lib.LaidTab
import Derived.Stop.LaidErr
import Derived.Test.YtlbnjcgdgkgfjaaDoorLib
import Derived.Test.YtlbnjcgdgkgfjaaDoorCards
import Derived.Test.YtlbnjcgdgkgfjaaDoorTie
import Derived.WalkKit
import Derived.Deep.DeepHandedRow
import Derived.SevenTiedAt
import Derived.Below
namespace Go.Proofs.YtlbnjcgdgkgfjaaDoor
open Go.RowKit

set_option maxRecDepth 100000 in
set_option maxHeartbeats 4000000 in
theorem insertLate_walk (n : Int) (w : World) (h0 : -9223372036854775808 ≤ n) (h1 : n ≤ 9223372036854775807) (hT : Tabs w) :
    Calls Tryd.prog 11 #[.int .i64 n] w fun e w' => e = .returned (.bool true) ∧ Below w.heap.size w w' := by
  have hA := (Below.refl w.heap.size w).alloc (Nat.le_refl _) (.cells #[.slice none 0 0] 27)
  have r0 := heap_alloc_new w (.cells #[.slice none 0 0] 27)
  have HT : Hid (∀ W : World, Below w.heap.size w W → Tabs W) := by
    show ∀ W, _
    exact fun W hW => hT.below hW
  clear hT
  go_enter Tryd.func11, Tryd.ntmps11
  go_wp2_with fail
  generalize w.alloc (.cells #[.slice none 0 0] 27) = W0 at hA r0 ⊢
  refine (picked_any n 4 W0 h0 h1 (by decide) (by decide)).mono ?_
  rintro e w1 ⟨he, rfl⟩
  subst he
  dsimp only
  have hpb := pk_bounds n 4 (by decide)
  obtain ⟨k, hk⟩ : ∃ k : Nat, pk n 4 = k := ⟨(pk n 4).toNat, by omega⟩
  rw [hk] at hpb ⊢
  clear hk
  have hk4 : k < 4 := by omega
  have HI : Hid (∀ i, i < 4 → i ≠ k → insE (lateL k i) (lateC i) = 0) := late_ins k hk4
  generalize hD0 : w.heap.size = D0 at r0 ⊢
  have hD : w.heap.size ≤ D0 := by omega
  clear hD0
  have hDlt : D0 < W0.heap.size := lt_of_heap r0
  go_wp2_with fail
  go_loopw [5] (fun j wr => ∃ (i : Nat) (sa : Option Addr) (cap : Nat) (ls : List Ct), i ≤ 4 ∧ j = .int .i64 i ∧ Hid (cvs ls = lateL k i) ∧ wr.heap[D0]? = some (.cells #[.slice sa ls.length cap] 27 (0, 0)) ∧ DagAt wr sa cap ls ∧ Below w.heap.size w wr) (fun j _ => 4 - (intOf j).toNat)
  case atStart => exact ⟨0, none, 0, [], Nat.zero_le _, rfl, rfl, r0, dag_none _, hA⟩
  case round =>
    clear r0
    obtain ⟨i, sa, cap, ls, hi, rfl, hL, hbox, hdag, hb⟩ := hrel
    by_cases hi4 : i < 4
    · have hiI : (i : Int) < 4 := by omega
      by_cases hik : i = k
      · subst hik
        have HL : Hid (cvs ls = lateL i (i + 1)) := by
          show _ = _
          rw [late_skip]; exact hL.out
        go_wp2_with fail
        go_roundw
        case rel =>
          have hR : ∃ (i' : Nat) (sa' : Option Addr) (cap' : Nat) (ls' : List Ct), i' ≤ 4 ∧ (Value.int .i64 ((i : Int) + 1)) = .int .i64 i' ∧ Hid (cvs ls' = lateL i i') ∧ wr.heap[D0]? = some (.cells #[.slice sa' ls'.length cap'] 27 (0, 0)) ∧ DagAt wr sa' cap' ls' ∧ Below w.heap.size w wr :=
            ⟨i + 1, sa, cap, ls, by omega, by go_num, HL, hbox, hdag, hb⟩
          first | exact hR | ((repeat apply Exists.intro); exact ⟨hR, rfl⟩)
        case measure => simp [intOf]; omega
      · have hikI : ((i : Int) == (k : Int)) = false := by rw [beq_eq_false_iff_ne]; omega
        have HINS : Hid (insE (lateL k i) (lateC i) = 0) := HI.out i hi4 hik
        have HNX : Hid (lateL k (i + 1) = lateL k i ++ [lateC i]) := late_next hik
        have c0 := cells_at hbox 0 _ rfl
        have hA2 := (Below.refl wr.heap.size wr).alloc (Nat.le_refl _) (.cells #[.int .i64 0, .int .i64 1, .int .i64 2] 3)
        have q1 := heap_alloc_new wr (.cells #[.int .i64 0, .int .i64 1, .int .i64 2] 3)
        clear hik
        go_wp2_with fail
        have hB2 := hb.alloc hb.size (.cells #[.int .i64 0, .int .i64 1, .int .i64 2] 3)
        have b2 := (hA2.block _ (lt_of_heap hbox)).trans hbox
        have hd2 := hdag.below hA2
        have hct := bare_at (i : Int) 1 q1
        generalize hV : wr.heap.size = V at q1 hct ⊢
        generalize wr.alloc (.cells #[.int .i64 0, .int .i64 1, .int .i64 2] 3) = W2 at hA2 q1 hB2 b2 hd2 hct ⊢
        clear hV
        refine (dagInsert_any ls sa _ cap (bareC (i : Int) 1 V 0 1 2) W2 rfl hd2 hct (HT.out W2 hB2)).mono ?_
        rintro e w3 ⟨hIn, hb3⟩
        have hB3 := hB2.trans (hb3.mono hB2.size)
        have b3 := (hb3.block _ (lt_of_heap b2)).trans b2
        have hD2 : D0 < W2.heap.size := lt_of_heap b2
        rw [hL.out] at hIn
        rcases hIn with ⟨h, _⟩ | ⟨_, ra, rc, ks, he, hcv, hdk, hr1, hr2⟩
        · exact absurd HINS.out h
        · subst he
          dsimp only
          have HCV : Hid (cvs ks = lateL k (i + 1)) := hcv.trans HNX.out.symm
          clear hcv hct q1 c0 hL HINS HNX hdag hd2
          have hdk2 := dag_setCell (hdk.below ((Below.refl _ _).alloc (Nat.le_refl _) (.cells #[.slice ra ks.length rc] 27))) D0 0 (.slice ra ks.length rc) (fun sb so e => by have := hr1 sb so e; omega) (fun c hc q hq => by have := hr2 c hc q hq; omega)
          have b3A := heap_keep (o := .cells #[.slice ra ks.length rc] 27) b3
          have m0 := cells_at b3A 0 _ rfl
          have mf := frozen_at b3A 0
          have x3 := heap_alloc_new w3 (.cells #[.slice ra ks.length rc] 27)
          have y0 := cells_at x3 0 _ rfl
          have hB4 := (hB3.alloc hB3.size (.cells #[.slice ra ks.length rc] 27)).setCell (p := ⟨D0, 0, none⟩) hD (.slice ra ks.length rc)
          have b4 : ((w3.alloc (.cells #[.slice ra ks.length rc] 27)).setCell ⟨D0, 0, none⟩ (.slice ra ks.length rc)).heap[D0]? = some (.cells #[.slice ra ks.length rc] 27 (0, 0)) := by simpa using heap_setCell_same _ _ 0 _ _ (.slice ra ks.length rc) b3A
          go_wp2_with fail
          go_roundw
          case rel =>
            have hR : ∃ (i' : Nat) (sa' : Option Addr) (cap' : Nat) (ls' : List Ct), i' ≤ 4 ∧ (Value.int .i64 ((i : Int) + 1)) = .int .i64 i' ∧ Hid (cvs ls' = lateL k i') ∧ ((w3.alloc (.cells #[.slice ra ks.length rc] 27)).setCell ⟨D0, 0, none⟩ (.slice ra ks.length rc)).heap[D0]? = some (.cells #[.slice sa' ls'.length cap'] 27 (0, 0)) ∧ DagAt ((w3.alloc (.cells #[.slice ra ks.length rc] 27)).setCell ⟨D0, 0, none⟩ (.slice ra ks.length rc)) sa' cap' ls' ∧ Below w.heap.size w ((w3.alloc (.cells #[.slice ra ks.length rc] 27)).setCell ⟨D0, 0, none⟩ (.slice ra ks.length rc)) :=
              ⟨i + 1, ra, rc, ks, by omega, by go_num, HCV, b4, hdk2, hB4⟩
            first | exact hR | ((repeat apply Exists.intro); exact ⟨hR, rfl⟩)
          case measure => simp [intOf]; omega
    · obtain rfl : i = 4 := by omega
      have c0 := cells_at hbox 0 _ rfl
      have HL : Hid (cvs ls = lateL k 4) := hL.out
      have HR1 : Hid (NextR (lateL k 4) 2) := late_one (by rw [(late_d1 k hk4).1]; decide) (by rw [(late_d1 k hk4).2]; decide)
      have HR2 : Hid (NextR (lateL k 4 ++ [⟨(k : Int), 1, [], [], [1, 2, 3]⟩]) 2) := late_one (by rw [(late_d2 k hk4).1]; decide) (by rw [(late_d2 k hk4).2]; decide)
      have HN1 : Hid (dagF (lateL k 4) = 0) := late_dag k hk4
      have HN2 : Hid (dagF (lateL k 4 ++ [⟨(k : Int), 1, [], [], [1, 2, 3]⟩]) = 0) := late_all k hk4
      have HN3 : Hid (insE (lateL k 4) ⟨(k : Int), 1, [], [], [1, 2, 3]⟩ = 0) := late_last k hk4
      have HN4 : Hid ((dgF (lateL k 4 ++ [⟨(k : Int), 1, [], [], [1, 2, 3]⟩]) 1).length = 4) := (late_d2 k hk4).1
      clear hL HI hi4
      go_wp2_with fail
      refine (dagRound_any ls sa _ cap wr rfl hdag (HT.out wr hb)).mono ?_
      rintro e w2 ⟨hR, hb2⟩
      have hB2 := hb.trans (hb2.mono hb.size)
      have b2 := (hb2.block _ (lt_of_heap hbox)).trans hbox
      have hd2 := hdag.below hb2
      unfold RndAt at hR
      rw [HL.out] at hR
      rcases hR with ⟨h, _⟩ | ⟨_, r, he, hN⟩
      · rw [HN1.out] at h; cases h
      obtain rfl : r = 2 := hN.one HR1.out
      subst he
      dsimp only
      clear hN c0 hdag hbox
      have c0 := cells_at b2 0 _ rfl
      have hA3 := (Below.refl w2.heap.size w2).alloc (Nat.le_refl _) (.cells #[.int .i64 1, .int .i64 2, .int .i64 3] 3)
      have q1 := heap_alloc_new w2 (.cells #[.int .i64 1, .int .i64 2, .int .i64 3] 3)
      go_wp2_with fail
      have hB3 := hB2.alloc hB2.size (.cells #[.int .i64 1, .int .i64 2, .int .i64 3] 3)
      have hd3 := hd2.below hA3
      have hct := bare_at (k : Int) 1 q1
      generalize hV : w2.heap.size = V at q1 hct ⊢
      generalize w2.alloc (.cells #[.int .i64 1, .int .i64 2, .int .i64 3] 3) = W3 at hA3 q1 hB3 hd3 hct ⊢
      clear hV
      refine (dagInsert_any ls sa _ cap (bareC (k : Int) 1 V 1 2 3) W3 rfl hd3 hct (HT.out W3 hB3)).mono ?_
      rintro e w4 ⟨hIn, hb4⟩
      have hB4 := hB3.trans (hb4.mono hB3.size)
      rw [HL.out] at hIn
      rcases hIn with ⟨h, _⟩ | ⟨_, ra, rc, ks, he, hcv, hdk, -, -⟩
      · exact absurd HN3.out h
      subst he
      dsimp only
      have HCV : Hid (cvs ks = lateL k 4 ++ [⟨(k : Int), 1, [], [], [1, 2, 3]⟩]) := hcv
      clear hcv hct q1 c0 hd3 hd2 b2 HL HR1 HN1 HN3
      have hA5 := (Below.refl w4.heap.size w4).alloc (Nat.le_refl _) (.cells #[.slice ra ks.length rc] 27)
      have q5 := heap_alloc_new w4 (.cells #[.slice ra ks.length rc] 27)
      have y0 := cells_at q5 0 _ rfl
      go_wp2_with fail
      have hB5 := hB4.alloc hB4.size (.cells #[.slice ra ks.length rc] 27)
      have hd5 := hdk.below hA5
      generalize hX : w4.heap.size = X at q5 y0 ⊢
      generalize w4.alloc (.cells #[.slice ra ks.length rc] 27) = W5 at hA5 q5 y0 hB5 hd5 ⊢
      clear hX
      refine (dagRound_any ks ra _ rc W5 rfl hd5 (HT.out W5 hB5)).mono ?_
      rintro e w6 ⟨hR, hb6⟩
      have hB6 := hB5.trans (hb6.mono hB5.size)
      have q6 := (hb6.block _ (lt_of_heap q5)).trans q5
      have hd6 := hd5.below hb6
      unfold RndAt at hR
      rw [HCV.out] at hR
      rcases hR with ⟨h, _⟩ | ⟨_, r, he, hN⟩
      · rw [HN2.out] at h; cases h
      obtain rfl : r = 2 := hN.one HR2.out
      subst he
      dsimp only
      clear hN y0 hdk hd5 q5
      have y0 := cells_at q6 0 _ rfl
      go_wp2_with fail
      refine (dagDigests_any ks ra _ rc 1 w6 rfl hd6 (HT.out w6 hB6)).mono ?_
      rintro e w7 ⟨hG, hb7⟩
      have hB7 := hB6.trans (hb7.mono hB6.size)
      unfold DigAt at hG
      rw [HCV.out] at hG
      rcases hG with ⟨h, _⟩ | ⟨_, ma, mc, ms, he, hM, hLM⟩
      · rw [HN2.out] at h; cases h
      subst he
      dsimp only
      have hm4 : ms.length = 4 := by rw [← bss_length, hM]; exact HN4.out
      rw [hm4]
      clear hM hLM hm4
      go_wp2_with fail
      go_ret
      exact ⟨rfl, hB7⟩
end Go.Proofs.YtlbnjcgdgkgfjaaDoor

namespace Go.Proofs.YtlbnjcgdgkgfjaaDoor
open Go.ChangeShapes Go.WideShapes Go.ChangeAt Go.RowKit

set_option maxRecDepth 100000 in
theorem cU8 : Tryd.prog.cellsOf 5 = 1 := by kernel_rfl
set_option maxRecDepth 100000 in
theorem own : ownKnob Tryd.prog.godebug = none := by kernel_rfl
set_option maxRecDepth 100000 in
theorem laidOut : laidOutB Tryd.prog = true := by kernel_rfl
/-- Each is a byte. -/
def AllU8 (bs : List Int) : Prop := ∀ x ∈ bs, 0 ≤ x ∧ x ≤ 255
set_option maxRecDepth 100000 in
theorem open_bytes_cells {H : Type} {enc : TypeId × Value → H} {W : World} {fuel : Nat} {cs : List Value} {x : DataW H × List MemPlace}
    (hf : DataW.trod enc Tryd.prog W 0 (fun _ => true) true fuel 41 cs = some x) :
    ∃ sa cap bs, cs = [.slice sa (List.length bs) cap] ∧ SliceAt W sa cap bs ∧ AllU8 bs := by
  rcases open_ints Tryd.underlying41 Tryd.underlying5 cU8 hf with ⟨rfl, _⟩ | ⟨x, len0, cap0, zs, rfl, _, hl, hm, hz, _, hcell, hwz⟩
  · exact ⟨none, 0, [], rfl, ⟨Nat.le_refl _, by decide, .inl rfl, fun _ => rfl, .inl rfl⟩, fun x hx => by cases hx⟩
  · simp only [if_true] at hz
    have hlen : (zs.take len0).length = len0 := by rw [List.length_take, hz]; omega
    refine ⟨some x, cap0, zs.take len0, by rw [hlen], ?_, fun y hy => bounds_u8 (hwz y (List.mem_of_mem_take hy))⟩
    rcases Nat.eq_zero_or_pos cap0 with h0 | h0
    · subst h0
      obtain rfl : len0 = 0 := by omega
      exact ⟨by simp, hm, .inl rfl, fun _ => rfl, .inl (by simp)⟩
    · obtain ⟨b, off, rfl, hc⟩ := ints_at hcell (by omega)
      refine ⟨by omega, hm, .inr ⟨b, off, rfl⟩, (fun e => by cases e), .inr ⟨b, off, rfl, fun j hj => ?_⟩⟩
      rw [hc j (by omega)]
      have : j < len0 := by omega
      simp [List.getD, this]
set_option maxRecDepth 100000 in
theorem open_bytes {H : Type} {enc : TypeId × Value → H} {W : World} {base : Nat} {v : Value} {d : DataW H} {p : List MemPlace}
    (hv : Value.okWide Tryd.prog W .any base 41 v) (h : DataW.Trod enc Tryd.prog W 0 (fun _ => true) true 41 v d p) :
    ∃ sa cap bs, v = .slice sa (List.length bs) cap ∧ SliceAt W sa cap bs ∧ AllU8 bs := by
  obtain ⟨a0, len0, cap0, rfl⟩ := okWide_slice Tryd.underlying41 hv
  obtain ⟨fuel, hf⟩ := h
  obtain ⟨sa, cap, bs, hcs, h1, h2⟩ := open_bytes_cells hf
  simp [Value.cells] at hcs
  obtain ⟨rfl, rfl, rfl⟩ := hcs
  exact ⟨_, _, bs, rfl, h1, h2⟩
set_option maxRecDepth 100000 in
theorem bU8 : Tryd.prog.bytesOf 5 = 1 := by kernel_rfl
set_option maxRecDepth 100000 in
/-- The form's own reach, of one argument. -/
theorem fit_each {H : Type} {ts : List TypeId} {ds : List (DataW H)} (h : (DataW.weightsEach Tryd.prog ts ds).all (· ≤ reachBytes) = true) {j : Nat} {t : TypeId} {d : DataW H} (ht : ts[j]? = some t) (hd : ds[j]? = some d) : ∀ n ∈ d.weights Tryd.prog t, n ≤ reachBytes := fun n hn => by
  simpa using List.all_eq_true.1 h n (DataW.weights_mem_each ht hd n hn)
set_option maxRecDepth 100000 in
/-- A slice of bytes has room for so many. -/
theorem bytes_fit {H : Type} {enc : TypeId × Value → H} {W : World} {fuel : Nat} {cs : List Value} {x : DataW H × List MemPlace} {sa : Option Addr} {n cap : Nat}
    (hf : DataW.trod enc Tryd.prog W 0 (fun _ => true) true fuel 41 cs = some x) (hfit : ∀ n ∈ x.1.weights Tryd.prog 41, n ≤ reachBytes) (e : cs = [.slice sa n cap]) : cap ≤ 140737488351232 := by
  rcases open_ints Tryd.underlying41 Tryd.underlying5 cU8 hf with ⟨rfl, _⟩ | ⟨a, len, cap', zs, rfl, _, hl, hm, hz, rfl, _, _⟩
  · simp at e
    omega
  · simp at e
    obtain ⟨_, rfl, rfl⟩ := e
    have := hfit (((zs.take len).length + (zs.drop len).length) * Tryd.prog.bytesOf 5) (by simp [DataW.weights, Tryd.underlying41, lits])
    rw [bU8] at this
    simp only [if_true] at hz
    simp [reachBytes] at this
    omega
end Go.Proofs.YtlbnjcgdgkgfjaaDoor

namespace Go.Proofs.YtlbnjcgdgkgfjaaDoor
open Go.RowKit

set_option maxRecDepth 100000 in
/-- An array of arrays of integers that reads as a table of rows holds the rows' numbers, cell for cell. -/
theorem cells_of_tab2 {H : Type} {enc : TypeId × Value → H} {P : Program} {w : World} {base : Nat} {sp : Nat → Bool} {held : Bool} {fuel : Nat} {t e i : TypeId} {n m : Nat} {k : IntKind} {cs : List Value} {rows : List (List Int)} {p : List MemPlace}
    (ht : P.underlying t = some (.array n e)) (he : P.underlying e = some (.array m i)) (hi : P.underlying i = some (.int k)) (hci : P.cellsOf i = 1) (hce : P.cellsOf e = m) (hm : 0 < m)
    (h : DataW.trod enc P w base sp held fuel t cs = some (.agg (rows.map (Lib.tabData k)), p)) (q : Nat) (hq : q < n * m) : cs[q]? = ((rows.getD (q / m) []).map (Value.int k))[q % m]? := by
  obtain ⟨xs, f, rfl, hx, hl, hn, hr⟩ := DataW.trod_array ht h
  have hin : q / m < n := Nat.div_lt_of_lt_mul (by rw [Nat.mul_comm]; exact hq)
  have hrow := hr (q / m) hin
  have hxs : xs.map (·.1) = rows.map (Lib.tabData k) := by
    have := congrArg Prod.fst hx
    simpa using this.symm
  have hg : (xs.map (·.1))[q / m]? = some (xs[q / m]'(by omega)).1 := by simp [hn, hin]
  rw [hxs] at hg
  simp only [List.getElem?_map, Option.map_eq_some_iff] at hg
  obtain ⟨r, hr1, hr2⟩ := hg
  rw [List.getElem?_eq_getElem (by omega), hce] at hrow
  have hrow' : DataW.trod enc P w base sp held f e ((cs.drop (q / m * m)).take m) = some (Lib.tabData k r, (xs[q / m]'(by omega)).2) := by
    rw [hrow, hr2]
  have hc := Lib.cells_of_tab he hi hci hce hrow'
  have hj : q % m < m := Nat.mod_lt _ hm
  have e1 : ((cs.drop (q / m * m)).take m)[q % m]? = cs[q]? := by
    rw [List.getElem?_take, if_pos hj, List.getElem?_drop, Nat.mul_comm, Nat.div_add_mod]
  rw [← e1, hc]
  simp [List.getD, hr1]

set_option maxRecDepth 100000 in
theorem tFirst : (Tryd.prog.globals[0]?).map (·.type) = some 115 := by kernel_rfl
set_option maxRecDepth 100000 in
theorem tOrders : (Tryd.prog.globals[1]?).map (·.type) = some 125 := by kernel_rfl
set_option maxRecDepth 100000 in
theorem tLanes : (Tryd.prog.globals[2]?).map (·.type) = some 127 := by kernel_rfl
set_option maxRecDepth 100000 in
theorem cU32 : Tryd.prog.cellsOf 114 = 1 := by kernel_rfl
set_option maxRecDepth 100000 in
theorem c8U32 : Tryd.prog.cellsOf 115 = 8 := by kernel_rfl
set_option maxRecDepth 100000 in
theorem c16U8 : Tryd.prog.cellsOf 124 = 16 := by kernel_rfl
set_option maxRecDepth 100000 in
theorem c4U8 : Tryd.prog.cellsOf 126 = 4 := by kernel_rfl
def ordRows : List (List Int) := [[0, 1, 2, 3, 4, 5, 6, 7, 8, 9, 10, 11, 12, 13, 14, 15], [14, 10, 4, 8, 9, 15, 13, 6, 1, 12, 0, 2, 11, 7, 5, 3], [11, 8, 12, 0, 5, 2, 15, 13, 10, 14, 3, 6, 7, 1, 9, 4], [7, 9, 3, 1, 13, 12, 11, 14, 2, 6, 5, 10, 4, 0, 15, 8], [9, 0, 5, 7, 2, 4, 10, 15, 14, 1, 11, 12, 6, 8, 3, 13], [2, 12, 6, 10, 0, 11, 8, 3, 4, 13, 7, 5, 15, 14, 1, 9], [12, 5, 1, 15, 14, 13, 4, 10, 0, 7, 6, 3, 9, 2, 8, 11], [13, 11, 7, 14, 12, 1, 3, 9, 5, 0, 15, 4, 8, 6, 2, 10], [6, 15, 14, 9, 11, 3, 0, 8, 12, 2, 13, 7, 1, 4, 10, 5], [10, 2, 8, 4, 7, 6, 1, 5, 15, 11, 9, 14, 3, 12, 13, 0]]
def laneRows : List (List Int) := [[0, 4, 8, 12], [1, 5, 9, 13], [2, 6, 10, 14], [3, 7, 11, 15], [0, 5, 10, 15], [1, 6, 11, 12], [2, 7, 8, 13], [3, 4, 9, 14]]
set_option maxRecDepth 100000 in
theorem ordRows_flat : ∀ q, q < 160 → (ordRows.getD (q / 16) [])[q % 16]? = some ((ordF.getD q 0 : Nat) : Int) := by decide +kernel
set_option maxRecDepth 100000 in
theorem laneRows_flat : ∀ q, q < 32 → (laneRows.getD (q / 4) [])[q % 4]? = some ((laneF.getD q 0 : Nat) : Int) := by decide +kernel
set_option maxRecDepth 100000 in
theorem dFirst : Rows.laid_sheaves_blake_firstWords (H := Unit) = Lib.tabData .u32 fw := rfl
set_option maxRecDepth 100000 in
theorem dOrders : Rows.laid_sheaves_blake_orders (H := Unit) = .agg (ordRows.map (Lib.tabData .u8)) := rfl
set_option maxRecDepth 100000 in
theorem dLanes : Rows.laid_sheaves_blake_lanes (H := Unit) = .agg (laneRows.map (Lib.tabData .u8)) := rfl

set_option maxRecDepth 100000 in
theorem tabs_of_laid {W : World} {n1 n2 n3 : String} (gFirst : Tryd.prog.globalNamed n1 = some 0) (gOrders : Tryd.prog.globalNamed n2 = some 1) (gLanes : Tryd.prog.globalNamed n3 = some 2)
    (h : laidMetH Tryd.prog [(n1, Rows.laid_sheaves_blake_firstWords), (n2, Rows.laid_sheaves_blake_orders), (n3, Rows.laid_sheaves_blake_lanes)] W) : Tabs W := by
  have h1 : laidMet Tryd.prog [(n1, Rows.laid_sheaves_blake_firstWords), (n2, Rows.laid_sheaves_blake_orders), (n3, Rows.laid_sheaves_blake_lanes)] W := h
  clear h
  have h2 := h1.tail
  have h3 := h2.tail
  rw [dFirst] at h1
  rw [dOrders] at h2
  rw [dLanes] at h3
  have t1 := Lib.tabIs_of_head gFirst tFirst Tryd.underlying115 Tryd.underlying114 cU32 c8U32 h1
  refine ⟨fun i hi => t1.cell gFirst i hi, fun i hi => ?_, fun i hi => ?_⟩
  · obtain ⟨ps, ⟨g', t', cs, fuel, p, q, hg', ht', hvar, hd, _, _⟩, _⟩ := h2
    obtain rfl := Option.some.inj (gOrders.symm.trans hg')
    obtain rfl := Option.some.inj (tOrders.symm.trans ht')
    have hc := World.var?_cell gOrders hvar i
    have he := cells_of_tab2 Tryd.underlying125 Tryd.underlying124 Tryd.underlying5 cU8 c16U8 (by decide) hd i hi
    rw [hc]
    have := ordRows_flat i hi
    simp only [List.getElem?_map, this, Option.map_some] at he
    simpa using he
  · obtain ⟨ps, ⟨g', t', cs, fuel, p, q, hg', ht', hvar, hd, _, _⟩, _⟩ := h3
    obtain rfl := Option.some.inj (gLanes.symm.trans hg')
    obtain rfl := Option.some.inj (tLanes.symm.trans ht')
    have hc := World.var?_cell gLanes hvar i
    have he := cells_of_tab2 Tryd.underlying127 Tryd.underlying126 Tryd.underlying5 cU8 c4U8 (by decide) hd i hi
    rw [hc]
    have := laneRows_flat i hi
    simp only [List.getElem?_map, this, Option.map_some] at he
    simpa using he
end Go.Proofs.YtlbnjcgdgkgfjaaDoor

namespace Go.Proofs.YtlbnjcgdgkgfjaaDoor
open Go.ChangeShapes Go.WideShapes Go.ChangeAt Go.RowKit

/-- What the initialisers of the three tables lay, in the first blocks. -/
def layBlock (c : Array Value) : Obj → Obj
  | .cells _ t frozen => .cells c t frozen
  | o => o
def layTabs (w : World) : World :=
  { w with heap := ((w.heap.modify 0 (layBlock (ua fw))).modify 1 (layBlock (ub (ordF.map Int.ofNat)).toArray)).modify 2 (layBlock (ub (laneF.map Int.ofNat)).toArray) }
end Go.Proofs.YtlbnjcgdgkgfjaaDoor

namespace Go.Proofs.YtlbnjcgdgkgfjaaDoor.insertLate
open Go.ChangeShapes Go.WideShapes Go.ChangeAt Go.RowKit

set_option maxRecDepth 100000 in
/-- What the walk gives, for every argument and every world that holds the tables. -/
theorem contract (H : Type) (enc : TypeId × Value → H) (W : World) (base : Nat) (args : Array Value) (ds gs : List (DataW H)) (before : List MemPlace)
    (hval : ∀ (j : Nat) t v, Tryd.f11.params[j]? = some t → args[j]? = some v → Value.okWide Tryd.prog W .any base t v)
    (hW : DataW.Whole enc Tryd.prog Tryd.f11.params.toList Rows.insertLateSpec.vars false W args.toList ds gs before) (_hsz : (DataW.weightsEach Tryd.prog (Tryd.f11.params.toList ++ (OpenSpec.ofChange Rows.insertLateSpec).bare.plain.varTypes Tryd.prog) (ds ++ gs)).all (· ≤ reachBytes) = true) (hL : laidMetH Tryd.prog Rows.insertLateRow.laid W) :
    Calls Tryd.prog 11 args W fun e W' => ∃ v, e = .returned v ∧ Rows.insertLateSpec.post enc Tryd.prog Tryd.f11 false true false false W args v W' := by
  have hW' := hW
  obtain ⟨p, q, hA0, hV, rfl, hfz, hnd⟩ := hW
  have hA : DataW.TrodAll enc Tryd.prog W 0 (fun _ => true) true Tryd.f11.params.toList args.toList ds p := hA0
  rw [Tryd.params11] at hA hval
  obtain ⟨v0, vs0, d0, ds0, p0, q0, hargs, rfl, rfl, h0, r0⟩ := trodAll_cons hA
  obtain ⟨rfl, rfl, rfl⟩ := trodAll_nil r0
  obtain rfl : args = #[v0] := by cases args; simp_all
  obtain ⟨rfl, rfl⟩ := trodVars_none hV
  obtain ⟨a0, rfl, rfl, rfl, w0⟩ := open_int Tryd.underlying3 (hval 0 3 v0 rfl rfl) h0
  obtain ⟨lo0, hi0⟩ := bounds_i64 w0
  clear hA0
  have hT : Tabs W := tabs_of_laid (by kernel_rfl) (by kernel_rfl) (by kernel_rfl) hL
  refine (insertLate_walk a0 W lo0 hi0 hT).mono fun e W' ⟨he, bel⟩ => ?_
  subst he
  exact ⟨_, rfl, _, _, _, [], _, [], hW', trodAll_mk1 (shut_bool Tryd.underlying4 _), (trodAll_cons_mk (shut_int Tryd.underlying3 w0) trodAll_mk0), rfl, bel.frame _, fun h => by cases h⟩

set_option maxRecDepth 100000 in
theorem laid_met (os : Os) : laidMet Tryd.prog Rows.insertLateRow.laid ((layTabs (World.holding Tryd.prog os ⟨#[], #[], []⟩)).forCall (fun _ _ => 0) ⟨#[], #[.int .i64 0], []⟩).memory :=
  laidMet_of_run' 8 (by kernel_rfl) (by kernel_rfl)
set_option maxRecDepth 100000 in
theorem reads (os : Os) {H : Type} (enc : TypeId × Value → H) : ∃ places, DataW.whole enc Tryd.prog ((layTabs (World.holding Tryd.prog os ⟨#[], #[], []⟩)).forCall (fun _ _ => 0) ⟨#[], #[.int .i64 0], []⟩).memory Tryd.f11.params.toList Rows.insertLateSpec.vars false (#[.int .i64 0] : Array Value).toList 8 = some ([.lit (.int .i64 0)], [], places) :=
  ⟨[], by kernel_rfl⟩

set_option maxRecDepth 100000 in
theorem lifted (os : Os) (started : os.Started) (H : Type) (enc : TypeId × Value → H) (F : Stop.Interp) :
    ReturnsInHanded {} Tryd.checked os 11 .any ((OpenSpec.ofChange Rows.insertLateSpec).preRow enc Tryd.prog Tryd.f11 Rows.insertLateRow.domain false Rows.insertLateRow.laid) (((OpenSpec.ofChange Rows.insertLateSpec).at F).post enc Tryd.prog Tryd.f11 false true false false) := by
  obtain ⟨places, hx⟩ := reads os enc
  refine returnsInHanded_of_row (C := Tryd.checked) (s := OpenSpec.ofChange Rows.insertLateSpec) own started (by kernel_rfl) Tryd.func11
    (witness_row_at (enc := enc) (C := Tryd.checked) false (layTabs (World.holding Tryd.prog os ⟨#[], #[], []⟩)) #[.int .i64 0] rfl (by kernel_rfl) (by kernel_rfl) (by kernel_rfl)
      (OpenSpec.preRow_of_cond 8 hx (by kernel_rfl) (fun k hk => by cases hk) (by kernel_rfl) (laid_met os))) ?_
  intro W base args ds gs before hval hW _ _ hsz hL _ _
  exact contract H enc W base args ds gs before hval hW hsz hL

set_option maxRecDepth 100000 in
theorem said : Rows.InsertLateSaid :=
  OpenClaim.holds_of_cond 11 Tryd.f11 rfl rfl rfl rfl rfl rfl rfl ⟨rfl, rfl, rfl, rfl, rfl⟩ rfl rfl rfl rfl rfl (by kernel_rfl) Tryd.func11 (by kernel_rfl)
    (of_decide_eq_true (by kernel_rfl)) (by unfold Func.isWrapper; first | (rw [if_pos (by decide +kernel)]; kernel_rfl) | (rw [if_neg (by decide +kernel)]; exact ⟨rfl, rfl⟩))
    (fun os started H enc _ F => by rw [OpenClaim.pre_eq_preRow]; exact lifted os started H enc F)

set_option maxRecDepth 100000 in
theorem plain (f : FuncId) (fn : Func) (hf : Tryd.pinned.checked.prog.funcNamed Rows.insertLateRow.func = some f) (hfn : Tryd.pinned.checked.prog.funcs[f]? = some fn) :
    false = Tryd.pinned.checked.prog.looks [] ∧ ∀ (j : Nat) t, fn.params[j]? = some t → Tryd.pinned.checked.prog.wantsStandIn t = false := by
  obtain rfl : f = 11 := Option.some.inj ((show Tryd.prog.funcNamed Rows.insertLateRow.func = some 11 by kernel_rfl).symm.trans hf) |>.symm
  obtain rfl : fn = Tryd.f11 := (Option.some.inj (Tryd.func11.symm.trans hfn)).symm
  refine ⟨by kernel_rfl, fun j t ht => ?_⟩
  rw [Tryd.params11] at ht
  have hm : t = 3 := by simpa using Array.mem_of_getElem? ht
  rcases hm with rfl
  · exact (show Tryd.prog.wantsStandIn 3 = false by kernel_rfl)

set_option maxRecDepth 100000 in
/-- THE CARD. -/
theorem card : Rows.InsertLateCardSaid :=
  Claim7.holds_tied_plain_at .later [] _ _ _ _ said (fun _ h => by cases h) (by kernel_rfl) (fun _ h => by cases h) insertLate_row_tie rfl ⟨rfl, rfl⟩ (by kernel_rfl) rfl plain (by kernel_rfl)
end Go.Proofs.YtlbnjcgdgkgfjaaDoor.insertLate
namespace Go.Proofs.YtlbnjcgdgkgfjaaDoor
set_option maxRecDepth 100000 in
theorem insertLate_holds : Rows.InsertLateCardSaid := insertLate.card
#print axioms insertLate_holds
end Go.Proofs.YtlbnjcgdgkgfjaaDoor
