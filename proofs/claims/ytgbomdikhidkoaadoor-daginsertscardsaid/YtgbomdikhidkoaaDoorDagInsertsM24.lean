/- What the reading of an argument that is a certificate gives the walks. -/
import Derived.Test.YtgbomdikhidkoaaDoorDagInsertsM18
import Derived.Test.YtgbomdikhidkoaaDoorLAt
import Derived.Deep.Strs
import Derived.Test.YtgbomdikhidkoaaDoorApp
import Derived.Test.YtgbomdikhidkoaaDoorSameD
import Derived.Deep.RegionHeld2
import Derived.Test.YtgbomdikhidkoaaDoorCertF
namespace Go.Proofs.YtgbomdikhidkoaaDoor
open Go.ChangeShapes Go.WideShapes Go.ChangeAt Go.RowKit Go.Deep

set_option maxRecDepth 100000 in
theorem cBsL : Tryd.prog.cellsOf 29 = 1 := by kernel_rfl
set_option maxRecDepth 100000 in
theorem bBsL : Tryd.prog.bytesOf 29 = 24 := by kernel_rfl
set_option maxRecDepth 100000 in
theorem weightsAll_mem {H : Type} (e : TypeId) (l : List (DataW H)) (d : DataW H) (hd : d ∈ l) : ∀ n ∈ d.weights Tryd.prog e, n ∈ DataW.weightsAll Tryd.prog e l := by
  induction l with
  | nil => cases hd
  | cons x r ih =>
    intro n hn
    rw [DataW.weightsAll]
    rcases List.mem_cons.1 hd with rfl | h
    · exact List.mem_append_left _ hn
    · exact List.mem_append_right _ (ih h n hn)
set_option maxRecDepth 100000 in
theorem open_lists_cells {H : Type} {enc : TypeId × Value → H} {W : World} {fuel : Nat} {cs : List Value} {x : DataW H × List MemPlace}
    (hf : DataW.trod enc Tryd.prog W 0 (fun _ => true) true fuel 30 cs = some x) (hfit : ∀ n ∈ x.1.weights Tryd.prog 30, n ≤ reachBytes) :
    ∃ sa cap ps, cs = [.slice sa (List.length ps) cap] ∧ ReadAt W sa cap ps ∧ ∀ p ∈ ps, AllU8 p.bs := by
  rcases open_slice1 Tryd.underlying30 cBsL hf with ⟨rfl, _⟩ | ⟨a, len, cap, m, n, V, D, Pl, rfl, _, hl, hm, hmm, rfl, hx⟩
  · exact ⟨none, 0, [], rfl, ⟨⟨Nat.le_refl _, by decide, by decide, .inl rfl, ⟨.inl rfl, fun p hp => by cases hp⟩⟩, by decide, fun p hp => by cases hp⟩, fun p hp => by cases hp⟩
  · simp only [if_true] at hmm
    subst hmm
    have hw := hfit ((((List.range len).map D).length + ((List.range (m - len)).map fun j => D (len + j)).length) * Tryd.prog.bytesOf 29) (by simp [DataW.weights, Tryd.underlying30])
    rw [bBsL] at hw
    simp [reachBytes] at hw
    have each : ∀ i, i < len → ∃ p : Part, V i = .slice p.sa p.bs.length p.cap ∧ SliceAt W p.sa p.cap p.bs ∧ AllU8 p.bs ∧ p.cap ≤ 140737488351232 := fun i hi => by
      obtain ⟨_, h2⟩ := hx i (by omega)
      obtain ⟨sa, cap, bs, e, h3, h4⟩ := open_bytes_cells h2
      have hfi : ∀ n ∈ (D i).weights Tryd.prog 29, n ≤ reachBytes := fun n hn => hfit n (by
        have := weightsAll_mem 29 ((List.range len).map D) (D i) (List.mem_map.2 ⟨i, List.mem_range.2 hi, rfl⟩) n hn
        simp only [DataW.weights, Tryd.underlying30]
        exact List.mem_cons_of_mem _ (List.mem_append_left _ this))
      have h5 := bytes_fit h2 hfi e
      exact ⟨⟨sa, cap, bs⟩, by simpa using e, h3, h4, h5⟩
    obtain ⟨P, hP⟩ := @choose_lt Part ⟨⟨none, 0, []⟩⟩ len _ each
    refine ⟨some a, m, (List.range len).map P, by simp, ⟨⟨by simpa using hl, hm, by simp; omega, ?_, ⟨?_, ?_⟩⟩, by simp; omega, ?_⟩, ?_⟩
    · rcases Nat.eq_zero_or_pos m with h0 | h0
      · exact .inl h0
      · right
        have h9 := (hx 0 h0).1
        cases a with
        | mk b off spot =>
          cases spot with
          | none => exact ⟨b, off, rfl⟩
          | some s => simp [World.cell?, Addr.add] at h9; split at h9 <;> cases h9
    · rcases Nat.eq_zero_or_pos len with h0 | h0
      · subst h0; exact .inl rfl
      · right
        have h9 := (hx 0 (by omega)).1
        obtain ⟨b, off, rfl⟩ : ∃ b off, a = ⟨b, off, none⟩ := by
          cases a with
          | mk b off spot =>
            cases spot with
            | none => exact ⟨b, off, rfl⟩
            | some s => simp [World.cell?, Addr.add] at h9; split at h9 <;> cases h9
        refine ⟨b, off, rfl, fun j hj => ?_⟩
        have hj' : j < len := by simpa using hj
        have h1 := (hx j (by omega)).1
        rw [add_off] at h1
        rw [h1, (hP j hj').1]
        simp
    · intro p hp
      simp at hp
      obtain ⟨j, hj, rfl⟩ := hp
      exact (hP j hj).2.1
    · intro p hp
      simp at hp
      obtain ⟨j, hj, rfl⟩ := hp
      have h1 := (hP j hj).2.1.le
      have h2 := (hP j hj).2.2.2
      omega
    · intro p hp
      simp at hp
      obtain ⟨j, hj, rfl⟩ := hp
      exact (hP j hj).2.2.1
set_option maxRecDepth 100000 in
theorem open_lists {H : Type} {enc : TypeId × Value → H} {W : World} {base : Nat} {v : Value} {d : DataW H} {p : List MemPlace}
    (hv : Value.okWide Tryd.prog W .any base 30 v) (h : DataW.Trod enc Tryd.prog W 0 (fun _ => true) true 30 v d p) (hfit : ∀ n ∈ d.weights Tryd.prog 30, n ≤ reachBytes) :
    ∃ sa cap ps, v = .slice sa (List.length ps) cap ∧ ReadAt W sa cap ps ∧ ∀ p ∈ ps, AllU8 p.bs := by
  obtain ⟨a0, len0, cap0, rfl⟩ := okWide_slice Tryd.underlying30 hv
  obtain ⟨fuel, hf⟩ := h
  obtain ⟨sa, cap, ps, hcs, h1, h2⟩ := open_lists_cells hf hfit
  simp [Value.cells] at hcs
  obtain ⟨rfl, rfl, rfl⟩ := hcs
  exact ⟨_, _, ps, rfl, h1, h2⟩
end Go.Proofs.YtgbomdikhidkoaaDoor

namespace Go.Proofs.YtgbomdikhidkoaaDoor
open Go.RowKit

set_option maxRecDepth 100000 in
set_option maxHeartbeats 1000000 in
theorem joined_any (xs ys : List Int) (sa sb : Option Addr) (n m c d : Nat) (w : World) (hn : n = xs.length) (hm : m = ys.length) (ha : SliceAt w sa c xs) (hb : SliceAt w sb d ys) (hl : xs.length + ys.length ≤ 140737488355328) :
    Calls Tryd.prog 41 #[.slice sa n c, .slice sb m d] w fun e w' => ∃ v, e = .returned v ∧ w'.ownsRow w.heap.size 5 1 v (xs.length + ys.length) (ub (xs ++ ys)) ∧ Below w.heap.size w w' := by
  subst hn hm
  obtain ⟨i, hi, hz0, hz1, hz2⟩ := info_parts infoU8
  go_enter Tryd.func41, Tryd.ntmps41
  go_wp2_with fail
  go_loopw [6, 5] (fun j v wr => ∃ k : Nat, k ≤ xs.length ∧ j = .int .i64 k ∧ Below w.heap.size w wr ∧ wr.ownsRow w.heap.size 5 1 v (k) (ub (xs.take k))) (fun j _ _ => xs.length - (intOf j).toNat)
  case atStart => exact ⟨0, Nat.zero_le _, rfl, Below.refl _ _, World.ownsRow_nil _ _ _ _⟩
  case round =>
    obtain ⟨k, hk, rfl, hbw, ho⟩ := hrel
    by_cases hlt : k < xs.length
    · obtain ⟨tb, tq, rfl, hc⟩ : ∃ tb tq, sa = some ⟨tb, tq, none⟩ ∧ ∀ j, j < xs.length → w.cell? ⟨tb, tq + j, none⟩ = some (.int .u8 (xs.getD j 0)) := by
        rcases ha.bytes with h | h
        · rw [h] at hlt; simp at hlt
        · exact h
      have ck := (hbw.cell (p := ⟨tb, tq + k, none⟩) (block_lt_of_cell (hc k hlt))).trans (hc k hlt)
      have hltI : (k : Int) < xs.length := by omega
      have hst : Hid (xs.take (k + 1) = xs.take k ++ [xs.getD k 0]) := by
        show _ = _
        rw [List.take_succ_eq_append_getElem hlt]
        simp [List.getD, hlt]
      clear hc
      generalize xs.getD k 0 = x at ck hst
      go_wp2_with (at_builtin; refine wpList_append_own _ rfl _ _ 29 rfl w.heap.size 5 i (.int .u8 0) 1 1 Tryd.underlying29 hi hz0 hz1 hz2 rfl (by decide) _ (k) _ rfl (World.ownsRow.alloc ho _) ⟨wr.heap.size, 0, none⟩ 1 1 [.int .u8 x] rfl rfl (cells_new _ _ _) (u8_one [_]) (by unfold maxLen; omega) (by omega) (le_alloc hbw.size _) ?_; intro v1 w2 ho1 hg1 _)
      have hb2 := Below.grown (hbw.alloc hbw.size _) hg1 (le_alloc hbw.size _) (fun q e => (ho.lt q e).1)
      go_roundw
      case rel =>
        have hR : ∃ k' : Nat, k' ≤ xs.length ∧ (Value.int .i64 ((k : Int) + 1)) = .int .i64 k' ∧ Below w.heap.size w w2 ∧ w2.ownsRow w.heap.size 5 1 v1 (k') (ub (xs.take k')) :=
          ⟨k + 1, by omega, by go_num, hb2, by rw [hst.out]; simpa [ub, Nat.add_assoc] using ho1⟩
        first | exact hR | ((repeat apply Exists.intro); exact ⟨hR, rfl⟩)
      case measure => simp [intOf]; omega
    · obtain rfl : k = xs.length := by omega
      rw [List.take_of_length_le (Nat.le_refl _)] at ho
      go_wp2_with fail
      go_loopw [7, 5] (fun j v wr => ∃ k : Nat, k ≤ ys.length ∧ j = .int .i64 k ∧ Below w.heap.size w wr ∧ wr.ownsRow w.heap.size 5 1 v (xs.length + k) (ub (xs ++ ys.take k))) (fun j _ _ => ys.length - (intOf j).toNat)
      case atStart => exact ⟨0, Nat.zero_le _, rfl, hbw, by simpa using ho⟩
      case round =>
        clear ho hbw
        obtain ⟨k, hk, rfl, hbw, ho⟩ := hrel
        by_cases hlt : k < ys.length
        · obtain ⟨tb, tq, rfl, hc⟩ : ∃ tb tq, sb = some ⟨tb, tq, none⟩ ∧ ∀ j, j < ys.length → w.cell? ⟨tb, tq + j, none⟩ = some (.int .u8 (ys.getD j 0)) := by
            rcases hb.bytes with h | h
            · rw [h] at hlt; simp at hlt
            · exact h
          have ck := (hbw.cell (p := ⟨tb, tq + k, none⟩) (block_lt_of_cell (hc k hlt))).trans (hc k hlt)
          have hltI : (k : Int) < ys.length := by omega
          have hst : Hid (ys.take (k + 1) = ys.take k ++ [ys.getD k 0]) := by
            show _ = _
            rw [List.take_succ_eq_append_getElem hlt]
            simp [List.getD, hlt]
          clear hc
          generalize ys.getD k 0 = x at ck hst
          go_wp2_with (at_builtin; refine wpList_append_own _ rfl _ _ 29 rfl w.heap.size 5 i (.int .u8 0) 1 1 Tryd.underlying29 hi hz0 hz1 hz2 rfl (by decide) _ (xs.length + k) _ rfl (World.ownsRow.alloc ho _) ⟨wr.heap.size, 0, none⟩ 1 1 [.int .u8 x] rfl rfl (cells_new _ _ _) (u8_one [_]) (by unfold maxLen; omega) (by omega) (le_alloc hbw.size _) ?_; intro v1 w2 ho1 hg1 _)
          have hb2 := Below.grown (hbw.alloc hbw.size _) hg1 (le_alloc hbw.size _) (fun q e => (ho.lt q e).1)
          go_roundw
          case rel =>
            have hR : ∃ k' : Nat, k' ≤ ys.length ∧ (Value.int .i64 ((k : Int) + 1)) = .int .i64 k' ∧ Below w.heap.size w w2 ∧ w2.ownsRow w.heap.size 5 1 v1 (xs.length + k') (ub (xs ++ ys.take k')) :=
              ⟨k + 1, by omega, by go_num, hb2, by rw [hst.out]; simpa [ub, Nat.add_assoc] using ho1⟩
            first | exact hR | ((repeat apply Exists.intro); exact ⟨hR, rfl⟩)
          case measure => simp [intOf]; omega
        · obtain rfl : k = ys.length := by omega
          rw [List.take_of_length_le (Nat.le_refl _)] at ho
          go_wp2_with fail
          go_ret
          exact ⟨_, rfl, ho, hbw⟩
end Go.Proofs.YtgbomdikhidkoaaDoor

namespace Go.Proofs.YtgbomdikhidkoaaDoor
open Go.RowKit

set_option maxRecDepth 100000 in
set_option maxHeartbeats 1000000 in
theorem bytesCopies_any (ps : List Part) (sa : Option Addr) (n cap : Nat) (w : World) (hn : n = ps.length) (hr : ps.length * 24 ≤ 140737488355328) (hre : ∀ p ∈ ps, p.bs.length ≤ 140737488355328) (hp : PartsAt w sa ps) :
    Calls Tryd.prog 39 #[.slice sa n cap] w fun e w' => ∃ ra rc qs, e = .returned (.slice ra ps.length rc) ∧ Same qs ps ∧ ListAt w' ra rc qs ∧ Below w.heap.size w w' ∧ Fresh w.heap.size ra qs := by
  subst hn
  obtain ⟨i, hi, hz0, hz1, hz2⟩ := info_parts infoBs
  go_enter Tryd.func39, Tryd.ntmps39
  go_wp2_with fail
  go_loopw [4, 3] (fun j v wr => ∃ (k : Nat) (qs : List Part), k ≤ ps.length ∧ j = .int .i64 k ∧ Same qs (ps.take k) ∧ wr.ownsRow w.heap.size 29 1 v k (pv qs) ∧ Apart wr w.heap.size v qs ∧ Below w.heap.size w wr) (fun j _ _ => ps.length - (intOf j).toNat)
  case atStart => exact ⟨0, [], Nat.zero_le _, rfl, by simp [Same], World.ownsRow_nil _ _ _ _, (fun p hp => by cases hp), Below.refl _ _⟩
  case round =>
    obtain ⟨k, qs, hk, rfl, hS, ho, hap, hb⟩ := hrel
    by_cases hlt : k < ps.length
    · have hpw := hp.below hb
      obtain ⟨sb, so, rfl, hc⟩ : ∃ sb so, sa = some ⟨sb, so, none⟩ ∧ ∀ j (h : j < ps.length), wr.cell? ⟨sb, so + j, none⟩ = some (.slice (ps[j]).sa (ps[j]).bs.length (ps[j]).cap) := by
        rcases hpw.cells with h | h
        · rw [h] at hlt; simp at hlt
        · exact h
      have ck := hc k hlt
      have hx := hpw.each (ps[k]) (List.getElem_mem hlt)
      have hxr := hre (ps[k]) (List.getElem_mem hlt)
      have hst : Hid (ps.take (k + 1) = ps.take k ++ [ps[k]]) := List.take_succ_eq_append_getElem hlt
      have hltI : (k : Int) < ps.length := by omega
      clear hc
      generalize ps[k] = p at *
      go_wp2_with fail
      refine (joined_any p.bs [] p.sa none _ _ p.cap 0 wr rfl rfl hx (nilSlice _) (by simpa using hxr)).mono ?_
      rintro e w2 ⟨v2, he, ho2, hb2⟩
      subst he
      dsimp only
      simp only [List.append_nil, List.length_nil, Nat.add_zero] at ho2
      obtain ⟨ra, rc, hv, _, hs2⟩ := owns_form ho2
      subst hv
      have hob := owns_keep ho hb2
      have hB2 := hb.trans (hb2.mono hb.size)
      go_wp2_with (at_builtin; refine wpList_append_own_at _ rfl _ _ 30 rfl w.heap.size 29 i (.slice none 0 0) 1 24 Tryd.underlying30 hi hz0 hz1 hz2 rfl (by decide) _ k _ rfl (World.ownsRow.alloc hob _) ⟨w2.heap.size, 0, none⟩ 1 1 [.slice ra p.bs.length rc] rfl rfl (cells_new _ _ _) (by intro u hu; simp at hu; subst hu; rfl) (by unfold maxLen; omega) (by omega) (le_alloc hB2.size _) ?_; intro v1 w3 ho3 hg3 _ hat)
      have G := Grew.of hg3 hat
      have hap3 := hap.more (q := ⟨ra, rc, p.bs⟩) hb.size ho hb2 ho2 hs2 G
      have hB3 := Below.grown (hB2.alloc hB2.size _) hg3 (le_alloc hB2.size _) (fun q e => (hob.lt q e).1)
      go_roundw
      case rel =>
        have hR : ∃ (k' : Nat) (qs' : List Part), k' ≤ ps.length ∧ (Value.int .i64 ((k : Int) + 1)) = .int .i64 k' ∧ Same qs' (ps.take k') ∧ w3.ownsRow w.heap.size 29 1 v1 k' (pv qs') ∧ Apart w3 w.heap.size v1 qs' ∧ Below w.heap.size w w3 :=
          ⟨k + 1, qs ++ [⟨ra, rc, p.bs⟩], by omega, by go_num, by rw [hst.out]; simp only [Same, List.map_append] at hS ⊢; rw [hS]; rfl, by simpa [pv, Part.val] using ho3, hap3, hB3⟩
        first | exact hR | ((repeat apply Exists.intro); exact ⟨hR, rfl⟩)
      case measure => simp [intOf]; omega
    · obtain rfl : k = ps.length := by omega
      rw [List.take_of_length_le (Nat.le_refl _)] at hS
      obtain ⟨ra, rc, hv, hl, hL, hfr⟩ := listAt_of_owns ho hap
      subst hv
      go_wp2_with fail
      go_ret
      exact ⟨ra, rc, qs, rfl, hS, hL (by omega), hb, hfr⟩
end Go.Proofs.YtgbomdikhidkoaaDoor

namespace Go.Proofs.YtgbomdikhidkoaaDoor
open Go.RowKit

set_option maxRecDepth 100000 in
theorem Fresh.mono {B B' : Nat} {ra : Option Addr} {qs : List Part} (h : Fresh B ra qs) (hB : B' ≤ B) : Fresh B' ra qs := ⟨fun sb so e => Nat.le_trans hB (h.row sb so e), fun p hp sb so e => Nat.le_trans hB (h.each p hp sb so e)⟩
set_option maxRecDepth 100000 in
set_option maxHeartbeats 1000000 in
theorem headerCopy_any (au rd : Int) (ba : Option Addr) (bc : Nat) (bl : List Part) (pa : Option Addr) (pc : Nat) (pl : List Part) (w : World) (hb : ReadAt w ba bc bl) (hp : ReadAt w pa pc pl) :
    Calls Tryd.prog 17 #[.agg #[.int .i64 au, .int .i64 rd, .slice ba bl.length bc, .slice pa pl.length pc]] w fun e w' => ∃ xa xc xs ya yc ys, e = .returned (.agg #[.int .i64 au, .int .i64 rd, .slice xa bl.length xc, .slice ya pl.length yc]) ∧ Same xs bl ∧ Same ys pl ∧ ListAt w' xa xc xs ∧ ListAt w' ya yc ys ∧ Below w.heap.size w w' ∧ Fresh w.heap.size xa xs ∧ Fresh w.heap.size ya ys := by
  have hR : Below w.heap.size w ((w.alloc (.cells #[.int .i64 au, .int .i64 rd, .slice ba bl.length bc, .slice pa pl.length pc] 32)).alloc (.cells #[.int .i64 0, .int .i64 0, .slice none 0 0, .slice none 0 0] 32)) := ((Below.refl _ _).alloc (Nat.le_refl _) _).alloc (by simp) _
  have q0 := heap_alloc2_old w (.cells #[.int .i64 au, .int .i64 rd, .slice ba bl.length bc, .slice pa pl.length pc] 32) (.cells #[.int .i64 0, .int .i64 0, .slice none 0 0, .slice none 0 0] 32)
  have k0 : ((w.alloc (.cells #[.int .i64 au, .int .i64 rd, .slice ba bl.length bc, .slice pa pl.length pc] 32)).alloc (.cells #[.int .i64 0, .int .i64 0, .slice none 0 0, .slice none 0 0] 32)).cell? ⟨w.heap.size, 0, none⟩ = some (.int .i64 au) := cells_at q0 0 _ rfl
  have k1 : ((w.alloc (.cells #[.int .i64 au, .int .i64 rd, .slice ba bl.length bc, .slice pa pl.length pc] 32)).alloc (.cells #[.int .i64 0, .int .i64 0, .slice none 0 0, .slice none 0 0] 32)).cell? ⟨w.heap.size, 1, none⟩ = some (.int .i64 rd) := cells_at q0 1 _ rfl
  have k2 : ((w.alloc (.cells #[.int .i64 au, .int .i64 rd, .slice ba bl.length bc, .slice pa pl.length pc] 32)).alloc (.cells #[.int .i64 0, .int .i64 0, .slice none 0 0, .slice none 0 0] 32)).cell? ⟨w.heap.size, 2, none⟩ = some (.slice ba bl.length bc) := cells_at q0 2 _ rfl
  have k3 : ((w.alloc (.cells #[.int .i64 au, .int .i64 rd, .slice ba bl.length bc, .slice pa pl.length pc] 32)).alloc (.cells #[.int .i64 0, .int .i64 0, .slice none 0 0, .slice none 0 0] 32)).cell? ⟨w.heap.size, 3, none⟩ = some (.slice pa pl.length pc) := cells_at q0 3 _ rfl
  go_enter Tryd.func17, Tryd.ntmps17
  go_wp2_with fail
  go_region_held2 (fun w' => w'.cell? ⟨w.heap.size, 0, none⟩ = some (.int .i64 au) ∧ w'.cell? ⟨w.heap.size, 1, none⟩ = some (.int .i64 rd) ∧ w'.cell? ⟨w.heap.size, 2, none⟩ = some (.slice ba bl.length bc) ∧ w'.cell? ⟨w.heap.size, 3, none⟩ = some (.slice pa pl.length pc)) (go_keep) (first | (go_at_call 39; refine (bytesCopies_any pl pa _ pc w1 rfl hp.reach hp.each (hp.list.below (below_alloc (below_alloc hb1))).parts).mono ?_; rintro e w2 ⟨ya, yc, ys, rfl, hS2, hL2, hb2, hF2⟩; have s0 := (hb2.block _ (lt_of_heap r0)).trans r0; have s1 := (hb2.block _ (lt_of_heap r1)).trans r1; have e0 : w2.cell? ⟨w.heap.size, 0, none⟩ = some (.int .i64 au) := cells_at s0 0 _ rfl; have e1 : w2.cell? ⟨w.heap.size, 1, none⟩ = some (.int .i64 rd) := cells_at s0 1 _ rfl; have e2 : w2.cell? ⟨w.heap.size, 2, none⟩ = some (.slice ba bl.length bc) := cells_at s0 2 _ rfl; have e3 : w2.cell? ⟨w.heap.size, 3, none⟩ = some (.slice pa pl.length pc) := cells_at s0 3 _ rfl; have d0 := cells_at s1 0 _ rfl; have d1 := cells_at s1 1 _ rfl; have d2 := cells_at s1 2 _ rfl; have d3 := cells_at s1 3 _ rfl; have f0 := frozen_at s1 0; have f1 := frozen_at s1 1; have f2 := frozen_at s1 2; have f3 := frozen_at s1 3) | (go_at_call 39; refine (bytesCopies_any bl ba _ bc ((w.alloc (.cells #[.int .i64 au, .int .i64 rd, .slice ba bl.length bc, .slice pa pl.length pc] 32)).alloc (.cells #[.int .i64 0, .int .i64 0, .slice none 0 0, .slice none 0 0] 32)).drew rfl hb.reach hb.each (hb.list.below hR.drew).parts).mono ?_; rintro e w1 ⟨xa, xc, xs, rfl, hS1, hL1, hb1, hF1⟩; replace hb1 := below_drew hb1; rw [heap_drew, size_alloc, size_alloc] at hF1; have r1 := row_new hb1; have r0 := row_new (below_alloc hb1); rw [size_alloc] at r1; have c0 : w1.cell? ⟨w.heap.size, 0, none⟩ = some (.int .i64 au) := cells_at r0 0 _ rfl; have c1 : w1.cell? ⟨w.heap.size, 1, none⟩ = some (.int .i64 rd) := cells_at r0 1 _ rfl; have c2 : w1.cell? ⟨w.heap.size, 2, none⟩ = some (.slice ba bl.length bc) := cells_at r0 2 _ rfl; have c3 : w1.cell? ⟨w.heap.size, 3, none⟩ = some (.slice pa pl.length pc) := cells_at r0 3 _ rfl))
  all_goals
    go_wp2_with fail
    have hsz : w.heap.size + 1 + 1 ≤ w1.heap.size := by have := hb1.size; rw [size_alloc, size_alloc] at this; exact this
    have g1 : w.heap.size + 1 < w.heap.size + 1 + 1 := Nat.lt_succ_self _
    have g2 : w.heap.size + 1 < w1.heap.size := by omega
    have hW1 := below_alloc (below_alloc hb1)
    have hW2 := hW1.trans (hb2.mono hW1.size)
    refine bodyPost_ret (v := .agg #[.int .i64 au, .int .i64 rd, .slice xa bl.length xc, .slice ya pl.length yc]) (by simp [results, Tryd.results17, go_sem, d0, d1, d2, d3]) rfl ⟨xa, xc, xs, ya, yc, ys, rfl, hS1, hS2, ?_, ?_, ?_, hF1.mono (by omega), hF2.mono hW1.size⟩
    · exact ((((hL1.below hb2).setCell hF1 _ _ _ g1).setCell hF1 _ _ _ g1).setCell hF1 _ _ _ g1).setCell hF1 _ _ _ g1
    · exact (((hL2.setCell hF2 _ _ _ g2).setCell hF2 _ _ _ g2).setCell hF2 _ _ _ g2).setCell hF2 _ _ _ g2
    · exact (((hW2.setCell (Nat.le_succ _) _).setCell (Nat.le_succ _) _).setCell (Nat.le_succ _) _).setCell (Nat.le_succ _) _
end Go.Proofs.YtgbomdikhidkoaaDoor

namespace Go.Proofs.YtgbomdikhidkoaaDoor
open Go.ChangeShapes Go.WideShapes Go.ChangeAt Go.RowKit Go.Deep

set_option maxRecDepth 100000 in
theorem cHeader : Tryd.prog.cellsOf 32 = 4 := by kernel_rfl
set_option maxRecDepth 100000 in
theorem cIntL : Tryd.prog.cellsOf 3 = 1 := by kernel_rfl
set_option maxRecDepth 100000 in
theorem cLists : Tryd.prog.cellsOf 30 = 1 := by kernel_rfl
set_option maxRecDepth 100000 in
theorem open_header_cells {H : Type} {enc : TypeId × Value → H} {W : World} {fuel : Nat} {cs : List Value} {x : DataW H × List MemPlace}
    (hf : DataW.trod enc Tryd.prog W 0 (fun _ => true) true fuel 32 cs = some x) (hfit : ∀ n ∈ x.1.weights Tryd.prog 32, n ≤ reachBytes) :
    ∃ au rd ba bc bl pa pc pl, cs = [.int .i64 au, .int .i64 rd, .slice ba (List.length bl) bc, .slice pa (List.length pl) pc] ∧ I64 au ∧ I64 rd ∧ ReadAt W ba bc bl ∧ ReadAt W pa pc pl := by
  obtain ⟨xs, n, _, rfl, hl, hlen, hg⟩ := DataW.trod_struct Tryd.underlying32 hf
  rw [cHeader] at hl
  match xs, hlen with
  | [y0, y1, y2, y3], _ =>
  have h0 := hg 0 _ rfl
  have h1 := hg 1 _ rfl
  have h2 := hg 2 _ rfl
  have h3 := hg 3 _ rfl
  match cs, hl with
  | [c0, c1, c2, c3], _ =>
  obtain ⟨a0, e0, rfl, w0⟩ := DataW.trod_int Tryd.underlying3 h0
  obtain ⟨a1, e1, rfl, w1⟩ := DataW.trod_int Tryd.underlying3 h1
  obtain ⟨ba, bc, bl, e2, hb, _⟩ := open_lists_cells h2 (fun n hn => hfit n (by simp [DataW.weights, DataW.weightsEach, Tryd.underlying32, hn]))
  obtain ⟨pa, pc, pl, e3, hp, _⟩ := open_lists_cells h3 (fun n hn => hfit n (by simp [DataW.weights, DataW.weightsEach, Tryd.underlying32, hn]))
  simp [cIntL, cLists] at e0 e1 e2 e3
  subst e0 e1 e2 e3
  exact ⟨a0, a1, ba, bc, bl, pa, pc, pl, rfl, bounds_i64 w0, bounds_i64 w1, hb, hp⟩
set_option maxRecDepth 100000 in
theorem open_header {H : Type} {enc : TypeId × Value → H} {W : World} {base : Nat} {v : Value} {d : DataW H} {p : List MemPlace}
    (hv : Value.okWide Tryd.prog W .any base 32 v) (h : DataW.Trod enc Tryd.prog W 0 (fun _ => true) true 32 v d p) (hfit : ∀ n ∈ d.weights Tryd.prog 32, n ≤ reachBytes) :
    ∃ au rd ba bc bl pa pc pl, v = .agg #[.int .i64 au, .int .i64 rd, .slice ba (List.length bl) bc, .slice pa (List.length pl) pc] ∧ I64 au ∧ I64 rd ∧ ReadAt W ba bc bl ∧ ReadAt W pa pc pl := by
  obtain ⟨cs, rfl, _⟩ := okWide_struct Tryd.underlying32 hv
  obtain ⟨fuel, hf⟩ := h
  obtain ⟨au, rd, ba, bc, bl, pa, pc, pl, hcs, h1, h2, h3, h4⟩ := open_header_cells hf hfit
  refine ⟨au, rd, ba, bc, bl, pa, pc, pl, ?_, h1, h2, h3, h4⟩
  have : cs.toList = _ := hcs
  rw [← this]
end Go.Proofs.YtgbomdikhidkoaaDoor

namespace Go.Proofs.YtgbomdikhidkoaaDoor
open Go.ChangeShapes Go.WideShapes Go.ChangeAt Go.RowKit Go.Deep

set_option maxRecDepth 100000 in
theorem cCert : Tryd.prog.cellsOf 35 = 5 := by kernel_rfl
set_option maxRecDepth 100000 in
theorem cHeaderC : Tryd.prog.cellsOf 32 = 4 := by kernel_rfl
set_option maxRecDepth 100000 in
theorem cIntsC : Tryd.prog.cellsOf 33 = 1 := by kernel_rfl
set_option maxRecDepth 100000 in
theorem bIntC : Tryd.prog.bytesOf 3 = 8 := by kernel_rfl
/-- What is read of a list of numbers that came in. -/
structure NumsAt (w : World) (va : Option Addr) (vc : Nat) (vl : List Int) : Prop where
  ints : IntsAt w va vl
  le : vl.length ≤ vc
  reach : vc * 8 ≤ 140737488351232
set_option maxRecDepth 100000 in
theorem open_nums_cells {H : Type} {enc : TypeId × Value → H} {W : World} {fuel : Nat} {cs : List Value} {x : DataW H × List MemPlace}
    (hf : DataW.trod enc Tryd.prog W 0 (fun _ => true) true fuel 33 cs = some x) (hfit : ∀ n ∈ x.1.weights Tryd.prog 33, n ≤ reachBytes) :
    ∃ va vc vl, cs = [.slice va (List.length vl) vc] ∧ NumsAt W va vc vl := by
  rcases open_ints Tryd.underlying33 Tryd.underlying3 cIntL hf with ⟨rfl, _⟩ | ⟨a, len, cap, zs, rfl, _, hl, hm, hz, rfl, hcell, _⟩
  · exact ⟨none, 0, [], rfl, ⟨⟨.inl rfl⟩, Nat.le_refl _, by decide⟩⟩
  · have hw := hfit (((zs.take len).length + (zs.drop len).length) * Tryd.prog.bytesOf 3) (by simp [DataW.weights, Tryd.underlying33, lits])
    rw [bIntC] at hw
    simp only [if_true] at hz
    simp [reachBytes] at hw
    have hlen : (zs.take len).length = len := by rw [List.length_take, hz]; omega
    refine ⟨some a, cap, zs.take len, by rw [hlen], ⟨⟨?_⟩, by omega, by omega⟩⟩
    rcases Nat.eq_zero_or_pos cap with h0 | h0
    · left
      exact List.eq_nil_of_length_eq_zero (by omega)
    · obtain ⟨b, off, rfl, hc⟩ := ints_at hcell (by omega)
      refine .inr ⟨b, off, rfl, fun j hj => ?_⟩
      rw [hc j (by omega)]
      have : j < len := by omega
      simp [List.getD, this]
set_option maxRecDepth 100000 in
theorem open_cert {H : Type} {enc : TypeId × Value → H} {W : World} {base : Nat} {v : Value} {d : DataW H} {p : List MemPlace}
    (hv : Value.okWide Tryd.prog W .any base 35 v) (h : DataW.Trod enc Tryd.prog W 0 (fun _ => true) true 35 v d p) (hfit : ∀ n ∈ d.weights Tryd.prog 35, n ≤ reachBytes) :
    ∃ au rd ba bc bl pa pc pl va vc vl, v = .agg #[.int .i64 au, .int .i64 rd, .slice ba bl.length bc, .slice pa pl.length pc, .slice va vl.length vc] ∧ I64 au ∧ I64 rd ∧ ReadAt W ba bc bl ∧ ReadAt W pa pc pl ∧ NumsAt W va vc vl := by
  obtain ⟨cs, rfl, _⟩ := okWide_struct Tryd.underlying35 hv
  obtain ⟨fuel, hf⟩ := h
  obtain ⟨y0, y1, n, hx, hl, h0, h1⟩ := trod_struct2 Tryd.underlying35 hf
  simp only [Prod.mk.injEq] at hx
  obtain ⟨rfl, rfl⟩ := hx
  rw [cCert] at hl
  obtain ⟨l⟩ := cs
  match l, hl with
  | [c0, c1, c2, c3, c4], _ =>
  obtain ⟨au, rd, ba, bc, bl, pa, pc, pl, e0, i0, i1, hb, hp⟩ := open_header_cells h0 (fun n hn => hfit n (by simp [DataW.weights, DataW.weightsEach, Tryd.underlying35, hn]))
  obtain ⟨va, vc, vl, e1, hn⟩ := open_nums_cells h1 (fun n hn => hfit n (by simp [DataW.weights, DataW.weightsEach, Tryd.underlying35, hn]))
  simp [cHeaderC, cIntsC, Value.cells] at e0 e1
  obtain ⟨rfl, rfl, rfl, rfl⟩ := e0
  subst e1
  exact ⟨au, rd, ba, bc, bl, pa, pc, pl, va, vc, vl, rfl, i0, i1, hb, hp, hn⟩
end Go.Proofs.YtgbomdikhidkoaaDoor
