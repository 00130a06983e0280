/- Batches of raw numbers may be. -/
import Derived.Test.YtcecjdoabnhcgaaDoorSx
import Derived.Laws.Strings
import Derived.Test.YtcecjdoabnhcgaaDoorStrsAt
import Derived.Deep.RegionHeld
import Derived.Test.YtcecjdoabnhcgaaDoorPK
import Derived.ProofKit
import Derived.OpenShut
import Derived.SizedLaws
import Derived.Deep.Strs
import Derived.Test.YtcecjdoabnhcgaaDoorDigestMadeM0
import Derived.Test.YtcecjdoabnhcgaaDoorPicked
import Derived.Shelf.Abstract
import Derived.Deep.RegionHeld3
import Derived.Deep.CutRange
import Derived.Deep.DeepCutAuto
import Derived.Test.YtcecjdoabnhcgaaDoorBunF
namespace Go.Proofs.YtcecjdoabnhcgaaDoor
open Go.RowKit

/-- A transaction of a raw text: one sign, or its first twenty bytes. -/
def txS (s : ByteArray) : ByteArray := if s.size = 0 then ⟨#[120]⟩ else s.extract 0 (min s.size 20)
set_option maxRecDepth 100000 in
theorem txS_size (s : ByteArray) : 1 ≤ (txS s).size ∧ (txS s).size ≤ 20 := by
  unfold txS
  by_cases h : s.size = 0
  · rw [if_pos h]; exact ⟨by decide, by decide⟩
  · rw [if_neg h]; simp; omega
set_option maxRecDepth 100000 in
theorem ret_str {a b : ByteArray} (h : a = b) : Ending.returned (.string a) = .returned (.string b) := by rw [h]
set_option maxRecDepth 100000 in
theorem cut_any (s : ByteArray) (w : World) (hs : s.size ≤ maxLen) :
    Calls Tryd.prog 52 #[.string s, .int .i64 20] w fun e w' => e = .returned (.string (s.extract 0 (min s.size 20))) ∧ w = w' := by
  unfold maxLen at hs
  by_cases h : s.size ≤ 20
  · have hm : min s.size 20 = s.size := by omega
    rw [hm]
    go_enter Tryd.func52, Tryd.ntmps52
    go_wp2_with fail
    go_ret
    exact ⟨ret_str (by simp), rfl⟩
  · have hm : min s.size 20 = 20 := by omega
    rw [hm]
    go_enter Tryd.func52, Tryd.ntmps52
    go_wp2_with fail
    go_ret
    exact ⟨rfl, rfl⟩
set_option maxRecDepth 100000 in
theorem empty_text (s : ByteArray) : s.toList.isEmpty = true ↔ s.size = 0 := by
  rw [List.isEmpty_iff, ← List.length_eq_zero_iff, ByteArray.toList_eq, Array.length_toList, ByteArray.size_data]
set_option maxRecDepth 100000 in
theorem tx_any (s : ByteArray) (w : World) (hs : s.size ≤ maxLen) :
    Calls Tryd.prog 34 #[.string s] w fun e w' => e = .returned (.string (txS s)) ∧ w = w' := by
  by_cases h : s.size = 0
  · have h1 : s.toList.isEmpty = true := (empty_text s).2 h
    have hF : Hid (txS s = ⟨#[120]⟩) := by show _ = _; rw [txS, if_pos h]
    clear h
    go_enter Tryd.func34, Tryd.ntmps34
    go_wp2_with fail
    go_ret
    exact ⟨ret_str hF.out.symm, rfl⟩
  · have h1 : s.toList.isEmpty = false := by
      rw [Bool.eq_false_iff]; exact fun e => h ((empty_text s).1 e)
    have hF : Hid (txS s = s.extract 0 (min s.size 20)) := by show _ = _; rw [txS, if_neg h]
    go_enter Tryd.func34, Tryd.ntmps34
    go_wp2_with fail
    refine (cut_any s w hs).mono ?_
    rintro e w1 ⟨he, rfl⟩
    subst he
    dsimp only
    go_wp2_with fail
    go_ret
    exact ⟨ret_str hF.out.symm, rfl⟩
end Go.Proofs.YtcecjdoabnhcgaaDoor

namespace Go.Proofs.YtcecjdoabnhcgaaDoor
open Go.RowKit

set_option maxRecDepth 100000 in
theorem infoStr : (Tryd.prog.info? 9).map (fun i => (i.zero, i.size, i.bytes)) = some (some (.string ByteArray.empty), 1, 16) := by kernel_rfl
def sv (ss : List ByteArray) : List Value := ss.map Value.string
set_option maxRecDepth 100000 in
theorem sv_length (ss : List ByteArray) : (sv ss).length = ss.length := by simp [sv]
set_option maxRecDepth 100000 in
theorem sv_one (ss : List ByteArray) : ∀ u ∈ sv ss, u.oneCell' = true := by
  intro u hu; simp [sv] at hu; obtain ⟨x, _, rfl⟩ := hu; rfl
set_option maxRecDepth 100000 in
theorem strsAt_of_owns {w : World} {base n : Nat} {v : Value} {ss : List ByteArray} (h : w.ownsRow base 9 1 v n (sv ss)) (hz : ∀ s ∈ ss, s.size ≤ maxLen) : ∃ ra rc, v = .slice ra n rc ∧ n = ss.length ∧ StrsAt w ra ss ∧ ∀ sb so, ra = some ⟨sb, so, none⟩ → base ≤ sb := by
  have hl : n = ss.length := by have := h.1; rw [sv_length] at this; omega
  rcases h.2 with ⟨rfl, hn⟩ | ⟨g, cap, cur, rfl, _⟩
  · have hb : ss = [] := List.eq_nil_of_length_eq_zero (by omega)
    subst hn hb
    exact ⟨none, 0, rfl, rfl, ⟨.inl rfl, hz⟩, fun _ _ e => by cases e⟩
  · refine ⟨some ⟨g, 0, none⟩, cap, rfl, hl, ⟨.inr ⟨g, 0, rfl, fun j hj => ?_⟩, hz⟩, fun sb so e => by cases e; exact (h.lt _ rfl).1⟩
    rw [Nat.zero_add, World.ownsRow.cellAt h j (by omega)]
    simp [sv, hj]
set_option maxRecDepth 100000 in
theorem StrsAt.setCell {w : World} {sa : Option Addr} {ss : List ByteArray} (h : StrsAt w sa ss) (b j : Nat) (v : Value) (hne : ∀ sb so, sa = some ⟨sb, so, none⟩ → b ≠ sb) : StrsAt (w.setCell ⟨b, j, none⟩ v) sa ss := by
  refine ⟨?_, h.size⟩
  rcases h.cells with h | ⟨sb, so, rfl, hc⟩
  · exact .inl h
  · exact .inr ⟨sb, so, rfl, fun k hk => (World.cell?_setCell_far _ _ _ _ (hne sb so rfl)).trans (hc k hk)⟩
end Go.Proofs.YtcecjdoabnhcgaaDoor

namespace Go.Proofs.YtcecjdoabnhcgaaDoor
open Go.ChangeShapes Go.WideShapes Go.ChangeAt Go.RowKit

set_option maxRecDepth 100000 in
theorem cU8 : Tryd.prog.cellsOf 5 = 1 := by kernel_rfl
set_option maxRecDepth 100000 in
theorem own : ownKnob Tryd.prog.godebug = none := by kernel_rfl
set_option maxRecDepth 100000 in
theorem laidOut : laidOutB Tryd.prog = true := by kernel_rfl
/-- Each is a byte. -/
def AllU8 (bs : List Int) : Prop := ∀ x ∈ bs, 0 ≤ x ∧ x ≤ 255
set_option maxRecDepth 100000 in
theorem open_bytes_cells {H : Type} {enc : TypeId × Value → H} {W : World} {fuel : Nat} {cs : List Value} {x : DataW H × List MemPlace}
    (hf : DataW.trod enc Tryd.prog W 0 (fun _ => true) true fuel 25 cs = some x) :
    ∃ sa cap bs, cs = [.slice sa (List.length bs) cap] ∧ SliceAt W sa cap bs ∧ AllU8 bs := by
  rcases open_ints Tryd.underlying25 Tryd.underlying5 cU8 hf with ⟨rfl, _⟩ | ⟨x, len0, cap0, zs, rfl, _, hl, hm, hz, _, hcell, hwz⟩
  · exact ⟨none, 0, [], rfl, ⟨Nat.le_refl _, by decide, .inl rfl, fun _ => rfl, .inl rfl⟩, fun x hx => by cases hx⟩
  · simp only [if_true] at hz
    have hlen : (zs.take len0).length = len0 := by rw [List.length_take, hz]; omega
    refine ⟨some x, cap0, zs.take len0, by rw [hlen], ?_, fun y hy => bounds_u8 (hwz y (List.mem_of_mem_take hy))⟩
    rcases Nat.eq_zero_or_pos cap0 with h0 | h0
    · subst h0
      obtain rfl : len0 = 0 := by omega
      exact ⟨by simp, hm, .inl rfl, fun _ => rfl, .inl (by simp)⟩
    · obtain ⟨b, off, rfl, hc⟩ := ints_at hcell (by omega)
      refine ⟨by omega, hm, .inr ⟨b, off, rfl⟩, (fun e => by cases e), .inr ⟨b, off, rfl, fun j hj => ?_⟩⟩
      rw [hc j (by omega)]
      have : j < len0 := by omega
      simp [List.getD, this]
set_option maxRecDepth 100000 in
theorem open_bytes {H : Type} {enc : TypeId × Value → H} {W : World} {base : Nat} {v : Value} {d : DataW H} {p : List MemPlace}
    (hv : Value.okWide Tryd.prog W .any base 25 v) (h : DataW.Trod enc Tryd.prog W 0 (fun _ => true) true 25 v d p) :
    ∃ sa cap bs, v = .slice sa (List.length bs) cap ∧ SliceAt W sa cap bs ∧ AllU8 bs := by
  obtain ⟨a0, len0, cap0, rfl⟩ := okWide_slice Tryd.underlying25 hv
  obtain ⟨fuel, hf⟩ := h
  obtain ⟨sa, cap, bs, hcs, h1, h2⟩ := open_bytes_cells hf
  simp [Value.cells] at hcs
  obtain ⟨rfl, rfl, rfl⟩ := hcs
  exact ⟨_, _, bs, rfl, h1, h2⟩
set_option maxRecDepth 100000 in
theorem bU8 : Tryd.prog.bytesOf 5 = 1 := by kernel_rfl
set_option maxRecDepth 100000 in
/-- The form's own reach, of one argument. -/
theorem fit_each {H : Type} {ts : List TypeId} {ds : List (DataW H)} (h : (DataW.weightsEach Tryd.prog ts ds).all (· ≤ reachBytes) = true) {j : Nat} {t : TypeId} {d : DataW H} (ht : ts[j]? = some t) (hd : ds[j]? = some d) : ∀ n ∈ d.weights Tryd.prog t, n ≤ reachBytes := fun n hn => by
  simpa using List.all_eq_true.1 h n (DataW.weights_mem_each ht hd n hn)
set_option maxRecDepth 100000 in
/-- A slice of bytes has room for so many. -/
theorem bytes_fit {H : Type} {enc : TypeId × Value → H} {W : World} {fuel : Nat} {cs : List Value} {x : DataW H × List MemPlace} {sa : Option Addr} {n cap : Nat}
    (hf : DataW.trod enc Tryd.prog W 0 (fun _ => true) true fuel 25 cs = some x) (hfit : ∀ n ∈ x.1.weights Tryd.prog 25, n ≤ reachBytes) (e : cs = [.slice sa n cap]) : cap ≤ 140737488351232 := by
  rcases open_ints Tryd.underlying25 Tryd.underlying5 cU8 hf with ⟨rfl, _⟩ | ⟨a, len, cap', zs, rfl, _, hl, hm, hz, rfl, _, _⟩
  · simp at e
    omega
  · simp at e
    obtain ⟨_, rfl, rfl⟩ := e
    have := hfit (((zs.take len).length + (zs.drop len).length) * Tryd.prog.bytesOf 5) (by simp [DataW.weights, Tryd.underlying25, lits])
    rw [bU8] at this
    simp only [if_true] at hz
    simp [reachBytes] at this
    omega
end Go.Proofs.YtcecjdoabnhcgaaDoor

namespace Go.Proofs.YtcecjdoabnhcgaaDoor
open Go.ChangeShapes Go.WideShapes Go.ChangeAt Go.RowKit Go.Deep

/-- What is read of a slice of texts that came in. -/
structure TextsAt (w : World) (sa : Option Addr) (cap : Nat) (ss : List ByteArray) : Prop where
  le : ss.length ≤ cap
  reach : cap * 16 ≤ 140737488351232
  nil : sa = none → cap = 0
  strs : StrsAt w sa ss
set_option maxRecDepth 100000 in
theorem TextsAt.below {w w' : World} {sa : Option Addr} {cap : Nat} {ss : List ByteArray} (h : TextsAt w sa cap ss) (hb : Below w.heap.size w w') : TextsAt w' sa cap ss := ⟨h.le, h.reach, h.nil, h.strs.below hb⟩

set_option maxRecDepth 100000 in
theorem cStr : Tryd.prog.cellsOf 9 = 1 := by kernel_rfl
set_option maxRecDepth 100000 in
theorem bStr : Tryd.prog.bytesOf 9 = 16 := by kernel_rfl
set_option maxRecDepth 100000 in
theorem open_texts_cells {H : Type} {enc : TypeId × Value → H} {W : World} {fuel : Nat} {cs : List Value} {x : DataW H × List MemPlace}
    (hf : DataW.trod enc Tryd.prog W 0 (fun _ => true) true fuel 22 cs = some x) (hfit : ∀ n ∈ x.1.weights Tryd.prog 22, n ≤ reachBytes) :
    ∃ sa cap ss, cs = [.slice sa (List.length ss) cap] ∧ TextsAt W sa cap ss := by
  rcases open_strs Tryd.underlying22 Tryd.underlying9 cStr hf with ⟨rfl, _⟩ | ⟨a, len, cap, m, Sx, rfl, _, hl, hm, hmm, rfl, hc⟩
  · exact ⟨none, 0, [], rfl, ⟨Nat.le_refl _, by decide, fun _ => rfl, ⟨.inl rfl, fun s hs => by cases hs⟩⟩⟩
  · simp only [if_true] at hmm
    subst hmm
    have hw := hfit ((((List.range len).map fun i => (DataW.lit (.string (Sx i).data.toList) : DataW H)).length + ((List.range (m - len)).map fun j => (DataW.lit (.string (Sx (len + j)).data.toList) : DataW H)).length) * Tryd.prog.bytesOf 9) (by simp [DataW.weights, Tryd.underlying22])
    rw [bStr] at hw
    simp [reachBytes] at hw
    refine ⟨some a, m, (List.range len).map Sx, by simp, ⟨by simpa using hl, by omega, (fun e => by cases e), ⟨?_, ?_⟩⟩⟩
    · rcases Nat.eq_zero_or_pos len with h0 | h0
      · subst h0; exact .inl rfl
      · right
        have h9 := (hc 0 (by omega)).1
        obtain ⟨b, off, rfl⟩ : ∃ b off, a = ⟨b, off, none⟩ := by
          cases a with
          | mk b off spot =>
            cases spot with
            | none => exact ⟨b, off, rfl⟩
            | some s => simp [World.cell?, Addr.add] at h9; split at h9 <;> cases h9
        refine ⟨b, off, rfl, fun j hj => ?_⟩
        have hj' : j < len := by simpa using hj
        have := (hc j (by omega)).1
        rw [add_off] at this
        rw [this]
        simp [hj']
    · intro s hs
      simp at hs
      obtain ⟨j, hj, rfl⟩ := hs
      exact (hc j (by omega)).2
end Go.Proofs.YtcecjdoabnhcgaaDoor

namespace Go.Proofs.YtcecjdoabnhcgaaDoor
open Go.RowKit

/-- The transactions of a raw batch. -/
def bTxs (ss : List ByteArray) : List ByteArray := if ss = [] then [⟨#[116]⟩] else (ss.take 4).map txS
set_option maxRecDepth 100000 in
set_option maxHeartbeats 1000000 in
theorem batch_raw (ki ra rb rc : Int) (sa : Option Addr) (cap : Nat) (ss : List ByteArray) (w : World) (h2 : I64 ra) (h3 : I64 rb) (h5 : TextsAt w sa cap ss) :
    Calls Tryd.prog 15 #[.agg #[.int .i64 ki, .int .i64 ra, .int .i64 rb, .int .i64 rc, .slice sa ss.length cap]] w fun e w' => ∃ ba bc, e = .returned (.agg #[.int .i64 (pk ra 4), .int .i64 (1 + pk rb 9), .slice ba (bTxs ss).length bc]) ∧ w'.ownsRow w.heap.size 9 1 (.slice ba (bTxs ss).length bc) (bTxs ss).length (sv (bTxs ss)) ∧ Below w.heap.size w w' := by
  obtain ⟨pa0, pa1⟩ := pk_bounds ra 4 (by decide)
  obtain ⟨pb0, pb1⟩ := pk_bounds rb 9 (by decide)
  have hle := h5.le
  have hre := h5.reach
  have q0 := heap_alloc2_old w (.cells #[.int .i64 ki, .int .i64 ra, .int .i64 rb, .int .i64 rc, .slice sa ss.length cap] 39) (.cells #[.int .i64 0, .int .i64 0, .slice none 0 0] 24)
  have k1 := cells_at q0 1 _ rfl
  have k2 := cells_at q0 2 _ rfl
  have hw : IntKind.i64.wrap (1 + pk rb 9) = 1 + pk rb 9 := by rw [IntKind.wrap_i64]; omega
  go_enter Tryd.func15, Tryd.ntmps15
  go_upto_region 1 with (fail)
  go_cut [3] (fun v wx => v = .pointer (some ⟨w.heap.size + 2, 0, none⟩) ∧ Below w.heap.size w wx ∧ wx.heap[w.heap.size]? = some (.cells #[.int .i64 ki, .int .i64 ra, .int .i64 rb, .int .i64 rc, .slice sa ss.length cap] 39 (0, 0)) ∧ wx.heap[w.heap.size + 1]? = some (.cells #[.int .i64 0, .int .i64 0, .slice none 0 0] 24 (0, 0)) ∧ wx.heap[w.heap.size + 2]? = some (.cells #[.int .i64 (pk ra 4), .int .i64 (1 + pk rb 9), .slice none 0 0] 24 (0, 0)))
  case first =>
    go_region_held3 (fun w' => w'.cell? ⟨w.heap.size, 1, none⟩ = some (.int .i64 ra) ∧ w'.cell? ⟨w.heap.size, 2, none⟩ = some (.int .i64 rb)) (go_keep) (first | (go_at_call 20; refine (picked_any _ _ _ (by first | exact h2.1 | exact h3.1) (by first | exact h2.2 | exact h3.2) (by omega) (by omega)).mono ?_; rintro e w9 ⟨rfl, rfl⟩))
    all_goals
      go_wp2_with fail
      go_meet
      case rel =>
        refine ⟨rfl, ((((Below.refl _ _).alloc (Nat.le_refl _) _).alloc (by simp) _).alloc (by simp; omega) _).drew, ?_, ?_, ?_⟩
        · exact heap_keep (heap_keep (heap_alloc_new w _))
        · exact heap_keep (heap_new_at _ _ _ (by simp))
        · exact heap_new_at _ _ _ (by simp)
  case rest =>
    obtain ⟨rfl, hW, r0, r1, r2⟩ := hcut
    clear k1 k2 q0 hw
    obtain ⟨i, hi, hz0, hz1, hz2⟩ := info_parts infoStr
    have hN := lt_of_heap r2
    go_wp2_with fail
    go_loopw [4] (fun j wr => ∃ (k : Nat) (v : Value), k ≤ ss.length ∧ k ≤ 4 ∧ j = .int .i64 k ∧ Below w.heap.size w wr ∧ wr.heap[w.heap.size]? = some (.cells #[.int .i64 ki, .int .i64 ra, .int .i64 rb, .int .i64 rc, .slice sa ss.length cap] 39 (0, 0)) ∧ wr.heap[w.heap.size + 1]? = some (.cells #[.int .i64 0, .int .i64 0, .slice none 0 0] 24 (0, 0)) ∧ wr.heap[w.heap.size + 2]? = some (.cells #[.int .i64 (pk ra 4), .int .i64 (1 + pk rb 9), v] 24 (0, 0)) ∧ wr.ownsRow (w.heap.size + 3) 9 1 v k (sv ((ss.take k).map txS))) (fun j _ => ss.length - (intOf j).toNat)
    case atStart => exact ⟨0, _, Nat.zero_le _, Nat.zero_le _, rfl, hW, r0, r1, r2, World.ownsRow_nil _ _ _ _⟩
    case round =>
      clear hW r0 r1 r2 hN
      obtain ⟨k, v, hk, hk4, rfl, hW, r0, r1, r2, ho⟩ := hrel
      have c4 : wr.cell? ⟨w.heap.size, 4, none⟩ = some (.slice sa ss.length cap) := cells_at r0 4 _ rfl
      have o2 : wr.cell? ⟨w.heap.size + 2, 2, none⟩ = some v := cells_at r2 2 _ rfl
      have of2 := frozen_at r2 2
      have hN : w.heap.size + 2 < wr.heap.size := lt_of_heap r2
      by_cases hlt : k < ss.length ∧ k < 4
      · obtain ⟨hlt, hlt4⟩ := hlt
        obtain ⟨sb, so, rfl, hc⟩ : ∃ sb so, sa = some ⟨sb, so, none⟩ ∧ ∀ j, j < ss.length → wr.cell? ⟨sb, so + j, none⟩ = some (.string (ss.getD j ByteArray.empty)) := by
          rcases (h5.strs.below hW).cells with h | h
          · rw [h] at hlt; simp at hlt
          · exact h
        have ck := hc k hlt
        have hsz : (ss.getD k ByteArray.empty).size ≤ maxLen := h5.strs.size _ (by simp [List.getD, hlt])
        have hltI : (k : Int) < ss.length := by omega
        have hlt4I : (k : Int) < 4 := by omega
        have hst : Hid ((ss.take (k + 1)).map txS = (ss.take k).map txS ++ [txS (ss.getD k ByteArray.empty)]) := by
          show _ = _
          rw [List.take_succ_eq_append_getElem hlt, List.map_append]
          simp only [List.map_cons, List.map_nil, List.getD, List.getElem?_eq_getElem hlt, Option.getD_some]
        have hvb : v.ownBlock ≠ some (w.heap.size + 2) := fun e => by have := (ho.lt _ e).1; omega
        clear hc
        generalize ss.getD k ByteArray.empty = x at ck hst hsz
        go_wp2_with fail
        have hA : Below wr.heap.size wr (wr.alloc (.cells #[.string (txS x)] 9)).drew := ((Below.refl _ _).alloc (Nat.le_refl _) _).drew
        have r0A : (wr.alloc (.cells #[.string (txS x)] 9)).drew.heap[w.heap.size]? = some (.cells #[.int .i64 ki, .int .i64 ra, .int .i64 rb, .int .i64 rc, .slice (some ⟨sb, so, none⟩) ss.length cap] 39 (0, 0)) := heap_keep r0
        have r1A : (wr.alloc (.cells #[.string (txS x)] 9)).drew.heap[w.heap.size + 1]? = some (.cells #[.int .i64 0, .int .i64 0, .slice none 0 0] 24 (0, 0)) := heap_keep r1
        have r2A : (wr.alloc (.cells #[.string (txS x)] 9)).drew.heap[w.heap.size + 2]? = some (.cells #[.int .i64 (pk ra 4), .int .i64 (1 + pk rb 9), v] 24 (0, 0)) := heap_keep r2
        have hv0 : v.ownBlock ≠ some w.heap.size := fun e => by have := (ho.lt _ e).1; omega
        have hv1 : v.ownBlock ≠ some (w.heap.size + 1) := fun e => by have := (ho.lt _ e).1; omega
        have ckA : (wr.alloc (.cells #[.string (txS x)] 9)).drew.cell? ⟨sb, so + k, none⟩ = some (.string x) := (hA.cell (p := ⟨sb, so + k, none⟩) (block_lt_of_cell ck)).trans ck
        have hsbN : sb < w.heap.size := by
          rcases h5.strs.cells with h | ⟨sb', so', e, h⟩
          · rw [h] at hlt; simp at hlt
          · cases e; exact block_lt_of_cell (h k hlt)
        have hent := enters_of Tryd.func34 (by kernel_rfl) rfl
        go_region_law (first | (refine step_calls rfl 34 _ _ rfl [.string x] rfl hent (fun u w9 => u = .string (txS x) ∧ w9 = _) ((tx_any x _ hsz).mono (fun e w9 ⟨he, hw9⟩ => ⟨_, he, rfl, hw9.symm⟩)) ?_; rintro u w9 ⟨rfl, rfl⟩) | (refine step_append_own rfl _ _ 22 rfl (w.heap.size + 3) 9 i (.string ByteArray.empty) 1 16 Tryd.underlying22 hi hz0 hz1 hz2 rfl (by decide) _ k _ rfl (World.ownsRow.alloc ho.drew _) ⟨wr.heap.size, 0, none⟩ 1 1 [.string (txS x)] rfl rfl (cells_new _ _ _) (sv_one [_]) (by unfold maxLen; omega) (by omega) (le_alloc hN _) ?_; intro v1 w2 ho1 hg1; have s0 := (hg1.block _ (lt_of_heap r0A) (fun e => hv0 e.symm)).trans r0A; have s1 := (hg1.block _ (lt_of_heap r1A) (fun e => hv1 e.symm)).trans r1A; have s2 := (hg1.block _ (lt_of_heap r2A) (fun e => hvb e.symm)).trans r2A; have p2 : w2.cell? ⟨w.heap.size + 2, 2, none⟩ = some v := cells_at s2 2 _ rfl; have p4 : w2.cell? ⟨w.heap.size, 4, none⟩ = some (.slice (some ⟨sb, so, none⟩) ss.length cap) := cells_at s0 4 _ rfl; have pk' : w2.cell? ⟨sb, so + k, none⟩ = some (.string x) := (World.cell?_of_block (hg1.block sb (block_lt_of_cell ckA) (fun e => by have := (ho.lt _ e.symm).1; omega))).trans ckA; have pf2 := frozen_at s2 2; obtain ⟨qa, qc, hq⟩ := owns_shape ho1; subst hq))
        all_goals
          go_wp2_with fail
          go_roundw
          case rel =>
            have hb2 : Below w.heap.size w w2 := Below.grown (hW.drew.alloc hW.size _) hg1 (le_alloc hW.size _) (fun q e => by have := (ho.lt q e).1; omega)
            have hR : ∃ (k' : Nat) (v' : Value), k' ≤ ss.length ∧ k' ≤ 4 ∧ (Value.int .i64 ((k : Int) + 1)) = .int .i64 k' ∧ Below w.heap.size w (w2.setCell ⟨w.heap.size + 2, 2, none⟩ (.slice qa (k + 1) qc)) ∧ (w2.setCell ⟨w.heap.size + 2, 2, none⟩ (.slice qa (k + 1) qc)).heap[w.heap.size]? = some (.cells #[.int .i64 ki, .int .i64 ra, .int .i64 rb, .int .i64 rc, .slice (some ⟨sb, so, none⟩) ss.length cap] 39 (0, 0)) ∧ (w2.setCell ⟨w.heap.size + 2, 2, none⟩ (.slice qa (k + 1) qc)).heap[w.heap.size + 1]? = some (.cells #[.int .i64 0, .int .i64 0, .slice none 0 0] 24 (0, 0)) ∧ (w2.setCell ⟨w.heap.size + 2, 2, none⟩ (.slice qa (k + 1) qc)).heap[w.heap.size + 2]? = some (.cells #[.int .i64 (pk ra 4), .int .i64 (1 + pk rb 9), v'] 24 (0, 0)) ∧ (w2.setCell ⟨w.heap.size + 2, 2, none⟩ (.slice qa (k + 1) qc)).ownsRow (w.heap.size + 3) 9 1 v' k' (sv ((ss.take k').map txS)) :=
              ⟨k + 1, .slice qa (k + 1) qc, by omega, by omega, by go_num, hb2.setCell (by simp) _, heap_far s0 (by omega), heap_far s1 (by omega), by simpa using heap_setCell_same _ _ 2 _ _ (.slice qa (k + 1) qc) s2, by rw [hst.out]; exact owns_far (by simpa [sv] using ho1) _ _ _ (by omega)⟩
            first | exact hR | ((repeat apply Exists.intro); exact ⟨hR, rfl⟩)
          case measure => simp [intOf]; omega
      · obtain ⟨za, zc, hz⟩ := owns_shape ho
        subst hz
        have p0 : wr.cell? ⟨w.heap.size + 2, 0, none⟩ = some (.int .i64 (pk ra 4)) := cells_at r2 0 _ rfl
        have p1 : wr.cell? ⟨w.heap.size + 2, 1, none⟩ = some (.int .i64 (1 + pk rb 9)) := cells_at r2 1 _ rfl
        have d0 : wr.cell? ⟨w.heap.size + 1, 0, none⟩ = some (.int .i64 0) := cells_at r1 0 _ rfl
        have d1 : wr.cell? ⟨w.heap.size + 1, 1, none⟩ = some (.int .i64 0) := cells_at r1 1 _ rfl
        have d2 : wr.cell? ⟨w.heap.size + 1, 2, none⟩ = some (.slice none 0 0) := cells_at r1 2 _ rfl
        have hN1 : w.heap.size + 1 < wr.heap.size := by omega
        have f0 := frozen_at r1 0
        have f1 := frozen_at r1 1
        have f2 := frozen_at r1 2
        by_cases h0 : k = 0
        · subst h0
          have hs0 : ss = [] := List.eq_nil_of_length_eq_zero (by omega)
          subst hs0
          go_wp2_with fail
          refine bodyPost_ret (v := .agg #[.int .i64 (pk ra 4), .int .i64 (1 + pk rb 9), .slice (some ⟨wr.heap.size, 0, none⟩) 1 1]) (by simp [results, Tryd.results15, go_sem, d0, d1, d2, hN1]) rfl ⟨_, _, rfl, ?_, ?_⟩
          · have hO := World.ownsRow_lit (base := w.heap.size) (e := 9) (size := 1) ((((wr.setCell ⟨w.heap.size + 2, 2, none⟩ (.slice (some ⟨wr.heap.size, 0, none⟩) 1 1)).setCell ⟨w.heap.size + 1, 0, none⟩ (.int .i64 (pk ra 4))).setCell ⟨w.heap.size + 1, 1, none⟩ (.int .i64 (1 + pk rb 9))).setCell ⟨w.heap.size + 1, 2, none⟩ (.slice (some ⟨wr.heap.size, 0, none⟩) 1 1)) (sv [⟨#[116]⟩]).toArray 1 (by simpa using hW.size) (by decide) rfl
            simpa [bTxs, sv] using hO
          · exact ((((hW.setCell (by simp) _).setCell (by simp) _).setCell (by simp) _).setCell (by simp) _).alloc (by simpa using hW.size) _
        · have h0I : ¬ (k : Int) = 0 := by omega
          have hB : Hid (bTxs ss = (ss.take k).map txS) := by
            show _ = _
            have hne : ss ≠ [] := fun e => by subst e; simp at hk; omega
            have : ss.take 4 = ss.take k := by
              by_cases h4 : k = 4
              · rw [h4]
              · have : k = ss.length := by omega
                rw [List.take_of_length_le (by omega), List.take_of_length_le (by omega)]
            rw [bTxs, if_neg hne, this]
          have hl : Hid (k = (bTxs ss).length) := by show _ = _; rw [hB.out]; simp; omega
          by_cases h4 : k < ss.length
          · obtain rfl : k = 4 := by omega
            have hltI : (4 : Int) < ss.length := by omega
            go_wp2_with fail
            refine bodyPost_ret (v := .agg #[.int .i64 (pk ra 4), .int .i64 (1 + pk rb 9), .slice za 4 zc]) (by simp [results, Tryd.results15, go_sem, d0, d1, d2]) rfl ?_
            rw [← hl.out, hB.out]
            exact ⟨_, _, rfl, ownsRow_base' (owns_far (owns_far (owns_far ho _ _ _ (by omega)) _ _ _ (by omega)) _ _ _ (by omega)) (by omega), (((hW.setCell (by simp) _).setCell (by simp) _).setCell (by simp) _)⟩
          · have hltI : ¬ (k : Int) < ss.length := by omega
            go_wp2_with fail
            refine bodyPost_ret (v := .agg #[.int .i64 (pk ra 4), .int .i64 (1 + pk rb 9), .slice za k zc]) (by simp [results, Tryd.results15, go_sem, d0, d1, d2]) rfl ?_
            rw [← hl.out, hB.out]
            exact ⟨_, _, rfl, ownsRow_base' (owns_far (owns_far (owns_far ho _ _ _ (by omega)) _ _ _ (by omega)) _ _ _ (by omega)) (by omega), (((hW.setCell (by simp) _).setCell (by simp) _).setCell (by simp) _)⟩
end Go.Proofs.YtcecjdoabnhcgaaDoor

namespace Go.Proofs.YtcecjdoabnhcgaaDoor
open Go.RowKit

set_option maxRecDepth 100000 in
theorem bTxs_ok (ss : List ByteArray) : (1 ≤ (bTxs ss).length ∧ (bTxs ss).length ≤ 4) ∧ ∀ s ∈ bTxs ss, 1 ≤ s.size ∧ s.size ≤ 20 := by
  unfold bTxs
  by_cases h : ss = []
  · rw [if_pos h]
    exact ⟨by simp, fun s hs => by simp at hs; subst hs; decide⟩
  · rw [if_neg h]
    have : 0 < ss.length := List.length_pos_iff.2 h
    refine ⟨by simp; omega, fun s hs => ?_⟩
    simp only [List.mem_map] at hs
    obtain ⟨x, _, rfl⟩ := hs
    exact txS_size x
set_option maxRecDepth 100000 in
theorem batchF_raw (ra rb : Int) (ss : List ByteArray) : batchF (pk ra 4) (1 + pk rb 9) (bTxs ss) = 0 := by
  obtain ⟨pa0, pa1⟩ := pk_bounds ra 4 (by decide)
  obtain ⟨pb0, pb1⟩ := pk_bounds rb 9 (by decide)
  obtain ⟨⟨h1, h2⟩, h3⟩ := bTxs_ok ss
  rw [batchF, if_neg (by omega), if_neg (by omega), if_pos]
  rw [List.all_eq_true]
  exact fun s hs => by simpa [txOk] using h3 s hs
end Go.Proofs.YtcecjdoabnhcgaaDoor
