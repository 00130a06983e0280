/- order.eachOnce: of each text the first one stays (a set of texts). -/
import Derived.Test.YtbmodfegcmaieaaDoorQTxt
import Derived.Test.YtbmodfegcmaieaaDoorGApp
import Derived.Test.YtbmodfegcmaieaaDoorQEOncF
import Derived.Maps.Own
import Derived.Maps.OwnSet
import Derived.Maps.OwnOps
import Derived.Maps.Views
import Derived.StringKeys
namespace Go.Proofs.YtbmodfegcmaieaaDoor
open Go.RowKit Go.WideMaps Go.Maps

set_option maxRecDepth 100000 in
theorem keyT : Keyed Tryd.prog 9 := string_keyed Tryd.underlying9
set_option maxRecDepth 100000 in
theorem zeroU (w : World) : (zeroValue 120).run Tryd.prog w = .ok (.agg #[]) w := by kernel_rfl
def keyS (s : ByteArray) : Lit := .string s.data.toList
set_option maxRecDepth 100000 in
theorem keyS_inj {a b : ByteArray} (h : keyS a = keyS b) : a = b := by
  unfold keyS at h
  injection h with h
  exact ByteArray.ext (Array.toList_inj.1 h)
set_option maxRecDepth 100000 in
theorem has_texts (l : List ByteArray) (s : ByteArray) : Maps.has (setOf (H := Unit) (.agg []) (l.map keyS)) (keyS s) = inO s l := by
  rw [has_setOf _ _ _ (by intro x hx; obtain ⟨y, _, rfl⟩ := List.mem_map.1 hx; exact trivial)]
  rw [Bool.eq_iff_iff]
  simp only [List.any_map, List.any_eq_true, Function.comp, inO_iff]
  constructor
  · rintro ⟨y, hy, h⟩
    rw [← keyS_inj ((WideAt.sameKey_iff (show WideAt.IsKeyLit (keyS s) from trivial)).1 h)]
    exact hy
  · intro h
    exact ⟨s, h, (WideAt.sameKey_iff (show WideAt.IsKeyLit (keyS s) from trivial)).2 rfl⟩
set_option maxRecDepth 100000 in
theorem makeMapT (n : Int) (w : World) : (Instr.makeMap 119 (some (.int .i64 n))).run Tryd.prog w = .ok (.map (some w.heap.size)) (w.alloc (.map #[] 0)) := by
  simp [Instr.makeMap, run_underlying Tryd.underlying119, Result.andThen]
  rfl
set_option maxRecDepth 100000 in
set_option maxHeartbeats 4000000 in
theorem eachOnce_any (ss : List ByteArray) (sa : Option Addr) (n cap : Nat) (w : World) (hn : n = ss.length) (hl : ss.length ≤ 1099511627776) (hp : StrsAt w sa ss) :
    Calls Tryd.prog 59 #[.slice sa n cap] w fun e w' => ∃ v, e = .returned v ∧ w'.ownsRow (w.heap.size + 1) 9 1 v (onceS [] ss).length (sv (onceS [] ss)) ∧ Below w.heap.size w w' := by
  subst hn
  obtain ⟨i, hi, hz0, hz1, hz2⟩ := info_parts infoStr
  have hmm := makeMapT
  go_enter Tryd.func59, Tryd.ntmps59
  go_wp2_with fail
  go_loopw [14, 3] (fun j v wr => ∃ m : Nat, m ≤ ss.length ∧ j = .int .i64 m ∧ wr.ownsMap Tryd.prog 9 (unitElem (H := Unit)) w.heap.size m (setOf (.agg []) ((onceS [] (ss.take m)).map keyS)) ∧ wr.ownsRow (w.heap.size + 1) 9 1 v (onceS [] (ss.take m)).length (sv (onceS [] (ss.take m))) ∧ Below w.heap.size w wr) (fun j _ _ => ss.length - (intOf j).toNat)
  case atStart => exact ⟨0, Nat.zero_le _, rfl, World.ownsMap_made _ _ _ _, World.ownsRow_nil _ _ _ _, (Below.refl _ _).alloc (Nat.le_refl _) _⟩
  case round =>
    obtain ⟨m, hm, rfl, hown, ho, hb⟩ := hrel
    by_cases hlt : m < ss.length
    · obtain ⟨tb, tq, rfl, hc⟩ : ∃ tb tq, sa = some ⟨tb, tq, none⟩ ∧ ∀ j, j < ss.length → w.cell? ⟨tb, tq + j, none⟩ = some (.string (ss.getD j ByteArray.empty)) := by
        rcases hp.cells with h | h
        · rw [h] at hlt; simp at hlt
        · exact h
      have ck := (hb.cell (p := ⟨tb, tq + m, none⟩) (block_lt_of_cell (hc m hlt))).trans (hc m hlt)
      have hltI : (m : Int) < ss.length := by omega
      have hsz : (ss.getD m ByteArray.empty).size ≤ maxLen := hp.size _ (by simp [List.getD, hlt])
      have hst : Hid (onceS [] (ss.take (m + 1)) = bif inO (ss.getD m ByteArray.empty) (onceS [] (ss.take m)) then onceS [] (ss.take m) else onceS [] (ss.take m) ++ [ss.getD m ByteArray.empty]) := by
        show _ = _
        rw [List.take_succ_eq_append_getElem hlt, onceS_snoc]
        simp [List.getD, hlt]
      have hL : (onceS [] (ss.take m)).length ≤ m := by
        have h := onceS_len (ss.take m) []
        rw [List.length_take] at h
        simp at h
        omega
      clear hc
      generalize ss.getD m ByteArray.empty = x at ck hst hsz
      generalize onceS [] (ss.take m) = acc at *
      have hkey : keyOf Tryd.prog 9 (.string x) = some (keyS x) := keyOf_string_mk Tryd.underlying9 hsz
      have HS : Hid (x.size ≤ maxLen) := hsz
      have HH : Hid (Maps.has (setOf (H := Unit) (.agg []) (acc.map keyS)) (keyS x) = inO x acc) := has_texts acc x
      clear hsz
      cases hx : inO x acc
      case true =>
        have HX : Hid (onceS [] (ss.take (m + 1)) = acc) := by show _ = _; rw [hst.out, hx]; rfl
        have HB : Hid (Maps.has (setOf (H := Unit) (.agg []) (acc.map keyS)) (keyS x) = true) := by show _ = _; rw [HH.out, hx]
        clear hst HH hx
        go_wp2_with (at_lookup; refine wpList_lookup_own_unit _ rfl _ _ 119 rfl 9 120 keyT Tryd.underlying119 (zeroU _) w.heap.size m _ rfl hown _ _ rfl hkey ?_; rw [HB.out])
        go_roundw
        case rel =>
          exact ⟨m + 1, by omega, by go_num, by rw [HX.out]; exact (hown.alloc _).mono (Nat.le_succ _), by rw [HX.out]; exact World.ownsRow.alloc ho _, hb.alloc hb.size _⟩
        case measure => simp [intOf]; omega
      case false =>
        have HX : Hid (onceS [] (ss.take (m + 1)) = acc ++ [x]) := by show _ = _; rw [hst.out, hx]; rfl
        have HB : Hid (Maps.has (setOf (H := Unit) (.agg []) (acc.map keyS)) (keyS x) = false) := by show _ = _; rw [HH.out, hx]
        clear hst HH hx
        go_wp2_with (first
          | (at_lookup; refine wpList_lookup_own_unit _ rfl _ _ 119 rfl 9 120 keyT Tryd.underlying119 (zeroU _) w.heap.size m _ rfl hown _ _ rfl hkey ?_; rw [HB.out])
          | (at_mapUpdate; refine wpList_mapUpdate_own _ rfl _ _ _ 119 rfl 9 120 keyT Tryd.underlying119 (unitElem (H := Unit)) w.heap.size m _ rfl (hown.alloc _) (by unfold maxLen; omega) _ _ _ rfl rfl hkey _ [] unitElem_mk ?_; intro w5 hown5 hgrow5; have ho5 := World.ownsRow.kept (World.ownsRow.alloc ho (.cells #[] 120)) hgrow5 (.inr fun e => Nat.not_succ_le_self _ (ho.lt _ e).1); have hB5 := Below.grown (hb.alloc hb.size (.cells #[] 120)) hgrow5 (le_alloc hb.size _) (fun j hj => by cases hj; exact Nat.le_refl _))
          | (at_builtin; refine wpList_append_own _ rfl _ _ 40 rfl (w.heap.size + 1) 9 i (.string ByteArray.empty) 1 16 Tryd.underlying40 hi hz0 hz1 hz2 rfl (by decide) _ acc.length _ rfl (World.ownsRow.alloc ho5 _) ⟨w5.heap.size, 0, none⟩ 1 1 [.string x] rfl rfl (cells_new _ _ _) (sv_one [_]) (by unfold maxLen; omega) (by omega) (le_alloc hown5.lt _) ?_; intro v1 w6 ho6 hg6 _))
        have hown6 := World.ownsMap.kept (hown5.alloc _) hg6 (fun e => Nat.not_succ_le_self _ (ho5.lt _ e.symm).1)
        have hb6 := Below.grown (hB5.alloc hB5.size _) hg6 (le_alloc hB5.size _) (fun q e => Nat.le_of_succ_le (ho5.lt q e).1)
        go_roundw
        case rel =>
          refine ⟨m + 1, by omega, by go_num, ?_, ?_, hb6⟩
          · rw [HX.out, List.map_append, List.map_cons, List.map_nil, setOf_snoc]; exact hown6
          · rw [HX.out]; simpa [sv] using ho6
        case measure => simp [intOf]; omega
    · obtain rfl : m = ss.length := by omega
      rw [List.take_of_length_le (Nat.le_refl _)] at hown ho
      go_wp2_with fail
      go_ret
      exact ⟨_, rfl, ho, hb⟩
end Go.Proofs.YtbmodfegcmaieaaDoor
