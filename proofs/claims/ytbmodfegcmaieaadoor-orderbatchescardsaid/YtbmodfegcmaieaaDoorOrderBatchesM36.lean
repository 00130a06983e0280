/- OrderBatches: the walk. -/
import Derived.Test.YtbmodfegcmaieaaDoorOrderBatchesM18
import Derived.Test.YtbmodfegcmaieaaDoorOrderBatchesM30
import Derived.Test.YtbmodfegcmaieaaDoorBunF
import Derived.Test.YtbmodfegcmaieaaDoorTxL
import Derived.Deep.RegionHeld2
import Derived.Test.YtbmodfegcmaieaaDoorTxt
import Derived.Test.YtbmodfegcmaieaaDoorApp
import Derived.Test.YtbmodfegcmaieaaDoorEOncF
import Derived.Maps.Own
import Derived.Maps.OwnSet
import Derived.Maps.OwnOps
import Derived.Maps.Views
import Derived.StringKeys
import Derived.Test.YtbmodfegcmaieaaDoorBcF
import Derived.Test.YtbmodfegcmaieaaDoorOwnL
import Derived.Test.YtbmodfegcmaieaaDoorOrderBatchesM6
import Derived.Test.YtbmodfegcmaieaaDoorOrderBatchesM12
namespace Go.Proofs.YtbmodfegcmaieaaDoor
open Go.RowKit

set_option maxRecDepth 100000 in
theorem batchB_all {au nu : Int} {ss : List ByteArray} (h : batchF au nu ss = 0) : AllU8 (batchB au nu ss) := by
  obtain ⟨h1, h2, h3, h4⟩ := batchF_ok h
  have ht : ∀ l : List ByteArray, (∀ s ∈ l, s.size ≤ 20) → AllU8 (txsB l) := by
    intro l
    induction l with
    | nil => intro _ x hx; cases hx
    | cons s l ih =>
      intro h x hx
      simp only [txsB, List.mem_cons, List.mem_append] at hx
      have h0 := h s (by simp)
      rcases hx with rfl | hx | hx
      · omega
      · simp only [tb, List.mem_map] at hx
        obtain ⟨b, _, rfl⟩ := hx
        have := b.toNat_lt
        omega
      · exact ih (fun s hs => h s (by simp [hs])) x hx
  intro x hx
  simp only [batchB, rd3, List.mem_append, List.mem_cons, List.not_mem_nil, or_false] at hx
  rcases hx with ((hx | hx | hx | hx) | hx) | hx
  · omega
  · omega
  · omega
  · omega
  · omega
  · exact ht ss (fun s hs => (h4 s hs).2) x hx
set_option maxRecDepth 100000 in
set_option maxHeartbeats 1000000 in
theorem rBatchDigest_new (au nu : Int) (sa : Option Addr) (n cap : Nat) (ss : List ByteArray) (w : World) (hn : n = ss.length) (hs : StrsAt w sa ss) (hF : batchF au nu ss = 0) :
    Calls Tryd.prog 31 #[.agg #[.int .i64 au, .int .i64 nu, .slice sa n cap]] w fun e w' => ∃ g c, e = .returned (.slice (some ⟨g, 0, none⟩) 32 c) ∧ SliceAt w' (some ⟨g, 0, none⟩) c (tagD 1 (batchB au nu ss)) ∧ Below w.heap.size w w' ∧ w.heap.size ≤ g := by
  have hA : Below w.heap.size w (w.alloc (.cells #[.int .i64 au, .int .i64 nu, .slice sa n cap] 42)) := (Below.refl _ _).alloc (Nat.le_refl _) _
  obtain ⟨y1, y2, y3, y4⟩ := batchF_ok hF
  have hB := batchBytes_any au nu sa n cap ss _ y1 ⟨by omega, y2.2⟩ hn y3.2 (fun s hs => (y4 s hs).2) (hs.below hA)
  have hle := txsB_le ss (fun s hs => (y4 s hs).2)
  have hu := batchB_all hF
  have hbl : (batchB au nu ss).length ≤ 100 := by simp [batchB, rd3]; omega
  clear hn
  have HU : Hid _ := hu
  clear hu
  generalize batchB au nu ss = B at *
  go_enter Tryd.func31, Tryd.ntmps31
  go_wp2_with fail
  refine hB.mono ?_
  rintro e w1 ⟨v1, rfl, ho1, hb1⟩
  replace hb1 := below_alloc hb1
  obtain ⟨xa, xc, hv, hxl, hx⟩ := owns_form ho1
  subst hv
  clear hxl ho1 hB
  have hP : ∀ p ∈ [(⟨xa, xc, B⟩ : Part)], AllU8 p.bs := by
    intro p hp
    obtain rfl : p = ⟨xa, xc, B⟩ := by simpa using hp
    exact HU.out
  have HP : Hid _ := hP
  clear hP
  go_wp2_with fail
  refine (taggedOf_new 1 [⟨xa, xc, B⟩] _ _ _ _ (by decide) rfl (by simp) (one_part w1 xa _ xc B rfl hx) HP.out).mono ?_
  rintro e w2 ⟨hb2, h9⟩
  rcases h9 with ⟨h9, _⟩ | ⟨_, g, c, rfl, hr, hge⟩
  · simp [psz] at h9; omega
  go_wp2_with fail
  go_ret
  refine ⟨g, c, rfl, ?_, hb1.trans ((below_alloc hb2).mono hb1.size), by rw [size_alloc] at hge; have := hb1.size; omega⟩
  rw [tagD, ← tagTo_part 1 xa xc B]
  exact hr
end Go.Proofs.YtbmodfegcmaieaaDoor

namespace Go.Proofs.YtbmodfegcmaieaaDoor
open Go.RowKit

set_option maxRecDepth 100000 in
theorem sameBytes_any (xs ys : List Int) (sa sb : Option Addr) (n m c d : Nat) (w : World) (hn : n = xs.length) (hm : m = ys.length) (ha : SliceAt w sa c xs) (hb : SliceAt w sb d ys) :
    Calls Tryd.prog 53 #[.slice sa n c, .slice sb m d] w fun e w' => e = .returned (.bool (decide (txL xs = txL ys))) ∧ w = w' := by
  have h1 := run_text w sa n c xs hn ha
  have h2 := run_text w sb m d ys hm hb
  clear hn hm ha hb
  unfold txL
  generalize bstr xs = A at *
  generalize bstr ys = B at *
  go_enter Tryd.func53, Tryd.ntmps53
  go_wp2_with fail
  go_ret
  refine ⟨ret_bool ?_, rfl⟩
  by_cases h : A.toList = B.toList <;> simp [h]
end Go.Proofs.YtbmodfegcmaieaaDoor

namespace Go.Proofs.YtbmodfegcmaieaaDoor
open Go.RowKit Go.WideMaps Go.Maps

set_option maxRecDepth 100000 in
theorem keyT : Keyed Tryd.prog 9 := string_keyed Tryd.underlying9
set_option maxRecDepth 100000 in
theorem zeroU (w : World) : (zeroValue 120).run Tryd.prog w = .ok (.agg #[]) w := by kernel_rfl
def keyS (s : ByteArray) : Lit := .string s.data.toList
set_option maxRecDepth 100000 in
theorem keyS_inj {a b : ByteArray} (h : keyS a = keyS b) : a = b := by
  unfold keyS at h
  injection h with h
  exact ByteArray.ext (Array.toList_inj.1 h)
set_option maxRecDepth 100000 in
theorem has_texts (l : List ByteArray) (s : ByteArray) : Maps.has (setOf (H := Unit) (.agg []) (l.map keyS)) (keyS s) = inO s l := by
  rw [has_setOf _ _ _ (by intro x hx; obtain ⟨y, _, rfl⟩ := List.mem_map.1 hx; exact trivial)]
  rw [Bool.eq_iff_iff]
  simp only [List.any_map, List.any_eq_true, Function.comp, inO_iff]
  constructor
  · rintro ⟨y, hy, h⟩
    rw [← keyS_inj ((WideAt.sameKey_iff (show WideAt.IsKeyLit (keyS s) from trivial)).1 h)]
    exact hy
  · intro h
    exact ⟨s, h, (WideAt.sameKey_iff (show WideAt.IsKeyLit (keyS s) from trivial)).2 rfl⟩
set_option maxRecDepth 100000 in
theorem makeMapT (n : Int) (w : World) : (Instr.makeMap 119 (some (.int .i64 n))).run Tryd.prog w = .ok (.map (some w.heap.size)) (w.alloc (.map #[] 0)) := by
  simp [Instr.makeMap, run_underlying Tryd.underlying119, Result.andThen]
  rfl
set_option maxRecDepth 100000 in
set_option maxHeartbeats 4000000 in
theorem eachOnce_any (ss : List ByteArray) (sa : Option Addr) (n cap : Nat) (w : World) (hn : n = ss.length) (hl : ss.length ≤ 1099511627776) (hp : StrsAt w sa ss) :
    Calls Tryd.prog 59 #[.slice sa n cap] w fun e w' => ∃ v, e = .returned v ∧ w'.ownsRow (w.heap.size + 1) 9 1 v (onceS [] ss).length (sv (onceS [] ss)) ∧ Below w.heap.size w w' := by
  subst hn
  obtain ⟨i, hi, hz0, hz1, hz2⟩ := info_parts infoStr
  have hmm := makeMapT
  go_enter Tryd.func59, Tryd.ntmps59
  go_wp2_with fail
  go_loopw [14, 3] (fun j v wr => ∃ m : Nat, m ≤ ss.length ∧ j = .int .i64 m ∧ wr.ownsMap Tryd.prog 9 (unitElem (H := Unit)) w.heap.size m (setOf (.agg []) ((onceS [] (ss.take m)).map keyS)) ∧ wr.ownsRow (w.heap.size + 1) 9 1 v (onceS [] (ss.take m)).length (sv (onceS [] (ss.take m))) ∧ Below w.heap.size w wr) (fun j _ _ => ss.length - (intOf j).toNat)
  case atStart => exact ⟨0, Nat.zero_le _, rfl, World.ownsMap_made _ _ _ _, World.ownsRow_nil _ _ _ _, (Below.refl _ _).alloc (Nat.le_refl _) _⟩
  case round =>
    obtain ⟨m, hm, rfl, hown, ho, hb⟩ := hrel
    by_cases hlt : m < ss.length
    · obtain ⟨tb, tq, rfl, hc⟩ : ∃ tb tq, sa = some ⟨tb, tq, none⟩ ∧ ∀ j, j < ss.length → w.cell? ⟨tb, tq + j, none⟩ = some (.string (ss.getD j ByteArray.empty)) := by
        rcases hp.cells with h | h
        · rw [h] at hlt; simp at hlt
        · exact h
      have ck := (hb.cell (p := ⟨tb, tq + m, none⟩) (block_lt_of_cell (hc m hlt))).trans (hc m hlt)
      have hltI : (m : Int) < ss.length := by omega
      have hsz : (ss.getD m ByteArray.empty).size ≤ maxLen := hp.size _ (by simp [List.getD, hlt])
      have hst : Hid (onceS [] (ss.take (m + 1)) = bif inO (ss.getD m ByteArray.empty) (onceS [] (ss.take m)) then onceS [] (ss.take m) else onceS [] (ss.take m) ++ [ss.getD m ByteArray.empty]) := by
        show _ = _
        rw [List.take_succ_eq_append_getElem hlt, onceS_snoc]
        simp [List.getD, hlt]
      have hL : (onceS [] (ss.take m)).length ≤ m := by
        have h := onceS_len (ss.take m) []
        rw [List.length_take] at h
        simp at h
        omega
      clear hc
      generalize ss.getD m ByteArray.empty = x at ck hst hsz
      generalize onceS [] (ss.take m) = acc at *
      have hkey : keyOf Tryd.prog 9 (.string x) = some (keyS x) := keyOf_string_mk Tryd.underlying9 hsz
      have HS : Hid (x.size ≤ maxLen) := hsz
      have HH : Hid (Maps.has (setOf (H := Unit) (.agg []) (acc.map keyS)) (keyS x) = inO x acc) := has_texts acc x
      clear hsz
      cases hx : inO x acc
      case true =>
        have HX : Hid (onceS [] (ss.take (m + 1)) = acc) := by show _ = _; rw [hst.out, hx]; rfl
        have HB : Hid (Maps.has (setOf (H := Unit) (.agg []) (acc.map keyS)) (keyS x) = true) := by show _ = _; rw [HH.out, hx]
        clear hst HH hx
        go_wp2_with (at_lookup; refine wpList_lookup_own_unit _ rfl _ _ 119 rfl 9 120 keyT Tryd.underlying119 (zeroU _) w.heap.size m _ rfl hown _ _ rfl hkey ?_; rw [HB.out])
        go_roundw
        case rel =>
          exact ⟨m + 1, by omega, by go_num, by rw [HX.out]; exact (hown.alloc _).mono (Nat.le_succ _), by rw [HX.out]; exact World.ownsRow.alloc ho _, hb.alloc hb.size _⟩
        case measure => simp [intOf]; omega
      case false =>
        have HX : Hid (onceS [] (ss.take (m + 1)) = acc ++ [x]) := by show _ = _; rw [hst.out, hx]; rfl
        have HB : Hid (Maps.has (setOf (H := Unit) (.agg []) (acc.map keyS)) (keyS x) = false) := by show _ = _; rw [HH.out, hx]
        clear hst HH hx
        go_wp2_with (first
          | (at_lookup; refine wpList_lookup_own_unit _ rfl _ _ 119 rfl 9 120 keyT Tryd.underlying119 (zeroU _) w.heap.size m _ rfl hown _ _ rfl hkey ?_; rw [HB.out])
          | (at_mapUpdate; refine wpList_mapUpdate_own _ rfl _ _ _ 119 rfl 9 120 keyT Tryd.underlying119 (unitElem (H := Unit)) w.heap.size m _ rfl (hown.alloc _) (by unfold maxLen; omega) _ _ _ rfl rfl hkey _ [] unitElem_mk ?_; intro w5 hown5 hgrow5; have ho5 := World.ownsRow.kept (World.ownsRow.alloc ho (.cells #[] 120)) hgrow5 (.inr fun e => Nat.not_succ_le_self _ (ho.lt _ e).1); have hB5 := Below.grown (hb.alloc hb.size (.cells #[] 120)) hgrow5 (le_alloc hb.size _) (fun j hj => by cases hj; exact Nat.le_refl _))
          | (at_builtin; refine wpList_append_own _ rfl _ _ 40 rfl (w.heap.size + 1) 9 i (.string ByteArray.empty) 1 16 Tryd.underlying40 hi hz0 hz1 hz2 rfl (by decide) _ acc.length _ rfl (World.ownsRow.alloc ho5 _) ⟨w5.heap.size, 0, none⟩ 1 1 [.string x] rfl rfl (cells_new _ _ _) (sv_one [_]) (by unfold maxLen; omega) (by omega) (le_alloc hown5.lt _) ?_; intro v1 w6 ho6 hg6 _))
        have hown6 := World.ownsMap.kept (hown5.alloc _) hg6 (fun e => Nat.not_succ_le_self _ (ho5.lt _ e.symm).1)
        have hb6 := Below.grown (hB5.alloc hB5.size _) hg6 (le_alloc hB5.size _) (fun q e => Nat.le_of_succ_le (ho5.lt q e).1)
        go_roundw
        case rel =>
          refine ⟨m + 1, by omega, by go_num, ?_, ?_, hb6⟩
          · rw [HX.out, List.map_append, List.map_cons, List.map_nil, setOf_snoc]; exact hown6
          · rw [HX.out]; simpa [sv] using ho6
        case measure => simp [intOf]; omega
    · obtain rfl : m = ss.length := by omega
      rw [List.take_of_length_le (Nat.le_refl _)] at hown ho
      go_wp2_with fail
      go_ret
      exact ⟨_, rfl, ho, hb⟩
end Go.Proofs.YtbmodfegcmaieaaDoor

namespace Go.Proofs.YtbmodfegcmaieaaDoor
open Go.RowKit Go.WideMaps Go.Maps

set_option maxRecDepth 100000 in
theorem snoc_indB {α : Type} {P : List α → Prop} (h0 : P []) (hs : ∀ l x, P l → P (l ++ [x])) : ∀ l, P l := fun l => by
  have : ∀ l : List α, P l.reverse := by
    intro l
    induction l with
    | nil => exact h0
    | cons x l ih => rw [List.reverse_cons]; exact hs _ _ ih
  simpa using this l.reverse
/-- An element of the map stands for itself. -/
def tokE (v : Value) : Option (DataW Value × List MemPlace) := some (.held v, [])
/-- The map of batches by their digests. -/
def heldD (bl : List Bc) : DataW Value := bl.foldl (fun D b => D.put (keyS (bstr b.v.d)) (.held b.val)) (.map [])
set_option maxRecDepth 100000 in
theorem heldD_snoc (bl : List Bc) (b : Bc) : heldD (bl ++ [b]) = (heldD bl).put (keyS (bstr b.v.d)) (.held b.val) := by simp [heldD, List.foldl_append]
set_option maxRecDepth 100000 in
theorem heldD_map : ∀ bl : List Bc, IsMap (heldD bl) := by
  refine snoc_indB isMap_empty (fun l x h => ?_)
  rw [heldD_snoc]; exact h.put _ _
set_option maxRecDepth 100000 in
theorem keyS_lit (s : ByteArray) : WideAt.IsKeyLit (keyS s) := trivial
def bws (bl : List Bc) : List BW := bl.map (·.v)
set_option maxRecDepth 100000 in
theorem bws_length (bl : List Bc) : (bws bl).length = bl.length := by simp [bws]
set_option maxRecDepth 100000 in
theorem hasB_snoc (l : List BW) (b : BW) (d : List Int) : hasB (l ++ [b]) d = (hasB l d || decide (bstr b.d = bstr d)) := by simp [hasB]
set_option maxRecDepth 100000 in
theorem held_has (d : List Int) : ∀ bl : List Bc, Maps.has (heldD bl) (keyS (bstr d)) = hasB (bws bl) d := by
  refine snoc_indB rfl (fun l x h => ?_)
  have e : bws (l ++ [x]) = bws l ++ [x.v] := by simp [bws]
  rw [heldD_snoc, e, hasB_snoc]
  by_cases hx : bstr x.v.d = bstr d
  · rw [hx, has_put_same (heldD_map l) (keyS_lit _)]; simp
  · rw [has_put_other (fun e => hx (keyS_inj e).symm), h]; simp [hx]
set_option maxRecDepth 100000 in
theorem held_none {bl : List Bc} {d : List Int} (h : hasB (bws bl) d = false) (z : DataW Value) : (heldD bl).atKey (keyS (bstr d)) z = z := atKey_of_not_has (by rw [held_has]; exact h) z
/-- The batch of a digest, in memory. -/
def bcOf (l : List Bc) (d : List Int) : Option Bc := l.find? fun b => decide (bstr b.v.d = bstr d)
set_option maxRecDepth 100000 in
theorem bcOf_bOf (l : List Bc) (d : List Int) : (bcOf l d).map (·.v) = bOf (bws l) d := by
  induction l with
  | nil => rfl
  | cons x r ih =>
    simp only [bcOf, bOf, bws, List.map_cons, List.find?_cons] at ih ⊢
    cases decide (bstr x.v.d = bstr d)
    · exact ih
    · rfl
set_option maxRecDepth 100000 in
theorem held_at {d : List Int} (z : DataW Value) : ∀ (bl : List Bc), bl.Pairwise (fun a b => bstr a.v.d ≠ bstr b.v.d) → ∀ b, bcOf bl d = some b → (heldD bl).atKey (keyS (bstr d)) z = .held b.val := by
  refine snoc_indB (fun _ b h => by cases h) (fun l x h hp b hb => ?_)
  rw [List.pairwise_append] at hp
  rw [heldD_snoc]
  by_cases hx : bstr x.v.d = bstr d
  · rw [hx, atKey_put_same (heldD_map l) (keyS_lit _)]
    have hn : bcOf l d = none := by
      rw [bcOf, List.find?_eq_none]
      intro c hc h2
      exact hp.2.2 c hc x (by simp) ((of_decide_eq_true h2).trans hx.symm)
    rw [bcOf, List.find?_append] at hb
    rw [bcOf] at hn
    rw [hn] at hb
    have : some x = some b := by simpa [hx] using hb
    cases this; rfl
  · rw [atKey_put_other (fun e => hx (keyS_inj e).symm)]
    refine h hp.1 b ?_
    rw [bcOf, List.find?_append] at hb
    rw [bcOf]
    cases hl : l.find? fun b => decide (bstr b.v.d = bstr d) with
    | some c => rw [hl] at hb; simpa using hb
    | none => rw [hl] at hb; simp [hx] at hb
set_option maxRecDepth 100000 in
theorem bsF_apart {bl : List Bc} (h : bsF (bws bl) = 0) : bl.Pairwise (fun a b => bstr a.v.d ≠ bstr b.v.d) := by
  rw [List.pairwise_iff_getElem]
  intro i j hi hj hij e
  have hb := (bsF_zero h).2 j (by rw [bws_length]; exact hj)
  simp only [badB, Bool.or_eq_false_iff] at hb
  have h2 := hb.2
  have e1 : (bws bl).getD j ⟨0, 0, []⟩ = (bl[j]).v := by simp [bws, hj]
  rw [e1, hasB, List.any_eq_false] at h2
  have hm : (bl[i]).v ∈ (bws bl).take j := by
    rw [List.mem_take_iff_getElem]
    exact ⟨i, by rw [bws_length]; omega, by simp [bws]⟩
  exact h2 _ hm (by simp [e])
set_option maxRecDepth 100000 in
theorem wpList_lookup_tok {P : Program} (w : World) {ops : Array Oper} {rest : List Oper} {o : Oper} {a : Act} {Q : Exit → Act → World → Prop} (hg : o.guard = none) (m x : Operand) (t : TypeId) (hop : o.op = Op.lookup t m x true)
    (k e : TypeId) (K : Keyed P k) (ht : P.underlying t = some (.map k e)) {z : Value} (hz : (zeroValue e).run P w = .ok z w) (b n : Nat) (D : DataW Value)
    (hm : a.eval m = .map (some b)) (hown : w.ownsMap P k tokE b n D) (key : Value) (kl : Lit) (hx : a.eval x = key) (hkey : keyOf P k key = some kl) (V : Value) (hat : D.atKey kl (.held z) = .held V)
    (hK : wpList P ops Q rest (a.put o.dst (.tuple #[V, .bool (Maps.has D kl)])) w) :
    wpList P ops Q (o :: rest) a w :=
  wpList_lookup_own_ok w hg m x t hop k e K ht tokE hz (.held z) [] rfl b n D hm hown key kl hx hkey (fun v ps hv => by
    have h1 : some (DataW.held v, ([] : List MemPlace)) = some (D.atKey kl (.held z), ps) := hv
    rw [hat] at h1
    injection h1 with h1
    injection h1 with h1 h2
    injection h1 with h1
    subst h1
    exact hK)
set_option maxRecDepth 100000 in
theorem zeroB (w : World) : (zeroValue 42).run Tryd.prog w = .ok (.agg #[.int .i64 0, .int .i64 0, .slice none 0 0]) w := by kernel_rfl
set_option maxRecDepth 100000 in
theorem makeMapB (n : Int) (w : World) : (Instr.makeMap 37 (some (.int .i64 n))).run Tryd.prog w = .ok (.map (some w.heap.size)) (w.alloc (.map #[] 0)) := by
  simp [Instr.makeMap, run_underlying Tryd.underlying37, Result.andThen]
  rfl
set_option maxRecDepth 100000 in
theorem ownsMap_below {H : Type} {P : Program} {k : TypeId} {R : Value → Option (DataW H × List MemPlace)} {w w' : World} {b n : Nat} {D : DataW H} (h : w.ownsMap P k R b n D) (hb : Below w.heap.size w w') : w'.ownsMap P k R b n D := by
  have hl := h.lt
  obtain ⟨es, clock, h1, F, hs, hD⟩ := h
  exact ⟨es, clock, (hb.block _ hl).trans h1, F, hs, hD⟩
/-- What byDigest answers. -/
structure BydO (w w' : World) (e : Ending) (bl : List Bc) : Prop where
  below : Below w.heap.size w w'
  out : (bsF (bws bl) = 12 ∧ e = .returned (.tuple #[.map none, .int .i64 12])) ∨ (bsF (bws bl) = 0 ∧ ∃ b, e = .returned (.tuple #[.map (some b), .int .i64 0]) ∧ w.heap.size ≤ b ∧ w'.ownsMap Tryd.prog 9 tokE b bl.length (heldD bl))
set_option maxRecDepth 100000 in
theorem badB_at {bl : List Bc} {m : Nat} (hm : m < bl.length) : badB (bws bl) m = (decide ((bl[m]).v.f ≠ 0) || hasB (bws (bl.take m)) (bl[m]).v.d) := by
  have e1 : (bws bl).getD m ⟨0, 0, []⟩ = (bl[m]).v := by simp [bws, hm]
  have e2 : (bws bl).take m = bws (bl.take m) := by simp [bws, List.map_take]
  rw [badB, e1, e2]
set_option maxRecDepth 100000 in
set_option maxHeartbeats 4000000 in
theorem byDigest_any (bl : List Bc) (sa : Option Addr) (n cap : Nat) (w : World) (hn : n = bl.length) (hs : BcsAt w sa bl) (hT : Tabs w) :
    Calls Tryd.prog 28 #[.slice sa n cap] w fun e w' => BydO w w' e bl := by
  subst hn
  have HT : Hid (∀ W : World, Below w.heap.size w W → Tabs W) := by
    show ∀ W, _
    exact fun W hW => hT.below hW
  have HS : Hid (∀ W : World, Below w.heap.size w W → BcsAt W sa bl) := by
    show ∀ W, _
    exact fun W hW => hs.below hW
  clear hT hs
  by_cases hlong : 800 < bl.length
  · have HL : Hid (bsF (bws bl) = 12) := bsF_long (by rw [bws_length]; exact hlong)
    have hI : (bl.length : Int) > 800 := by omega
    go_enter Tryd.func28, Tryd.ntmps28
    go_wp2_with fail
    go_ret2
    exact ⟨Below.refl _ _, .inl ⟨HL.out, rfl⟩⟩
  · have hI : ¬ ((bl.length : Int) > 800) := by omega
    have hmm := makeMapB
    go_enter Tryd.func28, Tryd.ntmps28
    go_wp2_with fail
    have hA0 := (Below.refl w.heap.size w).alloc (Nat.le_refl _) (.map #[] 0)
    have hown0 := World.ownsMap_made w Tryd.prog 9 tokE
    generalize w.alloc (.map #[] 0) = W0 at hA0 hown0 ⊢
    go_loopw [19] (fun j wr => ∃ m : Nat, m ≤ bl.length ∧ j = .int .i64 m ∧ Hid (∀ k, k < m → badB (bws bl) k = false) ∧ wr.ownsMap Tryd.prog 9 tokE w.heap.size m (heldD (bl.take m)) ∧ Below w.heap.size w wr) (fun j _ => bl.length - (intOf j).toNat)
    case atStart => exact ⟨0, Nat.zero_le _, rfl, (show ∀ k, k < 0 → _ from fun k hk => by omega), hown0, hA0⟩
    case round =>
      clear hown0 hA0
      obtain ⟨m, hm, rfl, HG, hown, hb⟩ := hrel
      by_cases hlt : m < bl.length
      · have hltI : (m : Int) < bl.length := by omega
        obtain ⟨sb, so, rfl, c0, c1, c2⟩ := (HS.out wr hb).at m hlt
        have hx := (HS.out wr hb).each _ (List.getElem_mem hlt)
        have HBD : Hid (badB (bws bl) m = (decide ((bl[m]).v.f ≠ 0) || hasB (bws (bl.take m)) (bl[m]).v.d)) := badB_at hlt
        have HST : Hid (heldD (bl.take (m + 1)) = (heldD (bl.take m)).put (keyS (bstr (bl[m]).v.d)) (.held (bl[m]).val)) := by
          show _ = _
          rw [List.take_succ_eq_append_getElem hlt, heldD_snoc]
        generalize bl[m] = x at c0 c1 c2 hx HBD HST
        have HHAS : Hid (Maps.has (heldD (bl.take m)) (keyS (bstr x.v.d)) = hasB (bws (bl.take m)) x.v.d) := held_has _ _
        have HNON : Hid (hasB (bws (bl.take m)) x.v.d = false → ∀ z, (heldD (bl.take m)).atKey (keyS (bstr x.v.d)) z = z) := by
          show _ → _
          exact fun h z => held_none h z
        have HHIT : Hid (hasB (bws (bl.take m)) x.v.d = true → ∃ a1 a2 a3 a4 a5, ∀ z, (heldD (bl.take m)).atKey (keyS (bstr x.v.d)) z = .held (.agg #[.int .i64 a1, .int .i64 a2, .slice a3 a4 a5])) := by
          show _ → _
          intro h
          have hap : (bl.take m).Pairwise (fun a b => bstr a.v.d ≠ bstr b.v.d) := by
            refine bsF_apart (bsF_ok ?_ (fun k hk => ?_))
            · rw [bws_length, List.length_take]; omega
            · rw [bws_length, List.length_take] at hk
              have h1 := HG.out k (by omega)
              rw [badB_at (by rw [List.length_take]; omega)]
              rw [badB_at (by omega)] at h1
              rw [List.take_take, List.getElem_take]
              rwa [show min k m = k by omega]
          have hs : (bcOf (bl.take m) x.v.d).isSome = true := by
            have h1 := congrArg Option.isSome (bcOf_bOf (bl.take m) x.v.d)
            rw [bOf_some, h, Option.isSome_map] at h1
            exact h1
          obtain ⟨b, hb⟩ := Option.isSome_iff_exists.1 hs
          exact ⟨_, _, _, _, _, fun z => held_at z _ hap b hb⟩
        generalize heldD (bl.take m) = D at hown HST HHAS HNON HHIT
        have hA2 := (Below.refl wr.heap.size wr).alloc (Nat.le_refl _) (.cells #[.int .i64 x.v.au, .int .i64 x.v.nu, .slice x.ta x.v.ss.length x.tc] 42)
        have q0 := heap_alloc_new wr (.cells #[.int .i64 x.v.au, .int .i64 x.v.nu, .slice x.ta x.v.ss.length x.tc] 42)
        have hown2 := hown.alloc (.cells #[.int .i64 x.v.au, .int .i64 x.v.nu, .slice x.ta x.v.ss.length x.tc] 42)
        go_upto_region 7 with fail
        generalize wr.alloc (.cells #[.int .i64 x.v.au, .int .i64 x.v.nu, .slice x.ta x.v.ss.length x.tc] 42) = W2 at hA2 q0 hown2 ⊢
        generalize wr.heap.size = X at q0 ⊢
        have hB2 := hb.trans (hA2.mono hb.size)
        have hx2 := hx.below hA2
        have k0 := cells_at q0 0 _ rfl
        have k1 := cells_at q0 1 _ rfl
        have k2 := cells_at q0 2 _ rfl
        clear c0 c1 c2 hown
        cases hf : decide (x.v.f ≠ 0)
        case true =>
          have hne := of_decide_eq_true hf
          have HBB : Hid (bsF (bws bl) = 12) := bsF_bad (by rw [bws_length]; exact hlt) (by rw [HBD.out, hf]; rfl)
          clear hf
          go_wp2_with fail
          refine (batchDigest_bad x.v.au x.v.nu x.ta _ x.tc x.v.ss x.v.f W2 rfl (Nat.le_trans hx2.le hx2.max) hx2.strs rfl hne).mono ?_
          rintro e w3 ⟨he, hb3⟩
          subst he
          dsimp only
          have hB3 := hB2.trans (hb3.mono hB2.size)
          have hnb : (x.v.f != 0) = true := by simpa using hne
          clear hne
          go_wp2_with fail
          go_ret2
          exact ⟨hB3, .inl ⟨HBB.out, rfl⟩⟩
        case false =>
          have h0 : x.v.f = 0 := Decidable.not_not.1 (of_decide_eq_false hf)
          obtain ⟨y1, y2, y3, y4⟩ := batchF_ok h0
          have HDG := batchDigest_ok x.v.au x.v.nu x.ta _ x.tc x.v.ss W2 rfl hx2.strs h0 y1 (by omega) y3.2 (fun s hs => (y4 s hs).2) hx2.lt (HT.out W2 hB2)
          have HBD2 : Hid (badB (bws bl) m = hasB (bws (bl.take m)) x.v.d) := by show _ = _; rw [HBD.out, hf]; rfl
          clear hf HBD h0 y1 y2 y3 y4
          go_wp2_with fail
          refine HDG.mono ?_
          rintro e w3 ⟨dg, he, hgd, hb3, hsl3⟩
          subst he
          dsimp only
          have hB3 := hB2.trans (hb3.mono hB2.size)
          have q3 := (hb3.block _ (lt_of_heap q0)).trans q0
          have hown3 := ownsMap_below hown2 hb3
          change SliceAt w3 (some ⟨dg, 0, none⟩) 32 x.v.d at hsl3
          have h32 : x.v.d.length = 32 := tagD_length _ _
          have htx := run_text w3 (some ⟨dg, 0, none⟩) 32 32 x.v.d h32.symm hsl3
          have hkey : keyOf Tryd.prog 9 (.string (bstr x.v.d)) = some (keyS (bstr x.v.d)) := keyOf_string_mk Tryd.underlying9 (by rw [bstr_sz, h32]; decide)
          clear k0 k1 k2 q0 hown2 h32 HDG hx hx2
          cases hh : hasB (bws (bl.take m)) x.v.d
          case true =>
            have HBB : Hid (bsF (bws bl) = 12) := bsF_bad (by rw [bws_length]; exact hlt) (by rw [HBD2.out, hh])
            have HB : Hid (Maps.has D (keyS (bstr x.v.d)) = true) := by show _ = _; rw [HHAS.out, hh]
            obtain ⟨a1, a2, a3, a4, a5, hat⟩ := HHIT.out hh
            have HAT : Hid (∀ z, D.atKey (keyS (bstr x.v.d)) z = .held (.agg #[.int .i64 a1, .int .i64 a2, .slice a3 a4 a5])) := hat
            clear hh hat HHIT HNON HHAS HBD2 HST
            go_wp2_with (at_lookup; refine wpList_lookup_tok _ rfl _ _ 37 rfl 9 42 keyT Tryd.underlying37 (zeroB _) w.heap.size m _ rfl hown3 _ _ rfl hkey _ (HAT.out _) ?_; rw [HB.out])
            go_ret2
            exact ⟨hB3.alloc hB3.size _, .inl ⟨HBB.out, rfl⟩⟩
          case false =>
            have HB : Hid (Maps.has D (keyS (bstr x.v.d)) = false) := by show _ = _; rw [HHAS.out, hh]
            have HGN : Hid (∀ k, k < m + 1 → badB (bws bl) k = false) := by
              show ∀ k, _
              intro k hk
              rcases Nat.lt_or_ge k m with g | g
              · exact HG.out k g
              · obtain rfl : k = m := by omega
                rw [HBD2.out, hh]
            have HAT : Hid (∀ z, D.atKey (keyS (bstr x.v.d)) z = z) := HNON.out hh
            clear hh HHIT HNON HHAS HBD2
            go_upto_region 13 with (at_lookup; refine wpList_lookup_tok _ rfl _ _ 37 rfl 9 42 keyT Tryd.underlying37 (zeroB _) w.heap.size m _ rfl hown3 _ _ rfl hkey _ (HAT.out _) ?_; rw [HB.out])
            have hA4 := (Below.refl w3.heap.size w3).alloc (Nat.le_refl _) (.cells #[.int .i64 0, .int .i64 0, .slice none 0 0] 42)
            have hown4 := hown3.alloc (.cells #[.int .i64 0, .int .i64 0, .slice none 0 0] 42)
            have q4 := (hA4.block _ (lt_of_heap q3)).trans q3
            have hsl4 := hsl3.below hA4
            have hB4 := hB3.trans (hA4.mono hB3.size)
            clear htx
            generalize w3.alloc (.cells #[.int .i64 0, .int .i64 0, .slice none 0 0] 42) = W4 at hA4 hown4 q4 hsl4 hB4 ⊢
            have htx := run_text W4 (some ⟨dg, 0, none⟩) 32 32 x.v.d (tagD_length _ _).symm hsl4
            have k0 := cells_at q4 0 _ rfl
            have k1 := cells_at q4 1 _ rfl
            have k2 := cells_at q4 2 _ rfl
            go_wp2_with (at_mapUpdate; refine wpList_mapUpdate_own _ rfl _ _ _ 37 rfl 9 42 keyT Tryd.underlying37 tokE w.heap.size m _ rfl hown4 (by unfold maxLen; omega) _ _ _ rfl rfl hkey _ [] rfl ?_; intro w5 hown5 hgrow5)
            have hB5 := Below.grown hB4 hgrow5 hB4.size (fun j hj => by cases hj; exact Nat.le_refl _)
            go_roundw
            case rel => exact ⟨m + 1, by omega, by go_num, HGN, by rw [HST.out]; exact hown5, hB5⟩
            case measure => simp [intOf]; omega
      · obtain rfl : m = bl.length := by omega
        rw [List.take_length] at hown
        have HOK : Hid (bsF (bws bl) = 0) := bsF_ok (by rw [bws_length]; omega) (fun k hk => HG.out k (by rw [bws_length] at hk; exact hk))
        go_wp2_with fail
        go_ret2
        exact ⟨hb, .inr ⟨HOK.out, _, rfl, Nat.le_refl _, hown⟩⟩
set_option maxRecDepth 100000 in
theorem checkBatches_any (bl : List Bc) (sa : Option Addr) (n cap : Nat) (w : World) (hn : n = bl.length) (hs : BcsAt w sa bl) (hT : Tabs w) :
    Calls Tryd.prog 13 #[.slice sa n cap] w fun e w' => e = .returned (.int .i64 (bsF (bws bl))) ∧ Below w.heap.size w w' := by
  subst hn
  have HX := byDigest_any bl sa _ cap w rfl hs hT
  clear hs hT
  go_enter Tryd.func13, Tryd.ntmps13
  go_wp2_with fail
  refine HX.mono ?_
  intro e w1 hO
  have hb := hO.below
  rcases hO.out with ⟨h1, he⟩ | ⟨h1, b, he, _, _⟩
  · have H1 : Hid _ := h1
    subst he
    dsimp only
    clear h1 hO
    go_wp2_with fail
    go_ret
    exact ⟨ret_int H1.out.symm, hb⟩
  · have H1 : Hid _ := h1
    subst he
    dsimp only
    clear h1 hO
    go_wp2_with fail
    go_ret
    exact ⟨ret_int H1.out.symm, hb⟩
end Go.Proofs.YtbmodfegcmaieaaDoor

namespace Go.Proofs.YtbmodfegcmaieaaDoor
open Go.RowKit

def plH (ls : List (List Int)) (d : List Int) (j : Nat) : Bool := decide (txL (ls.getD j []) = txL d)
/-- The place of a digest; -1: it is not there. -/
def plF (ls : List (List Int)) (d : List Int) : Int := fidx (plH ls d) ls.length
set_option maxRecDepth 100000 in
theorem plF_iff {ls : List (List Int)} {d : List Int} : 0 ≤ plF ls d ↔ ∃ p ∈ ls, bstr p = bstr d := by
  constructor
  · intro h
    have hy := of_decide_eq_true (fidx_yes (plH ls d) ls.length h)
    have hb := (fidx_ge (plH ls d) ls.length).2
    have hl : (plF ls d).toNat < ls.length := by unfold plF at h ⊢; omega
    exact ⟨ls.getD (plF ls d).toNat [], by simp [hl], ba_ext hy⟩
  · rintro ⟨p, hp, e⟩
    obtain ⟨j, hj, rfl⟩ := List.getElem_of_mem hp
    rcases Int.lt_or_le (plF ls d) 0 with g | g
    · have := fidx_no _ _ g j hj
      have e2 : ls.getD j [] = ls[j] := by simp [hj]
      rw [plH, e2] at this
      simp only [decide_eq_false_iff_not] at this
      exact absurd (by unfold txL; rw [e]) this
    · exact g
set_option maxRecDepth 100000 in
set_option maxHeartbeats 1000000 in
theorem placeG_any (ds : List Part) (da : Option Addr) (n cap : Nat) (bs : List Int) (ka : Option Addr) (kn kc : Nat) (w : World) (hn : n = ds.length) (hk2 : n ≤ 3000000000000000000) (hd : PartsAt w da ds) (hkn : kn = bs.length) (hk : SliceAt w ka kc bs) :
    Calls Tryd.prog 32 #[.slice da n cap, .slice ka kn kc] w fun e w' => e = .returned (.int .i64 (plF (bss ds) bs)) ∧ w = w' := by
  subst hn hkn
  have HL : Hid (ds.length = (bss ds).length) := by show _ = _; rw [bss_length]
  go_enter Tryd.func32, Tryd.ntmps32
  go_wp2_with fail
  go_loop [5] (fun i => ∃ m : Nat, m ≤ ds.length ∧ i = .int .i64 m ∧ fidx (plH (bss ds) bs) m = -1) (fun i => ds.length - (intOf i).toNat)
  case atStart => exact ⟨0, Nat.zero_le _, rfl, rfl⟩
  case round =>
    obtain ⟨m, hm, rfl, hno⟩ := hrel
    by_cases hlt : m < ds.length
    · rcases hd.cells with hc | ⟨sb, so, rfl, hc⟩
      · subst hc; simp at hlt
      have ck := hc m hlt
      have hx := hd.each (ds[m]) (List.getElem_mem hlt)
      have hltI : (m : Int) < ds.length := by omega
      have hg : (bss ds).getD m [] = (ds[m]).bs := bss_get ds m hlt
      have Hf : Hid (txL (ds[m]).bs = txL bs → plF (bss ds) bs = m) := by
        show _ → _
        intro h
        exact fidx_hit _ m _ hno (by rw [plH, hg]; simpa using h) (by rw [← HL.out]; exact hlt)
      have Hn : Hid (¬ txL (ds[m]).bs = txL bs → fidx (plH (bss ds) bs) (m + 1) = -1) := by
        show _ → _
        intro h
        exact fidx_step _ m hno (by rw [plH, hg]; simpa using h)
      clear hno hg hc
      generalize ds[m] = p at *
      go_wp2_with fail
      refine (sameBytes_any p.bs bs p.sa ka _ _ p.cap kc w rfl rfl hx hk).mono ?_
      rintro e w1 ⟨he, rfl⟩
      subst he
      dsimp only
      by_cases h : txL p.bs = txL bs
      · have He : Hid (plF (bss ds) bs = m) := Hf.out h
        rw [decide_eq_true h]
        clear Hf Hn h
        go_wp2_with fail
        go_ret
        exact ⟨ret_int He.out.symm, rfl⟩
      · have He : Hid (fidx (plH (bss ds) bs) (m + 1) = -1) := Hn.out h
        rw [decide_eq_false h]
        clear Hf Hn h
        go_wp2_with fail
        go_round
        case rel => exact ⟨m + 1, by omega, by go_num, He.out⟩
        case measure => simp [intOf]; omega
    · obtain rfl : m = ds.length := by omega
      have He : Hid (plF (bss ds) bs = -1) := by
        show fidx _ _ = -1
        rw [← HL.out]; exact hno
      clear hno
      go_wp2_with fail
      go_ret
      exact ⟨ret_int He.out.symm, rfl⟩

set_option maxRecDepth 100000 in
theorem plF_has {l : List BW} {d : List Int} {ls : List (List Int)} (h : ls = l.map BW.d) : decide (0 ≤ plF ls d) = hasB l d := by
  rw [Bool.eq_iff_iff, decide_eq_true_eq, plF_iff, h]
  simp only [hasB, List.any_eq_true, decide_eq_true_eq]
  constructor
  · rintro ⟨p, hp, e⟩
    obtain ⟨b, hb, rfl⟩ := List.mem_map.1 hp
    exact ⟨b, hb, e⟩
  · rintro ⟨b, hb, e⟩
    exact ⟨b.d, List.mem_map.2 ⟨b, hb, rfl⟩, e⟩
set_option maxRecDepth 100000 in
set_option maxHeartbeats 4000000 in
theorem batchesFault_any (bl : List Bc) (sa : Option Addr) (n cap : Nat) (w : World) (hn : n = bl.length) (hr : BinAt w sa bl) :
    Calls Tryd.prog 15 #[.slice sa n cap] w fun e w' => e = .returned (.int .i64 (bsF (bws bl))) ∧ Below w.heap.size w w' := by
  subst hn
  obtain ⟨i, hi, hz0, hz1, hz2⟩ := info_parts infoBs
  have HR : Hid (∀ W : World, Below w.heap.size w W → BinAt W sa bl) := by
    show ∀ W, _
    exact fun W hW => hr.below hW
  clear hr
  by_cases hlong : 800 < bl.length
  · have HL : Hid (bsF (bws bl) = 12) := bsF_long (by rw [bws_length]; exact hlong)
    have hI : (bl.length : Int) > 800 := by omega
    go_enter Tryd.func15, Tryd.ntmps15
    go_wp2_with fail
    go_ret
    exact ⟨ret_int HL.out.symm, Below.refl _ _⟩
  · have hI : ¬ ((bl.length : Int) > 800) := by omega
    go_enter Tryd.func15, Tryd.ntmps15
    go_wp2_with fail
    go_loopw [4, 3] (fun j v wr => ∃ (m : Nat) (qs : List Part), m ≤ bl.length ∧ j = .int .i64 m ∧ Hid (∀ k, k < m → badB (bws bl) k = false) ∧ Hid (bss qs = (bws (bl.take m)).map BW.d) ∧ Hid (qs.length = m) ∧ wr.ownsRow w.heap.size 46 1 v m (pv qs) ∧ Apart wr w.heap.size v qs ∧ Below w.heap.size w wr) (fun j _ _ => bl.length - (intOf j).toNat)
    case atStart => exact ⟨0, [], Nat.zero_le _, rfl, (show ∀ k, k < 0 → _ from fun k hk => by omega), (show _ = _ from rfl), (show _ = _ from rfl), World.ownsRow_nil _ _ _ _, (fun p hp => by cases hp), Below.refl _ _⟩
    case round =>
      obtain ⟨m, qs, hm, rfl, HG, HS, HQL, ho, hap, hb⟩ := hrel
      by_cases hlt : m < bl.length
      · have hltI : (m : Int) < bl.length := by omega
        have hrr := HR.out wr hb
        obtain ⟨sb, so, hse, hc⟩ : ∃ sb so, sa = some ⟨sb, so, none⟩ ∧ ∀ j (h : j < bl.length), _ := by
          rcases hrr.cells with h | h
          · rw [h] at hlt; simp at hlt
          · exact h
        subst hse
        obtain ⟨c0, c1, c2⟩ := hc m hlt
        have hTx := (hrr.each (bl[m]) (List.getElem_mem hlt)).2.2
        have HBD : Hid (badB (bws bl) m = (decide ((bl[m]).v.f ≠ 0) || hasB (bws (bl.take m)) (bl[m]).v.d)) := badB_at hlt
        have HTK : Hid ((bws (bl.take (m + 1))).map BW.d = (bws (bl.take m)).map BW.d ++ [(bl[m]).v.d]) := by
          show _ = _
          rw [List.take_succ_eq_append_getElem hlt]; unfold bws; rw [List.map_append, List.map_append]; rfl
        have hsbl : sb < wr.heap.size := block_lt_of_cell c0
        clear hc hrr
        generalize bl[m] = x at c0 c1 c2 hTx HBD HTK
        have hml : x.v.ss.length ≤ maxLen := by have := hTx.le; have := hTx.reach; unfold maxLen; omega
        have HBF := batchFault_any x.v.au x.v.nu x.ta _ x.tc x.v.ss wr rfl hml hTx.strs
        cases hf : decide (x.v.f ≠ 0)
        case true =>
          have hne : (x.v.f != 0) = true := by have := of_decide_eq_true hf; simpa using this
          have HBB : Hid (bsF (bws bl) = 12) := bsF_bad (by rw [bws_length]; exact hlt) (by rw [HBD.out, hf]; rfl)
          have HBF2 : Calls Tryd.prog 30 #[.agg #[.int .i64 x.v.au, .int .i64 x.v.nu, .slice x.ta x.v.ss.length x.tc]] wr fun e w' => e = .returned (.int .i64 x.v.f) ∧ Below wr.heap.size wr w' := HBF
          generalize x.v.f = fx at hne HBF2
          clear hf HBF HBD
          go_wp2_with fail
          refine HBF2.mono ?_
          rintro e w2 ⟨he, hb2⟩
          subst he
          dsimp only
          go_wp2_with fail
          go_ret
          exact ⟨ret_int HBB.out.symm, hb.trans (hb2.mono hb.size)⟩
        case false =>
          have h0 : x.v.f = 0 := Decidable.not_not.1 (of_decide_eq_false hf)
          have HBF2 : Calls Tryd.prog 30 #[.agg #[.int .i64 x.v.au, .int .i64 x.v.nu, .slice x.ta x.v.ss.length x.tc]] wr fun e w' => e = .returned (.int .i64 0) ∧ Below wr.heap.size wr w' := by
            have := HBF
            rw [show batchF x.v.au x.v.nu x.v.ss = 0 from h0] at this
            exact this
          have HBD2 : Hid (badB (bws bl) m = hasB (bws (bl.take m)) x.v.d) := by show _ = _; rw [HBD.out, hf]; rfl
          have HF0 : Hid (batchF x.v.au x.v.nu x.v.ss = 0) := h0
          clear hf HBF HBD h0
          go_wp2_with fail
          refine HBF2.mono ?_
          rintro e w2 ⟨he, hb2⟩
          subst he
          dsimp only
          have hB2 := hb.trans (hb2.mono hb.size)
          have g0 := (hb2.cell (p := ⟨sb, so + m * 3, none⟩) hsbl).trans c0
          have g1 := (hb2.cell (p := ⟨sb, so + m * 3 + 1, none⟩) hsbl).trans c1
          have g2 := (hb2.cell (p := ⟨sb, so + m * 3 + 2, none⟩) hsbl).trans c2
          have HDG := rBatchDigest_new x.v.au x.v.nu x.ta _ x.tc x.v.ss w2 rfl (hTx.strs.below hb2) HF0.out
          clear HBF2 c0 c1 c2
          go_wp2_with fail
          refine HDG.mono ?_
          rintro e w3 ⟨g, gc, he, hs3, hb3, hge⟩
          subst he
          dsimp only
          have hb23 := hb2.trans (hb3.mono hb2.size)
          have hB3 := hB2.trans (hb3.mono hB2.size)
          change SliceAt w3 (some ⟨g, 0, none⟩) gc x.v.d at hs3
          have h32 : x.v.d.length = 32 := tagD_length _ _
          have ho3 := owns_keep ho hb23
          have hap3 : Apart w3 w.heap.size _ qs := hap.same hb23.size (fun p hp b' so' e' => hb23.block _ ((hap p hp).2 b' so' e').2.1)
          obtain ⟨la, lc, hve, hnl, hL, hFr⟩ := listAt_of_owns ho3 hap3
          subst hve
          have hL3 := hL (by omega)
          obtain ⟨N, hN⟩ : ∃ N : Int, plF (bss qs) x.v.d = N := ⟨_, rfl⟩
          have HPL : Calls Tryd.prog 32 #[.slice la m lc, .slice (some ⟨g, 0, none⟩) 32 gc] w3 fun e w' => e = .returned (.int .i64 N) ∧ w3 = w' := by
            rw [← hN]
            exact placeG_any qs la m lc x.v.d (some ⟨g, 0, none⟩) 32 gc w3 hnl (by omega) hL3.parts h32.symm hs3
          have HNH : Hid (decide (0 ≤ N) = hasB (bws (bl.take m)) x.v.d) := by show _ = _; rw [← hN]; exact plF_has HS.out
          clear hN hnl hL hL3 hFr HDG g0 g1 g2
          by_cases hN0 : 0 ≤ N
          · have HBB : Hid (bsF (bws bl) = 12) := bsF_bad (by rw [bws_length]; exact hlt) (by rw [HBD2.out, ← HNH.out]; exact decide_eq_true hN0)
            go_wp2_with (go_at_call 32; refine HPL.mono ?_; rintro e w' ⟨rfl, rfl⟩)
            go_ret
            exact ⟨ret_int HBB.out.symm, hB3⟩
          · have HGN : Hid (∀ k, k < m + 1 → badB (bws bl) k = false) := by
              show ∀ k, _
              intro k hk
              rcases Nat.lt_or_ge k m with z | z
              · exact HG.out k z
              · obtain rfl : k = m := by omega
                rw [HBD2.out, ← HNH.out]; exact decide_eq_false hN0
            have hlt3 : g < w3.heap.size := by
              rcases hs3.bytes with h | ⟨sb', so', e', h⟩
              · rw [h] at h32; simp at h32
              · cases e'; exact block_lt_of_cell (h 0 (by omega))
            go_upto_region 12 with (go_at_call 32; refine HPL.mono ?_; rintro e w' ⟨rfl, rfl⟩)
            clear HPL
            go_wp2_with (at_builtin; refine wpList_append_own_at _ rfl _ _ 44 rfl w.heap.size 46 i (.slice none 0 0) 1 24 Tryd.underlying44 hi hz0 hz1 hz2 rfl (by decide) _ m _ rfl (World.ownsRow.alloc ho3 _) ⟨w3.heap.size, 0, none⟩ 1 1 [.slice (some ⟨g, 0, none⟩) 32 gc] rfl rfl (cells_new _ _ _) (by intro u hu; simp at hu; subst hu; rfl) (by unfold maxLen; omega) (by omega) (le_alloc hB3.size _) ?_; intro v5 w5 ho5 hg5 _ hat5)
            have G5 := Grew.of hg5 hat5
            have hap5 := hap.more_at (q := ⟨some ⟨g, 0, none⟩, gc, x.v.d⟩) hb.size ho hb23 (fun sb' so' e => by cases e; exact ⟨Nat.le_trans hb2.size hge, hlt3⟩) hs3 G5
            have hB5 := Below.grown (hB3.alloc hB3.size _) hg5 (le_alloc hB3.size _) (fun q e => (ho3.lt q e).1)
            go_roundw
            case rel =>
              have hR : ∃ (m' : Nat) (qs' : List Part), m' ≤ bl.length ∧ (Value.int .i64 ((m : Int) + 1)) = .int .i64 m' ∧ Hid (∀ k, k < m' → badB (bws bl) k = false) ∧ Hid (bss qs' = (bws (bl.take m')).map BW.d) ∧ Hid (qs'.length = m') ∧ w5.ownsRow w.heap.size 46 1 v5 m' (pv qs') ∧ Apart w5 w.heap.size v5 qs' ∧ Below w.heap.size w w5 :=
                ⟨m + 1, qs ++ [⟨some ⟨g, 0, none⟩, gc, x.v.d⟩], by omega, by go_num, HGN, (by
                  show _ = _
                  rw [HTK.out, ← HS.out]; simp [bss]), (by
                  show _ = _
                  rw [List.length_append, HQL.out]; rfl), by
                  have e3 : pv (qs ++ [⟨some ⟨g, 0, none⟩, gc, x.v.d⟩]) = pv qs ++ [.slice (some ⟨g, 0, none⟩) 32 gc] := by simp [pv, Part.val, h32]
                  rw [e3]; exact ho5, hap5, hB5⟩
              first | exact hR | ((repeat apply Exists.intro); exact ⟨hR, rfl⟩)
            case measure => simp [intOf]; omega
      · obtain rfl : m = bl.length := by omega
        have HOK : Hid (bsF (bws bl) = 0) := bsF_ok (by rw [bws_length]; omega) (fun k hk => HG.out k (by rw [bws_length] at hk; exact hk))
        go_wp2_with fail
        go_ret
        exact ⟨ret_int HOK.out.symm, hb⟩
end Go.Proofs.YtbmodfegcmaieaaDoor

namespace Go.Proofs.YtbmodfegcmaieaaDoor
open Go.RowKit

set_option maxRecDepth 100000 in
set_option maxHeartbeats 1000000 in
theorem orderBatches_walk (sa : Option Addr) (cap : Nat) (bl : List Bc) (w : World) (hr : BinAt w sa bl) (_hc : bl.length ≤ cap) (hl : bl.length * 40 ≤ 140737488351232) (hT : Tabs w) :
    Calls Tryd.prog 3 #[.slice sa bl.length cap] w fun e w' => e = .returned (.bool true) ∧ Below w.heap.size w w' := by
  have H1 := batches_any bl sa _ cap w rfl hl hr
  go_enter Tryd.func3, Tryd.ntmps3
  go_wp2_with fail
  refine H1.mono ?_
  intro e w1 hO
  have hb1 := hO.below
  obtain ⟨v, cl, he, hcv, ho, hat⟩ := hO.out
  obtain ⟨ba, bc, hve, -, hAt⟩ := bcs_of_owns ho hat
  subst hve
  subst he
  dsimp only
  have HCV : Hid (bws cl = bws bl) := hcv
  have H2 := checkBatches_any cl ba _ bc w1 rfl hAt (hT.below hb1)
  rw [HCV.out] at H2
  clear hO hcv ho hat H1 hAt
  go_wp2_with fail
  refine H2.mono ?_
  rintro e w2 ⟨he, hb2⟩
  subst he
  dsimp only
  have hB2 := hb1.trans (hb2.mono hb1.size)
  have H3 := batchesFault_any bl sa _ cap w2 rfl (hr.below hB2)
  generalize bsF (bws bl) = B at H3 ⊢
  clear H2 HCV
  go_wp2_with fail
  refine H3.mono ?_
  rintro e w3 ⟨he, hb3⟩
  subst he
  dsimp only
  go_wp2_with fail
  go_ret
  exact ⟨by simp, hB2.trans (hb3.mono hB2.size)⟩
end Go.Proofs.YtbmodfegcmaieaaDoor
