/- Histories of two dags; blocks in plain lists. -/
import Derived.Test.YtbmodfegcmaieaaDoorBlockSameM0
import Derived.Test.YtbmodfegcmaieaaDoorGApp
import Derived.Test.YtbmodfegcmaieaaDoorQEOncF
import Derived.Maps.Own
import Derived.Maps.OwnSet
import Derived.Maps.OwnOps
import Derived.Maps.Views
import Derived.StringKeys
import Derived.Test.YtbmodfegcmaieaaDoorGDagQ
import Derived.Test.YtbmodfegcmaieaaDoorGCtFar
import Derived.Test.YtbmodfegcmaieaaDoorGAppR
import Derived.Test.YtbmodfegcmaieaaDoorGOwnL
import Derived.Test.YtbmodfegcmaieaaDoorGIntsL
import Derived.Test.YtbmodfegcmaieaaDoorGCalls
import Derived.Test.YtbmodfegcmaieaaDoorQBcF
namespace Go.Proofs.YtbmodfegcmaieaaDoor
open Go.RowKit Go.WideMaps Go.Maps

set_option maxRecDepth 100000 in
theorem keyT : Keyed Tryd.prog 9 := string_keyed Tryd.underlying9
set_option maxRecDepth 100000 in
theorem zeroU (w : World) : (zeroValue 120).run Tryd.prog w = .ok (.agg #[]) w := by kernel_rfl
def keyS (s : ByteArray) : Lit := .string s.data.toList
set_option maxRecDepth 100000 in
theorem keyS_inj {a b : ByteArray} (h : keyS a = keyS b) : a = b := by
  unfold keyS at h
  injection h with h
  exact ByteArray.ext (Array.toList_inj.1 h)
set_option maxRecDepth 100000 in
theorem has_texts (l : List ByteArray) (s : ByteArray) : Maps.has (setOf (H := Unit) (.agg []) (l.map keyS)) (keyS s) = inO s l := by
  rw [has_setOf _ _ _ (by intro x hx; obtain ⟨y, _, rfl⟩ := List.mem_map.1 hx; exact trivial)]
  rw [Bool.eq_iff_iff]
  simp only [List.any_map, List.any_eq_true, Function.comp, inO_iff]
  constructor
  · rintro ⟨y, hy, h⟩
    rw [← keyS_inj ((WideAt.sameKey_iff (show WideAt.IsKeyLit (keyS s) from trivial)).1 h)]
    exact hy
  · intro h
    exact ⟨s, h, (WideAt.sameKey_iff (show WideAt.IsKeyLit (keyS s) from trivial)).2 rfl⟩
set_option maxRecDepth 100000 in
theorem makeMapT (n : Int) (w : World) : (Instr.makeMap 119 (some (.int .i64 n))).run Tryd.prog w = .ok (.map (some w.heap.size)) (w.alloc (.map #[] 0)) := by
  simp [Instr.makeMap, run_underlying Tryd.underlying119, Result.andThen]
  rfl
set_option maxRecDepth 100000 in
set_option maxHeartbeats 4000000 in
theorem eachOnce_any (ss : List ByteArray) (sa : Option Addr) (n cap : Nat) (w : World) (hn : n = ss.length) (hl : ss.length ≤ 1099511627776) (hp : StrsAt w sa ss) :
    Calls Tryd.prog 59 #[.slice sa n cap] w fun e w' => ∃ v, e = .returned v ∧ w'.ownsRow (w.heap.size + 1) 9 1 v (onceS [] ss).length (sv (onceS [] ss)) ∧ Below w.heap.size w w' := by
  subst hn
  obtain ⟨i, hi, hz0, hz1, hz2⟩ := info_parts infoStr
  have hmm := makeMapT
  go_enter Tryd.func59, Tryd.ntmps59
  go_wp2_with fail
  go_loopw [14, 3] (fun j v wr => ∃ m : Nat, m ≤ ss.length ∧ j = .int .i64 m ∧ wr.ownsMap Tryd.prog 9 (unitElem (H := Unit)) w.heap.size m (setOf (.agg []) ((onceS [] (ss.take m)).map keyS)) ∧ wr.ownsRow (w.heap.size + 1) 9 1 v (onceS [] (ss.take m)).length (sv (onceS [] (ss.take m))) ∧ Below w.heap.size w wr) (fun j _ _ => ss.length - (intOf j).toNat)
  case atStart => exact ⟨0, Nat.zero_le _, rfl, World.ownsMap_made _ _ _ _, World.ownsRow_nil _ _ _ _, (Below.refl _ _).alloc (Nat.le_refl _) _⟩
  case round =>
    obtain ⟨m, hm, rfl, hown, ho, hb⟩ := hrel
    by_cases hlt : m < ss.length
    · obtain ⟨tb, tq, rfl, hc⟩ : ∃ tb tq, sa = some ⟨tb, tq, none⟩ ∧ ∀ j, j < ss.length → w.cell? ⟨tb, tq + j, none⟩ = some (.string (ss.getD j ByteArray.empty)) := by
        rcases hp.cells with h | h
        · rw [h] at hlt; simp at hlt
        · exact h
      have ck := (hb.cell (p := ⟨tb, tq + m, none⟩) (block_lt_of_cell (hc m hlt))).trans (hc m hlt)
      have hltI : (m : Int) < ss.length := by omega
      have hsz : (ss.getD m ByteArray.empty).size ≤ maxLen := hp.size _ (by simp [List.getD, hlt])
      have hst : Hid (onceS [] (ss.take (m + 1)) = bif inO (ss.getD m ByteArray.empty) (onceS [] (ss.take m)) then onceS [] (ss.take m) else onceS [] (ss.take m) ++ [ss.getD m ByteArray.empty]) := by
        show _ = _
        rw [List.take_succ_eq_append_getElem hlt, onceS_snoc]
        simp [List.getD, hlt]
      have hL : (onceS [] (ss.take m)).length ≤ m := by
        have h := onceS_len (ss.take m) []
        rw [List.length_take] at h
        simp at h
        omega
      clear hc
      generalize ss.getD m ByteArray.empty = x at ck hst hsz
      generalize onceS [] (ss.take m) = acc at *
      have hkey : keyOf Tryd.prog 9 (.string x) = some (keyS x) := keyOf_string_mk Tryd.underlying9 hsz
      have HS : Hid (x.size ≤ maxLen) := hsz
      have HH : Hid (Maps.has (setOf (H := Unit) (.agg []) (acc.map keyS)) (keyS x) = inO x acc) := has_texts acc x
      clear hsz
      cases hx : inO x acc
      case true =>
        have HX : Hid (onceS [] (ss.take (m + 1)) = acc) := by show _ = _; rw [hst.out, hx]; rfl
        have HB : Hid (Maps.has (setOf (H := Unit) (.agg []) (acc.map keyS)) (keyS x) = true) := by show _ = _; rw [HH.out, hx]
        clear hst HH hx
        go_wp2_with (at_lookup; refine wpList_lookup_own_unit _ rfl _ _ 119 rfl 9 120 keyT Tryd.underlying119 (zeroU _) w.heap.size m _ rfl hown _ _ rfl hkey ?_; rw [HB.out])
        go_roundw
        case rel =>
          exact ⟨m + 1, by omega, by go_num, by rw [HX.out]; exact (hown.alloc _).mono (Nat.le_succ _), by rw [HX.out]; exact World.ownsRow.alloc ho _, hb.alloc hb.size _⟩
        case measure => simp [intOf]; omega
      case false =>
        have HX : Hid (onceS [] (ss.take (m + 1)) = acc ++ [x]) := by show _ = _; rw [hst.out, hx]; rfl
        have HB : Hid (Maps.has (setOf (H := Unit) (.agg []) (acc.map keyS)) (keyS x) = false) := by show _ = _; rw [HH.out, hx]
        clear hst HH hx
        go_wp2_with (first
          | (at_lookup; refine wpList_lookup_own_unit _ rfl _ _ 119 rfl 9 120 keyT Tryd.underlying119 (zeroU _) w.heap.size m _ rfl hown _ _ rfl hkey ?_; rw [HB.out])
          | (at_mapUpdate; refine wpList_mapUpdate_own _ rfl _ _ _ 119 rfl 9 120 keyT Tryd.underlying119 (unitElem (H := Unit)) w.heap.size m _ rfl (hown.alloc _) (by unfold maxLen; omega) _ _ _ rfl rfl hkey _ [] unitElem_mk ?_; intro w5 hown5 hgrow5; have ho5 := World.ownsRow.kept (World.ownsRow.alloc ho (.cells #[] 120)) hgrow5 (.inr fun e => Nat.not_succ_le_self _ (ho.lt _ e).1); have hB5 := Below.grown (hb.alloc hb.size (.cells #[] 120)) hgrow5 (le_alloc hb.size _) (fun j hj => by cases hj; exact Nat.le_refl _))
          | (at_builtin; refine wpList_append_own _ rfl _ _ 40 rfl (w.heap.size + 1) 9 i (.string ByteArray.empty) 1 16 Tryd.underlying40 hi hz0 hz1 hz2 rfl (by decide) _ acc.length _ rfl (World.ownsRow.alloc ho5 _) ⟨w5.heap.size, 0, none⟩ 1 1 [.string x] rfl rfl (cells_new _ _ _) (sv_one [_]) (by unfold maxLen; omega) (by omega) (le_alloc hown5.lt _) ?_; intro v1 w6 ho6 hg6 _))
        have hown6 := World.ownsMap.kept (hown5.alloc _) hg6 (fun e => Nat.not_succ_le_self _ (ho5.lt _ e.symm).1)
        have hb6 := Below.grown (hB5.alloc hB5.size _) hg6 (le_alloc hB5.size _) (fun q e => Nat.le_of_succ_le (ho5.lt q e).1)
        go_roundw
        case rel =>
          refine ⟨m + 1, by omega, by go_num, ?_, ?_, hb6⟩
          · rw [HX.out, List.map_append, List.map_cons, List.map_nil, setOf_snoc]; exact hown6
          · rw [HX.out]; simpa [sv] using ho6
        case measure => simp [intOf]; omega
    · obtain rfl : m = ss.length := by omega
      rw [List.take_of_length_le (Nat.le_refl _)] at hown ho
      go_wp2_with fail
      go_ret
      exact ⟨_, rfl, ho, hb⟩
end Go.Proofs.YtbmodfegcmaieaaDoor

namespace Go.Proofs.YtbmodfegcmaieaaDoor
open Go.RowKit

/-- One certificate more, from the last to the first. -/
def rchS (st : List ByteArray × List CV) (c : CV) : List ByteArray × List CV := bif inO (bstr c.d) st.1 then (st.1 ++ c.pl.map bstr, st.2 ++ [c]) else st
/-- What was met, and what is reached, when the certificates from m on were looked at. -/
def rchTo (l : List CV) (k : List Int) (m : Nat) : List ByteArray × List CV := ((l.drop m).reverse).foldl rchS ([bstr k], [])
set_option maxRecDepth 100000 in
theorem rchTo_end (l : List CV) (k : List Int) : rchTo l k l.length = ([bstr k], []) := by simp [rchTo]
set_option maxRecDepth 100000 in
theorem rchTo_step (l : List CV) (k : List Int) (m : Nat) (h : m < l.length) : rchTo l k m = rchS (rchTo l k (m + 1)) (cvAt l m) := by
  rw [rchTo, rchTo, List.drop_eq_getElem_cons h, List.reverse_cons, List.foldl_append]
  simp [cvAt, h]
end Go.Proofs.YtbmodfegcmaieaaDoor

namespace Go.Proofs.YtbmodfegcmaieaaDoor
open Go.RowKit Go.WideMaps Go.Maps

/-- A step of a history in memory. -/
structure HSt where
  c : Ct
  p : Part
def HSt.cs (s : HSt) : List Value := [.int .i64 s.c.au, .int .i64 s.c.rd, .slice s.c.ba s.c.bl.length s.c.bc, .slice s.c.pa s.c.pl.length s.c.pc, .slice s.p.sa s.p.bs.length s.p.cap]
def hsv (l : List HSt) : List Value := l.flatMap HSt.cs
set_option maxRecDepth 100000 in
theorem hsv_snoc (l : List HSt) (s : HSt) : hsv (l ++ [s]) = hsv l ++ s.cs := by simp [hsv]
set_option maxRecDepth 100000 in
theorem infoHStep : (Tryd.prog.info? 91).map (fun i => (i.zero, i.size, i.bytes)) = some (some (.agg #[.int .i64 0, .int .i64 0, .slice none 0 0, .slice none 0 0, .slice none 0 0]), 5, 88) := by kernel_rfl
set_option maxRecDepth 100000 in
theorem wpList_insert_own {H : Type} {P : Program} (w : World) {ops : Array Oper} {rest : List Oper} {o : Oper} {a : Act} {Q : Exit → Act → World → Prop}
    (hg : o.guard = none) (m x v : Operand) (t : TypeId) (hop : o.op = Op.insert t m x v)
    (k e : TypeId) (K : Keyed P k) (ht : P.underlying t = some (.map k e)) (R : Value → Option (DataW H × List MemPlace)) (b n : Nat) (D : DataW H)
    (hm : a.eval m = .map (some b)) (hown : w.ownsMap P k R b n D) (hn : n < maxLen) (key val : Value) (kl : Lit) (hx : a.eval x = key) (hv : a.eval v = val) (hkey : keyOf P k key = some kl)
    (d : DataW H) (ps : List MemPlace) (hval : R val = some (d, ps))
    (hK : ∀ w', w'.ownsMap P k R b (n + 1) (D.put kl d) → w.grownBy w' (some b) → wpList P ops Q rest (a.put o.dst undef) w') :
    wpList P ops Q (o :: rest) a w := by
  refine wpList_plain hg fun K' hK' => ?_
  obtain ⟨w', hrun, r1, r2⟩ := hown.update K ht hn hkey hval
  unfold Oper.wp
  simp [execOp, hop, hm, hx, hv, hrun, Result.andThen]
  exact hK' _ _ (hK w' r1 r2)
set_option maxRecDepth 100000 in
theorem makeMapT0 (w : World) : (Instr.makeMap 119 none).run Tryd.prog w = .ok (.map (some w.heap.size)) (w.alloc (.map #[] 0)) := by
  simp [Instr.makeMap, Result.andThen]
/-- What reached answers. -/
structure RchO (w w' : World) (e : Ending) (ls : List Ct) (k : List Int) : Prop where
  below : Below w.heap.size w w'
  out : ∃ (v : Value) (sts : List HSt), e = .returned (.tuple #[v, .int .i64 0]) ∧ sts.map (·.c.v) = (rchTo (cvs ls) k 0).2 ∧ (∀ s ∈ sts, s.c ∈ ls ∧ s.p.bs = s.c.v.d) ∧ w'.ownsRow (w.heap.size + 2) 91 5 v sts.length (hsv sts) ∧ Apart w' (w.heap.size + 2) v (sts.map HSt.p)
set_option maxRecDepth 100000 in
set_option maxHeartbeats 2000000 in
theorem reached_any (ls : List Ct) (sa : Option Addr) (n cap : Nat) (bs : List Int) (ka : Option Addr) (kn kc : Nat) (w : World) (hn : n = ls.length) (hkn : kn = bs.length) (hd : DagAt w sa cap ls) (hF : dagF (cvs ls) = 0) (hk : SliceAt w ka kc bs) (hT : Tabs w) :
    Calls Tryd.prog 73 #[.agg #[.slice sa n cap], .slice ka kn kc] w fun e w' => RchO w w' e ls bs := by
  subst hn hkn
  have hlen := dag_le hF
  have HF : Hid (∀ c ∈ ls, headerF c.au c.rd c.bl c.pl = 0 ∧ c.pl.length ≤ 4) := by
    show ∀ c ∈ ls, _
    intro c hc
    have h := certF_head (vl := c.vl) (by rw [Ct.f_v]; exact all_f hF c hc)
    exact ⟨h, (headerF_ok h).2.2.2.1⟩
  clear hF
  have hmm := makeMapT0
  obtain ⟨i, hi, hz0, hz1, hz2⟩ := info_parts infoHStep
  have hA : Below w.heap.size w (w.alloc (.cells #[.slice sa ls.length cap] 51)) := (Below.refl _ _).alloc (Nat.le_refl _) _
  have r0 := heap_alloc_new w (.cells #[.slice sa ls.length cap] 51)
  have hS0 : Hid ((w.alloc (.cells #[.slice sa ls.length cap] 51)).heap.size = w.heap.size + 1) := (show _ = _ by simp)
  go_enter Tryd.func73, Tryd.ntmps73
  go_upto_region 2 with fail
  generalize w.alloc (.cells #[.slice sa ls.length cap] 51) = W0 at hA r0 hS0 ⊢
  have hA1 := (Below.refl W0.heap.size W0).alloc (Nat.le_refl _) (.map #[] 0)
  have htx := run_text (W0.alloc (.map #[] 0)) ka bs.length kc bs rfl (hk.below (hA.trans (hA1.mono hA.size)))
  have hkl : bs.length ≤ maxLen := Nat.le_trans hk.le hk.max
  have hkey : keyOf Tryd.prog 9 (.string (bstr bs)) = some (keyS (bstr bs)) := keyOf_string_mk Tryd.underlying9 (by rw [bstr_sz]; exact hkl)
  go_upto_region 3 with (refine wpList_insert_own _ rfl _ _ _ 119 rfl 9 120 keyT Tryd.underlying119 (unitElem (H := Unit)) W0.heap.size 0 _ rfl (World.ownsMap_made _ _ _ _) (by decide) _ _ _ rfl rfl hkey _ [] unitElem_mk ?_; intro w5 hown5 hgrow5)
  have hb5 : Below W0.heap.size W0 w5 := Below.grown hA1 hgrow5 (le_alloc (Nat.le_refl _) _) (fun j hj => by cases hj; exact Nat.le_refl _)
  have hW5 : W0.heap.size < w5.heap.size := hown5.lt
  have e0 := (hb5.block _ (lt_of_heap r0)).trans r0
  have d0 := cells_at e0 0 _ rfl
  go_wp2_with fail
  go_loopw [8, 6] (fun j v wr => ∃ (m : Nat) (z : Int) (sts : List HSt) (met : List ByteArray), m ≤ ls.length ∧ j = .int .i64 z ∧ z = (m : Int) - 1 ∧ Hid (rchTo (cvs ls) bs m = (met, sts.map (·.c.v))) ∧ met.length + 4 * m ≤ 1 + 4 * ls.length ∧ Hid (∀ s ∈ sts, s.c ∈ ls ∧ s.p.bs = s.c.v.d) ∧ sts.length + m ≤ ls.length ∧ wr.ownsMap Tryd.prog 9 (unitElem (H := Unit)) W0.heap.size met.length (setOf (.agg []) (met.map keyS)) ∧ wr.ownsRow (w.heap.size + 2) 91 5 v sts.length (hsv sts) ∧ Apart wr (w.heap.size + 2) v (sts.map HSt.p) ∧ Below W0.heap.size W0 wr) (fun j _ _ => (intOf j + 1).toNat)
  case atStart =>
    exact ⟨ls.length, _, [], [bstr bs], Nat.le_refl _, rfl, rfl, (show _ = _ by rw [← cvs_length ls]; exact rchTo_end _ _), by simp, (show ∀ s ∈ [], _ from fun s hs => by cases hs), by simp, hown5, World.ownsRow_nil _ _ _ _, (fun p hp => by cases hp), hb5⟩
  case round =>
    clear d0 e0 hown5 hgrow5 hb5 hW5 htx hkey
    obtain ⟨m, z, sts, met, hm, rfl, hz, hto, hmet, hsts, hsl, hown, ho, hap, hb⟩ := hrel
    have hAr := hA.trans (hb.mono hA.size)
    have e0 := (hb.block _ (lt_of_heap r0)).trans r0
    have d0 := cells_at e0 0 _ rfl
    by_cases h0 : m = 0
    · subst h0
      have hneg : ¬ (0 ≤ z) := by omega
      go_wp2_with fail
      go_ret2
      exact ⟨hAr, _, sts, rfl, by rw [hto.out], hsts.out, ho, hap⟩
    · obtain ⟨q, rfl⟩ : ∃ q, m = q + 1 := ⟨m - 1, by omega⟩
      obtain rfl : z = q := by omega
      clear h0 hz
      have hlt : q < ls.length := hm
      obtain ⟨sb, so, rfl, c0, c1, c2, c3, c4⟩ := (hd.below hAr).certs.at q hlt
      have hltI : (q : Int) < ls.length := by omega
      have HCT : Hid (∀ W : World, Below w.heap.size w W → CtAt W (ls[q])) := by
        show ∀ W, _
        exact fun W hW => (hd.each _ (List.getElem_mem hlt)).below hW
      have HH : Hid (headerF (ls[q]).au (ls[q]).rd (ls[q]).bl (ls[q]).pl = 0) := (HF.out _ (List.getElem_mem hlt)).1
      have hpl : (ls[q]).pl.length ≤ 4 := (HF.out _ (List.getElem_mem hlt)).2
      have HST : Hid (rchTo (cvs ls) bs q = rchS (met, sts.map (·.c.v)) (ls[q]).v) := by
        show _ = _
        rw [rchTo_step _ _ _ (by rw [cvs_length]; exact hlt), hto.out, cvAt_get ls q hlt]
      have HIN : Hid (ls[q] ∈ ls) := List.getElem_mem hlt
      generalize ls[q] = x at *
      go_upto_region 7 with fail
      have hA2 := (Below.refl wr.heap.size wr).alloc (Nat.le_refl _) (.cells #[.int .i64 x.au, .int .i64 x.rd, .slice x.ba x.bl.length x.bc, .slice x.pa x.pl.length x.pc] 60)
      have q0 := heap_alloc_new wr (.cells #[.int .i64 x.au, .int .i64 x.rd, .slice x.ba x.bl.length x.bc, .slice x.pa x.pl.length x.pc] 60)
      generalize wr.alloc (.cells #[.int .i64 x.au, .int .i64 x.rd, .slice x.ba x.bl.length x.bc, .slice x.pa x.pl.length x.pc] 60) = W2 at hA2 q0 ⊢
      have hB2 := hAr.trans (hA2.mono hAr.size)
      have f0 := cells_at q0 0 _ rfl
      have f1 := cells_at q0 1 _ rfl
      have f2 := cells_at q0 2 _ rfl
      have f3 := cells_at q0 3 _ rfl
      go_wp2_with fail
      refine (headerDigest_hat (HCT.out W2 hB2).hat HH.out (hT.below hB2)).mono ?_
      rintro e w3 ⟨b, rfl, hbb, hb3, hsl3⟩
      dsimp only
      rw [Ct.d_v] at hsl3
      clear f0 f1 f2 f3 c0 c1 c2 c3 c4
      have hB3 : Below w.heap.size w w3 := hB2.trans (hb3.mono hB2.size)
      have hk3 : W2.heap.size ≤ w3.heap.size := hb3.size
      have hBB : Below wr.heap.size wr w3 := hA2.trans (hb3.mono hA2.size)
      have hBW : Below W0.heap.size W0 w3 := hb.trans (hBB.mono hb.size)
      have hown3 : w3.ownsMap Tryd.prog 9 (unitElem (H := Unit)) W0.heap.size met.length (setOf (.agg []) (met.map keyS)) := by
        have hl := hown.lt
        obtain ⟨es, clock, h1, F, hs, hD⟩ := hown
        exact ⟨es, clock, (hBB.block _ hl).trans h1, F, hs, hD⟩
      have ho3 := owns_keep ho hBB
      have hap3 : Apart w3 (w.heap.size + 2) _ (sts.map HSt.p) := hap.same hBB.size (fun p hp b' so' e' => hBB.block _ ((hap p hp).2 b' so' e').2.1)
      have q3 := (hb3.block _ (lt_of_heap q0)).trans q0
      have f0 := cells_at q3 0 _ rfl
      have f1 := cells_at q3 1 _ rfl
      have f2 := cells_at q3 2 _ rfl
      have f3 := cells_at q3 3 _ rfl
      have htx := run_text w3 (some ⟨b, 0, none⟩) 32 32 x.v.d (CV.d_length _).symm hsl3
      have hkey : keyOf Tryd.prog 9 (.string (bstr x.v.d)) = some (keyS (bstr x.v.d)) := keyOf_string_mk Tryd.underlying9 (by rw [bstr_sz, CV.d_length]; decide)
      have HH2 : Hid (Maps.has (setOf (H := Unit) (.agg []) (met.map keyS)) (keyS (bstr x.v.d)) = inO (bstr x.v.d) met) := has_texts met _
      cases hx : inO (bstr x.v.d) met
      case false =>
        have HB : Hid (Maps.has (setOf (H := Unit) (.agg []) (met.map keyS)) (keyS (bstr x.v.d)) = false) := by show _ = _; rw [HH2.out, hx]
        have HX : Hid (rchTo (cvs ls) bs q = (met, sts.map (·.c.v))) := by show _ = _; rw [HST.out, rchS]; simp only [hx]; rfl
        clear hx HH2 HST
        go_wp2_with (at_lookup; refine wpList_lookup_own_unit _ rfl _ _ 119 rfl 9 120 keyT Tryd.underlying119 (zeroU _) W0.heap.size met.length _ rfl hown3 _ _ rfl hkey ?_; rw [HB.out])
        go_roundw
        case rel => exact ⟨q, _, sts, met, by omega, rfl, rfl, HX, by omega, hsts, by omega, hown3.alloc _, World.ownsRow.alloc ho3 _, hap3.same (by simp) (fun p hp b' so' e' => ((Below.refl w3.heap.size w3).alloc (Nat.le_refl _) _).block _ ((hap3 p hp).2 b' so' e').2.1), hBW.alloc hBW.size _⟩
        case measure => simp [intOf]
      case true =>
        have HB : Hid (Maps.has (setOf (H := Unit) (.agg []) (met.map keyS)) (keyS (bstr x.v.d)) = true) := by show _ = _; rw [HH2.out, hx]
        have HX : Hid (rchTo (cvs ls) bs q = (met ++ (bss x.pl).map bstr, sts.map (·.c.v) ++ [x.v])) := by show _ = _; rw [HST.out, rchS]; simp only [hx]; rfl
        clear hx HH2 HST
        go_upto_region 12 with (at_lookup; refine wpList_lookup_own_unit _ rfl _ _ 119 rfl 9 120 keyT Tryd.underlying119 (zeroU _) W0.heap.size met.length _ rfl hown3 _ _ rfl hkey ?_; rw [HB.out])
        have hA4 := (Below.refl w3.heap.size w3).alloc (Nat.le_refl _) (.cells #[] 120)
        have hown4 := hown3.alloc (.cells #[] 120)
        have ho4 := World.ownsRow.alloc ho3 (.cells #[] 120)
        have hap4 : Apart (w3.alloc (.cells #[] 120)) (w.heap.size + 2) _ (sts.map HSt.p) := hap3.same (by simp) (fun p hp b' so' e' => hA4.block _ ((hap3 p hp).2 b' so' e').2.1)
        have q4 := (hA4.block _ (lt_of_heap q3)).trans q3
        have hsl4 := hsl3.below hA4
        have hBW4 := hBW.trans (hA4.mono hBW.size)
        have hB4 := hB3.trans (hA4.mono hB3.size)
        have hbl4 : b < (w3.alloc (.cells #[] 120)).heap.size := by
          have := hsl3.bytes
          rcases this with h9 | ⟨pb, po, h9, h8⟩
          · have := CV.d_length x.v; rw [h9] at this; simp at this
          · cases h9
            have := block_lt_of_cell (h8 0 (by rw [CV.d_length]; decide))
            exact Nat.lt_of_lt_of_le this hA4.size
        clear f0 f1 f2 f3
        generalize w3.alloc (.cells #[] 120) = w4 at *
        have f0 := cells_at q4 0 _ rfl
        have f1 := cells_at q4 1 _ rfl
        have f2 := cells_at q4 2 _ rfl
        have f3 := cells_at q4 3 _ rfl
        go_upto_region 13 with (at_builtin; refine wpList_append_own_at _ rfl _ _ 87 rfl (w.heap.size + 2) 91 i (.agg #[.int .i64 0, .int .i64 0, .slice none 0 0, .slice none 0 0, .slice none 0 0]) 5 88 Tryd.underlying87 hi hz0 hz1 hz2 rfl (by decide) _ sts.length _ rfl (World.ownsRow.alloc ho4 _) ⟨w4.heap.size, 0, none⟩ 1 1 [.int .i64 x.au, .int .i64 x.rd, .slice x.ba x.bl.length x.bc, .slice x.pa x.pl.length x.pc, .slice (some ⟨b, 0, none⟩) 32 32] rfl rfl (cells_new _ _ _) (by intro u hu; simp at hu; rcases hu with rfl | rfl | rfl | rfl | rfl <;> rfl) (by unfold maxLen; omega) (by omega) (le_alloc (by have := hown4.lt; have := hS0.out; omega) _) ?_; intro v5 w5 ho5 hg5 _ hat5)
        have G5 := Grew.of hg5 hat5
        have hBB4 : Below wr.heap.size wr w4 := hBB.trans (hA4.mono hBB.size)
        have hBs : w.heap.size + 2 ≤ wr.heap.size := by have := hown.lt; have := hS0.out; omega
        have hap5 := hap.more_at (q := ⟨some ⟨b, 0, none⟩, 32, x.v.d⟩) hBs ho hBB4 (fun sb so e => by cases e; exact ⟨Nat.le_trans hA2.size hbb, hbl4⟩) hsl4 G5
        have hown5 := World.ownsMap.kept (hown4.alloc _) hg5 (fun e => by have := (ho4.lt _ e.symm).1; have := hS0.out; omega)
        have q5 := G5.row (heap_keep q4) (fun e => by have := (ho.lt _ e).2; omega)
        have hBW5 : Below W0.heap.size W0 w5 := Below.grown (hBW4.alloc hBW4.size _) hg5 (le_alloc hBW4.size _) (fun q e => by have := (ho4.lt q e).1; have := hS0.out; omega)
        clear f0 f1 f2 f3 hown4 ho4 hap4 q4 hsl4 hBW4 hB4 hA4 hown3 ho3 hap3 q3 hsl3 htx hkey
        have f3 := cells_at q5 3 _ rfl
        go_wp2_with fail
        go_loopw [61] (fun j wi => ∃ k : Nat, k ≤ x.pl.length ∧ j = .int .i64 k ∧ wi.ownsMap Tryd.prog 9 (unitElem (H := Unit)) W0.heap.size (met.length + k) (setOf (.agg []) ((met ++ ((bss x.pl).take k).map bstr).map keyS)) ∧ wi.ownsRow (w.heap.size + 2) 91 5 v5 (sts.length + 1) (hsv sts ++ [.int .i64 x.au, .int .i64 x.rd, .slice x.ba x.bl.length x.bc, .slice x.pa x.pl.length x.pc, .slice (some ⟨b, 0, none⟩) 32 32]) ∧ Apart wi (w.heap.size + 2) v5 (sts.map HSt.p ++ [⟨some ⟨b, 0, none⟩, 32, x.v.d⟩]) ∧ Below W0.heap.size W0 wi) (fun j _ => x.pl.length - (intOf j).toNat)
        case atStart => exact ⟨0, Nat.zero_le _, rfl, by simpa using hown5, ho5, hap5, hBW5⟩
        case round =>
          clear hown5 hap5 ho5 q5 f3 hBW5 hg5 hat5 G5
          obtain ⟨k, hk1, rfl, hownI, hoI, hapI, hbI⟩ := hrel
          have hBI := hA.trans (hbI.mono hA.size)
          by_cases hlk : k < x.pl.length
          · have hltk : (k : Int) < x.pl.length := by omega
            have hLP := (HCT.out _ hBI).hat.lp
            obtain ⟨pb, po, hpa, hcc⟩ : ∃ pb po, x.pa = some ⟨pb, po, none⟩ ∧ ∀ j (h : j < x.pl.length), wr.cell? ⟨pb, po + j, none⟩ = some (.slice (x.pl[j]).sa (x.pl[j]).bs.length (x.pl[j]).cap) := by
              rcases hLP.parts.cells with h | h
              · rw [h] at hlk; simp at hlk
              · exact h
            have ck := hcc k hlk
            have hxp := hLP.parts.each (x.pl[k]) (List.getElem_mem hlk)
            have hst : Hid (((bss x.pl).take (k + 1)).map bstr = ((bss x.pl).take k).map bstr ++ [bstr (x.pl[k]).bs]) := by
              show _ = _
              rw [List.take_succ_eq_append_getElem (by rw [bss_length]; exact hlk), List.map_append]
              simp [bss]
            clear hcc hLP
            generalize x.pl[k] = p at ck hxp hst
            have htx := run_text _ p.sa p.bs.length p.cap p.bs rfl hxp
            have hkey : keyOf Tryd.prog 9 (.string (bstr p.bs)) = some (keyS (bstr p.bs)) := keyOf_string_mk Tryd.underlying9 (by rw [bstr_sz]; exact Nat.le_trans hxp.le hxp.max)
            rw [hpa]
            go_wp2_with (at_mapUpdate; refine wpList_mapUpdate_own _ rfl _ _ _ 119 rfl 9 120 keyT Tryd.underlying119 (unitElem (H := Unit)) W0.heap.size (met.length + k) _ rfl hownI (by unfold maxLen; omega) _ _ _ rfl rfl hkey _ [] unitElem_mk ?_; intro w7 hown7 hg7)
            have ho7 := World.ownsRow.kept hoI hg7 (.inr fun e => by have := (hoI.lt _ e).1; have := hS0.out; omega)
            have hap7 : Apart w7 _ _ _ := hapI.same hg7.size (fun p hp b' so' e' => hg7.block _ ((hapI p hp).2 b' so' e').2.1 (by have := ((hapI p hp).2 b' so' e').1; have := hS0.out; intro e; cases e; omega))
            have hb7 := Below.grown hbI hg7 hbI.size (fun j hj => by cases hj; exact Nat.le_refl _)
            have hown8 : w7.ownsMap Tryd.prog 9 (unitElem (H := Unit)) W0.heap.size (met.length + (k + 1)) (setOf (.agg []) ((met ++ ((bss x.pl).take (k + 1)).map bstr).map keyS)) := by
              rw [hst.out, ← List.append_assoc, List.map_append, List.map_cons, List.map_nil, setOf_snoc]
              exact hown7
            go_roundw
            case rel => first | exact ⟨k + 1, by omega, by go_num, hown8, ho7, hap7, hb7⟩ | (rw [hpa] at ho7; exact ⟨k + 1, by omega, by go_num, hown8, ho7, hap7, hb7⟩)
            case measure => simp [intOf]; omega
          · obtain rfl : k = x.pl.length := by omega
            have HTK : Hid ((bss x.pl).take x.pl.length = bss x.pl) := (show _ = _ from List.take_of_length_le (by rw [bss_length]; exact Nat.le_refl _))
            rw [HTK.out] at hownI
            have HCS : Hid (HSt.cs ⟨x, ⟨some ⟨b, 0, none⟩, 32, x.v.d⟩⟩ = [.int .i64 x.au, .int .i64 x.rd, .slice x.ba x.bl.length x.bc, .slice x.pa x.pl.length x.pc, .slice (some ⟨b, 0, none⟩) 32 32]) := (show _ = _ by simp [HSt.cs, CV.d_length])
            have hLN : (met ++ (bss x.pl).map bstr).length = met.length + x.pl.length := by simp [bss_length]
            go_wp2_with fail
            go_roundw
            case rel =>
              refine ⟨q, _, sts ++ [⟨x, ⟨some ⟨b, 0, none⟩, 32, x.v.d⟩⟩], met ++ (bss x.pl).map bstr, by omega, rfl, rfl, ?_, by omega, ?_, by simp; omega, by rw [hLN]; exact hownI, by rw [hsv_snoc, HCS.out, List.length_append]; exact hoI, by rw [List.map_append]; exact hapI, hbI⟩
              · show _ = _
                rw [List.map_append]; exact HX.out
              · show ∀ s ∈ _, _
                intro s hs
                rcases List.mem_append.1 hs with hs | hs
                · exact hsts.out s hs
                · simp at hs; subst hs; exact ⟨HIN.out, rfl⟩
            case measure => simp [intOf]
end Go.Proofs.YtbmodfegcmaieaaDoor

namespace Go.Proofs.YtbmodfegcmaieaaDoor
open Go.RowKit Go.Sort

set_option maxRecDepth 100000 in
theorem sortedO_other {α : Type} [Inhabited α] (enc : α → List Value) (k : Nat) {w : World} (blk off m : Nat) (dk : Array α) (os : Array Obj) (j : Nat) (hj : j < w.heap.size) (hne : j ≠ blk) : (sortWorldK enc k w blk off m dk os).heap[j]? = w.heap[j]? := by
  unfold sortWorldK
  rw [heap_grow_old _ _ (by rw [size_putRowK]; exact hj)]
  show ((Sort.ahead w m).heap.modify blk _)[j]? = _
  rw [Array.getElem?_modify, if_neg (by omega)]
  rfl
set_option maxRecDepth 100000 in
theorem sortedO_below {α : Type} [Inhabited α] (enc : α → List Value) (k : Nat) {w0 w : World} (blk off m : Nat) (dk : Array α) (os : Array Obj) (hb : Go.RowKit.Below w0.heap.size w0 w) (h : w0.heap.size ≤ blk) : Go.RowKit.Below w0.heap.size w0 (sortWorldK enc k w blk off m dk os) := by
  have hs : w.heap.size ≤ (sortWorldK enc k w blk off m dk os).heap.size := size_sortWorldK_c enc k w blk off m dk os
  refine hb.trans ⟨rfl, rfl, rfl, hs, fun j hj => ?_⟩
  exact sortedO_other enc k blk off m dk os j (Nat.lt_of_lt_of_le hj hb.size) (by omega)
set_option maxRecDepth 100000 in
theorem hsv_length (l : List HSt) : (hsv l).length = l.length * 5 := by
  induction l with
  | nil => rfl
  | cons s l ih =>
    have e : hsv (s :: l) = s.cs ++ hsv l := rfl
    rw [e, List.length_append, ih]
    simp [HSt.cs]; omega
set_option maxRecDepth 100000 in
theorem hsv_get (l : List HSt) (k j : Nat) (hk : k < l.length) (hj : j < 5) : (hsv l)[k * 5 + j]? = (l[k]).cs[j]? := by
  induction l generalizing k with
  | nil => simp at hk
  | cons s l ih =>
    have e : hsv (s :: l) = s.cs ++ hsv l := rfl
    have h5 : s.cs.length = 5 := rfl
    rw [e]
    cases k with
    | zero => rw [List.getElem?_append_left (by omega)]; simp
    | succ k =>
      rw [List.getElem?_append_right (by omega), h5]
      have e2 : (k + 1) * 5 + j - 5 = k * 5 + j := by omega
      rw [e2, ih k (by simpa using hk)]
      simp
set_option maxRecDepth 100000 in
theorem flat_steps [Inhabited HSt] (ds : List HSt) : flatK HSt.cs 5 ds.toArray = (hsv ds).toArray := by
  refine ext_get! (by simp [hsv_length]) fun t ht => ?_
  have ht' : t < ds.length * 5 := by simpa using ht
  rw [get_flatK _ _ _ _ (by simpa using ht')]
  have hq : t / 5 < ds.length := by omega
  have hg := hsv_get ds (t / 5) (t % 5) hq (by omega)
  have ej : t / 5 * 5 + t % 5 = t := by omega
  rw [ej] at hg
  have e1 : (hsv ds).toArray[t]! = ((hsv ds)[t]?).getD default := by simp [Array.getElem!_eq_getD, Array.getD_eq_getD_getElem?]
  rw [e1, hg]
  have e2 : ds.toArray[t / 5]! = ds[t / 5] := by simp [hq]
  rw [e2]
  simp [List.getElem!_eq_getElem?_getD]
/-- Steps that are read in a slice. -/
structure StsAt (w : World) (sa : Option Addr) (sts : List HSt) : Prop where
  cells : sts = [] ∨ ∃ sb so, sa = some ⟨sb, so, none⟩ ∧ ∀ j (h : j < sts.length), w.cell? ⟨sb, so + j * 5, none⟩ = some (.int .i64 (sts[j]).c.au) ∧ w.cell? ⟨sb, so + j * 5 + 1, none⟩ = some (.int .i64 (sts[j]).c.rd) ∧ w.cell? ⟨sb, so + j * 5 + 2, none⟩ = some (.slice (sts[j]).c.ba (sts[j]).c.bl.length (sts[j]).c.bc) ∧ w.cell? ⟨sb, so + j * 5 + 3, none⟩ = some (.slice (sts[j]).c.pa (sts[j]).c.pl.length (sts[j]).c.pc) ∧ w.cell? ⟨sb, so + j * 5 + 4, none⟩ = some (.slice (sts[j]).p.sa (sts[j]).p.bs.length (sts[j]).p.cap)
  each : ∀ s ∈ sts, SliceAt w s.p.sa s.p.cap s.p.bs
set_option maxRecDepth 100000 in
theorem StsAt.below {w w' : World} {sa : Option Addr} {sts : List HSt} (h : StsAt w sa sts) (hb : Go.RowKit.Below w.heap.size w w') : StsAt w' sa sts := by
  refine ⟨?_, fun s hs => (h.each s hs).below hb⟩
  rcases h.cells with h1 | ⟨sb, so, e, h1⟩
  · exact .inl h1
  · refine .inr ⟨sb, so, e, fun j hj => ?_⟩
    obtain ⟨c0, c1, c2, c3, c4⟩ := h1 j hj
    exact ⟨(hb.cell (block_lt_of_cell c0)).trans c0, (hb.cell (block_lt_of_cell c1)).trans c1, (hb.cell (block_lt_of_cell c2)).trans c2, (hb.cell (block_lt_of_cell c3)).trans c3, (hb.cell (block_lt_of_cell c4)).trans c4⟩
def kSt (s : HSt) : Int × Int := (s.c.rd, s.c.au)
/-- What the sort leaves. -/
structure SrtO (w0 w' : World) (e : Ending) (sa : Option Addr) (ls : List HSt) : Prop where
  below : Go.RowKit.Below w0.heap.size w0 w'
  out : e = .returned (.tuple #[]) ∧ ∃ ks : List HSt, ks.Perm ls ∧ (∀ i j (hi : i < j) (hj : j < ks.length), ¬ cmpRA (kSt (ks[j])) (kSt (ks[i])) < 0) ∧ StsAt w' sa ks
set_option maxRecDepth 100000 in
set_option maxHeartbeats 1000000 in
theorem sortSteps_aux [Inhabited HSt] (ls : List HSt) (g cap B : Nat) (w0 w : World) (hb : Go.RowKit.Below w0.heap.size w0 w) (hB : w0.heap.size ≤ B) (hl : ls.length ≤ 1000) (ho : w.ownsRow B 91 5 (.slice (some ⟨g, 0, none⟩) ls.length cap) ls.length (hsv ls)) (ha : Apart w B (.slice (some ⟨g, 0, none⟩) ls.length cap) (ls.map HSt.p)) :
    Calls Tryd.prog 74 #[.slice (some ⟨g, 0, none⟩) ls.length cap, .func (.func 75) #[] #[]] w fun e w' => SrtO w0 w' e (some ⟨g, 0, none⟩) ls := by
  have hlt := ho.lt g rfl
  have hfr : ∀ j, w.frozen? ⟨g, j, none⟩ = false := by
    intro j
    rcases ho.2 with ⟨h, _⟩ | ⟨g', cap', cur, h, _, hh, _⟩
    · cases h
    · cases h; exact frozen_at hh j
  have hH : HoldsK HSt.cs 5 w g 0 ls.toArray := by
    intro j hj
    rw [flat_steps] at hj ⊢
    have hj' : j < (hsv ls).length := by simpa using hj
    rw [Nat.zero_add]
    refine ⟨?_, hfr j⟩
    rw [World.ownsRow.cellAt ho j (by rw [hsv_length] at hj'; exact hj')]
    simp [hj']
  have hC : CmpLays Tryd.prog 75 #[] HSt.cs 5 (fun x y => cmpRA (kSt x) (kSt y)) g 0 ls.toArray.size w := by
    intro m os dk hdk x y
    exact cmpStep_any x.c.au x.c.rd y.c.au y.c.rd _ _ _ _ _ _ _ _ _ _ _ _ _ _ _ _ _ _ _
  have hs := AnyQ.slices_SortFunc sortO 5 Tryd.isAgg91 Tryd.sizeOf91 HSt.cs (fun _ => rfl) (fun x v hv => by simp [HSt.cs] at hv; rcases hv with rfl | rfl | rfl | rfl | rfl <;> rfl) (fun x y => cmpRA (kSt x) (kSt y)) (lin_cmpRA.swo kSt) 75 #[] g 0 cap ls.toArray w (enters_of Tryd.func75 (by kernel_rfl) rfl) hC hH hlt.2 (by simp; omega)
  have hz : ls.toArray.size = ls.length := by simp
  rw [hz] at hs
  refine hs.mono ?_
  rintro e w' ⟨rfl, d', n, os, hp, hso, rfl⟩
  have hd' : d'.size = ls.length := by rw [hp.1]; exact hz
  have hperm : d'.toList.Perm ls := by
    have h3 := hp.2.2
    have e1 : d'.extract 0 ls.length = d' := by rw [← hd']; simp
    have e2 : ls.toArray.extract 0 ls.length = ls.toArray := by rw [← hz]; simp
    rw [e1, e2] at h3
    simpa using h3
  refine ⟨sortedO_below _ _ _ _ _ _ _ hb (Nat.le_trans hB hlt.1), rfl, d'.toList, hperm, ?_, ?_⟩
  · intro i j hi hj
    have hj2 : j < d'.size := by simpa using hj
    have h := hso i j (Nat.zero_le _) hi (by omega)
    rw [getElem!_pos d' j hj2, getElem!_pos d' i (by omega)] at h
    simp only [ltOf, decide_eq_false_iff_not] at h
    simpa using h
  · have hH' := holdsK_sortWorldK_c HSt.cs 5 w g 0 ls.toArray d' n os hH hlt.2 (by rw [hd', hz])
    refine ⟨.inr ⟨g, 0, rfl, fun j hj => ?_⟩, ?_⟩
    · have hj2 : j < d'.size := by simpa using hj
      have c := fun c (hc : c < 5) => (hH'.cell (i := j) (c := c) hj2 hc).1
      have c0 := c 0 (by omega)
      have c1 := c 1 (by omega)
      have c2 := c 2 (by omega)
      have c3 := c 3 (by omega)
      have c4 := c 4 (by omega)
      rw [getElem!_pos d' j hj2] at c0 c1 c2 c3 c4
      simp only [Array.getElem_toList]
      exact ⟨c0, c1, c2, c3, c4⟩
    · intro s hs
      have hm : s.p ∈ ls.map HSt.p := List.mem_map.2 ⟨s, hperm.mem_iff.1 hs, rfl⟩
      obtain ⟨h1, h2⟩ := ha s.p hm
      refine slice_keep h1 (fun b so _ e => ?_)
      obtain ⟨_, h3, h4⟩ := h2 b so e
      exact sortedO_other HSt.cs 5 g 0 n d' os b h3 (fun q => h4 (by rw [q]; rfl))
set_option maxRecDepth 100000 in
theorem sortSteps_any (ls : List HSt) (g cap B : Nat) (w0 w : World) (hb : Go.RowKit.Below w0.heap.size w0 w) (hB : w0.heap.size ≤ B) (hl : ls.length ≤ 1000) (hne : ls ≠ []) (ho : w.ownsRow B 91 5 (.slice (some ⟨g, 0, none⟩) ls.length cap) ls.length (hsv ls)) (ha : Apart w B (.slice (some ⟨g, 0, none⟩) ls.length cap) (ls.map HSt.p)) :
    Calls Tryd.prog 74 #[.slice (some ⟨g, 0, none⟩) ls.length cap, .func (.func 75) #[] #[]] w fun e w' => SrtO w0 w' e (some ⟨g, 0, none⟩) ls := by
  obtain ⟨s0, hs0⟩ := List.exists_mem_of_ne_nil ls hne
  exact @sortSteps_aux ⟨s0⟩ ls g cap B w0 w hb hB hl ho ha
end Go.Proofs.YtbmodfegcmaieaaDoor

namespace Go.Proofs.YtbmodfegcmaieaaDoor
open Go.RowKit

set_option maxRecDepth 100000 in
theorem dag_keys {l : List CV} (h : dagF l = 0) {a b : Nat} (hab : a < b) (hb : b < l.length) : ¬ ((cvAt l b).au = (cvAt l a).au ∧ (cvAt l b).rd = (cvAt l a).rd) := by
  rintro ⟨h1, h2⟩
  have hbad := (dagF_zero h).2 b hb
  simp only [badC, Bool.or_eq_false_iff, decide_eq_false_iff_not, ne_eq, Decidable.not_not] at hbad
  have hc : cOf (l.take b) (cvAt l b).au (cvAt l b).rd < 0 := by
    have := hbad.2
    rw [takF] at this
    split at this
    · cases this
    · omega
  have hl : (l.take b).length = b := by rw [List.length_take]; omega
  have := fidx_no _ _ hc a (by rw [hl]; exact hab)
  rw [cHit, cvAt_take l b a hab] at this
  simp [h1, h2] at this
/-- No two certificates have one digest. -/
def OneD (l : List CV) : Prop := ∀ i j, i < l.length → j < l.length → (cvAt l i).d = (cvAt l j).d → i = j
/-- Is the j'th one reached? -/
def sel (l : List CV) (k : List Int) (j : Nat) : Prop := bstr (cvAt l j).d ∈ (rchTo l k (j + 1)).1
set_option maxRecDepth 100000 in
theorem rch_fst_mem (l : List CV) (k : List Int) (n m : Nat) (hm : m + n = l.length) (x : ByteArray) : x ∈ (rchTo l k m).1 ↔ x = bstr k ∨ ∃ j, m ≤ j ∧ j < l.length ∧ sel l k j ∧ x ∈ (cvAt l j).pl.map bstr := by
  induction n generalizing m with
  | zero =>
    obtain rfl : m = l.length := by omega
    rw [rchTo_end]
    constructor
    · intro h; left; simpa using h
    · rintro (h | ⟨j, h1, h2, _⟩)
      · simp [h]
      · omega
  | succ n ih =>
    have hlt : m < l.length := by omega
    have ih := ih (m + 1) (by omega)
    rw [rchTo_step l k m hlt, rchS]
    cases hs : inO (bstr (cvAt l m).d) (rchTo l k (m + 1)).1
    · have hns : ¬ sel l k m := by
        intro h
        have h2 := inO_iff.2 (show bstr (cvAt l m).d ∈ (rchTo l k (m + 1)).1 from h)
        rw [hs] at h2; cases h2
      show x ∈ (rchTo l k (m + 1)).1 ↔ _
      rw [ih]
      constructor
      · rintro (h | ⟨j, h1, h2⟩)
        · exact .inl h
        · exact .inr ⟨j, by omega, h2⟩
      · rintro (h | ⟨j, h1, h2, h3, h4⟩)
        · exact .inl h
        · rcases Nat.lt_or_ge m j with g | g
          · exact .inr ⟨j, g, h2, h3, h4⟩
          · obtain rfl : j = m := by omega
            exact absurd h3 hns
    · have hse : sel l k m := inO_iff.1 hs
      show x ∈ (rchTo l k (m + 1)).1 ++ (cvAt l m).pl.map bstr ↔ _
      rw [List.mem_append, ih]
      constructor
      · rintro ((h | ⟨j, h1, h2⟩) | h)
        · exact .inl h
        · exact .inr ⟨j, by omega, h2⟩
        · exact .inr ⟨m, Nat.le_refl _, hlt, hse, h⟩
      · rintro (h | ⟨j, h1, h2, h3, h4⟩)
        · exact .inl (.inl h)
        · rcases Nat.lt_or_ge m j with g | g
          · exact .inl (.inr ⟨j, g, h2, h3, h4⟩)
          · obtain rfl : j = m := by omega
            exact .inr h4
set_option maxRecDepth 100000 in
theorem rch_snd_mem (l : List CV) (k : List Int) (n m : Nat) (hm : m + n = l.length) (c : CV) : c ∈ (rchTo l k m).2 ↔ ∃ j, m ≤ j ∧ j < l.length ∧ sel l k j ∧ c = cvAt l j := by
  induction n generalizing m with
  | zero =>
    obtain rfl : m = l.length := by omega
    rw [rchTo_end]
    constructor
    · intro h; cases h
    · rintro ⟨j, h1, h2, _⟩; omega
  | succ n ih =>
    have hlt : m < l.length := by omega
    have ih := ih (m + 1) (by omega)
    rw [rchTo_step l k m hlt, rchS]
    cases hs : inO (bstr (cvAt l m).d) (rchTo l k (m + 1)).1
    · have hns : ¬ sel l k m := by
        intro h
        have h2 := inO_iff.2 (show bstr (cvAt l m).d ∈ (rchTo l k (m + 1)).1 from h)
        rw [hs] at h2; cases h2
      show c ∈ (rchTo l k (m + 1)).2 ↔ _
      rw [ih]
      constructor
      · rintro ⟨j, h1, h2⟩; exact ⟨j, by omega, h2⟩
      · rintro ⟨j, h1, h2, h3, h4⟩
        rcases Nat.lt_or_ge m j with g | g
        · exact ⟨j, g, h2, h3, h4⟩
        · obtain rfl : j = m := by omega
          exact absurd h3 hns
    · have hse : sel l k m := inO_iff.1 hs
      show c ∈ (rchTo l k (m + 1)).2 ++ [cvAt l m] ↔ _
      rw [List.mem_append, ih]
      constructor
      · rintro (⟨j, h1, h2⟩ | h)
        · exact ⟨j, by omega, h2⟩
        · exact ⟨m, Nat.le_refl _, hlt, hse, by simpa using h⟩
      · rintro ⟨j, h1, h2, h3, h4⟩
        rcases Nat.lt_or_ge m j with g | g
        · exact .inl ⟨j, g, h2, h3, h4⟩
        · obtain rfl : j = m := by omega
          exact .inr (by simp [h4])
/-- By what a history is in order. -/
def kRA (c : CV) : Int × Int := (c.rd, c.au)
set_option maxRecDepth 100000 in
theorem rch_apart (l : List CV) (h : dagF l = 0) (k : List Int) (n m : Nat) (hm : m + n = l.length) : (rchTo l k m).2.Pairwise (fun a b => kRA a ≠ kRA b) := by
  induction n generalizing m with
  | zero =>
    obtain rfl : m = l.length := by omega
    rw [rchTo_end]; exact List.Pairwise.nil
  | succ n ih =>
    have hlt : m < l.length := by omega
    have ih2 := ih (m + 1) (by omega)
    rw [rchTo_step l k m hlt, rchS]
    cases hs : inO (bstr (cvAt l m).d) (rchTo l k (m + 1)).1
    · exact ih2
    · show ((rchTo l k (m + 1)).2 ++ [cvAt l m]).Pairwise _
      rw [List.pairwise_append]
      refine ⟨ih2, List.pairwise_singleton _ _, ?_⟩
      intro a ha b hb
      obtain rfl : b = cvAt l m := by simpa using hb
      obtain ⟨j, h1, h2, _, rfl⟩ := (rch_snd_mem l k n (m + 1) (by omega) a).1 ha
      intro e
      simp only [kRA, Prod.mk.injEq] at e
      exact dag_keys h (a := m) (b := j) (by omega) h2 ⟨e.2, e.1⟩
/-- What a history is: what is reached, by rounds and authors. -/
structure HistIs (l : List CV) (k : List Int) (hs : List CV) : Prop where
  perm : hs.Perm (rchTo l k 0).2
  up : hs.Pairwise (fun a b => cmpRA (kRA a) (kRA b) < 0)
set_option maxRecDepth 100000 in
theorem up_of_not {hs : List CV} (h : hs.Pairwise (fun a b => kRA a ≠ kRA b)) (g : ∀ i j (hi : i < j) (hj : j < hs.length), ¬ cmpRA (kRA (hs[j])) (kRA (hs[i])) < 0) : hs.Pairwise (fun a b => cmpRA (kRA a) (kRA b) < 0) := by
  rw [List.pairwise_iff_getElem] at h ⊢
  intro i j hi hj hij
  have h1 := h i j hi hj hij
  have h2 := g i j hij hj
  rcases Int.lt_trichotomy (cmpRA (kRA (hs[i])) (kRA (hs[j]))) 0 with q | q | q
  · exact q
  · exact absurd (lin_cmpRA.eq _ _ q) h1
  · exact absurd (lin_cmpRA.pos _ _ q) h2
set_option maxRecDepth 100000 in
theorem perm_apart {a b : List CV} (h : a.Perm b) (g : b.Pairwise (fun a b => kRA a ≠ kRA b)) : a.Pairwise (fun a b => kRA a ≠ kRA b) :=
  h.symm.pairwise g (fun h e => h e.symm)
set_option maxRecDepth 100000 in
theorem up_one {a b : List CV} (h : a.Perm b) (ha : a.Pairwise (fun a b => cmpRA (kRA a) (kRA b) < 0)) (hb : b.Pairwise (fun a b => cmpRA (kRA a) (kRA b) < 0)) : a = b := by
  induction a generalizing b with
  | nil => exact (List.Perm.nil_eq h)
  | cons x a ih =>
    cases b with
    | nil => exact absurd h.symm (by intro g; have := List.Perm.nil_eq g; cases this)
    | cons y b =>
      rw [List.pairwise_cons] at ha hb
      have hxy : x = y := by
        have h1 : x ∈ y :: b := h.subset (by simp)
        have h2 : y ∈ x :: a := h.symm.subset (by simp)
        rcases List.mem_cons.1 h1 with e | e
        · exact e
        · rcases List.mem_cons.1 h2 with f | f
          · exact f.symm
          · have g1 := ha.1 y f
            have g2 := hb.1 x e
            have g3 := lin_cmpRA.neg _ _ g1
            omega
      subst hxy
      rw [ih ((List.perm_cons x).1 h) ha.2 hb.2]
set_option maxRecDepth 100000 in
theorem HistIs.one {l : List CV} {k : List Int} {a b : List CV} (h : HistIs l k a) (g : HistIs l k b) : a = b := up_one (h.perm.trans g.perm.symm) h.up g.up
set_option maxRecDepth 100000 in
theorem HistIs.mem {l : List CV} {k : List Int} {hs : List CV} (h : HistIs l k hs) (c : CV) : c ∈ hs ↔ ∃ j, j < l.length ∧ sel l k j ∧ c = cvAt l j := by
  rw [h.perm.mem_iff, rch_snd_mem l k l.length 0 (by omega)]
  constructor
  · rintro ⟨j, _, h⟩; exact ⟨j, h⟩
  · rintro ⟨j, h⟩; exact ⟨j, Nat.zero_le _, h⟩
set_option maxRecDepth 100000 in
theorem txL_bstr {xs ys : List Int} : txL xs = txL ys ↔ bstr xs = bstr ys := ⟨fun h => ba_ext h, fun h => by unfold txL; rw [h]⟩
set_option maxRecDepth 100000 in
theorem d_bstr {a b : CV} (h : bstr a.d = bstr b.d) : a.d = b.d := bstr_inj (CV.d_u8 _) (CV.d_u8 _) h
set_option maxRecDepth 100000 in
/-- A parent of the i'th one: where it stands. -/
theorem parent_at {l : List CV} (h : dagF l = 0) {i : Nat} (hi : i < l.length) {p : List Int} (hp : p ∈ (cvAt l i).pl) : ∃ q, q < i ∧ bstr (cvAt l q).d = bstr p ∧ (cvAt l q).rd = (cvAt l i).rd - 1 := by
  obtain ⟨m, hm, rfl⟩ := List.getElem_of_mem hp
  obtain ⟨h1, h2⟩ := dag_parent h hi hm
  have hb := pOf_bounds (l.take i) ((cvAt l i).pl.getD m [])
  rw [List.length_take] at hb
  have hy := fidx_yes (dHit (l.take i) ((cvAt l i).pl.getD m [])) (l.take i).length h1
  have hq : (pOf (l.take i) ((cvAt l i).pl.getD m [])).toNat < i := by omega
  have hd := of_decide_eq_true hy
  have e : (cvAt l i).pl.getD m [] = (cvAt l i).pl[m] := by simp [hm]
  change txL (cvAt (l.take i) (pOf (l.take i) ((cvAt l i).pl.getD m [])).toNat).d = _ at hd
  rw [cvAt_take l i _ hq] at hd
  refine ⟨_, hq, ?_, h2⟩
  rw [← e]; exact txL_bstr.1 hd
set_option maxRecDepth 100000 in
theorem sel_iff {l : List CV} {k : List Int} {j : Nat} (hj : j < l.length) : sel l k j ↔ bstr (cvAt l j).d = bstr k ∨ ∃ i, j < i ∧ i < l.length ∧ sel l k i ∧ bstr (cvAt l j).d ∈ (cvAt l i).pl.map bstr := by
  unfold sel
  rw [rch_fst_mem l k (l.length - (j + 1)) (j + 1) (by omega)]
  rfl
set_option maxRecDepth 100000 in
/-- The parents of what is reached are reached. -/
theorem sel_parent {l : List CV} (h : dagF l = 0) (ho : OneD l) {k : List Int} {i q : Nat} (hi : i < l.length) (hq : q < l.length) (hs : sel l k i) {p : List Int} (hp : p ∈ (cvAt l i).pl) (hd : bstr (cvAt l q).d = bstr p) : q < i ∧ sel l k q ∧ (cvAt l q).rd = (cvAt l i).rd - 1 := by
  obtain ⟨q', h1, h2, h3⟩ := parent_at h hi hp
  obtain rfl : q = q' := ho q q' hq (by omega) (d_bstr (hd.trans h2.symm))
  exact ⟨h1, (sel_iff hq).2 (.inr ⟨i, h1, hi, hs, List.mem_map.2 ⟨p, hp, hd.symm⟩⟩), h3⟩
set_option maxRecDepth 100000 in
/-- What is reached is the one that was asked for, or of a round ahead. -/
theorem sel_round {l : List CV} (h : dagF l = 0) (ho : OneD l) {n : Nat} (hn : n < l.length) : ∀ (m j : Nat), j + m = l.length → j < l.length → sel l (cvAt l n).d j → j = n ∨ (cvAt l j).rd < (cvAt l n).rd := by
  intro m
  induction m using Nat.strongRecOn with
  | ind m ih =>
    intro j hm hj hs
    rcases (sel_iff hj).1 hs with h1 | ⟨i, h1, h2, h3, h4⟩
    · exact .inl (ho j n hj hn (d_bstr h1))
    · right
      obtain ⟨p, hp, e⟩ := List.mem_map.1 h4
      obtain ⟨_, _, hr⟩ := sel_parent h ho h2 hj h3 hp e.symm
      rcases ih (l.length - i) (by omega) i (by omega) h2 h3 with g | g
      · subst g; omega
      · omega
set_option maxRecDepth 100000 in
theorem sel_self {l : List CV} {n : Nat} (hn : n < l.length) : sel l (cvAt l n).d n := (sel_iff hn).2 (.inl rfl)
set_option maxRecDepth 100000 in
/-- The history of what is reached is reached. -/
theorem sel_trans {l : List CV} (h : dagF l = 0) (ho : OneD l) {k : List Int} {n : Nat} (hn : n < l.length) (hs : sel l k n) : ∀ (m j : Nat), j + m = l.length → j < l.length → sel l (cvAt l n).d j → sel l k j := by
  intro m
  induction m using Nat.strongRecOn with
  | ind m ih =>
    intro j hm hj hs2
    rcases (sel_iff hj).1 hs2 with h1 | ⟨i, h1, h2, h3, h4⟩
    · obtain rfl := ho j n hj hn (d_bstr h1)
      exact hs
    · obtain ⟨p, hp, e⟩ := List.mem_map.1 h4
      exact (sel_parent h ho h2 hj (ih (l.length - i) (by omega) i (by omega) h2 h3) hp e.symm).2.1
set_option maxRecDepth 100000 in
theorem cmpRA_kRA {a b : CV} : cmpRA (kRA a) (kRA b) < 0 ↔ (a.rd < b.rd ∨ (a.rd = b.rd ∧ a.au < b.au)) := cmpRA_neg
set_option maxRecDepth 100000 in
/-- A history ends with its own certificate. -/
theorem hist_last {l : List CV} (h : dagF l = 0) (ho : OneD l) {n : Nat} (hn : n < l.length) {hs : List CV} (H : HistIs l (cvAt l n).d hs) : ∃ r, hs = r ++ [cvAt l n] := by
  have hin : cvAt l n ∈ hs := (H.mem _).2 ⟨n, hn, sel_self hn, rfl⟩
  obtain ⟨r, t, rfl⟩ := List.append_of_mem hin
  cases t with
  | nil => exact ⟨r, rfl⟩
  | cons y t =>
    have hy : y ∈ r ++ cvAt l n :: y :: t := by simp
    obtain ⟨j, h1, h2, rfl⟩ := (H.mem _).1 hy
    have hu := H.up
    rw [List.pairwise_append] at hu
    have hu := hu.2.1
    rw [List.pairwise_cons] at hu
    have hlt := cmpRA_kRA.1 (hu.1 (cvAt l j) (by simp))
    rcases sel_round h ho hn (l.length - j) j (by omega) h1 h2 with g | g
    · subst g; omega
    · omega
set_option maxRecDepth 100000 in
theorem oneD_or {l : List CV} (h : dagF l = 0) : OneD l ∨ ∃ K I, K < I ∧ I < l.length ∧ (cvAt l I).d = (cvAt l K).d ∧ ¬ ((cvAt l I).au = (cvAt l K).au ∧ (cvAt l I).rd = (cvAt l K).rd) := by
  by_cases ho : OneD l
  · exact .inl ho
  · right
    unfold OneD at ho
    simp only [Classical.not_forall] at ho
    obtain ⟨i, j, hi, hj, hd, hne⟩ := ho
    rcases Nat.lt_or_ge i j with g | g
    · exact ⟨i, j, g, hj, hd.symm, dag_keys h g hj⟩
    · exact ⟨j, i, by omega, hi, hd, dag_keys h (by omega) hi⟩
end Go.Proofs.YtbmodfegcmaieaaDoor

namespace Go.Proofs.YtbmodfegcmaieaaDoor
open Go.RowKit

set_option maxRecDepth 100000 in
theorem up_ext {a b : List CV} (h : ∀ c, c ∈ a ↔ c ∈ b) (ha : a.Pairwise (fun a b => cmpRA (kRA a) (kRA b) < 0)) (hb : b.Pairwise (fun a b => cmpRA (kRA a) (kRA b) < 0)) : a = b := by
  induction a generalizing b with
  | nil =>
    cases b with
    | nil => rfl
    | cons y b => exact absurd ((h y).2 (by simp)) (by simp)
  | cons x a ih =>
    cases b with
    | nil => exact absurd ((h x).1 (by simp)) (by simp)
    | cons y b =>
      rw [List.pairwise_cons] at ha hb
      have hxy : x = y := by
        have h1 : x ∈ y :: b := (h x).1 (by simp)
        have h2 : y ∈ x :: a := (h y).2 (by simp)
        rcases List.mem_cons.1 h1 with e | e
        · exact e
        · rcases List.mem_cons.1 h2 with f | f
          · exact f.symm
          · have g1 := ha.1 y f
            have g2 := hb.1 x e
            have g3 := lin_cmpRA.neg _ _ g1
            omega
      subst hxy
      rw [ih (fun c => ?_) ha.2 hb.2]
      constructor
      · intro hc
        rcases List.mem_cons.1 ((h c).1 (by simp [hc])) with e | e
        · subst e
          have := ha.1 c hc
          rw [lin_cmpRA.refl] at this; omega
        · exact e
      · intro hc
        rcases List.mem_cons.1 ((h c).2 (by simp [hc])) with e | e
        · subst e
          have := hb.1 c hc
          rw [lin_cmpRA.refl] at this; omega
        · exact e
/-- What has one digest in both is the same. -/
def OneX (l m : List CV) : Prop := ∀ i j, i < l.length → j < m.length → (cvAt l i).d = (cvAt m j).d → cvAt l i = cvAt m j
set_option maxRecDepth 100000 in
theorem OneX.symm {l m : List CV} (h : OneX l m) : OneX m l := fun i j hi hj e => (h j i hj hi e.symm).symm
set_option maxRecDepth 100000 in
theorem sel_cross {l m : List CV} (hm : dagF m = 0) (om : OneD m) (hx : OneX l m) {k : List Int} {q : Nat} (hq : q < m.length) (hk : (cvAt m q).d = k) : ∀ (t i : Nat), i + t = l.length → i < l.length → sel l k i → ∃ j, j < m.length ∧ sel m k j ∧ cvAt m j = cvAt l i := by
  intro t
  induction t using Nat.strongRecOn with
  | ind t ih =>
    intro i ht hi hs
    rcases (sel_iff hi).1 hs with h1 | ⟨i', h1, h2, h3, h4⟩
    · subst hk
      exact ⟨q, hq, sel_self hq, (hx i q hi hq (d_bstr h1)).symm⟩
    · obtain ⟨j', g1, g2, g3⟩ := ih (l.length - i') (by omega) i' (by omega) h2 h3
      obtain ⟨p, hp, e⟩ := List.mem_map.1 h4
      rw [← g3] at hp
      obtain ⟨r, r1, r2, _⟩ := parent_at hm g1 hp
      have r1' : r < m.length := by omega
      exact ⟨r, r1', (sel_parent hm om g1 r1' g2 hp r2).2.1, (hx i r hi r1' (d_bstr (e.symm.trans r2.symm))).symm⟩
set_option maxRecDepth 100000 in
theorem hist_same {l m : List CV} (hl : dagF l = 0) (hm : dagF m = 0) (ol : OneD l) (om : OneD m) (hx : OneX l m) {k : List Int} {p q : Nat} (hp : p < l.length) (hq : q < m.length) (hpk : (cvAt l p).d = k) (hqk : (cvAt m q).d = k) {a b : List CV} (ha : HistIs l k a) (hb : HistIs m k b) : a = b := by
  refine up_ext (fun c => ?_) ha.up hb.up
  rw [ha.mem, hb.mem]
  constructor
  · rintro ⟨i, h1, h2, rfl⟩
    obtain ⟨j, g1, g2, g3⟩ := sel_cross hm om hx hq hqk (l.length - i) i (by omega) h1 h2
    exact ⟨j, g1, g2, g3.symm⟩
  · rintro ⟨i, h1, h2, rfl⟩
    obtain ⟨j, g1, g2, g3⟩ := sel_cross hl ol hx.symm hp hpk (m.length - i) i (by omega) h1 h2
    exact ⟨j, g1, g2, g3.symm⟩
set_option maxRecDepth 100000 in
theorem txsH_congr {l m : List BW} {ds : List (List Int)} (h : ∀ d ∈ ds, bOf l d = bOf m d) : txsH l ds = txsH m ds := by
  induction ds with
  | nil => rfl
  | cons x r ih =>
    simp only [txsH]
    rw [h x (by simp), ih (fun d hd => h d (by simp [hd]))]
/-- The digests of the batches of a history. -/
def hisB (hs : List CV) : List (List Int) := hs.flatMap CV.bl
set_option maxRecDepth 100000 in
theorem hisB_mem {hs : List CV} {d : List Int} : d ∈ hisB hs ↔ ∃ c ∈ hs, d ∈ c.bl := by simp [hisB]
set_option maxRecDepth 100000 in
/-- There is a history, whatever is asked for. -/
theorem hist_len {l : List CV} {k : List Int} {hs : List CV} (h : HistIs l k hs) : hs.length ≤ l.length := by
  rw [h.perm.length_eq]
  have : ∀ n m, m + n = l.length → (rchTo l k m).2.length ≤ n := by
    intro n
    induction n with
    | zero =>
      intro m hm
      obtain rfl : m = l.length := by omega
      rw [rchTo_end]; simp
    | succ n ih =>
      intro m hm
      have := ih (m + 1) (by omega)
      rw [rchTo_step l k m (by omega), rchS]
      cases inO (bstr (cvAt l m).d) (rchTo l k (m + 1)).1
      · show (rchTo l k (m + 1)).2.length ≤ n + 1
        omega
      · show ((rchTo l k (m + 1)).2 ++ [cvAt l m]).length ≤ n + 1
        rw [List.length_append]; simp; omega
  exact this l.length 0 (by omega)
set_option maxRecDepth 100000 in
theorem hisB_length {hs : List CV} (h : ∀ c ∈ hs, c.bl.length ≤ 3) : (hisB hs).length ≤ 3 * hs.length := by
  induction hs with
  | nil => simp [hisB]
  | cons x r ih =>
    have h1 := h x (by simp)
    have h2 := ih (fun c hc => h c (by simp [hc]))
    have e : hisB (x :: r) = x.bl ++ hisB r := rfl
    rw [e, List.length_append, List.length_cons]; omega
end Go.Proofs.YtbmodfegcmaieaaDoor
