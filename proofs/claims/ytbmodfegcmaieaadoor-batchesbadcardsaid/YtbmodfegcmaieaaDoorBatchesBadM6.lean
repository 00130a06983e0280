/- History of a digest of the dag, and what its list tells. -/
import Derived.Test.YtbmodfegcmaieaaDoorBatchesBadM0
import Derived.Test.YtbmodfegcmaieaaDoorGCtFar
import Derived.Test.YtbmodfegcmaieaaDoorGAppR
import Derived.Test.YtbmodfegcmaieaaDoorGOwnL
import Derived.Test.YtbmodfegcmaieaaDoorGIntsL
import Derived.Test.YtbmodfegcmaieaaDoorGBstr
import Derived.Test.YtbmodfegcmaieaaDoorGCalls
import Derived.Test.YtbmodfegcmaieaaDoorGBcF
import Derived.Test.YtbmodfegcmaieaaDoorQDFndC
import Derived.Test.YtbmodfegcmaieaaDoorGBtRow
namespace Go.Proofs.YtbmodfegcmaieaaDoor
open Go.RowKit Go.WideMaps Go.Maps

/-- A step of a history in memory. -/
structure HSt where
  c : Ct
  p : Part
def HSt.cs (s : HSt) : List Value := [.int .i64 s.c.au, .int .i64 s.c.rd, .slice s.c.ba s.c.bl.length s.c.bc, .slice s.c.pa s.c.pl.length s.c.pc, .slice s.p.sa s.p.bs.length s.p.cap]
def hsv (l : List HSt) : List Value := l.flatMap HSt.cs
set_option maxRecDepth 100000 in
theorem hsv_snoc (l : List HSt) (s : HSt) : hsv (l ++ [s]) = hsv l ++ s.cs := by simp [hsv]
set_option maxRecDepth 100000 in
theorem infoHStep : (Tryd.prog.info? 91).map (fun i => (i.zero, i.size, i.bytes)) = some (some (.agg #[.int .i64 0, .int .i64 0, .slice none 0 0, .slice none 0 0, .slice none 0 0]), 5, 88) := by kernel_rfl
set_option maxRecDepth 100000 in
theorem wpList_insert_own {H : Type} {P : Program} (w : World) {ops : Array Oper} {rest : List Oper} {o : Oper} {a : Act} {Q : Exit → Act → World → Prop}
    (hg : o.guard = none) (m x v : Operand) (t : TypeId) (hop : o.op = Op.insert t m x v)
    (k e : TypeId) (K : Keyed P k) (ht : P.underlying t = some (.map k e)) (R : Value → Option (DataW H × List MemPlace)) (b n : Nat) (D : DataW H)
    (hm : a.eval m = .map (some b)) (hown : w.ownsMap P k R b n D) (hn : n < maxLen) (key val : Value) (kl : Lit) (hx : a.eval x = key) (hv : a.eval v = val) (hkey : keyOf P k key = some kl)
    (d : DataW H) (ps : List MemPlace) (hval : R val = some (d, ps))
    (hK : ∀ w', w'.ownsMap P k R b (n + 1) (D.put kl d) → w.grownBy w' (some b) → wpList P ops Q rest (a.put o.dst undef) w') :
    wpList P ops Q (o :: rest) a w := by
  refine wpList_plain hg fun K' hK' => ?_
  obtain ⟨w', hrun, r1, r2⟩ := hown.update K ht hn hkey hval
  unfold Oper.wp
  simp [execOp, hop, hm, hx, hv, hrun, Result.andThen]
  exact hK' _ _ (hK w' r1 r2)
set_option maxRecDepth 100000 in
theorem makeMapT0 (w : World) : (Instr.makeMap 119 none).run Tryd.prog w = .ok (.map (some w.heap.size)) (w.alloc (.map #[] 0)) := by
  simp [Instr.makeMap, Result.andThen]
/-- What reached answers. -/
structure RchO (w w' : World) (e : Ending) (ls : List Ct) (k : List Int) : Prop where
  below : Below w.heap.size w w'
  out : ∃ (v : Value) (sts : List HSt), e = .returned (.tuple #[v, .int .i64 0]) ∧ sts.map (·.c.v) = (rchTo (cvs ls) k 0).2 ∧ (∀ s ∈ sts, s.c ∈ ls ∧ s.p.bs = s.c.v.d) ∧ w'.ownsRow (w.heap.size + 2) 91 5 v sts.length (hsv sts) ∧ Apart w' (w.heap.size + 2) v (sts.map HSt.p)
set_option maxRecDepth 100000 in
set_option maxHeartbeats 2000000 in
theorem reached_any (ls : List Ct) (sa : Option Addr) (n cap : Nat) (bs : List Int) (ka : Option Addr) (kn kc : Nat) (w : World) (hn : n = ls.length) (hkn : kn = bs.length) (hd : DagAt w sa cap ls) (hF : dagF (cvs ls) = 0) (hk : SliceAt w ka kc bs) (hT : Tabs w) :
    Calls Tryd.prog 73 #[.agg #[.slice sa n cap], .slice ka kn kc] w fun e w' => RchO w w' e ls bs := by
  subst hn hkn
  have hlen := dag_le hF
  have HF : Hid (∀ c ∈ ls, headerF c.au c.rd c.bl c.pl = 0 ∧ c.pl.length ≤ 4) := by
    show ∀ c ∈ ls, _
    intro c hc
    have h := certF_head (vl := c.vl) (by rw [Ct.f_v]; exact all_f hF c hc)
    exact ⟨h, (headerF_ok h).2.2.2.1⟩
  clear hF
  have hmm := makeMapT0
  obtain ⟨i, hi, hz0, hz1, hz2⟩ := info_parts infoHStep
  have hA : Below w.heap.size w (w.alloc (.cells #[.slice sa ls.length cap] 51)) := (Below.refl _ _).alloc (Nat.le_refl _) _
  have r0 := heap_alloc_new w (.cells #[.slice sa ls.length cap] 51)
  have hS0 : Hid ((w.alloc (.cells #[.slice sa ls.length cap] 51)).heap.size = w.heap.size + 1) := (show _ = _ by simp)
  go_enter Tryd.func73, Tryd.ntmps73
  go_upto_region 2 with fail
  generalize w.alloc (.cells #[.slice sa ls.length cap] 51) = W0 at hA r0 hS0 ⊢
  have hA1 := (Below.refl W0.heap.size W0).alloc (Nat.le_refl _) (.map #[] 0)
  have htx := run_text (W0.alloc (.map #[] 0)) ka bs.length kc bs rfl (hk.below (hA.trans (hA1.mono hA.size)))
  have hkl : bs.length ≤ maxLen := Nat.le_trans hk.le hk.max
  have hkey : keyOf Tryd.prog 9 (.string (bstr bs)) = some (keyS (bstr bs)) := keyOf_string_mk Tryd.underlying9 (by rw [bstr_sz]; exact hkl)
  go_upto_region 3 with (refine wpList_insert_own _ rfl _ _ _ 119 rfl 9 120 keyT Tryd.underlying119 (unitElem (H := Unit)) W0.heap.size 0 _ rfl (World.ownsMap_made _ _ _ _) (by decide) _ _ _ rfl rfl hkey _ [] unitElem_mk ?_; intro w5 hown5 hgrow5)
  have hb5 : Below W0.heap.size W0 w5 := Below.grown hA1 hgrow5 (le_alloc (Nat.le_refl _) _) (fun j hj => by cases hj; exact Nat.le_refl _)
  have hW5 : W0.heap.size < w5.heap.size := hown5.lt
  have e0 := (hb5.block _ (lt_of_heap r0)).trans r0
  have d0 := cells_at e0 0 _ rfl
  go_wp2_with fail
  go_loopw [8, 6] (fun j v wr => ∃ (m : Nat) (z : Int) (sts : List HSt) (met : List ByteArray), m ≤ ls.length ∧ j = .int .i64 z ∧ z = (m : Int) - 1 ∧ Hid (rchTo (cvs ls) bs m = (met, sts.map (·.c.v))) ∧ met.length + 4 * m ≤ 1 + 4 * ls.length ∧ Hid (∀ s ∈ sts, s.c ∈ ls ∧ s.p.bs = s.c.v.d) ∧ sts.length + m ≤ ls.length ∧ wr.ownsMap Tryd.prog 9 (unitElem (H := Unit)) W0.heap.size met.length (setOf (.agg []) (met.map keyS)) ∧ wr.ownsRow (w.heap.size + 2) 91 5 v sts.length (hsv sts) ∧ Apart wr (w.heap.size + 2) v (sts.map HSt.p) ∧ Below W0.heap.size W0 wr) (fun j _ _ => (intOf j + 1).toNat)
  case atStart =>
    exact ⟨ls.length, _, [], [bstr bs], Nat.le_refl _, rfl, rfl, (show _ = _ by rw [← cvs_length ls]; exact rchTo_end _ _), by simp, (show ∀ s ∈ [], _ from fun s hs => by cases hs), by simp, hown5, World.ownsRow_nil _ _ _ _, (fun p hp => by cases hp), hb5⟩
  case round =>
    clear d0 e0 hown5 hgrow5 hb5 hW5 htx hkey
    obtain ⟨m, z, sts, met, hm, rfl, hz, hto, hmet, hsts, hsl, hown, ho, hap, hb⟩ := hrel
    have hAr := hA.trans (hb.mono hA.size)
    have e0 := (hb.block _ (lt_of_heap r0)).trans r0
    have d0 := cells_at e0 0 _ rfl
    by_cases h0 : m = 0
    · subst h0
      have hneg : ¬ (0 ≤ z) := by omega
      go_wp2_with fail
      go_ret2
      exact ⟨hAr, _, sts, rfl, by rw [hto.out], hsts.out, ho, hap⟩
    · obtain ⟨q, rfl⟩ : ∃ q, m = q + 1 := ⟨m - 1, by omega⟩
      obtain rfl : z = q := by omega
      clear h0 hz
      have hlt : q < ls.length := hm
      obtain ⟨sb, so, rfl, c0, c1, c2, c3, c4⟩ := (hd.below hAr).certs.at q hlt
      have hltI : (q : Int) < ls.length := by omega
      have HCT : Hid (∀ W : World, Below w.heap.size w W → CtAt W (ls[q])) := by
        show ∀ W, _
        exact fun W hW => (hd.each _ (List.getElem_mem hlt)).below hW
      have HH : Hid (headerF (ls[q]).au (ls[q]).rd (ls[q]).bl (ls[q]).pl = 0) := (HF.out _ (List.getElem_mem hlt)).1
      have hpl : (ls[q]).pl.length ≤ 4 := (HF.out _ (List.getElem_mem hlt)).2
      have HST : Hid (rchTo (cvs ls) bs q = rchS (met, sts.map (·.c.v)) (ls[q]).v) := by
        show _ = _
        rw [rchTo_step _ _ _ (by rw [cvs_length]; exact hlt), hto.out, cvAt_get ls q hlt]
      have HIN : Hid (ls[q] ∈ ls) := List.getElem_mem hlt
      generalize ls[q] = x at *
      go_upto_region 7 with fail
      have hA2 := (Below.refl wr.heap.size wr).alloc (Nat.le_refl _) (.cells #[.int .i64 x.au, .int .i64 x.rd, .slice x.ba x.bl.length x.bc, .slice x.pa x.pl.length x.pc] 60)
      have q0 := heap_alloc_new wr (.cells #[.int .i64 x.au, .int .i64 x.rd, .slice x.ba x.bl.length x.bc, .slice x.pa x.pl.length x.pc] 60)
      generalize wr.alloc (.cells #[.int .i64 x.au, .int .i64 x.rd, .slice x.ba x.bl.length x.bc, .slice x.pa x.pl.length x.pc] 60) = W2 at hA2 q0 ⊢
      have hB2 := hAr.trans (hA2.mono hAr.size)
      have f0 := cells_at q0 0 _ rfl
      have f1 := cells_at q0 1 _ rfl
      have f2 := cells_at q0 2 _ rfl
      have f3 := cells_at q0 3 _ rfl
      go_wp2_with fail
      refine (headerDigest_hat (HCT.out W2 hB2).hat HH.out (hT.below hB2)).mono ?_
      rintro e w3 ⟨b, rfl, hbb, hb3, hsl3⟩
      dsimp only
      rw [Ct.d_v] at hsl3
      clear f0 f1 f2 f3 c0 c1 c2 c3 c4
      have hB3 : Below w.heap.size w w3 := hB2.trans (hb3.mono hB2.size)
      have hk3 : W2.heap.size ≤ w3.heap.size := hb3.size
      have hBB : Below wr.heap.size wr w3 := hA2.trans (hb3.mono hA2.size)
      have hBW : Below W0.heap.size W0 w3 := hb.trans (hBB.mono hb.size)
      have hown3 : w3.ownsMap Tryd.prog 9 (unitElem (H := Unit)) W0.heap.size met.length (setOf (.agg []) (met.map keyS)) := by
        have hl := hown.lt
        obtain ⟨es, clock, h1, F, hs, hD⟩ := hown
        exact ⟨es, clock, (hBB.block _ hl).trans h1, F, hs, hD⟩
      have ho3 := owns_keep ho hBB
      have hap3 : Apart w3 (w.heap.size + 2) _ (sts.map HSt.p) := hap.same hBB.size (fun p hp b' so' e' => hBB.block _ ((hap p hp).2 b' so' e').2.1)
      have q3 := (hb3.block _ (lt_of_heap q0)).trans q0
      have f0 := cells_at q3 0 _ rfl
      have f1 := cells_at q3 1 _ rfl
      have f2 := cells_at q3 2 _ rfl
      have f3 := cells_at q3 3 _ rfl
      have htx := run_text w3 (some ⟨b, 0, none⟩) 32 32 x.v.d (CV.d_length _).symm hsl3
      have hkey : keyOf Tryd.prog 9 (.string (bstr x.v.d)) = some (keyS (bstr x.v.d)) := keyOf_string_mk Tryd.underlying9 (by rw [bstr_sz, CV.d_length]; decide)
      have HH2 : Hid (Maps.has (setOf (H := Unit) (.agg []) (met.map keyS)) (keyS (bstr x.v.d)) = inO (bstr x.v.d) met) := has_texts met _
      cases hx : inO (bstr x.v.d) met
      case false =>
        have HB : Hid (Maps.has (setOf (H := Unit) (.agg []) (met.map keyS)) (keyS (bstr x.v.d)) = false) := by show _ = _; rw [HH2.out, hx]
        have HX : Hid (rchTo (cvs ls) bs q = (met, sts.map (·.c.v))) := by show _ = _; rw [HST.out, rchS]; simp only [hx]; rfl
        clear hx HH2 HST
        go_wp2_with (at_lookup; refine wpList_lookup_own_unit _ rfl _ _ 119 rfl 9 120 keyT Tryd.underlying119 (zeroU _) W0.heap.size met.length _ rfl hown3 _ _ rfl hkey ?_; rw [HB.out])
        go_roundw
        case rel => exact ⟨q, _, sts, met, by omega, rfl, rfl, HX, by omega, hsts, by omega, hown3.alloc _, World.ownsRow.alloc ho3 _, hap3.same (by simp) (fun p hp b' so' e' => ((Below.refl w3.heap.size w3).alloc (Nat.le_refl _) _).block _ ((hap3 p hp).2 b' so' e').2.1), hBW.alloc hBW.size _⟩
        case measure => simp [intOf]
      case true =>
        have HB : Hid (Maps.has (setOf (H := Unit) (.agg []) (met.map keyS)) (keyS (bstr x.v.d)) = true) := by show _ = _; rw [HH2.out, hx]
        have HX : Hid (rchTo (cvs ls) bs q = (met ++ (bss x.pl).map bstr, sts.map (·.c.v) ++ [x.v])) := by show _ = _; rw [HST.out, rchS]; simp only [hx]; rfl
        clear hx HH2 HST
        go_upto_region 12 with (at_lookup; refine wpList_lookup_own_unit _ rfl _ _ 119 rfl 9 120 keyT Tryd.underlying119 (zeroU _) W0.heap.size met.length _ rfl hown3 _ _ rfl hkey ?_; rw [HB.out])
        have hA4 := (Below.refl w3.heap.size w3).alloc (Nat.le_refl _) (.cells #[] 120)
        have hown4 := hown3.alloc (.cells #[] 120)
        have ho4 := World.ownsRow.alloc ho3 (.cells #[] 120)
        have hap4 : Apart (w3.alloc (.cells #[] 120)) (w.heap.size + 2) _ (sts.map HSt.p) := hap3.same (by simp) (fun p hp b' so' e' => hA4.block _ ((hap3 p hp).2 b' so' e').2.1)
        have q4 := (hA4.block _ (lt_of_heap q3)).trans q3
        have hsl4 := hsl3.below hA4
        have hBW4 := hBW.trans (hA4.mono hBW.size)
        have hB4 := hB3.trans (hA4.mono hB3.size)
        have hbl4 : b < (w3.alloc (.cells #[] 120)).heap.size := by
          have := hsl3.bytes
          rcases this with h9 | ⟨pb, po, h9, h8⟩
          · have := CV.d_length x.v; rw [h9] at this; simp at this
          · cases h9
            have := block_lt_of_cell (h8 0 (by rw [CV.d_length]; decide))
            exact Nat.lt_of_lt_of_le this hA4.size
        clear f0 f1 f2 f3
        generalize w3.alloc (.cells #[] 120) = w4 at *
        have f0 := cells_at q4 0 _ rfl
        have f1 := cells_at q4 1 _ rfl
        have f2 := cells_at q4 2 _ rfl
        have f3 := cells_at q4 3 _ rfl
        go_upto_region 13 with (at_builtin; refine wpList_append_own_at _ rfl _ _ 87 rfl (w.heap.size + 2) 91 i (.agg #[.int .i64 0, .int .i64 0, .slice none 0 0, .slice none 0 0, .slice none 0 0]) 5 88 Tryd.underlying87 hi hz0 hz1 hz2 rfl (by decide) _ sts.length _ rfl (World.ownsRow.alloc ho4 _) ⟨w4.heap.size, 0, none⟩ 1 1 [.int .i64 x.au, .int .i64 x.rd, .slice x.ba x.bl.length x.bc, .slice x.pa x.pl.length x.pc, .slice (some ⟨b, 0, none⟩) 32 32] rfl rfl (cells_new _ _ _) (by intro u hu; simp at hu; rcases hu with rfl | rfl | rfl | rfl | rfl <;> rfl) (by unfold maxLen; omega) (by omega) (le_alloc (by have := hown4.lt; have := hS0.out; omega) _) ?_; intro v5 w5 ho5 hg5 _ hat5)
        have G5 := Grew.of hg5 hat5
        have hBB4 : Below wr.heap.size wr w4 := hBB.trans (hA4.mono hBB.size)
        have hBs : w.heap.size + 2 ≤ wr.heap.size := by have := hown.lt; have := hS0.out; omega
        have hap5 := hap.more_at (q := ⟨some ⟨b, 0, none⟩, 32, x.v.d⟩) hBs ho hBB4 (fun sb so e => by cases e; exact ⟨Nat.le_trans hA2.size hbb, hbl4⟩) hsl4 G5
        have hown5 := World.ownsMap.kept (hown4.alloc _) hg5 (fun e => by have := (ho4.lt _ e.symm).1; have := hS0.out; omega)
        have q5 := G5.row (heap_keep q4) (fun e => by have := (ho.lt _ e).2; omega)
        have hBW5 : Below W0.heap.size W0 w5 := Below.grown (hBW4.alloc hBW4.size _) hg5 (le_alloc hBW4.size _) (fun q e => by have := (ho4.lt q e).1; have := hS0.out; omega)
        clear f0 f1 f2 f3 hown4 ho4 hap4 q4 hsl4 hBW4 hB4 hA4 hown3 ho3 hap3 q3 hsl3 htx hkey
        have f3 := cells_at q5 3 _ rfl
        go_wp2_with fail
        go_loopw [61] (fun j wi => ∃ k : Nat, k ≤ x.pl.length ∧ j = .int .i64 k ∧ wi.ownsMap Tryd.prog 9 (unitElem (H := Unit)) W0.heap.size (met.length + k) (setOf (.agg []) ((met ++ ((bss x.pl).take k).map bstr).map keyS)) ∧ wi.ownsRow (w.heap.size + 2) 91 5 v5 (sts.length + 1) (hsv sts ++ [.int .i64 x.au, .int .i64 x.rd, .slice x.ba x.bl.length x.bc, .slice x.pa x.pl.length x.pc, .slice (some ⟨b, 0, none⟩) 32 32]) ∧ Apart wi (w.heap.size + 2) v5 (sts.map HSt.p ++ [⟨some ⟨b, 0, none⟩, 32, x.v.d⟩]) ∧ Below W0.heap.size W0 wi) (fun j _ => x.pl.length - (intOf j).toNat)
        case atStart => exact ⟨0, Nat.zero_le _, rfl, by simpa using hown5, ho5, hap5, hBW5⟩
        case round =>
          clear hown5 hap5 ho5 q5 f3 hBW5 hg5 hat5 G5
          obtain ⟨k, hk1, rfl, hownI, hoI, hapI, hbI⟩ := hrel
          have hBI := hA.trans (hbI.mono hA.size)
          by_cases hlk : k < x.pl.length
          · have hltk : (k : Int) < x.pl.length := by omega
            have hLP := (HCT.out _ hBI).hat.lp
            obtain ⟨pb, po, hpa, hcc⟩ : ∃ pb po, x.pa = some ⟨pb, po, none⟩ ∧ ∀ j (h : j < x.pl.length), wr.cell? ⟨pb, po + j, none⟩ = some (.slice (x.pl[j]).sa (x.pl[j]).bs.length (x.pl[j]).cap) := by
              rcases hLP.parts.cells with h | h
              · rw [h] at hlk; simp at hlk
              · exact h
            have ck := hcc k hlk
            have hxp := hLP.parts.each (x.pl[k]) (List.getElem_mem hlk)
            have hst : Hid (((bss x.pl).take (k + 1)).map bstr = ((bss x.pl).take k).map bstr ++ [bstr (x.pl[k]).bs]) := by
              show _ = _
              rw [List.take_succ_eq_append_getElem (by rw [bss_length]; exact hlk), List.map_append]
              simp [bss]
            clear hcc hLP
            generalize x.pl[k] = p at ck hxp hst
            have htx := run_text _ p.sa p.bs.length p.cap p.bs rfl hxp
            have hkey : keyOf Tryd.prog 9 (.string (bstr p.bs)) = some (keyS (bstr p.bs)) := keyOf_string_mk Tryd.underlying9 (by rw [bstr_sz]; exact Nat.le_trans hxp.le hxp.max)
            rw [hpa]
            go_wp2_with (at_mapUpdate; refine wpList_mapUpdate_own _ rfl _ _ _ 119 rfl 9 120 keyT Tryd.underlying119 (unitElem (H := Unit)) W0.heap.size (met.length + k) _ rfl hownI (by unfold maxLen; omega) _ _ _ rfl rfl hkey _ [] unitElem_mk ?_; intro w7 hown7 hg7)
            have ho7 := World.ownsRow.kept hoI hg7 (.inr fun e => by have := (hoI.lt _ e).1; have := hS0.out; omega)
            have hap7 : Apart w7 _ _ _ := hapI.same hg7.size (fun p hp b' so' e' => hg7.block _ ((hapI p hp).2 b' so' e').2.1 (by have := ((hapI p hp).2 b' so' e').1; have := hS0.out; intro e; cases e; omega))
            have hb7 := Below.grown hbI hg7 hbI.size (fun j hj => by cases hj; exact Nat.le_refl _)
            have hown8 : w7.ownsMap Tryd.prog 9 (unitElem (H := Unit)) W0.heap.size (met.length + (k + 1)) (setOf (.agg []) ((met ++ ((bss x.pl).take (k + 1)).map bstr).map keyS)) := by
              rw [hst.out, ← List.append_assoc, List.map_append, List.map_cons, List.map_nil, setOf_snoc]
              exact hown7
            go_roundw
            case rel => first | exact ⟨k + 1, by omega, by go_num, hown8, ho7, hap7, hb7⟩ | (rw [hpa] at ho7; exact ⟨k + 1, by omega, by go_num, hown8, ho7, hap7, hb7⟩)
            case measure => simp [intOf]; omega
          · obtain rfl : k = x.pl.length := by omega
            have HTK : Hid ((bss x.pl).take x.pl.length = bss x.pl) := (show _ = _ from List.take_of_length_le (by rw [bss_length]; exact Nat.le_refl _))
            rw [HTK.out] at hownI
            have HCS : Hid (HSt.cs ⟨x, ⟨some ⟨b, 0, none⟩, 32, x.v.d⟩⟩ = [.int .i64 x.au, .int .i64 x.rd, .slice x.ba x.bl.length x.bc, .slice x.pa x.pl.length x.pc, .slice (some ⟨b, 0, none⟩) 32 32]) := (show _ = _ by simp [HSt.cs, CV.d_length])
            have hLN : (met ++ (bss x.pl).map bstr).length = met.length + x.pl.length := by simp [bss_length]
            go_wp2_with fail
            go_roundw
            case rel =>
              refine ⟨q, _, sts ++ [⟨x, ⟨some ⟨b, 0, none⟩, 32, x.v.d⟩⟩], met ++ (bss x.pl).map bstr, by omega, rfl, rfl, ?_, by omega, ?_, by simp; omega, by rw [hLN]; exact hownI, by rw [hsv_snoc, HCS.out, List.length_append]; exact hoI, by rw [List.map_append]; exact hapI, hbI⟩
              · show _ = _
                rw [List.map_append]; exact HX.out
              · show ∀ s ∈ _, _
                intro s hs
                rcases List.mem_append.1 hs with hs | hs
                · exact hsts.out s hs
                · simp at hs; subst hs; exact ⟨HIN.out, rfl⟩
            case measure => simp [intOf]
end Go.Proofs.YtbmodfegcmaieaaDoor

namespace Go.Proofs.YtbmodfegcmaieaaDoor
open Go.RowKit Go.Sort

set_option maxRecDepth 100000 in
theorem sortedO_other {α : Type} [Inhabited α] (enc : α → List Value) (k : Nat) {w : World} (blk off m : Nat) (dk : Array α) (os : Array Obj) (j : Nat) (hj : j < w.heap.size) (hne : j ≠ blk) : (sortWorldK enc k w blk off m dk os).heap[j]? = w.heap[j]? := by
  unfold sortWorldK
  rw [heap_grow_old _ _ (by rw [size_putRowK]; exact hj)]
  show ((Sort.ahead w m).heap.modify blk _)[j]? = _
  rw [Array.getElem?_modify, if_neg (by omega)]
  rfl
set_option maxRecDepth 100000 in
theorem sortedO_below {α : Type} [Inhabited α] (enc : α → List Value) (k : Nat) {w0 w : World} (blk off m : Nat) (dk : Array α) (os : Array Obj) (hb : Go.RowKit.Below w0.heap.size w0 w) (h : w0.heap.size ≤ blk) : Go.RowKit.Below w0.heap.size w0 (sortWorldK enc k w blk off m dk os) := by
  have hs : w.heap.size ≤ (sortWorldK enc k w blk off m dk os).heap.size := size_sortWorldK_c enc k w blk off m dk os
  refine hb.trans ⟨rfl, rfl, rfl, hs, fun j hj => ?_⟩
  exact sortedO_other enc k blk off m dk os j (Nat.lt_of_lt_of_le hj hb.size) (by omega)
set_option maxRecDepth 100000 in
theorem hsv_length (l : List HSt) : (hsv l).length = l.length * 5 := by
  induction l with
  | nil => rfl
  | cons s l ih =>
    have e : hsv (s :: l) = s.cs ++ hsv l := rfl
    rw [e, List.length_append, ih]
    simp [HSt.cs]; omega
set_option maxRecDepth 100000 in
theorem hsv_get (l : List HSt) (k j : Nat) (hk : k < l.length) (hj : j < 5) : (hsv l)[k * 5 + j]? = (l[k]).cs[j]? := by
  induction l generalizing k with
  | nil => simp at hk
  | cons s l ih =>
    have e : hsv (s :: l) = s.cs ++ hsv l := rfl
    have h5 : s.cs.length = 5 := rfl
    rw [e]
    cases k with
    | zero => rw [List.getElem?_append_left (by omega)]; simp
    | succ k =>
      rw [List.getElem?_append_right (by omega), h5]
      have e2 : (k + 1) * 5 + j - 5 = k * 5 + j := by omega
      rw [e2, ih k (by simpa using hk)]
      simp
set_option maxRecDepth 100000 in
theorem flat_steps [Inhabited HSt] (ds : List HSt) : flatK HSt.cs 5 ds.toArray = (hsv ds).toArray := by
  refine ext_get! (by simp [hsv_length]) fun t ht => ?_
  have ht' : t < ds.length * 5 := by simpa using ht
  rw [get_flatK _ _ _ _ (by simpa using ht')]
  have hq : t / 5 < ds.length := by omega
  have hg := hsv_get ds (t / 5) (t % 5) hq (by omega)
  have ej : t / 5 * 5 + t % 5 = t := by omega
  rw [ej] at hg
  have e1 : (hsv ds).toArray[t]! = ((hsv ds)[t]?).getD default := by simp [Array.getElem!_eq_getD, Array.getD_eq_getD_getElem?]
  rw [e1, hg]
  have e2 : ds.toArray[t / 5]! = ds[t / 5] := by simp [hq]
  rw [e2]
  simp [List.getElem!_eq_getElem?_getD]
/-- Steps that are read in a slice. -/
structure StsAt (w : World) (sa : Option Addr) (sts : List HSt) : Prop where
  cells : sts = [] ∨ ∃ sb so, sa = some ⟨sb, so, none⟩ ∧ ∀ j (h : j < sts.length), w.cell? ⟨sb, so + j * 5, none⟩ = some (.int .i64 (sts[j]).c.au) ∧ w.cell? ⟨sb, so + j * 5 + 1, none⟩ = some (.int .i64 (sts[j]).c.rd) ∧ w.cell? ⟨sb, so + j * 5 + 2, none⟩ = some (.slice (sts[j]).c.ba (sts[j]).c.bl.length (sts[j]).c.bc) ∧ w.cell? ⟨sb, so + j * 5 + 3, none⟩ = some (.slice (sts[j]).c.pa (sts[j]).c.pl.length (sts[j]).c.pc) ∧ w.cell? ⟨sb, so + j * 5 + 4, none⟩ = some (.slice (sts[j]).p.sa (sts[j]).p.bs.length (sts[j]).p.cap)
  each : ∀ s ∈ sts, SliceAt w s.p.sa s.p.cap s.p.bs
set_option maxRecDepth 100000 in
theorem StsAt.below {w w' : World} {sa : Option Addr} {sts : List HSt} (h : StsAt w sa sts) (hb : Go.RowKit.Below w.heap.size w w') : StsAt w' sa sts := by
  refine ⟨?_, fun s hs => (h.each s hs).below hb⟩
  rcases h.cells with h1 | ⟨sb, so, e, h1⟩
  · exact .inl h1
  · refine .inr ⟨sb, so, e, fun j hj => ?_⟩
    obtain ⟨c0, c1, c2, c3, c4⟩ := h1 j hj
    exact ⟨(hb.cell (block_lt_of_cell c0)).trans c0, (hb.cell (block_lt_of_cell c1)).trans c1, (hb.cell (block_lt_of_cell c2)).trans c2, (hb.cell (block_lt_of_cell c3)).trans c3, (hb.cell (block_lt_of_cell c4)).trans c4⟩
def kSt (s : HSt) : Int × Int := (s.c.rd, s.c.au)
/-- What the sort leaves. -/
structure SrtO (w0 w' : World) (e : Ending) (sa : Option Addr) (ls : List HSt) : Prop where
  below : Go.RowKit.Below w0.heap.size w0 w'
  out : e = .returned (.tuple #[]) ∧ ∃ ks : List HSt, ks.Perm ls ∧ (∀ i j (hi : i < j) (hj : j < ks.length), ¬ cmpRA (kSt (ks[j])) (kSt (ks[i])) < 0) ∧ StsAt w' sa ks
set_option maxRecDepth 100000 in
set_option maxHeartbeats 1000000 in
theorem sortSteps_aux [Inhabited HSt] (ls : List HSt) (g cap B : Nat) (w0 w : World) (hb : Go.RowKit.Below w0.heap.size w0 w) (hB : w0.heap.size ≤ B) (hl : ls.length ≤ 1000) (ho : w.ownsRow B 91 5 (.slice (some ⟨g, 0, none⟩) ls.length cap) ls.length (hsv ls)) (ha : Apart w B (.slice (some ⟨g, 0, none⟩) ls.length cap) (ls.map HSt.p)) :
    Calls Tryd.prog 74 #[.slice (some ⟨g, 0, none⟩) ls.length cap, .func (.func 75) #[] #[]] w fun e w' => SrtO w0 w' e (some ⟨g, 0, none⟩) ls := by
  have hlt := ho.lt g rfl
  have hfr : ∀ j, w.frozen? ⟨g, j, none⟩ = false := by
    intro j
    rcases ho.2 with ⟨h, _⟩ | ⟨g', cap', cur, h, _, hh, _⟩
    · cases h
    · cases h; exact frozen_at hh j
  have hH : HoldsK HSt.cs 5 w g 0 ls.toArray := by
    intro j hj
    rw [flat_steps] at hj ⊢
    have hj' : j < (hsv ls).length := by simpa using hj
    rw [Nat.zero_add]
    refine ⟨?_, hfr j⟩
    rw [World.ownsRow.cellAt ho j (by rw [hsv_length] at hj'; exact hj')]
    simp [hj']
  have hC : CmpLays Tryd.prog 75 #[] HSt.cs 5 (fun x y => cmpRA (kSt x) (kSt y)) g 0 ls.toArray.size w := by
    intro m os dk hdk x y
    exact cmpStep_any x.c.au x.c.rd y.c.au y.c.rd _ _ _ _ _ _ _ _ _ _ _ _ _ _ _ _ _ _ _
  have hs := AnyQ.slices_SortFunc sortO 5 Tryd.isAgg91 Tryd.sizeOf91 HSt.cs (fun _ => rfl) (fun x v hv => by simp [HSt.cs] at hv; rcases hv with rfl | rfl | rfl | rfl | rfl <;> rfl) (fun x y => cmpRA (kSt x) (kSt y)) (lin_cmpRA.swo kSt) 75 #[] g 0 cap ls.toArray w (enters_of Tryd.func75 (by kernel_rfl) rfl) hC hH hlt.2 (by simp; omega)
  have hz : ls.toArray.size = ls.length := by simp
  rw [hz] at hs
  refine hs.mono ?_
  rintro e w' ⟨rfl, d', n, os, hp, hso, rfl⟩
  have hd' : d'.size = ls.length := by rw [hp.1]; exact hz
  have hperm : d'.toList.Perm ls := by
    have h3 := hp.2.2
    have e1 : d'.extract 0 ls.length = d' := by rw [← hd']; simp
    have e2 : ls.toArray.extract 0 ls.length = ls.toArray := by rw [← hz]; simp
    rw [e1, e2] at h3
    simpa using h3
  refine ⟨sortedO_below _ _ _ _ _ _ _ hb (Nat.le_trans hB hlt.1), rfl, d'.toList, hperm, ?_, ?_⟩
  · intro i j hi hj
    have hj2 : j < d'.size := by simpa using hj
    have h := hso i j (Nat.zero_le _) hi (by omega)
    rw [getElem!_pos d' j hj2, getElem!_pos d' i (by omega)] at h
    simp only [ltOf, decide_eq_false_iff_not] at h
    simpa using h
  · have hH' := holdsK_sortWorldK_c HSt.cs 5 w g 0 ls.toArray d' n os hH hlt.2 (by rw [hd', hz])
    refine ⟨.inr ⟨g, 0, rfl, fun j hj => ?_⟩, ?_⟩
    · have hj2 : j < d'.size := by simpa using hj
      have c := fun c (hc : c < 5) => (hH'.cell (i := j) (c := c) hj2 hc).1
      have c0 := c 0 (by omega)
      have c1 := c 1 (by omega)
      have c2 := c 2 (by omega)
      have c3 := c 3 (by omega)
      have c4 := c 4 (by omega)
      rw [getElem!_pos d' j hj2] at c0 c1 c2 c3 c4
      simp only [Array.getElem_toList]
      exact ⟨c0, c1, c2, c3, c4⟩
    · intro s hs
      have hm : s.p ∈ ls.map HSt.p := List.mem_map.2 ⟨s, hperm.mem_iff.1 hs, rfl⟩
      obtain ⟨h1, h2⟩ := ha s.p hm
      refine slice_keep h1 (fun b so _ e => ?_)
      obtain ⟨_, h3, h4⟩ := h2 b so e
      exact sortedO_other HSt.cs 5 g 0 n d' os b h3 (fun q => h4 (by rw [q]; rfl))
set_option maxRecDepth 100000 in
theorem sortSteps_any (ls : List HSt) (g cap B : Nat) (w0 w : World) (hb : Go.RowKit.Below w0.heap.size w0 w) (hB : w0.heap.size ≤ B) (hl : ls.length ≤ 1000) (hne : ls ≠ []) (ho : w.ownsRow B 91 5 (.slice (some ⟨g, 0, none⟩) ls.length cap) ls.length (hsv ls)) (ha : Apart w B (.slice (some ⟨g, 0, none⟩) ls.length cap) (ls.map HSt.p)) :
    Calls Tryd.prog 74 #[.slice (some ⟨g, 0, none⟩) ls.length cap, .func (.func 75) #[] #[]] w fun e w' => SrtO w0 w' e (some ⟨g, 0, none⟩) ls := by
  obtain ⟨s0, hs0⟩ := List.exists_mem_of_ne_nil ls hne
  exact @sortSteps_aux ⟨s0⟩ ls g cap B w0 w hb hB hl ho ha
end Go.Proofs.YtbmodfegcmaieaaDoor

namespace Go.Proofs.YtbmodfegcmaieaaDoor
open Go.RowKit

set_option maxRecDepth 100000 in
theorem dag_keys {l : List CV} (h : dagF l = 0) {a b : Nat} (hab : a < b) (hb : b < l.length) : ¬ ((cvAt l b).au = (cvAt l a).au ∧ (cvAt l b).rd = (cvAt l a).rd) := by
  rintro ⟨h1, h2⟩
  have hbad := (dagF_zero h).2 b hb
  simp only [badC, Bool.or_eq_false_iff, decide_eq_false_iff_not, ne_eq, Decidable.not_not] at hbad
  have hc : cOf (l.take b) (cvAt l b).au (cvAt l b).rd < 0 := by
    have := hbad.2
    rw [takF] at this
    split at this
    · cases this
    · omega
  have hl : (l.take b).length = b := by rw [List.length_take]; omega
  have := fidx_no _ _ hc a (by rw [hl]; exact hab)
  rw [cHit, cvAt_take l b a hab] at this
  simp [h1, h2] at this
/-- No two certificates have one digest. -/
def OneD (l : List CV) : Prop := ∀ i j, i < l.length → j < l.length → (cvAt l i).d = (cvAt l j).d → i = j
/-- Is the j'th one reached? -/
def sel (l : List CV) (k : List Int) (j : Nat) : Prop := bstr (cvAt l j).d ∈ (rchTo l k (j + 1)).1
set_option maxRecDepth 100000 in
theorem rch_fst_mem (l : List CV) (k : List Int) (n m : Nat) (hm : m + n = l.length) (x : ByteArray) : x ∈ (rchTo l k m).1 ↔ x = bstr k ∨ ∃ j, m ≤ j ∧ j < l.length ∧ sel l k j ∧ x ∈ (cvAt l j).pl.map bstr := by
  induction n generalizing m with
  | zero =>
    obtain rfl : m = l.length := by omega
    rw [rchTo_end]
    constructor
    · intro h; left; simpa using h
    · rintro (h | ⟨j, h1, h2, _⟩)
      · simp [h]
      · omega
  | succ n ih =>
    have hlt : m < l.length := by omega
    have ih := ih (m + 1) (by omega)
    rw [rchTo_step l k m hlt, rchS]
    cases hs : inO (bstr (cvAt l m).d) (rchTo l k (m + 1)).1
    · have hns : ¬ sel l k m := by
        intro h
        have h2 := inO_iff.2 (show bstr (cvAt l m).d ∈ (rchTo l k (m + 1)).1 from h)
        rw [hs] at h2; cases h2
      show x ∈ (rchTo l k (m + 1)).1 ↔ _
      rw [ih]
      constructor
      · rintro (h | ⟨j, h1, h2⟩)
        · exact .inl h
        · exact .inr ⟨j, by omega, h2⟩
      · rintro (h | ⟨j, h1, h2, h3, h4⟩)
        · exact .inl h
        · rcases Nat.lt_or_ge m j with g | g
          · exact .inr ⟨j, g, h2, h3, h4⟩
          · obtain rfl : j = m := by omega
            exact absurd h3 hns
    · have hse : sel l k m := inO_iff.1 hs
      show x ∈ (rchTo l k (m + 1)).1 ++ (cvAt l m).pl.map bstr ↔ _
      rw [List.mem_append, ih]
      constructor
      · rintro ((h | ⟨j, h1, h2⟩) | h)
        · exact .inl h
        · exact .inr ⟨j, by omega, h2⟩
        · exact .inr ⟨m, Nat.le_refl _, hlt, hse, h⟩
      · rintro (h | ⟨j, h1, h2, h3, h4⟩)
        · exact .inl (.inl h)
        · rcases Nat.lt_or_ge m j with g | g
          · exact .inl (.inr ⟨j, g, h2, h3, h4⟩)
          · obtain rfl : j = m := by omega
            exact .inr h4
set_option maxRecDepth 100000 in
theorem rch_snd_mem (l : List CV) (k : List Int) (n m : Nat) (hm : m + n = l.length) (c : CV) : c ∈ (rchTo l k m).2 ↔ ∃ j, m ≤ j ∧ j < l.length ∧ sel l k j ∧ c = cvAt l j := by
  induction n generalizing m with
  | zero =>
    obtain rfl : m = l.length := by omega
    rw [rchTo_end]
    constructor
    · intro h; cases h
    · rintro ⟨j, h1, h2, _⟩; omega
  | succ n ih =>
    have hlt : m < l.length := by omega
    have ih := ih (m + 1) (by omega)
    rw [rchTo_step l k m hlt, rchS]
    cases hs : inO (bstr (cvAt l m).d) (rchTo l k (m + 1)).1
    · have hns : ¬ sel l k m := by
        intro h
        have h2 := inO_iff.2 (show bstr (cvAt l m).d ∈ (rchTo l k (m + 1)).1 from h)
        rw [hs] at h2; cases h2
      show c ∈ (rchTo l k (m + 1)).2 ↔ _
      rw [ih]
      constructor
      · rintro ⟨j, h1, h2⟩; exact ⟨j, by omega, h2⟩
      · rintro ⟨j, h1, h2, h3, h4⟩
        rcases Nat.lt_or_ge m j with g | g
        · exact ⟨j, g, h2, h3, h4⟩
        · obtain rfl : j = m := by omega
          exact absurd h3 hns
    · have hse : sel l k m := inO_iff.1 hs
      show c ∈ (rchTo l k (m + 1)).2 ++ [cvAt l m] ↔ _
      rw [List.mem_append, ih]
      constructor
      · rintro (⟨j, h1, h2⟩ | h)
        · exact ⟨j, by omega, h2⟩
        · exact ⟨m, Nat.le_refl _, hlt, hse, by simpa using h⟩
      · rintro ⟨j, h1, h2, h3, h4⟩
        rcases Nat.lt_or_ge m j with g | g
        · exact .inl ⟨j, g, h2, h3, h4⟩
        · obtain rfl : j = m := by omega
          exact .inr (by simp [h4])
/-- By what a history is in order. -/
def kRA (c : CV) : Int × Int := (c.rd, c.au)
set_option maxRecDepth 100000 in
theorem rch_apart (l : List CV) (h : dagF l = 0) (k : List Int) (n m : Nat) (hm : m + n = l.length) : (rchTo l k m).2.Pairwise (fun a b => kRA a ≠ kRA b) := by
  induction n generalizing m with
  | zero =>
    obtain rfl : m = l.length := by omega
    rw [rchTo_end]; exact List.Pairwise.nil
  | succ n ih =>
    have hlt : m < l.length := by omega
    have ih2 := ih (m + 1) (by omega)
    rw [rchTo_step l k m hlt, rchS]
    cases hs : inO (bstr (cvAt l m).d) (rchTo l k (m + 1)).1
    · exact ih2
    · show ((rchTo l k (m + 1)).2 ++ [cvAt l m]).Pairwise _
      rw [List.pairwise_append]
      refine ⟨ih2, List.pairwise_singleton _ _, ?_⟩
      intro a ha b hb
      obtain rfl : b = cvAt l m := by simpa using hb
      obtain ⟨j, h1, h2, _, rfl⟩ := (rch_snd_mem l k n (m + 1) (by omega) a).1 ha
      intro e
      simp only [kRA, Prod.mk.injEq] at e
      exact dag_keys h (a := m) (b := j) (by omega) h2 ⟨e.2, e.1⟩
/-- What a history is: what is reached, by rounds and authors. -/
structure HistIs (l : List CV) (k : List Int) (hs : List CV) : Prop where
  perm : hs.Perm (rchTo l k 0).2
  up : hs.Pairwise (fun a b => cmpRA (kRA a) (kRA b) < 0)
set_option maxRecDepth 100000 in
theorem up_of_not {hs : List CV} (h : hs.Pairwise (fun a b => kRA a ≠ kRA b)) (g : ∀ i j (hi : i < j) (hj : j < hs.length), ¬ cmpRA (kRA (hs[j])) (kRA (hs[i])) < 0) : hs.Pairwise (fun a b => cmpRA (kRA a) (kRA b) < 0) := by
  rw [List.pairwise_iff_getElem] at h ⊢
  intro i j hi hj hij
  have h1 := h i j hi hj hij
  have h2 := g i j hij hj
  rcases Int.lt_trichotomy (cmpRA (kRA (hs[i])) (kRA (hs[j]))) 0 with q | q | q
  · exact q
  · exact absurd (lin_cmpRA.eq _ _ q) h1
  · exact absurd (lin_cmpRA.pos _ _ q) h2
set_option maxRecDepth 100000 in
theorem perm_apart {a b : List CV} (h : a.Perm b) (g : b.Pairwise (fun a b => kRA a ≠ kRA b)) : a.Pairwise (fun a b => kRA a ≠ kRA b) :=
  h.symm.pairwise g (fun h e => h e.symm)
set_option maxRecDepth 100000 in
theorem up_one {a b : List CV} (h : a.Perm b) (ha : a.Pairwise (fun a b => cmpRA (kRA a) (kRA b) < 0)) (hb : b.Pairwise (fun a b => cmpRA (kRA a) (kRA b) < 0)) : a = b := by
  induction a generalizing b with
  | nil => exact (List.Perm.nil_eq h)
  | cons x a ih =>
    cases b with
    | nil => exact absurd h.symm (by intro g; have := List.Perm.nil_eq g; cases this)
    | cons y b =>
      rw [List.pairwise_cons] at ha hb
      have hxy : x = y := by
        have h1 : x ∈ y :: b := h.subset (by simp)
        have h2 : y ∈ x :: a := h.symm.subset (by simp)
        rcases List.mem_cons.1 h1 with e | e
        · exact e
        · rcases List.mem_cons.1 h2 with f | f
          · exact f.symm
          · have g1 := ha.1 y f
            have g2 := hb.1 x e
            have g3 := lin_cmpRA.neg _ _ g1
            omega
      subst hxy
      rw [ih ((List.perm_cons x).1 h) ha.2 hb.2]
set_option maxRecDepth 100000 in
theorem HistIs.one {l : List CV} {k : List Int} {a b : List CV} (h : HistIs l k a) (g : HistIs l k b) : a = b := up_one (h.perm.trans g.perm.symm) h.up g.up
set_option maxRecDepth 100000 in
theorem HistIs.mem {l : List CV} {k : List Int} {hs : List CV} (h : HistIs l k hs) (c : CV) : c ∈ hs ↔ ∃ j, j < l.length ∧ sel l k j ∧ c = cvAt l j := by
  rw [h.perm.mem_iff, rch_snd_mem l k l.length 0 (by omega)]
  constructor
  · rintro ⟨j, _, h⟩; exact ⟨j, h⟩
  · rintro ⟨j, h⟩; exact ⟨j, Nat.zero_le _, h⟩
set_option maxRecDepth 100000 in
theorem txL_bstr {xs ys : List Int} : txL xs = txL ys ↔ bstr xs = bstr ys := ⟨fun h => ba_ext h, fun h => by unfold txL; rw [h]⟩
set_option maxRecDepth 100000 in
theorem d_bstr {a b : CV} (h : bstr a.d = bstr b.d) : a.d = b.d := bstr_inj (CV.d_u8 _) (CV.d_u8 _) h
set_option maxRecDepth 100000 in
/-- A parent of the i'th one: where it stands. -/
theorem parent_at {l : List CV} (h : dagF l = 0) {i : Nat} (hi : i < l.length) {p : List Int} (hp : p ∈ (cvAt l i).pl) : ∃ q, q < i ∧ bstr (cvAt l q).d = bstr p ∧ (cvAt l q).rd = (cvAt l i).rd - 1 := by
  obtain ⟨m, hm, rfl⟩ := List.getElem_of_mem hp
  obtain ⟨h1, h2⟩ := dag_parent h hi hm
  have hb := pOf_bounds (l.take i) ((cvAt l i).pl.getD m [])
  rw [List.length_take] at hb
  have hy := fidx_yes (dHit (l.take i) ((cvAt l i).pl.getD m [])) (l.take i).length h1
  have hq : (pOf (l.take i) ((cvAt l i).pl.getD m [])).toNat < i := by omega
  have hd := of_decide_eq_true hy
  have e : (cvAt l i).pl.getD m [] = (cvAt l i).pl[m] := by simp [hm]
  change txL (cvAt (l.take i) (pOf (l.take i) ((cvAt l i).pl.getD m [])).toNat).d = _ at hd
  rw [cvAt_take l i _ hq] at hd
  refine ⟨_, hq, ?_, h2⟩
  rw [← e]; exact txL_bstr.1 hd
set_option maxRecDepth 100000 in
theorem sel_iff {l : List CV} {k : List Int} {j : Nat} (hj : j < l.length) : sel l k j ↔ bstr (cvAt l j).d = bstr k ∨ ∃ i, j < i ∧ i < l.length ∧ sel l k i ∧ bstr (cvAt l j).d ∈ (cvAt l i).pl.map bstr := by
  unfold sel
  rw [rch_fst_mem l k (l.length - (j + 1)) (j + 1) (by omega)]
  rfl
set_option maxRecDepth 100000 in
/-- The parents of what is reached are reached. -/
theorem sel_parent {l : List CV} (h : dagF l = 0) (ho : OneD l) {k : List Int} {i q : Nat} (hi : i < l.length) (hq : q < l.length) (hs : sel l k i) {p : List Int} (hp : p ∈ (cvAt l i).pl) (hd : bstr (cvAt l q).d = bstr p) : q < i ∧ sel l k q ∧ (cvAt l q).rd = (cvAt l i).rd - 1 := by
  obtain ⟨q', h1, h2, h3⟩ := parent_at h hi hp
  obtain rfl : q = q' := ho q q' hq (by omega) (d_bstr (hd.trans h2.symm))
  exact ⟨h1, (sel_iff hq).2 (.inr ⟨i, h1, hi, hs, List.mem_map.2 ⟨p, hp, hd.symm⟩⟩), h3⟩
set_option maxRecDepth 100000 in
/-- What is reached is the one that was asked for, or of a round ahead. -/
theorem sel_round {l : List CV} (h : dagF l = 0) (ho : OneD l) {n : Nat} (hn : n < l.length) : ∀ (m j : Nat), j + m = l.length → j < l.length → sel l (cvAt l n).d j → j = n ∨ (cvAt l j).rd < (cvAt l n).rd := by
  intro m
  induction m using Nat.strongRecOn with
  | ind m ih =>
    intro j hm hj hs
    rcases (sel_iff hj).1 hs with h1 | ⟨i, h1, h2, h3, h4⟩
    · exact .inl (ho j n hj hn (d_bstr h1))
    · right
      obtain ⟨p, hp, e⟩ := List.mem_map.1 h4
      obtain ⟨_, _, hr⟩ := sel_parent h ho h2 hj h3 hp e.symm
      rcases ih (l.length - i) (by omega) i (by omega) h2 h3 with g | g
      · subst g; omega
      · omega
set_option maxRecDepth 100000 in
theorem sel_self {l : List CV} {n : Nat} (hn : n < l.length) : sel l (cvAt l n).d n := (sel_iff hn).2 (.inl rfl)
set_option maxRecDepth 100000 in
/-- The history of what is reached is reached. -/
theorem sel_trans {l : List CV} (h : dagF l = 0) (ho : OneD l) {k : List Int} {n : Nat} (hn : n < l.length) (hs : sel l k n) : ∀ (m j : Nat), j + m = l.length → j < l.length → sel l (cvAt l n).d j → sel l k j := by
  intro m
  induction m using Nat.strongRecOn with
  | ind m ih =>
    intro j hm hj hs2
    rcases (sel_iff hj).1 hs2 with h1 | ⟨i, h1, h2, h3, h4⟩
    · obtain rfl := ho j n hj hn (d_bstr h1)
      exact hs
    · obtain ⟨p, hp, e⟩ := List.mem_map.1 h4
      exact (sel_parent h ho h2 hj (ih (l.length - i) (by omega) i (by omega) h2 h3) hp e.symm).2.1
set_option maxRecDepth 100000 in
theorem cmpRA_kRA {a b : CV} : cmpRA (kRA a) (kRA b) < 0 ↔ (a.rd < b.rd ∨ (a.rd = b.rd ∧ a.au < b.au)) := cmpRA_neg
set_option maxRecDepth 100000 in
/-- A history ends with its own certificate. -/
theorem hist_last {l : List CV} (h : dagF l = 0) (ho : OneD l) {n : Nat} (hn : n < l.length) {hs : List CV} (H : HistIs l (cvAt l n).d hs) : ∃ r, hs = r ++ [cvAt l n] := by
  have hin : cvAt l n ∈ hs := (H.mem _).2 ⟨n, hn, sel_self hn, rfl⟩
  obtain ⟨r, t, rfl⟩ := List.append_of_mem hin
  cases t with
  | nil => exact ⟨r, rfl⟩
  | cons y t =>
    have hy : y ∈ r ++ cvAt l n :: y :: t := by simp
    obtain ⟨j, h1, h2, rfl⟩ := (H.mem _).1 hy
    have hu := H.up
    rw [List.pairwise_append] at hu
    have hu := hu.2.1
    rw [List.pairwise_cons] at hu
    have hlt := cmpRA_kRA.1 (hu.1 (cvAt l j) (by simp))
    rcases sel_round h ho hn (l.length - j) j (by omega) h1 h2 with g | g
    · subst g; omega
    · omega
set_option maxRecDepth 100000 in
theorem oneD_or {l : List CV} (h : dagF l = 0) : OneD l ∨ ∃ K I, K < I ∧ I < l.length ∧ (cvAt l I).d = (cvAt l K).d ∧ ¬ ((cvAt l I).au = (cvAt l K).au ∧ (cvAt l I).rd = (cvAt l K).rd) := by
  by_cases ho : OneD l
  · exact .inl ho
  · right
    unfold OneD at ho
    simp only [Classical.not_forall] at ho
    obtain ⟨i, j, hi, hj, hd, hne⟩ := ho
    rcases Nat.lt_or_ge i j with g | g
    · exact ⟨i, j, g, hj, hd.symm, dag_keys h g hj⟩
    · exact ⟨j, i, by omega, hi, hd, dag_keys h (by omega) hi⟩
end Go.Proofs.YtbmodfegcmaieaaDoor

namespace Go.Proofs.YtbmodfegcmaieaaDoor
open Go.RowKit

set_option maxRecDepth 100000 in
theorem up_ext {a b : List CV} (h : ∀ c, c ∈ a ↔ c ∈ b) (ha : a.Pairwise (fun a b => cmpRA (kRA a) (kRA b) < 0)) (hb : b.Pairwise (fun a b => cmpRA (kRA a) (kRA b) < 0)) : a = b := by
  induction a generalizing b with
  | nil =>
    cases b with
    | nil => rfl
    | cons y b => exact absurd ((h y).2 (by simp)) (by simp)
  | cons x a ih =>
    cases b with
    | nil => exact absurd ((h x).1 (by simp)) (by simp)
    | cons y b =>
      rw [List.pairwise_cons] at ha hb
      have hxy : x = y := by
        have h1 : x ∈ y :: b := (h x).1 (by simp)
        have h2 : y ∈ x :: a := (h y).2 (by simp)
        rcases List.mem_cons.1 h1 with e | e
        · exact e
        · rcases List.mem_cons.1 h2 with f | f
          · exact f.symm
          · have g1 := ha.1 y f
            have g2 := hb.1 x e
            have g3 := lin_cmpRA.neg _ _ g1
            omega
      subst hxy
      rw [ih (fun c => ?_) ha.2 hb.2]
      constructor
      · intro hc
        rcases List.mem_cons.1 ((h c).1 (by simp [hc])) with e | e
        · subst e
          have := ha.1 c hc
          rw [lin_cmpRA.refl] at this; omega
        · exact e
      · intro hc
        rcases List.mem_cons.1 ((h c).2 (by simp [hc])) with e | e
        · subst e
          have := hb.1 c hc
          rw [lin_cmpRA.refl] at this; omega
        · exact e
/-- What has one digest in both is the same. -/
def OneX (l m : List CV) : Prop := ∀ i j, i < l.length → j < m.length → (cvAt l i).d = (cvAt m j).d → cvAt l i = cvAt m j
set_option maxRecDepth 100000 in
theorem OneX.symm {l m : List CV} (h : OneX l m) : OneX m l := fun i j hi hj e => (h j i hj hi e.symm).symm
set_option maxRecDepth 100000 in
theorem sel_cross {l m : List CV} (hm : dagF m = 0) (om : OneD m) (hx : OneX l m) {k : List Int} {q : Nat} (hq : q < m.length) (hk : (cvAt m q).d = k) : ∀ (t i : Nat), i + t = l.length → i < l.length → sel l k i → ∃ j, j < m.length ∧ sel m k j ∧ cvAt m j = cvAt l i := by
  intro t
  induction t using Nat.strongRecOn with
  | ind t ih =>
    intro i ht hi hs
    rcases (sel_iff hi).1 hs with h1 | ⟨i', h1, h2, h3, h4⟩
    · subst hk
      exact ⟨q, hq, sel_self hq, (hx i q hi hq (d_bstr h1)).symm⟩
    · obtain ⟨j', g1, g2, g3⟩ := ih (l.length - i') (by omega) i' (by omega) h2 h3
      obtain ⟨p, hp, e⟩ := List.mem_map.1 h4
      rw [← g3] at hp
      obtain ⟨r, r1, r2, _⟩ := parent_at hm g1 hp
      have r1' : r < m.length := by omega
      exact ⟨r, r1', (sel_parent hm om g1 r1' g2 hp r2).2.1, (hx i r hi r1' (d_bstr (e.symm.trans r2.symm))).symm⟩
set_option maxRecDepth 100000 in
theorem hist_same {l m : List CV} (hl : dagF l = 0) (hm : dagF m = 0) (ol : OneD l) (om : OneD m) (hx : OneX l m) {k : List Int} {p q : Nat} (hp : p < l.length) (hq : q < m.length) (hpk : (cvAt l p).d = k) (hqk : (cvAt m q).d = k) {a b : List CV} (ha : HistIs l k a) (hb : HistIs m k b) : a = b := by
  refine up_ext (fun c => ?_) ha.up hb.up
  rw [ha.mem, hb.mem]
  constructor
  · rintro ⟨i, h1, h2, rfl⟩
    obtain ⟨j, g1, g2, g3⟩ := sel_cross hm om hx hq hqk (l.length - i) i (by omega) h1 h2
    exact ⟨j, g1, g2, g3.symm⟩
  · rintro ⟨i, h1, h2, rfl⟩
    obtain ⟨j, g1, g2, g3⟩ := sel_cross hl ol hx.symm hp hpk (m.length - i) i (by omega) h1 h2
    exact ⟨j, g1, g2, g3.symm⟩
set_option maxRecDepth 100000 in
theorem txsH_congr {l m : List BW} {ds : List (List Int)} (h : ∀ d ∈ ds, bOf l d = bOf m d) : txsH l ds = txsH m ds := by
  induction ds with
  | nil => rfl
  | cons x r ih =>
    simp only [txsH]
    rw [h x (by simp), ih (fun d hd => h d (by simp [hd]))]
/-- The digests of the batches of a history. -/
def hisB (hs : List CV) : List (List Int) := hs.flatMap CV.bl
set_option maxRecDepth 100000 in
theorem hisB_mem {hs : List CV} {d : List Int} : d ∈ hisB hs ↔ ∃ c ∈ hs, d ∈ c.bl := by simp [hisB]
set_option maxRecDepth 100000 in
/-- There is a history, whatever is asked for. -/
theorem hist_len {l : List CV} {k : List Int} {hs : List CV} (h : HistIs l k hs) : hs.length ≤ l.length := by
  rw [h.perm.length_eq]
  have : ∀ n m, m + n = l.length → (rchTo l k m).2.length ≤ n := by
    intro n
    induction n with
    | zero =>
      intro m hm
      obtain rfl : m = l.length := by omega
      rw [rchTo_end]; simp
    | succ n ih =>
      intro m hm
      have := ih (m + 1) (by omega)
      rw [rchTo_step l k m (by omega), rchS]
      cases inO (bstr (cvAt l m).d) (rchTo l k (m + 1)).1
      · show (rchTo l k (m + 1)).2.length ≤ n + 1
        omega
      · show ((rchTo l k (m + 1)).2 ++ [cvAt l m]).length ≤ n + 1
        rw [List.length_append]; simp; omega
  exact this l.length 0 (by omega)
set_option maxRecDepth 100000 in
theorem hisB_length {hs : List CV} (h : ∀ c ∈ hs, c.bl.length ≤ 3) : (hisB hs).length ≤ 3 * hs.length := by
  induction hs with
  | nil => simp [hisB]
  | cons x r ih =>
    have h1 := h x (by simp)
    have h2 := ih (fun c hc => h c (by simp [hc]))
    have e : hisB (x :: r) = x.bl ++ hisB r := rfl
    rw [e, List.length_append, List.length_cons]; omega
end Go.Proofs.YtbmodfegcmaieaaDoor

namespace Go.Proofs.YtbmodfegcmaieaaDoor
open Go.RowKit

/-- What Find refuses. -/
def FndE (l : List CV) (k : List Int) (ec : Int) : Prop := (dagF l = 12 ∧ ec = 12) ∨ (dagF l = 0 ∧ pOf l k = -1 ∧ ec = 8)
/-- What historyOf answers. -/
structure HofO (w w' : World) (e : Ending) (ls : List Ct) (k : List Int) : Prop where
  below : Below w.heap.size w w'
  out : (∃ ec : Int, e = .returned (.tuple #[.slice none 0 0, .int .i64 ec]) ∧ FndE (cvs ls) k ec) ∨ (dagF (cvs ls) = 0 ∧ 0 ≤ pOf (cvs ls) k ∧ ∃ (sa : Option Addr) (cap : Nat) (sts : List HSt), e = .returned (.tuple #[.slice sa sts.length cap, .int .i64 0]) ∧ HistIs (cvs ls) k (sts.map (·.c.v)) ∧ (∀ s ∈ sts, s.c ∈ ls ∧ s.p.bs = s.c.v.d) ∧ StsAt w' sa sts ∧ (∀ s ∈ sts, ∀ b so, s.p.sa = some ⟨b, so, none⟩ → w.heap.size ≤ b))
set_option maxRecDepth 100000 in
theorem pOf_sel {l : List CV} {k : List Int} (h : 0 ≤ pOf l k) : ∃ j, j < l.length ∧ sel l k j ∧ (j : Int) = pOf l k ∧ bstr (cvAt l j).d = bstr k := by
  have hb := pOf_bounds l k
  have hy := of_decide_eq_true (fidx_yes (dHit l k) l.length h)
  have hj : (pOf l k).toNat < l.length := by omega
  exact ⟨(pOf l k).toNat, hj, (sel_iff hj).2 (.inl (txL_bstr.1 hy)), by omega, txL_bstr.1 hy⟩
set_option maxRecDepth 100000 in
set_option maxHeartbeats 2000000 in
theorem historyOf_any (ls : List Ct) (sa : Option Addr) (n cap : Nat) (bs : List Int) (ka : Option Addr) (kn kc : Nat) (w : World) (hn : n = ls.length) (hkn : kn = bs.length) (hd : DagAt w sa cap ls) (hk : SliceAt w ka kc bs) (hT : Tabs w) :
    Calls Tryd.prog 55 #[.agg #[.slice sa n cap], .slice ka kn kc] w fun e w' => HofO w w' e ls bs := by
  subst hn hkn
  have hA : Below w.heap.size w (w.alloc (.cells #[.slice sa ls.length cap] 51)) := (Below.refl _ _).alloc (Nat.le_refl _) _
  have r0 := heap_alloc_new w (.cells #[.slice sa ls.length cap] 51)
  go_enter Tryd.func55, Tryd.ntmps55
  go_wp2_with fail
  generalize w.alloc (.cells #[.slice sa ls.length cap] 51) = W0 at hA r0 ⊢
  refine (dagFind_own ls sa _ cap bs ka _ kc W0 rfl rfl (hd.below hA) (hk.below hA) (hT.below hA)).mono ?_
  intro e w1 hO
  have hb1 := hO.below
  have hB1 := hA.trans (hb1.mono hA.size)
  rcases hO.out with ⟨ec, he, hec⟩ | ⟨h1, h2, c, he, hcv, hct, hcb⟩
  · subst he
    dsimp only
    have hne : (ec != 0) = true := by
      rcases hec with h | h
      · rw [h.2]; rfl
      · rw [h.2.2]; rfl
    have HE : Hid _ := hec
    clear hec hO
    go_wp2_with fail
    go_ret2
    exact ⟨hB1.alloc hB1.size _, .inl ⟨ec, rfl, HE.out⟩⟩
  · subst he
    dsimp only
    have HF : Hid (dagF (cvs ls) = 0) := h1
    have HP : Hid (0 ≤ pOf (cvs ls) bs) := h2
    have r1 := (hb1.block _ (lt_of_heap r0)).trans r0
    clear hO hcv h1 h2
    have hA2 := (Below.refl w1.heap.size w1).alloc (Nat.le_refl _) (.cells #[.int .i64 c.au, .int .i64 c.rd, .slice c.ba c.bl.length c.bc, .slice c.pa c.pl.length c.pc, .slice c.va c.vl.length c.vc] 63)
    have hB2 := hB1.trans (hA2.mono hB1.size)
    have r2 := (hA2.block _ (lt_of_heap r1)).trans r1
    have d0 := cells_at r2 0 _ rfl
    go_wp2_with fail
    generalize w1.alloc (.cells #[.int .i64 c.au, .int .i64 c.rd, .slice c.ba c.bl.length c.bc, .slice c.pa c.pl.length c.pc, .slice c.va c.vl.length c.vc] 63) = W2 at hA2 hB2 r2 d0 ⊢
    refine (reached_any ls sa _ cap bs ka _ kc W2 rfl rfl (hd.below hB2) HF.out (hk.below hB2) (hT.below hB2)).mono ?_
    intro e w3 hO
    have hb3 := hO.below
    have hB3 := hB2.trans (hb3.mono hB2.size)
    obtain ⟨v, sts, he, hsts, hmem, ho, hap⟩ := hO.out
    subst he
    dsimp only
    have hne : sts ≠ [] := by
      intro h
      obtain ⟨j, hj, hsel, _⟩ := pOf_sel HP.out
      have : cvAt (cvs ls) j ∈ (rchTo (cvs ls) bs 0).2 := (rch_snd_mem _ _ (cvs ls).length 0 (by omega) _).2 ⟨j, Nat.zero_le _, hj, hsel, rfl⟩
      rw [← hsts, h] at this; cases this
    have hlen : sts.length ≤ 400 := by
      have h1 : (sts.map (·.c.v)).length ≤ (cvs ls).length := by
        have : ∀ n m, m + n = (cvs ls).length → (rchTo (cvs ls) bs m).2.length ≤ n := by
          intro n
          induction n with
          | zero => intro m hm; obtain rfl : m = (cvs ls).length := by omega
                    rw [rchTo_end]; simp
          | succ n ih =>
            intro m hm
            have := ih (m + 1) (by omega)
            rw [rchTo_step _ _ m (by omega), rchS]
            cases inO (bstr (cvAt (cvs ls) m).d) (rchTo (cvs ls) bs (m + 1)).1
            · show (rchTo (cvs ls) bs (m + 1)).2.length ≤ n + 1
              omega
            · show ((rchTo (cvs ls) bs (m + 1)).2 ++ [cvAt (cvs ls) m]).length ≤ n + 1
              rw [List.length_append]; simp; omega
        rw [hsts]; exact this _ 0 (by omega)
      have h2 := (dagF_zero HF.out).1
      rw [List.length_map] at h1; omega
    obtain ⟨g, gc, rfl⟩ : ∃ g gc, v = .slice (some ⟨g, 0, none⟩) sts.length gc := by
      rcases ho.2 with ⟨_, h0⟩ | ⟨g, gc, cur, rfl, _⟩
      · exact absurd (List.eq_nil_of_length_eq_zero h0) hne
      · exact ⟨g, gc, rfl⟩
    have HS : Hid _ := hsts
    have HM : Hid _ := hmem
    have HNW : Hid (∀ s ∈ sts, ∀ b so, s.p.sa = some ⟨b, so, none⟩ → w.heap.size ≤ b) := by
      show ∀ s ∈ sts, _
      intro s hs b so e
      have := ((hap s.p (List.mem_map.2 ⟨s, hs, rfl⟩)).2 b so e).1
      have := hB2.size
      omega
    have hSR := sortSteps_any sts g gc (W2.heap.size + 2) W2 w3 hb3 (by omega) (by omega) hne ho hap
    have HLN : Hid (sts.length ≤ 400) := hlen
    clear hO hsts hmem ho hap hne hlen d0
    go_wp2_with fail
    refine hSR.mono ?_
    intro e w4 hO
    have hb4 := hO.below
    obtain ⟨he, ks, hpm, hup, hat⟩ := hO.out
    subst he
    dsimp only
    have hB4 := hB2.trans (hb4.mono hB2.size)
    have HKL : Hid (ks.length = sts.length) := hpm.length_eq
    have HH : Hid (HistIs (cvs ls) bs (ks.map (·.c.v))) := by
      have h1 : (ks.map (·.c.v)).Perm (rchTo (cvs ls) bs 0).2 := by rw [← HS.out]; exact hpm.map _
      refine ⟨h1, up_of_not (perm_apart h1 (rch_apart _ HF.out _ (cvs ls).length 0 (by omega))) ?_⟩
      intro i j hi hj
      have hj2 : j < ks.length := by simpa using hj
      have := hup i j hi hj2
      simpa [kSt, kRA, Ct.v] using this
    have HK2 : Hid ((∀ s ∈ ks, s.c ∈ ls ∧ s.p.bs = s.c.v.d) ∧ ∀ s ∈ ks, ∀ b so, s.p.sa = some ⟨b, so, none⟩ → w.heap.size ≤ b) := ⟨fun s hs => HM.out s (hpm.mem_iff.1 hs), fun s hs => HNW.out s (hpm.mem_iff.1 hs)⟩
    clear hO hup hpm hSR
    go_wp2_with fail
    go_ret2
    exact ⟨hB4, .inr ⟨HF.out, HP.out, some ⟨g, 0, none⟩, gc, ks, by rw [HKL.out]; rfl, HH.out, HK2.out.1, hat, HK2.out.2⟩⟩
/-- What History answers. -/
structure HisO (w w' : World) (e : Ending) (l : List CV) (k : List Int) : Prop where
  below : Below w.heap.size w w'
  out : (∃ ec : Int, e = .returned (.tuple #[.slice none 0 0, .int .i64 ec]) ∧ FndE l k ec) ∨ (dagF l = 0 ∧ 0 ≤ pOf l k ∧ ∃ (ra : Option Addr) (rc : Nat) (ds : List Part) (hs : List CV), e = .returned (.tuple #[.slice ra ds.length rc, .int .i64 0]) ∧ HistIs l k hs ∧ bss ds = hs.map CV.d ∧ ListAt w' ra rc ds ∧ Fresh w.heap.size ra ds)
set_option maxRecDepth 100000 in
theorem hist_small {l : List CV} {k : List Int} {hs : List CV} (h : HistIs l k hs) (hF : dagF l = 0) : hs.length ≤ 400 := Nat.le_trans (hist_len h) (dagF_zero hF).1
set_option maxRecDepth 100000 in
set_option maxHeartbeats 2000000 in
theorem history_any (ls : List Ct) (sa : Option Addr) (n cap : Nat) (bs : List Int) (ka : Option Addr) (kn kc : Nat) (w : World) (hn : n = ls.length) (hkn : kn = bs.length) (hd : DagAt w sa cap ls) (hk : SliceAt w ka kc bs) (hT : Tabs w) :
    Calls Tryd.prog 36 #[.agg #[.slice sa n cap], .slice ka kn kc] w fun e w' => HisO w w' e (cvs ls) bs := by
  subst hn hkn
  have hA : Below w.heap.size w (w.alloc (.cells #[.slice sa ls.length cap] 51)) := (Below.refl _ _).alloc (Nat.le_refl _) _
  obtain ⟨i, hi, hz0, hz1, hz2⟩ := info_parts infoBs
  go_enter Tryd.func36, Tryd.ntmps36
  go_wp2_with fail
  generalize w.alloc (.cells #[.slice sa ls.length cap] 51) = W0 at hA ⊢
  refine (historyOf_any ls sa _ cap bs ka _ kc W0 rfl rfl (hd.below hA) (hk.below hA) (hT.below hA)).mono ?_
  intro e w1 hO
  have hb1 := hO.below
  have hB1 := hA.trans (hb1.mono hA.size)
  rcases hO.out with ⟨ec, he, hec⟩ | ⟨h1, h2, ra, rc, sts, he, hH, hM, hat, hnw⟩
  · subst he
    dsimp only
    have hne : (ec != 0) = true := by
      rcases hec with h | h
      · rw [h.2]; rfl
      · rw [h.2.2]; rfl
    have HE : Hid _ := hec
    clear hec hO
    go_wp2_with fail
    go_ret2
    exact ⟨hB1, .inl ⟨ec, rfl, HE.out⟩⟩
  · subst he
    dsimp only
    have hlen : sts.length ≤ 400 := by have := hist_small hH h1; rwa [List.length_map] at this
    have HX : Hid (dagF (cvs ls) = 0 ∧ 0 ≤ pOf (cvs ls) bs ∧ HistIs (cvs ls) bs (sts.map (·.c.v)) ∧ (∀ s ∈ sts, s.c ∈ ls ∧ s.p.bs = s.c.v.d) ∧ ∀ s ∈ sts, ∀ b so, s.p.sa = some ⟨b, so, none⟩ → w.heap.size ≤ b) := ⟨h1, h2, hH, hM, fun s hs b so e => Nat.le_trans hA.size (hnw s hs b so e)⟩
    clear h1 h2 hH hM hnw hO hd hk hT
    go_wp2_with (at_make; refine wpList_make_own _ rfl _ _ 44 rfl w1.heap.size 46 i (.slice none 0 0) 1 Tryd.underlying44 hi hz0 hz1 .i64 .i64 _ sts.length rfl rfl (by go_num) (by rw [hz2]; omega) (by unfold maxLen; omega) (Nat.le_refl _) ?_; intro w2 ho2 hg2)
    have hb2 : Below w1.heap.size w1 w2 := grown_none hg2
    go_wp2_with fail
    go_loopw [25, 8] (fun j v wr => ∃ m : Nat, m ≤ sts.length ∧ j = .int .i64 m ∧ wr.ownsRow w1.heap.size 46 1 v m (pv ((sts.take m).map HSt.p)) ∧ Below w1.heap.size w1 wr) (fun j _ _ => sts.length - (intOf j).toNat)
    case atStart => exact ⟨0, Nat.zero_le _, rfl, ho2, hb2⟩
    case round =>
      clear ho2 hg2 hb2
      obtain ⟨m, hm, rfl, ho, hb⟩ := hrel
      by_cases hlt : m < sts.length
      · have hltI : (m : Int) < sts.length := by omega
        obtain ⟨sb, so, rfl, hc⟩ : ∃ sb so, ra = some ⟨sb, so, none⟩ ∧ _ := by
          rcases (hat.below hb).cells with h | h
          · rw [h] at hlt; simp at hlt
          · exact h
        obtain ⟨c0, c1, c2, c3, c4⟩ := hc m hlt
        have HST : Hid (pv ((sts.take (m + 1)).map HSt.p) = pv ((sts.take m).map HSt.p) ++ [.slice (sts[m]).p.sa (sts[m]).p.bs.length (sts[m]).p.cap]) := by
          show _ = _
          rw [List.take_succ_eq_append_getElem hlt, List.map_append]
          simp [pv, Part.val]
        clear hc
        generalize sts[m] = s at c0 c1 c2 c3 c4 HST
        generalize pv ((sts.take m).map HSt.p) = PS at ho HST
        have hA2 := (Below.refl wr.heap.size wr).alloc (Nat.le_refl _) (.cells #[.int .i64 s.c.au, .int .i64 s.c.rd, .slice s.c.ba s.c.bl.length s.c.bc, .slice s.c.pa s.c.pl.length s.c.pc, .slice s.p.sa s.p.bs.length s.p.cap] 91)
        have q0 := heap_alloc_new wr (.cells #[.int .i64 s.c.au, .int .i64 s.c.rd, .slice s.c.ba s.c.bl.length s.c.bc, .slice s.c.pa s.c.pl.length s.c.pc, .slice s.p.sa s.p.bs.length s.p.cap] 91)
        have ho2 := World.ownsRow.alloc ho (.cells #[.int .i64 s.c.au, .int .i64 s.c.rd, .slice s.c.ba s.c.bl.length s.c.bc, .slice s.c.pa s.c.pl.length s.c.pc, .slice s.p.sa s.p.bs.length s.p.cap] 91)
        go_upto_region 8 with fail
        generalize wr.alloc (.cells #[.int .i64 s.c.au, .int .i64 s.c.rd, .slice s.c.ba s.c.bl.length s.c.bc, .slice s.c.pa s.c.pl.length s.c.pc, .slice s.p.sa s.p.bs.length s.p.cap] 91) = W3 at hA2 q0 ho2 ⊢
        have k4 := cells_at q0 4 _ rfl
        have hB3 := hb.trans (hA2.mono hb.size)
        clear c0 c1 c2 c3 c4
        go_wp2_with (at_builtin; refine wpList_append_own_at _ rfl _ _ 44 rfl w1.heap.size 46 i (.slice none 0 0) 1 24 Tryd.underlying44 hi hz0 hz1 hz2 rfl (by decide) _ m _ rfl (World.ownsRow.alloc ho2 _) ⟨W3.heap.size, 0, none⟩ 1 1 [.slice s.p.sa s.p.bs.length s.p.cap] rfl rfl (cells_new _ _ _) (by intro u hu; simp at hu; subst hu; rfl) (by unfold maxLen; omega) (by omega) (le_alloc hB3.size _) ?_; intro v5 w5 ho5 hg5 _ hat5)
        have hB5 := Below.grown (hB3.alloc hB3.size _) hg5 (le_alloc hB3.size _) (fun q e => (ho2.lt q e).1)
        go_roundw
        case rel => exact ⟨m + 1, by omega, by go_num, by rw [HST.out]; exact ho5, hB5⟩
        case measure => simp [intOf]; omega
      · obtain rfl : m = sts.length := by omega
        rw [List.take_length] at ho
        have hBr := hB1.trans (hb.mono hB1.size)
        go_wp2_with fail
        go_ret2
        obtain ⟨g1, g2, g3, g4, g5⟩ := HX.out
        have hap : Apart wr w.heap.size _ (sts.map HSt.p) := fun p hp => by
          obtain ⟨s, hs, rfl⟩ := List.mem_map.1 hp
          have hsl := hat.each s hs
          have h32 : s.p.bs.length = 32 := by rw [(g4 s hs).2, CV.d_length]
          refine ⟨hsl.below hb, fun sb so e => ?_⟩
          have hlt : sb < w1.heap.size := by
            rcases hsl.bytes with h | ⟨sb', so', e', h⟩
            · rw [h] at h32; simp at h32
            · rw [e] at e'; cases e'
              exact block_lt_of_cell (h 0 (by omega))
          have := hb.size
          exact ⟨g5 s hs sb so e, by omega, fun h => by have := (ho.lt sb h).1; omega⟩
        obtain ⟨xa, xc, hv, hl, hL, hFr⟩ := listAt_of_owns (own_wideO ho hB1.size) hap
        subst hv
        refine ⟨hBr, .inr ⟨g1, g2, xa, xc, sts.map HSt.p, sts.map (·.c.v), by rw [List.length_map]; rfl, g3, ?_, hL (by omega), hFr⟩⟩
        rw [bss, List.map_map, List.map_map]
        exact List.map_congr_left (fun s hs => (g4 s hs).2)
end Go.Proofs.YtbmodfegcmaieaaDoor

namespace Go.Proofs.YtbmodfegcmaieaaDoor
open Go.RowKit

set_option maxRecDepth 100000 in
theorem coll_or {l : List CV} (h : dagF l = 0) : OneD l ∨ Coll l := by
  rcases oneD_or h with h1 | ⟨K, I, h1, h2, h3, h4⟩
  · exact .inl h1
  · exact .inr ⟨K, I, h1, h2, h3, fun g => h4 ⟨g.1, g.2.1⟩⟩
/-- What the list of a history has. -/
structure HisG (l : List CV) (k : List Int) (qs : List Part) (hs : List CV) : Prop where
  hist : HistIs l k hs
  digs : bss qs = hs.map CV.d
set_option maxRecDepth 100000 in
theorem HisG.len {l : List CV} {k : List Int} {qs : List Part} {hs : List CV} (h : HisG l k qs hs) : qs.length = hs.length := by
  have := congrArg List.length h.digs
  simpa [bss] using this
set_option maxRecDepth 100000 in
theorem HisG.bs {l : List CV} {k : List Int} {qs : List Part} {hs : List CV} (h : HisG l k qs hs) {m : Nat} (hm : m < qs.length) : (qs[m]).bs = (cvAt hs m).d := by
  have hm2 : m < hs.length := by rw [← h.len]; exact hm
  have h1 : (bss qs).getD m [] = (hs.map CV.d).getD m [] := by rw [h.digs]
  rw [bss_get qs m hm] at h1
  rw [h1]
  simp [cvAt, hm2]
set_option maxRecDepth 100000 in
theorem HisG.at {l : List CV} {k : List Int} {qs : List Part} {hs : List CV} (h : HisG l k qs hs) {m : Nat} (hm : m < qs.length) : ∃ j, j < l.length ∧ sel l k j ∧ cvAt hs m = cvAt l j ∧ (qs[m]).bs = (cvAt l j).d := by
  have hm2 : m < hs.length := by rw [← h.len]; exact hm
  obtain ⟨j, h1, h2, h3⟩ := (h.hist.mem _).1 (cvAt_mem hm2)
  exact ⟨j, h1, h2, h3, by rw [h.bs hm, h3]⟩
set_option maxRecDepth 100000 in
theorem hist_up {hs : List CV} {l : List CV} {k : List Int} (h : HistIs l k hs) {a b : Nat} (hab : a < b) (hb : b < hs.length) : (cvAt hs a).rd < (cvAt hs b).rd ∨ ((cvAt hs a).rd = (cvAt hs b).rd ∧ (cvAt hs a).au < (cvAt hs b).au) := by
  have := (List.pairwise_iff_getElem.1 h.up) a b (by omega) hb hab
  have e1 : cvAt hs a = hs[a] := by simp [cvAt, show a < hs.length by omega]
  have e2 : cvAt hs b = hs[b] := by simp [cvAt, hb]
  rw [e1, e2]
  exact cmpRA_kRA.1 this
set_option maxRecDepth 100000 in
/-- The parents of what a history has stand ahead in it. -/
theorem hist_parent {l : List CV} (h : dagF l = 0) (ho : OneD l) {k : List Int} {hs : List CV} (H : HistIs l k hs) {m : Nat} (hm : m < hs.length) {p : List Int} (hp : p ∈ (cvAt hs m).pl) : ∃ j, j < m ∧ bstr (cvAt hs j).d = bstr p := by
  obtain ⟨i, h1, h2, h3⟩ := (H.mem _).1 (cvAt_mem hm)
  rw [h3] at hp
  obtain ⟨q, q1, q2, q3⟩ := parent_at h h1 hp
  have hq : q < l.length := by omega
  obtain ⟨_, hs2, _⟩ := sel_parent h ho h1 hq h2 hp q2
  have hin : cvAt l q ∈ hs := (H.mem _).2 ⟨q, hq, hs2, rfl⟩
  obtain ⟨j, hj, e⟩ := List.getElem_of_mem hin
  have e1 : cvAt hs j = cvAt l q := by rw [← e]; simp [cvAt, hj]
  refine ⟨j, ?_, by rw [e1]; exact q2⟩
  rcases Nat.lt_or_ge j m with g | g
  · exact g
  · rcases Nat.lt_or_ge m j with g2 | g2
    · have := hist_up H g2 hj
      rw [e1, h3] at this
      omega
    · obtain rfl : j = m := by omega
      rw [e1] at h3
      rw [h3] at q3; omega
set_option maxRecDepth 100000 in
theorem atF_some {hs : List CV} {p : List Int} {j : Nat} (hj : j < hs.length) (h : bstr (cvAt hs j).d = bstr p) : 0 ≤ atF (hs.map CV.d) p := by
  rw [atF_pOf]
  rcases Int.lt_or_le (pOf hs p) 0 with g | g
  · have := fidx_no _ _ g j hj
    rw [dHit, txL_bstr.2 h] at this
    simp at this
  · exact g
set_option maxRecDepth 100000 in
theorem bss_take (ds : List Part) (i : Nat) : bss (ds.take i) = (bss ds).take i := by simp [bss, List.map_take]
set_option maxRecDepth 100000 in
theorem atF_take {hs : List CV} {p : List Int} {m j : Nat} (hm : m ≤ hs.length) (hj : j < m) (h : bstr (cvAt hs j).d = bstr p) : 0 ≤ atF ((hs.map CV.d).take m) p := by
  rw [← List.map_take]
  refine atF_some (j := j) (by rw [List.length_take]; omega) ?_
  rw [cvAt_take hs m j hj]; exact h
set_option maxRecDepth 100000 in
/-- What History gives for a digest of the dag. -/
theorem his_at (ks : List Ct) (ka : Option Addr) (kc i : Nat) (p : Part) (w : World) (hF : dagF (cvs ks) = 0) (hi : i < ks.length) (hd : DagAt w ka kc ks) (hp : SliceAt w p.sa p.cap p.bs) (hpd : p.bs = (cvAt (cvs ks) i).d) (h32 : p.bs.length = 32) (hT : Tabs w) :
    Calls Tryd.prog 36 #[.agg #[.slice ka ks.length kc], .slice p.sa 32 p.cap] w fun e w' => (∃ (ra : Option Addr) (rc : Nat) (qs : List Part), e = .returned (.tuple #[.slice ra qs.length rc, .int .i64 0]) ∧ ListAt w' ra rc qs ∧ (∃ hs, HisG (cvs ks) (cvAt (cvs ks) i).d qs hs) ∧ Fresh w.heap.size ra qs ∧ 0 < qs.length ∧ qs.length ≤ ks.length) ∧ Below w.heap.size w w' := by
  refine (history_any ks ka _ kc p.bs p.sa 32 p.cap w rfl h32.symm hd hp hT).mono ?_
  intro e w' hO
  have hps := (pOf_self (l := cvs ks) (i := i) (by rw [cvs_length]; exact hi)).1
  rw [hpd] at hO
  refine ⟨?_, hO.below⟩
  rcases hO.out with ⟨ec, _, h | h⟩ | ⟨_, _, ra, rc, ds, hs, he, hH, hb, hL, hf⟩
  · rw [hF] at h; cases h.1
  · omega
  · have hG : HisG (cvs ks) (cvAt (cvs ks) i).d ds hs := ⟨hH, hb⟩
    refine ⟨ra, rc, ds, he, hL, ⟨hs, hG⟩, hf, ?_, ?_⟩
    · rw [hG.len]
      have hin : cvAt (cvs ks) i ∈ hs := (hH.mem _).2 ⟨i, by rw [cvs_length]; exact hi, sel_self (by rw [cvs_length]; exact hi), rfl⟩
      exact List.length_pos_of_mem hin
    · rw [hG.len, ← cvs_length ks]; exact hist_len hH
set_option maxRecDepth 100000 in
/-- What History refuses: what is no digest. -/
theorem his_none (ks : List Ct) (ka : Option Addr) (kc n : Nat) (bs : List Int) (sa : Option Addr) (cap : Nat) (w : World) (hF : dagF (cvs ks) = 0) (hd : DagAt w ka kc ks) (hn : n = bs.length) (hs : SliceAt w sa cap bs) (hu : ∀ x ∈ bs, 0 ≤ x ∧ x ≤ 255) (hl : bs.length ≠ 32) (hT : Tabs w) :
    Calls Tryd.prog 36 #[.agg #[.slice ka ks.length kc], .slice sa n cap] w fun e w' => e = .returned (.tuple #[.slice none 0 0, .int .i64 8]) ∧ Below w.heap.size w w' := by
  refine (history_any ks ka _ kc bs sa n cap w rfl hn hd hs hT).mono ?_
  intro e w' hO
  have hps := pOf_short (l := cvs ks) hu hl
  refine ⟨?_, hO.below⟩
  rcases hO.out with ⟨ec, he, h | h⟩ | ⟨_, h2, _⟩
  · rw [hF] at h; cases h.1
  · rw [he, h.2.2]
  · omega
end Go.Proofs.YtbmodfegcmaieaaDoor
