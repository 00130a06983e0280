/- Blocks of one certificate in two grown dags. -/
import Derived.Test.YtbmodfegcmaieaaDoorBlockSameM12
import Derived.Test.YtbmodfegcmaieaaDoorQDagP
import Derived.Test.YtbmodfegcmaieaaDoorQKSumB
import Derived.Test.YtbmodfegcmaieaaDoorQSameTx
namespace Go.Proofs.YtbmodfegcmaieaaDoor
open Go.RowKit Go.WideMaps Go.Maps

set_option maxRecDepth 100000 in
/-- The texts of a batch that is there, as they are read. -/
theorem BcAt.txs {w : World} {b : Bc} (h : BcAt w b) : TxsAt w b.ta b.tc b.v.ss := ⟨h.le, h.max, h.nil, h.strs⟩
/-- What txsOf answers. -/
structure TxoO (w w' : World) (e : Ending) (l : List BW) (ds : List (List Int)) : Prop where
  below : Below w.heap.size w w'
  out : (txsH l ds = none ∧ e = .returned (.tuple #[.slice none 0 0, .int .i64 8])) ∨ (∃ t v, txsH l ds = some t ∧ e = .returned (.tuple #[v, .int .i64 0]) ∧ w'.ownsRow w.heap.size 9 1 v t.length (sv t))
set_option maxRecDepth 100000 in
theorem hisB_take {hs : List CV} {m : Nat} (hm : m < hs.length) : hisB (hs.take (m + 1)) = hisB (hs.take m) ++ (hs[m]).bl := by
  rw [hisB, hisB, List.take_succ_eq_append_getElem hm, List.flatMap_append]; simp
set_option maxRecDepth 100000 in
theorem hisB_pre {hs : List CV} {m k : Nat} (hm : m < hs.length) (d : List Int) (hk : k < (hs[m]).bl.length) (hd : (hs[m]).bl.getD k [] = d) : d ∈ hisB hs := by
  rw [hisB_mem]
  refine ⟨hs[m], List.getElem_mem hm, ?_⟩
  rw [← hd]; simp [hk]
set_option maxRecDepth 100000 in
set_option maxHeartbeats 4000000 in
theorem txsOf_any (sts : List HSt) (sa : Option Addr) (n cap mb nb : Nat) (bl : List Bc) (w : World) (hn : n = sts.length) (hl : sts.length ≤ 400) (hat : StsAt w sa sts) (hc : ∀ s ∈ sts, CtAt w s.c ∧ s.c.bl.length ≤ 3) (hown : w.ownsMap Tryd.prog 9 tokE mb nb (heldD bl)) (hF : bsF (bws bl) = 0) (hB : ∀ b ∈ bl, BcAt w b) :
    Calls Tryd.prog 58 #[.slice sa n cap, .map (some mb)] w fun e w' => TxoO w w' e (bws bl) (hisB (sts.map (·.c.v))) := by
  subst hn
  have HS : Hid (∀ W : World, Below w.heap.size w W → StsAt W sa sts ∧ (∀ s ∈ sts, CtAt W s.c ∧ s.c.bl.length ≤ 3) ∧ ∀ b ∈ bl, BcAt W b) := by
    show ∀ W, _
    exact fun W hW => ⟨hat.below hW, fun s hs => ⟨(hc s hs).1.below hW, (hc s hs).2⟩, fun b hb => (hB b hb).below hW⟩
  have HO : Hid (∀ W : World, Below w.heap.size w W → W.ownsMap Tryd.prog 9 tokE mb nb (heldD bl)) := by
    show ∀ W, _
    exact fun W hW => ownsMap_below hown hW
  have HL4 : Hid (∀ b ∈ bws bl, b.ss.length ≤ 4) := by
    show ∀ b ∈ bws bl, _
    intro b hb
    obtain ⟨j, hj, rfl⟩ := List.getElem_of_mem hb
    have h1 := (bsF_zero hF).2 j hj
    simp only [badB, Bool.or_eq_false_iff, decide_eq_false_iff_not, ne_eq, Decidable.not_not] at h1
    have e : (bws bl).getD j ⟨0, 0, []⟩ = (bws bl)[j] := by simp [hj]
    rw [e] at h1
    exact (batchF_ok h1.1).2.2.1.2
  have HF : Hid _ := hF
  have HSM : Hid (∀ m, m ≤ sts.length → (hisB ((sts.map (·.c.v)).take m)).length ≤ 3 * m) := by
    show ∀ m, _
    intro m hm
    have h1 := hisB_length (hs := (sts.map (·.c.v)).take m) (fun c hcm => by
      obtain ⟨s, hs, rfl⟩ := List.mem_map.1 (List.mem_of_mem_take hcm)
      show (bss s.c.bl).length ≤ 3
      rw [bss_length]; exact (hc s hs).2)
    rw [List.length_take, List.length_map] at h1
    omega
  clear hat hc hown hF hB
  go_enter Tryd.func58, Tryd.ntmps58
  go_wp2_with fail
  go_loopw [15, 6] (fun j v wr => ∃ (m : Nat) (t : List ByteArray), m ≤ sts.length ∧ j = .int .i64 m ∧ Hid (txsH (bws bl) (hisB ((sts.map (·.c.v)).take m)) = some t) ∧ wr.ownsRow w.heap.size 9 1 v t.length (sv t) ∧ Below w.heap.size w wr) (fun j _ _ => sts.length - (intOf j).toNat)
  case atStart => exact ⟨0, [], Nat.zero_le _, rfl, (show _ = _ from rfl), World.ownsRow_nil _ _ _ _, Below.refl _ _⟩
  case round =>
    obtain ⟨m, t, hm, rfl, HTX, ho, hb⟩ := hrel
    by_cases hlt : m < sts.length
    · have hltI : (m : Int) < sts.length := by omega
      obtain ⟨hatr, hcr, hBr⟩ := HS.out wr hb
      obtain ⟨sb, so, rfl, hcc⟩ : ∃ sb so, sa = some ⟨sb, so, none⟩ ∧ _ := by
        rcases hatr.cells with h | h
        · rw [h] at hlt; simp at hlt
        · exact h
      obtain ⟨c0, c1, c2, c3, c4⟩ := hcc m hlt
      have HCT : Hid (∀ W : World, Below w.heap.size w W → CtAt W (sts[m]).c) := by
        show ∀ W, _
        exact fun W hW => ((HS.out W hW).2.1 _ (List.getElem_mem hlt)).1
      have hbl3 := (hcr _ (List.getElem_mem hlt)).2
      have hmv : m < (sts.map (·.c.v)).length := by simpa using hlt
      have HTK : Hid (hisB ((sts.map (·.c.v)).take (m + 1)) = hisB ((sts.map (·.c.v)).take m) ++ bss (sts[m]).c.bl) := by
        show _ = _
        rw [hisB_take hmv]; simp [Ct.v]
      have HIN : Hid (∀ k, k < (sts[m]).c.bl.length → (bss (sts[m]).c.bl).getD k [] ∈ hisB (sts.map (·.c.v))) := by
        show ∀ k, _
        intro k hk
        refine hisB_pre hmv _ (k := k) ?_ ?_
        · simpa [Ct.v, bss] using hk
        · simp [Ct.v]
      clear hcc hatr hcr hBr
      generalize sts[m] = s at c0 c1 c2 c3 c4 HCT hbl3 HTK HIN
      have hA2 := (Below.refl wr.heap.size wr).alloc (Nat.le_refl _) (.cells #[.int .i64 s.c.au, .int .i64 s.c.rd, .slice s.c.ba s.c.bl.length s.c.bc, .slice s.c.pa s.c.pl.length s.c.pc, .slice s.p.sa s.p.bs.length s.p.cap] 91)
      have q0 := heap_alloc_new wr (.cells #[.int .i64 s.c.au, .int .i64 s.c.rd, .slice s.c.ba s.c.bl.length s.c.bc, .slice s.c.pa s.c.pl.length s.c.pc, .slice s.p.sa s.p.bs.length s.p.cap] 91)
      have ho2 := World.ownsRow.alloc ho (.cells #[.int .i64 s.c.au, .int .i64 s.c.rd, .slice s.c.ba s.c.bl.length s.c.bc, .slice s.c.pa s.c.pl.length s.c.pc, .slice s.p.sa s.p.bs.length s.p.cap] 91)
      go_upto_region 5 with fail
      generalize wr.alloc (.cells #[.int .i64 s.c.au, .int .i64 s.c.rd, .slice s.c.ba s.c.bl.length s.c.bc, .slice s.c.pa s.c.pl.length s.c.pc, .slice s.p.sa s.p.bs.length s.p.cap] 91) = W2 at hA2 q0 ho2 ⊢
      have k2 := cells_at q0 2 _ rfl
      have hB2 := hb.trans (hA2.mono hb.size)
      clear c0 c1 c2 c3 c4 ho
      go_wp2_with fail
      go_loopw [23, 6] (fun j v wi => ∃ (k : Nat) (t : List ByteArray), k ≤ s.c.bl.length ∧ j = .int .i64 k ∧ Hid (txsH (bws bl) (hisB ((sts.map (·.c.v)).take m) ++ (bss s.c.bl).take k) = some t) ∧ wi.ownsRow w.heap.size 9 1 v t.length (sv t) ∧ Below w.heap.size w wi) (fun j _ _ => s.c.bl.length - (intOf j).toNat)
      case atStart => exact ⟨0, t, Nat.zero_le _, rfl, (show _ = _ by rw [List.take_zero, List.append_nil]; exact HTX.out), ho2, hB2⟩
      case round =>
        clear ho2 k2 HTX
        obtain ⟨k, t, hk, rfl, HTX, ho, hbi⟩ := hrel
        by_cases hlk : k < s.c.bl.length
        · have hltk : (k : Int) < s.c.bl.length := by omega
          have hLB := (HCT.out _ hbi).hat.lb
          obtain ⟨pb, po, hpa, hcc⟩ : ∃ pb po, s.c.ba = some ⟨pb, po, none⟩ ∧ ∀ j (h : j < s.c.bl.length), _ := by
            rcases hLB.parts.cells with h | h
            · rw [h] at hlk; simp at hlk
            · exact h
          have ck := hcc k hlk
          have hxp := hLB.parts.each (s.c.bl[k]) (List.getElem_mem hlk)
          have HNX : Hid (txsH (bws bl) (hisB ((sts.map (·.c.v)).take m) ++ (bss s.c.bl).take (k + 1)) = (bOf (bws bl) (s.c.bl[k]).bs).map (fun b => t ++ b.ss)) := by
            show _ = _
            have e : (bss s.c.bl).take (k + 1) = (bss s.c.bl).take k ++ [(s.c.bl[k]).bs] := by
              rw [List.take_succ_eq_append_getElem (by rw [bss_length]; exact hlk)]
              simp [bss]
            rw [e, ← List.append_assoc]
            exact txsH_snoc _ _ _ _ HTX.out
          have HI : Hid ((s.c.bl[k]).bs ∈ hisB (sts.map (·.c.v))) := by
            have := HIN.out k hlk
            rwa [bss_get _ _ hlk] at this
          clear hcc hLB
          generalize s.c.bl[k] = p at ck hxp HNX HI
          have htx := run_text _ p.sa p.bs.length p.cap p.bs rfl hxp
          have hkey : keyOf Tryd.prog 9 (.string (bstr p.bs)) = some (keyS (bstr p.bs)) := keyOf_string_mk Tryd.underlying9 (by rw [bstr_sz]; exact Nat.le_trans hxp.le hxp.max)
          have hown := HO.out _ hbi
          have hBA := (HS.out _ hbi).2.2
          have hT4 : t.length ≤ 6000 := by
            have h1 := txsH_length HL4.out HTX.out
            rw [List.length_append, List.length_take] at h1
            have h2 := HSM.out m (by omega)
            omega
          rw [hpa]
          obtain ⟨WI, hWI⟩ : ∃ WI, WI = wr := ⟨_, rfl⟩
          subst hWI
          cases hbc : bcOf bl p.bs with
          | none =>
            have hn : hasB (bws bl) p.bs = false := by
              have h1 := bcOf_bOf bl p.bs
              rw [hbc] at h1
              exact bOf_none.1 h1.symm
            have HB : Hid (Maps.has (heldD bl) (keyS (bstr p.bs)) = false) := by show _ = _; rw [held_has]; exact hn
            have HAT : Hid (∀ z, (heldD bl).atKey (keyS (bstr p.bs)) z = z) := fun z => held_none hn z
            have HNO : Hid (txsH (bws bl) (hisB (sts.map (·.c.v))) = none) := txsH_none _ _ _ HI.out (bOf_none.2 hn)
            clear hbc hn HNX HI HTX
            generalize heldD bl = D at hown HB HAT
            go_wp2_with (at_lookup; refine wpList_lookup_tok _ rfl _ _ 37 rfl 9 42 keyT Tryd.underlying37 (zeroB _) mb nb _ rfl hown _ _ rfl hkey _ (HAT.out _) ?_; rw [HB.out])
            go_ret2
            exact ⟨hbi.alloc hbi.size _, .inl ⟨HNO.out, rfl⟩⟩
          | some b =>
            have hbm : b ∈ bl := List.mem_of_find?_eq_some hbc
            have hbv : bOf (bws bl) p.bs = some b.v := by rw [← bcOf_bOf, hbc]; rfl
            have HB : Hid (Maps.has (heldD bl) (keyS (bstr p.bs)) = true) := by show _ = _; rw [held_has, ← bOf_some, hbv]; rfl
            have HAT : Hid (∀ z, (heldD bl).atKey (keyS (bstr p.bs)) z = .held (.agg #[.int .i64 b.v.au, .int .i64 b.v.nu, .slice b.ta b.v.ss.length b.tc])) := fun z => held_at z _ (bsF_apart HF.out) b hbc
            have HN2 : Hid (txsH (bws bl) (hisB ((sts.map (·.c.v)).take m) ++ (bss s.c.bl).take (k + 1)) = some (t ++ b.v.ss)) := by show _ = _; rw [HNX.out, hbv]; rfl
            have hbt := (hBA b hbm).txs
            have hb4 : b.v.ss.length ≤ 4 := HL4.out _ (List.mem_map.2 ⟨b, hbm, rfl⟩)
            clear hbc hbv hBA HNX HTX HI
            generalize heldD bl = D at hown HB HAT
            go_upto_region 11 with (at_lookup; refine wpList_lookup_tok _ rfl _ _ 37 rfl 9 42 keyT Tryd.underlying37 (zeroB _) mb nb _ rfl hown _ _ rfl hkey _ (HAT.out _) ?_; rw [HB.out])
            have hA4 := (Below.refl WI.heap.size WI).alloc (Nat.le_refl _) (.cells #[.int .i64 b.v.au, .int .i64 b.v.nu, .slice b.ta b.v.ss.length b.tc] 42)
            have q4 := heap_alloc_new WI (.cells #[.int .i64 b.v.au, .int .i64 b.v.nu, .slice b.ta b.v.ss.length b.tc] 42)
            have ho4 := World.ownsRow.alloc ho (.cells #[.int .i64 b.v.au, .int .i64 b.v.nu, .slice b.ta b.v.ss.length b.tc] 42)
            have hbt4 := hbt.below hA4
            generalize WI.alloc (.cells #[.int .i64 b.v.au, .int .i64 b.v.nu, .slice b.ta b.v.ss.length b.tc] 42) = W4 at hA4 q4 ho4 hbt4 ⊢
            have hB4 := hbi.trans (hA4.mono hbi.size)
            have k2 := cells_at q4 2 _ rfl
            clear ck htx hkey hown HB HAT hbt hxp
            go_wp2_with (at_builtin; refine wpList_append_txs rfl _ _ rfl w.heap.size _ t.length t rfl ho4 b.ta _ b.tc b.v.ss rfl rfl hbt4 (by omega) hB4.size ?_; intro v5 w5 ho5 hg5)
            have hB5 := Below.grown hB4 hg5 hB4.size (fun q e => (ho4.lt q e).1)
            go_roundw
            case rel => exact ⟨k + 1, t ++ b.v.ss, by omega, by go_num, HN2, by rw [List.length_append]; exact ho5, hB5⟩
            case measure => simp [intOf]; omega
        · obtain rfl : k = s.c.bl.length := by omega
          have HE : Hid (txsH (bws bl) (hisB ((sts.map (·.c.v)).take (m + 1))) = some t) := by
            show _ = _
            have e : (bss s.c.bl).take s.c.bl.length = bss s.c.bl := List.take_of_length_le (by rw [bss_length]; exact Nat.le_refl _)
            rw [HTK.out, ← HTX.out, e]
          clear HTX
          go_wp2_with fail
          go_roundw
          case rel => exact ⟨m + 1, t, by omega, by go_num, HE, ho, hbi⟩
          case measure => simp [intOf]; omega
    · obtain rfl : m = sts.length := by omega
      have HE : Hid (txsH (bws bl) (hisB (sts.map (·.c.v))) = some t) := by
        show _ = _
        rw [← HTX.out, List.take_of_length_le (by simp)]
      clear HTX
      go_wp2_with fail
      go_ret2
      exact ⟨hb, .inr ⟨t, _, HE.out, rfl, ho⟩⟩
set_option maxRecDepth 100000 in
theorem strs_of_owns {w : World} {B n : Nat} {v : Value} {ss : List ByteArray} (h : w.ownsRow B 9 1 v n (sv ss)) (hz : ∀ s ∈ ss, s.size ≤ maxLen) : ∃ sa cap, v = .slice sa n cap ∧ StrsAt w sa ss := by
  have hl : n = ss.length := by have := h.1; rw [sv_length] at this; omega
  rcases h.2 with ⟨rfl, hn⟩ | ⟨g, cap, cur, rfl, hr⟩
  · obtain rfl : ss = [] := List.eq_nil_of_length_eq_zero (by omega)
    subst hn
    exact ⟨none, 0, rfl, .inl rfl, hz⟩
  · refine ⟨some ⟨g, 0, none⟩, cap, rfl, .inr ⟨g, 0, rfl, fun j hj => ?_⟩, hz⟩
    rw [Nat.zero_add, World.ownsRow.cellAt h j (by omega)]
    simp [sv, hj]
/-- What Block answers. -/
structure BlkO (w w' : World) (e : Ending) (l : List CV) (bl : List BW) (k : List Int) : Prop where
  below : Below w.heap.size w w'
  out : (∃ ec : Int, e = .returned (.tuple #[.slice none 0 0, .int .i64 ec]) ∧ FndE l k ec) ∨ (dagF l = 0 ∧ 0 ≤ pOf l k ∧ ((bsF bl = 12 ∧ e = .returned (.tuple #[.slice none 0 0, .int .i64 12])) ∨ (bsF bl = 0 ∧ ∃ hs, HistIs l k hs ∧ ((txsH bl (hisB hs) = none ∧ e = .returned (.tuple #[.slice none 0 0, .int .i64 8])) ∨ ∃ t v, txsH bl (hisB hs) = some t ∧ e = .returned (.tuple #[v, .int .i64 0]) ∧ w'.ownsRow w.heap.size 9 1 v (onceS [] t).length (sv (onceS [] t))))))
set_option maxRecDepth 100000 in
theorem txsH_small {l : List BW} (hF : bsF l = 0) {ds : List (List Int)} {t : List ByteArray} (h : txsH l ds = some t) : t.length ≤ 4 * ds.length ∧ ∀ s ∈ t, s.size ≤ 20 := by
  have hok : ∀ b ∈ l, b.f = 0 := by
    intro b hb
    obtain ⟨j, hj, rfl⟩ := List.getElem_of_mem hb
    have h1 := (bsF_zero hF).2 j hj
    simp only [badB, Bool.or_eq_false_iff, decide_eq_false_iff_not, ne_eq, Decidable.not_not] at h1
    have e : l.getD j ⟨0, 0, []⟩ = l[j] := by simp [hj]
    rw [e] at h1
    exact h1.1
  refine ⟨txsH_length (fun b hb => (batchF_ok (hok b hb)).2.2.1.2) h, fun s hs => ?_⟩
  obtain ⟨d, _, b, hb, hsb⟩ := (txsH_mem h s).1 hs
  exact ((batchF_ok (hok b (bOf_mem hb).1)).2.2.2 s hsb).2
set_option maxRecDepth 100000 in
set_option maxHeartbeats 4000000 in
theorem block_any (ls : List Ct) (sa : Option Addr) (n cap : Nat) (bl : List Bc) (ba : Option Addr) (bn bc : Nat) (bs : List Int) (ka : Option Addr) (kn kc : Nat) (w : World) (hn : n = ls.length) (hbn : bn = bl.length) (hkn : kn = bs.length) (hd : DagAt w sa cap ls) (hB : BcsAt w ba bl) (hk : SliceAt w ka kc bs) (hT : Tabs w) :
    Calls Tryd.prog 41 #[.agg #[.slice sa n cap], .slice ba bn bc, .slice ka kn kc] w fun e w' => BlkO w w' e (cvs ls) (bws bl) bs := by
  subst hn hbn hkn
  have hA : Below w.heap.size w (w.alloc (.cells #[.slice sa ls.length cap] 51)) := (Below.refl _ _).alloc (Nat.le_refl _) _
  have HW : Hid (∀ W : World, Below w.heap.size w W → DagAt W sa cap ls ∧ BcsAt W ba bl ∧ SliceAt W ka kc bs ∧ Tabs W) := by
    show ∀ W, _
    exact fun W hW => ⟨hd.below hW, hB.below hW, hk.below hW, hT.below hW⟩
  clear hd hB hk hT
  go_enter Tryd.func41, Tryd.ntmps41
  go_wp2_with fail
  generalize w.alloc (.cells #[.slice sa ls.length cap] 51) = W0 at hA ⊢
  obtain ⟨g1, g2, g3, g4⟩ := HW.out W0 hA
  refine (historyOf_any ls sa _ cap bs ka _ kc W0 rfl rfl g1 g3 g4).mono ?_
  clear g1 g2 g3 g4
  intro e w1 hO
  have hb1 := hO.below
  have hB1 := hA.trans (hb1.mono hA.size)
  rcases hO.out with ⟨ec, he, hec⟩ | ⟨h1, h2, ra, rc, sts, he, hH, hM, hat, hnw⟩
  · subst he
    dsimp only
    have hne : (ec != 0) = true := by
      rcases hec with h | h
      · rw [h.2]; rfl
      · rw [h.2.2]; rfl
    have HE : Hid _ := hec
    clear hec hO
    go_wp2_with fail
    go_ret2
    exact ⟨hB1, .inl ⟨ec, rfl, HE.out⟩⟩
  · subst he
    dsimp only
    have hlen : sts.length ≤ 400 := by have := hist_small hH h1; rwa [List.length_map] at this
    have HX : Hid (dagF (cvs ls) = 0 ∧ 0 ≤ pOf (cvs ls) bs ∧ HistIs (cvs ls) bs (sts.map (·.c.v))) := ⟨h1, h2, hH⟩
    have HC : Hid (∀ W : World, Below w.heap.size w W → ∀ s ∈ sts, CtAt W s.c ∧ s.c.bl.length ≤ 3) := by
      show ∀ W, _
      intro W hW s hs
      refine ⟨(HW.out W hW).1.each _ (hM s hs).1, ?_⟩
      have := (f_small (all_f h1 _ (hM s hs).1)).1
      rwa [show s.c.v.bl = bss s.c.bl from rfl, bss_length] at this
    clear h1 h2 hH hM hnw hO
    obtain ⟨g1, g2, g3, g4⟩ := HW.out w1 hB1
    have HY := byDigest_any bl ba _ bc w1 rfl g2 g4
    clear g1 g2 g3 g4
    go_wp2_with fail
    refine HY.mono ?_
    intro e w2 hO
    have hb2 := hO.below
    have hB2 := hB1.trans (hb2.mono hB1.size)
    rcases hO.out with ⟨h1, he⟩ | ⟨h1, mb, he, _, hown⟩
    · subst he
      dsimp only
      have H1 : Hid _ := h1
      clear h1 hO HY
      go_wp2_with fail
      go_ret2
      exact ⟨hB2, .inr ⟨HX.out.1, HX.out.2.1, .inl ⟨H1.out, rfl⟩⟩⟩
    · subst he
      dsimp only
      have HZ := txsOf_any sts ra _ rc mb _ bl w2 rfl hlen (hat.below hb2) (HC.out w2 hB2) hown h1 (HW.out w2 hB2).2.1.each
      have H1 : Hid _ := h1
      clear h1 hO HY hown
      go_wp2_with fail
      refine HZ.mono ?_
      intro e w3 hO
      have hb3 := hO.below
      have hB3 := hB2.trans (hb3.mono hB2.size)
      rcases hO.out with ⟨h2, he⟩ | ⟨t, v, h2, he, ho⟩
      · subst he
        dsimp only
        have H2 : Hid _ := h2
        clear h2 hO HZ
        go_wp2_with fail
        go_ret2
        exact ⟨hB3, .inr ⟨HX.out.1, HX.out.2.1, .inr ⟨H1.out, _, HX.out.2.2, .inl ⟨H2.out, rfl⟩⟩⟩⟩
      · subst he
        dsimp only
        have H2 : Hid _ := h2
        have hsm := txsH_small H1.out h2
        have hds : (hisB (sts.map (·.c.v))).length ≤ 1200 := by
          have := hisB_length (hs := sts.map (·.c.v)) (fun c hc => by
            obtain ⟨s, hs, rfl⟩ := List.mem_map.1 hc
            show (bss s.c.bl).length ≤ 3
            rw [bss_length]; exact (HC.out w3 hB3 s hs).2)
          rw [List.length_map] at this; omega
        obtain ⟨ta, tc, rfl, hts⟩ : ∃ ta tc, v = .slice ta t.length tc ∧ StrsAt w3 ta t := strs_of_owns ho (fun s hs => by have := hsm.2 s hs; unfold maxLen; omega)
        have HQ := eachOnce_any t ta _ tc w3 rfl (by omega) hts
        clear h2 hO HZ hsm hds ho
        go_wp2_with fail
        refine HQ.mono ?_
        rintro e w4 ⟨u, he, ho4, hb4⟩
        subst he
        dsimp only
        have hB4 := hB3.trans (hb4.mono hB3.size)
        have HS : Hid (w.heap.size ≤ w3.heap.size + 1) := Nat.le_succ_of_le hB3.size
        go_wp2_with fail
        go_ret2
        exact ⟨hB4, .inr ⟨HX.out.1, HX.out.2.1, .inr ⟨H1.out, _, HX.out.2.2, .inr ⟨t, u, H2.out, rfl, own_wideO ho4 HS.out⟩⟩⟩⟩
end Go.Proofs.YtbmodfegcmaieaaDoor

namespace Go.Proofs.YtbmodfegcmaieaaDoor
open Go.RowKit

/-- The authors, of the first n, that have a certificate of that round. -/
def dgA (l : List CV) (rd : Int) : Nat → List Nat
  | 0 => []
  | n + 1 => if 0 ≤ cOf l n rd then dgA l rd n ++ [n] else dgA l rd n
set_option maxRecDepth 100000 in
theorem dgA_map (l : List CV) (rd : Int) (n : Nat) : dgTo l rd n = (dgA l rd n).map (fun (a : Nat) => (cvAt l (cOf l (a : Int) rd).toNat).d) := by
  induction n with
  | zero => rfl
  | succ n ih =>
    rw [dgTo, dgA]
    split
    · rw [ih, List.map_append]; rfl
    · exact ih
set_option maxRecDepth 100000 in
theorem dgA_lt (l : List CV) (rd : Int) (n : Nat) : ∀ a ∈ dgA l rd n, a < n ∧ 0 ≤ cOf l a rd := by
  induction n with
  | zero => intro a ha; cases ha
  | succ n ih =>
    intro a ha
    rw [dgA] at ha
    split at ha
    · rename_i h
      rcases List.mem_append.1 ha with g | g
      · have := ih a g; exact ⟨by omega, this.2⟩
      · obtain rfl : a = n := by simpa using g
        exact ⟨by omega, h⟩
    · have := ih a ha; exact ⟨by omega, this.2⟩
set_option maxRecDepth 100000 in
theorem dgA_rise (l : List CV) (rd : Int) (n : Nat) : (dgA l rd n).Pairwise (· < ·) := by
  induction n with
  | zero => exact List.Pairwise.nil
  | succ n ih =>
    rw [dgA]
    split
    · rw [List.pairwise_append]
      refine ⟨ih, List.pairwise_singleton _ _, fun a ha b hb => ?_⟩
      have hbn : b = n := by simpa using hb
      rw [hbn]
      exact (dgA_lt l rd n a ha).1
    · exact ih
set_option maxRecDepth 100000 in
/-- The m'th digest of a round is that of a certificate of that round, by the m'th author. -/
theorem dgF_at {l : List CV} {rd : Int} {m : Nat} (hm : m < (dgF l rd).length) : ∃ i, i < l.length ∧ (dgF l rd).getD m [] = (cvAt l i).d ∧ (cvAt l i).rd = rd ∧ (cvAt l i).au = ((dgA l rd 4).getD m 0 : Int) := by
  have hl : (dgF l rd).length = (dgA l rd 4).length := by rw [dgF, dgA_map, List.length_map]
  have hm2 : m < (dgA l rd 4).length := by omega
  have ha := dgA_lt l rd 4 _ (List.getElem_mem hm2)
  have hb := cOf_bounds l ((dgA l rd 4)[m] : Int) rd
  have hy := fidx_yes (cHit l ((dgA l rd 4)[m] : Int) rd) l.length ha.2
  simp only [cHit, decide_eq_true_eq] at hy
  refine ⟨(cOf l ((dgA l rd 4)[m] : Int) rd).toNat, by have := ha.2; omega, ?_, hy.2, ?_⟩
  · rw [dgF, dgA_map]; simp [hm2]
  · rw [show (dgA l rd 4).getD m 0 = (dgA l rd 4)[m] by simp [hm2]]
    exact hy.1
/-- The author ahead of the m'th; -1: there is none. -/
def prevA (l : List CV) (rd : Int) (m : Nat) : Int := if m = 0 then -1 else ((dgA l rd 4).getD (m - 1) 0 : Int)
set_option maxRecDepth 100000 in
theorem prevA_lt {l : List CV} {rd : Int} {m : Nat} (hm : m < (dgF l rd).length) : prevA l rd m < ((dgA l rd 4).getD m 0 : Int) := by
  have hl : (dgF l rd).length = (dgA l rd 4).length := by rw [dgF, dgA_map, List.length_map]
  rw [prevA]
  split
  · omega
  · have hm2 : m < (dgA l rd 4).length := by omega
    have hp := List.pairwise_iff_getElem.1 (dgA_rise l rd 4) (m - 1) m (by omega) hm2 (by omega)
    rw [show (dgA l rd 4).getD (m - 1) 0 = (dgA l rd 4)[m - 1] by simp [show m - 1 < (dgA l rd 4).length by omega], show (dgA l rd 4).getD m 0 = (dgA l rd 4)[m] by simp [hm2]]
    exact_mod_cast hp
end Go.Proofs.YtbmodfegcmaieaaDoor

namespace Go.Proofs.YtbmodfegcmaieaaDoor
open Go.RowKit

set_option maxRecDepth 100000 in
/-- The batches of a grown dag, as Block reads them. -/
theorem bws_bc (bl : List Bt) : bws (bl.map Bt.bc) = bcv bl := by simp [bws, bcv, Bt.bc]
/-- What is told of the batches of a grown dag. -/
structure BatG (l : List CV) (bl : List BW) : Prop where
  ok : bsF bl = 0 ∨ CollB bl
  has : ∀ c ∈ l, ∀ d ∈ c.bl, hasB bl d = true
  f : ∀ b ∈ bl, b.f = 0
  nums : bl.Pairwise (fun a b => a.nu < b.nu)
  len : bl.length ≤ 60
set_option maxRecDepth 100000 in
theorem batG_of {l : List Stp} {k : Nat} {c : List CV} (hG : GrownTo l k c) (hk : k ≤ 24) : BatG c ((bvTo l k).map BV.w) := by
  have hf : ∀ b ∈ (bvTo l k).map BV.w, b.f = 0 := fun b hb => by
    obtain ⟨x, hx, rfl⟩ := List.mem_map.1 hb
    exact bvTo_f (by omega) x hx
  have hn : ((bvTo l k).map BV.w).Pairwise (fun a b => a.nu < b.nu) := by
    rw [List.pairwise_map]; exact bvTo_nums l k
  have hl : ((bvTo l k).map BV.w).length ≤ 60 := by rw [List.length_map]; have := bvTo_length l k; omega
  refine ⟨bsF_or_coll (by omega) hf hn, fun x hx d hd => ?_, hf, hn, hl⟩
  obtain ⟨b, hb, rfl⟩ := hG.batches x hx d hd
  exact List.any_eq_true.2 ⟨b.w, List.mem_map.2 ⟨b, hb, rfl⟩, by simp [BV.w_d]⟩
/-- What Block answers for a digest of the dag. -/
def BlkR (w : World) (l : List CV) (bl : List BW) (k : List Int) (xa : Option Addr) (N : Nat) (ec : Int) : Prop :=
  (ec = 0 ∧ bsF bl = 0 ∧ ∃ hs t, HistIs l k hs ∧ txsH bl (hisB hs) = some t ∧ N = (onceS [] t).length ∧ StrsAt w xa (onceS [] t)) ∨ (ec = 12 ∧ CollB bl ∧ N = 0)
set_option maxRecDepth 100000 in
theorem BlkR.below {w w' : World} {l : List CV} {bl : List BW} {k : List Int} {xa : Option Addr} {N : Nat} {ec : Int} (h : BlkR w l bl k xa N ec) (hb : Below w.heap.size w w') : BlkR w' l bl k xa N ec := by
  rcases h with ⟨h1, h2, hs, t, h3, h4, h5, h6⟩ | h
  · exact .inl ⟨h1, h2, hs, t, h3, h4, h5, h6.below hb⟩
  · exact .inr h
set_option maxRecDepth 100000 in
theorem hisB_has {l : List CV} {bl : List BW} (hG : BatG l bl) {k : List Int} {hs : List CV} (H : HistIs l k hs) : ∃ t, txsH bl (hisB hs) = some t := by
  refine txsH_some (fun d hd => ?_)
  obtain ⟨c, hc, hd2⟩ := hisB_mem.1 hd
  obtain ⟨j, h1, _, h3⟩ := (H.mem _).1 hc
  rw [bOf_some]
  exact hG.has _ (cvAt_mem h1) _ (by rw [← h3]; exact hd2)
set_option maxRecDepth 100000 in
theorem once_small {l : List CV} (hF : dagF l = 0) (h24 : l.length ≤ 24) {bl : List BW} (hB : bsF bl = 0) {k : List Int} {hs : List CV} (H : HistIs l k hs) {t : List ByteArray} (ht : txsH bl (hisB hs) = some t) : (onceS [] t).length ≤ 288 ∧ ∀ s ∈ onceS [] t, s.size ≤ 20 := by
  obtain ⟨h1, h2⟩ := txsH_small hB ht
  have h3 := hisB_length (hs := hs) (fun c hc => by
    obtain ⟨j, j1, _, j3⟩ := (H.mem _).1 hc
    rw [j3]; exact (f_small (dagF_f hF j j1)).1)
  have h4 := hist_len H
  have h5 := onceS_len t []
  simp only [List.length_nil, Nat.zero_add] at h5
  exact ⟨by omega, fun s hs => h2 s ((onceS_iff t s).1 hs)⟩
set_option maxRecDepth 100000 in
theorem blk_at (ks : List Ct) (ka : Option Addr) (kc i : Nat) (bl : List Bc) (ba : Option Addr) (bn bc : Nat) (p : Part) (w : World) (hF : dagF (cvs ks) = 0) (h24 : ks.length ≤ 24) (hi : i < ks.length) (hd : DagAt w ka kc ks) (hbn : bn = bl.length) (hb : BcsAt w ba bl) (hG : BatG (cvs ks) (bws bl)) (hp : SliceAt w p.sa p.cap p.bs) (hpd : p.bs = (cvAt (cvs ks) i).d) (h32 : p.bs.length = 32) (hT : Tabs w) :
    Calls Tryd.prog 41 #[.agg #[.slice ka ks.length kc], .slice ba bn bc, .slice p.sa 32 p.cap] w fun e w' => (∃ (xa : Option Addr) (N xc : Nat) (ec : Int), e = .returned (.tuple #[.slice xa N xc, .int .i64 ec]) ∧ BlkR w' (cvs ks) (bws bl) (cvAt (cvs ks) i).d xa N ec ∧ N ≤ 288) ∧ Below w.heap.size w w' := by
  refine (block_any ks ka _ kc bl ba bn bc p.bs p.sa 32 p.cap w rfl hbn h32.symm hd hb hp hT).mono ?_
  intro e w' hO
  have hps := (pOf_self (l := cvs ks) (i := i) (by rw [cvs_length]; exact hi)).1
  rw [hpd] at hO
  refine ⟨?_, hO.below⟩
  rcases hO.out with ⟨ec, _, h | h⟩ | ⟨_, _, ⟨h12, he⟩ | ⟨h0, hs, hH, ⟨hno, _⟩ | ⟨t, v, ht, he, ho⟩⟩⟩
  · rw [hF] at h; cases h.1
  · omega
  · refine ⟨none, 0, 0, 12, he, .inr ⟨rfl, ?_, rfl⟩, by omega⟩
    rcases hG.ok with g | g
    · rw [g] at h12; cases h12
    · exact g
  · obtain ⟨t, ht⟩ := hisB_has hG hH
    rw [ht] at hno; cases hno
  · have hsm := once_small hF (by rw [cvs_length]; exact h24) h0 hH ht
    obtain ⟨xa, xc, rfl, hst⟩ := strs_of_owns ho (fun s hs => by have := hsm.2 s hs; unfold maxLen; omega)
    exact ⟨xa, _, xc, 0, he, .inl ⟨rfl, h0, hs, t, hH, ht, rfl, hst⟩, hsm.1⟩
set_option maxRecDepth 100000 in
theorem parentsF_one {rd : Int} {n : Nat} (h : parentsF rd n = 0) : (rd = 1 → n = 0) ∧ (1 < rd → 3 ≤ n) := by
  unfold parentsF at h
  split at h
  · cases h
  · rename_i g
    simp only [not_or, not_and, Nat.not_lt] at g
    exact ⟨fun e => by have := g.1 e; omega, fun e => by have := g.2 e; omega⟩
set_option maxRecDepth 100000 in
theorem f_parents {c : CV} (h : c.f = 0) : parentsF c.rd c.pl.length = 0 := by
  have h1 := certF_head (vl := c.vl) h
  unfold headerF at h1
  split at h1
  · cases h1
  · split at h1
    · cases h1
    · split at h1
      · contradiction
      · split at h1
        · contradiction
        · rw [show (pz c.pl).length = c.pl.length by simp [pz]] at h1; exact h1
set_option maxRecDepth 100000 in
/-- The first certificate of a dag is of the first round. -/
theorem dag_first {l : List CV} (h : dagF l = 0) (hl : 0 < l.length) : (cvAt l 0).rd = 1 := by
  have hp := parentsF_one (f_parents (dagF_f h 0 hl))
  by_cases h1 : (cvAt l 0).rd = 1
  · exact h1
  · have hr := (f_round (dagF_f h 0 hl)).1
    have := hp.2 (by omega)
    have h2 := (dag_parent h hl (k := 0) (by omega)).1
    have h3 := pOf_bounds (l.take 0) ((cvAt l 0).pl.getD 0 [])
    have e : (l.take 0).length = 0 := by simp
    rw [e] at h3
    omega
set_option maxRecDepth 100000 in
theorem dgA_mem {l : List CV} {rd : Int} {a : Nat} : ∀ n, a < n → 0 ≤ cOf l a rd → a ∈ dgA l rd n
  | 0, h, _ => by omega
  | n + 1, h, hc => by
    rw [dgA]
    rcases Nat.lt_or_ge a n with g | g
    · have := dgA_mem n g hc
      split
      · exact List.mem_append.2 (.inl this)
      · exact this
    · obtain rfl : a = n := by omega
      rw [if_pos hc]; simp
set_option maxRecDepth 100000 in
theorem dgF_first {l : List CV} (h : dagF l = 0) (hl : 0 < l.length) : 0 < (dgF l 1).length := by
  have h1 := dag_first h hl
  have ha := f_author (dagF_f h 0 hl)
  have hc := cOf_at hl
  rw [h1] at hc
  have e : (cvAt l 0).au = (((cvAt l 0).au.toNat : Nat) : Int) := by omega
  rw [e] at hc
  have := dgA_mem (l := l) (rd := 1) 4 (by omega) hc
  rw [dgF, dgA_map, List.length_map]
  exact List.length_pos_of_mem this
set_option maxRecDepth 100000 in
/-- What stands on nothing has itself alone as its history. -/
theorem hist_alone {l : List CV} (h : dagF l = 0) (ho : OneD l) {n : Nat} (hn : n < l.length) (hr : (cvAt l n).rd = 1) {hs : List CV} (H : HistIs l (cvAt l n).d hs) : hs = [cvAt l n] := by
  refine up_ext (fun c => ?_) H.up (List.pairwise_singleton _ _)
  rw [H.mem]
  constructor
  · rintro ⟨j, j1, j2, rfl⟩
    rcases sel_round h ho hn (l.length - j) j (by omega) j1 j2 with g | g
    · subst g; simp
    · have := (f_round (dagF_f h j j1)).1
      omega
  · intro hc
    obtain rfl : c = cvAt l n := by simpa using hc
    exact ⟨n, hn, sel_self hn, rfl⟩
set_option maxRecDepth 100000 in
theorem coll_left {c : List CV} (x : List CV) (h : Coll c) : Coll (c ++ x) := by
  obtain ⟨K, I, h1, h2, h3, h4⟩ := h
  have e : ∀ j, j < c.length → cvAt (c ++ x) j = cvAt c j := fun j hj => by simp [cvAt, List.getD, List.getElem?_append_left hj]
  refine ⟨K, I, h1, by rw [List.length_append]; omega, ?_, ?_⟩
  · rw [e I h2, e K (by omega)]; exact h3
  · rw [e I h2, e K (by omega)]; exact h4
set_option maxRecDepth 100000 in
theorem collB_left {c : List BW} (x : List BW) (h : CollB c) : CollB (c ++ x) := by
  obtain ⟨K, I, h1, h2, h3, h4⟩ := h
  have e : ∀ j, j < c.length → (c ++ x).getD j ⟨0, 0, []⟩ = c.getD j ⟨0, 0, []⟩ := fun j hj => by simp [List.getD, List.getElem?_append_left hj]
  refine ⟨K, I, h1, by rw [List.length_append]; omega, ?_, ?_⟩
  · rw [e I h2, e K (by omega)]; exact h3
  · rw [e I h2, e K (by omega)]; exact h4
end Go.Proofs.YtbmodfegcmaieaaDoor

namespace Go.Proofs.YtbmodfegcmaieaaDoor
open Go.RowKit

set_option maxRecDepth 100000 in
theorem hist_sub {l : List CV} (h : dagF l = 0) (ho : OneD l) {k : List Int} {n : Nat} (hn : n < l.length) (hs : sel l k n) {h1 h2 : List CV} (H1 : HistIs l (cvAt l n).d h1) (H2 : HistIs l k h2) : ∀ c ∈ h1, c ∈ h2 := by
  intro c hc
  obtain ⟨i, i1, i2, rfl⟩ := (H1.mem _).1 hc
  exact (H2.mem _).2 ⟨i, i1, sel_trans h ho hn hs (l.length - i) i (by omega) i1 i2, rfl⟩
set_option maxRecDepth 100000 in
theorem blk_sub {bl : List BW} {h1 h2 : List CV} (h : ∀ c ∈ h1, c ∈ h2) {t1 t2 : List ByteArray} (e1 : txsH bl (hisB h1) = some t1) (e2 : txsH bl (hisB h2) = some t2) : ∀ s ∈ onceS [] t1, s ∈ onceS [] t2 := by
  intro s hs
  rw [onceS_iff] at hs ⊢
  obtain ⟨d, hd, b, hb, hsb⟩ := (txsH_mem e1 s).1 hs
  obtain ⟨c, hc, hdc⟩ := hisB_mem.1 hd
  exact (txsH_mem e2 s).2 ⟨d, hisB_mem.2 ⟨c, h c hc, hdc⟩, b, hb, hsb⟩
set_option maxRecDepth 100000 in
theorem str_eq (x y : ByteArray) : (x.toList == y.toList) = decide (x = y) := by
  rw [Bool.eq_iff_iff]
  simp only [beq_iff_eq, decide_eq_true_eq]
  exact ⟨fun h => ba_ext h, fun h => by rw [h]⟩
set_option maxRecDepth 100000 in
/-- Where a parent of the n'th one stands. -/
theorem parent_of {l : List CV} (h : dagF l = 0) (hu : ∀ x ∈ l, U8C x) {n : Nat} (hn : n < l.length) {p : List Int} (hp : p ∈ (cvAt l n).pl) : ∃ q, q < n ∧ (cvAt l q).d = p := by
  obtain ⟨q, q1, q2, _⟩ := parent_at h hn hp
  exact ⟨q, q1, bstr_inj (CV.d_u8 _) ((hu _ (cvAt_mem hn)).2 p hp) q2⟩
set_option maxRecDepth 100000 in
theorem inO_take {s : ByteArray} {ss : List ByteArray} {k : Nat} (hk : k < ss.length) : inO s (ss.take (k + 1)) = (inO s (ss.take k) || decide (ss[k] = s)) := by
  rw [inO, List.take_succ_eq_append_getElem hk, List.any_append, List.any_cons, List.any_nil, Bool.or_false]
  rfl
end Go.Proofs.YtbmodfegcmaieaaDoor

namespace Go.Proofs.YtbmodfegcmaieaaDoor
open Go.RowKit

def bcl (l : List Bc) : List Value := l.flatMap Bc.cs
set_option maxRecDepth 100000 in
theorem bcl_app (a b : List Bc) : bcl (a ++ b) = bcl a ++ bcl b := by simp [bcl]
set_option maxRecDepth 100000 in
theorem bcl_cons (a : Bc) (b : List Bc) : bcl (a :: b) = a.cs ++ bcl b := by simp [bcl]
set_option maxRecDepth 100000 in
theorem bcl_length (l : List Bc) : (bcl l).length = l.length * 3 := by
  induction l with
  | nil => rfl
  | cons x r ih => rw [bcl_cons, List.length_append, ih]; simp [Bc.cs]; omega
set_option maxRecDepth 100000 in
theorem bcl_get (l : List Bc) (j i : Nat) (h : j < l.length) (hi : i < 3) : (bcl l)[j * 3 + i]? = (l[j]).cs[i]? := by
  induction l generalizing j with
  | nil => cases h
  | cons x r ih =>
    cases j with
    | zero =>
      rw [bcl_cons, Nat.zero_mul, Nat.zero_add, List.getElem?_append_left (by simp [Bc.cs]; exact hi)]; rfl
    | succ j =>
      have h' : j < r.length := by simpa using h
      rw [bcl_cons, List.getElem?_append_right (by simp [Bc.cs]; omega)]
      have e : (j + 1) * 3 + i - x.cs.length = j * 3 + i := by simp [Bc.cs]; omega
      rw [e, ih j h']; rfl
set_option maxRecDepth 100000 in
theorem bc_one (b : Bc) : ∀ u ∈ b.cs, u.oneCell' = true := by
  intro u hu
  simp [Bc.cs] at hu
  rcases hu with rfl | rfl | rfl <;> rfl
set_option maxRecDepth 100000 in
theorem bcl_one (l : List Bc) : ∀ u ∈ bcl l, u.oneCell' = true := by
  intro u hu
  obtain ⟨b, _, h⟩ := List.mem_flatMap.1 hu
  exact bc_one b u h
set_option maxRecDepth 100000 in
theorem bcs_of_owns {w : World} {B n : Nat} {v : Value} {bl : List Bc} (h : w.ownsRow B 42 3 v n (bcl bl)) (he : ∀ b ∈ bl, BcAt w b) : ∃ sa cap, v = .slice sa n cap ∧ n = bl.length ∧ BcsAt w sa bl := by
  have hl : n = bl.length := by have := h.1; rw [bcl_length] at this; omega
  rcases h.2 with ⟨rfl, hn⟩ | ⟨g, cap, cur, rfl, hr⟩
  · have hb : bl = [] := List.eq_nil_of_length_eq_zero (by omega)
    subst hb hn
    exact ⟨none, 0, rfl, hl, ⟨.inl rfl, he⟩⟩
  · refine ⟨some ⟨g, 0, none⟩, cap, rfl, hl, ⟨.inr ⟨g, 0, rfl, fun j hj => ?_⟩, he⟩⟩
    have e : ∀ i, i < 3 → w.cell? ⟨g, 0 + j * 3 + i, none⟩ = (bl[j]).cs[i]? := fun i hi => by rw [show 0 + j * 3 + i = j * 3 + i by omega, World.ownsRow.cellAt h (j * 3 + i) (by omega), bcl_get bl j i hj hi]
    exact ⟨e 0 (by omega), e 1 (by omega), e 2 (by omega)⟩
set_option maxRecDepth 100000 in
theorem bcl_cells {w : World} {sb so : Nat} {bl : List Bc} (h : BcsAt w (some ⟨sb, so, none⟩) bl) : ∀ j u, (bcl bl)[j]? = some u → w.cell? ((⟨sb, so, none⟩ : Addr).add j) = some u := by
  intro j u hu
  have hj : j < bl.length * 3 := by
    rcases Nat.lt_or_ge j (bl.length * 3) with g | g
    · exact g
    · rw [List.getElem?_eq_none (by rw [bcl_length]; exact g)] at hu; cases hu
  rcases h.cells with hb | ⟨sb', so', e, hb⟩
  · subst hb; simp at hj
  · cases e
    have hq : j / 3 < bl.length := by omega
    have hg := bcl_get bl (j / 3) (j % 3) hq (by omega)
    have ej : j / 3 * 3 + j % 3 = j := by omega
    rw [ej, hu] at hg
    obtain ⟨h0, h1, h2⟩ := hb (j / 3) hq
    rw [add_off]
    have hm : j % 3 = 0 ∨ j % 3 = 1 ∨ j % 3 = 2 := by omega
    rcases hm with m | m | m
    · rw [m] at hg
      have e2 : j = j / 3 * 3 := by omega
      rw [e2, h0]; exact hg.symm
    · rw [m] at hg
      have e2 : so + j = so + j / 3 * 3 + 1 := by omega
      rw [e2, h1]; exact hg.symm
    · rw [m] at hg
      have e2 : so + j = so + j / 3 * 3 + 2 := by omega
      rw [e2, h2]; exact hg.symm
set_option maxRecDepth 100000 in
theorem bsF_iff {l : List BW} : bsF l = 0 ↔ l.length ≤ 800 ∧ (∀ b ∈ l, b.f = 0) ∧ l.Pairwise (fun a b => bstr a.d ≠ bstr b.d) := by
  have key : ∀ k, k < l.length → (badB l k = false ↔ (l.getD k ⟨0, 0, []⟩).f = 0 ∧ ∀ j, j < k → bstr (l.getD j ⟨0, 0, []⟩).d ≠ bstr (l.getD k ⟨0, 0, []⟩).d) := by
    intro k hk
    simp only [badB, Bool.or_eq_false_iff, decide_eq_false_iff_not, ne_eq, Decidable.not_not]
    refine and_congr Iff.rfl ?_
    rw [hasB, List.any_eq_false]
    constructor
    · intro h j hj e
      have hm : l.getD j ⟨0, 0, []⟩ ∈ l.take k := by
        rw [List.mem_take_iff_getElem]
        exact ⟨j, by omega, by simp [show j < l.length by omega]⟩
      exact h _ hm (decide_eq_true e)
    · intro h b hb e
      obtain ⟨j, hj, rfl⟩ := List.mem_take_iff_getElem.1 hb
      refine h j (by omega) ?_
      have e2 := of_decide_eq_true e
      simpa [show j < l.length by omega] using e2
  constructor
  · intro h
    obtain ⟨h1, h2⟩ := bsF_zero h
    refine ⟨h1, fun b hb => ?_, ?_⟩
    · obtain ⟨j, hj, rfl⟩ := List.getElem_of_mem hb
      have := ((key j hj).1 (h2 j hj)).1
      simpa [hj] using this
    · rw [List.pairwise_iff_getElem]
      intro i j hi hj hij
      have := ((key j hj).1 (h2 j hj)).2 i hij
      simpa [hi, hj] using this
  · rintro ⟨h1, h2, h3⟩
    refine bsF_ok h1 (fun k hk => (key k hk).2 ⟨?_, fun j hj => ?_⟩)
    · have := h2 (l[k]) (List.getElem_mem hk)
      simpa [hk] using this
    · have := (List.pairwise_iff_getElem.1 h3) j k (by omega) hk hj
      simpa [hk, show j < l.length by omega] using this
set_option maxRecDepth 100000 in
theorem bsF_erase {l : List BW} (h : bsF l = 0) (m : Nat) : bsF (l.eraseIdx m) = 0 := by
  obtain ⟨h1, h2, h3⟩ := bsF_iff.1 h
  have hs := List.eraseIdx_sublist l m
  exact bsF_iff.2 ⟨Nat.le_trans hs.length_le h1, fun b hb => h2 b (hs.subset hb), h3.sublist hs⟩
set_option maxRecDepth 100000 in
theorem bsF_twice {l : List BW} {b : BW} (hb : b ∈ l) : bsF (l ++ [b]) = 12 := by
  rcases bsF_or (l ++ [b]) with h | h
  · obtain ⟨_, _, h3⟩ := bsF_iff.1 h
    rw [List.pairwise_append] at h3
    exact absurd rfl (h3.2.2 b hb b (by simp))
  · exact h
set_option maxRecDepth 100000 in
/-- Without the m'th batch its digest finds nothing, and every other one what it found. -/
theorem hasB_erase {l : List BW} (h : bsF l = 0) {m : Nat} (hm : m < l.length) (d : List Int) : hasB (l.eraseIdx m) d = (hasB l d && !decide (bstr (l.getD m ⟨0, 0, []⟩).d = bstr d)) := by
  obtain ⟨_, _, h3⟩ := bsF_iff.1 h
  rw [List.pairwise_iff_getElem] at h3
  have e : l.getD m ⟨0, 0, []⟩ = l[m] := by simp [hm]
  rw [e, Bool.eq_iff_iff]
  simp only [hasB, List.any_eq_true, Bool.and_eq_true, Bool.not_eq_true', decide_eq_false_iff_not, decide_eq_true_eq]
  constructor
  · rintro ⟨b, hb, hd⟩
    obtain ⟨j, hj, hjm, rfl⟩ := List.mem_eraseIdx_iff_getElem.1 hb
    refine ⟨⟨l[j], List.getElem_mem hj, hd⟩, fun g => ?_⟩
    rcases Nat.lt_or_gt_of_ne hjm with q | q
    · exact h3 j m hj hm q (hd.trans g.symm)
    · exact h3 m j hm hj q (g.trans hd.symm)
  · rintro ⟨⟨b, hb, hd⟩, g⟩
    obtain ⟨j, hj, rfl⟩ := List.getElem_of_mem hb
    exact ⟨l[j], List.mem_eraseIdx_iff_getElem.2 ⟨j, hj, fun q => g (by subst q; exact hd), rfl⟩, hd⟩
/-- Does a history have that batch? -/
def needF (hs : List CV) (d : List Int) : Bool := hs.any fun c => decide (0 ≤ atF c.bl d)
set_option maxRecDepth 100000 in
theorem atF_iff {ls : List (List Int)} {d : List Int} : 0 ≤ atF ls d ↔ ∃ p ∈ ls, bstr p = bstr d := by
  constructor
  · intro h
    have hy := of_decide_eq_true (fidx_yes (fun j => decide (txL (ls.getD j []) = txL d)) ls.length h)
    have hb := (fidx_ge (fun j => decide (txL (ls.getD j []) = txL d)) ls.length).2
    have hl : (atF ls d).toNat < ls.length := by unfold atF at h ⊢; omega
    refine ⟨ls.getD (atF ls d).toNat [], by simp [hl], txL_bstr.1 hy⟩
  · rintro ⟨p, hp, e⟩
    obtain ⟨j, hj, rfl⟩ := List.getElem_of_mem hp
    rcases Int.lt_or_le (atF ls d) 0 with g | g
    · have := fidx_no _ _ g j hj
      have e2 : ls.getD j [] = ls[j] := by simp [hj]
      rw [e2, txL_bstr.2 e] at this
      simp at this
    · exact g
set_option maxRecDepth 100000 in
theorem need_iff {hs : List CV} {d : List Int} : needF hs d = true ↔ ∃ p ∈ hisB hs, bstr p = bstr d := by
  simp only [needF, List.any_eq_true, decide_eq_true_eq]
  constructor
  · rintro ⟨c, hc, h⟩
    obtain ⟨p, hp, e⟩ := atF_iff.1 h
    exact ⟨p, hisB_mem.2 ⟨c, hc, hp⟩, e⟩
  · rintro ⟨p, hp, e⟩
    obtain ⟨c, hc, h⟩ := hisB_mem.1 hp
    exact ⟨c, hc, atF_iff.2 ⟨p, h, e⟩⟩
set_option maxRecDepth 100000 in
/-- The texts of a history without the m'th batch. -/
theorem txs_erase {l : List BW} (h : bsF l = 0) {m : Nat} (hm : m < l.length) {hs : List CV} (hh : ∀ d ∈ hisB hs, hasB l d = true) : (needF hs (l.getD m ⟨0, 0, []⟩).d = true → txsH (l.eraseIdx m) (hisB hs) = none) ∧ (needF hs (l.getD m ⟨0, 0, []⟩).d = false → ∃ t, txsH (l.eraseIdx m) (hisB hs) = some t) := by
  constructor
  · intro hn
    obtain ⟨p, hp, e⟩ := need_iff.1 hn
    refine txsH_none _ _ p hp (bOf_none.2 ?_)
    rw [hasB_erase h hm, e]
    simp
  · intro hn
    refine txsH_some (fun d hd => ?_)
    rw [bOf_some, hasB_erase h hm, hh d hd]
    simp only [Bool.true_and, Bool.not_eq_true', decide_eq_false_iff_not]
    intro e
    rw [need_iff.2 ⟨d, hd, e.symm⟩] at hn; cases hn
/-- What Block answers for a digest of the dag, whatever the batches. -/
def BlkX (l : List CV) (bl : List BW) (k : List Int) (N : Nat) (ec : Int) : Prop :=
  (bsF bl = 12 ∧ ec = 12 ∧ N = 0) ∨ (bsF bl = 0 ∧ ∃ hs, HistIs l k hs ∧ ((txsH bl (hisB hs) = none ∧ ec = 8 ∧ N = 0) ∨ (∃ t, txsH bl (hisB hs) = some t ∧ ec = 0 ∧ N = (onceS [] t).length)))
set_option maxRecDepth 100000 in
theorem blk_gen (ks : List Ct) (ka : Option Addr) (kc i : Nat) (bl : List Bc) (ba : Option Addr) (bn bc : Nat) (p : Part) (w : World) (hF : dagF (cvs ks) = 0) (hi : i < ks.length) (hd : DagAt w ka kc ks) (hbn : bn = bl.length) (hb : BcsAt w ba bl) (hp : SliceAt w p.sa p.cap p.bs) (hpd : p.bs = (cvAt (cvs ks) i).d) (h32 : p.bs.length = 32) (hT : Tabs w) :
    Calls Tryd.prog 41 #[.agg #[.slice ka ks.length kc], .slice ba bn bc, .slice p.sa 32 p.cap] w fun e w' => (∃ (xa : Option Addr) (N xc : Nat) (ec : Int), e = .returned (.tuple #[.slice xa N xc, .int .i64 ec]) ∧ Hid (BlkX (cvs ks) (bws bl) (cvAt (cvs ks) i).d N ec)) ∧ Below w.heap.size w w' := by
  refine (block_any ks ka _ kc bl ba bn bc p.bs p.sa 32 p.cap w rfl hbn h32.symm hd hb hp hT).mono ?_
  intro e w' hO
  have hps := (pOf_self (l := cvs ks) (i := i) (by rw [cvs_length]; exact hi)).1
  rw [hpd] at hO
  refine ⟨?_, hO.below⟩
  rcases hO.out with ⟨ec, _, h | h⟩ | ⟨_, _, ⟨h12, he⟩ | ⟨h0, hs, hH, ⟨hno, he⟩ | ⟨t, v, ht, he, ho⟩⟩⟩
  · rw [hF] at h; cases h.1
  · omega
  · exact ⟨none, 0, 0, 12, he, .inl ⟨h12, rfl, rfl⟩⟩
  · exact ⟨none, 0, 0, 8, he, .inr ⟨h0, hs, hH, .inl ⟨hno, rfl, rfl⟩⟩⟩
  · obtain ⟨xa, xc, rfl⟩ := owns_shape ho
    exact ⟨xa, _, xc, 0, he, .inr ⟨h0, hs, hH, .inr ⟨t, ht, rfl, rfl⟩⟩⟩
set_option maxRecDepth 100000 in
theorem bws_erase : ∀ (l : List Bc) (m : Nat), bws (l.eraseIdx m) = (bws l).eraseIdx m
  | [], m => by cases m <;> rfl
  | x :: r, 0 => rfl
  | x :: r, m + 1 => by
    show x.v :: bws (r.eraseIdx m) = x.v :: (bws r).eraseIdx m
    rw [bws_erase r m]
set_option maxRecDepth 100000 in
theorem bws_at (l : List Bc) (m : Nat) (h : m < l.length) : (bws l).getD m ⟨0, 0, []⟩ = (l[m]).v := by simp [bws, h]
set_option maxRecDepth 100000 in
theorem take_erase {α : Type} (l : List α) (k : Nat) (h : k < l.length) : (l.take (k + 1)).eraseIdx k = (l.take k).eraseIdx k := by
  have hl : (l.take k).length = k := by rw [List.length_take]; omega
  rw [List.take_succ_eq_append_getElem h, List.eraseIdx_append_of_length_le (by omega), List.eraseIdx_of_length_le (l := l.take k) (by omega), hl, Nat.sub_self]
  simp
set_option maxRecDepth 100000 in
theorem take_erase_ne {α : Type} (l : List α) (k m : Nat) (h : k < l.length) (hne : k ≠ m) : (l.take (k + 1)).eraseIdx m = (l.take k).eraseIdx m ++ [l[k]] := by
  have hl : (l.take k).length = k := by rw [List.length_take]; omega
  rw [List.take_succ_eq_append_getElem h]
  rcases Nat.lt_or_gt_of_ne hne with g | g
  · rw [List.eraseIdx_of_length_le (l := l.take k ++ [l[k]]) (by rw [List.length_append, hl]; simp; omega), List.eraseIdx_of_length_le (l := l.take k) (by omega)]
  · rw [List.eraseIdx_append_of_lt_length (by omega)]
set_option maxRecDepth 100000 in
theorem cells_row {w : World} {b : Nat} {t : TypeId} {x : Bc} (h : w.heap[b]? = some (.cells #[.int .i64 x.v.au, .int .i64 x.v.nu, .slice x.ta x.v.ss.length x.tc] t (0, 0))) : ∀ j u, (Bc.cs x)[j]? = some u → w.cell? ((⟨b, 0, none⟩ : Addr).add j) = some u := by
  intro j u hu
  have hj : j < 3 := by
    rcases Nat.lt_or_ge j 3 with g | g
    · exact g
    · rw [List.getElem?_eq_none (by simpa [Bc.cs] using g)] at hu; cases hu
  rw [add_off]
  match j, hj with
  | 0, _ => rw [← hu]; exact cells_at h 0 _ rfl
  | 1, _ => rw [← hu]; exact cells_at h 1 _ rfl
  | 2, _ => rw [← hu]; exact cells_at h 2 _ rfl
end Go.Proofs.YtbmodfegcmaieaaDoor

namespace Go.Proofs.YtbmodfegcmaieaaDoor
open Go.RowKit

set_option maxRecDepth 100000 in
theorem coll_right {c : List CV} (x : List CV) (h : Coll c) : Coll (x ++ c) := by
  obtain ⟨K, I, h1, h2, h3, h4⟩ := h
  have e : ∀ j, cvAt (x ++ c) (x.length + j) = cvAt c j := fun j => by simp [cvAt, List.getD, List.getElem?_append_right]
  refine ⟨x.length + K, x.length + I, by omega, by rw [List.length_append]; omega, ?_, ?_⟩
  · rw [e, e]; exact h3
  · rw [e, e]; exact h4
set_option maxRecDepth 100000 in
theorem collB_right {c : List BW} (x : List BW) (h : CollB c) : CollB (x ++ c) := by
  obtain ⟨K, I, h1, h2, h3, h4⟩ := h
  have e : ∀ j, (x ++ c).getD (x.length + j) ⟨0, 0, []⟩ = c.getD j ⟨0, 0, []⟩ := fun j => by simp [List.getD, List.getElem?_append_right]
  refine ⟨x.length + K, x.length + I, by omega, by rw [List.length_append]; omega, ?_, ?_⟩
  · rw [e, e]; exact h3
  · rw [e, e]; exact h4
set_option maxRecDepth 100000 in
theorem two_or {l m : List CV} (hl : dagF l = 0) (hm : dagF m = 0) (vl : ∀ x ∈ l, x.vl = [0, 1, 2]) (vm : ∀ x ∈ m, x.vl = [0, 1, 2]) : (OneD l ∧ OneD m ∧ OneX l m) ∨ Coll (l ++ m) := by
  rcases coll_or hl with a | a
  · rcases coll_or hm with b | b
    · by_cases hx : OneX l m
      · exact .inl ⟨a, b, hx⟩
      · right
        unfold OneX at hx
        simp only [Classical.not_forall] at hx
        obtain ⟨i, j, hi, hj, hd, hne⟩ := hx
        have e1 : cvAt (l ++ m) i = cvAt l i := by simp [cvAt, List.getD, List.getElem?_append_left hi]
        have e2 : cvAt (l ++ m) (l.length + j) = cvAt m j := by simp [cvAt, List.getD, List.getElem?_append_right]
        refine ⟨i, l.length + j, by omega, by rw [List.length_append]; omega, by rw [e1, e2]; exact hd.symm, ?_⟩
        rw [e1, e2]
        rintro ⟨a1, a2, a3, a4⟩
        refine hne ?_
        have v1 := vl _ (cvAt_mem hi)
        have v2 := vm _ (cvAt_mem hj)
        cases hc : cvAt l i with
        | mk au rd bl pl vv =>
          cases hc2 : cvAt m j with
          | mk au2 rd2 bl2 pl2 vv2 =>
            rw [hc] at a1 a2 a3 a4 v1
            rw [hc2] at a1 a2 a3 a4 v2
            simp only at a1 a2 a3 a4 v1 v2
            rw [a1, a2, a3, a4, v1, v2]
    · exact .inr (coll_right l b)
  · exact .inr (coll_left m a)
set_option maxRecDepth 100000 in
theorem hasB_reverse (l : List BW) (d : List Int) : hasB l.reverse d = hasB l d := by simp [hasB]
set_option maxRecDepth 100000 in
theorem bsF_reverse {l : List BW} (h : bsF l = 0) : bsF l.reverse = 0 := by
  obtain ⟨h1, h2, h3⟩ := bsF_iff.1 h
  refine bsF_iff.2 ⟨by rw [List.length_reverse]; exact h1, fun b hb => h2 b (List.mem_reverse.1 hb), ?_⟩
  rw [List.pairwise_reverse]
  exact h3.imp (fun h e => h e.symm)
set_option maxRecDepth 100000 in
theorem bOf_two {bl el : List BW} {d : List Int} (h1 : hasB bl d = true) (h2 : hasB el d = true) : bOf bl d = bOf el.reverse d ∨ CollB (bl ++ el) := by
  obtain ⟨b1, e1⟩ := Option.isSome_iff_exists.1 (by rw [bOf_some]; exact h1 : (bOf bl d).isSome = true)
  obtain ⟨b2, e2⟩ := Option.isSome_iff_exists.1 (by rw [bOf_some, hasB_reverse]; exact h2 : (bOf el.reverse d).isSome = true)
  by_cases hb : b1 = b2
  · left; rw [e1, e2, hb]
  · right
    obtain ⟨m1, m2⟩ := bOf_mem e1
    obtain ⟨n1, n2⟩ := bOf_mem e2
    obtain ⟨i, hi, r1⟩ := List.getElem_of_mem m1
    obtain ⟨j, hj, r2⟩ := List.getElem_of_mem (List.mem_reverse.1 n1)
    have g1 : (bl ++ el).getD i ⟨0, 0, []⟩ = b1 := by
      rw [List.getD_eq_getElem?_getD, List.getElem?_append_left hi, List.getElem?_eq_getElem hi, r1]; rfl
    have g2 : (bl ++ el).getD (bl.length + j) ⟨0, 0, []⟩ = b2 := by
      rw [List.getD_eq_getElem?_getD, List.getElem?_append_right (by omega), Nat.add_sub_cancel_left, List.getElem?_eq_getElem hj, r2]; rfl
    refine ⟨i, bl.length + j, by omega, by rw [List.length_append]; omega, ?_, ?_⟩
    · rw [g1, g2]; exact bstr_inj (BW.d_u8 _) (BW.d_u8 _) (n2.trans m2.symm)
    · rw [g1, g2]; exact fun e => hb e.symm
set_option maxRecDepth 100000 in
/-- The block of one certificate is the same in both. -/
theorem block_two {l m : List CV} (hl : dagF l = 0) (hm : dagF m = 0) (vl : ∀ x ∈ l, x.vl = [0, 1, 2]) (vm : ∀ x ∈ m, x.vl = [0, 1, 2]) {bl el : List BW} (GL : BatG l bl) (GM : BatG m el) {k : List Int} {p q : Nat} (hp : p < l.length) (hq : q < m.length) (hpk : (cvAt l p).d = k) (hqk : (cvAt m q).d = k) {h1 h2 : List CV} (H1 : HistIs l k h1) (H2 : HistIs m k h2) {t1 t2 : List ByteArray} (e1 : txsH bl (hisB h1) = some t1) (e2 : txsH el.reverse (hisB h2) = some t2) : t1 = t2 ∨ Coll (l ++ m) ∨ CollB (bl ++ el) := by
  rcases two_or hl hm vl vm with ⟨a, b, c⟩ | o
  · have hh := hist_same hl hm a b c hp hq hpk hqk H1 H2
    subst hh
    by_cases hB : CollB (bl ++ el)
    · exact .inr (.inr hB)
    · left
      have hc : txsH bl (hisB h1) = txsH el.reverse (hisB h1) := txsH_congr (fun d hd => by
        obtain ⟨x, hx, hdx⟩ := hisB_mem.1 hd
        obtain ⟨i, i1, _, i3⟩ := (H1.mem _).1 hx
        obtain ⟨j, j1, _, j3⟩ := (H2.mem _).1 hx
        rcases bOf_two (bl := bl) (el := el) (d := d) (GL.has _ (cvAt_mem i1) d (by rw [← i3]; exact hdx)) (GM.has _ (cvAt_mem j1) d (by rw [← j3]; exact hdx)) with g | g
        · exact g
        · exact absurd g hB)
      rw [e1, e2] at hc
      exact Option.some.inj hc
  · exact .inr (.inl o)
/-- What blockSame answers. -/
def BsmO (w w' : World) (e : Ending) (l mo : List Stp) : Prop := ∃ cc cx, GrownTo (s0 :: l) (min (l.length + 1) 24) cc ∧ GrownTo (s0 :: (l.take (min l.length 12) ++ mo)) (min ((l.take (min l.length 12) ++ mo).length + 1) 24) cx ∧ (e = .returned (.bool true) ∨ (e = .returned (.bool false) ∧ (Coll (cc ++ cx) ∨ CollB ((bvTo (s0 :: l) (min (l.length + 1) 24)).map BV.w ++ (bvTo (s0 :: (l.take (min l.length 12) ++ mo)) (min ((l.take (min l.length 12) ++ mo).length + 1) 24)).map BV.w)))) ∧ Below w.heap.size w w'
/-- What Block answers in the second dag. -/
def BlkY (w : World) (l : List CV) (bl : List BW) (k : List Int) (xa : Option Addr) (N : Nat) (ec : Int) : Prop :=
  (ec = 8 ∧ pOf l k = -1 ∧ N = 0) ∨ (ec = 12 ∧ bsF bl = 12 ∧ N = 0) ∨ (ec = 0 ∧ 0 ≤ pOf l k ∧ bsF bl = 0 ∧ ∃ hs t, HistIs l k hs ∧ txsH bl (hisB hs) = some t ∧ N = (onceS [] t).length ∧ StrsAt w xa (onceS [] t) ∧ N ≤ 288)
set_option maxRecDepth 100000 in
theorem blk_two (ks : List Ct) (ka : Option Addr) (kc : Nat) (bl : List Bc) (ba : Option Addr) (bn bc : Nat) (k : List Int) (sa : Option Addr) (cap : Nat) (w : World) (hF : dagF (cvs ks) = 0) (h24 : ks.length ≤ 24) (hd : DagAt w ka kc ks) (hbn : bn = bl.length) (hb : BcsAt w ba bl) (hhas : ∀ c ∈ cvs ks, ∀ d ∈ c.bl, hasB (bws bl) d = true) (hp : SliceAt w sa cap k) (h32 : k.length = 32) (hT : Tabs w) :
    Calls Tryd.prog 41 #[.agg #[.slice ka ks.length kc], .slice ba bn bc, .slice sa 32 cap] w fun e w' => (∃ (xa : Option Addr) (N xc : Nat) (ec : Int), e = .returned (.tuple #[.slice xa N xc, .int .i64 ec]) ∧ BlkY w' (cvs ks) (bws bl) k xa N ec) ∧ Below w.heap.size w w' := by
  refine (block_any ks ka _ kc bl ba bn bc k sa 32 cap w rfl hbn h32.symm hd hb hp hT).mono ?_
  intro e w' hO
  refine ⟨?_, hO.below⟩
  rcases hO.out with ⟨ec, he, h | h⟩ | ⟨_, hpo, ⟨h12, he⟩ | ⟨h0, hs, hH, ⟨hno, _⟩ | ⟨t, v, ht, he, ho⟩⟩⟩
  · rw [hF] at h; cases h.1
  · exact ⟨none, 0, 0, 8, by rw [he, h.2.2], .inl ⟨rfl, h.2.1, rfl⟩⟩
  · exact ⟨none, 0, 0, 12, he, .inr (.inl ⟨rfl, h12, rfl⟩)⟩
  · have : ∃ t, txsH (bws bl) (hisB hs) = some t := txsH_some (fun d hd => by
      obtain ⟨c, hc, hd2⟩ := hisB_mem.1 hd
      obtain ⟨j, h1, _, h3⟩ := (hH.mem _).1 hc
      rw [bOf_some]
      exact hhas _ (cvAt_mem h1) _ (by rw [← h3]; exact hd2))
    obtain ⟨t, ht⟩ := this
    rw [ht] at hno; cases hno
  · have hsm := once_small hF (by rw [cvs_length]; exact h24) h0 hH ht
    obtain ⟨xa, xc, rfl, hst⟩ := strs_of_owns ho (fun s hs => by have := hsm.2 s hs; unfold maxLen; omega)
    exact ⟨xa, _, xc, 0, he, .inr (.inr ⟨rfl, hpo, h0, hs, t, hH, ht, rfl, hst, hsm.1⟩)⟩
set_option maxRecDepth 100000 in
theorem bws_reverse (l : List Bc) : bws l.reverse = (bws l).reverse := by simp [bws]
set_option maxRecDepth 100000 in
/-- What the first dag has the second one has, where the steps are the same ones and more. -/
theorem pOf_more {l m : List CV} {r : List CV} (hm : m = l ++ r) {i : Nat} (hi : i < l.length) : 0 ≤ pOf m (cvAt l i).d := by
  have e : cvAt m i = cvAt l i := by rw [hm]; simp [cvAt, List.getD, List.getElem?_append_left hi]
  rw [← e]
  exact (pOf_self (l := m) (i := i) (by rw [hm, List.length_append]; omega)).1
set_option maxRecDepth 100000 in
theorem grown_two {l mo : List Stp} {c cx : List CV} (h12 : l.length ≤ 12) (hG : GrownTo (s0 :: l) (min (l.length + 1) 24) c) (hX : GrownTo (s0 :: (l.take (min l.length 12) ++ mo)) (min ((l.take (min l.length 12) ++ mo).length + 1) 24) cx) : ∃ r, cx = c ++ r := by
  have e : l.take (min l.length 12) = l := List.take_of_length_le (by omega)
  rw [e] at hX
  have h1 : GrownTo (s0 :: l ++ mo) (min (l.length + 1) 24) c := (grown_pre (l := s0 :: l) (m := mo) (by simp; omega)).2 hG
  have h2 : GrownTo (s0 :: l ++ mo) (min ((l ++ mo).length + 1) 24) cx := hX
  exact grown_more h1 h2 (by rw [List.length_append]; omega)
end Go.Proofs.YtbmodfegcmaieaaDoor
