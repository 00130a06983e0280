/- The document's answer, package sheavesref: taken: a state behind a block, as P1.3 says: the same as the program's take. For every state of words and every block of at most 64 bytes. -/
import Derived.Test.YtbmodfegcmaieaaDoorOrderBatchesM18
import Derived.Test.YtbmodfegcmaieaaDoorLib
import Derived.Deep.QuietTactic
import Derived.BigQuiet
import Derived.BigRegion
import Derived.Deep.DeepCutAuto
import Derived.Deep.RegionWith
import Derived.Test.YtbmodfegcmaieaaDoorApp
import Derived.Deep.RegionHeld2
namespace Go.Proofs.YtbmodfegcmaieaaDoor
open Go.RowKit

set_option maxRecDepth 100000 in
set_option maxHeartbeats 1000000 in
theorem turned_any (x n : Int) (w : World) (h : n = 16 ∨ n = 12 ∨ n = 8 ∨ n = 7) (hx : W1 x) :
    Calls Tryd.prog 131 #[.int .i64 x, .int .i64 n] w fun e w' => e = .returned (.int .i64 (rotI n x)) ∧ ∃ k, w' = w.drewN k := by
  have h0 := hx.1
  have h1 := hx.2
  rcases h with rfl | rfl | rfl | rfl
  · have e : Hid (bits .and .i64 (bits .or .i64 (x / 65536) (x * 65536)) 4294967295 = rotI 16 x) := turned_eq x hx 16 (by decide) (by decide) _ _ rfl rfl
    go_enter Tryd.func131, Tryd.ntmps131
    go_wp2
    go_quiet (fail)
    go_wp2
    go_ret
    exact ⟨ret_int e.out, _, rfl⟩
  · have e : Hid (bits .and .i64 (bits .or .i64 (x / 4096) (x * 1048576)) 4294967295 = rotI 12 x) := turned_eq x hx 12 (by decide) (by decide) _ _ rfl rfl
    go_enter Tryd.func131, Tryd.ntmps131
    go_wp2
    go_quiet (fail)
    go_wp2
    go_ret
    exact ⟨ret_int e.out, _, rfl⟩
  · have e : Hid (bits .and .i64 (bits .or .i64 (x / 256) (x * 16777216)) 4294967295 = rotI 8 x) := turned_eq x hx 8 (by decide) (by decide) _ _ rfl rfl
    go_enter Tryd.func131, Tryd.ntmps131
    go_wp2
    go_quiet (fail)
    go_wp2
    go_ret
    exact ⟨ret_int e.out, _, rfl⟩
  · have e : Hid (bits .and .i64 (bits .or .i64 (x / 128) (x * 33554432)) 4294967295 = rotI 7 x) := turned_eq x hx 7 (by decide) (by decide) _ _ rfl rfl
    go_enter Tryd.func131, Tryd.ntmps131
    go_wp2
    go_quiet (fail)
    go_wp2
    go_ret
    exact ⟨ret_int e.out, _, rfl⟩
end Go.Proofs.YtbmodfegcmaieaaDoor

namespace Go.Proofs.YtbmodfegcmaieaaDoor
open Go.RowKit

/-- A row of words as cells of 64 bits. -/
def ia (vs : List Int) : List Value := vs.map (Value.int .i64)
set_option maxRecDepth 100000 in
theorem ia_set (vs : List Int) (i : Nat) (x : Int) : (ia vs).set i (.int .i64 x) = ia (vs.set i x) := by simp [ia, List.map_set]
set_option maxRecDepth 100000 in
theorem ia_get (vs : List Int) (i : Nat) (h : i < vs.length) : (ia vs)[i]? = some (.int .i64 (vs.getD i 0)) := by simp [ia, h]
/-- A list that parts from another at four places. -/
structure St (vs : List Int) (a b c d : Nat) (A B C D : Int) (L : List Int) : Prop where
  len : L.length = 16
  ha : L.getD a 0 = A
  hb : L.getD b 0 = B
  hc : L.getD c 0 = C
  hd : L.getD d 0 = D
  rest : ∀ j, ¬ j = a → ¬ j = b → ¬ j = c → ¬ j = d → L.getD j 0 = vs.getD j 0
set_option maxRecDepth 100000 in
theorem getD_set_eq (L : List Int) (i : Nat) (x : Int) (h : i < L.length) : (L.set i x).getD i 0 = x := by simp [List.getD, h]
set_option maxRecDepth 100000 in
theorem getD_set_ne (L : List Int) (i j : Nat) (x : Int) (h : ¬ j = i) : (L.set i x).getD j 0 = L.getD j 0 := by
  simp only [List.getD]
  rw [List.getElem?_set_ne (fun e => h e.symm)]
set_option maxRecDepth 100000 in
theorem grown_trans {w w1 w2 : World} {r : Option Nat} (h : w.grownBy w1 r) (k : w1.grownBy w2 r) : w.grownBy w2 r :=
  ⟨k.os.trans h.os, k.tape.trans h.tape, k.output.trans h.output, Nat.le_trans h.size k.size, fun i hi hr => (k.block i (Nat.lt_of_lt_of_le hi h.size) hr).trans (h.block i hi hr)⟩
set_option maxRecDepth 100000 in
theorem grown_as {w w1 w2 : World} {r : Option Nat} (h : w.grownBy w1 r) (e1 : w2.os = w1.os) (e2 : w2.tape = w1.tape) (e3 : w2.output = w1.output) (e4 : w2.heap = w1.heap) : w.grownBy w2 r :=
  ⟨e1.trans h.os, e2.trans h.tape, e3.trans h.output, by rw [e4]; exact h.size, fun k hk hr => by rw [e4]; exact h.block k hk hr⟩
set_option maxRecDepth 100000 in
theorem grown_drewN {w w1 : World} {r : Option Nat} (n : Nat) (k : (w.drewN n).grownBy w1 r) : w.grownBy w1 r := ⟨k.os, k.tape, k.output, k.size, k.block⟩
set_option maxRecDepth 100000 in
theorem St.sa {vs : List Int} {a b c d : Nat} {A B C D : Int} {L : List Int} (h : St vs a b c d A B C D L) (ha : a < 16) (nab : ¬ a = b) (nac : ¬ a = c) (nad : ¬ a = d) (x : Int) : St vs a b c d x B C D (L.set a x) :=
  ⟨by simp [h.len], getD_set_eq _ _ _ (by rw [h.len]; exact ha), (getD_set_ne _ _ _ _ (fun e => nab e.symm)).trans h.hb, (getD_set_ne _ _ _ _ (fun e => nac e.symm)).trans h.hc, (getD_set_ne _ _ _ _ (fun e => nad e.symm)).trans h.hd, fun j ja jb jc jd => (getD_set_ne _ _ _ _ ja).trans (h.rest j ja jb jc jd)⟩
set_option maxRecDepth 100000 in
theorem St.sb {vs : List Int} {a b c d : Nat} {A B C D : Int} {L : List Int} (h : St vs a b c d A B C D L) (hb : b < 16) (nab : ¬ a = b) (nbc : ¬ b = c) (nbd : ¬ b = d) (x : Int) : St vs a b c d A x C D (L.set b x) :=
  ⟨by simp [h.len], (getD_set_ne _ _ _ _ nab).trans h.ha, getD_set_eq _ _ _ (by rw [h.len]; exact hb), (getD_set_ne _ _ _ _ (fun e => nbc e.symm)).trans h.hc, (getD_set_ne _ _ _ _ (fun e => nbd e.symm)).trans h.hd, fun j ja jb jc jd => (getD_set_ne _ _ _ _ jb).trans (h.rest j ja jb jc jd)⟩
set_option maxRecDepth 100000 in
theorem St.sc {vs : List Int} {a b c d : Nat} {A B C D : Int} {L : List Int} (h : St vs a b c d A B C D L) (hc : c < 16) (nac : ¬ a = c) (nbc : ¬ b = c) (ncd : ¬ c = d) (x : Int) : St vs a b c d A B x D (L.set c x) :=
  ⟨by simp [h.len], (getD_set_ne _ _ _ _ nac).trans h.ha, (getD_set_ne _ _ _ _ nbc).trans h.hb, getD_set_eq _ _ _ (by rw [h.len]; exact hc), (getD_set_ne _ _ _ _ (fun e => ncd e.symm)).trans h.hd, fun j ja jb jc jd => (getD_set_ne _ _ _ _ jc).trans (h.rest j ja jb jc jd)⟩
set_option maxRecDepth 100000 in
theorem St.sd {vs : List Int} {a b c d : Nat} {A B C D : Int} {L : List Int} (h : St vs a b c d A B C D L) (hd : d < 16) (nad : ¬ a = d) (nbd : ¬ b = d) (ncd : ¬ c = d) (x : Int) : St vs a b c d A B C x (L.set d x) :=
  ⟨by simp [h.len], (getD_set_ne _ _ _ _ nad).trans h.ha, (getD_set_ne _ _ _ _ nbd).trans h.hb, (getD_set_ne _ _ _ _ ncd).trans h.hc, getD_set_eq _ _ _ (by rw [h.len]; exact hd), fun j ja jb jc jd => (getD_set_ne _ _ _ _ jd).trans (h.rest j ja jb jc jd)⟩
set_option maxRecDepth 100000 in
theorem St.eq {vs : List Int} {a b c d : Nat} {A B C D : Int} {L L' : List Int} (h : St vs a b c d A B C D L) (k : St vs a b c d A B C D L') : L = L' := by
  apply List.ext_getElem
  · rw [h.len, k.len]
  · intro j h1 h2
    have e : L.getD j 0 = L'.getD j 0 := by
      by_cases ja : j = a
      · subst ja; rw [h.ha, k.ha]
      by_cases jb : j = b
      · subst jb; rw [h.hb, k.hb]
      by_cases jc : j = c
      · subst jc; rw [h.hc, k.hc]
      by_cases jd : j = d
      · subst jd; rw [h.hd, k.hd]
      rw [h.rest j ja jb jc jd, k.rest j ja jb jc jd]
    simpa [List.getD, h1, h2] using e

set_option maxRecDepth 100000 in
theorem W1.mA1 (a b x : Int) : W1 (mA1 a b x) := W1.mod _
set_option maxRecDepth 100000 in
theorem W1.mC1 (a b c d x : Int) : W1 (mC1 a b c d x) := W1.mod _
set_option maxRecDepth 100000 in
theorem W1.mA (a b c d x y : Int) : W1 (mA a b c d x y) := W1.mod _
set_option maxRecDepth 100000 in
theorem W1.mC (a b c d x y : Int) : W1 (mC a b c d x y) := W1.mod _
set_option maxRecDepth 100000 in
theorem W1.mD1 {a b d x : Int} (hd : W1 d) : W1 (mD1 a b d x) := (hd.xor (W1.mA1 _ _ _)).rot _
set_option maxRecDepth 100000 in
theorem W1.mB1 {a b c d x : Int} (hb : W1 b) : W1 (mB1 a b c d x) := (hb.xor (W1.mC1 _ _ _ _ _)).rot _
set_option maxRecDepth 100000 in
theorem W1.mD {a b c d x y : Int} (hd : W1 d) : W1 (mD a b c d x y) := ((W1.mD1 hd).xor (W1.mA _ _ _ _ _ _)).rot _
set_option maxRecDepth 100000 in
theorem W1.mB {a b c d x y : Int} (hb : W1 b) : W1 (mB a b c d x y) := ((W1.mB1 hb).xor (W1.mC _ _ _ _ _ _)).rot _
set_option maxRecDepth 100000 in
theorem mixL_W1 (vs : List Int) (hv : ∀ z ∈ vs, W1 z) (hl : vs.length = 16) (i j k l : Nat) (hj : j < 16) (hd : l < 16) (x y : Int) : ∀ z ∈ mixL vs i j k l x y, W1 z := by
  have hg : ∀ q, q < 16 → W1 (vs.getD q 0) := fun q hq => hv _ (by rw [List.getD, List.getElem?_eq_getElem (by omega)]; exact List.getElem_mem _)
  intro z hz
  unfold mixL at hz
  rcases List.mem_or_eq_of_mem_set hz with hz | rfl
  · rcases List.mem_or_eq_of_mem_set hz with hz | rfl
    · rcases List.mem_or_eq_of_mem_set hz with hz | rfl
      · rcases List.mem_or_eq_of_mem_set hz with hz | rfl
        · exact hv z hz
        · exact W1.mA _ _ _ _ _ _
      · exact W1.mB (hg j hj)
    · exact W1.mC _ _ _ _ _ _
  · exact W1.mD (hg l hd)

set_option maxRecDepth 100000 in
set_option maxHeartbeats 4000000 in
theorem mixed_any (vs : List Int) (base g la lb lc ld cap : Nat) (ai bi ci di x y : Int) (w : World) (ea : ai = la) (eb : bi = lb) (ec : ci = lc) (ed : di = ld)
    (hl : vs.length = 16) (hvs : ∀ z ∈ vs, W1 z) (hx : W1 x) (hy : W1 y) (ho : w.ownsRow base 3 1 (.slice (some ⟨g, 0, none⟩) 16 cap) 16 (ia vs))
    (ha : la < 16) (hb : lb < 16) (hc : lc < 16) (hd : ld < 16) (nab : ¬ la = lb) (nac : ¬ la = lc) (nad : ¬ la = ld) (nbc : ¬ lb = lc) (nbd : ¬ lb = ld) (ncd : ¬ lc = ld) :
    Calls Tryd.prog 114 #[.slice (some ⟨g, 0, none⟩) 16 cap, .int .i64 ai, .int .i64 bi, .int .i64 ci, .int .i64 di, .int .i64 x, .int .i64 y] w fun e w' => e = .returned (.tuple #[]) ∧ w'.ownsRow base 3 1 (.slice (some ⟨g, 0, none⟩) 16 cap) 16 (ia (mixL vs la lb lc ld x y)) ∧ w.grownBy w' (some g) := by
  subst ea eb ec ed
  have ga : (la : Int) < 16 := by omega
  have gb : (lb : Int) < 16 := by omega
  have gc : (lc : Int) < 16 := by omega
  have gd : (ld : Int) < 16 := by omega
  have hg : ∀ j, j < 16 → W1 (vs.getD j 0) := fun j hj => hvs _ (by rw [List.getD, List.getElem?_eq_getElem (by omega)]; exact List.getElem_mem _)
  have wA := hg la ha
  have wB := hg lb hb
  have wC := hg lc hc
  have wD := hg ld hd
  have HM : Hid (mixL vs la lb lc ld x y = (((vs.set la (mA (vs.getD la 0) (vs.getD lb 0) (vs.getD lc 0) (vs.getD ld 0) x y)).set lb (mB (vs.getD la 0) (vs.getD lb 0) (vs.getD lc 0) (vs.getD ld 0) x y)).set lc (mC (vs.getD la 0) (vs.getD lb 0) (vs.getD lc 0) (vs.getD ld 0) x y)).set ld (mD (vs.getD la 0) (vs.getD lb 0) (vs.getD lc 0) (vs.getD ld 0) x y)) := rfl
  have hS : St vs la lb lc ld (vs.getD la 0) (vs.getD lb 0) (vs.getD lc 0) (vs.getD ld 0) vs := ⟨hl, rfl, rfl, rfl, rfl, fun _ _ _ _ _ => rfl⟩
  generalize vs.getD la 0 = A at *
  generalize vs.getD lb 0 = B at *
  generalize vs.getD lc 0 = C at *
  generalize vs.getD ld 0 = D at *
  clear hg hvs
  have hG : w.grownBy w (some g) := World.grownBy.refl _ _
  have hS0 := hS
  go_enter Tryd.func114, Tryd.ntmps114
  go_upto_region 0 with (fail)
  go_cut [] (fun wx => ∃ L, St vs la lb lc ld (mA1 A B x) B C D L ∧ wx.ownsRow base 3 1 (.slice (some ⟨g, 0, none⟩) 16 cap) 16 (ia L) ∧ w.grownBy wx (some g))
  case first =>
    have cs := (World.ownsRow.cellAt ho la (by omega)).trans (ia_get _ _ (by rw [hS.len]; exact ha))
    have cr := (World.ownsRow.cellAt ho lb (by omega)).trans (ia_get _ _ (by rw [hS.len]; exact hb))
    rw [hS.ha] at cs
    rw [hS.hb] at cr
    have fr := fun j => World.ownsRow.frozenAt ho j
    have ws := wA
    have wr := wB
    have hS' := hS.sa ha nab nac nad (mA1 A B x)
    have wx := hx
    have ev : Hid (bits .and .i64 (A + B + x) 4294967295 = (mA1 A B x)) := by
      show _ = _
      rw [and_mask _ (by have := ws.1; have := wr.1; have := wx.1; omega) (by have := ws.2; have := wr.2; have := wx.2; omega)]
      simp only [mA1]; omega
    generalize (mA1 A B x) = V at *
    obtain ⟨s0, s1⟩ := ws
    obtain ⟨r0, r1⟩ := wr
    obtain ⟨x0, x1⟩ := wx
    go_region
    all_goals
      go_wp2_with fail
      go_meet
      case rel =>
        have hst := ho.stored la (.int .i64 V)
        rw [ia_set] at hst
        rw [ev.out]
        exact ⟨_, hS', hst.1, grown_as (grown_trans hG hst.2) rfl rfl rfl rfl⟩
  case rest =>
    clear ho hS hG
    obtain ⟨L0, hS, ho, hG⟩ := hcut
    go_upto_region 1 with (fail)
    go_cut [] (fun wx => ∃ L, St vs la lb lc ld (mA1 A B x) B C (mD1 A B D x) L ∧ wx.ownsRow base 3 1 (.slice (some ⟨g, 0, none⟩) 16 cap) 16 (ia L) ∧ w.grownBy wx (some g))
    case first =>
      have cs := (World.ownsRow.cellAt ho ld (by omega)).trans (ia_get _ _ (by rw [hS.len]; exact hd))
      have cr := (World.ownsRow.cellAt ho la (by omega)).trans (ia_get _ _ (by rw [hS.len]; exact ha))
      rw [hS.hd] at cs
      rw [hS.ha] at cr
      have fr := fun j => World.ownsRow.frozenAt ho j
      have ws := wD
      have wr := (show W1 (mA1 A B x) from W1.mA1 _ _ _)
      have hS' := hS.sd hd nad nbd ncd (mD1 A B D x)
      have ev := xor64 ws wr
      have wq := W1.xor ws wr
      have en : Hid (rotI 16 (bits .xor .u32 D (mA1 A B x)) = (mD1 A B D x)) := rfl
      generalize (mD1 A B D x) = V at *
      generalize (mA1 A B x) = R at *
      obtain ⟨s0, s1⟩ := ws
      obtain ⟨r0, r1⟩ := wr
      go_region_with (go_at_call 131; refine (turned_any _ 16 _ (by decide) wq).mono ?_; rintro e w' ⟨rfl, kk, rfl⟩)
      all_goals
        go_wp2_with fail
        go_meet
        case rel =>
          have hst := ho.stored ld (.int .i64 V)
          rw [ia_set] at hst
          rw [en.out]
          exact ⟨_, hS', hst.1, grown_as (grown_trans hG hst.2) rfl rfl rfl rfl⟩
    case rest =>
      clear ho hS hG
      obtain ⟨L1, hS, ho, hG⟩ := hcut
      go_upto_region 2 with (fail)
      go_cut [] (fun wx => ∃ L, St vs la lb lc ld (mA1 A B x) B (mC1 A B C D x) (mD1 A B D x) L ∧ wx.ownsRow base 3 1 (.slice (some ⟨g, 0, none⟩) 16 cap) 16 (ia L) ∧ w.grownBy wx (some g))
      case first =>
        have cs := (World.ownsRow.cellAt ho lc (by omega)).trans (ia_get _ _ (by rw [hS.len]; exact hc))
        have cr := (World.ownsRow.cellAt ho ld (by omega)).trans (ia_get _ _ (by rw [hS.len]; exact hd))
        rw [hS.hc] at cs
        rw [hS.hd] at cr
        have fr := fun j => World.ownsRow.frozenAt ho j
        have ws := wC
        have wr := (show W1 (mD1 A B D x) from W1.mD1 wD)
        have hS' := hS.sc hc nac nbc ncd (mC1 A B C D x)
        have ev : Hid (bits .and .i64 (C + (mD1 A B D x)) 4294967295 = (mC1 A B C D x)) := by
          show _ = _
          rw [and_mask _ (by have := ws.1; have := wr.1; omega) (by have := ws.2; have := wr.2; omega)]
          rfl
        generalize (mC1 A B C D x) = V at *
        generalize (mD1 A B D x) = R at *
        obtain ⟨s0, s1⟩ := ws
        obtain ⟨r0, r1⟩ := wr
        go_region
        all_goals
          go_wp2_with fail
          go_meet
          case rel =>
            have hst := ho.stored lc (.int .i64 V)
            rw [ia_set] at hst
            rw [ev.out]
            exact ⟨_, hS', hst.1, grown_as (grown_trans hG hst.2) rfl rfl rfl rfl⟩
      case rest =>
        clear ho hS hG
        obtain ⟨L2, hS, ho, hG⟩ := hcut
        go_upto_region 3 with (fail)
        go_cut [] (fun wx => ∃ L, St vs la lb lc ld (mA1 A B x) (mB1 A B C D x) (mC1 A B C D x) (mD1 A B D x) L ∧ wx.ownsRow base 3 1 (.slice (some ⟨g, 0, none⟩) 16 cap) 16 (ia L) ∧ w.grownBy wx (some g))
        case first =>
          have cs := (World.ownsRow.cellAt ho lb (by omega)).trans (ia_get _ _ (by rw [hS.len]; exact hb))
          have cr := (World.ownsRow.cellAt ho lc (by omega)).trans (ia_get _ _ (by rw [hS.len]; exact hc))
          rw [hS.hb] at cs
          rw [hS.hc] at cr
          have fr := fun j => World.ownsRow.frozenAt ho j
          have ws := wB
          have wr := (show W1 (mC1 A B C D x) from W1.mC1 _ _ _ _ _)
          have hS' := hS.sb hb nab nbc nbd (mB1 A B C D x)
          have ev := xor64 ws wr
          have wq := W1.xor ws wr
          have en : Hid (rotI 12 (bits .xor .u32 B (mC1 A B C D x)) = (mB1 A B C D x)) := rfl
          generalize (mB1 A B C D x) = V at *
          generalize (mC1 A B C D x) = R at *
          obtain ⟨s0, s1⟩ := ws
          obtain ⟨r0, r1⟩ := wr
          go_region_with (go_at_call 131; refine (turned_any _ 12 _ (by decide) wq).mono ?_; rintro e w' ⟨rfl, kk, rfl⟩)
          all_goals
            go_wp2_with fail
            go_meet
            case rel =>
              have hst := ho.stored lb (.int .i64 V)
              rw [ia_set] at hst
              rw [en.out]
              exact ⟨_, hS', hst.1, grown_as (grown_trans hG hst.2) rfl rfl rfl rfl⟩
        case rest =>
          clear ho hS hG
          obtain ⟨L3, hS, ho, hG⟩ := hcut
          go_upto_region 4 with (fail)
          go_cut [] (fun wx => ∃ L, St vs la lb lc ld (mA A B C D x y) (mB1 A B C D x) (mC1 A B C D x) (mD1 A B D x) L ∧ wx.ownsRow base 3 1 (.slice (some ⟨g, 0, none⟩) 16 cap) 16 (ia L) ∧ w.grownBy wx (some g))
          case first =>
            have cs := (World.ownsRow.cellAt ho la (by omega)).trans (ia_get _ _ (by rw [hS.len]; exact ha))
            have cr := (World.ownsRow.cellAt ho lb (by omega)).trans (ia_get _ _ (by rw [hS.len]; exact hb))
            rw [hS.ha] at cs
            rw [hS.hb] at cr
            have fr := fun j => World.ownsRow.frozenAt ho j
            have ws := (show W1 (mA1 A B x) from W1.mA1 _ _ _)
            have wr := (show W1 (mB1 A B C D x) from W1.mB1 wB)
            have hS' := hS.sa ha nab nac nad (mA A B C D x y)
            have wx := hy
            have ev : Hid (bits .and .i64 ((mA1 A B x) + (mB1 A B C D x) + y) 4294967295 = (mA A B C D x y)) := by
              show _ = _
              rw [and_mask _ (by have := ws.1; have := wr.1; have := wx.1; omega) (by have := ws.2; have := wr.2; have := wx.2; omega)]
              simp only [mA1, mA]; omega
            generalize (mA A B C D x y) = V at *
            generalize (mA1 A B x) = S at *
            generalize (mB1 A B C D x) = R at *
            obtain ⟨s0, s1⟩ := ws
            obtain ⟨r0, r1⟩ := wr
            obtain ⟨x0, x1⟩ := wx
            go_region
            all_goals
              go_wp2_with fail
              go_meet
              case rel =>
                have hst := ho.stored la (.int .i64 V)
                rw [ia_set] at hst
                rw [ev.out]
                exact ⟨_, hS', hst.1, grown_as (grown_trans hG hst.2) rfl rfl rfl rfl⟩
          case rest =>
            clear ho hS hG
            obtain ⟨L4, hS, ho, hG⟩ := hcut
            go_upto_region 5 with (fail)
            go_cut [] (fun wx => ∃ L, St vs la lb lc ld (mA A B C D x y) (mB1 A B C D x) (mC1 A B C D x) (mD A B C D x y) L ∧ wx.ownsRow base 3 1 (.slice (some ⟨g, 0, none⟩) 16 cap) 16 (ia L) ∧ w.grownBy wx (some g))
            case first =>
              have cs := (World.ownsRow.cellAt ho ld (by omega)).trans (ia_get _ _ (by rw [hS.len]; exact hd))
              have cr := (World.ownsRow.cellAt ho la (by omega)).trans (ia_get _ _ (by rw [hS.len]; exact ha))
              rw [hS.hd] at cs
              rw [hS.ha] at cr
              have fr := fun j => World.ownsRow.frozenAt ho j
              have ws := (show W1 (mD1 A B D x) from W1.mD1 wD)
              have wr := (show W1 (mA A B C D x y) from W1.mA _ _ _ _ _ _)
              have hS' := hS.sd hd nad nbd ncd (mD A B C D x y)
              have ev := xor64 ws wr
              have wq := W1.xor ws wr
              have en : Hid (rotI 8 (bits .xor .u32 (mD1 A B D x) (mA A B C D x y)) = (mD A B C D x y)) := rfl
              generalize (mD A B C D x y) = V at *
              generalize (mD1 A B D x) = S at *
              generalize (mA A B C D x y) = R at *
              obtain ⟨s0, s1⟩ := ws
              obtain ⟨r0, r1⟩ := wr
              go_region_with (go_at_call 131; refine (turned_any _ 8 _ (by decide) wq).mono ?_; rintro e w' ⟨rfl, kk, rfl⟩)
              all_goals
                go_wp2_with fail
                go_meet
                case rel =>
                  have hst := ho.stored ld (.int .i64 V)
                  rw [ia_set] at hst
                  rw [en.out]
                  exact ⟨_, hS', hst.1, grown_as (grown_trans hG hst.2) rfl rfl rfl rfl⟩
            case rest =>
              clear ho hS hG
              obtain ⟨L5, hS, ho, hG⟩ := hcut
              go_upto_region 6 with (fail)
              go_cut [] (fun wx => ∃ L, St vs la lb lc ld (mA A B C D x y) (mB1 A B C D x) (mC A B C D x y) (mD A B C D x y) L ∧ wx.ownsRow base 3 1 (.slice (some ⟨g, 0, none⟩) 16 cap) 16 (ia L) ∧ w.grownBy wx (some g))
              case first =>
                have cs := (World.ownsRow.cellAt ho lc (by omega)).trans (ia_get _ _ (by rw [hS.len]; exact hc))
                have cr := (World.ownsRow.cellAt ho ld (by omega)).trans (ia_get _ _ (by rw [hS.len]; exact hd))
                rw [hS.hc] at cs
                rw [hS.hd] at cr
                have fr := fun j => World.ownsRow.frozenAt ho j
                have ws := (show W1 (mC1 A B C D x) from W1.mC1 _ _ _ _ _)
                have wr := (show W1 (mD A B C D x y) from W1.mD wD)
                have hS' := hS.sc hc nac nbc ncd (mC A B C D x y)
                have ev : Hid (bits .and .i64 ((mC1 A B C D x) + (mD A B C D x y)) 4294967295 = (mC A B C D x y)) := by
                  show _ = _
                  rw [and_mask _ (by have := ws.1; have := wr.1; omega) (by have := ws.2; have := wr.2; omega)]
                  simp only [mC1, mC]; omega
                generalize (mC A B C D x y) = V at *
                generalize (mC1 A B C D x) = S at *
                generalize (mD A B C D x y) = R at *
                obtain ⟨s0, s1⟩ := ws
                obtain ⟨r0, r1⟩ := wr
                go_region
                all_goals
                  go_wp2_with fail
                  go_meet
                  case rel =>
                    have hst := ho.stored lc (.int .i64 V)
                    rw [ia_set] at hst
                    rw [ev.out]
                    exact ⟨_, hS', hst.1, grown_as (grown_trans hG hst.2) rfl rfl rfl rfl⟩
              case rest =>
                clear ho hS hG
                obtain ⟨L6, hS, ho, hG⟩ := hcut
                go_upto_region 7 with (fail)
                have cs := (World.ownsRow.cellAt ho lb (by omega)).trans (ia_get _ _ (by rw [hS.len]; exact hb))
                have cr := (World.ownsRow.cellAt ho lc (by omega)).trans (ia_get _ _ (by rw [hS.len]; exact hc))
                rw [hS.hb] at cs
                rw [hS.hc] at cr
                have fr := fun j => World.ownsRow.frozenAt ho j
                have ws := (show W1 (mB1 A B C D x) from W1.mB1 wB)
                have wr := (show W1 (mC A B C D x y) from W1.mC _ _ _ _ _ _)
                have hS' := hS.sb hb nab nbc nbd (mB A B C D x y)
                have ev := xor64 ws wr
                have wq := W1.xor ws wr
                have en : Hid (rotI 7 (bits .xor .u32 (mB1 A B C D x) (mC A B C D x y)) = (mB A B C D x y)) := rfl
                generalize (mB A B C D x y) = V at *
                generalize (mB1 A B C D x) = S at *
                generalize (mC A B C D x y) = R at *
                obtain ⟨s0, s1⟩ := ws
                obtain ⟨r0, r1⟩ := wr
                go_region_with (go_at_call 131; refine (turned_any _ 7 _ (by decide) wq).mono ?_; rintro e w' ⟨rfl, kk, rfl⟩)
                all_goals
                  go_end0
                  have hst := ho.stored lb (.int .i64 V)
                  rw [ia_set] at hst
                  rw [en.out]
                  refine ⟨rfl, ?_, grown_as (grown_trans hG hst.2) rfl rfl rfl rfl⟩
                  rw [HM.out, ← hS'.eq ((((hS0.sa ha nab nac nad _).sb hb nab nbc nbd V).sc hc nac nbc ncd R).sd hd nad nbd ncd _)]
                  exact hst.1
end Go.Proofs.YtbmodfegcmaieaaDoor

namespace Go.Proofs.YtbmodfegcmaieaaDoor
open Go.RowKit

set_option maxRecDepth 100000 in
theorem infoInt : (Tryd.prog.info? 3).map (fun i => (i.zero, i.size, i.bytes)) = some (some (.int .i64 0), 1, 8) := by kernel_rfl

set_option maxRecDepth 100000 in
set_option maxHeartbeats 1000000 in
theorem firstWord_any (k : Nat) (hk : k < 8) (w : World) :
    Calls Tryd.prog 92 #[.int .i64 k] w fun e w' => e = .returned (.int .i64 (fw.getD k 0)) ∧ Below w.heap.size w w' := by
  have h : k = 0 ∨ k = 1 ∨ k = 2 ∨ k = 3 ∨ k = 4 ∨ k = 5 ∨ k = 6 ∨ k = 7 := by omega
  clear hk
  rcases h with rfl | rfl | rfl | rfl | rfl | rfl | rfl | rfl
  all_goals
    go_enter Tryd.func92, Tryd.ntmps92
    go_wp2
    go_ret
    exact ⟨rfl, (Below.refl _ _).alloc (Nat.le_refl _) _⟩

set_option maxRecDepth 100000 in
/-- A byte in its place, joined to the lower ones, is their sum. -/
theorem join_sum (v x : Int) (r : Nat) (hr : r < 4) (h0 : 0 ≤ v) (h1 : v < 2 ^ (8 * r)) (x0 : 0 ≤ x) (x1 : x ≤ 255) :
    bits .or .u32 v (x % 4294967296 * 2 ^ (8 * r) % 4294967296) = v + x * 2 ^ (8 * r) ∧ v + x * 2 ^ (8 * r) < 2 ^ (8 * (r + 1)) := by
  obtain ⟨a, rfl⟩ := Int.eq_ofNat_of_zero_le h0
  obtain ⟨b, rfl⟩ := Int.eq_ofNat_of_zero_le x0
  have hb : b ≤ 255 := by omega
  have key : ∀ i p : Nat, p = 2 ^ i → a < p → p < 4294967296 → b * p < 4294967296 → bits .or .u32 (a : Int) ((b : Int) % 4294967296 * p % 4294967296) = (a : Int) + b * p := by
    intro i p hp ha hp2 hbp
    have eb : (b : Int) % 4294967296 = b := Int.emod_eq_of_lt (by omega) (by omega)
    have e : (b : Int) * p % 4294967296 = ((b * p : Nat) : Int) := by
      rw [← Int.natCast_mul]
      exact Int.emod_eq_of_lt (Int.natCast_nonneg _) (Int.ofNat_lt.2 hbp)
    rw [eb, e, u32_or_nat _ _ (by omega) hbp, Nat.or_comm, nat_join i (b * p) a (by rw [hp]; exact Nat.mul_mod_left _ _) (by rw [← hp]; exact ha)]
    rw [Int.natCast_add, Int.natCast_mul, Int.add_comm]
  have hr' : r = 0 ∨ r = 1 ∨ r = 2 ∨ r = 3 := by omega
  rcases hr' with rfl | rfl | rfl | rfl
  · have h1' : (a : Int) < 1 := h1
    exact ⟨key 0 1 rfl (by omega) (by decide) (by omega), by show (a : Int) + b * 1 < 256; omega⟩
  · have h1' : (a : Int) < 256 := h1
    exact ⟨key 8 256 rfl (by omega) (by decide) (by omega), by show (a : Int) + b * 256 < 65536; omega⟩
  · have h1' : (a : Int) < 65536 := h1
    exact ⟨key 16 65536 rfl (by omega) (by decide) (by omega), by show (a : Int) + b * 65536 < 16777216; omega⟩
  · have h1' : (a : Int) < 16777216 := h1
    exact ⟨key 24 16777216 rfl (by omega) (by decide) (by omega), by show (a : Int) + b * 16777216 < 4294967296; omega⟩
set_option maxRecDepth 100000 in
/-- How far the words of a block have come. -/
theorem wordsTo_bound (bs : List Int) (hu : ∀ j, 0 ≤ bs.getD j 0 ∧ bs.getD j 0 ≤ 255) (k : Nat) (hk : k ≤ 64) : ∀ j, 0 ≤ (wordsTo bs k).getD j 0 ∧ (wordsTo bs k).getD j 0 < 2 ^ (8 * min 4 (k - 4 * j)) := by
  induction k with
  | zero =>
    intro j
    have : (wordsTo bs 0).getD j 0 = 0 := by
      simp only [wordsTo, List.getD, List.getElem?_replicate]
      split <;> rfl
    rw [this]
    exact ⟨by decide, Int.pow_pos (by decide)⟩
  | succ k ih =>
    intro j
    have ih := ih (by omega)
    have hlen := wordsTo_length bs k
    by_cases hj : j = k / 4
    · subst hj
      have hv := ih (k / 4)
      have e1 : min 4 (k - 4 * (k / 4)) = k % 4 := by omega
      have e2 : min 4 (k + 1 - 4 * (k / 4)) = k % 4 + 1 := by omega
      rw [e1] at hv
      obtain ⟨f1, f2⟩ := join_sum _ _ (k % 4) (by omega) hv.1 hv.2 (hu k).1 (hu k).2
      rw [wordsTo, getD_set_eq _ _ _ (by rw [hlen]; omega), e2, f1]
      refine ⟨?_, f2⟩
      have : (0 : Int) ≤ 2 ^ (8 * (k % 4)) := Int.le_of_lt (Int.pow_pos (by decide))
      have := Int.mul_nonneg (hu k).1 this
      have := hv.1
      omega
    · have hv := ih j
      have e : min 4 (k + 1 - 4 * j) = min 4 (k - 4 * j) := by omega
      rw [wordsTo, getD_set_ne _ _ _ _ hj, e]
      exact hv
set_option maxRecDepth 100000 in
theorem wordsTo_W1 (bs : List Int) (hu : ∀ j, 0 ≤ bs.getD j 0 ∧ bs.getD j 0 ≤ 255) (k : Nat) (hk : k ≤ 64) : ∀ z ∈ wordsTo bs k, W1 z := by
  intro z hz
  obtain ⟨j, hj, rfl⟩ := List.getElem_of_mem hz
  have h := wordsTo_bound bs hu k hk j
  have e : (wordsTo bs k).getD j 0 = (wordsTo bs k)[j] := by simp [List.getD, hj]
  rw [e] at h
  have hq : min 4 (k - 4 * j) = 0 ∨ min 4 (k - 4 * j) = 1 ∨ min 4 (k - 4 * j) = 2 ∨ min 4 (k - 4 * j) = 3 ∨ min 4 (k - 4 * j) = 4 := by omega
  refine ⟨h.1, Int.lt_of_lt_of_le h.2 ?_⟩
  rcases hq with e | e | e | e | e <;> rw [e] <;> decide
end Go.Proofs.YtbmodfegcmaieaaDoor

namespace Go.Proofs.YtbmodfegcmaieaaDoor
open Go.RowKit

set_option maxRecDepth 100000 in
theorem makeWords (w : World) : (Instr.makeSlice 61 (.int .i64 16) (.int .i64 16)).run Tryd.prog w = .ok (.slice (some ⟨w.heap.size, 0, none⟩) 16 16) (w.alloc (.cells (ia (List.replicate 16 0)).toArray 3)) := by kernel_rfl

set_option maxRecDepth 100000 in
set_option maxHeartbeats 2000000 in
theorem wordsOf_any (bs : List Int) (sa : Option Addr) (n cap : Nat) (w : World) (hn : n = bs.length) (hl : bs.length ≤ 64) (hs : BytesAt w sa bs) (hu : ∀ j, 0 ≤ bs.getD j 0 ∧ bs.getD j 0 ≤ 255) :
    Calls Tryd.prog 112 #[.slice sa n cap] w fun e w' => e = .returned (.slice (some ⟨w.heap.size, 0, none⟩) 16 16) ∧ Below w.heap.size w w' ∧ w'.ownsRow w.heap.size 3 1 (.slice (some ⟨w.heap.size, 0, none⟩) 16 16) 16 (ia (wordsTo bs bs.length)) := by
  subst hn
  have hmk := fun w => makeWords w
  have hown := World.ownsRow_lit (base := w.heap.size) (e := 3) (size := 1) w (ia (List.replicate 16 0)).toArray 16 (Nat.le_refl _) (by decide) rfl
  go_enter Tryd.func112, Tryd.ntmps112
  go_wp2_with fail
  go_loopw [4] (fun j wr => ∃ k : Nat, k ≤ bs.length ∧ j = .int .i64 k ∧ Below w.heap.size w wr ∧ wr.ownsRow w.heap.size 3 1 (.slice (some ⟨w.heap.size, 0, none⟩) 16 16) 16 (ia (wordsTo bs k))) (fun j _ => bs.length - (intOf j).toNat)
  case atStart => exact ⟨0, Nat.zero_le _, rfl, (Below.refl _ _).alloc (Nat.le_refl _) _, hown⟩
  case round =>
    clear hmk hown
    obtain ⟨k, hk, rfl, hb, ho⟩ := hrel
    by_cases hlt : k < bs.length
    · rcases hs with hc | ⟨sb, so, rfl, hc⟩
      · subst hc; simp at hlt
      have hltI : (k : Int) < bs.length := by omega
      have ck := (hb.cell (p := ⟨sb, so + k, none⟩) (block_lt_of_cell (hc k hlt))).trans (hc k hlt)
      have cm := (World.ownsRow.cellAt ho (k / 4) (by omega)).trans (ia_get _ _ (by rw [wordsTo_length]; omega))
      have fm := World.ownsRow.frozenAt ho (k / 4)
      have hv := wordsTo_bound bs hu k (by omega) (k / 4)
      rw [show min 4 (k - 4 * (k / 4)) = k % 4 by omega] at hv
      have hx := hu k
      have hj := (join_sum _ _ (k % 4) (by omega) hv.1 hv.2 hx.1 hx.2)
      have hst : Hid ((wr.setCell ⟨w.heap.size, k / 4, none⟩ (.int .i64 ((wordsTo bs k).getD (k / 4) 0 + bs.getD k 0 * 2 ^ (8 * (k % 4))))).ownsRow w.heap.size 3 1 (.slice (some ⟨w.heap.size, 0, none⟩) 16 16) 16 (ia (wordsTo bs (k + 1)))) := by
        have := (World.ownsRow.stored ho (k / 4) (.int .i64 ((wordsTo bs k).getD (k / 4) 0 + bs.getD k 0 * 2 ^ (8 * (k % 4))))).1
        rw [ia_set] at this
        rw [wordsTo, hj.1]
        exact this
      obtain ⟨hv0, hv1⟩ := hv
      obtain ⟨hx0, hx1⟩ := hx
      clear hj
      generalize (wordsTo bs k).getD (k / 4) 0 = m at cm hst hv0 hv1
      generalize bs.getD k 0 = x at ck hst hx0 hx1
      have hr : k % 4 = 0 ∨ k % 4 = 1 ∨ k % 4 = 2 ∨ k % 4 = 3 := by omega
      rcases hr with hr | hr | hr | hr
      all_goals
        have hrI : (k : Int) % 4 = ((k % 4 : Nat) : Int) := by omega
        rw [hr] at hrI hst hv1
        simp only [Nat.reduceMul, Int.reducePow] at hst hv1
        try rw [Int.mul_one] at hst
        clear hr
        go_wp2_with fail
        go_region
        go_wp2_with fail
        go_roundw
        case rel => exact ⟨k + 1, by omega, by go_num, (hb.setCell (p := ⟨w.heap.size, k / 4, none⟩) (Nat.le_refl _) _).drew, hst.out⟩
        case measure => simp [intOf]; omega
    · obtain rfl : k = bs.length := by omega
      go_wp2_with fail
      go_ret
      exact ⟨rfl, hb, ho⟩
set_option maxRecDepth 100000 in
theorem in_yes (n a b : Int) (w : World) (h1 : a ≤ n) (h2 : n ≤ b) : Calls Tryd.prog 50 #[.int .i64 n, .int .i64 a, .int .i64 b] w fun e w' => e = .returned (.bool true) ∧ w = w' := by
  go_enter Tryd.func50, Tryd.ntmps50
  go_wp2
  go_ret
  exact ⟨rfl, rfl⟩
set_option maxRecDepth 100000 in
theorem in_no (n a b : Int) (w : World) (h1 : a ≤ n) (h2 : ¬ n ≤ b) : Calls Tryd.prog 50 #[.int .i64 n, .int .i64 a, .int .i64 b] w fun e w' => e = .returned (.bool false) ∧ w = w' := by
  go_enter Tryd.func50, Tryd.ntmps50
  go_wp2
  go_ret
  exact ⟨rfl, rfl⟩
set_option maxRecDepth 100000 in
theorem i64_one (bs : List Int) : ∀ u ∈ bs.map (Value.int .i64), u.oneCell' = true := by
  intro u hu; simp at hu; obtain ⟨x, _, rfl⟩ := hu; rfl
/-- P1.3: the orders, as the document's text writes them. -/
def rowS : List ByteArray := [⟨#[48, 49, 50, 51, 52, 53, 54, 55, 56, 57, 97, 98, 99, 100, 101, 102]⟩, ⟨#[101, 97, 52, 56, 57, 102, 100, 54, 49, 99, 48, 50, 98, 55, 53, 51]⟩, ⟨#[98, 56, 99, 48, 53, 50, 102, 100, 97, 101, 51, 54, 55, 49, 57, 52]⟩, ⟨#[55, 57, 51, 49, 100, 99, 98, 101, 50, 54, 53, 97, 52, 48, 102, 56]⟩, ⟨#[57, 48, 53, 55, 50, 52, 97, 102, 101, 49, 98, 99, 54, 56, 51, 100]⟩, ⟨#[50, 99, 54, 97, 48, 98, 56, 51, 52, 100, 55, 53, 102, 101, 49, 57]⟩, ⟨#[99, 53, 49, 102, 101, 100, 52, 97, 48, 55, 54, 51, 57, 50, 56, 98]⟩, ⟨#[100, 98, 55, 101, 99, 49, 51, 57, 53, 48, 102, 52, 56, 54, 50, 97]⟩, ⟨#[54, 102, 101, 57, 98, 51, 48, 56, 99, 50, 100, 55, 49, 52, 97, 53]⟩, ⟨#[97, 50, 56, 52, 55, 54, 49, 53, 102, 98, 57, 101, 51, 99, 100, 48]⟩]
set_option maxRecDepth 100000 in
theorem rowS_size : ∀ r, r < 10 → (rowS.getD r ByteArray.empty).size = 16 := by decide
set_option maxRecDepth 100000 in
theorem rowS_code : ∀ r, r < 10 → ∀ k, k < 16 → ((rowS.getD r ByteArray.empty).data.toList.getD k 0).toNat = (if ordF.getD (r * 16 + k) 0 < 10 then 48 + ordF.getD (r * 16 + k) 0 else 87 + ordF.getD (r * 16 + k) 0) := by decide +kernel
set_option maxRecDepth 100000 in
theorem row_index (r k : Nat) (hr : r < 10) (hk : k < 16) (w : World) :
    (Instr.index 9 (.string (rowS.getD r ByteArray.empty)) (.int .i64 k)).run Tryd.prog w = .ok (.int .u8 ((if ordF.getD (r * 16 + k) 0 < 10 then 48 + ordF.getD (r * 16 + k) 0 else 87 + ordF.getD (r * 16 + k) 0 : Nat) : Int)) w := by
  have h1 := rowS_size r hr
  have h2 := rowS_code r hr k hk
  generalize rowS.getD r ByteArray.empty = S at h1 h2 ⊢
  have hk2 : k < S.size := by omega
  have hd : (0 : Int) ≤ (k : Int) ∧ (k : Int) < S.size := by omega
  rw [run_index_string w _ S .i64 k Tryd.underlying9, dif_pos hd, ← h2]
  have hk3 : k < S.data.toList.length := by simpa using hk2
  have e : S.data.toList.getD k 0 = S[(k : Int).toNat]'(by simpa using hk2) := by
    rw [List.getD, List.getElem?_eq_getElem hk3]
    rfl
  rw [e]
set_option maxRecDepth 100000 in
theorem rows_cell (W : World) (r : Nat) (hr : r < 10) : (W.alloc (.cells #[.string ⟨#[48, 49, 50, 51, 52, 53, 54, 55, 56, 57, 97, 98, 99, 100, 101, 102]⟩, .string ⟨#[101, 97, 52, 56, 57, 102, 100, 54, 49, 99, 48, 50, 98, 55, 53, 51]⟩, .string ⟨#[98, 56, 99, 48, 53, 50, 102, 100, 97, 101, 51, 54, 55, 49, 57, 52]⟩, .string ⟨#[55, 57, 51, 49, 100, 99, 98, 101, 50, 54, 53, 97, 52, 48, 102, 56]⟩, .string ⟨#[57, 48, 53, 55, 50, 52, 97, 102, 101, 49, 98, 99, 54, 56, 51, 100]⟩, .string ⟨#[50, 99, 54, 97, 48, 98, 56, 51, 52, 100, 55, 53, 102, 101, 49, 57]⟩, .string ⟨#[99, 53, 49, 102, 101, 100, 52, 97, 48, 55, 54, 51, 57, 50, 56, 98]⟩, .string ⟨#[100, 98, 55, 101, 99, 49, 51, 57, 53, 48, 102, 52, 56, 54, 50, 97]⟩, .string ⟨#[54, 102, 101, 57, 98, 51, 48, 56, 99, 50, 100, 55, 49, 52, 97, 53]⟩, .string ⟨#[97, 50, 56, 52, 55, 54, 49, 53, 102, 98, 57, 101, 51, 99, 100, 48]⟩] 9)).cell? ⟨W.heap.size, r, none⟩ = some (.string (rowS.getD r ByteArray.empty)) := by
  rw [World.cell?_alloc_at _ _ _ _ rfl]
  have h : r = 0 ∨ r = 1 ∨ r = 2 ∨ r = 3 ∨ r = 4 ∨ r = 5 ∨ r = 6 ∨ r = 7 ∨ r = 8 ∨ r = 9 := by omega
  clear hr
  rcases h with rfl | rfl | rfl | rfl | rfl | rfl | rfl | rfl | rfl | rfl <;> rfl

set_option maxRecDepth 100000 in
set_option maxHeartbeats 2000000 in
theorem turnsOf_any (r : Nat) (hr : r < 10) (w : World) :
    Calls Tryd.prog 113 #[.int .i64 r] w fun e w' => ∃ g cap, e = .returned (.slice (some ⟨g, 0, none⟩) 16 cap) ∧ w.heap.size ≤ g ∧ Below w.heap.size w w' ∧ w'.ownsRow w.heap.size 3 1 (.slice (some ⟨g, 0, none⟩) 16 cap) 16 (ia ((ordF.drop (r * 16)).take 16 |>.map Int.ofNat)) := by
  obtain ⟨i, hi, hz0, hz1, hz2⟩ := info_parts infoInt
  have hrI : (r : Int) < 10 := by omega
  have hrow := rows_cell w r hr
  go_enter Tryd.func113, Tryd.ntmps113
  go_wp2_with fail
  go_loopw [5, 4] (fun j v wr => ∃ k : Nat, k ≤ 16 ∧ j = .int .i64 k ∧ Below w.heap.size w wr ∧ wr.cell? ⟨w.heap.size, r, none⟩ = some (.string (rowS.getD r ByteArray.empty)) ∧ wr.ownsRow (w.heap.size + 1) 3 1 v k (ia ((ordF.drop (r * 16)).take k |>.map Int.ofNat))) (fun j _ _ => 16 - (intOf j).toNat)
  case atStart => exact ⟨0, Nat.zero_le _, rfl, (Below.refl _ _).alloc (Nat.le_refl _) _, hrow, World.ownsRow_nil _ _ _ _⟩
  case round =>
    clear hrow
    obtain ⟨k, hk, rfl, hb, hc, ho⟩ := hrel
    by_cases hlt : k < 16
    · have hltI : (k : Int) < 16 := by omega
      have hix := row_index r k hr hlt
      have hlen : r * 16 + k < ordF.length := by have : ordF.length = 160 := rfl; omega
      have ho16 := ordF_lt (r * 16 + k) (by omega)
      have hst : Hid (((ordF.drop (r * 16)).take (k + 1)).map Int.ofNat = ((ordF.drop (r * 16)).take k).map Int.ofNat ++ [((ordF.getD (r * 16 + k) 0 : Nat) : Int)]) := by
        show _ = _
        rw [List.take_succ_eq_append_getElem (by simp; omega), List.map_append]
        simp [List.getD, hlen]
      have hsz : w.heap.size + 1 ≤ wr.heap.size := by have := block_lt_of_cell hc; simp at this; omega
      clear hlen
      generalize ordF.getD (r * 16 + k) 0 = o at hix hst ho16
      by_cases h10 : o < 10
      · have hi2 : ∀ w, (Instr.index 9 (.string (rowS.getD r ByteArray.empty)) (.int .i64 k)).run Tryd.prog w = .ok (.int .u8 (48 + (o : Int))) w := fun w => by rw [hix w, if_pos h10]; simp
        clear hix
        have Hc : Hid (wr.cell? ⟨w.heap.size, r, none⟩ = some (.string (rowS.getD r ByteArray.empty))) := hc
        generalize rowS.getD r ByteArray.empty = S at *
        have hoI : (o : Int) < 10 := by omega
        go_wp2_with fail
        refine (in_yes _ _ _ _ (by omega) (by omega)).mono ?_
        rintro e w' ⟨rfl, rfl⟩
        go_wp2_with (at_builtin; refine wpList_append_own _ rfl _ _ 61 rfl (w.heap.size + 1) 3 i (.int .i64 0) 1 8 Tryd.underlying61 hi hz0 hz1 hz2 rfl (by decide) _ k _ rfl (ho.alloc _) ⟨wr.heap.size, 0, none⟩ 1 1 [.int .i64 (48 + (o : Int) - 48)] rfl rfl (cells_new _ _ _) (i64_one [_]) (by unfold maxLen; omega) (by omega) (le_alloc hsz _) ?_; intro v1 w1 ho1 hg1 _)
        rw [show (48 : Int) + o - 48 = o by omega] at ho1
        have hb1 := Below.grown (hb.alloc hb.size _) hg1 (le_alloc hb.size _) (fun q e => Nat.le_of_succ_le (ho.lt q e).1)
        have hcc : w1.cell? ⟨w.heap.size, r, none⟩ = some (.string S) := by
          refine hg1.cell (a := ⟨w.heap.size, r, none⟩) ?_ ?_
          · exact (World.cell?_alloc_past _ _ _ (by omega)).trans Hc.out
          · intro e; have := (ho.lt _ e.symm).1; simp at this; omega
        go_roundw
        case rel =>
          refine ⟨k + 1, by omega, by go_num, hb1, hcc, ?_⟩
          rw [hst.out]
          simpa [ia] using ho1
        case measure => simp [intOf]; omega
      · have hi2 : ∀ w, (Instr.index 9 (.string (rowS.getD r ByteArray.empty)) (.int .i64 k)).run Tryd.prog w = .ok (.int .u8 (87 + (o : Int))) w := fun w => by rw [hix w, if_neg h10]; simp
        clear hix
        have Hc : Hid (wr.cell? ⟨w.heap.size, r, none⟩ = some (.string (rowS.getD r ByteArray.empty))) := hc
        generalize rowS.getD r ByteArray.empty = S at *
        have hoI : (o : Int) < 16 := by omega
        go_wp2_with fail
        refine (in_no _ _ _ _ (by omega) (by omega)).mono ?_
        rintro e w' ⟨rfl, rfl⟩
        go_wp2_with (at_builtin; refine wpList_append_own _ rfl _ _ 61 rfl (w.heap.size + 1) 3 i (.int .i64 0) 1 8 Tryd.underlying61 hi hz0 hz1 hz2 rfl (by decide) _ k _ rfl (ho.alloc _) ⟨wr.heap.size, 0, none⟩ 1 1 [.int .i64 (87 + (o : Int) - 97 + 10)] rfl rfl (cells_new _ _ _) (i64_one [_]) (by unfold maxLen; omega) (by omega) (le_alloc hsz _) ?_; intro v1 w1 ho1 hg1 _)
        rw [show (87 : Int) + o - 97 + 10 = o by omega] at ho1
        have hb1 := Below.grown (hb.alloc hb.size _) hg1 (le_alloc hb.size _) (fun q e => Nat.le_of_succ_le (ho.lt q e).1)
        have hcc : w1.cell? ⟨w.heap.size, r, none⟩ = some (.string S) := by
          refine hg1.cell (a := ⟨w.heap.size, r, none⟩) ?_ ?_
          · exact (World.cell?_alloc_past _ _ _ (by omega)).trans Hc.out
          · intro e; have := (ho.lt _ e.symm).1; simp at this; omega
        go_roundw
        case rel =>
          refine ⟨k + 1, by omega, by go_num, hb1, hcc, ?_⟩
          rw [hst.out]
          simpa [ia] using ho1
        case measure => simp [intOf]; omega
    · obtain rfl : k = 16 := by omega
      have hf : ∃ g cap, u4 = .slice (some ⟨g, 0, none⟩) 16 cap ∧ w.heap.size ≤ g := by
        rcases ho.2 with ⟨_, h0⟩ | ⟨g, cap, cur, rfl, hg, _⟩
        · cases h0
        · exact ⟨g, cap, rfl, by omega⟩
      obtain ⟨g, cap, hv, hg⟩ := hf
      subst hv
      go_wp2_with fail
      go_ret
      exact ⟨g, cap, rfl, hg, hb, ownsRow_base ho (Nat.le_succ _)⟩
end Go.Proofs.YtbmodfegcmaieaaDoor

namespace Go.Proofs.YtbmodfegcmaieaaDoor
open Go.RowKit

set_option maxRecDepth 100000 in
theorem getD_W1 {vs : List Int} (h : ∀ z ∈ vs, W1 z) (j : Nat) : W1 (vs.getD j 0) := by
  rcases Nat.lt_or_ge j vs.length with g | g
  · rw [List.getD, List.getElem?_eq_getElem g]; exact h _ (List.getElem_mem g)
  · rw [List.getD, List.getElem?_eq_none g]; exact ⟨by decide, by decide⟩
set_option maxRecDepth 100000 in
theorem set_W1 {vs : List Int} (h : ∀ z ∈ vs, W1 z) (i : Nat) {x : Int} (hx : W1 x) : ∀ z ∈ vs.set i x, W1 z := by
  intro z hz
  rcases List.mem_or_eq_of_mem_set hz with hz | rfl
  · exact h z hz
  · exact hx
set_option maxRecDepth 100000 in
theorem fw_W1 : ∀ z ∈ fw, W1 z := by unfold W1; decide
set_option maxRecDepth 100000 in
theorem spreadTo_eq (s : List Int) (hs : s.length = 8) : spreadTo s 8 = s ++ fw := by
  obtain ⟨a, b, c, d, e, f, g, i, rfl⟩ := list8 s hs
  rfl
set_option maxRecDepth 100000 in
theorem spread_W1 (s : List Int) (_hs : s.length = 8) (hw : ∀ z ∈ s, W1 z) : ∀ z ∈ s ++ fw, W1 z := by
  intro z hz
  rcases List.mem_append.1 hz with h | h
  · exact hw z h
  · exact fw_W1 z h
set_option maxRecDepth 100000 in
/-- The document's v[12] and v[14]. -/
theorem spreadA_eq (s : List Int) (hs : s.length = 8) (hw : ∀ z ∈ s, W1 z) (n : Int) (hn : W1 n) : (s ++ fw).set 12 (bits .xor .i64 ((s ++ fw).getD 12 0) n) = spreadA s n := by
  rw [spreadA, spreadTo_eq s hs, xor64 (getD_W1 (spread_W1 s hs hw) 12) hn, Int.emod_eq_of_lt hn.1 hn.2]
set_option maxRecDepth 100000 in
theorem spreadA_W1 (s : List Int) (hs : s.length = 8) (hw : ∀ z ∈ s, W1 z) (n : Int) (hn : W1 n) : ∀ z ∈ spreadA s n, W1 z := by
  rw [← spreadA_eq s hs hw n hn]
  refine set_W1 (spread_W1 s hs hw) 12 ?_
  rw [xor64 (getD_W1 (spread_W1 s hs hw) 12) hn]
  exact W1.xor (getD_W1 (spread_W1 s hs hw) 12) hn
set_option maxRecDepth 100000 in
theorem xor_comm32 {x y : Int} (hx : W1 x) (hy : W1 y) : bits .xor .u32 x y = bits .xor .u32 y x := by
  obtain ⟨a, rfl, ha⟩ := hx.nat
  obtain ⟨b, rfl, hb⟩ := hy.nat
  rw [u32_xor_nat a b ha hb, u32_xor_nat b a hb ha, Nat.xor_comm]
set_option maxRecDepth 100000 in
theorem xor_assoc32 {x y z : Int} (hx : W1 x) (hy : W1 y) (hz : W1 z) : bits .xor .u32 (bits .xor .u32 x y) z = bits .xor .u32 x (bits .xor .u32 y z) := by
  obtain ⟨a, rfl, ha⟩ := hx.nat
  obtain ⟨b, rfl, hb⟩ := hy.nat
  obtain ⟨c, rfl, hc⟩ := hz.nat
  have h1 : a ^^^ b < 2 ^ 32 := Nat.xor_lt_two_pow (by omega) (by omega)
  have h2 : b ^^^ c < 2 ^ 32 := Nat.xor_lt_two_pow (by omega) (by omega)
  rw [u32_xor_nat a b ha hb, u32_xor_nat b c hb hc, u32_xor_nat _ c (by omega) hc, u32_xor_nat a _ ha (by omega), Nat.xor_assoc]
set_option maxRecDepth 100000 in
theorem max_W1 : W1 IntKind.u32.max := by unfold W1; decide
set_option maxRecDepth 100000 in
theorem mask_W1 : W1 4294967295 := by unfold W1; decide
set_option maxRecDepth 100000 in
theorem spreadL_true (s : List Int) (hs : s.length = 8) (hw : ∀ z ∈ s, W1 z) (n : Int) (hn : W1 n) : (spreadA s n).set 14 (bits .xor .i64 ((spreadA s n).getD 14 0) 4294967295) = spreadL s n true := by
  have e : (spreadA s n).getD 14 0 = (spreadTo s 8).getD 14 0 := by rw [spreadA, getD_set_ne _ _ _ _ (by decide)]
  have hw14 := getD_W1 (spreadA_W1 s hs hw n hn) 14
  rw [xor64 hw14 mask_W1, xor_comm32 hw14 mask_W1, e]
  rfl
set_option maxRecDepth 100000 in
theorem spreadL_W1 (s : List Int) (hs : s.length = 8) (hw : ∀ z ∈ s, W1 z) (n : Int) (hn : W1 n) (last : Bool) : ∀ z ∈ spreadL s n last, W1 z := by
  cases last
  · exact spreadA_W1 s hs hw n hn
  · rw [← spreadL_true s hs hw n hn]
    refine set_W1 (spreadA_W1 s hs hw n hn) 14 ?_
    rw [xor64 (getD_W1 (spreadA_W1 s hs hw n hn) 14) mask_W1]
    exact W1.xor (getD_W1 (spreadA_W1 s hs hw n hn) 14) mask_W1
set_option maxRecDepth 100000 in
theorem lane_lo : ∀ k, k < 4 → laneF.getD (k * 4) 0 = k ∧ laneF.getD (k * 4 + 1) 0 = k + 4 ∧ laneF.getD (k * 4 + 2) 0 = k + 8 ∧ laneF.getD (k * 4 + 3) 0 = k + 12 := by decide
set_option maxRecDepth 100000 in
theorem lane_hi : ∀ k, k < 4 → laneF.getD ((4 + k) * 4) 0 = k ∧ laneF.getD ((4 + k) * 4 + 1) 0 = 4 + (k + 1) % 4 ∧ laneF.getD ((4 + k) * 4 + 2) 0 = 8 + (k + 2) % 4 ∧ laneF.getD ((4 + k) * 4 + 3) 0 = 12 + (k + 3) % 4 := by decide
set_option maxRecDepth 100000 in
theorem lanesTo_W1 (m v : List Int) (hl : v.length = 16) (hv : ∀ z ∈ v, W1 z) (r k : Nat) (hk : k ≤ 8) : ∀ z ∈ lanesTo m r v k, W1 z := by
  induction k with
  | zero => exact hv
  | succ k ih =>
    have h := laneF_ok k (by omega)
    exact mixL_W1 _ (ih (by omega)) (by rw [lanesTo_length, hl]) _ _ _ _ h.2.1 h.2.2.2.1 _ _
set_option maxRecDepth 100000 in
theorem roundsTo_W1 (m v : List Int) (hl : v.length = 16) (hv : ∀ z ∈ v, W1 z) (r : Nat) : ∀ z ∈ roundsTo m v r, W1 z := by
  induction r with
  | zero => exact hv
  | succ r ih => exact lanesTo_W1 m _ (by rw [roundsTo_length, hl]) ih r 8 (Nat.le_refl _)
def oRow (r : Nat) : List Int := ((ordF.drop (r * 16)).take 16).map Int.ofNat
set_option maxRecDepth 100000 in
theorem oRow_length (r : Nat) (hr : r < 10) : (oRow r).length = 16 := by
  have : ordF.length = 160 := rfl
  simp [oRow]; omega
set_option maxRecDepth 100000 in
theorem oRow_get (r j : Nat) (hr : r < 10) (hj : j < 16) : (oRow r).getD j 0 = ((ordF.getD (r * 16 + j) 0 : Nat) : Int) := by
  have h : r * 16 + j < ordF.length := by have : ordF.length = 160 := rfl; omega
  simp [oRow, List.getD, hj, h]
set_option maxRecDepth 100000 in
theorem owns_below {w w' : World} {base B n : Nat} {e : TypeId} {s : Nat} {v : Value} {xs : List Value} (h : w.ownsRow base e s v n xs) (hb : Below B w w') (hB : ∀ q, v.ownBlock = some q → q < B) : w'.ownsRow base e s v n xs := by
  obtain ⟨h1, h2⟩ := h
  refine ⟨h1, ?_⟩
  rcases h2 with h2 | ⟨g, cap, cur, rfl, hg, hc, r⟩
  · exact .inl h2
  · exact .inr ⟨g, cap, cur, rfl, hg, (hb.block g (hB g rfl)).trans hc, r⟩
set_option maxRecDepth 100000 in
theorem owns_below' {w w' : World} {base n : Nat} {e : TypeId} {s : Nat} {v : Value} {xs : List Value} (h : w.ownsRow base e s v n xs) (hb : Below w.heap.size w w') : w'.ownsRow base e s v n xs :=
  owns_below h hb fun q e => (h.lt q e).2
set_option maxRecDepth 100000 in
/-- A row stays where another one is rewritten. -/
theorem owns_other {w w' : World} {base n g g' c : Nat} {e : TypeId} {s : Nat} {xs : List Value} (h : w.ownsRow base e s (.slice (some ⟨g, 0, none⟩) n c) n xs) (hg : w.grownBy w' (some g')) (hne : g ≠ g') : w'.ownsRow base e s (.slice (some ⟨g, 0, none⟩) n c) n xs := by
  obtain ⟨h1, h2⟩ := h
  refine ⟨h1, ?_⟩
  rcases h2 with ⟨h2, _⟩ | ⟨g2, cap, cur, e2, hg2, hc, r⟩
  · cases h2
  · cases e2
    exact .inr ⟨g, c, cur, rfl, hg2, (hg.block g (lt_of_heap hc) (by simpa using hne)).trans hc, r⟩
set_option maxRecDepth 100000 in
theorem ia_app (a b : List Int) : ia (a ++ b) = ia a ++ ia b := by simp [ia]
set_option maxRecDepth 100000 in
theorem below_of_grown {w w' : World} {B g : Nat} (h : w.grownBy w' (some g)) (hB : B ≤ w.heap.size) (hg : B ≤ g) : Below B w w' := ⟨h.os, h.tape, h.output, h.size, fun k hk => h.block k (by omega) (by simp; omega)⟩
/-- What lies in memory inside taken: the sixteen words, and the block's. -/
structure TkS (w w1 : World) (M X : List Int) (gv cv : Nat) (wx : World) : Prop where
  bel : Below w.heap.size w wx
  v : wx.ownsRow w1.heap.size 3 1 (.slice (some ⟨gv, 0, none⟩) 16 cv) 16 (ia X)
  m : wx.ownsRow w.heap.size 3 1 (.slice (some ⟨w.heap.size, 0, none⟩) 16 16) 16 (ia M)
set_option maxRecDepth 100000 in
theorem TkS.gv {w w1 : World} {M X : List Int} {gv cv : Nat} {wx : World} (h : TkS w w1 M X gv cv wx) : w1.heap.size ≤ gv := (h.v.lt _ rfl).1
set_option maxRecDepth 100000 in
theorem TkS.upd {w w1 : World} {M X X' : List Int} {gv cv : Nat} {wx w2 : World} (h : TkS w w1 M X gv cv wx) (hm : w.heap.size < w1.heap.size) (ho : w2.ownsRow w1.heap.size 3 1 (.slice (some ⟨gv, 0, none⟩) 16 cv) 16 (ia X')) (hg : wx.grownBy w2 (some gv)) : TkS w w1 M X' gv cv w2 := by
  have h1 := h.gv
  exact ⟨h.bel.trans (below_of_grown hg h.bel.size (by omega)), ho, owns_other h.m hg (by omega)⟩
set_option maxRecDepth 100000 in
theorem TkS.below {w w1 : World} {M X : List Int} {gv cv : Nat} {wx w2 : World} (h : TkS w w1 M X gv cv wx) (hb : Below wx.heap.size wx w2) : TkS w w1 M X gv cv w2 :=
  ⟨h.bel.trans (hb.mono h.bel.size), owns_below' h.v hb, owns_below' h.m hb⟩
set_option maxRecDepth 100000 in
theorem TkS.drewN {w w1 : World} {M X : List Int} {gv cv : Nat} {wx : World} (h : TkS w w1 M X gv cv wx) (n : Nat) : TkS w w1 M X gv cv (wx.drewN n) :=
  h.below ⟨rfl, rfl, rfl, Nat.le_refl _, fun _ _ => rfl⟩
set_option maxRecDepth 100000 in
theorem grown_drew {w w1 : World} {r : Option Nat} (k : w.drew.grownBy w1 r) : w.grownBy w1 r := ⟨k.os, k.tape, k.output, k.size, k.block⟩
set_option maxRecDepth 100000 in
theorem fw_take : fw.take 8 = fw := rfl
set_option maxRecDepth 100000 in
theorem TkS.belowB {w w1 : World} {M X : List Int} {gv cv B : Nat} {wx w2 : World} (h : TkS w w1 M X gv cv wx) (hb : Below B wx w2) (hg : gv < B) (hm : w.heap.size < B) : TkS w w1 M X gv cv w2 :=
  ⟨h.bel.trans (hb.mono (Nat.le_of_lt hm)), owns_below h.v hb (by intro q e; cases e; exact hg), owns_below h.m hb (by intro q e; cases e; exact hm)⟩
set_option maxRecDepth 100000 in
theorem foldTo_part (s v : List Int) (hs : s.length = 8) (n : Nat) (hn : n ≤ 8) (j : Nat) : (foldTo s v n).getD j 0 = if j < n then bits .xor .u32 (s.getD j 0) (bits .xor .u32 (v.getD j 0) (v.getD (j + 8) 0)) else s.getD j 0 := by
  induction n with
  | zero => simp [foldTo]
  | succ n ih =>
    have hih := ih (by omega)
    rw [foldTo]
    by_cases hj : j = n
    · subst hj
      rw [getD_set_eq _ _ _ (by rw [foldTo_length, hs]; omega), hih, if_neg (Nat.lt_irrefl _), if_pos (Nat.lt_succ_self _)]
    · rw [getD_set_ne _ _ _ _ hj, hih]
      by_cases hl : j < n
      · rw [if_pos hl, if_pos (by omega)]
      · rw [if_neg hl, if_neg (by omega)]
set_option maxRecDepth 100000 in
theorem foldTo_get (s v : List Int) (hs : s.length = 8) (hsw : ∀ z ∈ s, W1 z) (hv : ∀ z ∈ v, W1 z) (k : Nat) (hk : k < 8) : (foldTo s v 8).getD k 0 = bits .xor .i64 (bits .xor .i64 (s.getD k 0) (v.getD k 0)) (v.getD (k + 8) 0) := by
  have a := getD_W1 hsw k
  have b := getD_W1 hv k
  have c := getD_W1 hv (k + 8)
  rw [foldTo_part s v hs 8 (Nat.le_refl _) k, if_pos hk, xor64 a b, xor64 (W1.xor a b) c, xor_assoc32 a b c]
end Go.Proofs.YtbmodfegcmaieaaDoor

namespace Go.Proofs.YtbmodfegcmaieaaDoor
open Go.RowKit

set_option maxRecDepth 100000 in
set_option maxHeartbeats 4000000 in
theorem taken_any (s bs : List Int) (gs cs : Nat) (sa : Option Addr) (n cap : Nat) (many : Int) (last : Bool) (w : World) (hn : n = bs.length) (hl : s.length = 8) (hsw : ∀ z ∈ s, W1 z) (hbl : bs.length ≤ 64) (hc : BytesAt w sa bs) (hu : ∀ j, 0 ≤ bs.getD j 0 ∧ bs.getD j 0 ≤ 255) (hmany : W1 many)
    (hs : ∀ j, j < 8 → w.cell? ⟨gs, j, none⟩ = some (.int .i64 (s.getD j 0))) :
    Calls Tryd.prog 93 #[.slice (some ⟨gs, 0, none⟩) 8 cs, .slice sa n cap, .int .i64 many, .bool last] w fun e w' => ∃ g c, e = .returned (.slice (some ⟨g, 0, none⟩) 8 c) ∧ Below w.heap.size w w' ∧ w'.ownsRow w.heap.size 3 1 (.slice (some ⟨g, 0, none⟩) 8 c) 8 (ia (takeL s bs many last)) := by
  subst hn
  obtain ⟨i, hi, hz0, hz1, hz2⟩ := info_parts infoInt
  have hgs : gs < w.heap.size := block_lt_of_cell (hs 0 (by decide))
  go_enter Tryd.func93, Tryd.ntmps93
  go_wp2_with fail
  refine (wordsOf_any bs sa _ cap w rfl hbl hc hu).mono ?_
  rintro e w1 ⟨rfl, hb1, hom⟩
  have hm1 : w.heap.size < w1.heap.size := (hom.lt _ rfl).2
  go_wp2_with fail
  go_loopw [11, 10] (fun j v wr => ∃ k : Nat, k ≤ 8 ∧ j = .int .i64 k ∧ Below w1.heap.size w1 wr ∧ wr.ownsRow w1.heap.size 3 1 v k (ia (s.take k))) (fun j _ _ => 8 - (intOf j).toNat)
  case atStart => exact ⟨0, Nat.zero_le _, rfl, Below.refl _ _, World.ownsRow_nil _ _ _ _⟩
  case round =>
    obtain ⟨k, hk, rfl, hb, ho⟩ := hrel
    by_cases hlt : k < 8
    · have hltI : (k : Int) < 8 := by omega
      have ck : wr.cell? ⟨gs, k, none⟩ = some (.int .i64 (s.getD k 0)) := (hb.cell (p := ⟨gs, k, none⟩) (Nat.lt_trans hgs hm1)).trans ((hb1.cell (p := ⟨gs, k, none⟩) hgs).trans (hs k hlt))
      have hst : Hid (s.take (k + 1) = s.take k ++ [s.getD k 0]) := by
        show _ = _
        rw [List.take_succ_eq_append_getElem (by omega)]
        simp [List.getD, hl, hlt]
      generalize s.getD k 0 = x at ck hst
      go_wp2_with (at_builtin; refine wpList_append_own _ rfl _ _ 61 rfl w1.heap.size 3 i (.int .i64 0) 1 8 Tryd.underlying61 hi hz0 hz1 hz2 rfl (by decide) _ k _ rfl (World.ownsRow.alloc ho _) ⟨wr.heap.size, 0, none⟩ 1 1 [.int .i64 x] rfl rfl (cells_new _ _ _) (i64_one [_]) (by unfold maxLen; omega) (by omega) (le_alloc hb.size _) ?_; intro v1 w2 ho1 hg1 _)
      have hb2 := Below.grown (hb.alloc hb.size _) hg1 (le_alloc hb.size _) (fun q e => (ho.lt q e).1)
      go_roundw
      case rel =>
        refine ⟨k + 1, by omega, by go_num, hb2, ?_⟩
        rw [hst.out, ia_app]
        exact ho1
      case measure => simp [intOf]; omega
    · obtain rfl : k = 8 := by omega
      rw [List.take_of_length_le (by omega)] at ho
      go_wp2_with fail
      go_loopw [12, 10] (fun j v wr => ∃ k : Nat, k ≤ 8 ∧ j = .int .i64 k ∧ Below w1.heap.size w1 wr ∧ wr.ownsRow w1.heap.size 3 1 v (8 + k) (ia (s ++ fw.take k))) (fun j _ _ => 8 - (intOf j).toNat)
      case atStart => exact ⟨0, Nat.zero_le _, rfl, hb, by simpa using ho⟩
      case round =>
        clear ho hb
        obtain ⟨k, hk, rfl, hb, ho⟩ := hrel
        by_cases hlt : k < 8
        · have hltI : (k : Int) < 8 := by omega
          have hst : Hid (s ++ fw.take (k + 1) = (s ++ fw.take k) ++ [fw.getD k 0]) := by
            show _ = _
            have hf : k < fw.length := hlt
            rw [List.take_succ_eq_append_getElem hf, List.append_assoc]
            simp [List.getD, hf]
          go_wp2_with fail
          refine (firstWord_any k hlt _).mono ?_
          rintro e w3 ⟨rfl, hb3⟩
          have ho3 := owns_below' ho hb3
          have hB3 := hb.trans (hb3.mono hb.size)
          generalize fw.getD k 0 = x at hst ⊢
          go_wp2_with (at_builtin; refine wpList_append_own _ rfl _ _ 61 rfl w1.heap.size 3 i (.int .i64 0) 1 8 Tryd.underlying61 hi hz0 hz1 hz2 rfl (by decide) _ (8 + k) _ rfl (World.ownsRow.alloc ho3 _) ⟨w3.heap.size, 0, none⟩ 1 1 [.int .i64 x] rfl rfl (cells_new _ _ _) (i64_one [_]) (by unfold maxLen; omega) (by omega) (le_alloc hB3.size _) ?_; intro v1 w2 ho1 hg1 _)
          have hb2 := Below.grown (hB3.alloc hB3.size _) hg1 (le_alloc hB3.size _) (fun q e => (ho3.lt q e).1)
          go_roundw
          case rel =>
            have hR : ∃ k' : Nat, k' ≤ 8 ∧ (Value.int .i64 ((k : Int) + 1)) = .int .i64 k' ∧ Below w1.heap.size w1 w2 ∧ w2.ownsRow w1.heap.size 3 1 v1 (8 + k') (ia (s ++ fw.take k')) :=
              ⟨k + 1, by omega, by go_num, hb2, by rw [hst.out, ia_app, show 8 + (k + 1) = 8 + k + 1 by omega]; exact ho1⟩
            first | exact hR | ((repeat apply Exists.intro); exact ⟨hR, rfl⟩)
          case measure => simp [intOf]; omega
        · obtain rfl : k = 8 := by omega
          rw [fw_take] at ho
          have hf : ∃ gv cv, u10 = .slice (some ⟨gv, 0, none⟩) 16 cv := by
            rcases ho.2 with ⟨_, h0⟩ | ⟨g, c, cur, rfl, _⟩
            · cases h0
            · exact ⟨g, c, rfl⟩
          obtain ⟨gv, cv, hv⟩ := hf
          subst hv
          have hX : TkS w w1 (wordsTo bs bs.length) (s ++ fw) gv cv wr := ⟨hb1.trans (hb.mono (Nat.le_of_lt hm1)), ho, owns_below' hom hb⟩
          have hgv := hX.gv
          have hMw := wordsTo_W1 bs hu bs.length hbl
          have hMl := wordsTo_length bs bs.length
          have hA := spreadA_eq s hl hsw many hmany
          have hlx : (s ++ fw).length = 16 := by simp [hl]; rfl
          have hfin : Hid (takeL s bs many last = foldTo s (roundsTo (wordsTo bs bs.length) (spreadL s many last) 10) 8) := rfl
          clear ho hb hb1 hom hc hu
          generalize wordsTo bs bs.length = M at *
          go_upto_region 11 with (fail)
          go_cut [] (fun wx => TkS w w1 M (spreadA s many) gv cv wx)
          case first =>
            have c12 := (World.ownsRow.cellAt hX.v 12 (by omega)).trans (ia_get _ _ (by rw [hlx]; decide))
            have f12 := World.ownsRow.frozenAt hX.v 12
            have hst := World.ownsRow.stored hX.v 12 (.int .i64 (bits .xor .i64 ((s ++ fw).getD 12 0) many))
            rw [ia_set, hA] at hst
            have Hst : Hid ((wr.setCell ⟨gv, 12, none⟩ (.int .i64 (bits .xor .i64 ((s ++ fw).getD 12 0) many))).ownsRow w1.heap.size 3 1 (.slice (some ⟨gv, 0, none⟩) 16 cv) 16 (ia (spreadA s many)) ∧ wr.grownBy (wr.setCell ⟨gv, 12, none⟩ (.int .i64 (bits .xor .i64 ((s ++ fw).getD 12 0) many))) (some gv)) := hst
            clear hst hA
            generalize (s ++ fw).getD 12 0 = x at *
            go_wp2_with fail
            go_meet
            case rel => exact hX.upd hm1 Hst.out.1 Hst.out.2
          case rest =>
            clear hX hA
            have hX := hcut
            have hlA := spreadA_length s hl many
            have hLt := spreadL_true s hl hsw many hmany
            go_upto_if 48 with (fail)
            go_cut [] (fun wx => TkS w w1 M (spreadL s many last) gv cv wx)
            case first =>
              have c14 := (World.ownsRow.cellAt hX.v 14 (by omega)).trans (ia_get _ _ (by rw [hlA]; decide))
              have f14 := World.ownsRow.frozenAt hX.v 14
              have hst := World.ownsRow.stored hX.v 14 (.int .i64 (bits .xor .i64 ((spreadA s many).getD 14 0) 4294967295))
              rw [ia_set, hLt] at hst
              have Hst : Hid ((wc.setCell ⟨gv, 14, none⟩ (.int .i64 (bits .xor .i64 ((spreadA s many).getD 14 0) 4294967295))).ownsRow w1.heap.size 3 1 (.slice (some ⟨gv, 0, none⟩) 16 cv) 16 (ia (spreadL s many true)) ∧ wc.grownBy (wc.setCell ⟨gv, 14, none⟩ (.int .i64 (bits .xor .i64 ((spreadA s many).getD 14 0) 4294967295))) (some gv)) := hst
              clear hst hLt
              generalize (spreadA s many).getD 14 0 = x at *
              cases last
              · go_wp2_with fail
                go_meet
                case rel => exact hX
              · go_wp2_with fail
                go_meet
                case rel => exact hX.upd hm1 Hst.out.1 Hst.out.2
            case rest =>
              have hY := hcut
              clear hX hLt hlA hcut
              have hXl := spreadL_length s hl many last
              have hXw := spreadL_W1 s hl hsw many hmany last
              generalize spreadL s many last = X0 at *
              go_wp2_with fail
              go_loopw [13] (fun j wr => ∃ r : Nat, r ≤ 10 ∧ j = .int .i64 r ∧ TkS w w1 M (roundsTo M X0 r) gv cv wr) (fun j _ => 10 - (intOf j).toNat)
              case atStart => exact ⟨0, Nat.zero_le _, rfl, hY⟩
              case round =>
                clear hY
                obtain ⟨r, hr, rfl, hX⟩ := hrel
                by_cases hr10 : r < 10
                · have hrI : (r : Int) < 10 := by omega
                  go_wp2_with fail
                  refine (turnsOf_any r hr10 _).mono ?_
                  rintro e w3 ⟨go, co, rfl, hgo, hb3, hO0⟩
                  have hgov : gv < go := Nat.lt_of_lt_of_le (hX.v.lt _ rfl).2 hgo
                  have hO : w3.ownsRow 0 3 1 (.slice (some ⟨go, 0, none⟩) 16 co) 16 (ia (oRow r)) := ownsRow_base hO0 (Nat.zero_le _)
                  replace hX := hX.below hb3
                  have hZ : Hid (roundsTo M X0 (r + 1) = lanesTo M r (roundsTo M X0 r) 8) := rfl
                  replace hXw := roundsTo_W1 M X0 hXl hXw r
                  replace hXl := (roundsTo_length M X0 r).trans hXl
                  clear hO0 hb3 hgo
                  have hfin0 := hfin
                  clear hfin
                  generalize roundsTo M X0 r = X at *
                  go_wp2_with fail
                  go_loopw [15] (fun j wr => ∃ k : Nat, k ≤ 4 ∧ j = .int .i64 k ∧ TkS w w1 M (lanesTo M r X k) gv cv wr ∧ wr.ownsRow 0 3 1 (.slice (some ⟨go, 0, none⟩) 16 co) 16 (ia (oRow r))) (fun j _ => 4 - (intOf j).toNat)
                  case atStart => exact ⟨0, Nat.zero_le _, rfl, hX, hO⟩
                  case round =>
                    clear hX hO
                    obtain ⟨k, hk, rfl, hX, hO⟩ := hrel
                    by_cases hk4 : k < 4
                    · have hkI : (k : Int) < 4 := by omega
                      have o1 := (World.ownsRow.cellAt hO (2 * k) (by omega)).trans (ia_get _ _ (by rw [oRow_length r hr10]; omega))
                      have o2 := (World.ownsRow.cellAt hO (2 * k + 1) (by omega)).trans (ia_get _ _ (by rw [oRow_length r hr10]; omega))
                      rw [oRow_get r _ hr10 (by omega)] at o1 o2
                      have b1 := ordF_lt (r * 16 + (2 * k)) (by omega)
                      have b2 := ordF_lt (r * 16 + (2 * k + 1)) (by omega)
                      obtain ⟨e0, e1, e2, e3⟩ := lane_lo k hk4
                      have hst : Hid (lanesTo M r X (k + 1) = mixL (lanesTo M r X k) (k) (k + 4) (k + 8) (k + 12) (M.getD (ordF.getD (r * 16 + (2 * k)) 0) 0) (M.getD (ordF.getD (r * 16 + (2 * k + 1)) 0) 0)) := by
                        show _ = _
                        rw [lanesTo, laneStep, e0, e1, e2, e3]
                      clear e0 e1 e2 e3
                      generalize ordF.getD (r * 16 + (2 * k)) 0 = q1 at *
                      generalize ordF.getD (r * 16 + (2 * k + 1)) 0 = q2 at *
                      have m1 := (World.ownsRow.cellAt hX.m q1 (by omega)).trans (ia_get _ _ (by rw [hMl]; omega))
                      have m2 := (World.ownsRow.cellAt hX.m q2 (by omega)).trans (ia_get _ _ (by rw [hMl]; omega))
                      have wx := getD_W1 hMw q1
                      have wy := getD_W1 hMw q2
                      generalize M.getD q1 0 = x at m1 wx hst
                      generalize M.getD q2 0 = y at m2 wy hst
                      have g1 : (q1 : Int) < 16 := by omega
                      have g2 : (q2 : Int) < 16 := by omega
                      have hLl : (lanesTo M r X k).length = 16 := by rw [lanesTo_length, hXl]
                      have hLw := lanesTo_W1 M X hXl hXw r k (by omega)
                      have h2k : 2 * (k : Int) < 16 := by omega
                      go_wp2_with fail
                      have hn1 : (some go : Option Nat) ≠ some gv := by simp; omega
                      have hn2 : (some w.heap.size : Option Nat) ≠ some gv := by simp; omega
                      clear hs hsw hMw hXw hXl hmany hfin0 hZ
                      have h2k1 : 2 * (k : Int) + 1 < 16 := by omega
                      have t0 : ((2 * (k : Int) : Int)).toNat = 2 * k := by omega
                      have u0_ : IntKind.i64.wrap (2 * (k : Int)) = 2 * (k : Int) := by rw [IntKind.wrap_i64]; omega
                      have z0 : (0 : Int) ≤ 2 * (k : Int) := by omega
                      have t1 : ((2 * (k : Int) + 1 : Int)).toNat = 2 * k + 1 := by omega
                      have u1_ : IntKind.i64.wrap (2 * (k : Int) + 1) = 2 * (k : Int) + 1 := by rw [IntKind.wrap_i64]; omega
                      have z1 : (0 : Int) ≤ 2 * (k : Int) + 1 := by omega
                      have eb : Hid (IntKind.i64.wrap ((k : Int) + 4) = ((k + 4 : Nat) : Int)) := by show _ = _; rw [IntKind.wrap_i64]; omega
                      have ec : Hid (IntKind.i64.wrap ((k : Int) + 8) = ((k + 8 : Nat) : Int)) := by show _ = _; rw [IntKind.wrap_i64]; omega
                      have ed : Hid (IntKind.i64.wrap ((k : Int) + 12) = ((k + 12 : Nat) : Int)) := by show _ = _; rw [IntKind.wrap_i64]; omega
                      go_region_held2 (fun w' => w'.cell? ⟨go, 2 * k, none⟩ = some (.int .i64 q1) ∧ w'.cell? ⟨go, 2 * k + 1, none⟩ = some (.int .i64 q2) ∧ w'.cell? ⟨w.heap.size, q1, none⟩ = some (.int .i64 x) ∧ w'.cell? ⟨w.heap.size, q2, none⟩ = some (.int .i64 y)) (go_keep) ((go_at_call 114; refine (mixed_any _ w1.heap.size gv (k) (k + 4) (k + 8) (k + 12) cv _ _ _ _ x y _ rfl eb.out ec.out ed.out hLl hLw wx wy ?_ (by omega) (by omega) (by omega) (by omega) (by omega) (by omega) (by omega) (by omega) (by omega) (by omega)).mono ?_; exact hX.v; rintro e w5 ⟨rfl, ho5, hg5⟩; have s1 := hg5.cell (a := ⟨go, 2 * k, none⟩) o1 hn1; have s2 := hg5.cell (a := ⟨go, 2 * k + 1, none⟩) o2 hn1; have s3 := hg5.cell (a := ⟨w.heap.size, q1, none⟩) m1 hn2; have s4 := hg5.cell (a := ⟨w.heap.size, q2, none⟩) m2 hn2))
                      all_goals
                        go_wp2_with fail
                        go_roundw
                        case rel =>
                          have hg6 := grown_drew hg5
                          refine ⟨k + 1, by omega, by go_num, ?_, owns_other hO hg6 (by omega)⟩
                          rw [hst.out]
                          exact hX.upd hm1 ho5 hg6
                        case measure => simp [intOf]; omega
                    · obtain rfl : k = 4 := by omega
                      go_wp2_with fail
                      go_loopw [16] (fun j wr => ∃ k : Nat, k ≤ 4 ∧ j = .int .i64 k ∧ TkS w w1 M (lanesTo M r X (4 + k)) gv cv wr ∧ wr.ownsRow 0 3 1 (.slice (some ⟨go, 0, none⟩) 16 co) 16 (ia (oRow r))) (fun j _ => 4 - (intOf j).toNat)
                      case atStart => exact ⟨0, Nat.zero_le _, rfl, hX, hO⟩
                      case round =>
                        clear hX hO
                        obtain ⟨k, hk, rfl, hX, hO⟩ := hrel
                        by_cases hk4 : k < 4
                        · have hkI : (k : Int) < 4 := by omega
                          have o1 := (World.ownsRow.cellAt hO (2 * k + 8) (by omega)).trans (ia_get _ _ (by rw [oRow_length r hr10]; omega))
                          have o2 := (World.ownsRow.cellAt hO (2 * k + 9) (by omega)).trans (ia_get _ _ (by rw [oRow_length r hr10]; omega))
                          rw [oRow_get r _ hr10 (by omega)] at o1 o2
                          have b1 := ordF_lt (r * 16 + (2 * k + 8)) (by omega)
                          have b2 := ordF_lt (r * 16 + (2 * k + 9)) (by omega)
                          obtain ⟨e0, e1, e2, e3⟩ := lane_hi k hk4
                          have hst : Hid (lanesTo M r X (4 + (k + 1)) = mixL (lanesTo M r X (4 + k)) (k) (4 + (k + 1) % 4) (8 + (k + 2) % 4) (12 + (k + 3) % 4) (M.getD (ordF.getD (r * 16 + (2 * k + 8)) 0) 0) (M.getD (ordF.getD (r * 16 + (2 * k + 9)) 0) 0)) := by
                            show _ = _
                            rw [show 4 + (k + 1) = (4 + k) + 1 by omega, lanesTo, laneStep, e0, e1, e2, e3, show 2 * (4 + k) = 2 * k + 8 by omega]
                          clear e0 e1 e2 e3
                          generalize ordF.getD (r * 16 + (2 * k + 8)) 0 = q1 at *
                          generalize ordF.getD (r * 16 + (2 * k + 9)) 0 = q2 at *
                          have m1 := (World.ownsRow.cellAt hX.m q1 (by omega)).trans (ia_get _ _ (by rw [hMl]; omega))
                          have m2 := (World.ownsRow.cellAt hX.m q2 (by omega)).trans (ia_get _ _ (by rw [hMl]; omega))
                          have wx := getD_W1 hMw q1
                          have wy := getD_W1 hMw q2
                          generalize M.getD q1 0 = x at m1 wx hst
                          generalize M.getD q2 0 = y at m2 wy hst
                          have g1 : (q1 : Int) < 16 := by omega
                          have g2 : (q2 : Int) < 16 := by omega
                          have hLl : (lanesTo M r X (4 + k)).length = 16 := by rw [lanesTo_length, hXl]
                          have hLw := lanesTo_W1 M X hXl hXw r (4 + k) (by omega)
                          have h2k : 2 * (k : Int) < 16 := by omega
                          go_wp2_with fail
                          have hn1 : (some go : Option Nat) ≠ some gv := by simp; omega
                          have hn2 : (some w.heap.size : Option Nat) ≠ some gv := by simp; omega
                          clear hs hsw hMw hXw hXl hmany hfin0 hZ
                          have h2k1 : 2 * (k : Int) + 8 < 16 := by omega
                          have h2k2 : 2 * (k : Int) + 9 < 16 := by omega
                          have u9_ : IntKind.i64.wrap (2 * (k : Int)) = 2 * (k : Int) := by rw [IntKind.wrap_i64]; omega
                          have t0 : ((2 * (k : Int) + 8 : Int)).toNat = 2 * k + 8 := by omega
                          have u0_ : IntKind.i64.wrap (2 * (k : Int) + 8) = 2 * (k : Int) + 8 := by rw [IntKind.wrap_i64]; omega
                          have z0 : (0 : Int) ≤ 2 * (k : Int) + 8 := by omega
                          have t1 : ((2 * (k : Int) + 9 : Int)).toNat = 2 * k + 9 := by omega
                          have u1_ : IntKind.i64.wrap (2 * (k : Int) + 9) = 2 * (k : Int) + 9 := by rw [IntKind.wrap_i64]; omega
                          have z1 : (0 : Int) ≤ 2 * (k : Int) + 9 := by omega
                          have eb : Hid (IntKind.i64.wrap (4 + (IntKind.i64.wrap ((k : Int) + 1)).tmod 4) = ((4 + (k + 1) % 4 : Nat) : Int)) := by
                            show _ = _
                            rw [show IntKind.i64.wrap ((k : Int) + 1) = (k : Int) + 1 by rw [IntKind.wrap_i64]; omega, Int.tmod_eq_emod_of_nonneg (by omega), IntKind.wrap_i64]; omega
                          have ec : Hid (IntKind.i64.wrap (8 + (IntKind.i64.wrap ((k : Int) + 2)).tmod 4) = ((8 + (k + 2) % 4 : Nat) : Int)) := by
                            show _ = _
                            rw [show IntKind.i64.wrap ((k : Int) + 2) = (k : Int) + 2 by rw [IntKind.wrap_i64]; omega, Int.tmod_eq_emod_of_nonneg (by omega), IntKind.wrap_i64]; omega
                          have ed : Hid (IntKind.i64.wrap (12 + (IntKind.i64.wrap ((k : Int) + 3)).tmod 4) = ((12 + (k + 3) % 4 : Nat) : Int)) := by
                            show _ = _
                            rw [show IntKind.i64.wrap ((k : Int) + 3) = (k : Int) + 3 by rw [IntKind.wrap_i64]; omega, Int.tmod_eq_emod_of_nonneg (by omega), IntKind.wrap_i64]; omega
                          go_region_held2 (fun w' => w'.cell? ⟨go, 2 * k + 8, none⟩ = some (.int .i64 q1) ∧ w'.cell? ⟨go, 2 * k + 9, none⟩ = some (.int .i64 q2) ∧ w'.cell? ⟨w.heap.size, q1, none⟩ = some (.int .i64 x) ∧ w'.cell? ⟨w.heap.size, q2, none⟩ = some (.int .i64 y)) (go_keep) ((go_at_call 114; refine (mixed_any _ w1.heap.size gv (k) (4 + (k + 1) % 4) (8 + (k + 2) % 4) (12 + (k + 3) % 4) cv _ _ _ _ x y _ rfl eb.out ec.out ed.out hLl hLw wx wy ?_ (by omega) (by omega) (by omega) (by omega) (by omega) (by omega) (by omega) (by omega) (by omega) (by omega)).mono ?_; exact hX.v; rintro e w5 ⟨rfl, ho5, hg5⟩; have s1 := hg5.cell (a := ⟨go, 2 * k + 8, none⟩) o1 hn1; have s2 := hg5.cell (a := ⟨go, 2 * k + 9, none⟩) o2 hn1; have s3 := hg5.cell (a := ⟨w.heap.size, q1, none⟩) m1 hn2; have s4 := hg5.cell (a := ⟨w.heap.size, q2, none⟩) m2 hn2))
                          all_goals
                            go_wp2_with fail
                            go_roundw
                            case rel =>
                              have hg6 := grown_drew hg5
                              have hR : ∃ k' : Nat, k' ≤ 4 ∧ (Value.int .i64 ((k : Int) + 1)) = .int .i64 k' ∧ TkS w w1 M (lanesTo M r X (4 + k')) gv cv w5 ∧ w5.ownsRow 0 3 1 (.slice (some ⟨go, 0, none⟩) 16 co) 16 (ia (oRow r)) := ⟨k + 1, by omega, by go_num, by rw [hst.out]; exact hX.upd hm1 ho5 hg6, owns_other hO hg6 (by omega)⟩
                              first | exact hR | ((repeat apply Exists.intro); exact ⟨hR, rfl⟩)
                            case measure => simp [intOf]; omega
                        · obtain rfl : k = 4 := by omega
                          go_wp2_with fail
                          go_roundw
                          case rel =>
                            have hR : ∃ r' : Nat, r' ≤ 10 ∧ (Value.int .i64 ((r : Int) + 1)) = .int .i64 r' ∧ TkS w w1 M (roundsTo M X0 r') gv cv wr := ⟨r + 1, by omega, by go_num, by rw [hZ.out]; exact hX⟩
                            first | exact hR | ((repeat apply Exists.intro); exact ⟨hR, rfl⟩)
                          case measure => simp [intOf]; omega
                · obtain rfl : r = 10 := by omega
                  have hVw := roundsTo_W1 M X0 hXl hXw 10
                  have hVl := (roundsTo_length M X0 10).trans hXl
                  obtain ⟨B, hB⟩ : ∃ B, B = wr.heap.size := ⟨_, rfl⟩
                  have hgB : gv < B := by have h9 : gv < wr.heap.size := (hX.v.lt _ rfl).2; omega
                  have hmB : w.heap.size < B := by omega
                  have hFl : (foldTo s (roundsTo M X0 10) 8).length = 8 := (foldTo_length _ _ _).trans hl
                  have hFg := fun k hk => foldTo_get s (roundsTo M X0 10) hl hsw hVw k hk
                  clear hMw hMl hXw hXl hmany
                  generalize roundsTo M X0 10 = V at *
                  generalize foldTo s V 8 = F at *
                  go_wp2_with fail
                  go_loopw [18, 17] (fun j v wq => ∃ k : Nat, k ≤ 8 ∧ j = .int .i64 k ∧ TkS w w1 M V gv cv wq ∧ B ≤ wq.heap.size ∧ wq.ownsRow B 3 1 v k (ia (F.take k))) (fun j _ _ => 8 - (intOf j).toNat)
                  case atStart => exact ⟨0, Nat.zero_le _, rfl, hX, by omega, World.ownsRow_nil _ _ _ _⟩
                  case round =>
                    clear hX hB
                    obtain ⟨k, hk, rfl, hX, hBs, ho⟩ := hrel
                    by_cases hk8 : k < 8
                    · have hkI : (k : Int) < 8 := by omega
                      have hkJ : (k : Int) < 16 := by omega
                      have hkL : (k : Int) + 8 < 16 := by omega
                      have t0 : ((k : Int) + 8).toNat = k + 8 := by omega
                      have u0_ : IntKind.i64.wrap ((k : Int) + 8) = (k : Int) + 8 := by rw [IntKind.wrap_i64]; omega
                      have z0 : (0 : Int) ≤ (k : Int) + 8 := by omega
                      have c0 : wr.cell? ⟨gs, k, none⟩ = some (.int .i64 (s.getD k 0)) := (hX.bel.cell (p := ⟨gs, k, none⟩) hgs).trans (hs k hk8)
                      have c1 := (World.ownsRow.cellAt hX.v k (by omega)).trans (ia_get _ _ (by rw [hVl]; omega))
                      have c2 := (World.ownsRow.cellAt hX.v (k + 8) (by omega)).trans (ia_get _ _ (by rw [hVl]; omega))
                      have hst : Hid (F.take (k + 1) = F.take k ++ [F.getD k 0]) := by
                        show _ = _
                        rw [List.take_succ_eq_append_getElem (by omega)]
                        simp [List.getD, hFl, hk8]
                      have hval : Hid (F.getD k 0 = bits .xor .i64 (bits .xor .i64 (s.getD k 0) (V.getD k 0)) (V.getD (k + 8) 0)) := hFg k hk8
                      clear hFg hsw hVw hs
                      generalize F.getD k 0 = f at hst hval
                      generalize s.getD k 0 = a at c0 hval
                      generalize V.getD k 0 = b at c1 hval
                      generalize V.getD (k + 8) 0 = c at c2 hval
                      go_wp2_with fail
                      go_region_law (refine step_append_own rfl _ _ 61 rfl B 3 i (.int .i64 0) 1 8 Tryd.underlying61 hi hz0 hz1 hz2 rfl (by decide) _ k _ rfl (World.ownsRow.alloc ho.drew _) ⟨wr.heap.size, 0, none⟩ 1 1 [.int .i64 (bits .xor .i64 (bits .xor .i64 a b) c)] rfl rfl (cells_new _ _ _) (i64_one [_]) (by unfold maxLen; omega) (by omega) (le_alloc hBs _) ?_; intro v' w2 ho1 hg1)
                      all_goals
                        go_wp2_with fail
                        go_roundw
                        case rel =>
                          have hb2 := Below.grown ((Below.refl B wr).drew.alloc hBs _) hg1 (le_alloc hBs _) (fun q e => (ho.lt q e).1)
                          have hR : ∃ k' : Nat, k' ≤ 8 ∧ (Value.int .i64 ((k : Int) + 1)) = .int .i64 k' ∧ TkS w w1 M V gv cv w2 ∧ B ≤ w2.heap.size ∧ w2.ownsRow B 3 1 v' k' (ia (F.take k')) :=
                            ⟨k + 1, by omega, by go_num, hX.belowB hb2 hgB hmB, Nat.le_trans hBs hb2.size, by rw [hst.out, ia_app, hval.out]; exact ho1⟩
                          first | exact hR | ((repeat apply Exists.intro); exact ⟨hR, rfl⟩)
                        case measure => simp [intOf]; omega
                    · obtain rfl : k = 8 := by omega
                      rw [List.take_of_length_le (by omega)] at ho
                      have hf : ∃ g c, u17 = .slice (some ⟨g, 0, none⟩) 8 c := by
                        rcases ho.2 with ⟨_, h0⟩ | ⟨g, c, cur, rfl, _⟩
                        · cases h0
                        · exact ⟨g, c, rfl⟩
                      obtain ⟨g, c, hv⟩ := hf
                      subst hv
                      go_wp2_with fail
                      go_ret
                      refine ⟨g, c, rfl, hX.bel, ?_⟩
                      rw [hfin.out]
                      exact ownsRow_base ho (Nat.le_of_lt hmB)
end Go.Proofs.YtbmodfegcmaieaaDoor
