/- The document's answer, package sheavesref: mixed: four words of a row, with two more, as P1.2 says; for every row of sixteen words; the four places are apart. -/
import Derived.Test.YtcecjdoabnhcgaaDoorRTurn
namespace Go.Proofs.YtcecjdoabnhcgaaDoor
open Go.RowKit

/-- A row of words as cells of 64 bits. -/
def ia (vs : List Int) : List Value := vs.map (Value.int .i64)
set_option maxRecDepth 100000 in
theorem ia_set (vs : List Int) (i : Nat) (x : Int) : (ia vs).set i (.int .i64 x) = ia (vs.set i x) := by simp [ia, List.map_set]
set_option maxRecDepth 100000 in
theorem ia_get (vs : List Int) (i : Nat) (h : i < vs.length) : (ia vs)[i]? = some (.int .i64 (vs.getD i 0)) := by simp [ia, h]
/-- A list that parts from another at four places. -/
structure St (vs : List Int) (a b c d : Nat) (A B C D : Int) (L : List Int) : Prop where
  len : L.length = 16
  ha : L.getD a 0 = A
  hb : L.getD b 0 = B
  hc : L.getD c 0 = C
  hd : L.getD d 0 = D
  rest : ∀ j, ¬ j = a → ¬ j = b → ¬ j = c → ¬ j = d → L.getD j 0 = vs.getD j 0
set_option maxRecDepth 100000 in
theorem getD_set_eq (L : List Int) (i : Nat) (x : Int) (h : i < L.length) : (L.set i x).getD i 0 = x := by simp [List.getD, h]
set_option maxRecDepth 100000 in
theorem getD_set_ne (L : List Int) (i j : Nat) (x : Int) (h : ¬ j = i) : (L.set i x).getD j 0 = L.getD j 0 := by
  simp only [List.getD]
  rw [List.getElem?_set_ne (fun e => h e.symm)]
set_option maxRecDepth 100000 in
theorem grown_trans {w w1 w2 : World} {r : Option Nat} (h : w.grownBy w1 r) (k : w1.grownBy w2 r) : w.grownBy w2 r :=
  ⟨k.os.trans h.os, k.tape.trans h.tape, k.output.trans h.output, Nat.le_trans h.size k.size, fun i hi hr => (k.block i (Nat.lt_of_lt_of_le hi h.size) hr).trans (h.block i hi hr)⟩
set_option maxRecDepth 100000 in
theorem grown_as {w w1 w2 : World} {r : Option Nat} (h : w.grownBy w1 r) (e1 : w2.os = w1.os) (e2 : w2.tape = w1.tape) (e3 : w2.output = w1.output) (e4 : w2.heap = w1.heap) : w.grownBy w2 r :=
  ⟨e1.trans h.os, e2.trans h.tape, e3.trans h.output, by rw [e4]; exact h.size, fun k hk hr => by rw [e4]; exact h.block k hk hr⟩
set_option maxRecDepth 100000 in
theorem grown_drewN {w w1 : World} {r : Option Nat} (n : Nat) (k : (w.drewN n).grownBy w1 r) : w.grownBy w1 r := ⟨k.os, k.tape, k.output, k.size, k.block⟩
set_option maxRecDepth 100000 in
theorem St.sa {vs : List Int} {a b c d : Nat} {A B C D : Int} {L : List Int} (h : St vs a b c d A B C D L) (ha : a < 16) (nab : ¬ a = b) (nac : ¬ a = c) (nad : ¬ a = d) (x : Int) : St vs a b c d x B C D (L.set a x) :=
  ⟨by simp [h.len], getD_set_eq _ _ _ (by rw [h.len]; exact ha), (getD_set_ne _ _ _ _ (fun e => nab e.symm)).trans h.hb, (getD_set_ne _ _ _ _ (fun e => nac e.symm)).trans h.hc, (getD_set_ne _ _ _ _ (fun e => nad e.symm)).trans h.hd, fun j ja jb jc jd => (getD_set_ne _ _ _ _ ja).trans (h.rest j ja jb jc jd)⟩
set_option maxRecDepth 100000 in
theorem St.sb {vs : List Int} {a b c d : Nat} {A B C D : Int} {L : List Int} (h : St vs a b c d A B C D L) (hb : b < 16) (nab : ¬ a = b) (nbc : ¬ b = c) (nbd : ¬ b = d) (x : Int) : St vs a b c d A x C D (L.set b x) :=
  ⟨by simp [h.len], (getD_set_ne _ _ _ _ nab).trans h.ha, getD_set_eq _ _ _ (by rw [h.len]; exact hb), (getD_set_ne _ _ _ _ (fun e => nbc e.symm)).trans h.hc, (getD_set_ne _ _ _ _ (fun e => nbd e.symm)).trans h.hd, fun j ja jb jc jd => (getD_set_ne _ _ _ _ jb).trans (h.rest j ja jb jc jd)⟩
set_option maxRecDepth 100000 in
theorem St.sc {vs : List Int} {a b c d : Nat} {A B C D : Int} {L : List Int} (h : St vs a b c d A B C D L) (hc : c < 16) (nac : ¬ a = c) (nbc : ¬ b = c) (ncd : ¬ c = d) (x : Int) : St vs a b c d A B x D (L.set c x) :=
  ⟨by simp [h.len], (getD_set_ne _ _ _ _ nac).trans h.ha, (getD_set_ne _ _ _ _ nbc).trans h.hb, getD_set_eq _ _ _ (by rw [h.len]; exact hc), (getD_set_ne _ _ _ _ (fun e => ncd e.symm)).trans h.hd, fun j ja jb jc jd => (getD_set_ne _ _ _ _ jc).trans (h.rest j ja jb jc jd)⟩
set_option maxRecDepth 100000 in
theorem St.sd {vs : List Int} {a b c d : Nat} {A B C D : Int} {L : List Int} (h : St vs a b c d A B C D L) (hd : d < 16) (nad : ¬ a = d) (nbd : ¬ b = d) (ncd : ¬ c = d) (x : Int) : St vs a b c d A B C x (L.set d x) :=
  ⟨by simp [h.len], (getD_set_ne _ _ _ _ nad).trans h.ha, (getD_set_ne _ _ _ _ nbd).trans h.hb, (getD_set_ne _ _ _ _ ncd).trans h.hc, getD_set_eq _ _ _ (by rw [h.len]; exact hd), fun j ja jb jc jd => (getD_set_ne _ _ _ _ jd).trans (h.rest j ja jb jc jd)⟩
set_option maxRecDepth 100000 in
theorem St.eq {vs : List Int} {a b c d : Nat} {A B C D : Int} {L L' : List Int} (h : St vs a b c d A B C D L) (k : St vs a b c d A B C D L') : L = L' := by
  apply List.ext_getElem
  · rw [h.len, k.len]
  · intro j h1 h2
    have e : L.getD j 0 = L'.getD j 0 := by
      by_cases ja : j = a
      · subst ja; rw [h.ha, k.ha]
      by_cases jb : j = b
      · subst jb; rw [h.hb, k.hb]
      by_cases jc : j = c
      · subst jc; rw [h.hc, k.hc]
      by_cases jd : j = d
      · subst jd; rw [h.hd, k.hd]
      rw [h.rest j ja jb jc jd, k.rest j ja jb jc jd]
    simpa [List.getD, h1, h2] using e

set_option maxRecDepth 100000 in
theorem W1.mA1 (a b x : Int) : W1 (mA1 a b x) := W1.mod _
set_option maxRecDepth 100000 in
theorem W1.mC1 (a b c d x : Int) : W1 (mC1 a b c d x) := W1.mod _
set_option maxRecDepth 100000 in
theorem W1.mA (a b c d x y : Int) : W1 (mA a b c d x y) := W1.mod _
set_option maxRecDepth 100000 in
theorem W1.mC (a b c d x y : Int) : W1 (mC a b c d x y) := W1.mod _
set_option maxRecDepth 100000 in
theorem W1.mD1 {a b d x : Int} (hd : W1 d) : W1 (mD1 a b d x) := (hd.xor (W1.mA1 _ _ _)).rot _
set_option maxRecDepth 100000 in
theorem W1.mB1 {a b c d x : Int} (hb : W1 b) : W1 (mB1 a b c d x) := (hb.xor (W1.mC1 _ _ _ _ _)).rot _
set_option maxRecDepth 100000 in
theorem W1.mD {a b c d x y : Int} (hd : W1 d) : W1 (mD a b c d x y) := ((W1.mD1 hd).xor (W1.mA _ _ _ _ _ _)).rot _
set_option maxRecDepth 100000 in
theorem W1.mB {a b c d x y : Int} (hb : W1 b) : W1 (mB a b c d x y) := ((W1.mB1 hb).xor (W1.mC _ _ _ _ _ _)).rot _
set_option maxRecDepth 100000 in
theorem mixL_W1 (vs : List Int) (hv : ∀ z ∈ vs, W1 z) (hl : vs.length = 16) (i j k l : Nat) (hj : j < 16) (hd : l < 16) (x y : Int) : ∀ z ∈ mixL vs i j k l x y, W1 z := by
  have hg : ∀ q, q < 16 → W1 (vs.getD q 0) := fun q hq => hv _ (by rw [List.getD, List.getElem?_eq_getElem (by omega)]; exact List.getElem_mem _)
  intro z hz
  unfold mixL at hz
  rcases List.mem_or_eq_of_mem_set hz with hz | rfl
  · rcases List.mem_or_eq_of_mem_set hz with hz | rfl
    · rcases List.mem_or_eq_of_mem_set hz with hz | rfl
      · rcases List.mem_or_eq_of_mem_set hz with hz | rfl
        · exact hv z hz
        · exact W1.mA _ _ _ _ _ _
      · exact W1.mB (hg j hj)
    · exact W1.mC _ _ _ _ _ _
  · exact W1.mD (hg l hd)

set_option maxRecDepth 100000 in
set_option maxHeartbeats 4000000 in
theorem mixed_any (vs : List Int) (base g la lb lc ld cap : Nat) (ai bi ci di x y : Int) (w : World) (ea : ai = la) (eb : bi = lb) (ec : ci = lc) (ed : di = ld)
    (hl : vs.length = 16) (hvs : ∀ z ∈ vs, W1 z) (hx : W1 x) (hy : W1 y) (ho : w.ownsRow base 3 1 (.slice (some ⟨g, 0, none⟩) 16 cap) 16 (ia vs))
    (ha : la < 16) (hb : lb < 16) (hc : lc < 16) (hd : ld < 16) (nab : ¬ la = lb) (nac : ¬ la = lc) (nad : ¬ la = ld) (nbc : ¬ lb = lc) (nbd : ¬ lb = ld) (ncd : ¬ lc = ld) :
    Calls Tryd.prog 78 #[.slice (some ⟨g, 0, none⟩) 16 cap, .int .i64 ai, .int .i64 bi, .int .i64 ci, .int .i64 di, .int .i64 x, .int .i64 y] w fun e w' => e = .returned (.tuple #[]) ∧ w'.ownsRow base 3 1 (.slice (some ⟨g, 0, none⟩) 16 cap) 16 (ia (mixL vs la lb lc ld x y)) ∧ w.grownBy w' (some g) := by
  subst ea eb ec ed
  have ga : (la : Int) < 16 := by omega
  have gb : (lb : Int) < 16 := by omega
  have gc : (lc : Int) < 16 := by omega
  have gd : (ld : Int) < 16 := by omega
  have hg : ∀ j, j < 16 → W1 (vs.getD j 0) := fun j hj => hvs _ (by rw [List.getD, List.getElem?_eq_getElem (by omega)]; exact List.getElem_mem _)
  have wA := hg la ha
  have wB := hg lb hb
  have wC := hg lc hc
  have wD := hg ld hd
  have HM : Hid (mixL vs la lb lc ld x y = (((vs.set la (mA (vs.getD la 0) (vs.getD lb 0) (vs.getD lc 0) (vs.getD ld 0) x y)).set lb (mB (vs.getD la 0) (vs.getD lb 0) (vs.getD lc 0) (vs.getD ld 0) x y)).set lc (mC (vs.getD la 0) (vs.getD lb 0) (vs.getD lc 0) (vs.getD ld 0) x y)).set ld (mD (vs.getD la 0) (vs.getD lb 0) (vs.getD lc 0) (vs.getD ld 0) x y)) := rfl
  have hS : St vs la lb lc ld (vs.getD la 0) (vs.getD lb 0) (vs.getD lc 0) (vs.getD ld 0) vs := ⟨hl, rfl, rfl, rfl, rfl, fun _ _ _ _ _ => rfl⟩
  generalize vs.getD la 0 = A at *
  generalize vs.getD lb 0 = B at *
  generalize vs.getD lc 0 = C at *
  generalize vs.getD ld 0 = D at *
  clear hg hvs
  have hG : w.grownBy w (some g) := World.grownBy.refl _ _
  have hS0 := hS
  go_enter Tryd.func78, Tryd.ntmps78
  go_upto_region 0 with (fail)
  go_cut [] (fun wx => ∃ L, St vs la lb lc ld (mA1 A B x) B C D L ∧ wx.ownsRow base 3 1 (.slice (some ⟨g, 0, none⟩) 16 cap) 16 (ia L) ∧ w.grownBy wx (some g))
  case first =>
    have cs := (World.ownsRow.cellAt ho la (by omega)).trans (ia_get _ _ (by rw [hS.len]; exact ha))
    have cr := (World.ownsRow.cellAt ho lb (by omega)).trans (ia_get _ _ (by rw [hS.len]; exact hb))
    rw [hS.ha] at cs
    rw [hS.hb] at cr
    have fr := fun j => World.ownsRow.frozenAt ho j
    have ws := wA
    have wr := wB
    have hS' := hS.sa ha nab nac nad (mA1 A B x)
    have wx := hx
    have ev : Hid (bits .and .i64 (A + B + x) 4294967295 = (mA1 A B x)) := by
      show _ = _
      rw [and_mask _ (by have := ws.1; have := wr.1; have := wx.1; omega) (by have := ws.2; have := wr.2; have := wx.2; omega)]
      simp only [mA1]; omega
    generalize (mA1 A B x) = V at *
    obtain ⟨s0, s1⟩ := ws
    obtain ⟨r0, r1⟩ := wr
    obtain ⟨x0, x1⟩ := wx
    go_region
    all_goals
      go_wp2_with fail
      go_meet
      case rel =>
        have hst := ho.stored la (.int .i64 V)
        rw [ia_set] at hst
        rw [ev.out]
        exact ⟨_, hS', hst.1, grown_as (grown_trans hG hst.2) rfl rfl rfl rfl⟩
  case rest =>
    clear ho hS hG
    obtain ⟨L0, hS, ho, hG⟩ := hcut
    go_upto_region 1 with (fail)
    go_cut [] (fun wx => ∃ L, St vs la lb lc ld (mA1 A B x) B C (mD1 A B D x) L ∧ wx.ownsRow base 3 1 (.slice (some ⟨g, 0, none⟩) 16 cap) 16 (ia L) ∧ w.grownBy wx (some g))
    case first =>
      have cs := (World.ownsRow.cellAt ho ld (by omega)).trans (ia_get _ _ (by rw [hS.len]; exact hd))
      have cr := (World.ownsRow.cellAt ho la (by omega)).trans (ia_get _ _ (by rw [hS.len]; exact ha))
      rw [hS.hd] at cs
      rw [hS.ha] at cr
      have fr := fun j => World.ownsRow.frozenAt ho j
      have ws := wD
      have wr := (show W1 (mA1 A B x) from W1.mA1 _ _ _)
      have hS' := hS.sd hd nad nbd ncd (mD1 A B D x)
      have ev := xor64 ws wr
      have wq := W1.xor ws wr
      have en : Hid (rotI 16 (bits .xor .u32 D (mA1 A B x)) = (mD1 A B D x)) := rfl
      generalize (mD1 A B D x) = V at *
      generalize (mA1 A B x) = R at *
      obtain ⟨s0, s1⟩ := ws
      obtain ⟨r0, r1⟩ := wr
      go_region_with (go_at_call 80; refine (turned_any _ 16 _ (by decide) wq).mono ?_; rintro e w' ⟨rfl, kk, rfl⟩)
      all_goals
        go_wp2_with fail
        go_meet
        case rel =>
          have hst := ho.stored ld (.int .i64 V)
          rw [ia_set] at hst
          rw [en.out]
          exact ⟨_, hS', hst.1, grown_as (grown_trans hG hst.2) rfl rfl rfl rfl⟩
    case rest =>
      clear ho hS hG
      obtain ⟨L1, hS, ho, hG⟩ := hcut
      go_upto_region 2 with (fail)
      go_cut [] (fun wx => ∃ L, St vs la lb lc ld (mA1 A B x) B (mC1 A B C D x) (mD1 A B D x) L ∧ wx.ownsRow base 3 1 (.slice (some ⟨g, 0, none⟩) 16 cap) 16 (ia L) ∧ w.grownBy wx (some g))
      case first =>
        have cs := (World.ownsRow.cellAt ho lc (by omega)).trans (ia_get _ _ (by rw [hS.len]; exact hc))
        have cr := (World.ownsRow.cellAt ho ld (by omega)).trans (ia_get _ _ (by rw [hS.len]; exact hd))
        rw [hS.hc] at cs
        rw [hS.hd] at cr
        have fr := fun j => World.ownsRow.frozenAt ho j
        have ws := wC
        have wr := (show W1 (mD1 A B D x) from W1.mD1 wD)
        have hS' := hS.sc hc nac nbc ncd (mC1 A B C D x)
        have ev : Hid (bits .and .i64 (C + (mD1 A B D x)) 4294967295 = (mC1 A B C D x)) := by
          show _ = _
          rw [and_mask _ (by have := ws.1; have := wr.1; omega) (by have := ws.2; have := wr.2; omega)]
          rfl
        generalize (mC1 A B C D x) = V at *
        generalize (mD1 A B D x) = R at *
        obtain ⟨s0, s1⟩ := ws
        obtain ⟨r0, r1⟩ := wr
        go_region
        all_goals
          go_wp2_with fail
          go_meet
          case rel =>
            have hst := ho.stored lc (.int .i64 V)
            rw [ia_set] at hst
            rw [ev.out]
            exact ⟨_, hS', hst.1, grown_as (grown_trans hG hst.2) rfl rfl rfl rfl⟩
      case rest =>
        clear ho hS hG
        obtain ⟨L2, hS, ho, hG⟩ := hcut
        go_upto_region 3 with (fail)
        go_cut [] (fun wx => ∃ L, St vs la lb lc ld (mA1 A B x) (mB1 A B C D x) (mC1 A B C D x) (mD1 A B D x) L ∧ wx.ownsRow base 3 1 (.slice (some ⟨g, 0, none⟩) 16 cap) 16 (ia L) ∧ w.grownBy wx (some g))
        case first =>
          have cs := (World.ownsRow.cellAt ho lb (by omega)).trans (ia_get _ _ (by rw [hS.len]; exact hb))
          have cr := (World.ownsRow.cellAt ho lc (by omega)).trans (ia_get _ _ (by rw [hS.len]; exact hc))
          rw [hS.hb] at cs
          rw [hS.hc] at cr
          have fr := fun j => World.ownsRow.frozenAt ho j
          have ws := wB
          have wr := (show W1 (mC1 A B C D x) from W1.mC1 _ _ _ _ _)
          have hS' := hS.sb hb nab nbc nbd (mB1 A B C D x)
          have ev := xor64 ws wr
          have wq := W1.xor ws wr
          have en : Hid (rotI 12 (bits .xor .u32 B (mC1 A B C D x)) = (mB1 A B C D x)) := rfl
          generalize (mB1 A B C D x) = V at *
          generalize (mC1 A B C D x) = R at *
          obtain ⟨s0, s1⟩ := ws
          obtain ⟨r0, r1⟩ := wr
          go_region_with (go_at_call 80; refine (turned_any _ 12 _ (by decide) wq).mono ?_; rintro e w' ⟨rfl, kk, rfl⟩)
          all_goals
            go_wp2_with fail
            go_meet
            case rel =>
              have hst := ho.stored lb (.int .i64 V)
              rw [ia_set] at hst
              rw [en.out]
              exact ⟨_, hS', hst.1, grown_as (grown_trans hG hst.2) rfl rfl rfl rfl⟩
        case rest =>
          clear ho hS hG
          obtain ⟨L3, hS, ho, hG⟩ := hcut
          go_upto_region 4 with (fail)
          go_cut [] (fun wx => ∃ L, St vs la lb lc ld (mA A B C D x y) (mB1 A B C D x) (mC1 A B C D x) (mD1 A B D x) L ∧ wx.ownsRow base 3 1 (.slice (some ⟨g, 0, none⟩) 16 cap) 16 (ia L) ∧ w.grownBy wx (some g))
          case first =>
            have cs := (World.ownsRow.cellAt ho la (by omega)).trans (ia_get _ _ (by rw [hS.len]; exact ha))
            have cr := (World.ownsRow.cellAt ho lb (by omega)).trans (ia_get _ _ (by rw [hS.len]; exact hb))
            rw [hS.ha] at cs
            rw [hS.hb] at cr
            have fr := fun j => World.ownsRow.frozenAt ho j
            have ws := (show W1 (mA1 A B x) from W1.mA1 _ _ _)
            have wr := (show W1 (mB1 A B C D x) from W1.mB1 wB)
            have hS' := hS.sa ha nab nac nad (mA A B C D x y)
            have wx := hy
            have ev : Hid (bits .and .i64 ((mA1 A B x) + (mB1 A B C D x) + y) 4294967295 = (mA A B C D x y)) := by
              show _ = _
              rw [and_mask _ (by have := ws.1; have := wr.1; have := wx.1; omega) (by have := ws.2; have := wr.2; have := wx.2; omega)]
              simp only [mA1, mA]; omega
            generalize (mA A B C D x y) = V at *
            generalize (mA1 A B x) = S at *
            generalize (mB1 A B C D x) = R at *
            obtain ⟨s0, s1⟩ := ws
            obtain ⟨r0, r1⟩ := wr
            obtain ⟨x0, x1⟩ := wx
            go_region
            all_goals
              go_wp2_with fail
              go_meet
              case rel =>
                have hst := ho.stored la (.int .i64 V)
                rw [ia_set] at hst
                rw [ev.out]
                exact ⟨_, hS', hst.1, grown_as (grown_trans hG hst.2) rfl rfl rfl rfl⟩
          case rest =>
            clear ho hS hG
            obtain ⟨L4, hS, ho, hG⟩ := hcut
            go_upto_region 5 with (fail)
            go_cut [] (fun wx => ∃ L, St vs la lb lc ld (mA A B C D x y) (mB1 A B C D x) (mC1 A B C D x) (mD A B C D x y) L ∧ wx.ownsRow base 3 1 (.slice (some ⟨g, 0, none⟩) 16 cap) 16 (ia L) ∧ w.grownBy wx (some g))
            case first =>
              have cs := (World.ownsRow.cellAt ho ld (by omega)).trans (ia_get _ _ (by rw [hS.len]; exact hd))
              have cr := (World.ownsRow.cellAt ho la (by omega)).trans (ia_get _ _ (by rw [hS.len]; exact ha))
              rw [hS.hd] at cs
              rw [hS.ha] at cr
              have fr := fun j => World.ownsRow.frozenAt ho j
              have ws := (show W1 (mD1 A B D x) from W1.mD1 wD)
              have wr := (show W1 (mA A B C D x y) from W1.mA _ _ _ _ _ _)
              have hS' := hS.sd hd nad nbd ncd (mD A B C D x y)
              have ev := xor64 ws wr
              have wq := W1.xor ws wr
              have en : Hid (rotI 8 (bits .xor .u32 (mD1 A B D x) (mA A B C D x y)) = (mD A B C D x y)) := rfl
              generalize (mD A B C D x y) = V at *
              generalize (mD1 A B D x) = S at *
              generalize (mA A B C D x y) = R at *
              obtain ⟨s0, s1⟩ := ws
              obtain ⟨r0, r1⟩ := wr
              go_region_with (go_at_call 80; refine (turned_any _ 8 _ (by decide) wq).mono ?_; rintro e w' ⟨rfl, kk, rfl⟩)
              all_goals
                go_wp2_with fail
                go_meet
                case rel =>
                  have hst := ho.stored ld (.int .i64 V)
                  rw [ia_set] at hst
                  rw [en.out]
                  exact ⟨_, hS', hst.1, grown_as (grown_trans hG hst.2) rfl rfl rfl rfl⟩
            case rest =>
              clear ho hS hG
              obtain ⟨L5, hS, ho, hG⟩ := hcut
              go_upto_region 6 with (fail)
              go_cut [] (fun wx => ∃ L, St vs la lb lc ld (mA A B C D x y) (mB1 A B C D x) (mC A B C D x y) (mD A B C D x y) L ∧ wx.ownsRow base 3 1 (.slice (some ⟨g, 0, none⟩) 16 cap) 16 (ia L) ∧ w.grownBy wx (some g))
              case first =>
                have cs := (World.ownsRow.cellAt ho lc (by omega)).trans (ia_get _ _ (by rw [hS.len]; exact hc))
                have cr := (World.ownsRow.cellAt ho ld (by omega)).trans (ia_get _ _ (by rw [hS.len]; exact hd))
                rw [hS.hc] at cs
                rw [hS.hd] at cr
                have fr := fun j => World.ownsRow.frozenAt ho j
                have ws := (show W1 (mC1 A B C D x) from W1.mC1 _ _ _ _ _)
                have wr := (show W1 (mD A B C D x y) from W1.mD wD)
                have hS' := hS.sc hc nac nbc ncd (mC A B C D x y)
                have ev : Hid (bits .and .i64 ((mC1 A B C D x) + (mD A B C D x y)) 4294967295 = (mC A B C D x y)) := by
                  show _ = _
                  rw [and_mask _ (by have := ws.1; have := wr.1; omega) (by have := ws.2; have := wr.2; omega)]
                  simp only [mC1, mC]; omega
                generalize (mC A B C D x y) = V at *
                generalize (mC1 A B C D x) = S at *
                generalize (mD A B C D x y) = R at *
                obtain ⟨s0, s1⟩ := ws
                obtain ⟨r0, r1⟩ := wr
                go_region
                all_goals
                  go_wp2_with fail
                  go_meet
                  case rel =>
                    have hst := ho.stored lc (.int .i64 V)
                    rw [ia_set] at hst
                    rw [ev.out]
                    exact ⟨_, hS', hst.1, grown_as (grown_trans hG hst.2) rfl rfl rfl rfl⟩
              case rest =>
                clear ho hS hG
                obtain ⟨L6, hS, ho, hG⟩ := hcut
                go_upto_region 7 with (fail)
                have cs := (World.ownsRow.cellAt ho lb (by omega)).trans (ia_get _ _ (by rw [hS.len]; exact hb))
                have cr := (World.ownsRow.cellAt ho lc (by omega)).trans (ia_get _ _ (by rw [hS.len]; exact hc))
                rw [hS.hb] at cs
                rw [hS.hc] at cr
                have fr := fun j => World.ownsRow.frozenAt ho j
                have ws := (show W1 (mB1 A B C D x) from W1.mB1 wB)
                have wr := (show W1 (mC A B C D x y) from W1.mC _ _ _ _ _ _)
                have hS' := hS.sb hb nab nbc nbd (mB A B C D x y)
                have ev := xor64 ws wr
                have wq := W1.xor ws wr
                have en : Hid (rotI 7 (bits .xor .u32 (mB1 A B C D x) (mC A B C D x y)) = (mB A B C D x y)) := rfl
                generalize (mB A B C D x y) = V at *
                generalize (mB1 A B C D x) = S at *
                generalize (mC A B C D x y) = R at *
                obtain ⟨s0, s1⟩ := ws
                obtain ⟨r0, r1⟩ := wr
                go_region_with (go_at_call 80; refine (turned_any _ 7 _ (by decide) wq).mono ?_; rintro e w' ⟨rfl, kk, rfl⟩)
                all_goals
                  go_end0
                  have hst := ho.stored lb (.int .i64 V)
                  rw [ia_set] at hst
                  rw [en.out]
                  refine ⟨rfl, ?_, grown_as (grown_trans hG hst.2) rfl rfl rfl rfl⟩
                  rw [HM.out, ← hS'.eq ((((hS0.sa ha nab nac nad _).sb hb nab nbc nbd V).sc hc nac nbc ncd R).sd hd nad nbd ncd _)]
                  exact hst.1
end Go.Proofs.YtcecjdoabnhcgaaDoor
