/- What the reading of an argument that is a slice of bytes gives the walks. -/
import Derived.Test.YtbkojincfmfpnaaDoorCastApartM6
import Derived.Test.YtbkojincfmfpnaaDoorCTab
import Derived.Test.YtbkojincfmfpnaaDoorSCopy
import Derived.Test.YtbkojincfmfpnaaDoorClone
import Derived.Test.YtbkojincfmfpnaaDoorApp
import Derived.Test.YtbkojincfmfpnaaDoorRows
import Derived.Test.YtbkojincfmfpnaaDoorK
import Derived.Lib.LaidTab
import Derived.OpenShut
import Derived.Stop.LaidErr
import Derived.Test.YtbkojincfmfpnaaDoorLib
import Derived.ProofKit
namespace Go.Proofs.YtbkojincfmfpnaaDoor
open Go.RowKit

set_option maxRecDepth 100000 in
theorem header_hat (r : Rw) (w : World) (h : I64 r.a ∧ I64 r.b ∧ I64 r.c) :
    Calls Tryd.prog 19 #[.agg #[.int .i64 r.ki, .int .i64 r.a, .int .i64 r.b, .int .i64 r.c, .slice r.sa r.n r.cap]] w fun e w' => ∃ ba bc bl pa pc pl, e = .returned (.agg #[.int .i64 (pk r.a 4), .int .i64 (1 + pk r.b 9), .slice ba (List.length bl) bc, .slice pa (List.length pl) pc]) ∧ HAt w' ba bc bl pa pc pl ∧ bl.map (·.bs) = hBats r.c ∧ pl.map (·.bs) = hPars r.a r.b r.c ∧ Below w.heap.size w w' ∧ Fresh w.heap.size ba bl ∧ Fresh w.heap.size pa pl := by
  refine (header_raw2 r.ki r.a r.b r.c r.sa r.n r.cap w h.1 h.2.1 h.2.2).mono ?_
  rintro e w' ⟨ba, bc, bl, pa, pc, pl, he, a1, a2, a3, a4, a5, a6, a7, a8, a9⟩
  exact ⟨ba, bc, bl, pa, pc, pl, he, ⟨a1, a2, fun sb so e => (a3.1 sb so e).1, fun sb so e => (a4.1 sb so e).1⟩, a5, a6, a7, a8, a9⟩
set_option maxRecDepth 100000 in
set_option maxHeartbeats 2000000 in
theorem table_any (rs : List Rw) (sa : Option Addr) (n cap : Nat) (w : World) (hn : n = rs.length) (hr : RawsAt w sa rs) (hT : Tabs w) :
    Calls Tryd.prog 32 #[.slice sa n cap] w fun e w' => ∃ ra rc ks, e = .returned (.slice ra (List.length ks) rc) ∧ vs ks = tabR rs ∧ TabAt w' ra rc ks ∧ Below w.heap.size w w' := by
  subst hn
  have hsm := hr.small
  go_enter Tryd.func32, Tryd.ntmps32
  go_wp2_with fail
  go_loopw [4, 3] (fun j v wr => ∃ (k : Nat) (ks : List Sl) (ra : Option Addr) (rc : Nat), k ≤ rs.length ∧ k ≤ 30 ∧ j = .int .i64 k ∧ v = .slice ra ks.length rc ∧ vs ks = tabTo rs k ∧ TabAt wr ra rc ks ∧ Below w.heap.size w wr) (fun j _ _ => rs.length - (intOf j).toNat)
  case atStart => exact ⟨0, [], none, 0, Nat.zero_le _, by omega, rfl, rfl, rfl, tab_nil _, Below.refl _ _⟩
  case round =>
    obtain ⟨k, ks, ra, rc, hk, hk30, rfl, rfl, hv, ht, hb⟩ := hrel
    by_cases hlt : k < rs.length
    · by_cases h30 : k < 30
      · have hpw := hr.below hb
        obtain ⟨sb, so, rfl, hc⟩ : ∃ sb so, sa = some ⟨sb, so, none⟩ ∧ ∀ j (h : j < rs.length), wr.cell? ⟨sb, so + j * 5, none⟩ = some (.int .i64 (rs[j]).ki) ∧ wr.cell? ⟨sb, so + j * 5 + 1, none⟩ = some (.int .i64 (rs[j]).a) ∧ wr.cell? ⟨sb, so + j * 5 + 2, none⟩ = some (.int .i64 (rs[j]).b) ∧ wr.cell? ⟨sb, so + j * 5 + 3, none⟩ = some (.int .i64 (rs[j]).c) ∧ wr.cell? ⟨sb, so + j * 5 + 4, none⟩ = some (.slice (rs[j]).sa (rs[j]).n (rs[j]).cap) := by
          rcases hpw.cells with h | h
          · rw [h] at hlt; simp at hlt
          · exact h
        obtain ⟨c0, c1, c2, c3, c4⟩ := hc k hlt
        have hi := hr.each (rs[k]) (List.getElem_mem hlt)
        have hltI : (k : Int) < rs.length := by omega
        have h30I : (k : Int) < 30 := by omega
        have HX : Hid (tabTo rs (k + 1) = stepT (tabTo rs k) (slotR (rs[k]))) := by
          show _ = _
          rw [tabTo, rwAt_get rs k hlt]
        have h0 : tabF (vs ks) = 0 := by rw [hv]; exact (tabTo_ok rs k).ok
        have H0 : Hid (tabF (vs ks) = 0) := h0
        clear hc hpw h0
        generalize rs[k] = r at *
        have HH : Hid (I64 r.a ∧ I64 r.b ∧ I64 r.c) := hi
        clear hi
        go_wp2_with fail
        refine (header_hat r wr HH.out).mono ?_
        rintro e w1 ⟨ba, bc, bl, pa, pc, pl, he, hH, hbl, hpl, hb1, _, _⟩
        subst he
        dsimp only
        have hB1 := hb.trans (hb1.mono hb.size)
        have hA := castAll_raw (l := vs ks) r bl pl H0.out hbl hpl
        have HC := cast_any ks ra rc (pk r.a 4) (1 + pk r.b 9) ba bc bl pa pc pl w1 (ht.below hb1) hH (hT.below hB1)
        rw [hA] at HC
        clear hA hbl hpl
        generalize pk r.a 4 = PA at *
        generalize 1 + pk r.b 9 = PB at *
        go_wp2_with fail
        refine HC.mono ?_
        rintro e w2 ⟨xa, xc, xs, da, dc, au', rd', ds, er, he, hR, hT2, _, _, _, hb2⟩
        subst he
        dsimp only
        have hB2 := hB1.trans (hb2.mono hB1.size)
        have hA2 : Below w2.heap.size w2 (w2.alloc (.cells #[.int .i64 au', .int .i64 rd', .slice da ds.length dc] 47)) := (Below.refl _ _).alloc (Nat.le_refl _) _
        have hB3 := hB2.trans (hA2.mono hB2.size)
        by_cases hz : (castF (vs ks) (slotR r)).2 = 0
        · rw [if_neg (by simp [hz])] at hR
          simp only [Prod.mk.injEq] at hR
          obtain ⟨hx, _, rfl⟩ := hR
          have hstep : Hid (vs xs = tabTo rs (k + 1)) := by
            show _ = _
            rw [HX.out, stepT, ← hv, if_pos hz, hx]
          clear hx hz HC
          go_wp2_with fail
          go_roundw
          case rel =>
            have hR : ∃ (k' : Nat) (ks' : List Sl) (ra' : Option Addr) (rc' : Nat), k' ≤ rs.length ∧ k' ≤ 30 ∧ (Value.int .i64 ((k : Int) + 1)) = .int .i64 k' ∧ Value.slice xa xs.length xc = .slice ra' ks'.length rc' ∧ vs ks' = tabTo rs k' ∧ TabAt (w2.alloc (.cells #[.int .i64 au', .int .i64 rd', .slice da ds.length dc] 47)) ra' rc' ks' ∧ Below w.heap.size w (w2.alloc (.cells #[.int .i64 au', .int .i64 rd', .slice da ds.length dc] 47)) :=
              ⟨k + 1, xs, xa, xc, by omega, by omega, by go_num, rfl, hstep.out, hT2.below hA2, hB3⟩
            first | exact hR | ((repeat apply Exists.intro); exact ⟨hR, rfl⟩)
          case measure => simp [intOf]; omega
        · rw [if_pos (by simp [hz])] at hR
          simp only [Prod.mk.injEq] at hR
          obtain ⟨hq1, hq2, rfl⟩ := hR
          clear hq1 hq2
          have hstep : Hid (vs ks = tabTo rs (k + 1)) := by
            show _ = _
            rw [HX.out, stepT, ← hv, if_neg hz]
          have hT3 := ((ht.below hb1).below hb2).below hA2
          generalize (castF (vs ks) (slotR r)).2 = er at *
          clear HC
          go_wp2_with fail
          go_roundw
          case rel =>
            have hR : ∃ (k' : Nat) (ks' : List Sl) (ra' : Option Addr) (rc' : Nat), k' ≤ rs.length ∧ k' ≤ 30 ∧ (Value.int .i64 ((k : Int) + 1)) = .int .i64 k' ∧ Value.slice ra ks.length rc = .slice ra' ks'.length rc' ∧ vs ks' = tabTo rs k' ∧ TabAt (w2.alloc (.cells #[.int .i64 au', .int .i64 rd', .slice da ds.length dc] 47)) ra' rc' ks' ∧ Below w.heap.size w (w2.alloc (.cells #[.int .i64 au', .int .i64 rd', .slice da ds.length dc] 47)) :=
              ⟨k + 1, ks, ra, rc, by omega, by omega, by go_num, rfl, hstep.out, hT3, hB3⟩
            first | exact hR | ((repeat apply Exists.intro); exact ⟨hR, rfl⟩)
          case measure => simp [intOf]; omega
      · obtain rfl : k = 30 := by omega
        have hltI : ((30 : Nat) : Int) < rs.length := by omega
        have hltJ : (30 : Int) < rs.length := by omega
        have hE : Hid (vs ks = tabR rs) := by
          show _ = _
          rw [hv, tabR, Nat.min_eq_right (by omega)]
        go_wp2_with fail
        go_ret
        exact ⟨ra, rc, ks, rfl, hE.out, ht, hb⟩
    · obtain rfl : k = rs.length := by omega
      have hE : Hid (vs ks = tabR rs) := by
        show _ = _
        rw [hv, tabR, Nat.min_eq_left hk30]
      go_wp2_with fail
      go_ret
      exact ⟨ra, rc, ks, rfl, hE.out, ht, hb⟩
end Go.Proofs.YtbkojincfmfpnaaDoor

namespace Go.Proofs.YtbkojincfmfpnaaDoor
open Go.RowKit

/-- P4.2 -/
inductive VotedIs (l : List SV) (au rd : Int) (e : Int) (bs : List Int) : Prop
  | bad (h : tabF l = 12) (he : e = 12) (hb : bs = [])
  | none (h : tabF l = 0) (hn : ∀ j, j < l.length → hit l au rd j = false) (he : e = 8) (hb : bs = [])
  | at (h : tabF l = 0) (m : Nat) (hm : m < l.length) (h1 : hit l au rd m = true) (h2 : ∀ j, j < m → hit l au rd j = false) (he : e = 0) (hb : bs = (svAt l m).2.2)
set_option maxRecDepth 100000 in
theorem VotedIs.one {l : List SV} {au rd e f : Int} {bs cs : List Int} (h : VotedIs l au rd e bs) (g : VotedIs l au rd f cs) : e = f ∧ bs = cs := by
  cases h with
  | bad h he hb => cases g with
    | bad g ge gb => exact ⟨by rw [he, ge], by rw [hb, gb]⟩
    | none g _ _ _ => rw [h] at g; cases g
    | «at» g m _ _ _ _ _ => rw [h] at g; cases g
  | none h hn he hb => cases g with
    | bad g ge gb => rw [h] at g; cases g
    | none g _ ge gb => exact ⟨by rw [he, ge], by rw [hb, gb]⟩
    | «at» g m hm h1 _ _ _ => rw [hn m hm] at h1; cases h1
  | «at» h m hm h1 h2 he hb => cases g with
    | bad g ge gb => rw [h] at g; cases g
    | none g hn _ _ => rw [hn m hm] at h1; cases h1
    | «at» g n gn g1 g2 ge gb =>
      obtain rfl : m = n := by
        rcases Nat.lt_trichotomy m n with q | q | q
        · rw [g2 m q] at h1; cases h1
        · exact q
        · rw [h2 n q] at g1; cases g1
      exact ⟨by rw [he, ge], by rw [hb, gb]⟩
set_option maxRecDepth 100000 in
theorem tab_len32 {l : List SV} (h : tabF l = 0) (m : Nat) (hm : m < l.length) : (svAt l m).2.2.length = 32 := by
  have hb := (tabF_zero h).2 m hm
  simp only [badAt, Bool.or_eq_false_iff] at hb
  have h1 := hb.1
  simp only [ne_eq, decide_eq_false_iff_not, Decidable.not_not] at h1
  unfold slotF at h1
  split at h1
  · cases h1
  · split at h1
    · cases h1
    · rename_i g; omega
set_option maxRecDepth 100000 in
set_option maxHeartbeats 1000000 in
theorem voted_any (ls : List Sl) (sa : Option Addr) (n cap : Nat) (au rd : Int) (w : World) (hn : n = ls.length) (ht : TabAt w sa cap ls) :
    Calls Tryd.prog 33 #[.slice sa n cap, .int .i64 au, .int .i64 rd] w fun e w' => ∃ ra rc bs er, e = .returned (.tuple #[.slice ra (List.length bs) rc, .int .i64 er]) ∧ VotedIs (vs ls) au rd er bs ∧ SliceAt w' ra rc bs ∧ (∀ sb so, ra = some ⟨sb, so, none⟩ → w.heap.size ≤ sb ∧ sb < w'.heap.size) ∧ Below w.heap.size w w' := by
  subst hn
  have hle := ht.le
  have hmx := ht.max
  rcases tabF_or (vs ls) with h0 | h0
  · go_enter Tryd.func33, Tryd.ntmps33
    go_wp2_with fail
    refine (checkTab_any ls sa _ cap w rfl ht).mono ?_
    rintro e w1 ⟨he, hb1⟩
    rw [h0] at he
    subst he
    dsimp only
    go_wp2_with fail
    refine (find_any ls sa _ cap au rd w1 (Nat.le_refl _) ht.small (ht.slots.below hb1)).mono ?_
    rintro e w2 ⟨r, he, hF, hb2⟩
    subst he
    dsimp only
    have hB2 := hb1.trans (hb2.mono hb1.size)
    rcases hF with ⟨m, hm, rfl, h1, h2⟩ | ⟨rfl, h2⟩
    · have hpw := ht.slots.below hB2
      obtain ⟨sb, so, rfl, hc⟩ : ∃ sb so, sa = some ⟨sb, so, none⟩ ∧ ∀ j (h : j < ls.length), w2.cell? ⟨sb, so + j * 3, none⟩ = some (.int .i64 (ls[j]).au) ∧ w2.cell? ⟨sb, so + j * 3 + 1, none⟩ = some (.int .i64 (ls[j]).rd) ∧ w2.cell? ⟨sb, so + j * 3 + 2, none⟩ = some (.slice (ls[j]).p.sa (ls[j]).p.bs.length (ls[j]).p.cap) := by
        rcases hpw.cells with h | h
        · rw [h] at hm; simp at hm
        · exact h
      obtain ⟨c0, c1, c2⟩ := hc m hm
      have hx := hpw.each (ls[m]) (List.getElem_mem hm)
      have h32 := tab_len32 h0 m (by rw [vs_length]; exact hm)
      have hV : Hid (VotedIs (vs ls) au rd 0 (ls[m]).p.bs) := by
        show VotedIs _ _ _ _ _
        exact .at h0 m (by rw [vs_length]; exact hm) h1 h2 rfl (by rw [svAt_get ls m hm]; rfl)
      rw [svAt_get ls m hm] at h32
      have h32' : (ls[m]).p.bs.length ≤ 140737488355328 := by
        have : (ls[m]).p.bs.length = 32 := h32
        omega
      have hltI : (m : Int) < ls.length := by omega
      clear hc h1 h2 h32 hpw
      generalize ls[m] = s at *
      go_wp2_with fail
      refine (clone_any s.p.bs s.p.sa _ s.p.cap w2 rfl hx h32').mono ?_
      rintro e w3 ⟨ra, rc, he, hs3, hrow, hb3⟩
      subst he
      dsimp only
      go_wp2_with fail
      go_ret2
      exact ⟨ra, rc, s.p.bs, 0, rfl, hV.out, hs3, (fun sb so e => by have := hrow sb so e; have := hB2.size; omega), hB2.trans (hb3.mono hB2.size)⟩
    · have hV : Hid (VotedIs (vs ls) au rd 8 []) := by
        show VotedIs _ _ _ _ _
        exact .none h0 (fun j hj => h2 j (by rw [vs_length] at hj; exact hj)) rfl rfl
      clear h2
      go_wp2_with fail
      go_ret2
      exact ⟨none, 0, [], 8, rfl, hV.out, nilSlice _, (fun _ _ e => by cases e), hB2⟩
  · go_enter Tryd.func33, Tryd.ntmps33
    go_wp2_with fail
    refine (checkTab_any ls sa _ cap w rfl ht).mono ?_
    rintro e w1 ⟨he, hb1⟩
    rw [h0] at he
    subst he
    dsimp only
    go_wp2_with fail
    go_ret2
    exact ⟨none, 0, [], 12, rfl, .bad h0 rfl rfl, nilSlice _, (fun _ _ e => by cases e), hb1⟩
end Go.Proofs.YtbkojincfmfpnaaDoor

namespace Go.Proofs.YtbkojincfmfpnaaDoor
open Go.RowKit

set_option maxRecDepth 100000 in
set_option maxHeartbeats 400000 in
theorem same_eq (bs : List Int) (sa sb : Option Addr) (n m c d : Nat) (w : World) (hn : n = bs.length) (hm : m = bs.length) (ha : SliceAt w sa c bs) (hb : SliceAt w sb d bs) :
    Calls Tryd.prog 34 #[.slice sa n c, .slice sb m d] w fun e w' => e = .returned (.bool true) ∧ w = w' := by
  have h1 := run_text w sa n c bs hn ha
  have h2 := run_text w sb m d bs hm hb
  clear hn hm ha hb
  go_enter Tryd.func34, Tryd.ntmps34
  go_wp2_with fail
  go_ret
  exact ⟨by simp, rfl⟩
end Go.Proofs.YtbkojincfmfpnaaDoor

namespace Go.Proofs.YtbkojincfmfpnaaDoor
open Go.RowKit

set_option maxRecDepth 100000 in
theorem tabR_okA (rs : List Rw) : tabF (tabR rs) = 0 := (tabTo_ok rs _).ok
set_option maxRecDepth 100000 in
theorem tabR_le (rs : List Rw) : (tabR rs).length ≤ 30 := Nat.le_trans (tabTo_ok rs _).le (Nat.min_le_right _ _)
set_option maxRecDepth 100000 in
theorem voted_none {au rd e : Int} {bs : List Int} (h : VotedIs [] au rd e bs) : e = 8 := by
  cases h with
  | bad h _ _ => exact absurd (tabF_nil.symm.trans h) (by decide)
  | none _ _ he _ => exact he
  | «at» _ m hm _ _ _ _ => exact absurd hm (by simp)
set_option maxRecDepth 100000 in
theorem voted_more {l : List SV} {s : SV} {au rd e f : Int} {bs cs : List Int} (h : VotedIs l au rd e bs) (h0 : tabF l = 0) (g : VotedIs (l ++ [s]) au rd f cs) (g0 : tabF (l ++ [s]) = 0) (hne : ¬ (s.1 = au ∧ s.2.1 = rd)) : e = f ∧ bs = cs := by
  refine VotedIs.one ?_ g
  cases h with
  | bad h _ _ => rw [h0] at h; cases h
  | none _ hn he hb =>
    refine .none g0 (fun j hj => ?_) he hb
    rcases Nat.lt_or_ge j l.length with q | q
    · rw [hit_append l [s] au rd j q]; exact hn j q
    · obtain rfl : j = l.length := by simp at hj; omega
      have e1 : svAt (l ++ [s]) l.length = s := by simp [svAt, List.getD]
      rw [hit, e1]; exact decide_eq_false hne
  | «at» _ m hm h1 h2 he hb =>
    exact .at g0 m (by simp; omega) (by rw [hit_append l [s] au rd m hm]; exact h1) (fun j hj => by rw [hit_append l [s] au rd j (by omega)]; exact h2 j hj) he (by rw [svAt_append l [s] m hm]; exact hb)
set_option maxRecDepth 100000 in
set_option maxHeartbeats 2000000 in
theorem castApart_walk (sa : Option Addr) (cap : Nat) (rs : List Rw) (ki ra rb rc : Int) (ta : Option Addr) (tc : Nat) (ss : List ByteArray) (ki' ra' rb' rc' : Int) (ta' : Option Addr) (tc' : Nat) (ss' : List ByteArray) (w : World) (hr : RawsAt w sa rs) (_hl : rs.length ≤ cap) (_i0 : I64 ki) (i1 : I64 ra) (i2 : I64 rb) (i3 : I64 rc) (_ht : TextsAt w ta tc ss) (_j0 : I64 ki') (j1 : I64 ra') (j2 : I64 rb') (j3 : I64 rc') (_jt : TextsAt w ta' tc' ss') (hT : Tabs w) :
    Calls Tryd.prog 10 #[.slice sa rs.length cap, .agg #[.int .i64 ki, .int .i64 ra, .int .i64 rb, .int .i64 rc, .slice ta ss.length tc], .agg #[.int .i64 ki', .int .i64 ra', .int .i64 rb', .int .i64 rc', .slice ta' ss'.length tc']] w fun e w' => e = .returned (.bool true) ∧ Below w.heap.size w w' := by
  have HH : Hid (∀ W : World, Calls Tryd.prog 19 #[.agg #[.int .i64 ki, .int .i64 ra, .int .i64 rb, .int .i64 rc, .slice ta ss.length tc]] W fun e w' => ∃ ba bc bl pa pc pl, e = .returned (.agg #[.int .i64 (pk ra 4), .int .i64 (1 + pk rb 9), .slice ba (List.length bl) bc, .slice pa (List.length pl) pc]) ∧ HAt w' ba bc bl pa pc pl ∧ (∀ l, tabF l = 0 → castAll l (pk ra 4) (1 + pk rb 9) bl pl = if (castF l (slotR ⟨ki, ra, rb, rc, ta, ss.length, tc⟩)).2 ≠ 0 then ([], (0, 0, []), (castF l (slotR ⟨ki, ra, rb, rc, ta, ss.length, tc⟩)).2) else ((castF l (slotR ⟨ki, ra, rb, rc, ta, ss.length, tc⟩)).1, slotR ⟨ki, ra, rb, rc, ta, ss.length, tc⟩, 0)) ∧ Below W.heap.size W w') := by
    show ∀ W, _
    intro W
    refine (header_hat ⟨ki, ra, rb, rc, ta, ss.length, tc⟩ W ⟨i1, i2, i3⟩).mono ?_
    rintro e w' ⟨ba, bc, bl, pa, pc, pl, he, h1, h2, h3, h4, _, _⟩
    exact ⟨ba, bc, bl, pa, pc, pl, he, h1, fun l hl => castAll_raw ⟨ki, ra, rb, rc, ta, ss.length, tc⟩ bl pl hl h2 h3, h4⟩
  have HH' : Hid (∀ W : World, Calls Tryd.prog 19 #[.agg #[.int .i64 ki', .int .i64 ra', .int .i64 rb', .int .i64 rc', .slice ta' ss'.length tc']] W fun e w' => ∃ ba bc bl pa pc pl, e = .returned (.agg #[.int .i64 (pk ra' 4), .int .i64 (1 + pk rb' 9), .slice ba (List.length bl) bc, .slice pa (List.length pl) pc]) ∧ HAt w' ba bc bl pa pc pl ∧ Below W.heap.size W w') := by
    show ∀ W, _
    intro W
    refine (header_hat ⟨ki', ra', rb', rc', ta', ss'.length, tc'⟩ W ⟨j1, j2, j3⟩).mono ?_
    rintro e w' ⟨ba, bc, bl, pa, pc, pl, he, h1, h2, h3, h4, _, _⟩
    exact ⟨ba, bc, bl, pa, pc, pl, he, h1, h4⟩
  have hS1 : (slotR ⟨ki, ra, rb, rc, ta, ss.length, tc⟩).1 = pk ra 4 := rfl
  have hS2 : (slotR ⟨ki, ra, rb, rc, ta, ss.length, tc⟩).2.1 = 1 + pk rb 9 := rfl
  have hSok := slotR_ok ⟨ki, ra, rb, rc, ta, ss.length, tc⟩
  generalize slotR ⟨ki, ra, rb, rc, ta, ss.length, tc⟩ = SR at *
  clear i1 i2 i3 j1 j2 j3
  generalize pk ra 4 = A at *
  generalize 1 + pk rb 9 = B at *
  generalize pk ra' 4 = A' at *
  generalize 1 + pk rb' 9 = B' at *
  have HS1 : Hid (SR.1 = A) := hS1
  have HS2 : Hid (SR.2.1 = B) := hS2
  have HSok : Hid (slotF SR.1 SR.2.1 SR.2.2.length = 0) := hSok
  clear hS1 hS2 hSok
  have hA0 : Below w.heap.size w ((w.alloc (.cells #[.int .i64 ki, .int .i64 ra, .int .i64 rb, .int .i64 rc, .slice ta ss.length tc] 36)).alloc (.cells #[.int .i64 ki', .int .i64 ra', .int .i64 rb', .int .i64 rc', .slice ta' ss'.length tc'] 36)) := ((Below.refl _ _).alloc (Nat.le_refl _) _).alloc (by simp) _
  have q0 := heap_alloc2_old w (.cells #[.int .i64 ki, .int .i64 ra, .int .i64 rb, .int .i64 rc, .slice ta ss.length tc] 36) (.cells #[.int .i64 ki', .int .i64 ra', .int .i64 rb', .int .i64 rc', .slice ta' ss'.length tc'] 36)
  have p0 := heap_alloc_new (w.alloc (.cells #[.int .i64 ki, .int .i64 ra, .int .i64 rb, .int .i64 rc, .slice ta ss.length tc] 36)) (.cells #[.int .i64 ki', .int .i64 ra', .int .i64 rb', .int .i64 rc', .slice ta' ss'.length tc'] 36)
  rw [size_alloc] at p0
  go_enter Tryd.func10, Tryd.ntmps10
  go_wp2_with fail
  generalize (w.alloc (.cells #[.int .i64 ki, .int .i64 ra, .int .i64 rb, .int .i64 rc, .slice ta ss.length tc] 36)).alloc (.cells #[.int .i64 ki', .int .i64 ra', .int .i64 rb', .int .i64 rc', .slice ta' ss'.length tc'] 36) = W0 at hA0 q0 p0 ⊢
  refine (table_any rs sa _ cap W0 rfl (hr.below hA0) (hT.below hA0)).mono ?_
  rintro e w1 ⟨xa, xc, ks, he, hv, ht, hb1⟩
  subst he
  dsimp only
  have H0 : Hid (tabF (vs ks) = 0) := by show _ = _; rw [hv]; exact tabR_okA rs
  have H30 : Hid ((vs ks).length ≤ 30) := by show _ ≤ _; rw [hv]; exact tabR_le rs
  clear hv
  have hB1 := hA0.trans (hb1.mono hA0.size)
  have q1 := (hb1.block _ (lt_of_heap q0)).trans q0
  have p1 := (hb1.block _ (lt_of_heap p0)).trans p0
  have c0 := cells_at q1 0 _ rfl
  have c1 := cells_at q1 1 _ rfl
  have c2 := cells_at q1 2 _ rfl
  have c3 := cells_at q1 3 _ rfl
  have c4 := cells_at q1 4 _ rfl
  go_wp2_with fail
  refine (HH.out w1).mono ?_
  rintro e w2 ⟨ba, bc, bl, pa, pc, pl, he, hH, hCA, hb2⟩
  subst he
  dsimp only
  have HCA : Hid _ := hCA
  clear hCA c0 c1 c2 c3 c4 HH
  have hB2 := hB1.trans (hb2.mono hB1.size)
  have hA2 : Below w2.heap.size w2 (w2.alloc (.cells #[.int .i64 A, .int .i64 B, .slice ba bl.length bc, .slice pa pl.length pc] 25)) := (Below.refl _ _).alloc (Nat.le_refl _) _
  have p2 := heap_keep (o := .cells #[.int .i64 A, .int .i64 B, .slice ba bl.length bc, .slice pa pl.length pc] 25) ((hb2.block _ (lt_of_heap p1)).trans p1)
  have u2 := heap_alloc_new w2 (.cells #[.int .i64 A, .int .i64 B, .slice ba bl.length bc, .slice pa pl.length pc] 25)
  have c0 := cells_at p2 0 _ rfl
  have c1 := cells_at p2 1 _ rfl
  have c2 := cells_at p2 2 _ rfl
  have c3 := cells_at p2 3 _ rfl
  have c4 := cells_at p2 4 _ rfl
  have hB3 := hB2.trans (hA2.mono hB2.size)
  have ht3 := (ht.below hb2).below hA2
  have hH3 := hH.below hA2
  go_wp2_with fail
  generalize w2.alloc (.cells #[.int .i64 A, .int .i64 B, .slice ba bl.length bc, .slice pa pl.length pc] 25) = w3 at hA2 u2 p2 c0 c1 c2 c3 c4 hB3 ht3 hH3 ⊢
  refine (HH'.out w3).mono ?_
  rintro e w4 ⟨ba', bc', bl', pa', pc', pl', he, _, hb4⟩
  subst he
  dsimp only
  clear c0 c1 c2 c3 c4 HH'
  have hB4 := hB3.trans (hb4.mono hB3.size)
  have hA4 : Below w4.heap.size w4 (w4.alloc (.cells #[.int .i64 A', .int .i64 B', .slice ba' bl'.length bc', .slice pa' pl'.length pc'] 25)) := (Below.refl _ _).alloc (Nat.le_refl _) _
  have u4 := heap_keep (o := .cells #[.int .i64 A', .int .i64 B', .slice ba' bl'.length bc', .slice pa' pl'.length pc'] 25) ((hb4.block _ (lt_of_heap u2)).trans u2)
  have v4 := heap_alloc_new w4 (.cells #[.int .i64 A', .int .i64 B', .slice ba' bl'.length bc', .slice pa' pl'.length pc'] 25)
  have hB5 := hB4.trans (hA4.mono hB4.size)
  have ht5 := (ht3.below hb4).below hA4
  have hH5 := (hH3.below hb4).below hA4
  have d0 := cells_at u4 0 _ rfl
  have d1 := cells_at u4 1 _ rfl
  have d2 := cells_at u4 2 _ rfl
  have d3 := cells_at u4 3 _ rfl
  have e0 := cells_at v4 0 _ rfl
  have e1 := cells_at v4 1 _ rfl
  by_cases hsame : A = A' ∧ B = B'
  · obtain ⟨rfl, rfl⟩ := hsame
    go_wp2_with fail
    refine (voted_any [] none 0 0 A B _ rfl (tab_nil _)).mono ?_
    rintro e w6 ⟨ya, yc, ys, er, he, hV, _, _, hb6⟩
    subst he
    dsimp only
    obtain rfl := voted_none hV
    clear hV
    go_wp2_with fail
    go_ret
    exact ⟨by first | rfl | simp, hB5.trans (hb6.mono hB5.size)⟩
  · have HNE : Hid (¬ (SR.1 = A' ∧ SR.2.1 = B')) := by
      show ¬ _
      rw [HS1.out, HS2.out]; exact hsame
    have hbool : ((A == A') = false) ∨ ((A == A') = true ∧ (B == B') = false) := by
      by_cases h1 : A = A'
      · by_cases h2 : B = B'
        · exact absurd ⟨h1, h2⟩ hsame
        · exact .inr ⟨by simp [h1], by simp [h2]⟩
      · exact .inl (by simp [h1])
    clear hsame
    have ht4 := ht3.below hb4
    have hH4 := hH3.below hb4
    have HV : Hid (∀ W : World, Below w4.heap.size w4 W → Calls Tryd.prog 33 #[.slice xa ks.length xc, .int .i64 A', .int .i64 B'] W fun e w' => ∃ ra rc bs er, e = .returned (.tuple #[.slice ra (List.length bs) rc, .int .i64 er]) ∧ VotedIs (vs ks) A' B' er bs ∧ SliceAt w' ra rc bs ∧ (∀ sb so, ra = some ⟨sb, so, none⟩ → W.heap.size ≤ sb ∧ sb < w'.heap.size) ∧ Below W.heap.size W w') := by
      show ∀ W, _
      intro W hW
      exact voted_any ks xa _ xc A' B' W rfl (ht4.below hW)
    have HC : Hid (∀ W : World, Below w4.heap.size w4 W → Calls Tryd.prog 25 #[.slice xa ks.length xc, .agg #[.int .i64 A, .int .i64 B, .slice ba bl.length bc, .slice pa pl.length pc]] W fun e w' => CastAt W w' e (if (castF (vs ks) SR).2 ≠ 0 then ([], (0, 0, []), (castF (vs ks) SR).2) else ((castF (vs ks) SR).1, SR, 0))) := by
      show ∀ W, _
      intro W hW
      rw [← HCA.out _ H0.out]
      exact cast_any ks xa xc A B ba bc bl pa pc pl W (ht4.below hW) (hH4.below hW) (hT.below (hB4.trans (hW.mono hB4.size)))
    rcases hbool with hx | ⟨hx, hy⟩
    all_goals
      go_wp2_with fail
      generalize w4.alloc (.cells #[.int .i64 A', .int .i64 B', .slice ba' bl'.length bc', .slice pa' pl'.length pc'] 25) = w5 at hA4 u4 v4 hB5 ht5 hH5 d0 d1 d2 d3 e0 e1 ⊢
      refine (HV.out w5 hA4).mono ?_
      rintro e w6 ⟨ya, yc, ys, er, he, hV, hys, hyr, hb6⟩
      subst he
      dsimp only
      have f0 := cells_at ((hb6.block _ (lt_of_heap u4)).trans u4) 0 _ rfl
      have f1 := cells_at ((hb6.block _ (lt_of_heap u4)).trans u4) 1 _ rfl
      have f2 := cells_at ((hb6.block _ (lt_of_heap u4)).trans u4) 2 _ rfl
      have f3 := cells_at ((hb6.block _ (lt_of_heap u4)).trans u4) 3 _ rfl
      have hB6 := hB5.trans (hb6.mono hB5.size)
      have v6 := (hb6.block _ (lt_of_heap v4)).trans v4
      have HVI : Hid (VotedIs (vs ks) A' B' er ys) := hV
      clear hV
      go_wp2_with fail
      refine (HC.out w6 (hA4.trans (hb6.mono hA4.size))).mono ?_
      rintro e w7 ⟨za, zc, zs, da, dc, au', rd', ds, er2, he, hR, hT7, _, _, _, hb7⟩
      subst he
      dsimp only
      have hB7 := hB6.trans (hb7.mono hB6.size)
      have hA7 : Below w7.heap.size w7 (w7.alloc (.cells #[.int .i64 au', .int .i64 rd', .slice da ds.length dc] 47)) := (Below.refl _ _).alloc (Nat.le_refl _) _
      have v7 := heap_keep (o := .cells #[.int .i64 au', .int .i64 rd', .slice da ds.length dc] 47) ((hb7.block _ (lt_of_heap v6)).trans v6)
      have g0 := cells_at v7 0 _ rfl
      have g1 := cells_at v7 1 _ rfl
      have hB8 := hB7.trans (hA7.mono hB7.size)
      have hT8 := hT7.below hA7
      have hys8 := (hys.below hb7).below hA7
      have hR2 : (er2 = 7) ∨ (er2 = 0 ∧ 0 < (vs zs).length ∧ ∀ f cs, VotedIs (vs zs) A' B' f cs → er = f ∧ ys = cs) := by
        rcases castF_vals (vs ks) SR with ⟨h, m, hm⟩ | h | h | ⟨h, h2, h3⟩
        · rw [h] at hR
          simp only [ne_eq, not_true_eq_false, if_false, Prod.mk.injEq] at hR
          obtain ⟨hz, _, rfl⟩ := hR
          refine .inr ⟨rfl, ?_, fun f cs hf => ?_⟩
          · rw [hz]
            rcases Nat.eq_zero_or_pos (vs ks).length with q | q
            · rw [q] at hm; cases hm
            · exact q
          · rw [hz] at hf; exact HVI.out.one hf
        · rw [h] at hR
          simp only [ne_eq, Int.reduceEq, not_false_eq_true, if_true, Prod.mk.injEq] at hR
          exact .inl hR.2.2
        · exfalso
          have := H30.out
          cases hfi : findTo (vs ks) SR.1 SR.2.1 (vs ks).length with
          | none => rw [castF_new hfi (by omega)] at h; simp at h
          | some m =>
            by_cases q : txL (svAt (vs ks) m).2.2 = txL SR.2.2
            · rw [castF_same hfi q] at h; simp at h
            · rw [castF_twice hfi q] at h; simp at h
        · rw [h] at hR
          simp only [ne_eq, not_true_eq_false, if_false, Prod.mk.injEq] at hR
          obtain ⟨hz, _, rfl⟩ := hR
          refine .inr ⟨rfl, by rw [hz]; simp, fun f cs hf => ?_⟩
          rw [hz] at hf
          exact voted_more HVI.out H0.out hf (tabF_snoc H0.out h3 HSok.out h2) HNE.out
      clear hR HC HV HVI H0 H30 HSok HCA HNE
      rcases hR2 with rfl | ⟨rfl, hpos, hsame⟩
      · go_wp2_with fail
        go_ret
        exact ⟨by first | rfl | simp, hB8⟩
      · have HSM : Hid _ := hsame
        clear hsame
        rw [vs_length] at hpos
        have hposI : (0 : Int) < zs.length := by omega
        go_wp2_with fail
        refine (voted_any zs za _ zc A' B' _ rfl hT8).mono ?_
        rintro e w9 ⟨ma, mc, ms, er3, he, hV3, hms, _, hb9⟩
        subst he
        dsimp only
        obtain ⟨rfl, rfl⟩ := HSM.out _ _ hV3
        clear hV3 HSM
        have hE := same_eq ys ya ma _ _ yc mc w9 rfl rfl (hys8.below hb9) hms
        have hB9 := hB8.trans (hb9.mono hB8.size)
        go_wp2_with (go_at_call 34; refine hE.mono ?_; rintro e w' ⟨rfl, rfl⟩)
        go_ret
        exact ⟨by first | rfl | simp, hB9⟩
end Go.Proofs.YtbkojincfmfpnaaDoor

namespace Go.Proofs.YtbkojincfmfpnaaDoor
open Go.RowKit

set_option maxRecDepth 100000 in
/-- An array of arrays of integers that reads as a table of rows holds the rows' numbers, cell for cell. -/
theorem cells_of_tab2 {H : Type} {enc : TypeId × Value → H} {P : Program} {w : World} {base : Nat} {sp : Nat → Bool} {held : Bool} {fuel : Nat} {t e i : TypeId} {n m : Nat} {k : IntKind} {cs : List Value} {rows : List (List Int)} {p : List MemPlace}
    (ht : P.underlying t = some (.array n e)) (he : P.underlying e = some (.array m i)) (hi : P.underlying i = some (.int k)) (hci : P.cellsOf i = 1) (hce : P.cellsOf e = m) (hm : 0 < m)
    (h : DataW.trod enc P w base sp held fuel t cs = some (.agg (rows.map (Lib.tabData k)), p)) (q : Nat) (hq : q < n * m) : cs[q]? = ((rows.getD (q / m) []).map (Value.int k))[q % m]? := by
  obtain ⟨xs, f, rfl, hx, hl, hn, hr⟩ := DataW.trod_array ht h
  have hin : q / m < n := Nat.div_lt_of_lt_mul (by rw [Nat.mul_comm]; exact hq)
  have hrow := hr (q / m) hin
  have hxs : xs.map (·.1) = rows.map (Lib.tabData k) := by
    have := congrArg Prod.fst hx
    simpa using this.symm
  have hg : (xs.map (·.1))[q / m]? = some (xs[q / m]'(by omega)).1 := by simp [hn, hin]
  rw [hxs] at hg
  simp only [List.getElem?_map, Option.map_eq_some_iff] at hg
  obtain ⟨r, hr1, hr2⟩ := hg
  rw [List.getElem?_eq_getElem (by omega), hce] at hrow
  have hrow' : DataW.trod enc P w base sp held f e ((cs.drop (q / m * m)).take m) = some (Lib.tabData k r, (xs[q / m]'(by omega)).2) := by
    rw [hrow, hr2]
  have hc := Lib.cells_of_tab he hi hci hce hrow'
  have hj : q % m < m := Nat.mod_lt _ hm
  have e1 : ((cs.drop (q / m * m)).take m)[q % m]? = cs[q]? := by
    rw [List.getElem?_take, if_pos hj, List.getElem?_drop, Nat.mul_comm, Nat.div_add_mod]
  rw [← e1, hc]
  simp [List.getD, hr1]

set_option maxRecDepth 100000 in
theorem tFirst : (Tryd.prog.globals[0]?).map (·.type) = some 127 := by kernel_rfl
set_option maxRecDepth 100000 in
theorem tOrders : (Tryd.prog.globals[1]?).map (·.type) = some 141 := by kernel_rfl
set_option maxRecDepth 100000 in
theorem tLanes : (Tryd.prog.globals[2]?).map (·.type) = some 143 := by kernel_rfl
set_option maxRecDepth 100000 in
theorem cU32 : Tryd.prog.cellsOf 126 = 1 := by kernel_rfl
set_option maxRecDepth 100000 in
theorem c8U32 : Tryd.prog.cellsOf 127 = 8 := by kernel_rfl
set_option maxRecDepth 100000 in
theorem c16U8 : Tryd.prog.cellsOf 140 = 16 := by kernel_rfl
set_option maxRecDepth 100000 in
theorem c4U8 : Tryd.prog.cellsOf 142 = 4 := by kernel_rfl
def ordRows : List (List Int) := [[0, 1, 2, 3, 4, 5, 6, 7, 8, 9, 10, 11, 12, 13, 14, 15], [14, 10, 4, 8, 9, 15, 13, 6, 1, 12, 0, 2, 11, 7, 5, 3], [11, 8, 12, 0, 5, 2, 15, 13, 10, 14, 3, 6, 7, 1, 9, 4], [7, 9, 3, 1, 13, 12, 11, 14, 2, 6, 5, 10, 4, 0, 15, 8], [9, 0, 5, 7, 2, 4, 10, 15, 14, 1, 11, 12, 6, 8, 3, 13], [2, 12, 6, 10, 0, 11, 8, 3, 4, 13, 7, 5, 15, 14, 1, 9], [12, 5, 1, 15, 14, 13, 4, 10, 0, 7, 6, 3, 9, 2, 8, 11], [13, 11, 7, 14, 12, 1, 3, 9, 5, 0, 15, 4, 8, 6, 2, 10], [6, 15, 14, 9, 11, 3, 0, 8, 12, 2, 13, 7, 1, 4, 10, 5], [10, 2, 8, 4, 7, 6, 1, 5, 15, 11, 9, 14, 3, 12, 13, 0]]
def laneRows : List (List Int) := [[0, 4, 8, 12], [1, 5, 9, 13], [2, 6, 10, 14], [3, 7, 11, 15], [0, 5, 10, 15], [1, 6, 11, 12], [2, 7, 8, 13], [3, 4, 9, 14]]
set_option maxRecDepth 100000 in
theorem ordRows_flat : ∀ q, q < 160 → (ordRows.getD (q / 16) [])[q % 16]? = some ((ordF.getD q 0 : Nat) : Int) := by decide +kernel
set_option maxRecDepth 100000 in
theorem laneRows_flat : ∀ q, q < 32 → (laneRows.getD (q / 4) [])[q % 4]? = some ((laneF.getD q 0 : Nat) : Int) := by decide +kernel
set_option maxRecDepth 100000 in
theorem dFirst : Rows.laid_sheaves_blake_firstWords (H := Unit) = Lib.tabData .u32 fw := rfl
set_option maxRecDepth 100000 in
theorem dOrders : Rows.laid_sheaves_blake_orders (H := Unit) = .agg (ordRows.map (Lib.tabData .u8)) := rfl
set_option maxRecDepth 100000 in
theorem dLanes : Rows.laid_sheaves_blake_lanes (H := Unit) = .agg (laneRows.map (Lib.tabData .u8)) := rfl

set_option maxRecDepth 100000 in
theorem tabs_of_laid {W : World} {n1 n2 n3 : String} (gFirst : Tryd.prog.globalNamed n1 = some 0) (gOrders : Tryd.prog.globalNamed n2 = some 1) (gLanes : Tryd.prog.globalNamed n3 = some 2)
    (h : laidMetH Tryd.prog [(n1, Rows.laid_sheaves_blake_firstWords), (n2, Rows.laid_sheaves_blake_orders), (n3, Rows.laid_sheaves_blake_lanes)] W) : Tabs W := by
  have h1 : laidMet Tryd.prog [(n1, Rows.laid_sheaves_blake_firstWords), (n2, Rows.laid_sheaves_blake_orders), (n3, Rows.laid_sheaves_blake_lanes)] W := h
  clear h
  have h2 := h1.tail
  have h3 := h2.tail
  rw [dFirst] at h1
  rw [dOrders] at h2
  rw [dLanes] at h3
  have t1 := Lib.tabIs_of_head gFirst tFirst Tryd.underlying127 Tryd.underlying126 cU32 c8U32 h1
  refine ⟨fun i hi => t1.cell gFirst i hi, fun i hi => ?_, fun i hi => ?_⟩
  · obtain ⟨ps, ⟨g', t', cs, fuel, p, q, hg', ht', hvar, hd, _, _⟩, _⟩ := h2
    obtain rfl := Option.some.inj (gOrders.symm.trans hg')
    obtain rfl := Option.some.inj (tOrders.symm.trans ht')
    have hc := World.var?_cell gOrders hvar i
    have he := cells_of_tab2 Tryd.underlying141 Tryd.underlying140 Tryd.underlying5 cU8 c16U8 (by decide) hd i hi
    rw [hc]
    have := ordRows_flat i hi
    simp only [List.getElem?_map, this, Option.map_some] at he
    simpa using he
  · obtain ⟨ps, ⟨g', t', cs, fuel, p, q, hg', ht', hvar, hd, _, _⟩, _⟩ := h3
    obtain rfl := Option.some.inj (gLanes.symm.trans hg')
    obtain rfl := Option.some.inj (tLanes.symm.trans ht')
    have hc := World.var?_cell gLanes hvar i
    have he := cells_of_tab2 Tryd.underlying143 Tryd.underlying142 Tryd.underlying5 cU8 c4U8 (by decide) hd i hi
    rw [hc]
    have := laneRows_flat i hi
    simp only [List.getElem?_map, this, Option.map_some] at he
    simpa using he
end Go.Proofs.YtbkojincfmfpnaaDoor

namespace Go.Proofs.YtbkojincfmfpnaaDoor
open Go.ChangeShapes Go.WideShapes Go.ChangeAt Go.RowKit

/-- What the initialisers of the three tables lay, in the first blocks. -/
def layBlock (c : Array Value) : Obj → Obj
  | .cells _ t frozen => .cells c t frozen
  | o => o
def layTabs (w : World) : World :=
  { w with heap := ((w.heap.modify 0 (layBlock (ua fw))).modify 1 (layBlock (ub (ordF.map Int.ofNat)).toArray)).modify 2 (layBlock (ub (laneF.map Int.ofNat)).toArray) }
end Go.Proofs.YtbkojincfmfpnaaDoor
