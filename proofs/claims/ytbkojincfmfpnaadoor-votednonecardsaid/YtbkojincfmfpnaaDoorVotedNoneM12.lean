/- The law sheaveskeep.VotedNone answers true for every argument, and each argument reads behind the call as it read before: the tied card. Its conditions: the three tables of package blake hold what the program's text lays (the card ties that); the form's own reach. -/
import Derived.Test.YtbkojincfmfpnaaDoorVotedNoneM6
import Derived.Test.YtbkojincfmfpnaaDoorCTab
import Derived.Test.YtbkojincfmfpnaaDoorSCopy
import Derived.Test.YtbkojincfmfpnaaDoorClone
import Derived.Test.YtbkojincfmfpnaaDoorRows
import Derived.Test.YtbkojincfmfpnaaDoorK
import Derived.Lib.LaidTab
import Derived.OpenShut
import Derived.Stop.LaidErr
import Derived.Test.YtbkojincfmfpnaaDoorLib
import Derived.ProofKit
import Derived.Test.YtbkojincfmfpnaaDoorCards
import Derived.Test.YtbkojincfmfpnaaDoorTie
import Derived.WalkKit
import Derived.Deep.DeepHandedRow
import Derived.SevenTiedAt
import Derived.Below
namespace Go.Proofs.YtbkojincfmfpnaaDoor
open Go.RowKit

set_option maxRecDepth 100000 in
theorem header_hat (r : Rw) (w : World) (h : I64 r.a ∧ I64 r.b ∧ I64 r.c) :
    Calls Tryd.prog 19 #[.agg #[.int .i64 r.ki, .int .i64 r.a, .int .i64 r.b, .int .i64 r.c, .slice r.sa r.n r.cap]] w fun e w' => ∃ ba bc bl pa pc pl, e = .returned (.agg #[.int .i64 (pk r.a 4), .int .i64 (1 + pk r.b 9), .slice ba (List.length bl) bc, .slice pa (List.length pl) pc]) ∧ HAt w' ba bc bl pa pc pl ∧ bl.map (·.bs) = hBats r.c ∧ pl.map (·.bs) = hPars r.a r.b r.c ∧ Below w.heap.size w w' ∧ Fresh w.heap.size ba bl ∧ Fresh w.heap.size pa pl := by
  refine (header_raw2 r.ki r.a r.b r.c r.sa r.n r.cap w h.1 h.2.1 h.2.2).mono ?_
  rintro e w' ⟨ba, bc, bl, pa, pc, pl, he, a1, a2, a3, a4, a5, a6, a7, a8, a9⟩
  exact ⟨ba, bc, bl, pa, pc, pl, he, ⟨a1, a2, fun sb so e => (a3.1 sb so e).1, fun sb so e => (a4.1 sb so e).1⟩, a5, a6, a7, a8, a9⟩
set_option maxRecDepth 100000 in
set_option maxHeartbeats 2000000 in
theorem table_any (rs : List Rw) (sa : Option Addr) (n cap : Nat) (w : World) (hn : n = rs.length) (hr : RawsAt w sa rs) (hT : Tabs w) :
    Calls Tryd.prog 32 #[.slice sa n cap] w fun e w' => ∃ ra rc ks, e = .returned (.slice ra (List.length ks) rc) ∧ vs ks = tabR rs ∧ TabAt w' ra rc ks ∧ Below w.heap.size w w' := by
  subst hn
  have hsm := hr.small
  go_enter Tryd.func32, Tryd.ntmps32
  go_wp2_with fail
  go_loopw [4, 3] (fun j v wr => ∃ (k : Nat) (ks : List Sl) (ra : Option Addr) (rc : Nat), k ≤ rs.length ∧ k ≤ 30 ∧ j = .int .i64 k ∧ v = .slice ra ks.length rc ∧ vs ks = tabTo rs k ∧ TabAt wr ra rc ks ∧ Below w.heap.size w wr) (fun j _ _ => rs.length - (intOf j).toNat)
  case atStart => exact ⟨0, [], none, 0, Nat.zero_le _, by omega, rfl, rfl, rfl, tab_nil _, Below.refl _ _⟩
  case round =>
    obtain ⟨k, ks, ra, rc, hk, hk30, rfl, rfl, hv, ht, hb⟩ := hrel
    by_cases hlt : k < rs.length
    · by_cases h30 : k < 30
      · have hpw := hr.below hb
        obtain ⟨sb, so, rfl, hc⟩ : ∃ sb so, sa = some ⟨sb, so, none⟩ ∧ ∀ j (h : j < rs.length), wr.cell? ⟨sb, so + j * 5, none⟩ = some (.int .i64 (rs[j]).ki) ∧ wr.cell? ⟨sb, so + j * 5 + 1, none⟩ = some (.int .i64 (rs[j]).a) ∧ wr.cell? ⟨sb, so + j * 5 + 2, none⟩ = some (.int .i64 (rs[j]).b) ∧ wr.cell? ⟨sb, so + j * 5 + 3, none⟩ = some (.int .i64 (rs[j]).c) ∧ wr.cell? ⟨sb, so + j * 5 + 4, none⟩ = some (.slice (rs[j]).sa (rs[j]).n (rs[j]).cap) := by
          rcases hpw.cells with h | h
          · rw [h] at hlt; simp at hlt
          · exact h
        obtain ⟨c0, c1, c2, c3, c4⟩ := hc k hlt
        have hi := hr.each (rs[k]) (List.getElem_mem hlt)
        have hltI : (k : Int) < rs.length := by omega
        have h30I : (k : Int) < 30 := by omega
        have HX : Hid (tabTo rs (k + 1) = stepT (tabTo rs k) (slotR (rs[k]))) := by
          show _ = _
          rw [tabTo, rwAt_get rs k hlt]
        have h0 : tabF (vs ks) = 0 := by rw [hv]; exact (tabTo_ok rs k).ok
        have H0 : Hid (tabF (vs ks) = 0) := h0
        clear hc hpw h0
        generalize rs[k] = r at *
        have HH : Hid (I64 r.a ∧ I64 r.b ∧ I64 r.c) := hi
        clear hi
        go_wp2_with fail
        refine (header_hat r wr HH.out).mono ?_
        rintro e w1 ⟨ba, bc, bl, pa, pc, pl, he, hH, hbl, hpl, hb1, _, _⟩
        subst he
        dsimp only
        have hB1 := hb.trans (hb1.mono hb.size)
        have hA := castAll_raw (l := vs ks) r bl pl H0.out hbl hpl
        have HC := cast_any ks ra rc (pk r.a 4) (1 + pk r.b 9) ba bc bl pa pc pl w1 (ht.below hb1) hH (hT.below hB1)
        rw [hA] at HC
        clear hA hbl hpl
        generalize pk r.a 4 = PA at *
        generalize 1 + pk r.b 9 = PB at *
        go_wp2_with fail
        refine HC.mono ?_
        rintro e w2 ⟨xa, xc, xs, da, dc, au', rd', ds, er, he, hR, hT2, _, _, _, hb2⟩
        subst he
        dsimp only
        have hB2 := hB1.trans (hb2.mono hB1.size)
        have hA2 : Below w2.heap.size w2 (w2.alloc (.cells #[.int .i64 au', .int .i64 rd', .slice da ds.length dc] 47)) := (Below.refl _ _).alloc (Nat.le_refl _) _
        have hB3 := hB2.trans (hA2.mono hB2.size)
        by_cases hz : (castF (vs ks) (slotR r)).2 = 0
        · rw [if_neg (by simp [hz])] at hR
          simp only [Prod.mk.injEq] at hR
          obtain ⟨hx, _, rfl⟩ := hR
          have hstep : Hid (vs xs = tabTo rs (k + 1)) := by
            show _ = _
            rw [HX.out, stepT, ← hv, if_pos hz, hx]
          clear hx hz HC
          go_wp2_with fail
          go_roundw
          case rel =>
            have hR : ∃ (k' : Nat) (ks' : List Sl) (ra' : Option Addr) (rc' : Nat), k' ≤ rs.length ∧ k' ≤ 30 ∧ (Value.int .i64 ((k : Int) + 1)) = .int .i64 k' ∧ Value.slice xa xs.length xc = .slice ra' ks'.length rc' ∧ vs ks' = tabTo rs k' ∧ TabAt (w2.alloc (.cells #[.int .i64 au', .int .i64 rd', .slice da ds.length dc] 47)) ra' rc' ks' ∧ Below w.heap.size w (w2.alloc (.cells #[.int .i64 au', .int .i64 rd', .slice da ds.length dc] 47)) :=
              ⟨k + 1, xs, xa, xc, by omega, by omega, by go_num, rfl, hstep.out, hT2.below hA2, hB3⟩
            first | exact hR | ((repeat apply Exists.intro); exact ⟨hR, rfl⟩)
          case measure => simp [intOf]; omega
        · rw [if_pos (by simp [hz])] at hR
          simp only [Prod.mk.injEq] at hR
          obtain ⟨hq1, hq2, rfl⟩ := hR
          clear hq1 hq2
          have hstep : Hid (vs ks = tabTo rs (k + 1)) := by
            show _ = _
            rw [HX.out, stepT, ← hv, if_neg hz]
          have hT3 := ((ht.below hb1).below hb2).below hA2
          generalize (castF (vs ks) (slotR r)).2 = er at *
          clear HC
          go_wp2_with fail
          go_roundw
          case rel =>
            have hR : ∃ (k' : Nat) (ks' : List Sl) (ra' : Option Addr) (rc' : Nat), k' ≤ rs.length ∧ k' ≤ 30 ∧ (Value.int .i64 ((k : Int) + 1)) = .int .i64 k' ∧ Value.slice ra ks.length rc = .slice ra' ks'.length rc' ∧ vs ks' = tabTo rs k' ∧ TabAt (w2.alloc (.cells #[.int .i64 au', .int .i64 rd', .slice da ds.length dc] 47)) ra' rc' ks' ∧ Below w.heap.size w (w2.alloc (.cells #[.int .i64 au', .int .i64 rd', .slice da ds.length dc] 47)) :=
              ⟨k + 1, ks, ra, rc, by omega, by omega, by go_num, rfl, hstep.out, hT3, hB3⟩
            first | exact hR | ((repeat apply Exists.intro); exact ⟨hR, rfl⟩)
          case measure => simp [intOf]; omega
      · obtain rfl : k = 30 := by omega
        have hltI : ((30 : Nat) : Int) < rs.length := by omega
        have hltJ : (30 : Int) < rs.length := by omega
        have hE : Hid (vs ks = tabR rs) := by
          show _ = _
          rw [hv, tabR, Nat.min_eq_right (by omega)]
        go_wp2_with fail
        go_ret
        exact ⟨ra, rc, ks, rfl, hE.out, ht, hb⟩
    · obtain rfl : k = rs.length := by omega
      have hE : Hid (vs ks = tabR rs) := by
        show _ = _
        rw [hv, tabR, Nat.min_eq_left hk30]
      go_wp2_with fail
      go_ret
      exact ⟨ra, rc, ks, rfl, hE.out, ht, hb⟩
end Go.Proofs.YtbkojincfmfpnaaDoor

namespace Go.Proofs.YtbkojincfmfpnaaDoor
open Go.RowKit

/-- P4.2 -/
inductive VotedIs (l : List SV) (au rd : Int) (e : Int) (bs : List Int) : Prop
  | bad (h : tabF l = 12) (he : e = 12) (hb : bs = [])
  | none (h : tabF l = 0) (hn : ∀ j, j < l.length → hit l au rd j = false) (he : e = 8) (hb : bs = [])
  | at (h : tabF l = 0) (m : Nat) (hm : m < l.length) (h1 : hit l au rd m = true) (h2 : ∀ j, j < m → hit l au rd j = false) (he : e = 0) (hb : bs = (svAt l m).2.2)
set_option maxRecDepth 100000 in
theorem VotedIs.one {l : List SV} {au rd e f : Int} {bs cs : List Int} (h : VotedIs l au rd e bs) (g : VotedIs l au rd f cs) : e = f ∧ bs = cs := by
  cases h with
  | bad h he hb => cases g with
    | bad g ge gb => exact ⟨by rw [he, ge], by rw [hb, gb]⟩
    | none g _ _ _ => rw [h] at g; cases g
    | «at» g m _ _ _ _ _ => rw [h] at g; cases g
  | none h hn he hb => cases g with
    | bad g ge gb => rw [h] at g; cases g
    | none g _ ge gb => exact ⟨by rw [he, ge], by rw [hb, gb]⟩
    | «at» g m hm h1 _ _ _ => rw [hn m hm] at h1; cases h1
  | «at» h m hm h1 h2 he hb => cases g with
    | bad g ge gb => rw [h] at g; cases g
    | none g hn _ _ => rw [hn m hm] at h1; cases h1
    | «at» g n gn g1 g2 ge gb =>
      obtain rfl : m = n := by
        rcases Nat.lt_trichotomy m n with q | q | q
        · rw [g2 m q] at h1; cases h1
        · exact q
        · rw [h2 n q] at g1; cases g1
      exact ⟨by rw [he, ge], by rw [hb, gb]⟩
set_option maxRecDepth 100000 in
theorem tab_len32 {l : List SV} (h : tabF l = 0) (m : Nat) (hm : m < l.length) : (svAt l m).2.2.length = 32 := by
  have hb := (tabF_zero h).2 m hm
  simp only [badAt, Bool.or_eq_false_iff] at hb
  have h1 := hb.1
  simp only [ne_eq, decide_eq_false_iff_not, Decidable.not_not] at h1
  unfold slotF at h1
  split at h1
  · cases h1
  · split at h1
    · cases h1
    · rename_i g; omega
set_option maxRecDepth 100000 in
set_option maxHeartbeats 1000000 in
theorem voted_any (ls : List Sl) (sa : Option Addr) (n cap : Nat) (au rd : Int) (w : World) (hn : n = ls.length) (ht : TabAt w sa cap ls) :
    Calls Tryd.prog 33 #[.slice sa n cap, .int .i64 au, .int .i64 rd] w fun e w' => ∃ ra rc bs er, e = .returned (.tuple #[.slice ra (List.length bs) rc, .int .i64 er]) ∧ VotedIs (vs ls) au rd er bs ∧ SliceAt w' ra rc bs ∧ (∀ sb so, ra = some ⟨sb, so, none⟩ → w.heap.size ≤ sb ∧ sb < w'.heap.size) ∧ Below w.heap.size w w' := by
  subst hn
  have hle := ht.le
  have hmx := ht.max
  rcases tabF_or (vs ls) with h0 | h0
  · go_enter Tryd.func33, Tryd.ntmps33
    go_wp2_with fail
    refine (checkTab_any ls sa _ cap w rfl ht).mono ?_
    rintro e w1 ⟨he, hb1⟩
    rw [h0] at he
    subst he
    dsimp only
    go_wp2_with fail
    refine (find_any ls sa _ cap au rd w1 (Nat.le_refl _) ht.small (ht.slots.below hb1)).mono ?_
    rintro e w2 ⟨r, he, hF, hb2⟩
    subst he
    dsimp only
    have hB2 := hb1.trans (hb2.mono hb1.size)
    rcases hF with ⟨m, hm, rfl, h1, h2⟩ | ⟨rfl, h2⟩
    · have hpw := ht.slots.below hB2
      obtain ⟨sb, so, rfl, hc⟩ : ∃ sb so, sa = some ⟨sb, so, none⟩ ∧ ∀ j (h : j < ls.length), w2.cell? ⟨sb, so + j * 3, none⟩ = some (.int .i64 (ls[j]).au) ∧ w2.cell? ⟨sb, so + j * 3 + 1, none⟩ = some (.int .i64 (ls[j]).rd) ∧ w2.cell? ⟨sb, so + j * 3 + 2, none⟩ = some (.slice (ls[j]).p.sa (ls[j]).p.bs.length (ls[j]).p.cap) := by
        rcases hpw.cells with h | h
        · rw [h] at hm; simp at hm
        · exact h
      obtain ⟨c0, c1, c2⟩ := hc m hm
      have hx := hpw.each (ls[m]) (List.getElem_mem hm)
      have h32 := tab_len32 h0 m (by rw [vs_length]; exact hm)
      have hV : Hid (VotedIs (vs ls) au rd 0 (ls[m]).p.bs) := by
        show VotedIs _ _ _ _ _
        exact .at h0 m (by rw [vs_length]; exact hm) h1 h2 rfl (by rw [svAt_get ls m hm]; rfl)
      rw [svAt_get ls m hm] at h32
      have h32' : (ls[m]).p.bs.length ≤ 140737488355328 := by
        have : (ls[m]).p.bs.length = 32 := h32
        omega
      have hltI : (m : Int) < ls.length := by omega
      clear hc h1 h2 h32 hpw
      generalize ls[m] = s at *
      go_wp2_with fail
      refine (clone_any s.p.bs s.p.sa _ s.p.cap w2 rfl hx h32').mono ?_
      rintro e w3 ⟨ra, rc, he, hs3, hrow, hb3⟩
      subst he
      dsimp only
      go_wp2_with fail
      go_ret2
      exact ⟨ra, rc, s.p.bs, 0, rfl, hV.out, hs3, (fun sb so e => by have := hrow sb so e; have := hB2.size; omega), hB2.trans (hb3.mono hB2.size)⟩
    · have hV : Hid (VotedIs (vs ls) au rd 8 []) := by
        show VotedIs _ _ _ _ _
        exact .none h0 (fun j hj => h2 j (by rw [vs_length] at hj; exact hj)) rfl rfl
      clear h2
      go_wp2_with fail
      go_ret2
      exact ⟨none, 0, [], 8, rfl, hV.out, nilSlice _, (fun _ _ e => by cases e), hB2⟩
  · go_enter Tryd.func33, Tryd.ntmps33
    go_wp2_with fail
    refine (checkTab_any ls sa _ cap w rfl ht).mono ?_
    rintro e w1 ⟨he, hb1⟩
    rw [h0] at he
    subst he
    dsimp only
    go_wp2_with fail
    go_ret2
    exact ⟨none, 0, [], 12, rfl, .bad h0 rfl rfl, nilSlice _, (fun _ _ e => by cases e), hb1⟩
end Go.Proofs.YtbkojincfmfpnaaDoor

namespace Go.Proofs.YtbkojincfmfpnaaDoor
open Go.RowKit

set_option maxRecDepth 100000 in
theorem tabR_ok (rs : List Rw) : tabF (tabR rs) = 0 := (tabTo_ok rs _).ok
set_option maxRecDepth 100000 in
theorem tabR_round (rs : List Rw) (au rd : Int) (h : rd < 1 ∨ 9 < rd) (j : Nat) (hj : j < (tabR rs).length) : hit (tabR rs) au rd j = false := by
  have hm : svAt (tabR rs) j ∈ tabR rs := by
    have e : svAt (tabR rs) j = (tabR rs)[j] := by simp [svAt, hj]
    rw [e]; exact List.getElem_mem hj
  obtain ⟨i, _, e⟩ := (tabTo_ok rs _).from_ _ hm
  obtain ⟨b0, b1⟩ := pk_bounds (rwAt rs i).b 9 (by decide)
  rw [hit, e]
  refine decide_eq_false fun ⟨_, h2⟩ => ?_
  have h3 : 1 + pk (rwAt rs i).b 9 = rd := h2
  omega
set_option maxRecDepth 100000 in
theorem zero_bad : tabF [((0 : Int), (0 : Int), ([] : List Int))] = 12 := by decide
set_option maxRecDepth 100000 in
set_option maxHeartbeats 2000000 in
theorem votedNone_walk (sa : Option Addr) (cap : Nat) (rs : List Rw) (n : Int) (w : World) (hr : RawsAt w sa rs) (_hl : rs.length ≤ cap) (l0 : -9223372036854775808 ≤ n) (u0 : n ≤ 9223372036854775807) (hT : Tabs w) :
    Calls Tryd.prog 12 #[.slice sa rs.length cap, .int .i64 n] w fun e w' => e = .returned (.bool true) ∧ Below w.heap.size w w' := by
  have hP := pk_bounds n 4 (by decide)
  go_enter Tryd.func12, Tryd.ntmps12
  go_wp2_with fail
  refine (table_any rs sa _ cap w rfl hr hT).mono ?_
  rintro e w1 ⟨ra, rc, ks, he, hv, ht, hb1⟩
  subst he
  dsimp only
  go_wp2_with (go_at_call 22; refine (picked_any n 4 _ l0 u0 (by decide) (by decide)).mono ?_; rintro e w' ⟨rfl, rfl⟩)
  refine (voted_any ks ra _ rc (pk n 4) 500 w1 rfl ht).mono ?_
  rintro e w2 ⟨xa, xc, xs, er, he, hV, _, _, hb2⟩
  subst he
  dsimp only
  have her : er = 8 := by
    rw [hv] at hV
    cases hV with
    | bad h _ _ => rw [tabR_ok] at h; cases h
    | none _ _ he _ => exact he
    | «at» _ m hm h1 _ _ _ => rw [tabR_round rs _ 500 (by omega) m hm] at h1; cases h1
  subst her
  clear hV
  have hB2 := hb1.trans (hb2.mono hb1.size)
  have hZ : TabAt (w2.alloc (.cells #[.int .i64 0, .int .i64 0, .slice none 0 0] 47)) (some ⟨w2.heap.size, 0, none⟩) 1 [⟨0, 0, ⟨none, 0, []⟩⟩] := by
    refine ⟨Nat.le_refl _, by decide, by decide, .inr ⟨_, _, rfl⟩, ⟨.inr ⟨_, _, rfl, fun j hj => ?_⟩, fun s hs => ?_⟩⟩
    · obtain rfl : j = 0 := by simpa using hj
      exact ⟨laid_cell _ _ _ 0 _ rfl, laid_cell _ _ _ 1 _ rfl, laid_cell _ _ _ 2 _ rfl⟩
    · obtain rfl : s = ⟨0, 0, ⟨none, 0, []⟩⟩ := by simpa using hs
      exact nilSlice _
  have hA2 : Below w2.heap.size w2 (w2.alloc (.cells #[.int .i64 0, .int .i64 0, .slice none 0 0] 47)) := (Below.refl _ _).alloc (Nat.le_refl _) _
  have hB3 := hB2.trans (hA2.mono hB2.size)
  go_wp2_with fail
  refine (voted_any [⟨0, 0, ⟨none, 0, []⟩⟩] (some ⟨w2.heap.size, 0, none⟩) _ 1 0 1 _ rfl hZ).mono ?_
  rintro e w3 ⟨ya, yc, ys, er, he, hV, _, _, hb3⟩
  subst he
  dsimp only
  have her : er = 12 := by
    cases hV with
    | bad _ he _ => exact he
    | none h _ _ _ => exact absurd (zero_bad.symm.trans h) (by decide)
    | «at» h _ _ _ _ _ _ => exact absurd (zero_bad.symm.trans h) (by decide)
  subst her
  clear hV
  have hB4 := hB3.trans (hb3.mono hB3.size)
  have hC := checkTab_any ks ra _ rc w3 rfl ((((ht.below hb2).below hA2).below hb3))
  rw [hv, tabR_ok] at hC
  go_wp2_with (go_at_call 35; refine hC.mono ?_; rintro e w4 ⟨rfl, hb4⟩)
  go_ret
  exact ⟨by first | rfl | simp, hB4.trans (hb4.mono hB4.size)⟩
end Go.Proofs.YtbkojincfmfpnaaDoor

namespace Go.Proofs.YtbkojincfmfpnaaDoor
open Go.RowKit

set_option maxRecDepth 100000 in
/-- An array of arrays of integers that reads as a table of rows holds the rows' numbers, cell for cell. -/
theorem cells_of_tab2 {H : Type} {enc : TypeId × Value → H} {P : Program} {w : World} {base : Nat} {sp : Nat → Bool} {held : Bool} {fuel : Nat} {t e i : TypeId} {n m : Nat} {k : IntKind} {cs : List Value} {rows : List (List Int)} {p : List MemPlace}
    (ht : P.underlying t = some (.array n e)) (he : P.underlying e = some (.array m i)) (hi : P.underlying i = some (.int k)) (hci : P.cellsOf i = 1) (hce : P.cellsOf e = m) (hm : 0 < m)
    (h : DataW.trod enc P w base sp held fuel t cs = some (.agg (rows.map (Lib.tabData k)), p)) (q : Nat) (hq : q < n * m) : cs[q]? = ((rows.getD (q / m) []).map (Value.int k))[q % m]? := by
  obtain ⟨xs, f, rfl, hx, hl, hn, hr⟩ := DataW.trod_array ht h
  have hin : q / m < n := Nat.div_lt_of_lt_mul (by rw [Nat.mul_comm]; exact hq)
  have hrow := hr (q / m) hin
  have hxs : xs.map (·.1) = rows.map (Lib.tabData k) := by
    have := congrArg Prod.fst hx
    simpa using this.symm
  have hg : (xs.map (·.1))[q / m]? = some (xs[q / m]'(by omega)).1 := by simp [hn, hin]
  rw [hxs] at hg
  simp only [List.getElem?_map, Option.map_eq_some_iff] at hg
  obtain ⟨r, hr1, hr2⟩ := hg
  rw [List.getElem?_eq_getElem (by omega), hce] at hrow
  have hrow' : DataW.trod enc P w base sp held f e ((cs.drop (q / m * m)).take m) = some (Lib.tabData k r, (xs[q / m]'(by omega)).2) := by
    rw [hrow, hr2]
  have hc := Lib.cells_of_tab he hi hci hce hrow'
  have hj : q % m < m := Nat.mod_lt _ hm
  have e1 : ((cs.drop (q / m * m)).take m)[q % m]? = cs[q]? := by
    rw [List.getElem?_take, if_pos hj, List.getElem?_drop, Nat.mul_comm, Nat.div_add_mod]
  rw [← e1, hc]
  simp [List.getD, hr1]

set_option maxRecDepth 100000 in
theorem tFirst : (Tryd.prog.globals[0]?).map (·.type) = some 127 := by kernel_rfl
set_option maxRecDepth 100000 in
theorem tOrders : (Tryd.prog.globals[1]?).map (·.type) = some 141 := by kernel_rfl
set_option maxRecDepth 100000 in
theorem tLanes : (Tryd.prog.globals[2]?).map (·.type) = some 143 := by kernel_rfl
set_option maxRecDepth 100000 in
theorem cU32 : Tryd.prog.cellsOf 126 = 1 := by kernel_rfl
set_option maxRecDepth 100000 in
theorem c8U32 : Tryd.prog.cellsOf 127 = 8 := by kernel_rfl
set_option maxRecDepth 100000 in
theorem c16U8 : Tryd.prog.cellsOf 140 = 16 := by kernel_rfl
set_option maxRecDepth 100000 in
theorem c4U8 : Tryd.prog.cellsOf 142 = 4 := by kernel_rfl
def ordRows : List (List Int) := [[0, 1, 2, 3, 4, 5, 6, 7, 8, 9, 10, 11, 12, 13, 14, 15], [14, 10, 4, 8, 9, 15, 13, 6, 1, 12, 0, 2, 11, 7, 5, 3], [11, 8, 12, 0, 5, 2, 15, 13, 10, 14, 3, 6, 7, 1, 9, 4], [7, 9, 3, 1, 13, 12, 11, 14, 2, 6, 5, 10, 4, 0, 15, 8], [9, 0, 5, 7, 2, 4, 10, 15, 14, 1, 11, 12, 6, 8, 3, 13], [2, 12, 6, 10, 0, 11, 8, 3, 4, 13, 7, 5, 15, 14, 1, 9], [12, 5, 1, 15, 14, 13, 4, 10, 0, 7, 6, 3, 9, 2, 8, 11], [13, 11, 7, 14, 12, 1, 3, 9, 5, 0, 15, 4, 8, 6, 2, 10], [6, 15, 14, 9, 11, 3, 0, 8, 12, 2, 13, 7, 1, 4, 10, 5], [10, 2, 8, 4, 7, 6, 1, 5, 15, 11, 9, 14, 3, 12, 13, 0]]
def laneRows : List (List Int) := [[0, 4, 8, 12], [1, 5, 9, 13], [2, 6, 10, 14], [3, 7, 11, 15], [0, 5, 10, 15], [1, 6, 11, 12], [2, 7, 8, 13], [3, 4, 9, 14]]
set_option maxRecDepth 100000 in
theorem ordRows_flat : ∀ q, q < 160 → (ordRows.getD (q / 16) [])[q % 16]? = some ((ordF.getD q 0 : Nat) : Int) := by decide +kernel
set_option maxRecDepth 100000 in
theorem laneRows_flat : ∀ q, q < 32 → (laneRows.getD (q / 4) [])[q % 4]? = some ((laneF.getD q 0 : Nat) : Int) := by decide +kernel
set_option maxRecDepth 100000 in
theorem dFirst : Rows.laid_sheaves_blake_firstWords (H := Unit) = Lib.tabData .u32 fw := rfl
set_option maxRecDepth 100000 in
theorem dOrders : Rows.laid_sheaves_blake_orders (H := Unit) = .agg (ordRows.map (Lib.tabData .u8)) := rfl
set_option maxRecDepth 100000 in
theorem dLanes : Rows.laid_sheaves_blake_lanes (H := Unit) = .agg (laneRows.map (Lib.tabData .u8)) := rfl

set_option maxRecDepth 100000 in
theorem tabs_of_laid {W : World} {n1 n2 n3 : String} (gFirst : Tryd.prog.globalNamed n1 = some 0) (gOrders : Tryd.prog.globalNamed n2 = some 1) (gLanes : Tryd.prog.globalNamed n3 = some 2)
    (h : laidMetH Tryd.prog [(n1, Rows.laid_sheaves_blake_firstWords), (n2, Rows.laid_sheaves_blake_orders), (n3, Rows.laid_sheaves_blake_lanes)] W) : Tabs W := by
  have h1 : laidMet Tryd.prog [(n1, Rows.laid_sheaves_blake_firstWords), (n2, Rows.laid_sheaves_blake_orders), (n3, Rows.laid_sheaves_blake_lanes)] W := h
  clear h
  have h2 := h1.tail
  have h3 := h2.tail
  rw [dFirst] at h1
  rw [dOrders] at h2
  rw [dLanes] at h3
  have t1 := Lib.tabIs_of_head gFirst tFirst Tryd.underlying127 Tryd.underlying126 cU32 c8U32 h1
  refine ⟨fun i hi => t1.cell gFirst i hi, fun i hi => ?_, fun i hi => ?_⟩
  · obtain ⟨ps, ⟨g', t', cs, fuel, p, q, hg', ht', hvar, hd, _, _⟩, _⟩ := h2
    obtain rfl := Option.some.inj (gOrders.symm.trans hg')
    obtain rfl := Option.some.inj (tOrders.symm.trans ht')
    have hc := World.var?_cell gOrders hvar i
    have he := cells_of_tab2 Tryd.underlying141 Tryd.underlying140 Tryd.underlying5 cU8 c16U8 (by decide) hd i hi
    rw [hc]
    have := ordRows_flat i hi
    simp only [List.getElem?_map, this, Option.map_some] at he
    simpa using he
  · obtain ⟨ps, ⟨g', t', cs, fuel, p, q, hg', ht', hvar, hd, _, _⟩, _⟩ := h3
    obtain rfl := Option.some.inj (gLanes.symm.trans hg')
    obtain rfl := Option.some.inj (tLanes.symm.trans ht')
    have hc := World.var?_cell gLanes hvar i
    have he := cells_of_tab2 Tryd.underlying143 Tryd.underlying142 Tryd.underlying5 cU8 c4U8 (by decide) hd i hi
    rw [hc]
    have := laneRows_flat i hi
    simp only [List.getElem?_map, this, Option.map_some] at he
    simpa using he
end Go.Proofs.YtbkojincfmfpnaaDoor

namespace Go.Proofs.YtbkojincfmfpnaaDoor
open Go.ChangeShapes Go.WideShapes Go.ChangeAt Go.RowKit

/-- What the initialisers of the three tables lay, in the first blocks. -/
def layBlock (c : Array Value) : Obj → Obj
  | .cells _ t frozen => .cells c t frozen
  | o => o
def layTabs (w : World) : World :=
  { w with heap := ((w.heap.modify 0 (layBlock (ua fw))).modify 1 (layBlock (ub (ordF.map Int.ofNat)).toArray)).modify 2 (layBlock (ub (laneF.map Int.ofNat)).toArray) }
end Go.Proofs.YtbkojincfmfpnaaDoor

namespace Go.Proofs.YtbkojincfmfpnaaDoor.votedNone
open Go.ChangeShapes Go.WideShapes Go.ChangeAt Go.RowKit

set_option maxRecDepth 100000 in
/-- What the walk gives, for every argument and every world that holds the tables. -/
theorem contract (H : Type) (enc : TypeId × Value → H) (W : World) (base : Nat) (args : Array Value) (ds gs : List (DataW H)) (before : List MemPlace)
    (hval : ∀ (j : Nat) t v, Tryd.f12.params[j]? = some t → args[j]? = some v → Value.okWide Tryd.prog W .any base t v)
    (hW : DataW.Whole enc Tryd.prog Tryd.f12.params.toList Rows.votedNoneSpec.vars false W args.toList ds gs before) (hsz : (DataW.weightsEach Tryd.prog (Tryd.f12.params.toList ++ (OpenSpec.ofChange Rows.votedNoneSpec).bare.plain.varTypes Tryd.prog) (ds ++ gs)).all (· ≤ reachBytes) = true) (hL : laidMetH Tryd.prog Rows.votedNoneRow.laid W) :
    Calls Tryd.prog 12 args W fun e W' => ∃ v, e = .returned v ∧ Rows.votedNoneSpec.post enc Tryd.prog Tryd.f12 false true false false W args v W' := by
  have hW' := hW
  obtain ⟨p, q, hA0, hV, rfl, hfz, hnd⟩ := hW
  have hA : DataW.TrodAll enc Tryd.prog W 0 (fun _ => true) true Tryd.f12.params.toList args.toList ds p := hA0
  rw [Tryd.params12] at hA hval hsz
  obtain ⟨v0, vs0, d0, ds0, p0, q0, hargs, rfl, rfl, h0, r0⟩ := trodAll_cons hA
  obtain ⟨v1, vs1, d1, ds1, p1, q1, rfl, rfl, rfl, h1, r1⟩ := trodAll_cons r0
  obtain ⟨rfl, rfl, rfl⟩ := trodAll_nil r1
  obtain rfl : args = #[v0, v1] := by cases args; simp_all
  obtain ⟨rfl, rfl⟩ := trodVars_none hV
  have k0 := h0
  have lt0 : ∀ x ∈ p0, x.block < W.heap.size := by obtain ⟨m, hm⟩ := k0; exact DataW.trod_lt m _ _ _ hm
  obtain ⟨sa0, cap0, rs0, rfl, q0_0, q0_1⟩ := open_raws (hval 0 54 v0 rfl rfl) h0 (fit_each hsz (j := 0) rfl rfl)
  obtain ⟨a1, rfl, rfl, rfl, w1⟩ := open_int Tryd.underlying3 (hval 1 3 v1 rfl rfl) h1
  obtain ⟨lo1, hi1⟩ := bounds_i64 w1
  clear hA0
  have hT : Tabs W := tabs_of_laid (by kernel_rfl) (by kernel_rfl) (by kernel_rfl) hL
  refine (votedNone_walk sa0 cap0 rs0 a1 W q0_0 q0_1 lo1 hi1 hT).mono fun e W' ⟨he, bel⟩ => ?_
  subst he
  exact ⟨_, rfl, _, _, _, [], _, [], hW', trodAll_mk1 (shut_bool Tryd.underlying4 _), (trodAll_cons_mk (Below.trod laidOut (by kernel_rfl) (of_decide_eq_true (by kernel_rfl)) k0 bel lt0) (trodAll_cons_mk (shut_int Tryd.underlying3 w1) trodAll_mk0)), rfl, bel.frame _, fun h => by cases h⟩

set_option maxRecDepth 100000 in
theorem laid_met (os : Os) : laidMet Tryd.prog Rows.votedNoneRow.laid ((layTabs (World.holding Tryd.prog os ⟨#[], #[], []⟩)).forCall (fun _ _ => 0) ⟨#[], #[.slice none 0 0, .int .i64 0], []⟩).memory :=
  laidMet_of_run' 8 (by kernel_rfl) (by kernel_rfl)
set_option maxRecDepth 100000 in
theorem reads (os : Os) {H : Type} (enc : TypeId × Value → H) : ∃ places, DataW.whole enc Tryd.prog ((layTabs (World.holding Tryd.prog os ⟨#[], #[], []⟩)).forCall (fun _ _ => 0) ⟨#[], #[.slice none 0 0, .int .i64 0], []⟩).memory Tryd.f12.params.toList Rows.votedNoneSpec.vars false (#[.slice none 0 0, .int .i64 0] : Array Value).toList 8 = some ([.nil, .lit (.int .i64 0)], [], places) :=
  ⟨[], by kernel_rfl⟩

set_option maxRecDepth 100000 in
theorem lifted (os : Os) (started : os.Started) (H : Type) (enc : TypeId × Value → H) (F : Stop.Interp) :
    ReturnsInHanded {} Tryd.checked os 12 .any ((OpenSpec.ofChange Rows.votedNoneSpec).preRow enc Tryd.prog Tryd.f12 Rows.votedNoneRow.domain false Rows.votedNoneRow.laid) (((OpenSpec.ofChange Rows.votedNoneSpec).at F).post enc Tryd.prog Tryd.f12 false true false false) := by
  obtain ⟨places, hx⟩ := reads os enc
  refine returnsInHanded_of_row (C := Tryd.checked) (s := OpenSpec.ofChange Rows.votedNoneSpec) own started (by kernel_rfl) Tryd.func12
    (witness_row_at (enc := enc) (C := Tryd.checked) false (layTabs (World.holding Tryd.prog os ⟨#[], #[], []⟩)) #[.slice none 0 0, .int .i64 0] rfl (by kernel_rfl) (by kernel_rfl) (by kernel_rfl)
      (OpenSpec.preRow_of_cond 8 hx (by kernel_rfl) (fun k hk => by cases hk) (by kernel_rfl) (laid_met os))) ?_
  intro W base args ds gs before hval hW _ _ hsz hL _ _
  exact contract H enc W base args ds gs before hval hW hsz hL

set_option maxRecDepth 100000 in
theorem said : Rows.VotedNoneSaid :=
  OpenClaim.holds_of_cond 12 Tryd.f12 rfl rfl rfl rfl rfl rfl rfl ⟨rfl, rfl, rfl, rfl, rfl⟩ rfl rfl rfl rfl rfl (by kernel_rfl) Tryd.func12 (by kernel_rfl)
    (of_decide_eq_true (by kernel_rfl)) (by unfold Func.isWrapper; first | (rw [if_pos (by decide +kernel)]; kernel_rfl) | (rw [if_neg (by decide +kernel)]; exact ⟨rfl, rfl⟩))
    (fun os started H enc _ F => by rw [OpenClaim.pre_eq_preRow]; exact lifted os started H enc F)

set_option maxRecDepth 100000 in
theorem plain (f : FuncId) (fn : Func) (hf : Tryd.pinned.checked.prog.funcNamed Rows.votedNoneRow.func = some f) (hfn : Tryd.pinned.checked.prog.funcs[f]? = some fn) :
    false = Tryd.pinned.checked.prog.looks [] ∧ ∀ (j : Nat) t, fn.params[j]? = some t → Tryd.pinned.checked.prog.wantsStandIn t = false := by
  obtain rfl : f = 12 := Option.some.inj ((show Tryd.prog.funcNamed Rows.votedNoneRow.func = some 12 by kernel_rfl).symm.trans hf) |>.symm
  obtain rfl : fn = Tryd.f12 := (Option.some.inj (Tryd.func12.symm.trans hfn)).symm
  refine ⟨by kernel_rfl, fun j t ht => ?_⟩
  rw [Tryd.params12] at ht
  have hm : t = 54 ∨ t = 3 := by simpa using Array.mem_of_getElem? ht
  rcases hm with rfl | rfl
  · exact (show Tryd.prog.wantsStandIn 54 = false by kernel_rfl)
  · exact (show Tryd.prog.wantsStandIn 3 = false by kernel_rfl)

set_option maxRecDepth 100000 in
/-- THE CARD. -/
theorem card : Rows.VotedNoneCardSaid :=
  Claim7.holds_tied_plain_at .later [] _ _ _ _ said (fun _ h => by cases h) (by kernel_rfl) (fun _ h => by cases h) votedNone_row_tie rfl ⟨rfl, rfl⟩ (by kernel_rfl) rfl plain (by kernel_rfl)
end Go.Proofs.YtbkojincfmfpnaaDoor.votedNone
namespace Go.Proofs.YtbkojincfmfpnaaDoor
set_option maxRecDepth 100000 in
theorem votedNone_holds : Rows.VotedNoneCardSaid := votedNone.card
#print axioms votedNone_holds
end Go.Proofs.YtbkojincfmfpnaaDoor
