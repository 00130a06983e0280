/- The walk of TableAll. -/
import Derived.Test.YtbkojincfmfpnaaDoorTableAllM0
import Derived.Test.YtbkojincfmfpnaaDoorTableAllM6
import Derived.Test.YtbkojincfmfpnaaDoorCTab
import Derived.Test.YtbkojincfmfpnaaDoorSCopy
import Derived.Test.YtbkojincfmfpnaaDoorClone
import Derived.Test.YtbkojincfmfpnaaDoorApp
namespace Go.Proofs.YtbkojincfmfpnaaDoor
open Go.RowKit

def mkP (l : List (List Int)) : List Part := l.map fun bs => ⟨none, 0, bs⟩
set_option maxRecDepth 100000 in
theorem mkP_same (l : List Part) (bs : List (List Int)) (h : l.map (·.bs) = bs) : Same l (mkP bs) := by
  show l.map (·.bs) = (mkP bs).map (·.bs)
  rw [h, mkP, List.map_map]
  simp [Function.comp_def]
/-- The digest of a raw header. -/
def rDig (r : Rw) : List Int := hDig (pk r.a 4) (1 + pk r.b 9) (mkP (hBats r.c)) (mkP (hPars r.a r.b r.c))
set_option maxRecDepth 100000 in
theorem rDig_length (r : Rw) : (rDig r).length = 32 := hDig_length _ _ _ _
def slotR (r : Rw) : SV := (pk r.a 4, 1 + pk r.b 9, rDig r)
set_option maxRecDepth 100000 in
theorem hDig_raw (r : Rw) (bl pl : List Part) (hb : bl.map (·.bs) = hBats r.c) (hp : pl.map (·.bs) = hPars r.a r.b r.c) : hDig (pk r.a 4) (1 + pk r.b 9) bl pl = rDig r := by
  rw [rDig, hDig, hDig, headB_sameH (mkP_same bl _ hb) (mkP_same pl _ hp)]
def rwAt (rs : List Rw) (k : Nat) : Rw := rs.getD k ⟨0, 0, 0, 0, none, 0, 0⟩
set_option maxRecDepth 100000 in
theorem rwAt_get (rs : List Rw) (k : Nat) (h : k < rs.length) : rwAt rs k = rs[k] := by simp [rwAt, h]
def stepT (l : List SV) (s : SV) : List SV := if (castF l s).2 = 0 then (castF l s).1 else l
def tabTo (rs : List Rw) : Nat → List SV
  | 0 => []
  | k + 1 => stepT (tabTo rs k) (slotR (rwAt rs k))
def tabR (rs : List Rw) : List SV := tabTo rs (min rs.length 30)
set_option maxRecDepth 100000 in
theorem castF_vals (l : List SV) (s : SV) : (castF l s = (l, 0) ∧ ∃ m, findTo l s.1 s.2.1 l.length = some m) ∨ castF l s = ([], 7) ∨ castF l s = ([], 6) ∨ (castF l s = (l ++ [s], 0) ∧ findTo l s.1 s.2.1 l.length = none ∧ l.length < 400) := by
  cases h : findTo l s.1 s.2.1 l.length with
  | none =>
    by_cases hl : 400 ≤ l.length
    · exact .inr (.inr (.inl (castF_full h hl)))
    · exact .inr (.inr (.inr ⟨castF_new h hl, rfl, by omega⟩))
  | some m =>
    by_cases he : txL (svAt l m).2.2 = txL s.2.2
    · exact .inl ⟨castF_same h he, m, rfl⟩
    · exact .inr (.inl (castF_twice h he))
set_option maxRecDepth 100000 in
theorem stepT_or (l : List SV) (s : SV) : stepT l s = l ∨ (stepT l s = l ++ [s] ∧ findTo l s.1 s.2.1 l.length = none ∧ l.length < 400) := by
  rcases castF_vals l s with ⟨h, _⟩ | h | h | ⟨h, h2, h3⟩
  · left; rw [stepT, h]; simp
  · left; rw [stepT, h]; simp
  · left; rw [stepT, h]; simp
  · right; refine ⟨?_, h2, h3⟩; rw [stepT, h]; simp
set_option maxRecDepth 100000 in
theorem findTo_no {l : List SV} {au rd : Int} {k : Nat} (h : findTo l au rd k = none) : ∀ j, j < k → hit l au rd j = false := by
  induction k with
  | zero => intro j hj; omega
  | succ k ih =>
    rw [findTo] at h
    cases h1 : findTo l au rd k with
    | some m => rw [h1] at h; cases h
    | none =>
      rw [h1] at h
      intro j hj
      rcases Nat.lt_or_ge j k with g | g
      · exact ih h1 j g
      · obtain rfl : j = k := by omega
        cases h2 : hit l au rd j with
        | false => rfl
        | true => rw [h2] at h; simp at h
set_option maxRecDepth 100000 in
theorem svAt_append (l m : List SV) (k : Nat) (h : k < l.length) : svAt (l ++ m) k = svAt l k := by simp [svAt, List.getD, List.getElem?_append_left h]
set_option maxRecDepth 100000 in
theorem hit_append (l m : List SV) (au rd : Int) (k : Nat) (h : k < l.length) : hit (l ++ m) au rd k = hit l au rd k := by rw [hit, hit, svAt_append l m k h]
set_option maxRecDepth 100000 in
theorem anyHit_append (l m : List SV) (au rd : Int) (k : Nat) (h : k ≤ l.length) : anyHit (l ++ m) au rd k = anyHit l au rd k := by
  unfold anyHit
  have : ∀ (xs : List Nat), (∀ x ∈ xs, x < k) → xs.any (hit (l ++ m) au rd) = xs.any (hit l au rd) := by
    intro xs
    induction xs with
    | nil => intro _; rfl
    | cons x xs ih =>
      intro hx
      have hxk := hx x (List.mem_cons_self ..)
      rw [List.any_cons, List.any_cons, hit_append l m au rd x (by omega), ih (fun y hy => hx y (List.mem_cons_of_mem _ hy))]
  exact this _ (fun x hx => List.mem_range.1 hx)
set_option maxRecDepth 100000 in
theorem badAt_append (l m : List SV) (k : Nat) (h : k < l.length) : badAt (l ++ m) k = badAt l k := by
  rw [badAt, badAt, svAt_append l m k h, anyHit_append l m _ _ k (by omega)]
set_option maxRecDepth 100000 in
theorem tabF_snoc {l : List SV} {s : SV} (h : tabF l = 0) (hl : l.length < 400) (hs : slotF s.1 s.2.1 s.2.2.length = 0) (hn : findTo l s.1 s.2.1 l.length = none) : tabF (l ++ [s]) = 0 := by
  refine tabF_ok _ (by simp; omega) fun k hk => ?_
  rcases Nat.lt_or_ge k l.length with g | g
  · rw [badAt_append l [s] k g]; exact (tabF_zero h).2 k g
  · obtain rfl : k = l.length := by simp at hk; omega
    have e : svAt (l ++ [s]) l.length = s := by simp [svAt, List.getD]
    rw [badAt, e, hs, anyHit_append l [s] _ _ _ (Nat.le_refl _)]
    have : anyHit l s.1 s.2.1 l.length = false := by
      simp only [anyHit, List.any_eq_false]
      intro j hj
      rw [findTo_no hn j (by simpa using hj)]; simp
    rw [this]; rfl
set_option maxRecDepth 100000 in
theorem slotR_ok (r : Rw) : slotF (slotR r).1 (slotR r).2.1 (slotR r).2.2.length = 0 := by
  obtain ⟨a0, a1⟩ := pk_bounds r.a 4 (by decide)
  obtain ⟨b0, b1⟩ := pk_bounds r.b 9 (by decide)
  show slotF (pk r.a 4) (1 + pk r.b 9) (rDig r).length = 0
  rw [rDig_length, slotF, if_neg (by omega), if_neg (by decide)]
set_option maxRecDepth 100000 in
theorem tabF_nil : tabF [] = 0 := by decide
/-- A table is one, of so many slots, each of a header's. -/
structure TabOk (rs : List Rw) (k : Nat) (l : List SV) : Prop where
  ok : tabF l = 0
  le : l.length ≤ k
  from_ : ∀ s ∈ l, ∃ j, j < k ∧ s = slotR (rwAt rs j)
set_option maxRecDepth 100000 in
theorem tabTo_ok (rs : List Rw) (k : Nat) : TabOk rs k (tabTo rs k) := by
  induction k with
  | zero => exact ⟨tabF_nil, Nat.le_refl _, fun s hs => by cases hs⟩
  | succ k ih =>
    rw [tabTo]
    rcases stepT_or (tabTo rs k) (slotR (rwAt rs k)) with h | ⟨h, h2, h3⟩
    · rw [h]; exact ⟨ih.ok, by have := ih.le; omega, fun s hs => by obtain ⟨j, hj, e⟩ := ih.from_ s hs; exact ⟨j, by omega, e⟩⟩
    · rw [h]
      refine ⟨tabF_snoc ih.ok h3 (slotR_ok _) h2, by have := ih.le; simp; omega, fun s hs => ?_⟩
      rcases List.mem_append.1 hs with g | g
      · obtain ⟨j, hj, e⟩ := ih.from_ s g; exact ⟨j, by omega, e⟩
      · exact ⟨k, by omega, by simpa using g⟩
set_option maxRecDepth 100000 in
/-- A cast for a raw header. -/
theorem castAll_raw {l : List SV} (r : Rw) (bl pl : List Part) (h : tabF l = 0) (hb : bl.map (·.bs) = hBats r.c) (hp : pl.map (·.bs) = hPars r.a r.b r.c) :
    castAll l (pk r.a 4) (1 + pk r.b 9) bl pl = if (castF l (slotR r)).2 ≠ 0 then ([], (0, 0, []), (castF l (slotR r)).2) else ((castF l (slotR r)).1, slotR r, 0) := by
  rw [castAll, if_neg (by rw [h]; decide), if_neg (by rw [headerF_raw r.a r.b r.c bl pl hb hp]; decide), hDig_raw r bl pl hb hp]
  rfl
end Go.Proofs.YtbkojincfmfpnaaDoor

namespace Go.Proofs.YtbkojincfmfpnaaDoor
open Go.RowKit

set_option maxRecDepth 100000 in
theorem header_hat (r : Rw) (w : World) (h : I64 r.a ∧ I64 r.b ∧ I64 r.c) :
    Calls Tryd.prog 19 #[.agg #[.int .i64 r.ki, .int .i64 r.a, .int .i64 r.b, .int .i64 r.c, .slice r.sa r.n r.cap]] w fun e w' => ∃ ba bc bl pa pc pl, e = .returned (.agg #[.int .i64 (pk r.a 4), .int .i64 (1 + pk r.b 9), .slice ba (List.length bl) bc, .slice pa (List.length pl) pc]) ∧ HAt w' ba bc bl pa pc pl ∧ bl.map (·.bs) = hBats r.c ∧ pl.map (·.bs) = hPars r.a r.b r.c ∧ Below w.heap.size w w' ∧ Fresh w.heap.size ba bl ∧ Fresh w.heap.size pa pl := by
  refine (header_raw2 r.ki r.a r.b r.c r.sa r.n r.cap w h.1 h.2.1 h.2.2).mono ?_
  rintro e w' ⟨ba, bc, bl, pa, pc, pl, he, a1, a2, a3, a4, a5, a6, a7, a8, a9⟩
  exact ⟨ba, bc, bl, pa, pc, pl, he, ⟨a1, a2, fun sb so e => (a3.1 sb so e).1, fun sb so e => (a4.1 sb so e).1⟩, a5, a6, a7, a8, a9⟩
set_option maxRecDepth 100000 in
set_option maxHeartbeats 2000000 in
theorem table_any (rs : List Rw) (sa : Option Addr) (n cap : Nat) (w : World) (hn : n = rs.length) (hr : RawsAt w sa rs) (hT : Tabs w) :
    Calls Tryd.prog 32 #[.slice sa n cap] w fun e w' => ∃ ra rc ks, e = .returned (.slice ra (List.length ks) rc) ∧ vs ks = tabR rs ∧ TabAt w' ra rc ks ∧ Below w.heap.size w w' := by
  subst hn
  have hsm := hr.small
  go_enter Tryd.func32, Tryd.ntmps32
  go_wp2_with fail
  go_loopw [4, 3] (fun j v wr => ∃ (k : Nat) (ks : List Sl) (ra : Option Addr) (rc : Nat), k ≤ rs.length ∧ k ≤ 30 ∧ j = .int .i64 k ∧ v = .slice ra ks.length rc ∧ vs ks = tabTo rs k ∧ TabAt wr ra rc ks ∧ Below w.heap.size w wr) (fun j _ _ => rs.length - (intOf j).toNat)
  case atStart => exact ⟨0, [], none, 0, Nat.zero_le _, by omega, rfl, rfl, rfl, tab_nil _, Below.refl _ _⟩
  case round =>
    obtain ⟨k, ks, ra, rc, hk, hk30, rfl, rfl, hv, ht, hb⟩ := hrel
    by_cases hlt : k < rs.length
    · by_cases h30 : k < 30
      · have hpw := hr.below hb
        obtain ⟨sb, so, rfl, hc⟩ : ∃ sb so, sa = some ⟨sb, so, none⟩ ∧ ∀ j (h : j < rs.length), wr.cell? ⟨sb, so + j * 5, none⟩ = some (.int .i64 (rs[j]).ki) ∧ wr.cell? ⟨sb, so + j * 5 + 1, none⟩ = some (.int .i64 (rs[j]).a) ∧ wr.cell? ⟨sb, so + j * 5 + 2, none⟩ = some (.int .i64 (rs[j]).b) ∧ wr.cell? ⟨sb, so + j * 5 + 3, none⟩ = some (.int .i64 (rs[j]).c) ∧ wr.cell? ⟨sb, so + j * 5 + 4, none⟩ = some (.slice (rs[j]).sa (rs[j]).n (rs[j]).cap) := by
          rcases hpw.cells with h | h
          · rw [h] at hlt; simp at hlt
          · exact h
        obtain ⟨c0, c1, c2, c3, c4⟩ := hc k hlt
        have hi := hr.each (rs[k]) (List.getElem_mem hlt)
        have hltI : (k : Int) < rs.length := by omega
        have h30I : (k : Int) < 30 := by omega
        have HX : Hid (tabTo rs (k + 1) = stepT (tabTo rs k) (slotR (rs[k]))) := by
          show _ = _
          rw [tabTo, rwAt_get rs k hlt]
        have h0 : tabF (vs ks) = 0 := by rw [hv]; exact (tabTo_ok rs k).ok
        have H0 : Hid (tabF (vs ks) = 0) := h0
        clear hc hpw h0
        generalize rs[k] = r at *
        have HH : Hid (I64 r.a ∧ I64 r.b ∧ I64 r.c) := hi
        clear hi
        go_wp2_with fail
        refine (header_hat r wr HH.out).mono ?_
        rintro e w1 ⟨ba, bc, bl, pa, pc, pl, he, hH, hbl, hpl, hb1, _, _⟩
        subst he
        dsimp only
        have hB1 := hb.trans (hb1.mono hb.size)
        have hA := castAll_raw (l := vs ks) r bl pl H0.out hbl hpl
        have HC := cast_any ks ra rc (pk r.a 4) (1 + pk r.b 9) ba bc bl pa pc pl w1 (ht.below hb1) hH (hT.below hB1)
        rw [hA] at HC
        clear hA hbl hpl
        generalize pk r.a 4 = PA at *
        generalize 1 + pk r.b 9 = PB at *
        go_wp2_with fail
        refine HC.mono ?_
        rintro e w2 ⟨xa, xc, xs, da, dc, au', rd', ds, er, he, hR, hT2, _, _, _, hb2⟩
        subst he
        dsimp only
        have hB2 := hB1.trans (hb2.mono hB1.size)
        have hA2 : Below w2.heap.size w2 (w2.alloc (.cells #[.int .i64 au', .int .i64 rd', .slice da ds.length dc] 47)) := (Below.refl _ _).alloc (Nat.le_refl _) _
        have hB3 := hB2.trans (hA2.mono hB2.size)
        by_cases hz : (castF (vs ks) (slotR r)).2 = 0
        · rw [if_neg (by simp [hz])] at hR
          simp only [Prod.mk.injEq] at hR
          obtain ⟨hx, _, rfl⟩ := hR
          have hstep : Hid (vs xs = tabTo rs (k + 1)) := by
            show _ = _
            rw [HX.out, stepT, ← hv, if_pos hz, hx]
          clear hx hz HC
          go_wp2_with fail
          go_roundw
          case rel =>
            have hR : ∃ (k' : Nat) (ks' : List Sl) (ra' : Option Addr) (rc' : Nat), k' ≤ rs.length ∧ k' ≤ 30 ∧ (Value.int .i64 ((k : Int) + 1)) = .int .i64 k' ∧ Value.slice xa xs.length xc = .slice ra' ks'.length rc' ∧ vs ks' = tabTo rs k' ∧ TabAt (w2.alloc (.cells #[.int .i64 au', .int .i64 rd', .slice da ds.length dc] 47)) ra' rc' ks' ∧ Below w.heap.size w (w2.alloc (.cells #[.int .i64 au', .int .i64 rd', .slice da ds.length dc] 47)) :=
              ⟨k + 1, xs, xa, xc, by omega, by omega, by go_num, rfl, hstep.out, hT2.below hA2, hB3⟩
            first | exact hR | ((repeat apply Exists.intro); exact ⟨hR, rfl⟩)
          case measure => simp [intOf]; omega
        · rw [if_pos (by simp [hz])] at hR
          simp only [Prod.mk.injEq] at hR
          obtain ⟨hq1, hq2, rfl⟩ := hR
          clear hq1 hq2
          have hstep : Hid (vs ks = tabTo rs (k + 1)) := by
            show _ = _
            rw [HX.out, stepT, ← hv, if_neg hz]
          have hT3 := ((ht.below hb1).below hb2).below hA2
          generalize (castF (vs ks) (slotR r)).2 = er at *
          clear HC
          go_wp2_with fail
          go_roundw
          case rel =>
            have hR : ∃ (k' : Nat) (ks' : List Sl) (ra' : Option Addr) (rc' : Nat), k' ≤ rs.length ∧ k' ≤ 30 ∧ (Value.int .i64 ((k : Int) + 1)) = .int .i64 k' ∧ Value.slice ra ks.length rc = .slice ra' ks'.length rc' ∧ vs ks' = tabTo rs k' ∧ TabAt (w2.alloc (.cells #[.int .i64 au', .int .i64 rd', .slice da ds.length dc] 47)) ra' rc' ks' ∧ Below w.heap.size w (w2.alloc (.cells #[.int .i64 au', .int .i64 rd', .slice da ds.length dc] 47)) :=
              ⟨k + 1, ks, ra, rc, by omega, by omega, by go_num, rfl, hstep.out, hT3, hB3⟩
            first | exact hR | ((repeat apply Exists.intro); exact ⟨hR, rfl⟩)
          case measure => simp [intOf]; omega
      · obtain rfl : k = 30 := by omega
        have hltI : ((30 : Nat) : Int) < rs.length := by omega
        have hltJ : (30 : Int) < rs.length := by omega
        have hE : Hid (vs ks = tabR rs) := by
          show _ = _
          rw [hv, tabR, Nat.min_eq_right (by omega)]
        go_wp2_with fail
        go_ret
        exact ⟨ra, rc, ks, rfl, hE.out, ht, hb⟩
    · obtain rfl : k = rs.length := by omega
      have hE : Hid (vs ks = tabR rs) := by
        show _ = _
        rw [hv, tabR, Nat.min_eq_left hk30]
      go_wp2_with fail
      go_ret
      exact ⟨ra, rc, ks, rfl, hE.out, ht, hb⟩
end Go.Proofs.YtbkojincfmfpnaaDoor

namespace Go.Proofs.YtbkojincfmfpnaaDoor
open Go.RowKit

/-- P4.2 -/
inductive VotedIs (l : List SV) (au rd : Int) (e : Int) (bs : List Int) : Prop
  | bad (h : tabF l = 12) (he : e = 12) (hb : bs = [])
  | none (h : tabF l = 0) (hn : ∀ j, j < l.length → hit l au rd j = false) (he : e = 8) (hb : bs = [])
  | at (h : tabF l = 0) (m : Nat) (hm : m < l.length) (h1 : hit l au rd m = true) (h2 : ∀ j, j < m → hit l au rd j = false) (he : e = 0) (hb : bs = (svAt l m).2.2)
set_option maxRecDepth 100000 in
theorem VotedIs.one {l : List SV} {au rd e f : Int} {bs cs : List Int} (h : VotedIs l au rd e bs) (g : VotedIs l au rd f cs) : e = f ∧ bs = cs := by
  cases h with
  | bad h he hb => cases g with
    | bad g ge gb => exact ⟨by rw [he, ge], by rw [hb, gb]⟩
    | none g _ _ _ => rw [h] at g; cases g
    | «at» g m _ _ _ _ _ => rw [h] at g; cases g
  | none h hn he hb => cases g with
    | bad g ge gb => rw [h] at g; cases g
    | none g _ ge gb => exact ⟨by rw [he, ge], by rw [hb, gb]⟩
    | «at» g m hm h1 _ _ _ => rw [hn m hm] at h1; cases h1
  | «at» h m hm h1 h2 he hb => cases g with
    | bad g ge gb => rw [h] at g; cases g
    | none g hn _ _ => rw [hn m hm] at h1; cases h1
    | «at» g n gn g1 g2 ge gb =>
      obtain rfl : m = n := by
        rcases Nat.lt_trichotomy m n with q | q | q
        · rw [g2 m q] at h1; cases h1
        · exact q
        · rw [h2 n q] at g1; cases g1
      exact ⟨by rw [he, ge], by rw [hb, gb]⟩
set_option maxRecDepth 100000 in
theorem tab_len32 {l : List SV} (h : tabF l = 0) (m : Nat) (hm : m < l.length) : (svAt l m).2.2.length = 32 := by
  have hb := (tabF_zero h).2 m hm
  simp only [badAt, Bool.or_eq_false_iff] at hb
  have h1 := hb.1
  simp only [ne_eq, decide_eq_false_iff_not, Decidable.not_not] at h1
  unfold slotF at h1
  split at h1
  · cases h1
  · split at h1
    · cases h1
    · rename_i g; omega
set_option maxRecDepth 100000 in
set_option maxHeartbeats 1000000 in
theorem voted_any (ls : List Sl) (sa : Option Addr) (n cap : Nat) (au rd : Int) (w : World) (hn : n = ls.length) (ht : TabAt w sa cap ls) :
    Calls Tryd.prog 33 #[.slice sa n cap, .int .i64 au, .int .i64 rd] w fun e w' => ∃ ra rc bs er, e = .returned (.tuple #[.slice ra (List.length bs) rc, .int .i64 er]) ∧ VotedIs (vs ls) au rd er bs ∧ SliceAt w' ra rc bs ∧ (∀ sb so, ra = some ⟨sb, so, none⟩ → w.heap.size ≤ sb ∧ sb < w'.heap.size) ∧ Below w.heap.size w w' := by
  subst hn
  have hle := ht.le
  have hmx := ht.max
  rcases tabF_or (vs ls) with h0 | h0
  · go_enter Tryd.func33, Tryd.ntmps33
    go_wp2_with fail
    refine (checkTab_any ls sa _ cap w rfl ht).mono ?_
    rintro e w1 ⟨he, hb1⟩
    rw [h0] at he
    subst he
    dsimp only
    go_wp2_with fail
    refine (find_any ls sa _ cap au rd w1 (Nat.le_refl _) ht.small (ht.slots.below hb1)).mono ?_
    rintro e w2 ⟨r, he, hF, hb2⟩
    subst he
    dsimp only
    have hB2 := hb1.trans (hb2.mono hb1.size)
    rcases hF with ⟨m, hm, rfl, h1, h2⟩ | ⟨rfl, h2⟩
    · have hpw := ht.slots.below hB2
      obtain ⟨sb, so, rfl, hc⟩ : ∃ sb so, sa = some ⟨sb, so, none⟩ ∧ ∀ j (h : j < ls.length), w2.cell? ⟨sb, so + j * 3, none⟩ = some (.int .i64 (ls[j]).au) ∧ w2.cell? ⟨sb, so + j * 3 + 1, none⟩ = some (.int .i64 (ls[j]).rd) ∧ w2.cell? ⟨sb, so + j * 3 + 2, none⟩ = some (.slice (ls[j]).p.sa (ls[j]).p.bs.length (ls[j]).p.cap) := by
        rcases hpw.cells with h | h
        · rw [h] at hm; simp at hm
        · exact h
      obtain ⟨c0, c1, c2⟩ := hc m hm
      have hx := hpw.each (ls[m]) (List.getElem_mem hm)
      have h32 := tab_len32 h0 m (by rw [vs_length]; exact hm)
      have hV : Hid (VotedIs (vs ls) au rd 0 (ls[m]).p.bs) := by
        show VotedIs _ _ _ _ _
        exact .at h0 m (by rw [vs_length]; exact hm) h1 h2 rfl (by rw [svAt_get ls m hm]; rfl)
      rw [svAt_get ls m hm] at h32
      have h32' : (ls[m]).p.bs.length ≤ 140737488355328 := by
        have : (ls[m]).p.bs.length = 32 := h32
        omega
      have hltI : (m : Int) < ls.length := by omega
      clear hc h1 h2 h32 hpw
      generalize ls[m] = s at *
      go_wp2_with fail
      refine (clone_any s.p.bs s.p.sa _ s.p.cap w2 rfl hx h32').mono ?_
      rintro e w3 ⟨ra, rc, he, hs3, hrow, hb3⟩
      subst he
      dsimp only
      go_wp2_with fail
      go_ret2
      exact ⟨ra, rc, s.p.bs, 0, rfl, hV.out, hs3, (fun sb so e => by have := hrow sb so e; have := hB2.size; omega), hB2.trans (hb3.mono hB2.size)⟩
    · have hV : Hid (VotedIs (vs ls) au rd 8 []) := by
        show VotedIs _ _ _ _ _
        exact .none h0 (fun j hj => h2 j (by rw [vs_length] at hj; exact hj)) rfl rfl
      clear h2
      go_wp2_with fail
      go_ret2
      exact ⟨none, 0, [], 8, rfl, hV.out, nilSlice _, (fun _ _ e => by cases e), hB2⟩
  · go_enter Tryd.func33, Tryd.ntmps33
    go_wp2_with fail
    refine (checkTab_any ls sa _ cap w rfl ht).mono ?_
    rintro e w1 ⟨he, hb1⟩
    rw [h0] at he
    subst he
    dsimp only
    go_wp2_with fail
    go_ret2
    exact ⟨none, 0, [], 12, rfl, .bad h0 rfl rfl, nilSlice _, (fun _ _ e => by cases e), hb1⟩
end Go.Proofs.YtbkojincfmfpnaaDoor

namespace Go.Proofs.YtbkojincfmfpnaaDoor
open Go.RowKit

set_option maxRecDepth 100000 in
theorem tabTo_prefix (rs : List Rw) (k m : Nat) (h : k ≤ m) : ∃ e, tabTo rs m = tabTo rs k ++ e := by
  induction m with
  | zero => obtain rfl : k = 0 := by omega
            exact ⟨[], by simp⟩
  | succ m ih =>
    rcases Nat.lt_or_ge k (m + 1) with g | g
    · obtain ⟨e, he⟩ := ih (by omega)
      rw [tabTo]
      rcases stepT_or (tabTo rs m) (slotR (rwAt rs m)) with h1 | ⟨h1, _, _⟩
      · rw [h1]; exact ⟨e, he⟩
      · rw [h1, he]; exact ⟨e ++ [slotR (rwAt rs m)], by rw [List.append_assoc]⟩
    · obtain rfl : k = m + 1 := by omega
      exact ⟨[], by simp⟩
set_option maxRecDepth 100000 in
theorem findTo_has {l : List SV} {au rd : Int} {k m : Nat} (h : findTo l au rd k = some m) : m < k ∧ hit l au rd m = true ∧ ∀ j, j < m → hit l au rd j = false := by
  induction k with
  | zero => cases h
  | succ k ih =>
    rw [findTo] at h
    cases h1 : findTo l au rd k with
    | some n =>
      rw [h1] at h
      obtain rfl : n = m := by simpa using h
      obtain ⟨a, b, c⟩ := ih h1
      exact ⟨by omega, b, c⟩
    | none =>
      rw [h1] at h
      cases h2 : hit l au rd k with
      | false => rw [h2] at h; simp at h
      | true =>
        rw [h2] at h
        obtain rfl : k = m := by simpa using h
        exact ⟨by omega, h2, findTo_no h1⟩
/-- Are two raw things of one author and round? -/
def keyEq (r s : Rw) : Bool := decide (pk r.a 4 = pk s.a 4 ∧ 1 + pk r.b 9 = 1 + pk s.b 9)
def fstTo (rs : List Rw) (r : Rw) : Nat → Bool
  | 0 => true
  | k + 1 => fstTo rs r k && !keyEq (rwAt rs k) r
set_option maxRecDepth 100000 in
theorem fstTo_true {rs : List Rw} {r : Rw} {k : Nat} (h : fstTo rs r k = true) : ∀ j, j < k → keyEq (rwAt rs j) r = false := by
  induction k with
  | zero => intro j hj; omega
  | succ k ih =>
    rw [fstTo, Bool.and_eq_true] at h
    intro j hj
    rcases Nat.lt_or_ge j k with g | g
    · exact ih h.1 j g
    · obtain rfl : j = k := by omega
      simpa using h.2
set_option maxRecDepth 100000 in
theorem fstTo_false {rs : List Rw} {r : Rw} {k : Nat} (h : fstTo rs r k = false) : ∃ j, j < k ∧ keyEq (rwAt rs j) r = true := by
  induction k with
  | zero => cases h
  | succ k ih =>
    rw [fstTo, Bool.and_eq_false_iff] at h
    rcases h with h | h
    · obtain ⟨j, hj, e⟩ := ih h
      exact ⟨j, by omega, e⟩
    · exact ⟨k, by omega, by simpa using h⟩
set_option maxRecDepth 100000 in
theorem hit_mem {l : List SV} {au rd : Int} {s : SV} (hs : s ∈ l) (h : s.1 = au ∧ s.2.1 = rd) : ∃ p, p < l.length ∧ hit l au rd p = true := by
  obtain ⟨p, hp, rfl⟩ := List.getElem_of_mem hs
  exact ⟨p, hp, by rw [hit]; simp only [svAt, List.getD, hp, List.getElem?_eq_getElem, Option.getD_some]; exact decide_eq_true h⟩
set_option maxRecDepth 100000 in
theorem tabTo_keys (rs : List Rw) (k j : Nat) (hj : j < k) (hk : k ≤ 30) : ∃ p, p < (tabTo rs k).length ∧ hit (tabTo rs k) (pk (rwAt rs j).a 4) (1 + pk (rwAt rs j).b 9) p = true := by
  obtain ⟨e, he⟩ := tabTo_prefix rs (j + 1) k hj
  have h1 : ∃ p, p < (tabTo rs (j + 1)).length ∧ hit (tabTo rs (j + 1)) (pk (rwAt rs j).a 4) (1 + pk (rwAt rs j).b 9) p = true := by
    rw [tabTo]
    rcases castF_vals (tabTo rs j) (slotR (rwAt rs j)) with ⟨h, m, hm⟩ | h | h | ⟨h, h2, h3⟩
    · rw [stepT, h]
      simp only [if_true]
      obtain ⟨a, b, _⟩ := findTo_has hm
      exact ⟨m, a, b⟩
    · have hst : stepT (tabTo rs j) (slotR (rwAt rs j)) = tabTo rs j := by rw [stepT, h]; simp
      rw [hst]
      cases hf : findTo (tabTo rs j) (slotR (rwAt rs j)).1 (slotR (rwAt rs j)).2.1 (tabTo rs j).length with
      | none =>
        by_cases hl : 400 ≤ (tabTo rs j).length
        · rw [castF_full hf hl] at h; simp at h
        · rw [castF_new hf hl] at h; simp at h
      | some m =>
        obtain ⟨a, b, _⟩ := findTo_has hf
        exact ⟨m, a, b⟩
    · have hst : stepT (tabTo rs j) (slotR (rwAt rs j)) = tabTo rs j := by rw [stepT, h]; simp
      rw [hst]
      exfalso
      have hle := (tabTo_ok rs j).le
      cases hf : findTo (tabTo rs j) (slotR (rwAt rs j)).1 (slotR (rwAt rs j)).2.1 (tabTo rs j).length with
      | none =>
        by_cases hl : 400 ≤ (tabTo rs j).length
        · omega
        · rw [castF_new hf hl] at h; simp at h
      | some m =>
        by_cases q : txL (svAt (tabTo rs j) m).2.2 = txL (slotR (rwAt rs j)).2.2
        · rw [castF_same hf q] at h; simp at h
        · rw [castF_twice hf q] at h; simp at h
    · rw [stepT, h]
      simp only [if_true]
      exact hit_mem (List.mem_append_right _ (List.mem_singleton.2 rfl)) ⟨rfl, rfl⟩
  obtain ⟨p, hp, hh⟩ := h1
  rw [he]
  exact ⟨p, by simp; omega, by rw [hit_append _ e _ _ p hp]; exact hh⟩
set_option maxRecDepth 100000 in
/-- The first one of its author and round stands behind all that were there. -/
theorem tabTo_first {rs : List Rw} {k : Nat} (hk : k < 30) (h : fstTo rs (rwAt rs k) k = true) : findTo (tabTo rs k) (slotR (rwAt rs k)).1 (slotR (rwAt rs k)).2.1 (tabTo rs k).length = none ∧ tabTo rs (k + 1) = tabTo rs k ++ [slotR (rwAt rs k)] := by
  have hle := (tabTo_ok rs k).le
  have hn : findTo (tabTo rs k) (slotR (rwAt rs k)).1 (slotR (rwAt rs k)).2.1 (tabTo rs k).length = none := by
    refine findTo_none fun j hj => ?_
    have hm : svAt (tabTo rs k) j ∈ tabTo rs k := by
      have e : svAt (tabTo rs k) j = (tabTo rs k)[j] := by simp [svAt, hj]
      rw [e]; exact List.getElem_mem hj
    obtain ⟨i, hi, e⟩ := (tabTo_ok rs k).from_ _ hm
    have hq := fstTo_true h i hi
    rw [hit, e]
    exact hq
  refine ⟨hn, ?_⟩
  rw [tabTo, stepT, castF_new hn (by omega)]
  simp
set_option maxRecDepth 100000 in
theorem tabTo_later {rs : List Rw} {k : Nat} (hk : k < 30) (h : fstTo rs (rwAt rs k) k = false) : tabTo rs (k + 1) = tabTo rs k := by
  obtain ⟨j, hj, e⟩ := fstTo_false h
  obtain ⟨p, hp, hh⟩ := tabTo_keys rs k j hj (by omega)
  have hke : pk (rwAt rs j).a 4 = pk (rwAt rs k).a 4 ∧ 1 + pk (rwAt rs j).b 9 = 1 + pk (rwAt rs k).b 9 := of_decide_eq_true e
  rw [hke.1, hke.2] at hh
  rw [tabTo]
  rcases stepT_or (tabTo rs k) (slotR (rwAt rs k)) with h1 | ⟨_, h2, _⟩
  · exact h1
  · have := findTo_no h2 p hp
    rw [show hit (tabTo rs k) (slotR (rwAt rs k)).1 (slotR (rwAt rs k)).2.1 p = true from hh] at this
    cases this
set_option maxRecDepth 100000 in
/-- What is voted for. -/
theorem voted_first {rs : List Rw} {k n : Nat} (hk : k < 30) (hkn : k < n) (h : fstTo rs (rwAt rs k) k = true) : VotedIs (tabTo rs n) (pk (rwAt rs k).a 4) (1 + pk (rwAt rs k).b 9) 0 (rDig (rwAt rs k)) := by
  obtain ⟨hn, hs⟩ := tabTo_first hk h
  obtain ⟨e, he⟩ := tabTo_prefix rs (k + 1) n hkn
  rw [hs, List.append_assoc] at he
  have hat : svAt (tabTo rs n) (tabTo rs k).length = slotR (rwAt rs k) := by rw [he]; simp [svAt, List.getD]
  refine .at (tabTo_ok rs n).ok (tabTo rs k).length (by rw [he]; simp) ?_ (fun j hj => ?_) rfl (by rw [hat]; rfl)
  · rw [hit, hat]; exact decide_eq_true ⟨rfl, rfl⟩
  · rw [he, hit_append _ _ _ _ j hj]; exact findTo_no hn j hj
end Go.Proofs.YtbkojincfmfpnaaDoor

namespace Go.Proofs.YtbkojincfmfpnaaDoor
open Go.RowKit

set_option maxRecDepth 100000 in
set_option maxHeartbeats 400000 in
theorem same_eq (bs : List Int) (sa sb : Option Addr) (n m c d : Nat) (w : World) (hn : n = bs.length) (hm : m = bs.length) (ha : SliceAt w sa c bs) (hb : SliceAt w sb d bs) :
    Calls Tryd.prog 34 #[.slice sa n c, .slice sb m d] w fun e w' => e = .returned (.bool true) ∧ w = w' := by
  have h1 := run_text w sa n c bs hn ha
  have h2 := run_text w sb m d bs hm hb
  clear hn hm ha hb
  go_enter Tryd.func34, Tryd.ntmps34
  go_wp2_with fail
  go_ret
  exact ⟨by simp, rfl⟩
end Go.Proofs.YtbkojincfmfpnaaDoor

namespace Go.Proofs.YtbkojincfmfpnaaDoor
open Go.RowKit

set_option maxRecDepth 100000 in
theorem voted_noneT {au rd e : Int} {bs : List Int} (h : VotedIs [] au rd e bs) : e = 8 := by
  cases h with
  | bad h _ _ => exact absurd (tabF_nil.symm.trans h) (by decide)
  | none _ _ he _ => exact he
  | «at» _ m hm _ _ _ _ => exact absurd hm (by simp)
set_option maxRecDepth 100000 in
theorem keyEq_vals (r s : Rw) : (keyEq r s = true ∧ pk r.a 4 = pk s.a 4 ∧ 1 + pk r.b 9 = 1 + pk s.b 9) ∨ (keyEq r s = false ∧ ¬ (pk r.a 4 = pk s.a 4)) ∨ (keyEq r s = false ∧ pk r.a 4 = pk s.a 4 ∧ ¬ (1 + pk r.b 9 = 1 + pk s.b 9)) := by
  by_cases h1 : pk r.a 4 = pk s.a 4
  · by_cases h2 : 1 + pk r.b 9 = 1 + pk s.b 9
    · exact .inl ⟨decide_eq_true ⟨h1, h2⟩, h1, h2⟩
    · exact .inr (.inr ⟨decide_eq_false (fun h => h2 h.2), h1, h2⟩)
  · exact .inr (.inl ⟨decide_eq_false (fun h => h1 h.1), h1⟩)
set_option maxRecDepth 100000 in
set_option maxHeartbeats 4000000 in
theorem tableAll_walk (sa : Option Addr) (cap : Nat) (rs : List Rw) (w : World) (hr : RawsAt w sa rs) (_hl : rs.length ≤ cap) (hT : Tabs w) :
    Calls Tryd.prog 14 #[.slice sa rs.length cap] w fun e w' => e = .returned (.bool true) ∧ Below w.heap.size w w' := by
  have hsm := hr.small
  have HEND : Hid (∀ (W : World), Calls Tryd.prog 33 #[.slice none 0 0, .int .i64 0, .int .i64 1] W fun e w' => ∃ (ra : Option Addr) (rc : Nat) (bs : List Int), e = .returned (.tuple #[.slice ra bs.length rc, .int .i64 8]) ∧ Below W.heap.size W w') := by
    show ∀ W, _
    intro W
    refine (voted_any [] none 0 0 0 1 W rfl (tab_nil _)).mono ?_
    rintro e w' ⟨ra, rc, bs, er, he, hV, _, _, hb⟩
    obtain rfl := voted_noneT hV
    exact ⟨ra, rc, bs, he, hb⟩
  go_enter Tryd.func14, Tryd.ntmps14
  go_wp2_with fail
  refine (table_any rs sa _ cap w rfl hr hT).mono ?_
  rintro e w1 ⟨xa, xc, ks, he, hv, ht, hb1⟩
  subst he
  dsimp only
  have HV : Hid (vs ks = tabR rs) := hv
  clear hv
  go_wp2_with fail
  go_loopw [5, 4] (fun i n wr => ∃ k : Nat, k ≤ rs.length ∧ k ≤ 30 ∧ i = .int .i64 k ∧ n = .int .i64 ((tabTo rs k).length : Nat) ∧ Below w1.heap.size w1 wr) (fun i _ _ => rs.length - (intOf i).toNat)
  case atStart => exact ⟨0, Nat.zero_le _, by omega, rfl, rfl, Below.refl _ _⟩
  case round =>
    obtain ⟨k, hk, hk30, rfl, rfl, hb⟩ := hrel
    have hBw := hb1.trans (hb.mono hb1.size)
    by_cases hlt : k < rs.length
    · by_cases h30 : k < 30
      · have hpw := hr.below hBw
        obtain ⟨sb, so, rfl, hc⟩ : ∃ sb so, sa = some ⟨sb, so, none⟩ ∧ ∀ j (h : j < rs.length), wr.cell? ⟨sb, so + j * 5, none⟩ = some (.int .i64 (rs[j]).ki) ∧ wr.cell? ⟨sb, so + j * 5 + 1, none⟩ = some (.int .i64 (rs[j]).a) ∧ wr.cell? ⟨sb, so + j * 5 + 2, none⟩ = some (.int .i64 (rs[j]).b) ∧ wr.cell? ⟨sb, so + j * 5 + 3, none⟩ = some (.int .i64 (rs[j]).c) ∧ wr.cell? ⟨sb, so + j * 5 + 4, none⟩ = some (.slice (rs[j]).sa (rs[j]).n (rs[j]).cap) := by
          rcases hpw.cells with h | h
          · rw [h] at hlt; simp at hlt
          · exact h
        obtain ⟨c0, c1, c2, c3, c4⟩ := hc k hlt
        have hi := hr.each (rs[k]) (List.getElem_mem hlt)
        have hltI : (k : Int) < rs.length := by omega
        have h30I : (k : Int) < 30 := by omega
        have HK : Hid (rwAt rs k = rs[k]) := rwAt_get rs k hlt
        have HH : Hid (I64 (rs[k]).a ∧ I64 (rs[k]).b ∧ I64 (rs[k]).c) := hi
        clear hc hpw hi
        generalize rs[k] = r at *
        go_wp2_with fail
        refine (header_hat r wr HH.out).mono ?_
        rintro e w2 ⟨ba, bc, bl, pa, pc, pl, he, hH, hbl, hpl, hb2, _, _⟩
        subst he
        dsimp only
        have HF : Hid (headerF (pk r.a 4) (1 + pk r.b 9) bl pl = 0) := headerF_raw r.a r.b r.c bl pl hbl hpl
        have HD : Hid (hDig (pk r.a 4) (1 + pk r.b 9) bl pl = rDig r) := hDig_raw r bl pl hbl hpl
        clear hbl hpl c0 c1 c2 c3 c4
        have hB2 := hb.trans (hb2.mono hb.size)
        have hA2 : Below w2.heap.size w2 (w2.alloc (.cells #[.int .i64 (pk r.a 4), .int .i64 (1 + pk r.b 9), .slice ba bl.length bc, .slice pa pl.length pc] 25)) := (Below.refl _ _).alloc (Nat.le_refl _) _
        have u2 := heap_alloc_new w2 (.cells #[.int .i64 (pk r.a 4), .int .i64 (1 + pk r.b 9), .slice ba bl.length bc, .slice pa pl.length pc] 25)
        have hB3 := hB2.trans (hA2.mono hB2.size)
        have hH3 := hH.below hA2
        go_wp2_with fail
        generalize w2.alloc (.cells #[.int .i64 (pk r.a 4), .int .i64 (1 + pk r.b 9), .slice ba bl.length bc, .slice pa pl.length pc] 25) = w3 at hA2 u2 hB3 hH3 ⊢
        go_loopw [8, 7] (fun i f wq => ∃ m : Nat, m ≤ k ∧ i = .int .i64 m ∧ f = .bool (fstTo rs r m) ∧ Below w3.heap.size w3 wq) (fun i _ _ => k - (intOf i).toNat)
        case atStart => exact ⟨0, Nat.zero_le _, rfl, rfl, Below.refl _ _⟩
        case round =>
          obtain ⟨m, hm, rfl, rfl, hbq⟩ := hrel
          have hBq := hB3.trans (hbq.mono hB3.size)
          have hBwq := hb1.trans (hBq.mono hb1.size)
          have u3 := (hbq.block _ (lt_of_heap u2)).trans u2
          have d0 := cells_at u3 0 _ rfl
          have d1 := cells_at u3 1 _ rfl
          have d2 := cells_at u3 2 _ rfl
          have d3 := cells_at u3 3 _ rfl
          by_cases hmk : m < k
          · have hmr : m < rs.length := by omega
            have hpq := hr.below hBwq
            have hcm : ∀ j (h : j < rs.length), wr.cell? ⟨sb, so + j * 5, none⟩ = some (.int .i64 (rs[j]).ki) ∧ wr.cell? ⟨sb, so + j * 5 + 1, none⟩ = some (.int .i64 (rs[j]).a) ∧ wr.cell? ⟨sb, so + j * 5 + 2, none⟩ = some (.int .i64 (rs[j]).b) ∧ wr.cell? ⟨sb, so + j * 5 + 3, none⟩ = some (.int .i64 (rs[j]).c) ∧ wr.cell? ⟨sb, so + j * 5 + 4, none⟩ = some (.slice (rs[j]).sa (rs[j]).n (rs[j]).cap) := by
              rcases hpq.cells with h | ⟨sb', so', e, h⟩
              · rw [h] at hlt; simp at hlt
              · cases e; exact h
            obtain ⟨c0, c1, c2, c3, c4⟩ := hcm m hmr
            have hmI : (m : Int) < k := by omega
            have hmI2 : (m : Int) < rs.length := by omega
            have HG : Hid (I64 (rs[m]).a ∧ I64 (rs[m]).b ∧ I64 (rs[m]).c) := hr.each (rs[m]) (List.getElem_mem hmr)
            have HS : Hid (fstTo rs r (m + 1) = (fstTo rs r m && !keyEq (rs[m]) r)) := by
              show _ = _
              rw [fstTo, rwAt_get rs m hmr]
            clear hcm hpq
            generalize rs[m] = g at *
            go_wp2_with fail
            refine (header_hat g wr HG.out).mono ?_
            rintro e w4 ⟨ba', bc', bl', pa', pc', pl', he, _, _, _, hb4, _, _⟩
            subst he
            dsimp only
            clear c0 c1 c2 c3 c4 d0 d1 d2 d3
            have u4 := heap_keep (o := .cells #[.int .i64 (pk g.a 4), .int .i64 (1 + pk g.b 9), .slice ba' bl'.length bc', .slice pa' pl'.length pc'] 25) ((hb4.block _ (lt_of_heap u3)).trans u3)
            have v4 := heap_alloc_new w4 (.cells #[.int .i64 (pk g.a 4), .int .i64 (1 + pk g.b 9), .slice ba' bl'.length bc', .slice pa' pl'.length pc'] 25)
            have hB4 := hbq.trans (hb4.mono hbq.size)
            have hB5 := hB4.alloc hB4.size (.cells #[.int .i64 (pk g.a 4), .int .i64 (1 + pk g.b 9), .slice ba' bl'.length bc', .slice pa' pl'.length pc'] 25)
            have d0 := cells_at u4 0 _ rfl
            have d1 := cells_at u4 1 _ rfl
            have e0 := cells_at v4 0 _ rfl
            have e1 := cells_at v4 1 _ rfl
            have hE : ∃ b : Bool, fstTo rs r m = b ∧ ((b = false ∧ fstTo rs r (m + 1) = false) ∨ (b = true ∧ ((fstTo rs r (m + 1) = true ∧ (pk g.a 4 != pk r.a 4) = true) ∨ (fstTo rs r (m + 1) = true ∧ (pk g.a 4 != pk r.a 4) = false ∧ (1 + pk g.b 9 != 1 + pk r.b 9) = true) ∨ (fstTo rs r (m + 1) = false ∧ (pk g.a 4 != pk r.a 4) = false ∧ (1 + pk g.b 9 != 1 + pk r.b 9) = false)))) := by
              rw [HS.out]
              refine ⟨_, rfl, ?_⟩
              cases fstTo rs r m
              · exact .inl ⟨rfl, rfl⟩
              · refine .inr ⟨rfl, ?_⟩
                rcases keyEq_vals g r with ⟨h1, h2, h3⟩ | ⟨h1, h2⟩ | ⟨h1, h2, h3⟩
                · exact .inr (.inr ⟨by rw [h1]; rfl, by simp [h2], by simp [h3]⟩)
                · exact .inl ⟨by rw [h1]; rfl, by simp [h2]⟩
                · exact .inr (.inl ⟨by rw [h1]; rfl, by simp [h2], by simp; omega⟩)
            clear HS
            obtain ⟨b, hbe, hE⟩ := hE
            rw [hbe]
            generalize hN : fstTo rs r (m + 1) = b' at hE
            have HN : Hid (fstTo rs r (m + 1) = b') := hN
            clear hN hbe
            generalize pk g.a 4 = GA at *
            generalize 1 + pk g.b 9 = GB at *
            rcases hE with ⟨rfl, rfl⟩ | ⟨rfl, ⟨rfl, hx⟩ | ⟨rfl, hx, hy⟩ | ⟨rfl, hx, hy⟩⟩
            all_goals
              go_wp2_with fail
              go_roundw
              case rel =>
                have hR : ∀ (bb : Bool) (W : World), fstTo rs r (m + 1) = bb → Below w3.heap.size w3 W → ∃ m' : Nat, m' ≤ k ∧ (Value.int .i64 ((m : Int) + 1)) = .int .i64 m' ∧ (Value.bool bb) = .bool (fstTo rs r m') ∧ Below w3.heap.size w3 W := fun bb W h1 h2 => ⟨m + 1, by omega, by go_num, by rw [h1], h2⟩
                have hR2 := hR _ _ HN.out hB5
                first | exact hR2 | ((repeat apply Exists.intro); exact ⟨hR2, rfl⟩)
              case measure => simp [intOf]; omega
          · obtain rfl : m = k := by omega
            cases hfst : fstTo rs r m with
            | false =>
              have HL : Hid (tabTo rs (m + 1) = tabTo rs m) := by
                show _ = _
                refine tabTo_later h30 ?_
                rw [HK.out]; exact hfst
              go_wp2_with fail
              go_roundw
              case rel =>
                have hR : ∃ k' : Nat, k' ≤ rs.length ∧ k' ≤ 30 ∧ (Value.int .i64 ((m : Int) + 1)) = .int .i64 k' ∧ (Value.int .i64 ((tabTo rs m).length : Nat)) = .int .i64 ((tabTo rs k').length : Nat) ∧ Below w1.heap.size w1 wr := ⟨m + 1, by omega, by omega, by go_num, by rw [HL.out], hBq⟩
                first | exact hR | ((repeat apply Exists.intro); exact ⟨hR, rfl⟩)
              case measure => simp [intOf]; omega
            | true =>
              have hfst' : fstTo rs (rwAt rs m) m = true := by rw [HK.out]; exact hfst
              have HL : Hid ((tabTo rs (m + 1)).length = (tabTo rs m).length + 1) := by
                show _ = _
                rw [(tabTo_first h30 hfst').2]; simp
              have HVT : Hid (VotedIs (vs ks) (pk r.a 4) (1 + pk r.b 9) 0 (rDig r)) := by
                show VotedIs _ _ _ _ _
                have := voted_first (n := min rs.length 30) h30 (by omega) hfst'
                rw [HK.out] at this
                rw [HV.out]; exact this
              have hlen30 : (tabTo rs m).length ≤ 30 := Nat.le_trans (tabTo_ok rs m).le (by omega)
              have HDG := headerDigest_hat (hH3.below hbq) HF.out (hT.below hBwq)
              rw [HD.out] at HDG
              have HTA := ht.below hBq
              have hD32 := rDig_length r
              clear hfst' HK HF HD
              generalize rDig r = DD at *
              generalize pk r.a 4 = RA at *
              generalize 1 + pk r.b 9 = RB at *
              generalize (tabTo rs m).length = nn at *
              go_wp2_with fail
              refine HDG.mono ?_
              rintro e w5 ⟨b5, he, hbb5, hb5, hs5⟩
              subst he
              dsimp only
              clear d0 d1 d2 d3 HDG
              have u5 := (hb5.block _ (lt_of_heap u3)).trans u3
              have d0 := cells_at u5 0 _ rfl
              have d1 := cells_at u5 1 _ rfl
              have hB5 := hBq.trans (hb5.mono hBq.size)
              have HD32 : Hid (DD.length = 32) := hD32
              clear hD32
              go_wp2_with fail
              refine (voted_any ks xa _ xc RA RB w5 rfl (HTA.below hb5)).mono ?_
              rintro e w6 ⟨ya, yc, ys, er, he, hV6, hys, _, hb6⟩
              subst he
              dsimp only
              obtain ⟨rfl, rfl⟩ := hV6.one HVT.out
              clear hV6 HVT
              have hB6 := hB5.trans (hb6.mono hB5.size)
              have hE := same_eq ys (some ⟨b5, 0, none⟩) ya 32 ys.length 32 yc w6 HD32.out.symm rfl (hs5.below hb6) hys
              go_wp2_with (go_at_call 34; refine hE.mono ?_; rintro e w' ⟨rfl, rfl⟩)
              go_roundw
              case rel =>
                have hR : ∃ k' : Nat, k' ≤ rs.length ∧ k' ≤ 30 ∧ (Value.int .i64 ((m : Int) + 1)) = .int .i64 k' ∧ (Value.int .i64 ((nn : Int) + 1)) = .int .i64 ((tabTo rs k').length : Nat) ∧ Below w1.heap.size w1 w6 := ⟨m + 1, by omega, by omega, by go_num, by rw [HL.out]; go_num, hB6⟩
                first | exact hR | ((repeat apply Exists.intro); exact ⟨hR, rfl⟩)
              case measure => simp [intOf]; omega
      · obtain rfl : k = 30 := by omega
        have hltJ : (30 : Int) < rs.length := by omega
        have hE : Hid ((tabTo rs 30).length = ks.length) := by
          show _ = _
          have := congrArg List.length HV.out
          rw [vs_length, tabR, Nat.min_eq_right (by omega)] at this
          exact this.symm
        rw [hE.out]
        go_wp2_with fail
        refine (HEND.out wr).mono ?_
        rintro e w9 ⟨ya, yc, ys, he, hb9⟩
        subst he
        dsimp only
        go_wp2_with fail
        go_ret
        exact ⟨by first | rfl | simp, hBw.trans (hb9.mono hBw.size)⟩
    · obtain rfl : k = rs.length := by omega
      have hE : Hid ((tabTo rs rs.length).length = ks.length) := by
        show _ = _
        have := congrArg List.length HV.out
        rw [vs_length, tabR, Nat.min_eq_left hk30] at this
        exact this.symm
      rw [hE.out]
      go_wp2_with fail
      refine (HEND.out wr).mono ?_
      rintro e w9 ⟨ya, yc, ys, he, hb9⟩
      subst he
      dsimp only
      go_wp2_with fail
      go_ret
      exact ⟨by first | rfl | simp, hBw.trans (hb9.mono hBw.size)⟩
end Go.Proofs.YtbkojincfmfpnaaDoor
