/- BallotBad: four hundred votes; a table that has a vote twice. -/
import Derived.Test.YtlpoioefalpgdaaDoorBallotBadM0
import Derived.Deep.Slices
import Derived.Test.YtlpoioefalpgdaaDoorCast
import Derived.Test.YtlpoioefalpgdaaDoorCTab
import Derived.Test.YtlpoioefalpgdaaDoorSlCs
import Derived.Test.YtlpoioefalpgdaaDoorClone
import Derived.Test.YtlpoioefalpgdaaDoorSome
namespace Go.Proofs.YtlpoioefalpgdaaDoor
open Go.ChangeShapes Go.WideShapes Go.ChangeAt Go.RowKit Go.Deep

/-- A raw thing: its numbers; where its texts lie. -/
structure Rw where
  ki : Int
  a : Int
  b : Int
  c : Int
  sa : Option Addr
  n : Nat
  cap : Nat
structure RawsAt (w : World) (sa : Option Addr) (rs : List Rw) : Prop where
  cells : rs = [] ∨ ∃ sb so, sa = some ⟨sb, so, none⟩ ∧ ∀ j (h : j < rs.length), w.cell? ⟨sb, so + j * 5, none⟩ = some (.int .i64 (rs[j]).ki) ∧ w.cell? ⟨sb, so + j * 5 + 1, none⟩ = some (.int .i64 (rs[j]).a) ∧ w.cell? ⟨sb, so + j * 5 + 2, none⟩ = some (.int .i64 (rs[j]).b) ∧ w.cell? ⟨sb, so + j * 5 + 3, none⟩ = some (.int .i64 (rs[j]).c) ∧ w.cell? ⟨sb, so + j * 5 + 4, none⟩ = some (.slice (rs[j]).sa (rs[j]).n (rs[j]).cap)
  each : ∀ r ∈ rs, I64 r.a ∧ I64 r.b ∧ I64 r.c
  small : rs.length ≤ 3000000000000000000
set_option maxRecDepth 100000 in
theorem RawsAt.below {w w' : World} {sa : Option Addr} {rs : List Rw} (h : RawsAt w sa rs) (hb : Below w.heap.size w w') : RawsAt w' sa rs := by
  refine ⟨?_, h.each, h.small⟩
  rcases h.cells with h | ⟨sb, so, rfl, hc⟩
  · exact .inl h
  · refine .inr ⟨sb, so, rfl, fun j hj => ?_⟩
    obtain ⟨h0, h1, h2, h3, h4⟩ := hc j hj
    have hlt : sb < w.heap.size := block_lt_of_cell h0
    exact ⟨(hb.cell (p := ⟨sb, so + j * 5, none⟩) hlt).trans h0, (hb.cell (p := ⟨sb, so + j * 5 + 1, none⟩) hlt).trans h1, (hb.cell (p := ⟨sb, so + j * 5 + 2, none⟩) hlt).trans h2, (hb.cell (p := ⟨sb, so + j * 5 + 3, none⟩) hlt).trans h3, (hb.cell (p := ⟨sb, so + j * 5 + 4, none⟩) hlt).trans h4⟩
set_option maxRecDepth 100000 in
theorem open_raw_cells {H : Type} {enc : TypeId × Value → H} {W : World} {fuel : Nat} {cs : List Value} {x : DataW H × List MemPlace}
    (hf : DataW.trod enc Tryd.prog W 0 (fun _ => true) true fuel 25 cs = some x) (hfit : ∀ n ∈ x.1.weights Tryd.prog 25, n ≤ reachBytes) :
    ∃ r : Rw, cs = [.int .i64 r.ki, .int .i64 r.a, .int .i64 r.b, .int .i64 r.c, .slice r.sa r.n r.cap] ∧ I64 r.a ∧ I64 r.b ∧ I64 r.c := by
  obtain ⟨xs, n, _, rfl, hl, hlen, hg⟩ := DataW.trod_struct Tryd.underlying25 hf
  rw [cRaw] at hl
  match xs, hlen with
  | [y0, y1, y2, y3, y4], _ =>
  have h0 := hg 0 _ rfl
  have h1 := hg 1 _ rfl
  have h2 := hg 2 _ rfl
  have h3 := hg 3 _ rfl
  have h4 := hg 4 _ rfl
  match cs, hl with
  | [c0, c1, c2, c3, c4], _ =>
  obtain ⟨a0, e0, rfl, w0⟩ := DataW.trod_int Tryd.underlying3 h0
  obtain ⟨a1, e1, rfl, w1⟩ := DataW.trod_int Tryd.underlying3 h1
  obtain ⟨a2, e2, rfl, w2⟩ := DataW.trod_int Tryd.underlying3 h2
  obtain ⟨a3, e3, rfl, w3⟩ := DataW.trod_int Tryd.underlying3 h3
  obtain ⟨sa, cap, ss, e4, _⟩ := open_texts_cells h4 (fun n hn => hfit n (by simp [DataW.weights, DataW.weightsEach, Tryd.underlying25, hn]))
  simp [cIntR, cStrsR] at e0 e1 e2 e3 e4
  subst e0 e1 e2 e3 e4
  exact ⟨⟨a0, a1, a2, a3, sa, ss.length, cap⟩, rfl, bounds_i64 w1, bounds_i64 w2, bounds_i64 w3⟩
set_option maxRecDepth 100000 in
theorem weightsAll_memR {H : Type} (e : TypeId) (l : List (DataW H)) (d : DataW H) (hd : d ∈ l) : ∀ n ∈ d.weights Tryd.prog e, n ∈ DataW.weightsAll Tryd.prog e l := by
  induction l with
  | nil => cases hd
  | cons x r ih =>
    intro n hn
    rw [DataW.weightsAll]
    rcases List.mem_cons.1 hd with rfl | h
    · exact List.mem_append_left _ hn
    · exact List.mem_append_right _ (ih h n hn)
set_option maxRecDepth 100000 in
theorem bRaw : Tryd.prog.bytesOf 25 = 56 := by kernel_rfl
set_option maxRecDepth 100000 in
theorem open_raws {H : Type} {enc : TypeId × Value → H} {W : World} {base : Nat} {v : Value} {d : DataW H} {p : List MemPlace}
    (hv : Value.okWide Tryd.prog W .any base 22 v) (h : DataW.Trod enc Tryd.prog W 0 (fun _ => true) true 22 v d p) (hfit : ∀ n ∈ d.weights Tryd.prog 22, n ≤ reachBytes) :
    ∃ sa cap rs, v = .slice sa (List.length rs) cap ∧ RawsAt W sa rs ∧ rs.length ≤ cap := by
  obtain ⟨a0, len0, cap0, rfl⟩ := okWide_slice Tryd.underlying22 hv
  obtain ⟨fuel, hf⟩ := h
  rcases open_slice Tryd.underlying22 hf with ⟨he, _⟩ | ⟨a, len, cap, m, n, D, Pl, he, _, hl, hm, hmm, hd, hx⟩
  · simp [Value.cells] at he
    obtain ⟨rfl, rfl, rfl⟩ := he
    exact ⟨none, 0, [], rfl, ⟨.inl rfl, (fun p hp => by cases hp), by decide⟩, Nat.le_refl _⟩
  · simp [Value.cells] at he
    obtain ⟨rfl, rfl, rfl⟩ := he
    simp only [Prod.mk.injEq] at hd
    obtain ⟨rfl, rfl⟩ := hd
    simp only [if_true] at hmm
    subst hmm
    rw [cRaw] at hx
    have hw := hfit ((((List.range len0).map D).length + ((List.range (m - len0)).map fun j => D (len0 + j)).length) * Tryd.prog.bytesOf 25) (by simp [DataW.weights, Tryd.underlying22])
    rw [bRaw] at hw
    simp [reachBytes] at hw
    have each : ∀ i, i < len0 → ∃ r : Rw, (W.cell? (a.add (i * 5)) = some (.int .i64 r.ki) ∧ W.cell? (a.add (i * 5 + 1)) = some (.int .i64 r.a) ∧ W.cell? (a.add (i * 5 + 2)) = some (.int .i64 r.b) ∧ W.cell? (a.add (i * 5 + 3)) = some (.int .i64 r.c) ∧ W.cell? (a.add (i * 5 + 4)) = some (.slice r.sa r.n r.cap)) ∧ (I64 r.a ∧ I64 r.b ∧ I64 r.c) := fun i hi => by
      obtain ⟨cs', h1, h2⟩ := hx i (by omega)
      have hfi : ∀ n ∈ (D i).weights Tryd.prog 25, n ≤ reachBytes := fun n hn => hfit n (by
        have := weightsAll_memR 25 ((List.range len0).map D) (D i) (List.mem_map.2 ⟨i, List.mem_range.2 hi, rfl⟩) n hn
        simp only [DataW.weights, Tryd.underlying22]
        exact List.mem_cons_of_mem _ (List.mem_append_left _ this))
      obtain ⟨r, rfl, i1, i2, i3⟩ := open_raw_cells h2 hfi
      obtain ⟨_, _, hcell⟩ := World.cells?_some h1
      have e0 := hcell 0 (by omega)
      have e1 := hcell 1 (by omega)
      have e2 := hcell 2 (by omega)
      have e3 := hcell 3 (by omega)
      have e4 := hcell 4 (by omega)
      rw [add_add] at e0 e1 e2 e3 e4
      exact ⟨r, ⟨by simpa using e0, by simpa using e1, by simpa using e2, by simpa using e3, by simpa using e4⟩, i1, i2, i3⟩
    obtain ⟨P, hP⟩ := @choose_lt Rw ⟨⟨0, 0, 0, 0, none, 0, 0⟩⟩ len0 _ each
    have ha : 0 < len0 → ∃ b off, a = ⟨b, off, none⟩ := fun hi => by
      have h9 := (hP 0 hi).1.1
      cases a with
      | mk b off spot =>
        cases spot with
        | none => exact ⟨b, off, rfl⟩
        | some s => simp [World.cell?, Addr.add] at h9; split at h9 <;> cases h9
    refine ⟨some a, m, (List.range len0).map P, by simp, ⟨?_, ?_, by simp; omega⟩, by simpa using hl⟩
    · rcases Nat.eq_zero_or_pos len0 with h0 | h0
      · subst h0; exact .inl rfl
      · right
        obtain ⟨b, off, rfl⟩ := ha h0
        refine ⟨b, off, rfl, fun j hj => ?_⟩
        have hj' : j < len0 := by simpa using hj
        obtain ⟨e0, e1, e2, e3, e4⟩ := (hP j hj').1
        rw [add_off] at e0 e1 e2 e3 e4
        simp only [List.getElem_map, List.getElem_range]
        exact ⟨e0, by rw [Nat.add_assoc]; exact e1, by rw [Nat.add_assoc]; exact e2, by rw [Nat.add_assoc]; exact e3, by rw [Nat.add_assoc]; exact e4⟩
    · intro p hp
      simp at hp
      obtain ⟨j, hj, rfl⟩ := hp
      exact (hP j hj).2
end Go.Proofs.YtlpoioefalpgdaaDoor

namespace Go.Proofs.YtlpoioefalpgdaaDoor
open Go.RowKit

def mkP (l : List (List Int)) : List Part := l.map fun bs => ⟨none, 0, bs⟩
set_option maxRecDepth 100000 in
theorem mkP_same (l : List Part) (bs : List (List Int)) (h : l.map (·.bs) = bs) : Same l (mkP bs) := by
  show l.map (·.bs) = (mkP bs).map (·.bs)
  rw [h, mkP, List.map_map]
  simp [Function.comp_def]
/-- The digest of a raw header. -/
def rDig (r : Rw) : List Int := hDig (pk r.a 4) (1 + pk r.b 9) (mkP (hBats r.c)) (mkP (hPars r.a r.b r.c))
set_option maxRecDepth 100000 in
theorem rDig_length (r : Rw) : (rDig r).length = 32 := hDig_length _ _ _ _
def slotR (r : Rw) : SV := (pk r.a 4, 1 + pk r.b 9, rDig r)
set_option maxRecDepth 100000 in
theorem hDig_raw (r : Rw) (bl pl : List Part) (hb : bl.map (·.bs) = hBats r.c) (hp : pl.map (·.bs) = hPars r.a r.b r.c) : hDig (pk r.a 4) (1 + pk r.b 9) bl pl = rDig r := by
  rw [rDig, hDig, hDig, headB_sameH (mkP_same bl _ hb) (mkP_same pl _ hp)]
def rwAt (rs : List Rw) (k : Nat) : Rw := rs.getD k ⟨0, 0, 0, 0, none, 0, 0⟩
set_option maxRecDepth 100000 in
theorem rwAt_get (rs : List Rw) (k : Nat) (h : k < rs.length) : rwAt rs k = rs[k] := by simp [rwAt, h]
def stepT (l : List SV) (s : SV) : List SV := if (castF l s).2 = 0 then (castF l s).1 else l
def tabTo (rs : List Rw) : Nat → List SV
  | 0 => []
  | k + 1 => stepT (tabTo rs k) (slotR (rwAt rs k))
def tabR (rs : List Rw) : List SV := tabTo rs (min rs.length 30)
set_option maxRecDepth 100000 in
theorem castF_vals (l : List SV) (s : SV) : (castF l s = (l, 0) ∧ ∃ m, findTo l s.1 s.2.1 l.length = some m) ∨ castF l s = ([], 7) ∨ castF l s = ([], 6) ∨ (castF l s = (l ++ [s], 0) ∧ findTo l s.1 s.2.1 l.length = none ∧ l.length < 400) := by
  cases h : findTo l s.1 s.2.1 l.length with
  | none =>
    by_cases hl : 400 ≤ l.length
    · exact .inr (.inr (.inl (castF_full h hl)))
    · exact .inr (.inr (.inr ⟨castF_new h hl, rfl, by omega⟩))
  | some m =>
    by_cases he : txL (svAt l m).2.2 = txL s.2.2
    · exact .inl ⟨castF_same h he, m, rfl⟩
    · exact .inr (.inl (castF_twice h he))
set_option maxRecDepth 100000 in
theorem stepT_or (l : List SV) (s : SV) : stepT l s = l ∨ (stepT l s = l ++ [s] ∧ findTo l s.1 s.2.1 l.length = none ∧ l.length < 400) := by
  rcases castF_vals l s with ⟨h, _⟩ | h | h | ⟨h, h2, h3⟩
  · left; rw [stepT, h]; simp
  · left; rw [stepT, h]; simp
  · left; rw [stepT, h]; simp
  · right; refine ⟨?_, h2, h3⟩; rw [stepT, h]; simp
set_option maxRecDepth 100000 in
theorem findTo_no {l : List SV} {au rd : Int} {k : Nat} (h : findTo l au rd k = none) : ∀ j, j < k → hit l au rd j = false := by
  induction k with
  | zero => intro j hj; omega
  | succ k ih =>
    rw [findTo] at h
    cases h1 : findTo l au rd k with
    | some m => rw [h1] at h; cases h
    | none =>
      rw [h1] at h
      intro j hj
      rcases Nat.lt_or_ge j k with g | g
      · exact ih h1 j g
      · obtain rfl : j = k := by omega
        cases h2 : hit l au rd j with
        | false => rfl
        | true => rw [h2] at h; simp at h
set_option maxRecDepth 100000 in
theorem svAt_append (l m : List SV) (k : Nat) (h : k < l.length) : svAt (l ++ m) k = svAt l k := by simp [svAt, List.getD, List.getElem?_append_left h]
set_option maxRecDepth 100000 in
theorem hit_append (l m : List SV) (au rd : Int) (k : Nat) (h : k < l.length) : hit (l ++ m) au rd k = hit l au rd k := by rw [hit, hit, svAt_append l m k h]
set_option maxRecDepth 100000 in
theorem anyHit_append (l m : List SV) (au rd : Int) (k : Nat) (h : k ≤ l.length) : anyHit (l ++ m) au rd k = anyHit l au rd k := by
  unfold anyHit
  have : ∀ (xs : List Nat), (∀ x ∈ xs, x < k) → xs.any (hit (l ++ m) au rd) = xs.any (hit l au rd) := by
    intro xs
    induction xs with
    | nil => intro _; rfl
    | cons x xs ih =>
      intro hx
      have hxk := hx x (List.mem_cons_self ..)
      rw [List.any_cons, List.any_cons, hit_append l m au rd x (by omega), ih (fun y hy => hx y (List.mem_cons_of_mem _ hy))]
  exact this _ (fun x hx => List.mem_range.1 hx)
set_option maxRecDepth 100000 in
theorem badAt_append (l m : List SV) (k : Nat) (h : k < l.length) : badAt (l ++ m) k = badAt l k := by
  rw [badAt, badAt, svAt_append l m k h, anyHit_append l m _ _ k (by omega)]
set_option maxRecDepth 100000 in
theorem tabF_snoc {l : List SV} {s : SV} (h : tabF l = 0) (hl : l.length < 400) (hs : slotF s.1 s.2.1 s.2.2.length = 0) (hn : findTo l s.1 s.2.1 l.length = none) : tabF (l ++ [s]) = 0 := by
  refine tabF_ok _ (by simp; omega) fun k hk => ?_
  rcases Nat.lt_or_ge k l.length with g | g
  · rw [badAt_append l [s] k g]; exact (tabF_zero h).2 k g
  · obtain rfl : k = l.length := by simp at hk; omega
    have e : svAt (l ++ [s]) l.length = s := by simp [svAt, List.getD]
    rw [badAt, e, hs, anyHit_append l [s] _ _ _ (Nat.le_refl _)]
    have : anyHit l s.1 s.2.1 l.length = false := by
      simp only [anyHit, List.any_eq_false]
      intro j hj
      rw [findTo_no hn j (by simpa using hj)]; simp
    rw [this]; rfl
set_option maxRecDepth 100000 in
theorem slotR_ok (r : Rw) : slotF (slotR r).1 (slotR r).2.1 (slotR r).2.2.length = 0 := by
  obtain ⟨a0, a1⟩ := pk_bounds r.a 4 (by decide)
  obtain ⟨b0, b1⟩ := pk_bounds r.b 9 (by decide)
  show slotF (pk r.a 4) (1 + pk r.b 9) (rDig r).length = 0
  rw [rDig_length, slotF, if_neg (by omega), if_neg (by decide)]
set_option maxRecDepth 100000 in
theorem tabF_nil : tabF [] = 0 := by decide
/-- A table is one, of so many slots, each of a header's. -/
structure TabOk (rs : List Rw) (k : Nat) (l : List SV) : Prop where
  ok : tabF l = 0
  le : l.length ≤ k
  from_ : ∀ s ∈ l, ∃ j, j < k ∧ s = slotR (rwAt rs j)
set_option maxRecDepth 100000 in
theorem tabTo_ok (rs : List Rw) (k : Nat) : TabOk rs k (tabTo rs k) := by
  induction k with
  | zero => exact ⟨tabF_nil, Nat.le_refl _, fun s hs => by cases hs⟩
  | succ k ih =>
    rw [tabTo]
    rcases stepT_or (tabTo rs k) (slotR (rwAt rs k)) with h | ⟨h, h2, h3⟩
    · rw [h]; exact ⟨ih.ok, by have := ih.le; omega, fun s hs => by obtain ⟨j, hj, e⟩ := ih.from_ s hs; exact ⟨j, by omega, e⟩⟩
    · rw [h]
      refine ⟨tabF_snoc ih.ok h3 (slotR_ok _) h2, by have := ih.le; simp; omega, fun s hs => ?_⟩
      rcases List.mem_append.1 hs with g | g
      · obtain ⟨j, hj, e⟩ := ih.from_ s g; exact ⟨j, by omega, e⟩
      · exact ⟨k, by omega, by simpa using g⟩
set_option maxRecDepth 100000 in
/-- A cast for a raw header. -/
theorem castAll_raw {l : List SV} (r : Rw) (bl pl : List Part) (h : tabF l = 0) (hb : bl.map (·.bs) = hBats r.c) (hp : pl.map (·.bs) = hPars r.a r.b r.c) :
    castAll l (pk r.a 4) (1 + pk r.b 9) bl pl = if (castF l (slotR r)).2 ≠ 0 then ([], (0, 0, []), (castF l (slotR r)).2) else ((castF l (slotR r)).1, slotR r, 0) := by
  rw [castAll, if_neg (by rw [h]; decide), if_neg (by rw [headerF_raw r.a r.b r.c bl pl hb hp]; decide), hDig_raw r bl pl hb hp]
  rfl
end Go.Proofs.YtlpoioefalpgdaaDoor

namespace Go.Proofs.YtlpoioefalpgdaaDoor
open Go.RowKit

set_option maxRecDepth 100000 in
theorem header_hat (r : Rw) (w : World) (h : I64 r.a ∧ I64 r.b ∧ I64 r.c) :
    Calls Tryd.prog 11 #[.agg #[.int .i64 r.ki, .int .i64 r.a, .int .i64 r.b, .int .i64 r.c, .slice r.sa r.n r.cap]] w fun e w' => ∃ ba bc bl pa pc pl, e = .returned (.agg #[.int .i64 (pk r.a 4), .int .i64 (1 + pk r.b 9), .slice ba (List.length bl) bc, .slice pa (List.length pl) pc]) ∧ HAt w' ba bc bl pa pc pl ∧ bl.map (·.bs) = hBats r.c ∧ pl.map (·.bs) = hPars r.a r.b r.c ∧ Below w.heap.size w w' ∧ Fresh w.heap.size ba bl ∧ Fresh w.heap.size pa pl := by
  refine (header_raw2 r.ki r.a r.b r.c r.sa r.n r.cap w h.1 h.2.1 h.2.2).mono ?_
  rintro e w' ⟨ba, bc, bl, pa, pc, pl, he, a1, a2, a3, a4, a5, a6, a7, a8, a9⟩
  exact ⟨ba, bc, bl, pa, pc, pl, he, ⟨a1, a2, fun sb so e => (a3.1 sb so e).1, fun sb so e => (a4.1 sb so e).1⟩, a5, a6, a7, a8, a9⟩
set_option maxRecDepth 100000 in
set_option maxHeartbeats 2000000 in
theorem table_any (rs : List Rw) (sa : Option Addr) (n cap : Nat) (w : World) (hn : n = rs.length) (hr : RawsAt w sa rs) (hT : Tabs w) :
    Calls Tryd.prog 7 #[.slice sa n cap] w fun e w' => ∃ ra rc ks, e = .returned (.slice ra (List.length ks) rc) ∧ vs ks = tabR rs ∧ TabAt w' ra rc ks ∧ Below w.heap.size w w' := by
  subst hn
  have hsm := hr.small
  go_enter Tryd.func7, Tryd.ntmps7
  go_wp2_with fail
  go_loopw [4, 3] (fun j v wr => ∃ (k : Nat) (ks : List Sl) (ra : Option Addr) (rc : Nat), k ≤ rs.length ∧ k ≤ 30 ∧ j = .int .i64 k ∧ v = .slice ra ks.length rc ∧ vs ks = tabTo rs k ∧ TabAt wr ra rc ks ∧ Below w.heap.size w wr) (fun j _ _ => rs.length - (intOf j).toNat)
  case atStart => exact ⟨0, [], none, 0, Nat.zero_le _, by omega, rfl, rfl, rfl, tab_nil _, Below.refl _ _⟩
  case round =>
    obtain ⟨k, ks, ra, rc, hk, hk30, rfl, rfl, hv, ht, hb⟩ := hrel
    by_cases hlt : k < rs.length
    · by_cases h30 : k < 30
      · have hpw := hr.below hb
        obtain ⟨sb, so, rfl, hc⟩ : ∃ sb so, sa = some ⟨sb, so, none⟩ ∧ ∀ j (h : j < rs.length), wr.cell? ⟨sb, so + j * 5, none⟩ = some (.int .i64 (rs[j]).ki) ∧ wr.cell? ⟨sb, so + j * 5 + 1, none⟩ = some (.int .i64 (rs[j]).a) ∧ wr.cell? ⟨sb, so + j * 5 + 2, none⟩ = some (.int .i64 (rs[j]).b) ∧ wr.cell? ⟨sb, so + j * 5 + 3, none⟩ = some (.int .i64 (rs[j]).c) ∧ wr.cell? ⟨sb, so + j * 5 + 4, none⟩ = some (.slice (rs[j]).sa (rs[j]).n (rs[j]).cap) := by
          rcases hpw.cells with h | h
          · rw [h] at hlt; simp at hlt
          · exact h
        obtain ⟨c0, c1, c2, c3, c4⟩ := hc k hlt
        have hi := hr.each (rs[k]) (List.getElem_mem hlt)
        have hltI : (k : Int) < rs.length := by omega
        have h30I : (k : Int) < 30 := by omega
        have HX : Hid (tabTo rs (k + 1) = stepT (tabTo rs k) (slotR (rs[k]))) := by
          show _ = _
          rw [tabTo, rwAt_get rs k hlt]
        have h0 : tabF (vs ks) = 0 := by rw [hv]; exact (tabTo_ok rs k).ok
        have H0 : Hid (tabF (vs ks) = 0) := h0
        clear hc hpw h0
        generalize rs[k] = r at *
        have HH : Hid (I64 r.a ∧ I64 r.b ∧ I64 r.c) := hi
        clear hi
        go_wp2_with fail
        refine (header_hat r wr HH.out).mono ?_
        rintro e w1 ⟨ba, bc, bl, pa, pc, pl, he, hH, hbl, hpl, hb1, _, _⟩
        subst he
        dsimp only
        have hB1 := hb.trans (hb1.mono hb.size)
        have hA := castAll_raw (l := vs ks) r bl pl H0.out hbl hpl
        have HC := cast_any ks ra rc (pk r.a 4) (1 + pk r.b 9) ba bc bl pa pc pl w1 (ht.below hb1) hH (hT.below hB1)
        rw [hA] at HC
        clear hA hbl hpl
        generalize pk r.a 4 = PA at *
        generalize 1 + pk r.b 9 = PB at *
        go_wp2_with fail
        refine HC.mono ?_
        rintro e w2 ⟨xa, xc, xs, da, dc, au', rd', ds, er, he, hR, hT2, _, _, _, hb2⟩
        subst he
        dsimp only
        have hB2 := hB1.trans (hb2.mono hB1.size)
        have hA2 : Below w2.heap.size w2 (w2.alloc (.cells #[.int .i64 au', .int .i64 rd', .slice da ds.length dc] 33)) := (Below.refl _ _).alloc (Nat.le_refl _) _
        have hB3 := hB2.trans (hA2.mono hB2.size)
        by_cases hz : (castF (vs ks) (slotR r)).2 = 0
        · rw [if_neg (by simp [hz])] at hR
          simp only [Prod.mk.injEq] at hR
          obtain ⟨hx, _, rfl⟩ := hR
          have hstep : Hid (vs xs = tabTo rs (k + 1)) := by
            show _ = _
            rw [HX.out, stepT, ← hv, if_pos hz, hx]
          clear hx hz HC
          go_wp2_with fail
          go_roundw
          case rel =>
            have hR : ∃ (k' : Nat) (ks' : List Sl) (ra' : Option Addr) (rc' : Nat), k' ≤ rs.length ∧ k' ≤ 30 ∧ (Value.int .i64 ((k : Int) + 1)) = .int .i64 k' ∧ Value.slice xa xs.length xc = .slice ra' ks'.length rc' ∧ vs ks' = tabTo rs k' ∧ TabAt (w2.alloc (.cells #[.int .i64 au', .int .i64 rd', .slice da ds.length dc] 33)) ra' rc' ks' ∧ Below w.heap.size w (w2.alloc (.cells #[.int .i64 au', .int .i64 rd', .slice da ds.length dc] 33)) :=
              ⟨k + 1, xs, xa, xc, by omega, by omega, by go_num, rfl, hstep.out, hT2.below hA2, hB3⟩
            first | exact hR | ((repeat apply Exists.intro); exact ⟨hR, rfl⟩)
          case measure => simp [intOf]; omega
        · rw [if_pos (by simp [hz])] at hR
          simp only [Prod.mk.injEq] at hR
          obtain ⟨hq1, hq2, rfl⟩ := hR
          clear hq1 hq2
          have hstep : Hid (vs ks = tabTo rs (k + 1)) := by
            show _ = _
            rw [HX.out, stepT, ← hv, if_neg hz]
          have hT3 := ((ht.below hb1).below hb2).below hA2
          generalize (castF (vs ks) (slotR r)).2 = er at *
          clear HC
          go_wp2_with fail
          go_roundw
          case rel =>
            have hR : ∃ (k' : Nat) (ks' : List Sl) (ra' : Option Addr) (rc' : Nat), k' ≤ rs.length ∧ k' ≤ 30 ∧ (Value.int .i64 ((k : Int) + 1)) = .int .i64 k' ∧ Value.slice ra ks.length rc = .slice ra' ks'.length rc' ∧ vs ks' = tabTo rs k' ∧ TabAt (w2.alloc (.cells #[.int .i64 au', .int .i64 rd', .slice da ds.length dc] 33)) ra' rc' ks' ∧ Below w.heap.size w (w2.alloc (.cells #[.int .i64 au', .int .i64 rd', .slice da ds.length dc] 33)) :=
              ⟨k + 1, ks, ra, rc, by omega, by omega, by go_num, rfl, hstep.out, hT3, hB3⟩
            first | exact hR | ((repeat apply Exists.intro); exact ⟨hR, rfl⟩)
          case measure => simp [intOf]; omega
      · obtain rfl : k = 30 := by omega
        have hltI : ((30 : Nat) : Int) < rs.length := by omega
        have hltJ : (30 : Int) < rs.length := by omega
        have hE : Hid (vs ks = tabR rs) := by
          show _ = _
          rw [hv, tabR, Nat.min_eq_right (by omega)]
        go_wp2_with fail
        go_ret
        exact ⟨ra, rc, ks, rfl, hE.out, ht, hb⟩
    · obtain rfl : k = rs.length := by omega
      have hE : Hid (vs ks = tabR rs) := by
        show _ = _
        rw [hv, tabR, Nat.min_eq_left hk30]
      go_wp2_with fail
      go_ret
      exact ⟨ra, rc, ks, rfl, hE.out, ht, hb⟩
end Go.Proofs.YtlpoioefalpgdaaDoor

namespace Go.Proofs.YtlpoioefalpgdaaDoor
open Go.RowKit

/-- P4.2 -/
def VotedIs (l : List SV) (au rd : Int) (e : Int) (bs : List Int) : Prop :=
  (tabF l = 12 ∧ e = 12 ∧ bs = []) ∨ (tabF l = 0 ∧ (∀ j, j < l.length → hit l au rd j = false) ∧ e = 8 ∧ bs = []) ∨ ∃ m : Nat, tabF l = 0 ∧ m < l.length ∧ hit l au rd m = true ∧ (∀ j, j < m → hit l au rd j = false) ∧ e = 0 ∧ bs = (svAt l m).2.2
set_option maxRecDepth 100000 in
theorem voted_bad {l : List SV} {au rd e : Int} {bs : List Int} (h : tabF l = 12) (he : e = 12) (hb : bs = []) : VotedIs l au rd e bs := .inl ⟨h, he, hb⟩
set_option maxRecDepth 100000 in
theorem voted_not {l : List SV} {au rd e : Int} {bs : List Int} (h : tabF l = 0) (hn : ∀ j, j < l.length → hit l au rd j = false) (he : e = 8) (hb : bs = []) : VotedIs l au rd e bs := .inr (.inl ⟨h, hn, he, hb⟩)
set_option maxRecDepth 100000 in
theorem voted_was {l : List SV} {au rd e : Int} {bs : List Int} (h : tabF l = 0) (m : Nat) (hm : m < l.length) (h1 : hit l au rd m = true) (h2 : ∀ j, j < m → hit l au rd j = false) (he : e = 0) (hb : bs = (svAt l m).2.2) : VotedIs l au rd e bs := .inr (.inr ⟨m, h, hm, h1, h2, he, hb⟩)
set_option maxRecDepth 100000 in
theorem VotedIs.one {l : List SV} {au rd e f : Int} {bs cs : List Int} (h : VotedIs l au rd e bs) (g : VotedIs l au rd f cs) : e = f ∧ bs = cs := by
  rcases h with ⟨h, he, hb⟩ | ⟨h, hn, he, hb⟩ | ⟨m, h, hm, h1, h2, he, hb⟩
  · rcases g with ⟨g, ge, gb⟩ | ⟨g, _, _, _⟩ | ⟨m, g, _, _, _, _, _⟩
    · exact ⟨by rw [he, ge], by rw [hb, gb]⟩
    · rw [h] at g; cases g
    · rw [h] at g; cases g
  · rcases g with ⟨g, ge, gb⟩ | ⟨g, _, ge, gb⟩ | ⟨m, g, hm, h1, _, _, _⟩
    · rw [h] at g; cases g
    · exact ⟨by rw [he, ge], by rw [hb, gb]⟩
    · rw [hn m hm] at h1; cases h1
  · rcases g with ⟨g, ge, gb⟩ | ⟨g, hn, _, _⟩ | ⟨n, g, gn, g1, g2, ge, gb⟩
    · rw [h] at g; cases g
    · rw [hn m hm] at h1; cases h1
    · obtain rfl : m = n := by
        rcases Nat.lt_trichotomy m n with q | q | q
        · rw [g2 m q] at h1; cases h1
        · exact q
        · rw [h2 n q] at g1; cases g1
      exact ⟨by rw [he, ge], by rw [hb, gb]⟩
set_option maxRecDepth 100000 in
theorem tab_len32 {l : List SV} (h : tabF l = 0) (m : Nat) (hm : m < l.length) : (svAt l m).2.2.length = 32 := by
  have hb := (tabF_zero h).2 m hm
  simp only [badAt, Bool.or_eq_false_iff] at hb
  have h1 := hb.1
  simp only [ne_eq, decide_eq_false_iff_not, Decidable.not_not] at h1
  unfold slotF at h1
  split at h1
  · cases h1
  · split at h1
    · cases h1
    · rename_i g; omega
set_option maxRecDepth 100000 in
set_option maxHeartbeats 1000000 in
theorem voted_any (ls : List Sl) (sa : Option Addr) (n cap : Nat) (au rd : Int) (w : World) (hn : n = ls.length) (ht : TabAt w sa cap ls) :
    Calls Tryd.prog 14 #[.slice sa n cap, .int .i64 au, .int .i64 rd] w fun e w' => ∃ ra rc bs er, e = .returned (.tuple #[.slice ra (List.length bs) rc, .int .i64 er]) ∧ VotedIs (vs ls) au rd er bs ∧ SliceAt w' ra rc bs ∧ (∀ sb so, ra = some ⟨sb, so, none⟩ → w.heap.size ≤ sb ∧ sb < w'.heap.size) ∧ Below w.heap.size w w' := by
  subst hn
  have hle := ht.le
  have hmx := ht.max
  rcases tabF_or (vs ls) with h0 | h0
  · go_enter Tryd.func14, Tryd.ntmps14
    go_wp2_with fail
    refine (checkTab_any ls sa _ cap w rfl ht).mono ?_
    rintro e w1 ⟨he, hb1⟩
    rw [h0] at he
    subst he
    dsimp only
    go_wp2_with fail
    refine (find_any ls sa _ cap au rd w1 (Nat.le_refl _) ht.small (ht.slots.below hb1)).mono ?_
    rintro e w2 ⟨r, he, hF, hb2⟩
    subst he
    dsimp only
    have hB2 := hb1.trans (hb2.mono hb1.size)
    rcases hF with ⟨m, hm, rfl, h1, h2⟩ | ⟨rfl, h2⟩
    · have hpw := ht.slots.below hB2
      obtain ⟨sb, so, rfl, hc⟩ : ∃ sb so, sa = some ⟨sb, so, none⟩ ∧ ∀ j (h : j < ls.length), w2.cell? ⟨sb, so + j * 3, none⟩ = some (.int .i64 (ls[j]).au) ∧ w2.cell? ⟨sb, so + j * 3 + 1, none⟩ = some (.int .i64 (ls[j]).rd) ∧ w2.cell? ⟨sb, so + j * 3 + 2, none⟩ = some (.slice (ls[j]).p.sa (ls[j]).p.bs.length (ls[j]).p.cap) := by
        rcases hpw.cells with h | h
        · rw [h] at hm; simp at hm
        · exact h
      obtain ⟨c0, c1, c2⟩ := hc m hm
      have hx := hpw.each (ls[m]) (List.getElem_mem hm)
      have h32 := tab_len32 h0 m (by rw [vs_length]; exact hm)
      have hV : Hid (VotedIs (vs ls) au rd 0 (ls[m]).p.bs) := by
        show VotedIs _ _ _ _ _
        exact voted_was h0 m (by rw [vs_length]; exact hm) h1 h2 rfl (by rw [svAt_get ls m hm]; rfl)
      rw [svAt_get ls m hm] at h32
      have h32' : (ls[m]).p.bs.length ≤ 140737488355328 := by
        have : (ls[m]).p.bs.length = 32 := h32
        omega
      have hltI : (m : Int) < ls.length := by omega
      clear hc h1 h2 h32 hpw
      generalize ls[m] = s at *
      go_wp2_with fail
      refine (clone_any s.p.bs s.p.sa _ s.p.cap w2 rfl hx h32').mono ?_
      rintro e w3 ⟨ra, rc, he, hs3, hrow, hb3⟩
      subst he
      dsimp only
      go_wp2_with fail
      go_ret2
      exact ⟨ra, rc, s.p.bs, 0, rfl, hV.out, hs3, (fun sb so e => by have := hrow sb so e; have := hB2.size; omega), hB2.trans (hb3.mono hB2.size)⟩
    · have hV : Hid (VotedIs (vs ls) au rd 8 []) := by
        show VotedIs _ _ _ _ _
        exact voted_not h0 (fun j hj => h2 j (by rw [vs_length] at hj; exact hj)) rfl rfl
      clear h2
      go_wp2_with fail
      go_ret2
      exact ⟨none, 0, [], 8, rfl, hV.out, nilSlice _, (fun _ _ e => by cases e), hB2⟩
  · go_enter Tryd.func14, Tryd.ntmps14
    go_wp2_with fail
    refine (checkTab_any ls sa _ cap w rfl ht).mono ?_
    rintro e w1 ⟨he, hb1⟩
    rw [h0] at he
    subst he
    dsimp only
    go_wp2_with fail
    go_ret2
    exact ⟨none, 0, [], 12, rfl, voted_bad h0 rfl rfl, nilSlice _, (fun _ _ e => by cases e), hb1⟩
end Go.Proofs.YtlpoioefalpgdaaDoor

namespace Go.Proofs.YtlpoioefalpgdaaDoor
open Go.RowKit

set_option maxRecDepth 100000 in
theorem tabTo_prefix (rs : List Rw) (k m : Nat) (h : k ≤ m) : ∃ e, tabTo rs m = tabTo rs k ++ e := by
  induction m with
  | zero => obtain rfl : k = 0 := by omega
            exact ⟨[], by simp⟩
  | succ m ih =>
    rcases Nat.lt_or_ge k (m + 1) with g | g
    · obtain ⟨e, he⟩ := ih (by omega)
      rw [tabTo]
      rcases stepT_or (tabTo rs m) (slotR (rwAt rs m)) with h1 | ⟨h1, _, _⟩
      · rw [h1]; exact ⟨e, he⟩
      · rw [h1, he]; exact ⟨e ++ [slotR (rwAt rs m)], by rw [List.append_assoc]⟩
    · obtain rfl : k = m + 1 := by omega
      exact ⟨[], by simp⟩
set_option maxRecDepth 100000 in
theorem findTo_has {l : List SV} {au rd : Int} {k m : Nat} (h : findTo l au rd k = some m) : m < k ∧ hit l au rd m = true ∧ ∀ j, j < m → hit l au rd j = false := by
  induction k with
  | zero => cases h
  | succ k ih =>
    rw [findTo] at h
    cases h1 : findTo l au rd k with
    | some n =>
      rw [h1] at h
      obtain rfl : n = m := by simpa using h
      obtain ⟨a, b, c⟩ := ih h1
      exact ⟨by omega, b, c⟩
    | none =>
      rw [h1] at h
      cases h2 : hit l au rd k with
      | false => rw [h2] at h; simp at h
      | true =>
        rw [h2] at h
        obtain rfl : k = m := by simpa using h
        exact ⟨by omega, h2, findTo_no h1⟩
/-- Are two raw things of one author and round? -/
def keyEq (r s : Rw) : Bool := decide (pk r.a 4 = pk s.a 4 ∧ 1 + pk r.b 9 = 1 + pk s.b 9)
def fstTo (rs : List Rw) (r : Rw) : Nat → Bool
  | 0 => true
  | k + 1 => fstTo rs r k && !keyEq (rwAt rs k) r
set_option maxRecDepth 100000 in
theorem fstTo_true {rs : List Rw} {r : Rw} {k : Nat} (h : fstTo rs r k = true) : ∀ j, j < k → keyEq (rwAt rs j) r = false := by
  induction k with
  | zero => intro j hj; omega
  | succ k ih =>
    rw [fstTo, Bool.and_eq_true] at h
    intro j hj
    rcases Nat.lt_or_ge j k with g | g
    · exact ih h.1 j g
    · obtain rfl : j = k := by omega
      simpa using h.2
set_option maxRecDepth 100000 in
theorem fstTo_false {rs : List Rw} {r : Rw} {k : Nat} (h : fstTo rs r k = false) : ∃ j, j < k ∧ keyEq (rwAt rs j) r = true := by
  induction k with
  | zero => cases h
  | succ k ih =>
    rw [fstTo, Bool.and_eq_false_iff] at h
    rcases h with h | h
    · obtain ⟨j, hj, e⟩ := ih h
      exact ⟨j, by omega, e⟩
    · exact ⟨k, by omega, by simpa using h⟩
set_option maxRecDepth 100000 in
theorem hit_mem {l : List SV} {au rd : Int} {s : SV} (hs : s ∈ l) (h : s.1 = au ∧ s.2.1 = rd) : ∃ p, p < l.length ∧ hit l au rd p = true := by
  obtain ⟨p, hp, rfl⟩ := List.getElem_of_mem hs
  exact ⟨p, hp, by rw [hit]; simp only [svAt, List.getD, hp, List.getElem?_eq_getElem, Option.getD_some]; exact decide_eq_true h⟩
set_option maxRecDepth 100000 in
theorem tabTo_keys (rs : List Rw) (k j : Nat) (hj : j < k) (hk : k ≤ 30) : ∃ p, p < (tabTo rs k).length ∧ hit (tabTo rs k) (pk (rwAt rs j).a 4) (1 + pk (rwAt rs j).b 9) p = true := by
  obtain ⟨e, he⟩ := tabTo_prefix rs (j + 1) k hj
  have h1 : ∃ p, p < (tabTo rs (j + 1)).length ∧ hit (tabTo rs (j + 1)) (pk (rwAt rs j).a 4) (1 + pk (rwAt rs j).b 9) p = true := by
    rw [tabTo]
    rcases castF_vals (tabTo rs j) (slotR (rwAt rs j)) with ⟨h, m, hm⟩ | h | h | ⟨h, h2, h3⟩
    · rw [stepT, h]
      simp only [if_true]
      obtain ⟨a, b, _⟩ := findTo_has hm
      exact ⟨m, a, b⟩
    · have hst : stepT (tabTo rs j) (slotR (rwAt rs j)) = tabTo rs j := by rw [stepT, h]; simp
      rw [hst]
      cases hf : findTo (tabTo rs j) (slotR (rwAt rs j)).1 (slotR (rwAt rs j)).2.1 (tabTo rs j).length with
      | none =>
        by_cases hl : 400 ≤ (tabTo rs j).length
        · rw [castF_full hf hl] at h; simp at h
        · rw [castF_new hf hl] at h; simp at h
      | some m =>
        obtain ⟨a, b, _⟩ := findTo_has hf
        exact ⟨m, a, b⟩
    · have hst : stepT (tabTo rs j) (slotR (rwAt rs j)) = tabTo rs j := by rw [stepT, h]; simp
      rw [hst]
      exfalso
      have hle := (tabTo_ok rs j).le
      cases hf : findTo (tabTo rs j) (slotR (rwAt rs j)).1 (slotR (rwAt rs j)).2.1 (tabTo rs j).length with
      | none =>
        by_cases hl : 400 ≤ (tabTo rs j).length
        · omega
        · rw [castF_new hf hl] at h; simp at h
      | some m =>
        by_cases q : txL (svAt (tabTo rs j) m).2.2 = txL (slotR (rwAt rs j)).2.2
        · rw [castF_same hf q] at h; simp at h
        · rw [castF_twice hf q] at h; simp at h
    · rw [stepT, h]
      simp only [if_true]
      exact hit_mem (List.mem_append_right _ (List.mem_singleton.2 rfl)) ⟨rfl, rfl⟩
  obtain ⟨p, hp, hh⟩ := h1
  rw [he]
  exact ⟨p, by simp; omega, by rw [hit_append _ e _ _ p hp]; exact hh⟩
set_option maxRecDepth 100000 in
/-- The first one of its author and round stands behind all that were there. -/
theorem tabTo_first {rs : List Rw} {k : Nat} (hk : k < 30) (h : fstTo rs (rwAt rs k) k = true) : findTo (tabTo rs k) (slotR (rwAt rs k)).1 (slotR (rwAt rs k)).2.1 (tabTo rs k).length = none ∧ tabTo rs (k + 1) = tabTo rs k ++ [slotR (rwAt rs k)] := by
  have hle := (tabTo_ok rs k).le
  have hn : findTo (tabTo rs k) (slotR (rwAt rs k)).1 (slotR (rwAt rs k)).2.1 (tabTo rs k).length = none := by
    refine findTo_none fun j hj => ?_
    have hm : svAt (tabTo rs k) j ∈ tabTo rs k := by
      have e : svAt (tabTo rs k) j = (tabTo rs k)[j] := by simp [svAt, hj]
      rw [e]; exact List.getElem_mem hj
    obtain ⟨i, hi, e⟩ := (tabTo_ok rs k).from_ _ hm
    have hq := fstTo_true h i hi
    rw [hit, e]
    exact hq
  refine ⟨hn, ?_⟩
  rw [tabTo, stepT, castF_new hn (by omega)]
  simp
set_option maxRecDepth 100000 in
theorem tabTo_later {rs : List Rw} {k : Nat} (hk : k < 30) (h : fstTo rs (rwAt rs k) k = false) : tabTo rs (k + 1) = tabTo rs k := by
  obtain ⟨j, hj, e⟩ := fstTo_false h
  obtain ⟨p, hp, hh⟩ := tabTo_keys rs k j hj (by omega)
  have hke : pk (rwAt rs j).a 4 = pk (rwAt rs k).a 4 ∧ 1 + pk (rwAt rs j).b 9 = 1 + pk (rwAt rs k).b 9 := of_decide_eq_true e
  rw [hke.1, hke.2] at hh
  rw [tabTo]
  rcases stepT_or (tabTo rs k) (slotR (rwAt rs k)) with h1 | ⟨_, h2, _⟩
  · exact h1
  · have := findTo_no h2 p hp
    rw [show hit (tabTo rs k) (slotR (rwAt rs k)).1 (slotR (rwAt rs k)).2.1 p = true from hh] at this
    cases this
set_option maxRecDepth 100000 in
/-- What is voted for. -/
theorem voted_first {rs : List Rw} {k n : Nat} (hk : k < 30) (hkn : k < n) (h : fstTo rs (rwAt rs k) k = true) : VotedIs (tabTo rs n) (pk (rwAt rs k).a 4) (1 + pk (rwAt rs k).b 9) 0 (rDig (rwAt rs k)) := by
  obtain ⟨hn, hs⟩ := tabTo_first hk h
  obtain ⟨e, he⟩ := tabTo_prefix rs (k + 1) n hkn
  rw [hs, List.append_assoc] at he
  have hat : svAt (tabTo rs n) (tabTo rs k).length = slotR (rwAt rs k) := by rw [he]; simp [svAt, List.getD]
  refine voted_was (tabTo_ok rs n).ok (tabTo rs k).length (by rw [he]; simp) ?_ (fun j hj => ?_) rfl (by rw [hat]; rfl)
  · rw [hit, hat]; exact decide_eq_true ⟨rfl, rfl⟩
  · rw [he, hit_append _ _ _ _ j hj]; exact findTo_no hn j hj
end Go.Proofs.YtlpoioefalpgdaaDoor

namespace Go.Proofs.YtlpoioefalpgdaaDoor
open Go.RowKit

def manyS (i : Nat) : SV := (((i % 4 : Nat) : Int), ((100 + i / 4 : Nat) : Int), someL 1 1)
def manyL (k : Nat) : List SV := (List.range k).map manyS
set_option maxRecDepth 100000 in
theorem manyL_succ (k : Nat) : manyL (k + 1) = manyL k ++ [manyS k] := by simp [manyL, List.range_succ]
set_option maxRecDepth 100000 in
theorem manyL_length (k : Nat) : (manyL k).length = k := by simp [manyL]
set_option maxRecDepth 100000 in
theorem svAt_many {k i : Nat} (h : i < k) : svAt (manyL k) i = manyS i := by simp [svAt, manyL, h]
set_option maxRecDepth 100000 in
theorem tabF_many : tabF (manyL 400) = 0 := by
  refine tabF_ok _ (by rw [manyL_length]; exact Nat.le_refl _) (fun k hk => ?_)
  rw [manyL_length] at hk
  rw [badAt, svAt_many hk, Bool.or_eq_false_iff]
  constructor
  · have h0 : slotF (manyS k).1 (manyS k).2.1 (manyS k).2.2.length = 0 := by
      show slotF ((k % 4 : Nat) : Int) ((100 + k / 4 : Nat) : Int) (someL 1 1).length = 0
      rw [someL_length, slotF, if_neg (by omega), if_neg (by simp)]
    simp [h0]
  · simp only [anyHit, List.any_eq_false]
    intro j hj
    have hj' : j < k := by simpa using hj
    rw [hit, svAt_many (by omega)]
    intro h
    obtain ⟨h1, h2⟩ := of_decide_eq_true h
    have h1' : ((j % 4 : Nat) : Int) = ((k % 4 : Nat) : Int) := h1
    have h2' : ((100 + j / 4 : Nat) : Int) = ((100 + k / 4 : Nat) : Int) := h2
    omega
set_option maxRecDepth 100000 in
theorem cast_many : castF (manyL 400) (slotR ⟨0, 0, 0, 0, none, 0, 0⟩) = ([], 6) := by
  refine castF_full (findTo_none (fun j hj => ?_)) (by rw [manyL_length]; exact Nat.le_refl _)
  rw [manyL_length] at hj
  rw [hit, svAt_many hj]
  have h1 : (slotR ⟨0, 0, 0, 0, none, 0, 0⟩).2.1 = 1 := by decide
  rw [h1]
  refine decide_eq_false (fun h => ?_)
  have h2 : ((100 + j / 4 : Nat) : Int) = 1 := h.2
  omega
set_option maxRecDepth 100000 in
theorem tabTo_pos (rs : List Rw) (k : Nat) : 0 < (tabTo rs (k + 1)).length := by
  induction k with
  | zero =>
    show 0 < (stepT [] (slotR (rwAt rs 0))).length
    rw [stepT, castF_new (by rfl) (by simp)]
    simp
  | succ k ih =>
    rw [tabTo]
    rcases stepT_or (tabTo rs (k + 1)) (slotR (rwAt rs (k + 1))) with h | ⟨h, _⟩
    · rw [h]; exact ih
    · rw [h]; simp
set_option maxRecDepth 100000 in
theorem tabR_pos {rs : List Rw} (h : 0 < rs.length) : 0 < (tabR rs).length := by
  rw [tabR]
  obtain ⟨m, hm⟩ : ∃ m, min rs.length 30 = m + 1 := ⟨min rs.length 30 - 1, by omega⟩
  rw [hm]
  exact tabTo_pos rs m
set_option maxRecDepth 100000 in
theorem tab_twice (l : List SV) (m : Nat) (hm : m < l.length) : tabF (l ++ [svAt l m]) = 12 := by
  refine tabF_bad _ l.length (by simp) ?_
  have hs : svAt (l ++ [svAt l m]) l.length = svAt l m := by simp [svAt, List.getD]
  rw [badAt, hs, Bool.or_eq_true]
  right
  simp only [anyHit, List.any_eq_true]
  refine ⟨m, by simpa using hm, ?_⟩
  rw [hit, svAt_append l _ m hm]
  simp
end Go.Proofs.YtlpoioefalpgdaaDoor
