/- What sheaveskeep.Table makes of raw things. -/
import Derived.Test.YtbkojincfmfpnaaDoorHeadK
import Derived.Test.YtbkojincfmfpnaaDoorCastApartM0
import Derived.Test.YtbkojincfmfpnaaDoorPK
import Derived.ProofKit
import Derived.OpenShut
import Derived.SizedLaws
import Derived.Test.YtbkojincfmfpnaaDoorStrsAt
import Derived.Deep.Strs
import Derived.Deep.Slices
namespace Go.Proofs.YtbkojincfmfpnaaDoor
open Go.RowKit

set_option maxRecDepth 100000 in
theorem someL_u8 (n m : Int) : ∀ x ∈ someL n m, 0 ≤ x ∧ x ≤ 255 := by
  obtain ⟨hp0, hp1⟩ := pk_bounds n 256 (by decide)
  intro x hx
  rcases List.mem_or_eq_of_mem_set hx with hx | rfl
  · rcases List.mem_or_eq_of_mem_set hx with hx | rfl
    · rcases List.mem_or_eq_of_mem_set hx with hx | rfl
      · rw [List.mem_replicate] at hx; omega
      · omega
    · omega
  · omega
set_option maxRecDepth 100000 in
theorem someL_inj {a : Int} {i j : Int} (hi : 0 ≤ i ∧ i < 256) (hj : 0 ≤ j ∧ j < 256) (h : someL a i = someL a j) : i = j := by
  have h1 : (someL a i)[1]? = (someL a j)[1]? := by rw [h]
  simp [someL] at h1
  omega
set_option maxRecDepth 100000 in
/-- Digests of raw numbers are whole, and all different. -/
theorem digF_some (ps : List Part) (a c : Int) (n : Nat) (hc : 0 ≤ c ∧ c + n ≤ 256) (h : ps.map (·.bs) = (List.range n).map fun (i : Nat) => someL a (c + i)) : digF ps = 0 := by
  have hl : ps.length = n := by have := congrArg List.length h; simpa using this
  have hg : ∀ k, k < ps.length → (partAt ps k).bs = someL a (c + k) := by
    intro k hk
    rw [partAt_get ps k hk]
    have h1 : (ps.map (·.bs))[k]? = ((List.range n).map fun (i : Nat) => someL a (c + i))[k]? := by rw [h]
    simp [hk, show k < n by omega] at h1
    exact h1
  have hall : ∀ k, k ≤ ps.length → digTo1 ps k = 0 := by
    intro k
    induction k with
    | zero => intro _; rfl
    | succ k ih =>
      intro hk
      rw [digTo1, ih (by omega)]
      simp only [ne_eq, not_true_eq_false, if_false]
      have htw : twice ps k = false := by
        rw [twice, List.any_eq_false]
        intro j hj
        rw [List.mem_range] at hj
        rw [hg j (by omega), hg k (by omega)]
        intro e
        have e' := of_decide_eq_true e
        unfold txL at e'
        have e2 : someL a (c + j) = someL a (c + k) := bstr_inj (someL_u8 _ _) (someL_u8 _ _) (ba_ext e')
        have := someL_inj (by omega) (by omega) e2
        omega
      rw [digAt, hg k (by omega), someL_length, htw]
      simp
  exact hall ps.length (Nat.le_refl _)
set_option maxRecDepth 100000 in
theorem headerF_raw (ra rb rc : Int) (bl pl : List Part) (hb : bl.map (·.bs) = hBats rc) (hp : pl.map (·.bs) = hPars ra rb rc) : headerF (pk ra 4) (1 + pk rb 9) bl pl = 0 := by
  obtain ⟨pa0, pa1⟩ := pk_bounds ra 4 (by decide)
  obtain ⟨pb0, pb1⟩ := pk_bounds rb 9 (by decide)
  obtain ⟨pc0, pc1⟩ := pk_bounds rc 4 (by decide)
  obtain ⟨pd0, pd1⟩ := pk_bounds rc 2 (by decide)
  have hbl : bl.length = (pk rc 4).toNat := by have := congrArg List.length hb; simpa [hBats] using this
  have hdb : digF bl = 0 := digF_some bl rc 0 (pk rc 4).toNat (by omega) (by rw [hb, hBats]; simp)
  by_cases h0 : pk rb 9 = 0
  · rw [hPars, if_pos h0] at hp
    have hpl : pl = [] := by simpa using hp
    subst hpl
    rw [headerF, if_neg (by omega), if_neg (by simp; omega), if_neg (by simp [hdb]), if_neg (by simp [digF, digTo1])]
    simp [parentsF, h0]
  · rw [hPars, if_neg h0] at hp
    have hpl : pl.length = (3 + pk rc 2).toNat := by have := congrArg List.length hp; simpa using this
    have hdp : digF pl = 0 := digF_some pl ra 10 (3 + pk rc 2).toNat (by omega) hp
    rw [headerF, if_neg (by omega), if_neg (by omega), if_neg (by simp [hdb]), if_neg (by simp [hdp]), parentsF, if_neg (by omega)]
end Go.Proofs.YtbkojincfmfpnaaDoor

namespace Go.Proofs.YtbkojincfmfpnaaDoor
open Go.ChangeShapes Go.WideShapes Go.ChangeAt Go.RowKit

set_option maxRecDepth 100000 in
theorem cU8 : Tryd.prog.cellsOf 5 = 1 := by kernel_rfl
set_option maxRecDepth 100000 in
theorem own : ownKnob Tryd.prog.godebug = none := by kernel_rfl
set_option maxRecDepth 100000 in
theorem laidOut : laidOutB Tryd.prog = true := by kernel_rfl
/-- Each is a byte. -/
def AllU8 (bs : List Int) : Prop := ∀ x ∈ bs, 0 ≤ x ∧ x ≤ 255
set_option maxRecDepth 100000 in
theorem open_bytes_cells {H : Type} {enc : TypeId × Value → H} {W : World} {fuel : Nat} {cs : List Value} {x : DataW H × List MemPlace}
    (hf : DataW.trod enc Tryd.prog W 0 (fun _ => true) true fuel 42 cs = some x) :
    ∃ sa cap bs, cs = [.slice sa (List.length bs) cap] ∧ SliceAt W sa cap bs ∧ AllU8 bs := by
  rcases open_ints Tryd.underlying42 Tryd.underlying5 cU8 hf with ⟨rfl, _⟩ | ⟨x, len0, cap0, zs, rfl, _, hl, hm, hz, _, hcell, hwz⟩
  · exact ⟨none, 0, [], rfl, ⟨Nat.le_refl _, by decide, .inl rfl, fun _ => rfl, .inl rfl⟩, fun x hx => by cases hx⟩
  · simp only [if_true] at hz
    have hlen : (zs.take len0).length = len0 := by rw [List.length_take, hz]; omega
    refine ⟨some x, cap0, zs.take len0, by rw [hlen], ?_, fun y hy => bounds_u8 (hwz y (List.mem_of_mem_take hy))⟩
    rcases Nat.eq_zero_or_pos cap0 with h0 | h0
    · subst h0
      obtain rfl : len0 = 0 := by omega
      exact ⟨by simp, hm, .inl rfl, fun _ => rfl, .inl (by simp)⟩
    · obtain ⟨b, off, rfl, hc⟩ := ints_at hcell (by omega)
      refine ⟨by omega, hm, .inr ⟨b, off, rfl⟩, (fun e => by cases e), .inr ⟨b, off, rfl, fun j hj => ?_⟩⟩
      rw [hc j (by omega)]
      have : j < len0 := by omega
      simp [List.getD, this]
set_option maxRecDepth 100000 in
theorem open_bytes {H : Type} {enc : TypeId × Value → H} {W : World} {base : Nat} {v : Value} {d : DataW H} {p : List MemPlace}
    (hv : Value.okWide Tryd.prog W .any base 42 v) (h : DataW.Trod enc Tryd.prog W 0 (fun _ => true) true 42 v d p) :
    ∃ sa cap bs, v = .slice sa (List.length bs) cap ∧ SliceAt W sa cap bs ∧ AllU8 bs := by
  obtain ⟨a0, len0, cap0, rfl⟩ := okWide_slice Tryd.underlying42 hv
  obtain ⟨fuel, hf⟩ := h
  obtain ⟨sa, cap, bs, hcs, h1, h2⟩ := open_bytes_cells hf
  simp [Value.cells] at hcs
  obtain ⟨rfl, rfl, rfl⟩ := hcs
  exact ⟨_, _, bs, rfl, h1, h2⟩
set_option maxRecDepth 100000 in
theorem bU8 : Tryd.prog.bytesOf 5 = 1 := by kernel_rfl
set_option maxRecDepth 100000 in
/-- The form's own reach, of one argument. -/
theorem fit_each {H : Type} {ts : List TypeId} {ds : List (DataW H)} (h : (DataW.weightsEach Tryd.prog ts ds).all (· ≤ reachBytes) = true) {j : Nat} {t : TypeId} {d : DataW H} (ht : ts[j]? = some t) (hd : ds[j]? = some d) : ∀ n ∈ d.weights Tryd.prog t, n ≤ reachBytes := fun n hn => by
  simpa using List.all_eq_true.1 h n (DataW.weights_mem_each ht hd n hn)
set_option maxRecDepth 100000 in
/-- A slice of bytes has room for so many. -/
theorem bytes_fit {H : Type} {enc : TypeId × Value → H} {W : World} {fuel : Nat} {cs : List Value} {x : DataW H × List MemPlace} {sa : Option Addr} {n cap : Nat}
    (hf : DataW.trod enc Tryd.prog W 0 (fun _ => true) true fuel 42 cs = some x) (hfit : ∀ n ∈ x.1.weights Tryd.prog 42, n ≤ reachBytes) (e : cs = [.slice sa n cap]) : cap ≤ 140737488351232 := by
  rcases open_ints Tryd.underlying42 Tryd.underlying5 cU8 hf with ⟨rfl, _⟩ | ⟨a, len, cap', zs, rfl, _, hl, hm, hz, rfl, _, _⟩
  · simp at e
    omega
  · simp at e
    obtain ⟨_, rfl, rfl⟩ := e
    have := hfit (((zs.take len).length + (zs.drop len).length) * Tryd.prog.bytesOf 5) (by simp [DataW.weights, Tryd.underlying42, lits])
    rw [bU8] at this
    simp only [if_true] at hz
    simp [reachBytes] at this
    omega
end Go.Proofs.YtbkojincfmfpnaaDoor

namespace Go.Proofs.YtbkojincfmfpnaaDoor
open Go.ChangeShapes Go.WideShapes Go.ChangeAt Go.RowKit Go.Deep

/-- What is read of a slice of texts that came in. -/
structure TextsAt (w : World) (sa : Option Addr) (cap : Nat) (ss : List ByteArray) : Prop where
  le : ss.length ≤ cap
  reach : cap * 16 ≤ 140737488351232
  nil : sa = none → cap = 0
  strs : StrsAt w sa ss
set_option maxRecDepth 100000 in
theorem TextsAt.below {w w' : World} {sa : Option Addr} {cap : Nat} {ss : List ByteArray} (h : TextsAt w sa cap ss) (hb : Below w.heap.size w w') : TextsAt w' sa cap ss := ⟨h.le, h.reach, h.nil, h.strs.below hb⟩

set_option maxRecDepth 100000 in
theorem cStr : Tryd.prog.cellsOf 9 = 1 := by kernel_rfl
set_option maxRecDepth 100000 in
theorem bStr : Tryd.prog.bytesOf 9 = 16 := by kernel_rfl
set_option maxRecDepth 100000 in
theorem open_texts_cells {H : Type} {enc : TypeId × Value → H} {W : World} {fuel : Nat} {cs : List Value} {x : DataW H × List MemPlace}
    (hf : DataW.trod enc Tryd.prog W 0 (fun _ => true) true fuel 34 cs = some x) (hfit : ∀ n ∈ x.1.weights Tryd.prog 34, n ≤ reachBytes) :
    ∃ sa cap ss, cs = [.slice sa (List.length ss) cap] ∧ TextsAt W sa cap ss := by
  rcases open_strs Tryd.underlying34 Tryd.underlying9 cStr hf with ⟨rfl, _⟩ | ⟨a, len, cap, m, Sx, rfl, _, hl, hm, hmm, rfl, hc⟩
  · exact ⟨none, 0, [], rfl, ⟨Nat.le_refl _, by decide, fun _ => rfl, ⟨.inl rfl, fun s hs => by cases hs⟩⟩⟩
  · simp only [if_true] at hmm
    subst hmm
    have hw := hfit ((((List.range len).map fun i => (DataW.lit (.string (Sx i).data.toList) : DataW H)).length + ((List.range (m - len)).map fun j => (DataW.lit (.string (Sx (len + j)).data.toList) : DataW H)).length) * Tryd.prog.bytesOf 9) (by simp [DataW.weights, Tryd.underlying34])
    rw [bStr] at hw
    simp [reachBytes] at hw
    refine ⟨some a, m, (List.range len).map Sx, by simp, ⟨by simpa using hl, by omega, (fun e => by cases e), ⟨?_, ?_⟩⟩⟩
    · rcases Nat.eq_zero_or_pos len with h0 | h0
      · subst h0; exact .inl rfl
      · right
        have h9 := (hc 0 (by omega)).1
        obtain ⟨b, off, rfl⟩ : ∃ b off, a = ⟨b, off, none⟩ := by
          cases a with
          | mk b off spot =>
            cases spot with
            | none => exact ⟨b, off, rfl⟩
            | some s => simp [World.cell?, Addr.add] at h9; split at h9 <;> cases h9
        refine ⟨b, off, rfl, fun j hj => ?_⟩
        have hj' : j < len := by simpa using hj
        have := (hc j (by omega)).1
        rw [add_off] at this
        rw [this]
        simp [hj']
    · intro s hs
      simp at hs
      obtain ⟨j, hj, rfl⟩ := hs
      exact (hc j (by omega)).2
end Go.Proofs.YtbkojincfmfpnaaDoor

namespace Go.Proofs.YtbkojincfmfpnaaDoor
open Go.ChangeShapes Go.WideShapes Go.ChangeAt Go.RowKit Go.Deep

set_option maxRecDepth 100000 in
theorem cRaw : Tryd.prog.cellsOf 36 = 5 := by kernel_rfl
set_option maxRecDepth 100000 in
theorem cIntR : Tryd.prog.cellsOf 3 = 1 := by kernel_rfl
set_option maxRecDepth 100000 in
theorem cStrsR : Tryd.prog.cellsOf 34 = 1 := by kernel_rfl
set_option maxRecDepth 100000 in
theorem open_raw {H : Type} {enc : TypeId × Value → H} {W : World} {base : Nat} {v : Value} {d : DataW H} {p : List MemPlace}
    (hv : Value.okWide Tryd.prog W .any base 36 v) (h : DataW.Trod enc Tryd.prog W 0 (fun _ => true) true 36 v d p) (hfit : ∀ n ∈ d.weights Tryd.prog 36, n ≤ reachBytes) :
    ∃ ki ra rb rc sa cap ss, v = .agg #[.int .i64 ki, .int .i64 ra, .int .i64 rb, .int .i64 rc, .slice sa (List.length ss) cap] ∧ I64 ki ∧ I64 ra ∧ I64 rb ∧ I64 rc ∧ TextsAt W sa cap ss := by
  obtain ⟨cs, rfl, _⟩ := okWide_struct Tryd.underlying36 hv
  obtain ⟨fuel, hf⟩ := h
  obtain ⟨xs, n, _, hx, hl, hlen, hg⟩ := DataW.trod_struct Tryd.underlying36 hf
  rw [cRaw] at hl
  match xs, hlen with
  | [y0, y1, y2, y3, y4], _ =>
  have h0 := hg 0 _ rfl
  have h1 := hg 1 _ rfl
  have h2 := hg 2 _ rfl
  have h3 := hg 3 _ rfl
  have h4 := hg 4 _ rfl
  simp only [Prod.mk.injEq] at hx
  obtain ⟨rfl, rfl⟩ := hx
  obtain ⟨l⟩ := cs
  match l, hl with
  | [c0, c1, c2, c3, c4], _ =>
  obtain ⟨a0, e0, rfl, w0⟩ := DataW.trod_int Tryd.underlying3 h0
  obtain ⟨a1, e1, rfl, w1⟩ := DataW.trod_int Tryd.underlying3 h1
  obtain ⟨a2, e2, rfl, w2⟩ := DataW.trod_int Tryd.underlying3 h2
  obtain ⟨a3, e3, rfl, w3⟩ := DataW.trod_int Tryd.underlying3 h3
  obtain ⟨sa, cap, ss, e4, hs⟩ := open_texts_cells h4 (fun n hn => hfit n (by simp [DataW.weights, DataW.weightsEach, Tryd.underlying36, hn]))
  simp [cIntR, cStrsR, Value.cells] at e0 e1 e2 e3 e4
  subst e0 e1 e2 e3 e4
  exact ⟨a0, a1, a2, a3, sa, cap, ss, rfl, bounds_i64 w0, bounds_i64 w1, bounds_i64 w2, bounds_i64 w3, hs⟩
end Go.Proofs.YtbkojincfmfpnaaDoor

namespace Go.Proofs.YtbkojincfmfpnaaDoor
open Go.ChangeShapes Go.WideShapes Go.ChangeAt Go.RowKit Go.Deep

/-- A raw thing: its numbers; where its texts lie. -/
structure Rw where
  ki : Int
  a : Int
  b : Int
  c : Int
  sa : Option Addr
  n : Nat
  cap : Nat
structure RawsAt (w : World) (sa : Option Addr) (rs : List Rw) : Prop where
  cells : rs = [] ∨ ∃ sb so, sa = some ⟨sb, so, none⟩ ∧ ∀ j (h : j < rs.length), w.cell? ⟨sb, so + j * 5, none⟩ = some (.int .i64 (rs[j]).ki) ∧ w.cell? ⟨sb, so + j * 5 + 1, none⟩ = some (.int .i64 (rs[j]).a) ∧ w.cell? ⟨sb, so + j * 5 + 2, none⟩ = some (.int .i64 (rs[j]).b) ∧ w.cell? ⟨sb, so + j * 5 + 3, none⟩ = some (.int .i64 (rs[j]).c) ∧ w.cell? ⟨sb, so + j * 5 + 4, none⟩ = some (.slice (rs[j]).sa (rs[j]).n (rs[j]).cap)
  each : ∀ r ∈ rs, I64 r.a ∧ I64 r.b ∧ I64 r.c
  small : rs.length ≤ 3000000000000000000
set_option maxRecDepth 100000 in
theorem RawsAt.below {w w' : World} {sa : Option Addr} {rs : List Rw} (h : RawsAt w sa rs) (hb : Below w.heap.size w w') : RawsAt w' sa rs := by
  refine ⟨?_, h.each, h.small⟩
  rcases h.cells with h | ⟨sb, so, rfl, hc⟩
  · exact .inl h
  · refine .inr ⟨sb, so, rfl, fun j hj => ?_⟩
    obtain ⟨h0, h1, h2, h3, h4⟩ := hc j hj
    have hlt : sb < w.heap.size := block_lt_of_cell h0
    exact ⟨(hb.cell (p := ⟨sb, so + j * 5, none⟩) hlt).trans h0, (hb.cell (p := ⟨sb, so + j * 5 + 1, none⟩) hlt).trans h1, (hb.cell (p := ⟨sb, so + j * 5 + 2, none⟩) hlt).trans h2, (hb.cell (p := ⟨sb, so + j * 5 + 3, none⟩) hlt).trans h3, (hb.cell (p := ⟨sb, so + j * 5 + 4, none⟩) hlt).trans h4⟩
set_option maxRecDepth 100000 in
theorem open_raw_cells {H : Type} {enc : TypeId × Value → H} {W : World} {fuel : Nat} {cs : List Value} {x : DataW H × List MemPlace}
    (hf : DataW.trod enc Tryd.prog W 0 (fun _ => true) true fuel 36 cs = some x) (hfit : ∀ n ∈ x.1.weights Tryd.prog 36, n ≤ reachBytes) :
    ∃ r : Rw, cs = [.int .i64 r.ki, .int .i64 r.a, .int .i64 r.b, .int .i64 r.c, .slice r.sa r.n r.cap] ∧ I64 r.a ∧ I64 r.b ∧ I64 r.c := by
  obtain ⟨xs, n, _, rfl, hl, hlen, hg⟩ := DataW.trod_struct Tryd.underlying36 hf
  rw [cRaw] at hl
  match xs, hlen with
  | [y0, y1, y2, y3, y4], _ =>
  have h0 := hg 0 _ rfl
  have h1 := hg 1 _ rfl
  have h2 := hg 2 _ rfl
  have h3 := hg 3 _ rfl
  have h4 := hg 4 _ rfl
  match cs, hl with
  | [c0, c1, c2, c3, c4], _ =>
  obtain ⟨a0, e0, rfl, w0⟩ := DataW.trod_int Tryd.underlying3 h0
  obtain ⟨a1, e1, rfl, w1⟩ := DataW.trod_int Tryd.underlying3 h1
  obtain ⟨a2, e2, rfl, w2⟩ := DataW.trod_int Tryd.underlying3 h2
  obtain ⟨a3, e3, rfl, w3⟩ := DataW.trod_int Tryd.underlying3 h3
  obtain ⟨sa, cap, ss, e4, _⟩ := open_texts_cells h4 (fun n hn => hfit n (by simp [DataW.weights, DataW.weightsEach, Tryd.underlying36, hn]))
  simp [cIntR, cStrsR] at e0 e1 e2 e3 e4
  subst e0 e1 e2 e3 e4
  exact ⟨⟨a0, a1, a2, a3, sa, ss.length, cap⟩, rfl, bounds_i64 w1, bounds_i64 w2, bounds_i64 w3⟩
set_option maxRecDepth 100000 in
theorem weightsAll_memR {H : Type} (e : TypeId) (l : List (DataW H)) (d : DataW H) (hd : d ∈ l) : ∀ n ∈ d.weights Tryd.prog e, n ∈ DataW.weightsAll Tryd.prog e l := by
  induction l with
  | nil => cases hd
  | cons x r ih =>
    intro n hn
    rw [DataW.weightsAll]
    rcases List.mem_cons.1 hd with rfl | h
    · exact List.mem_append_left _ hn
    · exact List.mem_append_right _ (ih h n hn)
set_option maxRecDepth 100000 in
theorem bRaw : Tryd.prog.bytesOf 36 = 56 := by kernel_rfl
set_option maxRecDepth 100000 in
theorem open_raws {H : Type} {enc : TypeId × Value → H} {W : World} {base : Nat} {v : Value} {d : DataW H} {p : List MemPlace}
    (hv : Value.okWide Tryd.prog W .any base 54 v) (h : DataW.Trod enc Tryd.prog W 0 (fun _ => true) true 54 v d p) (hfit : ∀ n ∈ d.weights Tryd.prog 54, n ≤ reachBytes) :
    ∃ sa cap rs, v = .slice sa (List.length rs) cap ∧ RawsAt W sa rs ∧ rs.length ≤ cap := by
  obtain ⟨a0, len0, cap0, rfl⟩ := okWide_slice Tryd.underlying54 hv
  obtain ⟨fuel, hf⟩ := h
  rcases open_slice Tryd.underlying54 hf with ⟨he, _⟩ | ⟨a, len, cap, m, n, D, Pl, he, _, hl, hm, hmm, hd, hx⟩
  · simp [Value.cells] at he
    obtain ⟨rfl, rfl, rfl⟩ := he
    exact ⟨none, 0, [], rfl, ⟨.inl rfl, (fun p hp => by cases hp), by decide⟩, Nat.le_refl _⟩
  · simp [Value.cells] at he
    obtain ⟨rfl, rfl, rfl⟩ := he
    simp only [Prod.mk.injEq] at hd
    obtain ⟨rfl, rfl⟩ := hd
    simp only [if_true] at hmm
    subst hmm
    rw [cRaw] at hx
    have hw := hfit ((((List.range len0).map D).length + ((List.range (m - len0)).map fun j => D (len0 + j)).length) * Tryd.prog.bytesOf 36) (by simp [DataW.weights, Tryd.underlying54])
    rw [bRaw] at hw
    simp [reachBytes] at hw
    have each : ∀ i, i < len0 → ∃ r : Rw, (W.cell? (a.add (i * 5)) = some (.int .i64 r.ki) ∧ W.cell? (a.add (i * 5 + 1)) = some (.int .i64 r.a) ∧ W.cell? (a.add (i * 5 + 2)) = some (.int .i64 r.b) ∧ W.cell? (a.add (i * 5 + 3)) = some (.int .i64 r.c) ∧ W.cell? (a.add (i * 5 + 4)) = some (.slice r.sa r.n r.cap)) ∧ (I64 r.a ∧ I64 r.b ∧ I64 r.c) := fun i hi => by
      obtain ⟨cs', h1, h2⟩ := hx i (by omega)
      have hfi : ∀ n ∈ (D i).weights Tryd.prog 36, n ≤ reachBytes := fun n hn => hfit n (by
        have := weightsAll_memR 36 ((List.range len0).map D) (D i) (List.mem_map.2 ⟨i, List.mem_range.2 hi, rfl⟩) n hn
        simp only [DataW.weights, Tryd.underlying54]
        exact List.mem_cons_of_mem _ (List.mem_append_left _ this))
      obtain ⟨r, rfl, i1, i2, i3⟩ := open_raw_cells h2 hfi
      obtain ⟨_, _, hcell⟩ := World.cells?_some h1
      have e0 := hcell 0 (by omega)
      have e1 := hcell 1 (by omega)
      have e2 := hcell 2 (by omega)
      have e3 := hcell 3 (by omega)
      have e4 := hcell 4 (by omega)
      rw [add_add] at e0 e1 e2 e3 e4
      exact ⟨r, ⟨by simpa using e0, by simpa using e1, by simpa using e2, by simpa using e3, by simpa using e4⟩, i1, i2, i3⟩
    obtain ⟨P, hP⟩ := @choose_lt Rw ⟨⟨0, 0, 0, 0, none, 0, 0⟩⟩ len0 _ each
    have ha : 0 < len0 → ∃ b off, a = ⟨b, off, none⟩ := fun hi => by
      have h9 := (hP 0 hi).1.1
      cases a with
      | mk b off spot =>
        cases spot with
        | none => exact ⟨b, off, rfl⟩
        | some s => simp [World.cell?, Addr.add] at h9; split at h9 <;> cases h9
    refine ⟨some a, m, (List.range len0).map P, by simp, ⟨?_, ?_, by simp; omega⟩, by simpa using hl⟩
    · rcases Nat.eq_zero_or_pos len0 with h0 | h0
      · subst h0; exact .inl rfl
      · right
        obtain ⟨b, off, rfl⟩ := ha h0
        refine ⟨b, off, rfl, fun j hj => ?_⟩
        have hj' : j < len0 := by simpa using hj
        obtain ⟨e0, e1, e2, e3, e4⟩ := (hP j hj').1
        rw [add_off] at e0 e1 e2 e3 e4
        simp only [List.getElem_map, List.getElem_range]
        exact ⟨e0, by rw [Nat.add_assoc]; exact e1, by rw [Nat.add_assoc]; exact e2, by rw [Nat.add_assoc]; exact e3, by rw [Nat.add_assoc]; exact e4⟩
    · intro p hp
      simp at hp
      obtain ⟨j, hj, rfl⟩ := hp
      exact (hP j hj).2
end Go.Proofs.YtbkojincfmfpnaaDoor

namespace Go.Proofs.YtbkojincfmfpnaaDoor
open Go.RowKit

def mkP (l : List (List Int)) : List Part := l.map fun bs => ⟨none, 0, bs⟩
set_option maxRecDepth 100000 in
theorem mkP_same (l : List Part) (bs : List (List Int)) (h : l.map (·.bs) = bs) : Same l (mkP bs) := by
  show l.map (·.bs) = (mkP bs).map (·.bs)
  rw [h, mkP, List.map_map]
  simp [Function.comp_def]
/-- The digest of a raw header. -/
def rDig (r : Rw) : List Int := hDig (pk r.a 4) (1 + pk r.b 9) (mkP (hBats r.c)) (mkP (hPars r.a r.b r.c))
set_option maxRecDepth 100000 in
theorem rDig_length (r : Rw) : (rDig r).length = 32 := hDig_length _ _ _ _
def slotR (r : Rw) : SV := (pk r.a 4, 1 + pk r.b 9, rDig r)
set_option maxRecDepth 100000 in
theorem hDig_raw (r : Rw) (bl pl : List Part) (hb : bl.map (·.bs) = hBats r.c) (hp : pl.map (·.bs) = hPars r.a r.b r.c) : hDig (pk r.a 4) (1 + pk r.b 9) bl pl = rDig r := by
  rw [rDig, hDig, hDig, headB_sameH (mkP_same bl _ hb) (mkP_same pl _ hp)]
def rwAt (rs : List Rw) (k : Nat) : Rw := rs.getD k ⟨0, 0, 0, 0, none, 0, 0⟩
set_option maxRecDepth 100000 in
theorem rwAt_get (rs : List Rw) (k : Nat) (h : k < rs.length) : rwAt rs k = rs[k] := by simp [rwAt, h]
def stepT (l : List SV) (s : SV) : List SV := if (castF l s).2 = 0 then (castF l s).1 else l
def tabTo (rs : List Rw) : Nat → List SV
  | 0 => []
  | k + 1 => stepT (tabTo rs k) (slotR (rwAt rs k))
def tabR (rs : List Rw) : List SV := tabTo rs (min rs.length 30)
set_option maxRecDepth 100000 in
theorem castF_vals (l : List SV) (s : SV) : (castF l s = (l, 0) ∧ ∃ m, findTo l s.1 s.2.1 l.length = some m) ∨ castF l s = ([], 7) ∨ castF l s = ([], 6) ∨ (castF l s = (l ++ [s], 0) ∧ findTo l s.1 s.2.1 l.length = none ∧ l.length < 400) := by
  cases h : findTo l s.1 s.2.1 l.length with
  | none =>
    by_cases hl : 400 ≤ l.length
    · exact .inr (.inr (.inl (castF_full h hl)))
    · exact .inr (.inr (.inr ⟨castF_new h hl, rfl, by omega⟩))
  | some m =>
    by_cases he : txL (svAt l m).2.2 = txL s.2.2
    · exact .inl ⟨castF_same h he, m, rfl⟩
    · exact .inr (.inl (castF_twice h he))
set_option maxRecDepth 100000 in
theorem stepT_or (l : List SV) (s : SV) : stepT l s = l ∨ (stepT l s = l ++ [s] ∧ findTo l s.1 s.2.1 l.length = none ∧ l.length < 400) := by
  rcases castF_vals l s with ⟨h, _⟩ | h | h | ⟨h, h2, h3⟩
  · left; rw [stepT, h]; simp
  · left; rw [stepT, h]; simp
  · left; rw [stepT, h]; simp
  · right; refine ⟨?_, h2, h3⟩; rw [stepT, h]; simp
set_option maxRecDepth 100000 in
theorem findTo_no {l : List SV} {au rd : Int} {k : Nat} (h : findTo l au rd k = none) : ∀ j, j < k → hit l au rd j = false := by
  induction k with
  | zero => intro j hj; omega
  | succ k ih =>
    rw [findTo] at h
    cases h1 : findTo l au rd k with
    | some m => rw [h1] at h; cases h
    | none =>
      rw [h1] at h
      intro j hj
      rcases Nat.lt_or_ge j k with g | g
      · exact ih h1 j g
      · obtain rfl : j = k := by omega
        cases h2 : hit l au rd j with
        | false => rfl
        | true => rw [h2] at h; simp at h
set_option maxRecDepth 100000 in
theorem svAt_append (l m : List SV) (k : Nat) (h : k < l.length) : svAt (l ++ m) k = svAt l k := by simp [svAt, List.getD, List.getElem?_append_left h]
set_option maxRecDepth 100000 in
theorem hit_append (l m : List SV) (au rd : Int) (k : Nat) (h : k < l.length) : hit (l ++ m) au rd k = hit l au rd k := by rw [hit, hit, svAt_append l m k h]
set_option maxRecDepth 100000 in
theorem anyHit_append (l m : List SV) (au rd : Int) (k : Nat) (h : k ≤ l.length) : anyHit (l ++ m) au rd k = anyHit l au rd k := by
  unfold anyHit
  have : ∀ (xs : List Nat), (∀ x ∈ xs, x < k) → xs.any (hit (l ++ m) au rd) = xs.any (hit l au rd) := by
    intro xs
    induction xs with
    | nil => intro _; rfl
    | cons x xs ih =>
      intro hx
      have hxk := hx x (List.mem_cons_self ..)
      rw [List.any_cons, List.any_cons, hit_append l m au rd x (by omega), ih (fun y hy => hx y (List.mem_cons_of_mem _ hy))]
  exact this _ (fun x hx => List.mem_range.1 hx)
set_option maxRecDepth 100000 in
theorem badAt_append (l m : List SV) (k : Nat) (h : k < l.length) : badAt (l ++ m) k = badAt l k := by
  rw [badAt, badAt, svAt_append l m k h, anyHit_append l m _ _ k (by omega)]
set_option maxRecDepth 100000 in
theorem tabF_snoc {l : List SV} {s : SV} (h : tabF l = 0) (hl : l.length < 400) (hs : slotF s.1 s.2.1 s.2.2.length = 0) (hn : findTo l s.1 s.2.1 l.length = none) : tabF (l ++ [s]) = 0 := by
  refine tabF_ok _ (by simp; omega) fun k hk => ?_
  rcases Nat.lt_or_ge k l.length with g | g
  · rw [badAt_append l [s] k g]; exact (tabF_zero h).2 k g
  · obtain rfl : k = l.length := by simp at hk; omega
    have e : svAt (l ++ [s]) l.length = s := by simp [svAt, List.getD]
    rw [badAt, e, hs, anyHit_append l [s] _ _ _ (Nat.le_refl _)]
    have : anyHit l s.1 s.2.1 l.length = false := by
      simp only [anyHit, List.any_eq_false]
      intro j hj
      rw [findTo_no hn j (by simpa using hj)]; simp
    rw [this]; rfl
set_option maxRecDepth 100000 in
theorem slotR_ok (r : Rw) : slotF (slotR r).1 (slotR r).2.1 (slotR r).2.2.length = 0 := by
  obtain ⟨a0, a1⟩ := pk_bounds r.a 4 (by decide)
  obtain ⟨b0, b1⟩ := pk_bounds r.b 9 (by decide)
  show slotF (pk r.a 4) (1 + pk r.b 9) (rDig r).length = 0
  rw [rDig_length, slotF, if_neg (by omega), if_neg (by decide)]
set_option maxRecDepth 100000 in
theorem tabF_nil : tabF [] = 0 := by decide
/-- A table is one, of so many slots, each of a header's. -/
structure TabOk (rs : List Rw) (k : Nat) (l : List SV) : Prop where
  ok : tabF l = 0
  le : l.length ≤ k
  from_ : ∀ s ∈ l, ∃ j, j < k ∧ s = slotR (rwAt rs j)
set_option maxRecDepth 100000 in
theorem tabTo_ok (rs : List Rw) (k : Nat) : TabOk rs k (tabTo rs k) := by
  induction k with
  | zero => exact ⟨tabF_nil, Nat.le_refl _, fun s hs => by cases hs⟩
  | succ k ih =>
    rw [tabTo]
    rcases stepT_or (tabTo rs k) (slotR (rwAt rs k)) with h | ⟨h, h2, h3⟩
    · rw [h]; exact ⟨ih.ok, by have := ih.le; omega, fun s hs => by obtain ⟨j, hj, e⟩ := ih.from_ s hs; exact ⟨j, by omega, e⟩⟩
    · rw [h]
      refine ⟨tabF_snoc ih.ok h3 (slotR_ok _) h2, by have := ih.le; simp; omega, fun s hs => ?_⟩
      rcases List.mem_append.1 hs with g | g
      · obtain ⟨j, hj, e⟩ := ih.from_ s g; exact ⟨j, by omega, e⟩
      · exact ⟨k, by omega, by simpa using g⟩
set_option maxRecDepth 100000 in
/-- A cast for a raw header. -/
theorem castAll_raw {l : List SV} (r : Rw) (bl pl : List Part) (h : tabF l = 0) (hb : bl.map (·.bs) = hBats r.c) (hp : pl.map (·.bs) = hPars r.a r.b r.c) :
    castAll l (pk r.a 4) (1 + pk r.b 9) bl pl = if (castF l (slotR r)).2 ≠ 0 then ([], (0, 0, []), (castF l (slotR r)).2) else ((castF l (slotR r)).1, slotR r, 0) := by
  rw [castAll, if_neg (by rw [h]; decide), if_neg (by rw [headerF_raw r.a r.b r.c bl pl hb hp]; decide), hDig_raw r bl pl hb hp]
  rfl
end Go.Proofs.YtbkojincfmfpnaaDoor
