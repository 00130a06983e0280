/- Lists of steps that are read; the argument that is one; appends of steps onto a row that the call owns. -/
import Derived.Test.YtbmodfegcmaieaaDoorGApp
import Derived.ProofKit
import Derived.OpenShut
import Derived.SizedLaws
import Derived.Test.YtbmodfegcmaieaaDoorGAppR
import Derived.Deep.Slices
import Derived.Laws.AppendOwnNone
namespace Go.Proofs.YtbmodfegcmaieaaDoor
open Go.RowKit

/-- The number that a test takes out of a raw one. -/
def pk (n m : Int) : Int := if n < 0 then -(n + 1) % m else n % m
set_option maxRecDepth 100000 in
theorem pk_bounds (n m : Int) (hm : 0 < m) : 0 ≤ pk n m ∧ pk n m < m := by
  unfold pk; split
  · exact ⟨Int.emod_nonneg _ (by omega), Int.emod_lt_of_pos _ hm⟩
  · exact ⟨Int.emod_nonneg _ (by omega), Int.emod_lt_of_pos _ hm⟩
set_option maxRecDepth 100000 in
set_option maxHeartbeats 400000 in
theorem picked_any (n m : Int) (w : World) (h0 : -9223372036854775808 ≤ n) (h1 : n ≤ 9223372036854775807) (hm : 0 < m) (hm2 : m ≤ 9223372036854775807) :
    Calls Tryd.prog 35 #[.int .i64 n, .int .i64 m] w fun e w' => e = .returned (.int .i64 (pk n m)) ∧ w = w' := by
  have hm0 : (m == 0) = false := beq_eq_false_iff_ne.2 (by omega)
  by_cases h : n < 0
  · have hx : Hid (pk n m = -((n + 1).tmod m)) := by
      show _ = _
      rw [pk, if_pos h, ← Int.neg_tmod, Int.tmod_eq_emod_of_nonneg (by omega)]
    go_enter Tryd.func35, Tryd.ntmps35
    go_wp2
    go_ret
    exact ⟨ret_int hx.out.symm, rfl⟩
  · have hx : Hid (pk n m = n % m) := if_neg h
    go_enter Tryd.func35, Tryd.ntmps35
    go_wp2
    go_ret
    exact ⟨ret_int hx.out.symm, rfl⟩
end Go.Proofs.YtbmodfegcmaieaaDoor

namespace Go.Proofs.YtbmodfegcmaieaaDoor
open Go.ChangeShapes Go.WideShapes Go.ChangeAt Go.RowKit

set_option maxRecDepth 100000 in
theorem cU8 : Tryd.prog.cellsOf 5 = 1 := by kernel_rfl
set_option maxRecDepth 100000 in
theorem own : ownKnob Tryd.prog.godebug = none := by kernel_rfl
set_option maxRecDepth 100000 in
theorem laidOut : laidOutB Tryd.prog = true := by kernel_rfl
/-- Each is a byte. -/
def AllU8 (bs : List Int) : Prop := ∀ x ∈ bs, 0 ≤ x ∧ x ≤ 255
set_option maxRecDepth 100000 in
theorem open_bytes_cells {H : Type} {enc : TypeId × Value → H} {W : World} {fuel : Nat} {cs : List Value} {x : DataW H × List MemPlace}
    (hf : DataW.trod enc Tryd.prog W 0 (fun _ => true) true fuel 46 cs = some x) :
    ∃ sa cap bs, cs = [.slice sa (List.length bs) cap] ∧ SliceAt W sa cap bs ∧ AllU8 bs := by
  rcases open_ints Tryd.underlying46 Tryd.underlying5 cU8 hf with ⟨rfl, _⟩ | ⟨x, len0, cap0, zs, rfl, _, hl, hm, hz, _, hcell, hwz⟩
  · exact ⟨none, 0, [], rfl, ⟨Nat.le_refl _, by decide, .inl rfl, fun _ => rfl, .inl rfl⟩, fun x hx => by cases hx⟩
  · simp only [if_true] at hz
    have hlen : (zs.take len0).length = len0 := by rw [List.length_take, hz]; omega
    refine ⟨some x, cap0, zs.take len0, by rw [hlen], ?_, fun y hy => bounds_u8 (hwz y (List.mem_of_mem_take hy))⟩
    rcases Nat.eq_zero_or_pos cap0 with h0 | h0
    · subst h0
      obtain rfl : len0 = 0 := by omega
      exact ⟨by simp, hm, .inl rfl, fun _ => rfl, .inl (by simp)⟩
    · obtain ⟨b, off, rfl, hc⟩ := ints_at hcell (by omega)
      refine ⟨by omega, hm, .inr ⟨b, off, rfl⟩, (fun e => by cases e), .inr ⟨b, off, rfl, fun j hj => ?_⟩⟩
      rw [hc j (by omega)]
      have : j < len0 := by omega
      simp [List.getD, this]
set_option maxRecDepth 100000 in
theorem open_bytes {H : Type} {enc : TypeId × Value → H} {W : World} {base : Nat} {v : Value} {d : DataW H} {p : List MemPlace}
    (hv : Value.okWide Tryd.prog W .any base 46 v) (h : DataW.Trod enc Tryd.prog W 0 (fun _ => true) true 46 v d p) :
    ∃ sa cap bs, v = .slice sa (List.length bs) cap ∧ SliceAt W sa cap bs ∧ AllU8 bs := by
  obtain ⟨a0, len0, cap0, rfl⟩ := okWide_slice Tryd.underlying46 hv
  obtain ⟨fuel, hf⟩ := h
  obtain ⟨sa, cap, bs, hcs, h1, h2⟩ := open_bytes_cells hf
  simp [Value.cells] at hcs
  obtain ⟨rfl, rfl, rfl⟩ := hcs
  exact ⟨_, _, bs, rfl, h1, h2⟩
set_option maxRecDepth 100000 in
theorem bU8 : Tryd.prog.bytesOf 5 = 1 := by kernel_rfl
set_option maxRecDepth 100000 in
/-- The form's own reach, of one argument. -/
theorem fit_each {H : Type} {ts : List TypeId} {ds : List (DataW H)} (h : (DataW.weightsEach Tryd.prog ts ds).all (· ≤ reachBytes) = true) {j : Nat} {t : TypeId} {d : DataW H} (ht : ts[j]? = some t) (hd : ds[j]? = some d) : ∀ n ∈ d.weights Tryd.prog t, n ≤ reachBytes := fun n hn => by
  simpa using List.all_eq_true.1 h n (DataW.weights_mem_each ht hd n hn)
set_option maxRecDepth 100000 in
/-- A slice of bytes has room for so many. -/
theorem bytes_fit {H : Type} {enc : TypeId × Value → H} {W : World} {fuel : Nat} {cs : List Value} {x : DataW H × List MemPlace} {sa : Option Addr} {n cap : Nat}
    (hf : DataW.trod enc Tryd.prog W 0 (fun _ => true) true fuel 46 cs = some x) (hfit : ∀ n ∈ x.1.weights Tryd.prog 46, n ≤ reachBytes) (e : cs = [.slice sa n cap]) : cap ≤ 140737488351232 := by
  rcases open_ints Tryd.underlying46 Tryd.underlying5 cU8 hf with ⟨rfl, _⟩ | ⟨a, len, cap', zs, rfl, _, hl, hm, hz, rfl, _, _⟩
  · simp at e
    omega
  · simp at e
    obtain ⟨_, rfl, rfl⟩ := e
    have := hfit (((zs.take len).length + (zs.drop len).length) * Tryd.prog.bytesOf 5) (by simp [DataW.weights, Tryd.underlying46, lits])
    rw [bU8] at this
    simp only [if_true] at hz
    simp [reachBytes] at this
    omega
end Go.Proofs.YtbmodfegcmaieaaDoor

namespace Go.Proofs.YtbmodfegcmaieaaDoor
open Go.ChangeShapes Go.WideShapes Go.ChangeAt Go.RowKit Go.Deep

/-- A step: its three numbers. -/
structure Stp where
  (x y z : Int)
structure StepsAt (w : World) (sa : Option Addr) (l : List Stp) : Prop where
  cells : l = [] ∨ ∃ sb so, sa = some ⟨sb, so, none⟩ ∧ ∀ j (h : j < l.length), w.cell? ⟨sb, so + j * 3, none⟩ = some (.int .i64 (l[j]).x) ∧ w.cell? ⟨sb, so + j * 3 + 1, none⟩ = some (.int .i64 (l[j]).y) ∧ w.cell? ⟨sb, so + j * 3 + 2, none⟩ = some (.int .i64 (l[j]).z)
  each : ∀ s ∈ l, I64 s.x ∧ I64 s.y ∧ I64 s.z
set_option maxRecDepth 100000 in
theorem StepsAt.below {w w' : World} {sa : Option Addr} {l : List Stp} (h : StepsAt w sa l) (hb : Below w.heap.size w w') : StepsAt w' sa l := by
  refine ⟨?_, h.each⟩
  rcases h.cells with h | ⟨sb, so, rfl, hc⟩
  · exact .inl h
  · refine .inr ⟨sb, so, rfl, fun j hj => ?_⟩
    obtain ⟨h0, h1, h2⟩ := hc j hj
    have hlt : sb < w.heap.size := block_lt_of_cell h0
    exact ⟨(hb.cell (p := ⟨sb, so + j * 3, none⟩) hlt).trans h0, (hb.cell (p := ⟨sb, so + j * 3 + 1, none⟩) hlt).trans h1, (hb.cell (p := ⟨sb, so + j * 3 + 2, none⟩) hlt).trans h2⟩
set_option maxRecDepth 100000 in
theorem cIntS : Tryd.prog.cellsOf 3 = 1 := by kernel_rfl
set_option maxRecDepth 100000 in
theorem cStep : Tryd.prog.cellsOf 86 = 3 := by kernel_rfl
set_option maxRecDepth 100000 in
theorem bStep : Tryd.prog.bytesOf 86 = 24 := by kernel_rfl
set_option maxRecDepth 100000 in
theorem infoStep : (Tryd.prog.info? 86).map (fun i => (i.zero, i.size, i.bytes)) = some (some (.agg #[.int .i64 0, .int .i64 0, .int .i64 0]), 3, 24) := by kernel_rfl
set_option maxRecDepth 100000 in
theorem open_step_cells {H : Type} {enc : TypeId × Value → H} {W : World} {fuel : Nat} {cs : List Value} {x : DataW H × List MemPlace}
    (hf : DataW.trod enc Tryd.prog W 0 (fun _ => true) true fuel 86 cs = some x) :
    ∃ s : Stp, cs = [.int .i64 s.x, .int .i64 s.y, .int .i64 s.z] ∧ I64 s.x ∧ I64 s.y ∧ I64 s.z := by
  obtain ⟨xs, n, _, rfl, hl, hlen, hg⟩ := DataW.trod_struct Tryd.underlying86 hf
  rw [cStep] at hl
  match xs, hlen with
  | [y0, y1, y2], _ =>
  have h0 := hg 0 _ rfl
  have h1 := hg 1 _ rfl
  have h2 := hg 2 _ rfl
  match cs, hl with
  | [c0, c1, c2], _ =>
  obtain ⟨a0, e0, rfl, w0⟩ := DataW.trod_int Tryd.underlying3 h0
  obtain ⟨a1, e1, rfl, w1⟩ := DataW.trod_int Tryd.underlying3 h1
  obtain ⟨a2, e2, rfl, w2⟩ := DataW.trod_int Tryd.underlying3 h2
  simp [cIntS] at e0 e1 e2
  subst e0 e1 e2
  exact ⟨⟨a0, a1, a2⟩, rfl, bounds_i64 w0, bounds_i64 w1, bounds_i64 w2⟩
set_option maxRecDepth 100000 in
theorem open_steps {H : Type} {enc : TypeId × Value → H} {W : World} {base : Nat} {v : Value} {d : DataW H} {p : List MemPlace}
    (hv : Value.okWide Tryd.prog W .any base 27 v) (h : DataW.Trod enc Tryd.prog W 0 (fun _ => true) true 27 v d p) (hfit : ∀ n ∈ d.weights Tryd.prog 27, n ≤ reachBytes) :
    ∃ sa cap l, v = .slice sa (List.length l) cap ∧ StepsAt W sa l ∧ l.length ≤ cap ∧ (sa = none → cap = 0) ∧ l.length * 24 ≤ 140737488351232 := by
  obtain ⟨a0, len0, cap0, rfl⟩ := okWide_slice Tryd.underlying27 hv
  obtain ⟨fuel, hf⟩ := h
  rcases open_slice Tryd.underlying27 hf with ⟨he, _⟩ | ⟨a, len, cap, m, n, D, Pl, he, _, hl, hm, hmm, hd, hx⟩
  · simp [Value.cells] at he
    obtain ⟨rfl, rfl, rfl⟩ := he
    exact ⟨none, 0, [], rfl, ⟨.inl rfl, (fun p hp => by cases hp)⟩, Nat.le_refl _, fun _ => rfl, by decide⟩
  · simp [Value.cells] at he
    obtain ⟨rfl, rfl, rfl⟩ := he
    simp only [Prod.mk.injEq] at hd
    obtain ⟨rfl, rfl⟩ := hd
    simp only [if_true] at hmm
    subst hmm
    rw [cStep] at hx
    have hw := hfit ((((List.range len0).map D).length + ((List.range (m - len0)).map fun j => D (len0 + j)).length) * Tryd.prog.bytesOf 86) (by simp [DataW.weights, Tryd.underlying27])
    rw [bStep] at hw
    simp [reachBytes] at hw
    have each : ∀ i, i < len0 → ∃ s : Stp, (W.cell? (a.add (i * 3)) = some (.int .i64 s.x) ∧ W.cell? (a.add (i * 3 + 1)) = some (.int .i64 s.y) ∧ W.cell? (a.add (i * 3 + 2)) = some (.int .i64 s.z)) ∧ (I64 s.x ∧ I64 s.y ∧ I64 s.z) := fun i hi => by
      obtain ⟨cs', h1, h2⟩ := hx i (by omega)
      obtain ⟨s, rfl, i1, i2, i3⟩ := open_step_cells h2
      obtain ⟨_, _, hcell⟩ := World.cells?_some h1
      have e0 := hcell 0 (by omega)
      have e1 := hcell 1 (by omega)
      have e2 := hcell 2 (by omega)
      rw [add_add] at e0 e1 e2
      exact ⟨s, ⟨by simpa using e0, by simpa using e1, by simpa using e2⟩, i1, i2, i3⟩
    obtain ⟨P, hP⟩ := @choose_lt Stp ⟨⟨0, 0, 0⟩⟩ len0 _ each
    have ha : 0 < len0 → ∃ b off, a = ⟨b, off, none⟩ := fun hi => by
      have h9 := (hP 0 hi).1.1
      cases a with
      | mk b off spot =>
        cases spot with
        | none => exact ⟨b, off, rfl⟩
        | some s => simp [World.cell?, Addr.add] at h9; split at h9 <;> cases h9
    refine ⟨some a, m, (List.range len0).map P, by simp, ⟨?_, ?_⟩, by simpa using hl, (fun e => by cases e), by simp; omega⟩
    · rcases Nat.eq_zero_or_pos len0 with h0 | h0
      · subst h0; exact .inl rfl
      · right
        obtain ⟨b, off, rfl⟩ := ha h0
        refine ⟨b, off, rfl, fun j hj => ?_⟩
        have hj' : j < len0 := by simpa using hj
        obtain ⟨e0, e1, e2⟩ := (hP j hj').1
        rw [add_off] at e0 e1 e2
        simp only [List.getElem_map, List.getElem_range]
        exact ⟨e0, by rw [Nat.add_assoc]; exact e1, by rw [Nat.add_assoc]; exact e2⟩
    · intro p hp
      simp at hp
      obtain ⟨j, hj, rfl⟩ := hp
      exact (hP j hj).2
def Stp.cs (s : Stp) : List Value := [.int .i64 s.x, .int .i64 s.y, .int .i64 s.z]
def stv (l : List Stp) : List Value := l.flatMap Stp.cs
set_option maxRecDepth 100000 in
theorem stv_len (l : List Stp) : (stv l).length = l.length * 3 := by
  induction l with
  | nil => rfl
  | cons x l ih => simp only [stv, List.flatMap_cons, List.length_append] at ih ⊢; rw [ih]; simp [Stp.cs]; omega
set_option maxRecDepth 100000 in
theorem stv_app (xs ys : List Stp) : stv (xs ++ ys) = stv xs ++ stv ys := by simp [stv]
set_option maxRecDepth 100000 in
theorem stv_at (l : List Stp) (k : Nat) (hk : k < l.length) (j : Nat) (hj : j < 3) : (stv l)[k * 3 + j]? = (Stp.cs (l[k]))[j]? := by
  induction l generalizing k with
  | nil => simp at hk
  | cons x l ih =>
    cases k with
    | zero =>
      simp only [stv, List.flatMap_cons, Nat.zero_mul, Nat.zero_add, List.getElem_cons_zero]
      rw [List.getElem?_append_left (by simp [Stp.cs]; exact hj)]
    | succ k =>
      simp only [stv, List.flatMap_cons, List.getElem_cons_succ]
      have hz : x.cs.length = 3 := rfl
      rw [List.getElem?_append_right (by rw [hz]; omega), hz, show (k + 1) * 3 + j - 3 = k * 3 + j by omega]
      exact ih k (by simpa using hk)
set_option maxRecDepth 100000 in
theorem stv_one (l : List Stp) : ∀ u ∈ stv l, u.oneCell' = true := by
  intro u hu
  obtain ⟨r, _, hu⟩ := List.mem_flatMap.1 hu
  simp [Stp.cs] at hu
  rcases hu with rfl | rfl | rfl <;> rfl
set_option maxRecDepth 100000 in
theorem steps_cells {w : World} {ad : Addr} {cs : List Stp} (hp : StepsAt w (some ad) cs) : ∀ j u, (stv cs)[j]? = some u → w.cell? (ad.add j) = some u := by
  intro j u hu
  rcases hp.cells with hb | ⟨sb, so, e, hb⟩
  · subst hb; simp [stv] at hu
  · cases e
    have hj : j < cs.length * 3 := by
      rcases Nat.lt_or_ge j (cs.length * 3) with g | g
      · exact g
      · rw [List.getElem?_eq_none (by rw [stv_len]; exact g)] at hu; cases hu
    have hk : j / 3 < cs.length := by omega
    have hd : j = j / 3 * 3 + j % 3 := by omega
    have h3 : j % 3 < 3 := by omega
    rw [add_off]
    obtain ⟨h0, h1, h2⟩ := hb (j / 3) hk
    rw [hd, stv_at cs (j / 3) hk (j % 3) h3] at hu
    have hq : so + j = so + j / 3 * 3 + j % 3 := by omega
    rw [hq]
    generalize j / 3 = q at *
    rcases (by omega : j % 3 = 0 ∨ j % 3 = 1 ∨ j % 3 = 2) with h | h | h <;> rw [h] at hu ⊢ <;> simp [Stp.cs] at hu <;> subst hu
    · exact h0
    · exact h1
    · exact h2
set_option maxRecDepth 100000 in
theorem steps_of_owns {w : World} {base n : Nat} {v : Value} {l : List Stp} (h : w.ownsRow base 86 3 v n (stv l)) (he : ∀ s ∈ l, I64 s.x ∧ I64 s.y ∧ I64 s.z) : ∃ sa cap, v = .slice sa l.length cap ∧ StepsAt w sa l := by
  have hl : n = l.length := by have := h.1; rw [stv_len] at this; omega
  subst hl
  rcases h.2 with ⟨rfl, hn⟩ | ⟨g, cap, cur, rfl, hr⟩
  · exact ⟨none, 0, by rw [hn], .inl (List.eq_nil_of_length_eq_zero (by omega)), he⟩
  · refine ⟨some ⟨g, 0, none⟩, cap, rfl, .inr ⟨g, 0, rfl, fun j hj => ?_⟩, he⟩
    have hc : ∀ i, i < 3 → w.cell? ⟨g, 0 + j * 3 + i, none⟩ = (Stp.cs (l[j]))[i]? := fun i hi => by
      rw [show 0 + j * 3 + i = j * 3 + i by omega, World.ownsRow.cellAt h (j * 3 + i) (by omega), stv_at l j hj i hi]
    exact ⟨hc 0 (by omega), hc 1 (by omega), hc 2 (by omega)⟩
set_option maxRecDepth 100000 in
/-- 'append(l, p...)': l a row that the call owns, p whatever slice of steps, nil too. -/
theorem wpList_append_steps {w : World} {ops : Array Oper} {rest : List Oper} {o : Oper} {a : Act} {Q : Exit → Act → World → Prop} (hgd : o.guard = none) (s x : Operand)
    (ho : o.op = .call { callee := .builtin .append, args := #[s, x], argTypes := #[27, 27] })
    (base : Nat) (v : Value) (n : Nat) (bs : List Stp) (hs : a.eval s = v) (hown : w.ownsRow base 86 3 v n (stv bs))
    (sa : Option Addr) (m cap : Nat) (cs : List Stp) (hx : a.eval x = .slice sa m cap) (hm : m = cs.length) (hp : StepsAt w sa cs) (hnil : sa = none → m = 0 ∧ cap = 0)
    (hlen : (n + m) * 24 ≤ 140737488355328) (hbase : base ≤ w.heap.size)
    (h : ∀ v' w', w'.ownsRow base 86 3 v' (n + m) (stv (bs ++ cs)) → w.grownBy w' v.ownBlock → wpList Tryd.prog ops Q rest (a.put o.dst v') w') : wpList Tryd.prog ops Q (o :: rest) a w := by
  obtain ⟨i, hi, hz0, hz1, hz2⟩ := info_parts infoStep
  cases sa with
  | none =>
    obtain ⟨h1, h2⟩ := hnil rfl
    subst h1 h2
    obtain rfl : cs = [] := List.eq_nil_of_length_eq_zero hm.symm
    exact wpList_append_own_none hgd s x 27 ho base 86 i 3 Tryd.underlying27 hi v n (stv bs) hs hown hx (h v w (by simpa using hown) (World.grownBy.refl _ _))
  | some ad =>
    refine wpList_append_own w hgd s x 27 ho base 86 i (.agg #[.int .i64 0, .int .i64 0, .int .i64 0]) 3 24 Tryd.underlying27 hi hz0 hz1 hz2 rfl (by decide) v n (stv bs) hs hown ad m cap (stv cs) hx (by rw [stv_len, hm]) (steps_cells hp) (stv_one cs) (by unfold maxLen; omega) hlen hbase ?_
    intro v' w' h1 h2 _
    exact h v' w' (by rw [stv_app]; exact h1) h2
end Go.Proofs.YtbmodfegcmaieaaDoor
