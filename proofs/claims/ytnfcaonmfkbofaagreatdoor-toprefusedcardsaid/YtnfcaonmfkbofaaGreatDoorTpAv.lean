/- Acts, and lists of them that grow (LnSh and LnL without lines.Show). -/
import Derived.Test.YtnfcaonmfkbofaaGreatDoorLnF
import Derived.Test.YtnfcaonmfkbofaaGreatDoorGrew
import Derived.Laws.AppendOwnNone
namespace Go.Proofs.YtnfcaonmfkbofaaGreatDoor
open Go.RowKit

/-- What counts of an act. -/
structure AV where
  k : Int
  n : Int
  p : Int
  t : ByteArray
def AV.z : AV := ⟨0, 0, 0, ByteArray.empty⟩
def AV.e (a : AV) : Int := actF a.k a.n a.p a.t.size
/-- A slice of acts. -/
structure ActsAt (w : World) (sa : Option Addr) (l : List AV) : Prop where
  cells : l = [] ∨ ∃ sb so, sa = some ⟨sb, so, none⟩ ∧ ∀ j, j < l.length → w.cell? ⟨sb, so + j * 4, none⟩ = some (.int .i64 (l.getD j .z).k) ∧ w.cell? ⟨sb, so + j * 4 + 1, none⟩ = some (.int .i64 (l.getD j .z).n) ∧ w.cell? ⟨sb, so + j * 4 + 2, none⟩ = some (.int .i64 (l.getD j .z).p) ∧ w.cell? ⟨sb, so + j * 4 + 3, none⟩ = some (.string (l.getD j .z).t)
  text : ∀ a ∈ l, a.t.size ≤ maxLen
set_option maxRecDepth 100000 in
theorem ActsAt.below {w w' : World} {sa : Option Addr} {l : List AV} (h : ActsAt w sa l) (hb : Below w.heap.size w w') : ActsAt w' sa l := by
  refine ⟨?_, h.text⟩
  rcases h.cells with h | ⟨sb, so, h1, h2⟩
  · exact .inl h
  · refine .inr ⟨sb, so, h1, fun j hj => ?_⟩
    obtain ⟨c0, c1, c2, c3⟩ := h2 j hj
    have hl := block_lt_of_cell c0
    exact ⟨(hb.cell (p := ⟨sb, so + j * 4, none⟩) hl).trans c0, (hb.cell (p := ⟨sb, so + j * 4 + 1, none⟩) hl).trans c1, (hb.cell (p := ⟨sb, so + j * 4 + 2, none⟩) hl).trans c2, (hb.cell (p := ⟨sb, so + j * 4 + 3, none⟩) hl).trans c3⟩
def AV.cs (a : AV) : List Value := [.int .i64 a.k, .int .i64 a.n, .int .i64 a.p, .string a.t]
def avs : List AV → List Value
  | [] => []
  | a :: l => a.cs ++ avs l
set_option maxRecDepth 100000 in
theorem avs_append (a b : List AV) : avs (a ++ b) = avs a ++ avs b := by
  induction a with
  | nil => rfl
  | cons x a ih => simp only [List.cons_append, avs, ih, List.append_assoc]
set_option maxRecDepth 100000 in
theorem avs_length (l : List AV) : (avs l).length = 4 * l.length := by
  induction l with
  | nil => rfl
  | cons a l ih => simp only [avs, List.length_append, List.length_cons, ih]; simp [AV.cs]; omega
set_option maxRecDepth 100000 in
theorem avs_get : ∀ (l : List AV) (j i : Nat), j < l.length → i < 4 → (avs l)[j * 4 + i]? = (l.getD j .z).cs[i]?
  | [], _, _, h, _ => by simp at h
  | a :: l, 0, i, _, hi => by
    simp only [avs, Nat.zero_mul, Nat.zero_add]
    rw [List.getElem?_append_left (by simp [AV.cs]; exact hi)]; rfl
  | a :: l, j + 1, i, h, hi => by
    have h' : j < l.length := by simpa using h
    simp only [avs]
    rw [List.getElem?_append_right (by simp [AV.cs]; omega)]
    have := avs_get l j i h' hi
    have e : (j + 1) * 4 + i - a.cs.length = j * 4 + i := by simp [AV.cs]; omega
    rw [e, this]
    simp
set_option maxRecDepth 100000 in
theorem avs_one (l : List AV) : ∀ u ∈ avs l, u.oneCell' = true := by
  induction l with
  | nil => intro u hu; cases hu
  | cons a l ih =>
    intro u hu
    rcases List.mem_append.1 hu with h | h
    · simp [AV.cs] at h
      rcases h with rfl | rfl | rfl | rfl <;> rfl
    · exact ih u h
set_option maxRecDepth 100000 in
theorem acts_of_owns {w : World} {base n : Nat} {v : Value} {l : List AV} (h : w.ownsRow base 35 4 v n (avs l)) (ht : ∀ a ∈ l, a.t.size ≤ maxLen) : ∃ sa cap, v = .slice sa n cap ∧ n = l.length ∧ n ≤ maxLen ∧ ActsAt w sa l := by
  have hl : n = l.length := by have := h.1; rw [avs_length] at this; omega
  rcases h.2 with ⟨rfl, hn⟩ | ⟨g, cap, cur, rfl, hr⟩
  · have hb : l = [] := List.eq_nil_of_length_eq_zero (by omega)
    subst hn hb
    exact ⟨none, 0, rfl, rfl, by decide, ⟨.inl rfl, fun p hp => by cases hp⟩⟩
  · refine ⟨some ⟨g, 0, none⟩, cap, rfl, hl, ?_, ⟨.inr ⟨g, 0, rfl, fun j hj => ?_⟩, ht⟩⟩
    · obtain ⟨_, _, h1, h2, _⟩ := hr
      exact Nat.le_trans h1 h2
    · have e : ∀ i, i < 4 → w.cell? ⟨g, j * 4 + i, none⟩ = (l.getD j .z).cs[i]? := fun i hi => by rw [World.ownsRow.cellAt h (j * 4 + i) (by omega), avs_get l j i hj hi]
      have e0 := e 0 (by omega)
      have e1 := e 1 (by omega)
      have e2 := e 2 (by omega)
      have e3 := e 3 (by omega)
      simp only [Nat.zero_add]
      exact ⟨e0, e1, e2, e3⟩
set_option maxRecDepth 100000 in
theorem infoA : (Tryz.prog.info? 35).map (fun i => (i.zero, i.size, i.bytes)) = some (some (.agg #[.int .i64 0, .int .i64 0, .int .i64 0, .string ⟨#[]⟩]), 4, 40) := by kernel_rfl
set_option maxRecDepth 100000 in
/-- An act more. -/
theorem wpList_append_act {w : World} {ops : Array Oper} {rest : List Oper} {o : Oper} {a : Act} {Q : Exit → Act → World → Prop} (hgd : o.guard = none) (s x : Operand)
    (ho : o.op = .call { callee := .builtin .append, args := #[s, x], argTypes := #[23, 23] })
    (base : Nat) (v : Value) (n : Nat) (l : List AV) (hs : a.eval s = v) (hown : w.ownsRow base 35 4 v n (avs l)) (g : Nat) (b : AV) (hx : a.eval x = .slice (some ⟨g, 0, none⟩) 1 1) (hg : w.heap[g]? = some (.cells b.cs.toArray 35 (0, 0)))
    (hlen : n + 1 ≤ 3000000000000) (hbase : base ≤ w.heap.size)
    (h : ∀ v' w', w'.ownsRow base 35 4 v' (n + 1) (avs (l ++ [b])) → Grew w v w' v' → wpList Tryz.prog ops Q rest (a.put o.dst v') w') : wpList Tryz.prog ops Q (o :: rest) a w := by
  obtain ⟨i, hi, hz0, hz1, hz2⟩ := info_parts infoA
  refine wpList_append_own_at w hgd s x 23 ho base 35 i _ 4 40 Tryz.underlying23 hi hz0 hz1 hz2 rfl (by decide) v n (avs l) hs hown ⟨g, 0, none⟩ 1 1 b.cs hx rfl ?_ ?_ (by unfold maxLen; omega) (by omega) hbase (fun v' w' h1 h2 _ h4 => h v' w' (by rw [avs_append, show avs [b] = b.cs by simp [avs]]; exact h1) (Grew.of h2 h4))
  · intro j u hu
    rw [add_off, Nat.zero_add, cell_of_row w g j _ _ _ hg]
    simpa using hu
  · intro u hu
    simp [AV.cs] at hu
    rcases hu with rfl | rfl | rfl | rfl <;> rfl
set_option maxRecDepth 100000 in
/-- A list more. -/
theorem wpList_append_acts {w : World} {ops : Array Oper} {rest : List Oper} {o : Oper} {a : Act} {Q : Exit → Act → World → Prop} (hgd : o.guard = none) (s x : Operand)
    (ho : o.op = .call { callee := .builtin .append, args := #[s, x], argTypes := #[23, 23] })
    (base : Nat) (v : Value) (n : Nat) (l : List AV) (hs : a.eval s = v) (hown : w.ownsRow base 35 4 v n (avs l)) (b2 : Nat) (u : Value) (m : Nat) (l2 : List AV) (hx : a.eval x = u) (h2 : w.ownsRow b2 35 4 u m (avs l2))
    (hlen : n + m ≤ 3000000000000) (hbase : base ≤ w.heap.size)
    (h : ∀ v' w', w'.ownsRow base 35 4 v' (n + m) (avs (l ++ l2)) → Grew w v w' v' → wpList Tryz.prog ops Q rest (a.put o.dst v') w') : wpList Tryz.prog ops Q (o :: rest) a w := by
  obtain ⟨i, hi, hz0, hz1, hz2⟩ := info_parts infoA
  have hm := h2.1
  rw [avs_length] at hm
  rcases h2.2 with ⟨rfl, hn⟩ | ⟨g, cap, cur, rfl, hr⟩
  · obtain rfl : l2 = [] := List.eq_nil_of_length_eq_zero (by omega)
    subst hn
    exact wpList_append_own_none hgd s x 23 ho base 35 i 4 Tryz.underlying23 hi v n (avs l) hs hown hx (h v w (by simpa using hown) (Grew.of (World.grownBy.refl _ _) (.inl rfl)))
  · refine wpList_append_own_at w hgd s x 23 ho base 35 i _ 4 40 Tryz.underlying23 hi hz0 hz1 hz2 rfl (by decide) v n (avs l) hs hown ⟨g, 0, none⟩ m cap (avs l2) hx (by rw [avs_length]; omega) ?_ (avs_one l2) (by unfold maxLen; omega) (by omega) hbase (fun v' w' h1 h2 _ h4 => h v' w' (by rw [avs_append]; exact h1) (Grew.of h2 h4))
    exact h2.cells (g := g) rfl
end Go.Proofs.YtnfcaonmfkbofaaGreatDoor
