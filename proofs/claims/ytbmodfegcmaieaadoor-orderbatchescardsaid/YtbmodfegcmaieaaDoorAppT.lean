/- 'append(b, s...)', s a text, and where the new slice lies. -/
import Derived.Test.YtbmodfegcmaieaaDoorGrew
import Derived.Lib.AppendStr
namespace Go.Proofs.YtbmodfegcmaieaaDoor
open Go.RowKit

/-- The bytes of a text. -/
def tb (s : ByteArray) : List Int := s.data.toList.map fun b => (b.toNat : Int)
set_option maxRecDepth 100000 in
theorem tb_length (s : ByteArray) : (tb s).length = s.size := by simp [tb]
set_option maxRecDepth 100000 in
theorem strCells_tb (s : ByteArray) : Lib.strCells s = ub (tb s) := by simp [Lib.strCells, ub, tb]
set_option maxRecDepth 100000 in
theorem append_str_at (w : World) (ty : TypeId) (base : Nat) (v : Value) (n : Nat) (bs : List Int) (hown : w.ownsRow base 5 1 v n (ub bs)) (s : ByteArray) (hlen : n + s.size ≤ 140737488355328) (hbase : base ≤ w.heap.size) :
    ∃ v' w', (Builtin.append_ #[46, 9] ty #[v, .string s]).run Tryd.prog w = .ok v' w' ∧ w'.ownsRow base 5 1 v' (n + s.size) (ub (bs ++ tb s)) ∧ Grew w v w' v' := by
  obtain ⟨i, hi, hz0, hz1, hz2⟩ := info_parts infoU8
  have hm : n + s.size ≤ maxLen := by unfold maxLen; omega
  obtain ⟨v', w', hr, h2, h3, _⟩ := Lib.run_append_own_string (P := Tryd.prog) w base 46 9 ty 5 i Tryd.underlying46 Tryd.underlying9 hi hz0 hz1 hz2 v n (ub bs) hown s hm hlen hbase
  refine ⟨v', w', hr, by rw [show ub (bs ++ tb s) = ub bs ++ ub (tb s) by simp [ub], ← strCells_tb]; exact h2, ⟨h3, ?_⟩⟩
  intro q hq
  rcases hown.2 with ⟨rfl, hn⟩ | ⟨g, cap, cur, rfl, hg, hgc, h1, h2', h3', h4'⟩
  · subst hn
    have hnil : bs = [] := by have := hown.1; rw [ub_length] at this; exact List.eq_nil_of_length_eq_zero (by omega)
    subst hnil
    obtain ⟨v2, w2, hr2, k2, _, _⟩ := Lib.run_append_own_string (P := Tryd.prog) w w.heap.size 46 9 ty 5 i Tryd.underlying46 Tryd.underlying9 hi hz0 hz1 hz2 (.slice none 0 0) 0 [] (World.ownsRow_nil _ _ _ _) s hm hlen (Nat.le_refl _)
    have e := hr.symm.trans hr2
    cases e
    exact .inr (k2.lt q hq).1
  · by_cases hroom : n + s.size ≤ cap
    · have hr2 := Lib.run_append_room_string (P := Tryd.prog) w 46 9 ty 5 i Tryd.underlying46 Tryd.underlying9 hi hz1 g n cap cur hgc s hroom (by simp at h3'; omega)
      have e := hr.symm.trans hr2
      cases e
      exact .inl hq
    · have holds : ∀ j u, (ub bs)[j]? = some u → w.cell? ((⟨g, 0, none⟩ : Addr).add j) = some u := hown.cells (g := g) rfl
      have hr2 := Lib.run_append_grow_string (P := Tryd.prog) w 46 9 ty 5 i (.int .u8 0) Tryd.underlying46 Tryd.underlying9 hi hz0 ⟨g, 0, none⟩ n cap (ub bs) (by rw [hz1]; simpa using hown.1) holds s (by omega) (by omega) (by rw [hz2]; exact growslice_fits (by omega) (by omega))
      have e := hr.symm.trans hr2
      cases e
      cases hq
      exact .inr (Nat.le_refl _)
set_option maxRecDepth 100000 in
theorem wpList_append_str {w : World} {ops : Array Oper} {rest : List Oper} {o : Oper} {a : Act} {Q : Exit → Act → World → Prop} (hgd : o.guard = none) (sl x : Operand)
    (ho : o.op = .call { callee := .builtin .append, args := #[sl, x], argTypes := #[46, 9] })
    (base : Nat) (v : Value) (n : Nat) (bs : List Int) (hs : a.eval sl = v) (hown : w.ownsRow base 5 1 v n (ub bs)) (s : ByteArray) (hx : a.eval x = .string s) (hlen : n + s.size ≤ 140737488355328) (hbase : base ≤ w.heap.size)
    (h : ∀ v' w', w'.ownsRow base 5 1 v' (n + s.size) (ub (bs ++ tb s)) → Grew w v w' v' → wpList Tryd.prog ops Q rest (a.put o.dst v') w') : wpList Tryd.prog ops Q (o :: rest) a w := by
  refine wpList_plain hgd fun K hK => ?_
  obtain ⟨v', w', hr, h2, h3⟩ := append_str_at w o.type base v n bs hown s hlen hbase
  unfold Oper.wp execOp
  simp only [ho, resolve, invoke, builtin, Sem.run_bind, Sem.run_pure, Result.andThen_ok, List.map_toArray, List.map_cons, List.map_nil, hs, hx, hr]
  exact hK _ _ (h v' w' h2 h3)
set_option maxRecDepth 100000 in
theorem step_append_str {ops : Array Oper} {o : Oper} {a : Act} {w : World} {K : Act → World → Prop} {Q : Exit → Act → World → Prop} {E : Prop} (hgd : o.guard = none) (sl x : Operand)
    (ho : o.op = .call { callee := .builtin .append, args := #[sl, x], argTypes := #[46, 9] })
    (base : Nat) (v : Value) (n : Nat) (bs : List Int) (hs : a.eval sl = v) (hown : w.ownsRow base 5 1 v n (ub bs)) (s : ByteArray) (hx : a.eval x = .string s) (hlen : n + s.size ≤ 140737488355328) (hbase : base ≤ w.heap.size)
    (h : ∀ v' w', w'.ownsRow base 5 1 v' (n + s.size) (ub (bs ++ tb s)) → Grew w v w' v' → K (a.put o.dst v') w') : if Region.wanted o (yielded ops a.tmps) = true then Oper.wp Tryd.prog o a w K Q else E := by
  have hw : Region.wanted o (yielded ops a.tmps) = true := by simp [Region.wanted, hgd]
  rw [if_pos hw]
  obtain ⟨v', w', hr, h2, h3⟩ := append_str_at w o.type base v n bs hown s hlen hbase
  unfold Oper.wp execOp
  simp only [ho, resolve, invoke, builtin, Sem.run_bind, Sem.run_pure, Result.andThen_ok, List.map_toArray, List.map_cons, List.map_nil, hs, hx, hr]
  exact h v' w' h2 h3
end Go.Proofs.YtbmodfegcmaieaaDoor
