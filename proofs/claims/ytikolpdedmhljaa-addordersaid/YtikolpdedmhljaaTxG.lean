/- Appends of texts, and where the new slice lies. -/
import Derived.Test.YtikolpdedmhljaaTxA
import Derived.Test.YtikolpdedmhljaaGrew
namespace Go.Proofs.Ytikolpdedmhljaa
open Go.RowKit

set_option maxRecDepth 100000 in
theorem wpList_append_txs_at {w : World} {ops : Array Oper} {rest : List Oper} {o : Oper} {a : Act} {Q : Exit → Act → World → Prop} (hgd : o.guard = none) (s x : Operand)
    (ho : o.op = .call { callee := .builtin .append, args := #[s, x], argTypes := #[22, 22] })
    (base : Nat) (v : Value) (n : Nat) (bs : List ByteArray) (hs : a.eval s = v) (hown : w.ownsRow base 9 1 v n (sv bs))
    (sa : Option Addr) (m cap : Nat) (cs : List ByteArray) (hx : a.eval x = .slice sa m cap) (hm : m = cs.length) (hp : TxsAt w sa cap cs)
    (hlen : (n + m) * 16 ≤ 140737488355328) (hbase : base ≤ w.heap.size)
    (h : ∀ v' w', w'.ownsRow base 9 1 v' (n + m) (sv (bs ++ cs)) → Grew w v w' v' → wpList Try.prog ops Q rest (a.put o.dst v') w') : wpList Try.prog ops Q (o :: rest) a w := by
  obtain ⟨i, hi, hz0, hz1, hz2⟩ := info_parts infoStr
  cases sa with
  | none =>
    obtain rfl := hp.nil rfl
    obtain rfl : cs = [] := List.eq_nil_of_length_eq_zero (by have := hp.le; omega)
    subst hm
    exact wpList_append_own_none hgd s x 22 ho base 9 i 1 Try.underlying22 hi v n (sv bs) hs hown hx (h v w (by simpa using hown) (Grew.of (World.grownBy.refl _ _) (.inl rfl)))
  | some ad =>
    refine wpList_append_own_at w hgd s x 22 ho base 9 i (.string ByteArray.empty) 1 16 Try.underlying22 hi hz0 hz1 hz2 rfl (by decide) v n (sv bs) hs hown ad m cap (sv cs) hx (by rw [sv_length, hm]; omega) (txs_cells hp) (sv_one cs) (by unfold maxLen; omega) hlen hbase (fun v' w' h1 h2 _ h4 => h v' w' (by rw [sv_app]; exact h1) (Grew.of h2 h4))
set_option maxRecDepth 100000 in
theorem Grew.txs {w w' : World} {v v' : Value} {sa : Option Addr} {cap : Nat} {ss : List ByteArray} (h : Grew w v w' v') (hs : TxsAt w sa cap ss) (hne : ∀ sb so, sa = some ⟨sb, so, none⟩ → v.ownBlock ≠ some sb) : TxsAt w' sa cap ss := by
  refine ⟨hs.le, hs.max, hs.nil, ⟨?_, hs.strs.size⟩⟩
  rcases hs.strs.cells with hb | ⟨sb, so, rfl, hb⟩
  · exact .inl hb
  · exact .inr ⟨sb, so, rfl, fun j hj => (World.cell?_of_block (h.grown.block sb (block_lt_of_cell (hb j hj)) (fun e => hne sb so rfl e.symm))).trans (hb j hj)⟩
set_option maxRecDepth 100000 in
theorem TxsAt.setCell {w : World} {sa : Option Addr} {cap : Nat} {ss : List ByteArray} (h : TxsAt w sa cap ss) (b j : Nat) (v : Value) (hne : ∀ sb so, sa = some ⟨sb, so, none⟩ → b ≠ sb) : TxsAt (w.setCell ⟨b, j, none⟩ v) sa cap ss := ⟨h.le, h.max, h.nil, h.strs.setCell b j v hne⟩
end Go.Proofs.Ytikolpdedmhljaa
