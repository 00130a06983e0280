/- Appends of texts onto a row that the call owns. -/
import Derived.Test.YtikolpdedmhljaaPoolF
import Derived.Test.YtikolpdedmhljaaApp
import Derived.Laws.AppendOwnNone
import Derived.Deep.RegionHeld3
namespace Go.Proofs.Ytikolpdedmhljaa
open Go.RowKit

set_option maxRecDepth 100000 in
theorem sv_app (xs ys : List ByteArray) : sv (xs ++ ys) = sv xs ++ sv ys := by simp [sv]
set_option maxRecDepth 100000 in
theorem txs_cells {w : World} {ad : Addr} {cap : Nat} {cs : List ByteArray} (hp : TxsAt w (some ad) cap cs) : ∀ j u, (sv cs)[j]? = some u → w.cell? (ad.add j) = some u := by
  intro j u hu
  rcases hp.strs.cells with hb | ⟨sb, so, e, hb⟩
  · subst hb; simp [sv] at hu
  · cases e
    have hj : j < cs.length := by
      rcases Nat.lt_or_ge j cs.length with g | g
      · exact g
      · rw [List.getElem?_eq_none (by rw [sv_length]; exact g)] at hu; cases hu
    rw [add_off, hb j hj]
    simp [sv, hj] at hu
    simp [hj, hu]
set_option maxRecDepth 100000 in
/-- 'append(l, p...)': l a row that the call owns, p whatever slice of texts, nil too. -/
theorem wpList_append_txs {w : World} {ops : Array Oper} {rest : List Oper} {o : Oper} {a : Act} {Q : Exit → Act → World → Prop} (hgd : o.guard = none) (s x : Operand)
    (ho : o.op = .call { callee := .builtin .append, args := #[s, x], argTypes := #[22, 22] })
    (base : Nat) (v : Value) (n : Nat) (bs : List ByteArray) (hs : a.eval s = v) (hown : w.ownsRow base 9 1 v n (sv bs))
    (sa : Option Addr) (m cap : Nat) (cs : List ByteArray) (hx : a.eval x = .slice sa m cap) (hm : m = cs.length) (hp : TxsAt w sa cap cs)
    (hlen : (n + m) * 16 ≤ 140737488355328) (hbase : base ≤ w.heap.size)
    (h : ∀ v' w', w'.ownsRow base 9 1 v' (n + m) (sv (bs ++ cs)) → w.grownBy w' v.ownBlock → wpList Try.prog ops Q rest (a.put o.dst v') w') : wpList Try.prog ops Q (o :: rest) a w := by
  obtain ⟨i, hi, hz0, hz1, hz2⟩ := info_parts infoStr
  cases sa with
  | none =>
    obtain rfl := hp.nil rfl
    obtain rfl : cs = [] := List.eq_nil_of_length_eq_zero (by have := hp.le; omega)
    subst hm
    exact wpList_append_own_none hgd s x 22 ho base 9 i 1 Try.underlying22 hi v n (sv bs) hs hown hx (h v w (by simpa using hown) (World.grownBy.refl _ _))
  | some ad =>
    refine wpList_append_own w hgd s x 22 ho base 9 i (.string ByteArray.empty) 1 16 Try.underlying22 hi hz0 hz1 hz2 rfl (by decide) v n (sv bs) hs hown ad m cap (sv cs) hx (by rw [sv_length, hm]; omega) (txs_cells hp) (sv_one cs) (by unfold maxLen; omega) hlen hbase (fun v' w' h1 h2 _ => h v' w' (by rw [sv_app]; exact h1) h2)
end Go.Proofs.Ytikolpdedmhljaa
