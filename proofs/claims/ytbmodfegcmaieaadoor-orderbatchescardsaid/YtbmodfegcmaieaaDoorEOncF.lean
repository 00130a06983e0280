/- Of each text the first one stays: in plain lists. -/
import Derived.Test.YtbmodfegcmaieaaDoorBstr
namespace Go.Proofs.YtbmodfegcmaieaaDoor
open Go.RowKit

set_option maxRecDepth 100000 in
theorem bstr_sz (bs : List Int) : (bstr bs).size = bs.length := by
  have h := congrArg List.length (bstr_data bs)
  simpa using h
/-- Is a text among them? -/
def inO (s : ByteArray) (ss : List ByteArray) : Bool := ss.any fun x => decide (x = s)
set_option maxRecDepth 100000 in
theorem inO_iff {s : ByteArray} {ss : List ByteArray} : inO s ss = true ↔ s ∈ ss := by simp [inO]
/-- Of each text the first one stays, behind those that stand in acc. -/
def onceS : List ByteArray → List ByteArray → List ByteArray
  | acc, [] => acc
  | acc, s :: r => onceS (bif inO s acc then acc else acc ++ [s]) r
set_option maxRecDepth 100000 in
theorem onceS_snoc (s : ByteArray) : ∀ (l acc : List ByteArray), onceS acc (l ++ [s]) = bif inO s (onceS acc l) then onceS acc l else onceS acc l ++ [s]
  | [], acc => rfl
  | x :: r, acc => by simp only [List.cons_append, onceS]; exact onceS_snoc s r _
set_option maxRecDepth 100000 in
theorem onceS_len : ∀ (l acc : List ByteArray), (onceS acc l).length ≤ acc.length + l.length
  | [], acc => by simp [onceS]
  | x :: r, acc => by
    have h := onceS_len r (bif inO x acc then acc else acc ++ [x])
    simp only [onceS, List.length_cons]
    cases hx : inO x acc
    · simp only [hx, cond_false, List.length_append, List.length_cons, List.length_nil] at h ⊢; omega
    · simp only [hx, cond_true] at h ⊢; omega
set_option maxRecDepth 100000 in
theorem onceS_mem : ∀ (l acc : List ByteArray) (s : ByteArray), s ∈ onceS acc l → s ∈ acc ∨ s ∈ l
  | [], _, _, h => .inl h
  | x :: r, acc, s, h => by
    rcases onceS_mem r _ s h with h | h
    · cases hx : inO x acc
      case true => rw [hx] at h; exact .inl h
      case false =>
        rw [hx] at h
        rcases List.mem_append.1 h with h | h
        · exact .inl h
        · simp at h; subst h; exact .inr (by simp)
    · exact .inr (by simp [h])
set_option maxRecDepth 100000 in
theorem onceS_sub : ∀ (l acc : List ByteArray) (s : ByteArray), (s ∈ acc ∨ s ∈ l) → s ∈ onceS acc l
  | [], _, _, h => by
    rcases h with h | h
    · exact h
    · cases h
  | x :: r, acc, s, h => by
    refine onceS_sub r _ s ?_
    cases hx : inO x acc
    · rcases h with h | h
      · exact .inl (List.mem_append.2 (.inl h))
      · rcases List.mem_cons.1 h with h | h
        · subst h; exact .inl (List.mem_append.2 (.inr (by simp)))
        · exact .inr h
    · rcases h with h | h
      · exact .inl h
      · rcases List.mem_cons.1 h with h | h
        · subst h; exact .inl (inO_iff.1 hx)
        · exact .inr h
set_option maxRecDepth 100000 in
theorem onceS_nodup : ∀ (l acc : List ByteArray), acc.Nodup → (onceS acc l).Nodup
  | [], _, h => h
  | x :: r, acc, h => by
    refine onceS_nodup r _ ?_
    cases hx : inO x acc
    · show (acc ++ [x]).Nodup
      rw [List.nodup_append]
      refine ⟨h, by simp, ?_⟩
      intro a ha b hb e
      obtain rfl : b = x := by simpa using hb
      subst e
      rw [inO_iff.2 ha] at hx; cases hx
    · exact h
set_option maxRecDepth 100000 in
theorem onceS_iff (l : List ByteArray) (s : ByteArray) : s ∈ onceS [] l ↔ s ∈ l := by
  constructor
  · intro h
    rcases onceS_mem l [] s h with h | h
    · cases h
    · exact h
  · intro h; exact onceS_sub l [] s (.inr h)
set_option maxRecDepth 100000 in
theorem once_len {a b : List ByteArray} (ha : a.Nodup) (hb : b.Nodup) (h : ∀ s, s ∈ a ↔ s ∈ b) : a.length = b.length := ((List.perm_ext_iff_of_nodup ha hb).2 h).length_eq
end Go.Proofs.YtbmodfegcmaieaaDoor
