/- The cells of a row of signs. -/
import Derived.Test.YtmpflkggbekpfaaGOwn
namespace Go.Proofs.Ytmpflkggbekpfaa
open Go.RowKit

set_option maxRecDepth 100000 in
theorem signs_cells {w : World} {ad : Addr} {ls : List Sg} (h : SignsAt w (some ad) ls) : ∀ j u, (gv ls)[j]? = some u → w.cell? (ad.add j) = some u := by
  intro j u hu
  have hj : j < ls.length * 4 := by
    rcases Nat.lt_or_ge j (ls.length * 4) with h | h
    · exact h
    · rw [List.getElem?_eq_none (by rw [gv_length]; exact h)] at hu; cases hu
  rcases h.cells with h | ⟨sb, so, e, hc⟩
  · rw [h] at hj; simp at hj
  · cases e
    have hq : j / 4 < ls.length := by omega
    obtain ⟨c0, c1, c2, c3⟩ := hc (j / 4) hq
    have hg := gv_get ls (j / 4) (j % 4) hq (by omega)
    have ej : j / 4 * 4 + j % 4 = j := by omega
    rw [ej, hu] at hg
    rw [add_off, ← ej, ← Nat.add_assoc]
    have h4 : j % 4 < 4 := by omega
    generalize j % 4 = r at *
    match r, h4 with
    | 0, _ => simp [Sg.cs] at hg; rw [hg]; exact c0
    | 1, _ => simp [Sg.cs] at hg; rw [hg]; exact c1
    | 2, _ => simp [Sg.cs] at hg; rw [hg]; exact c2
    | 3, _ => simp [Sg.cs] at hg; rw [hg]; exact c3
set_option maxRecDepth 100000 in
theorem gv_one (ls : List Sg) : ∀ u ∈ gv ls, u.oneCell' = true := by
  induction ls with
  | nil => intro u hu; cases hu
  | cons x r ih =>
    intro u hu
    rcases List.mem_append.1 hu with h | h
    · simp [Sg.cs] at h; rcases h with rfl | rfl | rfl | rfl <;> rfl
    · exact ih u h
end Go.Proofs.Ytmpflkggbekpfaa
