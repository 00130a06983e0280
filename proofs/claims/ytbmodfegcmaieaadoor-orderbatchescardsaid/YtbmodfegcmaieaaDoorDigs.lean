/- P2.1: what is told of a list of digests; wire.checkDigests, for every list. -/
import Derived.Test.YtbmodfegcmaieaaDoorParts
import Derived.Test.YtbmodfegcmaieaaDoorSx
import Derived.Test.YtbmodfegcmaieaaDoorEqual
namespace Go.Proofs.YtbmodfegcmaieaaDoor
open Go.RowKit

def partAt (ps : List Part) (k : Nat) : Part := ps.getD k ⟨none, 0, []⟩
set_option maxRecDepth 100000 in
theorem partAt_get (ps : List Part) (k : Nat) (h : k < ps.length) : partAt ps k = ps[k] := by simp [partAt, h]
/-- Is the k'th one there already? -/
def twice (ps : List Part) (k : Nat) : Bool := (List.range k).any fun j => decide (txL (partAt ps j).bs = txL (partAt ps k).bs)
def digAt (ps : List Part) (k : Nat) : Int := if (partAt ps k).bs.length ≠ 32 then 4 else if twice ps k then 7 else 0
/-- P2.1, of the first k. -/
def digTo1 (ps : List Part) : Nat → Int
  | 0 => 0
  | k + 1 => if digTo1 ps k ≠ 0 then digTo1 ps k else digAt ps k
def digF (ps : List Part) : Int := digTo1 ps ps.length
set_option maxRecDepth 100000 in
theorem digTo1_stays (ps : List Part) (k m : Nat) (h : digTo1 ps k ≠ 0) (hm : k ≤ m) : digTo1 ps m = digTo1 ps k := by
  induction m with
  | zero => obtain rfl : k = 0 := by omega
            rfl
  | succ m ih =>
    rcases Nat.lt_or_ge k (m + 1) with g | g
    · rw [digTo1, ih (by omega), if_pos h]
    · obtain rfl : k = m + 1 := by omega
      rfl
set_option maxRecDepth 100000 in
theorem digF_at (ps : List Part) (k : Nat) (hk : k < ps.length) (h0 : digTo1 ps k = 0) (h : digAt ps k ≠ 0) : digF ps = digAt ps k := by
  have e : digTo1 ps (k + 1) = digAt ps k := by rw [digTo1, h0]; simp
  rw [digF, digTo1_stays ps (k + 1) ps.length (by rw [e]; exact h) hk, e]

set_option maxRecDepth 100000 in
theorem same_closure (xs ys : List Int) (sa sb : Option Addr) (n m c d g : Nat) (w : World) (hn : n = xs.length) (hm : m = ys.length) (ha : SliceAt w sa c xs) (hb : SliceAt w sb d ys) (hg : w.cell? ⟨g, 0, none⟩ = some (.slice sb m d)) :
    Calls Tryd.prog 110 #[.slice sa n c, .pointer (some ⟨g, 0, none⟩)] w fun e w' => e = .returned (.bool (decide (txL xs = txL ys))) ∧ w = w' := by
  go_enter Tryd.func110, Tryd.ntmps110
  go_wp2_with fail
  refine (equal_any xs ys _ _ _ _ _ _ w (by first | exact hn | rfl) (by first | exact hm | rfl) ha hb).mono ?_
  rintro e w1 ⟨he, rfl⟩
  subst he
  dsimp only
  go_wp2_with fail
  go_ret
  exact ⟨rfl, rfl⟩
end Go.Proofs.YtbmodfegcmaieaaDoor
