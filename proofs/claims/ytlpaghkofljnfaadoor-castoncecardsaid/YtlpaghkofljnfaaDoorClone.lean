/- bytes.Clone: new memory with the same bytes. -/
import Derived.Test.YtlpaghkofljnfaaDoorApp
import Derived.Test.YtlpaghkofljnfaaDoorSx
namespace Go.Proofs.YtlpaghkofljnfaaDoor
open Go.RowKit

set_option maxRecDepth 100000 in
set_option maxHeartbeats 400000 in
theorem clone_any (bs : List Int) (sa : Option Addr) (n cap : Nat) (w : World) (hn : n = bs.length) (hs : SliceAt w sa cap bs) (hl : bs.length ≤ 140737488355328) :
    Calls Tryd.prog 21 #[.slice sa n cap] w fun e w' => ∃ ra rc, e = .returned (.slice ra bs.length rc) ∧ SliceAt w' ra rc bs ∧ (∀ sb so, ra = some ⟨sb, so, none⟩ → w.heap.size ≤ sb ∧ sb < w'.heap.size) ∧ Below w.heap.size w w' := by
  subst hn
  have hle := hs.le
  cases sa with
  | none =>
    have hc := hs.nil rfl
    have hb : bs = [] := List.eq_nil_of_length_eq_zero (by omega)
    subst hc hb
    have he : ∀ w : World, (binOp .eql 33 (.slice none 0 0) (.slice none 0 0)).run Tryd.prog w = .ok (.bool true) w := fun _ => rfl
    go_enter Tryd.func21, Tryd.ntmps21
    go_wp2_with fail
    go_ret
    exact ⟨none, 0, rfl, hs, (fun _ _ e => by cases e), Below.refl _ _⟩
  | some ad =>
    have he : ∀ w : World, (binOp .eql 33 (.slice (some ad) bs.length cap) (.slice none 0 0)).run Tryd.prog w = .ok (.bool false) w := fun _ => rfl
    have hA : Below w.heap.size w (w.alloc (.cells #[] 5)) := (Below.refl _ _).alloc (Nat.le_refl _) _
    go_enter Tryd.func21, Tryd.ntmps21
    go_wp2_with (at_builtin; refine wpList_append_part rfl _ _ rfl w.heap.size _ 0 [] rfl (World.ownsRow_made _ _ 0 (Nat.le_refl _) (by decide) rfl) (some ad) _ cap bs rfl rfl (hs.below hA) (by omega) hA.size ?_; intro v1 w1 ho1 hg1)
    obtain ⟨ra, rc, hv, hl, hsl⟩ := owns_form ho1
    have hlt := ho1.lt
    subst hv
    go_ret
    refine ⟨ra, rc, ?_, by simpa using hsl, (fun sb so e => hlt sb (by rw [e]; rfl)), ?_⟩
    · simp
    · exact Below.grown hA hg1 hA.size (fun q e => (World.ownsRow.lt (World.ownsRow_made (e := 5) (size := 1) w #[] 0 (Nat.le_refl _) (by decide) rfl) q e).1)
end Go.Proofs.YtlpaghkofljnfaaDoor
