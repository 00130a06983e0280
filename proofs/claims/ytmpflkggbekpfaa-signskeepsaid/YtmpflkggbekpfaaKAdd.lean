/- seal.Add and seal.Signed with a sign of raw numbers. -/
import Derived.Test.YtmpflkggbekpfaaKSigns
import Derived.Test.YtmpflkggbekpfaaCSgd
import Derived.Test.YtmpflkggbekpfaaMore
namespace Go.Proofs.Ytmpflkggbekpfaa
open Go.RowKit

def kG (nd n m : Int) : GV := (nd, pk n 3, 1 + pk n 5, someL n m)
set_option maxRecDepth 100000 in
theorem kG_ok (nd n m : Int) (h : 0 ≤ nd ∧ nd < 4) : gF (kG nd n m) = 0 := by
  have h3 := pk_bounds n 3 (by decide)
  have h5 := pk_bounds n 5 (by decide)
  have hl := someL_length n m
  simp only [gF, kG, signF, slotF, hl]
  rw [if_neg (by omega), if_neg (by omega), if_neg (by omega)]
set_option maxRecDepth 100000 in
theorem addK_any (ks : List Sg) (ra : Option Addr) (rc : Nat) (nd n m : Int) (b : Nat) (w : World) (hl : ks.length ≤ 2932031007399) (hp : GTab w ra rc ks) (hs : SliceAt w (some ⟨b, 0, none⟩) 32 (someL n m)) (hF : signsF (gvs ks) = 0) (hg : 0 ≤ nd ∧ nd < 4) :
    Calls Try.prog 10 #[.slice ra ks.length rc, .agg #[.int .i64 nd, .int .i64 (pk n 3), .int .i64 (1 + pk n 5), .slice (some ⟨b, 0, none⟩) 32 32]] w fun e w' => ∃ ua uc us, e = .returned (.tuple #[.slice ua (List.length us) uc, .int .i64 0]) ∧ gvs us = more (gvs ks) (kG nd n m) ∧ GTab w' ua uc us ∧ Below w.heap.size w w' := by
  have h := addG_any ks ra _ rc ⟨nd, pk n 3, 1 + pk n 5, ⟨some ⟨b, 0, none⟩, 32, someL n m⟩⟩ w rfl hl hp ⟨hs, someL_u8 n m⟩ hF (kG_ok nd n m hg)
  simp only [someL_length] at h
  exact h
set_option maxRecDepth 100000 in
theorem signedK_any (ks : List Sg) (ra : Option Addr) (rc : Nat) (bad nd n m : Int) (b : Nat) (w : World) (hp : GTab w ra rc ks) (hs : SliceAt w (some ⟨b, 0, none⟩) 32 (someL n m)) :
    Calls Try.prog 11 #[.slice ra ks.length rc, .int .i64 bad, .agg #[.int .i64 nd, .int .i64 (pk n 3), .int .i64 (1 + pk n 5), .slice (some ⟨b, 0, none⟩) 32 32]] w fun e w' => e = .returned (.tuple #[.bool (signedF (gvs ks) bad (kG nd n m)).1, .int .i64 (signedF (gvs ks) bad (kG nd n m)).2]) ∧ Below w.heap.size w w' := by
  have h := signed_any ks ra _ rc bad ⟨nd, pk n 3, 1 + pk n 5, ⟨some ⟨b, 0, none⟩, 32, someL n m⟩⟩ w rfl hp.small hp.slots ⟨hs, someL_u8 n m⟩
  simp only [someL_length] at h
  exact h
set_option maxRecDepth 100000 in
theorem kG_byte {nd n m : Int} {l : List GV} (h : ∀ g ∈ l, g.2.2.2.getD 1 0 = 3) (hm : m % 256 ≠ 3) : ¬ kG nd n m ∈ l := by
  intro hk
  have := h _ hk
  rw [show (kG nd n m).2.2.2 = someL n m from rfl, someL_get] at this
  exact hm this
end Go.Proofs.Ytmpflkggbekpfaa
