/- Slices of bytes that are read: what the contracts above blake.Sum speak of. -/
import Derived.Test.YtbmodfegcmaieaaDoorSum
namespace Go.Proofs.YtbmodfegcmaieaaDoor
open Go.RowKit

set_option maxRecDepth 100000 in
theorem digTo8_length (s : List Int) : (digTo s 8).length = 32 := digTo_length s 8
set_option maxRecDepth 100000 in
theorem sumL_length (bs : List Int) : (sumL bs).length = 32 := digTo_length _ 8
set_option maxRecDepth 100000 in
/-- blake.Sum of a slice with room: a new slice of 32 bytes, and OK. -/
theorem sum_ok (bs : List Int) (sa : Option Addr) (n cap : Nat) (w : World) (hn : n = bs.length) (hl : bs.length ≤ 4000) (hs : SliceAt w sa cap bs) (hT : Tabs w) :
    Calls Tryd.prog 84 #[.slice sa n cap] w fun e w' => ∃ b, e = .returned (.tuple #[.slice (some ⟨b, 0, none⟩) 32 32, .int .i64 0]) ∧ w.heap.size ≤ b ∧ Below w.heap.size w w' ∧ SliceAt w' (some ⟨b, 0, none⟩) 32 (sumL bs) := by
  subst hn
  refine (sum_any bs sa cap w hl hs.le hs.max hs.some hs.bytes hT).mono ?_
  rintro e w' ⟨b, rfl, h1, h2, h3⟩
  exact ⟨b, rfl, h1, h2, (sliceAt_of_owns h3).2⟩
end Go.Proofs.YtbmodfegcmaieaaDoor
