/- A batch that may be. -/
import Derived.Test.YtbmodfegcmaieaaDoorStrs
namespace Go.Proofs.YtbmodfegcmaieaaDoor
open Go.RowKit

set_option maxRecDepth 100000 in
theorem batchF_ok {au nu : Int} {ss : List ByteArray} (h : batchF au nu ss = 0) : (0 ≤ au ∧ au < 4) ∧ (1 ≤ nu ∧ nu ≤ 1048576) ∧ (1 ≤ ss.length ∧ ss.length ≤ 4) ∧ ∀ s ∈ ss, 1 ≤ s.size ∧ s.size ≤ 20 := by
  unfold batchF at h
  split at h
  · cases h
  · split at h
    · cases h
    · split at h
      · rename_i h1 h2 h3
        refine ⟨by omega, by omega, by omega, fun s hs => ?_⟩
        have := List.all_eq_true.1 h3 s hs
        simpa [txOk] using this
      · cases h
end Go.Proofs.YtbmodfegcmaieaaDoor
