/- Find of a digest of the dag; of a text that is no digest. -/
import Derived.Test.YtbmodfegcmaieaaDoorQDagP
import Derived.Test.YtbmodfegcmaieaaDoorQDFndC
namespace Go.Proofs.YtbmodfegcmaieaaDoor
open Go.RowKit

set_option maxRecDepth 100000 in
theorem find_at (ks : List Ct) (ka : Option Addr) (kc i : Nat) (p : Part) (w : World) (hF : dagF (cvs ks) = 0) (hV : ∀ x ∈ cvs ks, x.vl = [0, 1, 2]) (hi : i < ks.length) (hd : DagAt w ka kc ks) (hp : SliceAt w p.sa p.cap p.bs) (hpd : p.bs = (cvAt (cvs ks) i).d) (h32 : p.bs.length = 32) (hT : Tabs w) :
    Calls Tryd.prog 38 #[.agg #[.slice ka ks.length kc], .slice p.sa 32 p.cap] w fun e w' => (∃ c : Ct, e = .returned (.tuple #[.agg #[.int .i64 c.au, .int .i64 c.rd, .slice c.ba c.bl.length c.bc, .slice c.pa c.pl.length c.pc, .slice c.va c.vl.length c.vc], .int .i64 0]) ∧ CtAt w' c ∧ Hid ((c.v = cvAt (cvs ks) i ∨ (unlikeC (cvAt (cvs ks) i) c.v ∧ Coll (cvs ks))) ∧ c.v ∈ cvs ks) ∧ ∀ b, CtIn c b → w.heap.size ≤ b) ∧ Below w.heap.size w w' := by
  refine (dagFind_own ks ka _ kc p.bs p.sa 32 p.cap w rfl h32.symm hd hp hT).mono ?_
  intro e w' hO
  refine ⟨?_, hO.below⟩
  have hi' : i < (cvs ks).length := by rw [cvs_length]; exact hi
  rcases hO.out with ⟨ec, _, ⟨hz, _⟩ | ⟨_, hz, _⟩⟩ | ⟨_, _, c, he, hcv, hC, hfr⟩
  · rw [hF] at hz; cases hz
  · have := (pOf_self hi').1
    rw [← hpd] at this; omega
  · refine ⟨c, he, hC, ?_, fun b hb => Nat.le_of_lt (hfr b hb)⟩
    have h := pOf_or hV hi'
    rw [← hpd, ← hcv] at h
    refine ⟨h, ?_⟩
    rw [hcv, hpd]
    obtain ⟨g1, g2, _⟩ := pOf_self hi'
    exact cvAt_mem (by omega)
set_option maxRecDepth 100000 in
theorem pOf_short {l : List CV} {d : List Int} (hu : ∀ x ∈ d, 0 ≤ x ∧ x ≤ 255) (hd : d.length ≠ 32) : pOf l d = -1 := by
  refine fidx_none _ _ (fun j hj => ?_)
  rw [dHit]
  refine decide_eq_false (fun h => hd ?_)
  rw [← txL_inj (CV.d_u8 _) hu h, CV.d_length]
end Go.Proofs.YtbmodfegcmaieaaDoor
