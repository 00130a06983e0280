/- A message that is a certificate and nothing more: wire.Check says what wire.CheckCert says; its bytes. -/
import Derived.Test.YtcecjdoabnhcgaaOffM
import Derived.Test.YtcecjdoabnhcgaaEncP
namespace Go.Proofs.Ytcecjdoabnhcgaa
open Go.RowKit

def proofM (fr tt au rd : Int) (ba : Option Addr) (bn bc : Nat) (pa : Option Addr) (pn pc : Nat) (va : Option Addr) (vn vc : Nat) : Msg := ⟨fr, tt, 4, 0, 0, 0, 0, 0, 0, au, rd, 0, none, none, none, none, ba, pa, va, 0, 0, 0, 0, 0, 0, 0, 0, bn, bc, pn, pc, vn, vc⟩
set_option maxRecDepth 100000 in
theorem proofM_check (fr tt au rd : Int) (ba : Option Addr) (bn bc : Nat) (pa : Option Addr) (pn pc : Nat) (va : Option Addr) (vn vc : Nat) (e : Int) (hf : 0 ≤ fr ∧ fr < 4) (ht : 0 ≤ tt ∧ tt < 4) : checkF (proofM fr tt au rd ba bn bc pa pn pc va vn vc) e = e := by
  by_cases h : e = 0
  · simp [checkF, strip, msgEmpty, proofM, hf, ht, h]
  · simp [checkF, proofM, hf, ht, h]
set_option maxRecDepth 100000 in
theorem check_proof (fr tt au rd : Int) (ba : Option Addr) (bn bc : Nat) (bl : List Part) (pa : Option Addr) (pn pc : Nat) (pl : List Part) (va : Option Addr) (vn vc : Nat) (vl : List Int) (w : World) (hf : 0 ≤ fr ∧ fr < 4) (ht : 0 ≤ tt ∧ tt < 4) (hbn : bn = bl.length) (hpn : pn = pl.length) (hvn : vn = vl.length) (hvl : vl.length ≤ 1000) (hb : ListAt w ba bc bl) (hp : ListAt w pa pc pl) (hv : IntsAt w va vl) :
    Calls Try.prog 18 #[.agg #[.int .i64 fr, .int .i64 tt, .int .i64 4, .int .i64 0, .int .i64 0, .slice none 0 0, .int .i64 0, .int .i64 0, .slice none 0 0, .slice none 0 0, .int .i64 0, .int .i64 0, .slice none 0 0, .int .i64 au, .int .i64 rd, .slice ba bn bc, .slice pa pn pc, .slice va vn vc, .int .i64 0]] w fun e w' => e = .returned (.int .i64 (certF au rd bl pl vl)) ∧ Below w.heap.size w w' := by
  have h := check_of (proofM fr tt au rd ba bn bc pa pn pc va vn vc) (certF au rd bl pl vl) w (fun _ => by simp [proofM]) (fun w1 hb1 => carry_proof (proofM fr tt au rd ba bn bc pa pn pc va vn vc) bl pl vl w1 rfl hbn hpn hvn (by omega) (hb.below hb1) (hp.below hb1) (hv.below hb1))
  rw [proofM_check _ _ _ _ _ _ _ _ _ _ _ _ _ _ hf ht] at h
  exact h
set_option maxRecDepth 100000 in
/-- The bytes of a certificate that may be, as a message has them. -/
theorem encode_p (fr tt au rd : Int) (ba : Option Addr) (bn bc : Nat) (bl : List Part) (pa : Option Addr) (pn pc : Nat) (pl : List Part) (va : Option Addr) (vn vc : Nat) (vl : List Int) (w : World) (hf : 0 ≤ fr ∧ fr < 4) (ht : 0 ≤ tt ∧ tt < 4) (hbn : bn = bl.length) (hpn : pn = pl.length) (hvn : vn = vl.length) (hb : ListAt w ba bc bl) (hp : ListAt w pa pc pl) (hOb : Off w (.slice none 0 0) ba bl) (hOp : Off w (.slice none 0 0) pa pl) (hI : IntsAt w va vl) (hvb : ∀ sb so, va = some ⟨sb, so, none⟩ → sb < w.heap.size) (hF : headerF au rd bl pl = 0) (hC : certF au rd bl pl vl = 0) (hvl : vl.length ≤ 4) (hv4 : ∀ x ∈ vl, 0 ≤ x ∧ x < 4) :
    Calls Try.prog 21 #[.agg #[.int .i64 fr, .int .i64 tt, .int .i64 4, .int .i64 0, .int .i64 0, .slice none 0 0, .int .i64 0, .int .i64 0, .slice none 0 0, .slice none 0 0, .int .i64 0, .int .i64 0, .slice none 0 0, .int .i64 au, .int .i64 rd, .slice ba bn bc, .slice pa pn pc, .slice va vn vc, .int .i64 0]] w fun e w' => ∃ v, e = .returned (.tuple #[v, .int .i64 0]) ∧ w'.ownsRow w.heap.size 5 1 v (3 + (certB au rd bl pl vl).length) (ub ([4, fr, tt] ++ certB au rd bl pl vl)) ∧ Below w.heap.size w w' := by
  obtain ⟨h1, h2, h3, h4, h5, h6⟩ := headerF_ok hF
  have h := encode_proof (proofM fr tt au rd ba bn bc pa pn pc va vn vc) bl pl vl w rfl hf ht h1 ⟨by show 0 ≤ rd; omega, h2.2⟩ hbn hpn (by omega) h4 h5 h6 hb hp hOb hOp hvn hvl hv4 hI hvb (fun w1 hb1 => by
    have := check_proof fr tt au rd ba bn bc bl pa pn pc pl va vn vc vl w1 hf ht hbn hpn hvn (by omega) (hb.below hb1) (hp.below hb1) (hI.below hb1)
    rw [hC] at this
    exact this)
  exact h
end Go.Proofs.Ytcecjdoabnhcgaa
