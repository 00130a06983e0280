/- What Insert tells of a certificate whose author has one of that round. -/
import Derived.Test.YtbmodfegcmaieaaDoorGGrowG
namespace Go.Proofs.YtbmodfegcmaieaaDoor
open Go.RowKit

set_option maxRecDepth 100000 in
theorem insE_twice {l : List CV} {c : CV} (hd : dagF l = 0) (hf : c.f = 0) (hc : 0 ≤ cOf l c.au c.rd) : insE l c = 7 := by
  rw [insE, if_neg (fun g => g hd), if_neg (fun g => g hf), takF, if_pos hc, if_pos (by decide)]
set_option maxRecDepth 100000 in
theorem digF_one32 {p : Part} (hd : p.bs.length = 32) : digF [p] = 0 := by
  show digTo1 _ 1 = 0
  have e : digAt [p] 0 = 0 := by
    rw [digAt, if_neg, if_neg]
    · simp [twice]
    · simp [partAt, hd]
  rw [digTo1, digTo1, if_neg (by decide)]
  exact e
set_option maxRecDepth 100000 in
theorem headerF_one {au rd : Int} {bl pl : List Part} {p : Part} (h : headerF au rd bl pl = 0) (hd : p.bs.length = 32) : headerF au rd [p] pl = 0 := by
  unfold headerF at h ⊢
  split at h
  · cases h
  rename_i h1
  split at h
  · cases h
  rename_i h2
  split at h
  · rename_i h3
    exact absurd h h3
  split at h
  · rename_i h4
    exact absurd h h4
  rename_i h4
  rw [if_neg h1, if_neg (by simp; simp at h2; omega), if_neg (fun g => g (digF_one32 hd)), if_neg h4]
  exact h
set_option maxRecDepth 100000 in
theorem certF_one {c : CV} (h : c.f = 0) {d : List Int} (hd : d.length = 32) : CV.f ⟨c.au, c.rd, [d], c.pl, c.vl⟩ = 0 := by
  have h1 := certF_head (vl := c.vl) h
  have h2 : headerF c.au c.rd (pz [d]) (pz c.pl) = 0 := headerF_one (p := ⟨none, 0, d⟩) h1 hd
  show certF c.au c.rd (pz [d]) (pz c.pl) c.vl = 0
  have h3 : certF c.au c.rd (pz c.bl) (pz c.pl) c.vl = 0 := h
  rw [certF, if_neg (fun g => g h1)] at h3
  rw [certF, if_neg (fun g => g h2)]
  exact h3
set_option maxRecDepth 100000 in
theorem in_err {B : Nat} {w' : World} {e : Ending} {l : List CV} {c : CV} {x : Int} (h : InAt B w' e l c) (hx : insE l c = x) (h0 : x ≠ 0) : e = .returned (.tuple #[.agg #[.slice none 0 0], .int .i64 x]) := by
  rcases h with ⟨_, he⟩ | ⟨h, _⟩
  · rw [← hx]; exact he
  · rw [hx] at h; exact absurd h h0
set_option maxRecDepth 100000 in
theorem in_ok {B : Nat} {w' : World} {e : Ending} {l : List CV} {c : CV} (h : InAt B w' e l c) (h0 : insE l c = 0) : ∃ ra rc ks, e = .returned (.tuple #[.agg #[.slice ra (List.length ks) rc], .int .i64 0]) ∧ cvs ks = l ++ [c] ∧ DagAt w' ra rc ks ∧ (∀ sb so, ra = some ⟨sb, so, none⟩ → B ≤ sb) ∧ ∀ k ∈ ks, ∀ q, CtIn k q → B ≤ q := by
  rcases h with ⟨h, _⟩ | ⟨_, h⟩
  · exact absurd h0 h
  · exact h
set_option maxRecDepth 100000 in
theorem list_lit1 {w : World} {b cap : Nat} {sa : Option Addr} {bs : List Int} (h : w.heap[b]? = some (.cells #[.slice sa bs.length cap] 46 (0, 0))) (hs : SliceAt w sa cap bs) : ListAt w (some ⟨b, 0, none⟩) 1 [⟨sa, cap, bs⟩] := by
  refine ⟨Nat.le_refl _, by decide, (show (1 : Nat) ≤ _ by decide), .inr ⟨b, 0, rfl⟩, ⟨.inr ⟨b, 0, rfl, fun j hj => ?_⟩, fun p hp => ?_⟩⟩
  · obtain rfl : j = 0 := by simp at hj; exact hj
    simpa using cells_at h 0 _ rfl
  · obtain rfl : p = _ := by simpa using hp
    exact hs
set_option maxRecDepth 100000 in
theorem ct_put {w : World} {c : Ct} (h : CtAt w c) (b j : Nat) (v : Value) (hne : ∀ q, CtIn c q → q ≠ b) : CtAt (w.setCell ⟨b, j, none⟩ v) c := h.keep (by simp) (fun q hq => heap_setCell_other _ ⟨b, j, none⟩ q _ (hne q hq))
end Go.Proofs.YtbmodfegcmaieaaDoor
