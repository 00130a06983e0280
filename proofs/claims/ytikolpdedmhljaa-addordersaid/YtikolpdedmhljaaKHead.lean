/- A list of raw texts behind one that is given; pools of such lists. -/
import Derived.Test.YtikolpdedmhljaaKPool
import Derived.Test.YtikolpdedmhljaaPSeal
namespace Go.Proofs.Ytikolpdedmhljaa
open Go.RowKit

set_option maxRecDepth 100000 in
theorem head_owns (w : World) (x : ByteArray) : (w.alloc (.cells #[.string x] 9)).ownsRow w.heap.size 9 1 (.slice (some ⟨w.heap.size, 0, none⟩) 1 1) 1 (sv [x]) := by
  have hO := World.ownsRow_lit (base := w.heap.size) (e := 9) (size := 1) w (sv [x]).toArray 1 (Nat.le_refl _) (by decide) rfl
  simpa [sv] using hO
set_option maxRecDepth 100000 in
theorem head_size {x : ByteArray} {ss : List ByteArray} (hx : x.size ≤ maxLen) (h : ∀ s ∈ ss, s.size ≤ maxLen) : ∀ s ∈ [x] ++ ss, s.size ≤ maxLen := by
  intro s hs
  rcases List.mem_append.1 hs with g | g
  · rw [show s = x by simpa using g]; exact hx
  · exact h s g
set_option maxRecDepth 100000 in
theorem sealF_zero {nx au : Int} {ss : List ByteArray} (h1 : 1 ≤ nx) (h2 : nx ≤ 1048576) (h3 : ss.length ≤ 40) (h4 : poolOk ss = true) (h5 : ss.length ≠ 0) (h6 : 0 ≤ au ∧ au < 4) : sealF nx ss au = 0 := by
  rw [sealF, if_pos (poolF_zero h1 (by omega) h3 h4), sealsF, if_neg (by omega), if_neg h5, if_neg (by omega)]
set_option maxRecDepth 100000 in
theorem sealF_none {nx au : Int} {ss : List ByteArray} (h1 : 1 ≤ nx) (h2 : nx ≤ 1048577) (h4 : poolOk ss = true) (h5 : ss.length = 0) (h6 : 0 ≤ au ∧ au < 4) : sealF nx ss au = 8 := by
  rw [sealF, if_pos (poolF_zero h1 (by omega) (by omega) h4), sealsF, if_neg (by omega), if_pos h5]
set_option maxRecDepth 100000 in
theorem sealF_node {nx au : Int} {ss : List ByteArray} (h1 : 1 ≤ nx) (h2 : nx ≤ 1048577) (h3 : ss.length ≤ 40) (h4 : poolOk ss = true) (h6 : ¬ (0 ≤ au ∧ au < 4)) : sealF nx ss au = 2 := by
  rw [sealF, if_pos (poolF_zero h1 h2 h3 h4), sealsF, if_pos h6]
set_option maxRecDepth 100000 in
theorem sealF_last {au : Int} {ss : List ByteArray} (h3 : ss.length ≤ 40) (h4 : poolOk ss = true) (h5 : ss.length ≠ 0) (h6 : 0 ≤ au ∧ au < 4) : sealF 1048577 ss au = 6 := by
  rw [sealF, if_pos (poolF_zero (by omega) (by omega) h3 h4), sealsF, if_neg (by omega), if_neg h5, if_pos (by omega)]
set_option maxRecDepth 100000 in
/-- Seal, where it is done. -/
theorem seal_good (nx : Int) (sa : Option Addr) (n cap : Nat) (ss : List ByteArray) (au : Int) (w : World) (hn : n = ss.length) (hs : TxsAt w sa cap ss) (hF : sealF nx ss au = 0) (hz : ∀ s ∈ ss, s.size ≤ maxLen) :
    Calls Try.prog 19 #[.agg #[.int .i64 nx, .slice sa n cap], .int .i64 au] w fun e w' => ∃ xa xc ba bc, e = .returned (.tuple #[.agg #[.int .i64 (nx + 1), .slice xa (ss.drop 4).length xc], .agg #[.int .i64 au, .int .i64 nx, .slice ba (ss.take 4).length bc], .int .i64 0]) ∧ TxsAt w' xa xc (ss.drop 4) ∧ TxsAt w' ba bc (ss.take 4) ∧ Below w.heap.size w w' := by
  refine (poolSeal_any nx sa n cap ss au w hn hs).mono ?_
  rintro e w' ⟨v, u, he, h1, h2, h3⟩
  rw [sealN, sealA, sealNo, if_pos hF, if_pos hF, if_pos hF, hF] at he
  rw [sealP, if_pos hF] at h1
  rw [sealB, if_pos hF] at h2
  obtain ⟨xa, xc, hv, _, hx, _⟩ := txsAt_of_owns h1 (fun s hs => hz s (List.mem_of_mem_drop hs))
  obtain ⟨ba, bc, hu, _, hb, _⟩ := txsAt_of_owns h2 (fun s hs => hz s (List.mem_of_mem_take hs))
  subst hv hu
  exact ⟨xa, xc, ba, bc, he, hx, hb, h3⟩
set_option maxRecDepth 100000 in
/-- Seal, where it is refused. -/
theorem seal_bad (nx : Int) (sa : Option Addr) (n cap : Nat) (ss : List ByteArray) (au : Int) (w : World) (er : Int) (hn : n = ss.length) (hs : TxsAt w sa cap ss) (hF : sealF nx ss au = er) (h0 : er ≠ 0) :
    Calls Try.prog 19 #[.agg #[.int .i64 nx, .slice sa n cap], .int .i64 au] w fun e w' => ∃ xa xc ba bc, e = .returned (.tuple #[.agg #[.int .i64 0, .slice xa 0 xc], .agg #[.int .i64 0, .int .i64 0, .slice ba 0 bc], .int .i64 er]) ∧ Below w.heap.size w w' := by
  refine (poolSeal_any nx sa n cap ss au w hn hs).mono ?_
  rintro e w' ⟨v, u, he, h1, h2, h3⟩
  subst hF
  rw [sealN, sealA, sealNo, if_neg h0, if_neg h0, if_neg h0] at he
  rw [sealP, if_neg h0] at h1
  rw [sealB, if_neg h0] at h2
  obtain ⟨xa, xc, hv⟩ := owns_shape h1
  obtain ⟨ba, bc, hu⟩ := owns_shape h2
  subst hv hu
  exact ⟨xa, xc, ba, bc, he, h3⟩
set_option maxRecDepth 100000 in
/-- Add, where it is done. -/
theorem add_good (nx : Int) (sa : Option Addr) (n cap : Nat) (ss : List ByteArray) (t : ByteArray) (w : World) (hn : n = ss.length) (hs : TxsAt w sa cap ss) (ht : t.size ≤ maxLen) (hF : addF nx ss t = 0) (hz : ∀ s ∈ ss, s.size ≤ maxLen) :
    Calls Try.prog 16 #[.agg #[.int .i64 nx, .slice sa n cap], .string t] w fun e w' => ∃ xa xc, e = .returned (.tuple #[.agg #[.int .i64 nx, .slice xa (ss ++ [t]).length xc], .int .i64 0]) ∧ TxsAt w' xa xc (ss ++ [t]) ∧ Below w.heap.size w w' := by
  refine (poolAdd_any nx sa n cap ss t w hn hs ht).mono ?_
  rintro e w' ⟨v, he, h1, h3⟩
  rw [addN, if_pos hF, hF] at he
  rw [addS, if_pos hF] at h1
  obtain ⟨xa, xc, hv, _, hx, _⟩ := txsAt_of_owns h1 (fun s hs => by
    rcases List.mem_append.1 hs with g | g
    · exact hz s g
    · rw [show s = t by simpa using g]; exact ht)
  subst hv
  exact ⟨xa, xc, he, hx, h3⟩
set_option maxRecDepth 100000 in
/-- Add, where it is refused. -/
theorem add_bad (nx : Int) (sa : Option Addr) (n cap : Nat) (ss : List ByteArray) (t : ByteArray) (w : World) (er : Int) (hn : n = ss.length) (hs : TxsAt w sa cap ss) (ht : t.size ≤ maxLen) (hF : addF nx ss t = er) (h0 : er ≠ 0) :
    Calls Try.prog 16 #[.agg #[.int .i64 nx, .slice sa n cap], .string t] w fun e w' => ∃ xa xc, e = .returned (.tuple #[.agg #[.int .i64 0, .slice xa 0 xc], .int .i64 er]) ∧ Below w.heap.size w w' := by
  refine (poolAdd_any nx sa n cap ss t w hn hs ht).mono ?_
  rintro e w' ⟨v, he, h1, h3⟩
  subst hF
  rw [addN, if_neg h0] at he
  rw [addS, if_neg h0] at h1
  obtain ⟨xa, xc, hv⟩ := owns_shape h1
  subst hv
  exact ⟨xa, xc, he, h3⟩
end Go.Proofs.Ytikolpdedmhljaa
