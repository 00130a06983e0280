/- P7.2 and P7.3 as functions on lists of texts. -/
import Derived.Test.YtikolpdedmhljaaPTak
namespace Go.Proofs.Ytikolpdedmhljaa
open Go.RowKit

set_option maxRecDepth 100000 in
theorem poolF_cases (nx : Int) (ss : List ByteArray) : poolF nx ss = 0 ∨ poolF nx ss = 12 := by
  unfold poolF; split
  · exact .inr rfl
  · split
    · exact .inl rfl
    · exact .inr rfl
/-- P7.2: the error. -/
def addF (nx : Int) (ss : List ByteArray) (t : ByteArray) : Int := if poolF nx ss = 0 then takesF ss t else 12
/-- P7.2: the transactions behind it. -/
def addS (nx : Int) (ss : List ByteArray) (t : ByteArray) : List ByteArray := if addF nx ss t = 0 then ss ++ [t] else []
def addN (nx : Int) (ss : List ByteArray) (t : ByteArray) : Int := if addF nx ss t = 0 then nx else 0
/-- P7.3: the error. -/
def sealF (nx : Int) (ss : List ByteArray) (au : Int) : Int := if poolF nx ss = 0 then sealsF nx ss au else 12
/-- P7.3: the batch, and what waits behind it. -/
def sealB (nx : Int) (ss : List ByteArray) (au : Int) : List ByteArray := if sealF nx ss au = 0 then ss.take 4 else []
def sealP (nx : Int) (ss : List ByteArray) (au : Int) : List ByteArray := if sealF nx ss au = 0 then ss.drop 4 else []
def sealN (nx : Int) (ss : List ByteArray) (au : Int) : Int := if sealF nx ss au = 0 then nx + 1 else 0
def sealA (nx : Int) (ss : List ByteArray) (au : Int) : Int := if sealF nx ss au = 0 then au else 0
def sealNo (nx : Int) (ss : List ByteArray) (au : Int) : Int := if sealF nx ss au = 0 then nx else 0
/-- What Add gives: P7.2. -/
structure AddAt (w w' : World) (e : Ending) (nx : Int) (ss : List ByteArray) (t : ByteArray) : Prop where
  out : ∃ v, e = .returned (.tuple #[.agg #[.int .i64 (addN nx ss t), v], .int .i64 (addF nx ss t)]) ∧ w'.ownsRow w.heap.size 9 1 v (addS nx ss t).length (sv (addS nx ss t)) ∧ Below w.heap.size w w'
set_option maxRecDepth 100000 in
theorem AddAt.bad {w w' : World} {nx er : Int} {ss : List ByteArray} {t : ByteArray} (hF : addF nx ss t = er) (h0 : er ≠ 0) (hb : Below w.heap.size w w') : AddAt w w' (.returned (.tuple #[.agg #[.int .i64 0, .slice none 0 0], .int .i64 er])) nx ss t := by
  subst hF
  refine ⟨.slice none 0 0, ?_, ?_, hb⟩
  · rw [addN, if_neg h0]
  · rw [addS, if_neg h0]; exact World.ownsRow_nil _ _ _ _
set_option maxRecDepth 100000 in
theorem AddAt.good {w w' : World} {nx : Int} {ss : List ByteArray} {t : ByteArray} {v : Value} {k : Nat} (hF : addF nx ss t = 0) (hk : k = ss.length + 1) (ho : w'.ownsRow w.heap.size 9 1 v k (sv (ss ++ [t]))) (hb : Below w.heap.size w w') : AddAt w w' (.returned (.tuple #[.agg #[.int .i64 nx, v], .int .i64 0])) nx ss t := by
  subst hk
  refine ⟨v, ?_, ?_, hb⟩
  · rw [addN, if_pos hF, hF]
  · rw [addS, if_pos hF, List.length_append]; exact ho
/-- What Seal gives: P7.3. -/
structure SealAt (w w' : World) (e : Ending) (nx : Int) (ss : List ByteArray) (au : Int) : Prop where
  out : ∃ v u, e = .returned (.tuple #[.agg #[.int .i64 (sealN nx ss au), v], .agg #[.int .i64 (sealA nx ss au), .int .i64 (sealNo nx ss au), u], .int .i64 (sealF nx ss au)]) ∧ w'.ownsRow w.heap.size 9 1 v (sealP nx ss au).length (sv (sealP nx ss au)) ∧ w'.ownsRow w.heap.size 9 1 u (sealB nx ss au).length (sv (sealB nx ss au)) ∧ Below w.heap.size w w'
set_option maxRecDepth 100000 in
theorem SealAt.bad {w w' : World} {nx er au : Int} {ss : List ByteArray} (hF : sealF nx ss au = er) (h0 : er ≠ 0) (hb : Below w.heap.size w w') : SealAt w w' (.returned (.tuple #[.agg #[.int .i64 0, .slice none 0 0], .agg #[.int .i64 0, .int .i64 0, .slice none 0 0], .int .i64 er])) nx ss au := by
  subst hF
  refine ⟨.slice none 0 0, .slice none 0 0, ?_, ?_, ?_, hb⟩
  · rw [sealN, sealA, sealNo, if_neg h0, if_neg h0, if_neg h0]
  · rw [sealP, if_neg h0]; exact World.ownsRow_nil _ _ _ _
  · rw [sealB, if_neg h0]; exact World.ownsRow_nil _ _ _ _
set_option maxRecDepth 100000 in
theorem SealAt.good {w w' : World} {nx au : Int} {ss : List ByteArray} {v u : Value} {k m : Nat} (hF : sealF nx ss au = 0) (hk : k = (ss.drop 4).length) (hm : m = (ss.take 4).length) (ho : w'.ownsRow w.heap.size 9 1 v k (sv (ss.drop 4))) (ho2 : w'.ownsRow w.heap.size 9 1 u m (sv (ss.take 4))) (hb : Below w.heap.size w w') : SealAt w w' (.returned (.tuple #[.agg #[.int .i64 (nx + 1), v], .agg #[.int .i64 au, .int .i64 nx, u], .int .i64 0])) nx ss au := by
  subst hk hm
  refine ⟨v, u, ?_, ?_, ?_, hb⟩
  · rw [sealN, sealA, sealNo, if_pos hF, if_pos hF, if_pos hF, hF]
  · rw [sealP, if_pos hF]; exact ho
  · rw [sealB, if_pos hF]; exact ho2
set_option maxRecDepth 100000 in
theorem addF_bad {nx : Int} {ss : List ByteArray} {t : ByteArray} (h : poolF nx ss ≠ 0) : addF nx ss t = 12 := by rw [addF, if_neg h]
set_option maxRecDepth 100000 in
theorem addF_good {nx : Int} {ss : List ByteArray} {t : ByteArray} (h : poolF nx ss = 0) : addF nx ss t = takesF ss t := by rw [addF, if_pos h]
set_option maxRecDepth 100000 in
theorem sealF_bad {nx au : Int} {ss : List ByteArray} (h : poolF nx ss ≠ 0) : sealF nx ss au = 12 := by rw [sealF, if_neg h]
set_option maxRecDepth 100000 in
theorem sealF_good {nx au : Int} {ss : List ByteArray} (h : poolF nx ss = 0) : sealF nx ss au = sealsF nx ss au := by rw [sealF, if_pos h]
set_option maxRecDepth 100000 in
theorem poolF_len {nx : Int} {ss : List ByteArray} (h : poolF nx ss = 0) : 1 ≤ nx ∧ nx ≤ 1048577 ∧ ss.length ≤ 40 ∧ poolOk ss = true := by
  unfold poolF at h
  split at h
  · cases h
  · rename_i h1
    split at h
    · rename_i h2
      exact ⟨by omega, by omega, by omega, h2⟩
    · cases h
set_option maxRecDepth 100000 in
theorem poolF_zero {nx : Int} {ss : List ByteArray} (h1 : 1 ≤ nx) (h2 : nx ≤ 1048577) (h3 : ss.length ≤ 40) (h4 : poolOk ss = true) : poolF nx ss = 0 := by
  rw [poolF, if_neg (by omega), if_pos h4]
end Go.Proofs.Ytikolpdedmhljaa
