/- What the reading of an argument that is a list of lists of bytes gives the walks. -/
import Derived.Test.YtjlhglaebkhhdaaOpenLs
import Derived.Test.YtjlhglaebkhhdaaHCopy
import Derived.Deep.Strs
namespace Go.Proofs.Ytjlhglaebkhhdaa
open Go.ChangeShapes Go.WideShapes Go.ChangeAt Go.RowKit Go.Deep

set_option maxRecDepth 100000 in
theorem cHeader : Try.prog.cellsOf 27 = 4 := by kernel_rfl
set_option maxRecDepth 100000 in
theorem cIntL : Try.prog.cellsOf 3 = 1 := by kernel_rfl
set_option maxRecDepth 100000 in
theorem cLists : Try.prog.cellsOf 25 = 1 := by kernel_rfl
set_option maxRecDepth 100000 in
theorem open_header_cells {H : Type} {enc : TypeId × Value → H} {W : World} {fuel : Nat} {cs : List Value} {x : DataW H × List MemPlace}
    (hf : DataW.trod enc Try.prog W 0 (fun _ => true) true fuel 27 cs = some x) (hfit : ∀ n ∈ x.1.weights Try.prog 27, n ≤ reachBytes) :
    ∃ au rd ba bc bl pa pc pl, cs = [.int .i64 au, .int .i64 rd, .slice ba (List.length bl) bc, .slice pa (List.length pl) pc] ∧ I64 au ∧ I64 rd ∧ ReadAt W ba bc bl ∧ ReadAt W pa pc pl := by
  obtain ⟨xs, n, _, rfl, hl, hlen, hg⟩ := DataW.trod_struct Try.underlying27 hf
  rw [cHeader] at hl
  match xs, hlen with
  | [y0, y1, y2, y3], _ =>
  have h0 := hg 0 _ rfl
  have h1 := hg 1 _ rfl
  have h2 := hg 2 _ rfl
  have h3 := hg 3 _ rfl
  match cs, hl with
  | [c0, c1, c2, c3], _ =>
  obtain ⟨a0, e0, rfl, w0⟩ := DataW.trod_int Try.underlying3 h0
  obtain ⟨a1, e1, rfl, w1⟩ := DataW.trod_int Try.underlying3 h1
  obtain ⟨ba, bc, bl, e2, hb, _⟩ := open_lists_cells h2 (fun n hn => hfit n (by simp [DataW.weights, DataW.weightsEach, Try.underlying27, hn]))
  obtain ⟨pa, pc, pl, e3, hp, _⟩ := open_lists_cells h3 (fun n hn => hfit n (by simp [DataW.weights, DataW.weightsEach, Try.underlying27, hn]))
  simp [cIntL, cLists] at e0 e1 e2 e3
  subst e0 e1 e2 e3
  exact ⟨a0, a1, ba, bc, bl, pa, pc, pl, rfl, bounds_i64 w0, bounds_i64 w1, hb, hp⟩
set_option maxRecDepth 100000 in
theorem open_header {H : Type} {enc : TypeId × Value → H} {W : World} {base : Nat} {v : Value} {d : DataW H} {p : List MemPlace}
    (hv : Value.okWide Try.prog W .any base 27 v) (h : DataW.Trod enc Try.prog W 0 (fun _ => true) true 27 v d p) (hfit : ∀ n ∈ d.weights Try.prog 27, n ≤ reachBytes) :
    ∃ au rd ba bc bl pa pc pl, v = .agg #[.int .i64 au, .int .i64 rd, .slice ba (List.length bl) bc, .slice pa (List.length pl) pc] ∧ I64 au ∧ I64 rd ∧ ReadAt W ba bc bl ∧ ReadAt W pa pc pl := by
  obtain ⟨cs, rfl, _⟩ := okWide_struct Try.underlying27 hv
  obtain ⟨fuel, hf⟩ := h
  obtain ⟨au, rd, ba, bc, bl, pa, pc, pl, hcs, h1, h2, h3, h4⟩ := open_header_cells hf hfit
  refine ⟨au, rd, ba, bc, bl, pa, pc, pl, ?_, h1, h2, h3, h4⟩
  have : cs.toList = _ := hcs
  rw [← this]
end Go.Proofs.Ytjlhglaebkhhdaa
