/- What the reading of an argument that is a slot gives the walks. -/
import Derived.Test.YtdjaafnghlcjbaaOpenB
import Derived.Deep.Strs
namespace Go.Proofs.Ytdjaafnghlcjbaa
open Go.ChangeShapes Go.WideShapes Go.ChangeAt Go.RowKit Go.Deep

set_option maxRecDepth 100000 in
theorem cInt : Try.prog.cellsOf 3 = 1 := by kernel_rfl
set_option maxRecDepth 100000 in
theorem cBs : Try.prog.cellsOf 27 = 1 := by kernel_rfl
set_option maxRecDepth 100000 in
theorem cSlot : Try.prog.cellsOf 29 = 3 := by kernel_rfl
set_option maxRecDepth 100000 in
theorem open_slot_cells {H : Type} {enc : TypeId × Value → H} {W : World} {fuel : Nat} {cs : List Value} {x : DataW H × List MemPlace}
    (hf : DataW.trod enc Try.prog W 0 (fun _ => true) true fuel 29 cs = some x) (hfit : ∀ n ∈ x.1.weights Try.prog 29, n ≤ reachBytes) :
    ∃ au rd sa cap bs, cs = [.int .i64 au, .int .i64 rd, .slice sa (List.length bs) cap] ∧ I64 au ∧ I64 rd ∧ SliceAt W sa cap bs ∧ AllU8 bs ∧ cap ≤ 140737488351232 := by
  obtain ⟨y0, y1, y2, n, rfl, hl, h0, h1, h2⟩ := trod_struct3 Try.underlying29 hf
  rw [cSlot] at hl
  match cs, hl with
  | [c0, c1, c2], _ =>
  obtain ⟨a, e0, rfl, wa⟩ := DataW.trod_int Try.underlying3 h0
  obtain ⟨b, e1, rfl, wb⟩ := DataW.trod_int Try.underlying3 h1
  obtain ⟨sa, cap, bs, e2, hs, hu⟩ := open_bytes_cells h2
  have hc := bytes_fit h2 (fun n hn => hfit n (by simp [DataW.weights, DataW.weightsEach, Try.underlying29, hn])) e2
  simp [cInt, cBs] at e0 e1 e2
  subst e0 e1 e2
  exact ⟨a, b, sa, cap, bs, rfl, bounds_i64 wa, bounds_i64 wb, hs, hu, hc⟩
set_option maxRecDepth 100000 in
theorem open_slot {H : Type} {enc : TypeId × Value → H} {W : World} {base : Nat} {v : Value} {d : DataW H} {p : List MemPlace}
    (hv : Value.okWide Try.prog W .any base 29 v) (h : DataW.Trod enc Try.prog W 0 (fun _ => true) true 29 v d p) (hfit : ∀ n ∈ d.weights Try.prog 29, n ≤ reachBytes) :
    ∃ au rd sa cap bs, v = .agg #[.int .i64 au, .int .i64 rd, .slice sa (List.length bs) cap] ∧ I64 au ∧ I64 rd ∧ SliceAt W sa cap bs ∧ AllU8 bs ∧ cap ≤ 140737488351232 := by
  obtain ⟨cs, rfl, _⟩ := okWide_struct Try.underlying29 hv
  obtain ⟨fuel, hf⟩ := h
  obtain ⟨au, rd, sa, cap, bs, hcs, h1, h2, h3, h4⟩ := open_slot_cells hf hfit
  refine ⟨au, rd, sa, cap, bs, ?_, h1, h2, h3, h4⟩
  have : cs.toList = _ := hcs
  rw [← this]
end Go.Proofs.Ytdjaafnghlcjbaa
