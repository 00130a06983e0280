/- What the reading of an argument that is a slot gives the walks. -/
import Derived.Test.YtplmploigfhkkaaOpenB
import Derived.Deep.Strs
namespace Go.Proofs.Ytplmploigfhkkaa
open Go.ChangeShapes Go.WideShapes Go.ChangeAt Go.RowKit Go.Deep

theorem cInt : Try.prog.cellsOf 3 = 1 := by kernel_rfl
theorem cBs : Try.prog.cellsOf 41 = 1 := by kernel_rfl
theorem cSlot : Try.prog.cellsOf 43 = 3 := by kernel_rfl
theorem open_slot_cells {H : Type} {enc : TypeId × Value → H} {W : World} {fuel : Nat} {cs : List Value} {x : DataW H × List MemPlace}
    (hf : DataW.trod enc Try.prog W 0 (fun _ => true) true fuel 43 cs = some x) :
    ∃ au rd sa cap bs, cs = [.int .i64 au, .int .i64 rd, .slice sa (List.length bs) cap] ∧ I64 au ∧ I64 rd ∧ SliceAt W sa cap bs ∧ AllU8 bs := by
  obtain ⟨y0, y1, y2, n, hx, hl, h0, h1, h2⟩ := trod_struct3 Try.underlying43 hf
  rw [cSlot] at hl
  match cs, hl with
  | [c0, c1, c2], _ =>
  obtain ⟨a, e0, rfl, wa⟩ := DataW.trod_int Try.underlying3 h0
  obtain ⟨b, e1, rfl, wb⟩ := DataW.trod_int Try.underlying3 h1
  obtain ⟨sa, cap, bs, e2, hs, hu⟩ := open_bytes_cells h2
  simp [cInt, cBs] at e0 e1 e2
  subst e0 e1 e2
  exact ⟨a, b, sa, cap, bs, rfl, bounds_i64 wa, bounds_i64 wb, hs, hu⟩
theorem open_slot {H : Type} {enc : TypeId × Value → H} {W : World} {base : Nat} {v : Value} {d : DataW H} {p : List MemPlace}
    (hv : Value.okWide Try.prog W .any base 43 v) (h : DataW.Trod enc Try.prog W 0 (fun _ => true) true 43 v d p) :
    ∃ au rd sa cap bs, v = .agg #[.int .i64 au, .int .i64 rd, .slice sa (List.length bs) cap] ∧ I64 au ∧ I64 rd ∧ SliceAt W sa cap bs ∧ AllU8 bs := by
  obtain ⟨cs, rfl, _⟩ := okWide_struct Try.underlying43 hv
  obtain ⟨fuel, hf⟩ := h
  obtain ⟨au, rd, sa, cap, bs, hcs, h1, h2, h3, h4⟩ := open_slot_cells hf
  refine ⟨au, rd, sa, cap, bs, ?_, h1, h2, h3, h4⟩
  have : cs.toList = _ := hcs
  rw [← this]
end Go.Proofs.Ytplmploigfhkkaa
