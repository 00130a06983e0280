/- sheaveslaw.tapes: a copy; sameTape: what is the same is the same. -/
import Derived.Test.YtchmfbhdnhaleaaTapF
import Derived.Test.YtchmfbhdnhaleaaClone0
import Derived.Test.YtchmfbhdnhaleaaOpenB
import Derived.Deep.Strs
import Derived.Deep.CutRange
import Derived.Deep.DeepCutAuto
import Derived.Deep.RegionHeld3
namespace Go.Proofs.Ytchmfbhdnhaleaa
open Go.ChangeShapes Go.WideShapes Go.ChangeAt Go.RowKit Go.Deep

set_option maxRecDepth 100000 in
set_option maxHeartbeats 1000000 in
theorem tapes_any (sy : Int) (sa : Option Addr) (n cap : Nat) (bs : List Int) (w : World) (hn : n = bs.length) (hs : SliceAt w sa cap bs) (hr : cap ≤ 140737488351232) :
    Calls Try.prog 10 #[.agg #[.slice sa n cap, .int .i64 sy]] w fun e w' => ∃ ra rc, e = .returned (.agg #[.slice ra n rc, .int .i64 sy]) ∧ SliceAt w' ra rc bs ∧ (∀ sb so, ra = some ⟨sb, so, none⟩ → w.heap.size ≤ sb) ∧ Below w.heap.size w w' := by
  have hA : Below w.heap.size w ((w.alloc (.cells #[.slice sa n cap, .int .i64 sy] 41)).alloc (.cells #[.slice none 0 0, .int .i64 0] 41)) := ((Below.refl _ _).alloc (Nat.le_refl _) _).alloc (by simp) _
  have r0 := heap_alloc2_old w (.cells #[.slice sa n cap, .int .i64 sy] 41) (.cells #[.slice none 0 0, .int .i64 0] 41)
  have r1 := heap_alloc2_new w (.cells #[.slice sa n cap, .int .i64 sy] 41) (.cells #[.slice none 0 0, .int .i64 0] 41)
  have HT : Hid (∀ W : World, Below w.heap.size w W → Calls Try.prog 21 #[.slice sa n cap] W fun e w' => ∃ ra rc, e = .returned (.slice ra bs.length rc) ∧ SliceAt w' ra rc bs ∧ Below W.heap.size W w' ∧ (∀ sb so, ra = some ⟨sb, so, none⟩ → W.heap.size ≤ sb)) := by
    show ∀ _, _
    intro W hW
    exact octets_any2 bs sa n cap W hn (hs.below hW) hr
  rw [← hn] at HT
  clear hs hn
  go_enter Try.func10, Try.ntmps10
  go_wp2_with fail
  generalize (w.alloc (.cells #[.slice sa n cap, .int .i64 sy] 41)).alloc (.cells #[.slice none 0 0, .int .i64 0] 41) = W0 at hA r0 r1 ⊢
  have c0 : W0.cell? ⟨w.heap.size, 0, none⟩ = some (.slice sa n cap) := cells_at r0 0 _ rfl
  have c1 : W0.cell? ⟨w.heap.size, 1, none⟩ = some (.int .i64 sy) := cells_at r0 1 _ rfl
  have hlt := lt_of_heap r1
  go_region_held3 (fun w' => w'.cell? ⟨w.heap.size, 0, none⟩ = some (.slice sa n cap) ∧ w'.cell? ⟨w.heap.size, 1, none⟩ = some (.int .i64 sy)) (go_keep) ((go_at_call 21; refine (HT.out _ hA.drew).mono ?_; rintro e w3 ⟨ra, rc, rfl, hs3, hb3, hf3⟩; replace hb3 := below_drew hb3; have s0 := (hb3.block _ (lt_of_heap r0)).trans r0; have s1 := (hb3.block _ (lt_of_heap r1)).trans r1; have g0 : w3.cell? ⟨w.heap.size, 0, none⟩ = some (.slice sa n cap) := cells_at s0 0 _ rfl; have g1 : w3.cell? ⟨w.heap.size, 1, none⟩ = some (.int .i64 sy) := cells_at s0 1 _ rfl; have e0 : w3.cell? ⟨w.heap.size + 1, 0, none⟩ = some (.slice none 0 0) := cells_at s1 0 _ rfl; have e1 : w3.cell? ⟨w.heap.size + 1, 1, none⟩ = some (.int .i64 0) := cells_at s1 1 _ rfl; have k0 := frozen_at s1 0; have k1 := frozen_at s1 1))
  all_goals
    go_wp2_with fail
    refine bodyPost_ret (v := .agg #[.slice ra n rc, .int .i64 sy]) (by simp [results, Try.results10, go_sem, e0, e1]) rfl ⟨ra, rc, rfl, ?_, ?_, ?_⟩
    · exact (hs3.setCellT _ _ _ (fun sb so e => by have := hf3 sb so e; simp at this; omega)).setCellT _ _ _ (fun sb so e => by have := hf3 sb so e; simp at this; omega)
    · intro sb so e
      have := hf3 sb so e
      simp at this
      omega
    · exact ((hA.trans (hb3.mono hA.size)).setCell (by simp) _).setCell (by simp) _
set_option maxRecDepth 100000 in
set_option maxHeartbeats 400000 in
theorem sameTape_eq (sy : Int) (bs : List Int) (sa sb : Option Addr) (n m c d : Nat) (w : World) (hn : n = bs.length) (hm : m = bs.length) (ha : SliceAt w sa c bs) (hb : SliceAt w sb d bs) :
    Calls Try.prog 13 #[.agg #[.slice sa n c, .int .i64 sy], .agg #[.slice sb m d, .int .i64 sy]] w fun e w' => e = .returned (.bool true) ∧ Below w.heap.size w w' := by
  have hA : Below w.heap.size w ((w.alloc (.cells #[.slice sa n c, .int .i64 sy] 41)).alloc (.cells #[.slice sb m d, .int .i64 sy] 41)) := ((Below.refl _ _).alloc (Nat.le_refl _) _).alloc (by simp) _
  have r0 := heap_alloc2_old w (.cells #[.slice sa n c, .int .i64 sy] 41) (.cells #[.slice sb m d, .int .i64 sy] 41)
  have r1 := heap_alloc2_new w (.cells #[.slice sa n c, .int .i64 sy] 41) (.cells #[.slice sb m d, .int .i64 sy] 41)
  have h1 := run_text _ sa n c bs hn (ha.below hA)
  have h2 := run_text _ sb m d bs hm (hb.below hA)
  clear hn hm ha hb
  generalize bstr bs = A at *
  go_enter Try.func13, Try.ntmps13
  go_upto_region 1 with fail
  generalize (w.alloc (.cells #[.slice sa n c, .int .i64 sy] 41)).alloc (.cells #[.slice sb m d, .int .i64 sy] 41) = W0 at hA r0 r1 h1 h2 ⊢
  have c0 : W0.cell? ⟨w.heap.size, 0, none⟩ = some (.slice sa n c) := cells_at r0 0 _ rfl
  have c1 : W0.cell? ⟨w.heap.size, 1, none⟩ = some (.int .i64 sy) := cells_at r0 1 _ rfl
  have d0 : W0.cell? ⟨w.heap.size + 1, 0, none⟩ = some (.slice sb m d) := cells_at r1 0 _ rfl
  have d1 : W0.cell? ⟨w.heap.size + 1, 1, none⟩ = some (.int .i64 sy) := cells_at r1 1 _ rfl
  go_wp2_with fail
  go_ret
  exact ⟨by simp, hA⟩
set_option maxRecDepth 100000 in
theorem cTape : Try.prog.cellsOf 41 = 2 := by kernel_rfl
set_option maxRecDepth 100000 in
theorem cBsT : Try.prog.cellsOf 28 = 1 := by kernel_rfl
set_option maxRecDepth 100000 in
theorem cIntT : Try.prog.cellsOf 3 = 1 := by kernel_rfl
set_option maxRecDepth 100000 in
theorem open_tape {H : Type} {enc : TypeId × Value → H} {W : World} {base : Nat} {v : Value} {d : DataW H} {p : List MemPlace}
    (hv : Value.okWide Try.prog W .any base 41 v) (h : DataW.Trod enc Try.prog W 0 (fun _ => true) true 41 v d p) (hfit : ∀ n ∈ d.weights Try.prog 41, n ≤ reachBytes) :
    ∃ sa cap bs sy, v = .agg #[.slice sa (List.length bs) cap, .int .i64 sy] ∧ SliceAt W sa cap bs ∧ AllU8 bs ∧ cap ≤ 140737488351232 ∧ I64 sy := by
  obtain ⟨cs, rfl, _⟩ := okWide_struct Try.underlying41 hv
  obtain ⟨fuel, hf⟩ := h
  have hf' : DataW.trod enc Try.prog W 0 (fun _ => true) true fuel 41 cs.toList = some (d, p) := hf
  obtain ⟨y0, y1, n, hx, hl, h0, h1⟩ := trod_struct2 Try.underlying41 hf'
  simp only [Prod.mk.injEq] at hx
  obtain ⟨rfl, rfl⟩ := hx
  rw [cTape] at hl
  obtain ⟨l⟩ := cs
  match l, hl with
  | [c0, c1], _ =>
  obtain ⟨sa, cap, bs, e0, hs, hu⟩ := open_bytes_cells h0
  have hc := bytes_fit h0 (fun n hn => hfit n (by simp [DataW.weights, DataW.weightsEach, Try.underlying41, hn])) e0
  obtain ⟨a, e1, rfl, wa⟩ := DataW.trod_int Try.underlying3 h1
  simp [cIntT, cBsT] at e0 e1
  subst e0 e1
  exact ⟨sa, cap, bs, a, rfl, hs, hu, hc, bounds_i64 wa⟩
end Go.Proofs.Ytchmfbhdnhaleaa
