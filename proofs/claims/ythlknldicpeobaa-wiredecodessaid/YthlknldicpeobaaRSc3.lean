/- The document's scan of bytes: header. -/
import Derived.Test.YthlknldicpeobaaRSc2
import Derived.Test.YthlknldicpeobaaLRow
import Derived.Laws.Tables
namespace Go.Proofs.Ythlknldicpeobaa
open Go.RowKit

set_option maxRecDepth 100000 in
theorem nx_over {n : Nat} {s : St} (h : (nx n s).2 = false) : s.2 = false := by
  cases h9 : s.2 with
  | false => rfl
  | true => simp [nx, tkS, h9] at h
set_option maxRecDepth 100000 in
theorem dgS_over {s : St} (h : (dgS s).2 = false) : s.2 = false := by
  cases h9 : (nx 1 s).2 with
  | false => exact nx_over h9
  | true =>
    have : (dgS s).2 = true := dgL_over (nx 1 s).1 (nx 1 s).2 0 _ h9 (Nat.zero_le _)
    rw [this] at h
    cases h
set_option maxRecDepth 100000 in
theorem only_far9 {S b j : Nat} {w W : World} {v : Value} (h : Only S w W) (hb : w.heap.size ≤ b) : Only S w (W.setCell ⟨b, j, none⟩ v) :=
  ⟨h.os, h.tape, h.output, by simpa using h.size, fun k hk hn => (heap_setCell_other W ⟨b, j, none⟩ k v (by show k ≠ b; omega)).trans (h.block k hk hn)⟩
set_option maxRecDepth 100000 in
theorem only_row (W : World) (b : Nat) (cs : Array Value) : Only b W (W.setRow b cs) := ⟨rfl, rfl, rfl, by simp [World.setRow], fun k _ hk => setRow_other W b k cs hk⟩
set_option maxRecDepth 100000 in
theorem Fresh.down {B C : Nat} {ra : Option Addr} {qs : List Part} (h : Fresh B ra qs) (hc : C ≤ B) : Fresh C ra qs := ⟨fun sb so e => Nat.le_trans hc (h.row sb so e), fun p hp sb so e => Nat.le_trans hc (h.each p hp sb so e)⟩
set_option maxRecDepth 100000 in
theorem results_cell1 {fn : Func} {p : Tmp} {ty : TypeId} (h : fn.results = #[.cell p ty]) (tmps : Array Value) (w : World) (g : Nat) (t : TypeId) (cs : Array Value) (fr : Nat × Nat) (d : TypeDesc)
    (hp : tmps.getD p undef = .pointer (some ⟨g, 0, none⟩)) (hg : w.heap[g]? = some (.cells cs t fr))
    (hu : Try.prog.underlying ty = some d) (hd : (match d with | .struct _ | .array _ _ => true | _ => false) = true) (hi : (Try.prog.info? ty).map (·.size) = some cs.size) :
    (results fn tmps).run Try.prog w = .ok (.agg cs) w := by
  have hp' : tmps[p]?.getD undef = .pointer (some ⟨g, 0, none⟩) := by simpa using hp
  simp [results, h, hp', asAddr, run_loadVar_row w g t ty cs fr d hg hu (by cases d <;> first | exact hd | rfl) hi]
structure HeadSc (w w' : World) (e : Ending) (S : Nat) (b : List Int) (s : St) (N : Nat) : Prop where
  out : ∃ (au rd : Int) (ba : Option Addr) (bc : Nat) (bl : List Part) (pa : Option Addr) (pc : Nat) (pl : List Part), e = .returned (.agg #[.int .i64 au, .int .i64 rd, .slice ba (List.length bl) bc, .slice pa (List.length pl) pc]) ∧ ((dgS (dgS (nx 3 (nx 1 s)))).2 = false → au = nB 1 s ∧ rd = nB 3 (nx 1 s) ∧ bl.map (·.bs) = dgs (nx 3 (nx 1 s)) ∧ pl.map (·.bs) = dgs (dgS (nx 3 (nx 1 s)))) ∧ ListAt w' ba bc bl ∧ ListAt w' pa pc pl ∧ Fresh w.heap.size ba bl ∧ Fresh w.heap.size pa pl ∧ ScAt w' S b (dgS (dgS (nx 3 (nx 1 s)))) (N + 70 + 2 * b.length) ∧ Only S w w'
set_option maxRecDepth 100000 in
set_option maxHeartbeats 4000000 in
theorem header_sc (S : Nat) (b : List Int) (s : St) (N : Nat) (w : World) (h : ScAt w S b s N) (hu : U8s b) (hN : N ≤ 100000) (hl : b.length ≤ 100000) :
    Calls Try.prog 20 #[.pointer (some ⟨S, 0, none⟩)] w fun e w' => HeadSc w w' e S b s N := by
  have hlt := h.lt
  have hA : Below w.heap.size w ((w.alloc (.cells #[.int .i64 0, .int .i64 0, .slice none 0 0, .slice none 0 0] 28)).alloc (.cells #[.int .i64 0, .int .i64 0, .slice none 0 0, .slice none 0 0] 28)) := ((Below.refl _ _).alloc (Nat.le_refl _) _).alloc (by simp) _
  have qR0 := heap_alloc2_old w (.cells #[.int .i64 0, .int .i64 0, .slice none 0 0, .slice none 0 0] 28) (.cells #[.int .i64 0, .int .i64 0, .slice none 0 0, .slice none 0 0] 28)
  have qH0 := heap_alloc2_new w (.cells #[.int .i64 0, .int .i64 0, .slice none 0 0, .slice none 0 0] 28) (.cells #[.int .i64 0, .int .i64 0, .slice none 0 0, .slice none 0 0] 28)
  have hSc0 := h.below hA
  have hO0 : Only S w _ := only_of_below (R := S) hA
  clear h
  go_enter Try.func20, Try.ntmps20
  go_upto_region 2 with fail
  generalize (w.alloc (.cells #[.int .i64 0, .int .i64 0, .slice none 0 0, .slice none 0 0] 28)).alloc (.cells #[.int .i64 0, .int .i64 0, .slice none 0 0, .slice none 0 0] 28) = W0 at hA qR0 qH0 hSc0 hO0 ⊢
  clear hA
  go_wp2_with fail
  refine (num_sc S 1 b s _ W0 hSc0 hu (by omega) (by omega)).mono ?_
  intro e w1 h1
  obtain ⟨au, he, g00, g01, -, g0, hSc, ho1⟩ := h1.out
  subst he
  dsimp only
  clear h1
  have lW0 := lt_of_heap qH0
  have hs0 := hO0.size
  have ht0 := ho1.size
  have rR0 := (ho1.block _ (lt_of_heap qR0) (by omega)).trans qR0
  have rH0 := (ho1.block _ (lt_of_heap qH0) (by omega)).trans qH0
  have d0 := cells_at rH0 0 _ rfl
  have f0 := frozen_at rH0 0
  have d1 := cells_at rH0 1 _ rfl
  have f1 := frozen_at rH0 1
  have d2 := cells_at rH0 2 _ rfl
  have f2 := frozen_at rH0 2
  have d3 := cells_at rH0 3 _ rfl
  have f3 := frozen_at rH0 3
  have qH1 : (w1.setCell ⟨w.heap.size + 1, 0, none⟩ (.int .i64 au)).heap[w.heap.size + 1]? = some (.cells #[.int .i64 au, .int .i64 0, .slice none 0 0, .slice none 0 0] 28 (0, 0)) := by simpa using heap_setCell_same _ _ 0 _ _ (.int .i64 au) rH0
  have qR1 := heap_far (j := 0) (v := .int .i64 au) rR0 (show w.heap.size ≠ w.heap.size + 1 by omega)
  have hSc1 : ScAt (w1.setCell ⟨w.heap.size + 1, 0, none⟩ (.int .i64 au)) S b (nx 1 s) (N + 1) := (hSc.stays (fun q hq => heap_setCell_other _ ⟨w.heap.size + 1, 0, none⟩ q _ (by show q ≠ w.heap.size + 1; omega))).mono (by omega)
  have hO1 : Only S w (w1.setCell ⟨w.heap.size + 1, 0, none⟩ (.int .i64 au)) := only_far9 (hO0.trans ho1) (by omega)
  go_upto_region 3 with fail
  generalize w1.setCell ⟨w.heap.size + 1, 0, none⟩ (.int .i64 au) = W1 at qH1 qR1 hSc1 hO1 ⊢
  clear hSc d0 d1 d2 d3 f0 f1 f2 f3 rR0 rH0 qR0 qH0 hSc0
  go_wp2_with fail
  refine (num_sc S 3 b (nx 1 s) _ W1 hSc1 hu (by omega) (by omega)).mono ?_
  intro e w2 h2
  obtain ⟨rd, he, g10, g11, -, g1, hSc, ho2⟩ := h2.out
  subst he
  dsimp only
  clear h2
  have lW1 := lt_of_heap qH1
  have hs1 := hO1.size
  have ht1 := ho2.size
  have rR1 := (ho2.block _ (lt_of_heap qR1) (by omega)).trans qR1
  have rH1 := (ho2.block _ (lt_of_heap qH1) (by omega)).trans qH1
  have d0 := cells_at rH1 0 _ rfl
  have f0 := frozen_at rH1 0
  have d1 := cells_at rH1 1 _ rfl
  have f1 := frozen_at rH1 1
  have d2 := cells_at rH1 2 _ rfl
  have f2 := frozen_at rH1 2
  have d3 := cells_at rH1 3 _ rfl
  have f3 := frozen_at rH1 3
  have qH2 : (w2.setCell ⟨w.heap.size + 1, 1, none⟩ (.int .i64 rd)).heap[w.heap.size + 1]? = some (.cells #[.int .i64 au, .int .i64 rd, .slice none 0 0, .slice none 0 0] 28 (0, 0)) := by simpa using heap_setCell_same _ _ 1 _ _ (.int .i64 rd) rH1
  have qR2 := heap_far (j := 1) (v := .int .i64 rd) rR1 (show w.heap.size ≠ w.heap.size + 1 by omega)
  have hSc2 : ScAt (w2.setCell ⟨w.heap.size + 1, 1, none⟩ (.int .i64 rd)) S b (nx 3 (nx 1 s)) (N + 4) := (hSc.stays (fun q hq => heap_setCell_other _ ⟨w.heap.size + 1, 1, none⟩ q _ (by show q ≠ w.heap.size + 1; omega))).mono (by omega)
  have hO2 : Only S w (w2.setCell ⟨w.heap.size + 1, 1, none⟩ (.int .i64 rd)) := only_far9 (hO1.trans ho2) (by omega)
  go_upto_region 4 with fail
  generalize w2.setCell ⟨w.heap.size + 1, 1, none⟩ (.int .i64 rd) = W2 at qH2 qR2 hSc2 hO2 ⊢
  clear hSc d0 d1 d2 d3 f0 f1 f2 f3 rR1 rH1 qR1 qH1 hSc1
  go_wp2_with fail
  refine (digList_sc S b (nx 3 (nx 1 s)) _ W2 hSc2 hu (by omega) hl).mono ?_
  intro e w3 h3
  obtain ⟨ba, bc, bl, he, hL2, hF2, hn2, g2, hSc, ho3⟩ := h3.out
  subst he
  dsimp only
  clear h3
  have lW2 := lt_of_heap qH2
  have hs2 := hO2.size
  have ht2 := ho3.size
  have rR2 := (ho3.block _ (lt_of_heap qR2) (by omega)).trans qR2
  have rH2 := (ho3.block _ (lt_of_heap qH2) (by omega)).trans qH2
  have d0 := cells_at rH2 0 _ rfl
  have f0 := frozen_at rH2 0
  have d1 := cells_at rH2 1 _ rfl
  have f1 := frozen_at rH2 1
  have d2 := cells_at rH2 2 _ rfl
  have f2 := frozen_at rH2 2
  have d3 := cells_at rH2 3 _ rfl
  have f3 := frozen_at rH2 3
  have qH3 : (w3.setCell ⟨w.heap.size + 1, 2, none⟩ (.slice ba bl.length bc)).heap[w.heap.size + 1]? = some (.cells #[.int .i64 au, .int .i64 rd, .slice ba bl.length bc, .slice none 0 0] 28 (0, 0)) := by simpa using heap_setCell_same _ _ 2 _ _ (.slice ba bl.length bc) rH2
  have qR3 := heap_far (j := 2) (v := .slice ba bl.length bc) rR2 (show w.heap.size ≠ w.heap.size + 1 by omega)
  have hSc3 : ScAt (w3.setCell ⟨w.heap.size + 1, 2, none⟩ (.slice ba bl.length bc)) S b (dgS (nx 3 (nx 1 s))) (N + 37 + b.length) := (hSc.stays (fun q hq => heap_setCell_other _ ⟨w.heap.size + 1, 2, none⟩ q _ (by show q ≠ w.heap.size + 1; omega))).mono (by omega)
  have hO3 : Only S w (w3.setCell ⟨w.heap.size + 1, 2, none⟩ (.slice ba bl.length bc)) := only_far9 (hO2.trans ho3) (by omega)
  have hLL2 := hL2.setCell hF2 (w.heap.size + 1) 2 (.slice ba bl.length bc) (by omega)
  go_upto_region 5 with fail
  generalize w3.setCell ⟨w.heap.size + 1, 2, none⟩ (.slice ba bl.length bc) = W3 at qH3 qR3 hSc3 hO3 hLL2 ⊢
  clear hSc d0 d1 d2 d3 f0 f1 f2 f3 rR2 rH2 qR2 qH2 hSc2
  go_wp2_with fail
  refine (digList_sc S b (dgS (nx 3 (nx 1 s))) _ W3 hSc3 hu (by omega) hl).mono ?_
  intro e w4 h4
  obtain ⟨pa, pc, pl, he, hL3, hF3, hn3, g3, hSc, ho4⟩ := h4.out
  subst he
  dsimp only
  clear h4
  have lW3 := lt_of_heap qH3
  have hs3 := hO3.size
  have ht3 := ho4.size
  have rR3 := (ho4.block _ (lt_of_heap qR3) (by omega)).trans qR3
  have rH3 := (ho4.block _ (lt_of_heap qH3) (by omega)).trans qH3
  have d0 := cells_at rH3 0 _ rfl
  have f0 := frozen_at rH3 0
  have d1 := cells_at rH3 1 _ rfl
  have f1 := frozen_at rH3 1
  have d2 := cells_at rH3 2 _ rfl
  have f2 := frozen_at rH3 2
  have d3 := cells_at rH3 3 _ rfl
  have f3 := frozen_at rH3 3
  have qH4 : (w4.setCell ⟨w.heap.size + 1, 3, none⟩ (.slice pa pl.length pc)).heap[w.heap.size + 1]? = some (.cells #[.int .i64 au, .int .i64 rd, .slice ba bl.length bc, .slice pa pl.length pc] 28 (0, 0)) := by simpa using heap_setCell_same _ _ 3 _ _ (.slice pa pl.length pc) rH3
  have qR4 := heap_far (j := 3) (v := .slice pa pl.length pc) rR3 (show w.heap.size ≠ w.heap.size + 1 by omega)
  have hSc4 : ScAt (w4.setCell ⟨w.heap.size + 1, 3, none⟩ (.slice pa pl.length pc)) S b (dgS (dgS (nx 3 (nx 1 s)))) (N + 70 + 2 * b.length) := (hSc.stays (fun q hq => heap_setCell_other _ ⟨w.heap.size + 1, 3, none⟩ q _ (by show q ≠ w.heap.size + 1; omega))).mono (by omega)
  have hO4 : Only S w (w4.setCell ⟨w.heap.size + 1, 3, none⟩ (.slice pa pl.length pc)) := only_far9 (hO3.trans ho4) (by omega)
  have hLL2' := (list_only hLL2 hF2 ho4 (by omega)).setCell hF2 (w.heap.size + 1) 3 (.slice pa pl.length pc) (by omega)
  have hLL3 := hL3.setCell hF3 (w.heap.size + 1) 3 (.slice pa pl.length pc) (by omega)
  have LB := hLL2'
  have LP := hLL3
  go_upto_region 6 with fail
  generalize w4.setCell ⟨w.heap.size + 1, 3, none⟩ (.slice pa pl.length pc) = W4 at *
  have hX : Hid (HeadSc w (W4.setRow w.heap.size #[.int .i64 au, .int .i64 rd, .slice ba bl.length bc, .slice pa pl.length pc]) (.returned (.agg #[.int .i64 au, .int .i64 rd, .slice ba bl.length bc, .slice pa pl.length pc])) S b s N) := by
    have hoR : Only w.heap.size W4 (W4.setRow w.heap.size #[.int .i64 au, .int .i64 rd, .slice ba bl.length bc, .slice pa pl.length pc]) := only_row _ _ _
    refine ⟨au, rd, ba, bc, bl, pa, pc, pl, rfl, fun hf => ?_, list_only LB hF2 hoR (by omega), list_only LP hF3 hoR (by omega), hF2.down (by omega), hF3.down (by omega), (hSc4.stays (fun q hq => setRow_other _ _ _ _ (by omega))).mono (by omega), ?_⟩
    · have h3 := dgS_over hf
      have h2 := dgS_over h3
      have h1 := nx_over h2
      exact ⟨g0 h1, g1 h2, g2 h3, g3 hf⟩
    · exact ⟨hO4.os, hO4.tape, hO4.output, by simpa using hO4.size, fun k hk hn => (setRow_other _ _ _ _ (by omega)).trans (hO4.block k hk hn)⟩
  clear g0 g1 g2 g3 hSc4 hO4
  go_wp2_with (first
    | (refine wpList_load_row_w rfl _ _ rfl (w.heap.size + 1) rfl 28 _ (0, 0) _ qH4 Try.underlying28 rfl rfl ?_)
    | (refine wpList_store_row rfl 28 _ _ rfl w.heap.size #[.int .i64 au, .int .i64 rd, .slice ba bl.length bc, .slice pa pl.length pc] rfl rfl 28 _ qR4 rfl rfl (by simp [Value.oneCell']) ?_))
  exact bodyPost_ret (v := .agg #[.int .i64 au, .int .i64 rd, .slice ba bl.length bc, .slice pa pl.length pc]) (results_cell1 (fn := Try.f20) (p := 2) (ty := 28) rfl _ _ w.heap.size 28 _ (0, 0) _ rfl (setRow_heap _ _ _ _ _ _ qR4) Try.underlying28 rfl rfl) rfl hX.out
end Go.Proofs.Ythlknldicpeobaa
