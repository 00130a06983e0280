/- The law sheaveskeep.MessageMore answers true for every argument, and each argument reads behind the call as it read before: no condition but the form's own reach. -/
import Derived.Test.YthijfhbmkpfnkaaPK
import Derived.Laws.Rows
import Derived.Test.YthijfhbmkpfnkaaOpenB
import Derived.Test.YthijfhbmkpfnkaaTextsAt
import Derived.Deep.Strs
import Derived.Test.YthijfhbmkpfnkaaMessageMoreM48
import Derived.Deep.CutRange
import Derived.Deep.DeepCutAuto
import Derived.Test.YthijfhbmkpfnkaaRows
import Derived.WalkKit
import Derived.ProofKit
import Derived.OpenShut
import Derived.Deep.DeepHandedRow
import Derived.SevenTiedAt
import Derived.Below
namespace Go.Proofs.Ythijfhbmkpfnkaa
open Go.RowKit

set_option maxRecDepth 100000 in
theorem wpList_load_row_w {ops : Array Oper} {rest : List Oper} {o : Oper} {a : Act} {w : World} {Q : Exit → Act → World → Prop} (hw : Region.wanted o (yielded ops a.tmps) = true) (ty : TypeId) (x : Operand) (ho : o.op = .load ty x)
    (g : Nat) (hx : a.eval x = .pointer (some ⟨g, 0, none⟩)) (t : TypeId) (cs : Array Value) (fr : Nat × Nat) (d : TypeDesc) (hg : w.heap[g]? = some (.cells cs t fr))
    (hu : Try.prog.underlying ty = some d) (hd : (match d with | .struct _ | .array _ _ => true | _ => false) = true) (hi : (Try.prog.info? ty).map (·.size) = some cs.size)
    (h : wpList Try.prog ops Q rest (a.put o.dst (.agg cs)) w) : wpList Try.prog ops Q (o :: rest) a w := by
  refine wpList_step fun K hK => ?_
  rw [if_pos hw]
  exact wp_load_row ty x ho g hx t cs fr d hg hu (by cases d <;> first | exact hd | rfl) hi (hK _ _ h)
set_option maxRecDepth 100000 in
/-- A struct that is loaded as a row: what the operation answers. -/
theorem run_load_row {o : Oper} {a : Act} {w : World} (ty : TypeId) (x : Operand) (ho : o.op = .load ty x)
    (g : Nat) (hx : a.eval x = .pointer (some ⟨g, 0, none⟩)) (t : TypeId) (cs : Array Value) (fr : Nat × Nat) (d : TypeDesc) (hg : w.heap[g]? = some (.cells cs t fr))
    (hu : Try.prog.underlying ty = some d) (hd : (match d with | .struct _ | .array _ _ => true | _ => false) = true) (hi : (Try.prog.info? ty).map (·.size) = some cs.size) :
    (execOp a.eval o).run Try.prog w = .ok (.value (.agg cs)) w := by
  unfold execOp
  simp only [ho, hx, Instr.loadAt, Instr.sureAddr, Sem.run_bind, Sem.run_pure, Result.andThen_ok, run_loadVar_row w g t ty cs fr d hg hu (by cases d <;> first | exact hd | rfl) hi]
end Go.Proofs.Ythijfhbmkpfnkaa

namespace Go.Proofs.Ythijfhbmkpfnkaa
open Go.ChangeShapes Go.WideShapes Go.ChangeAt Go.RowKit Go.Deep

set_option maxRecDepth 100000 in
theorem cRaw : Try.prog.cellsOf 24 = 5 := by kernel_rfl
set_option maxRecDepth 100000 in
theorem cIntR : Try.prog.cellsOf 3 = 1 := by kernel_rfl
set_option maxRecDepth 100000 in
theorem cStrsR : Try.prog.cellsOf 22 = 1 := by kernel_rfl
set_option maxRecDepth 100000 in
theorem open_raw {H : Type} {enc : TypeId × Value → H} {W : World} {base : Nat} {v : Value} {d : DataW H} {p : List MemPlace}
    (hv : Value.okWide Try.prog W .any base 24 v) (h : DataW.Trod enc Try.prog W 0 (fun _ => true) true 24 v d p) (hfit : ∀ n ∈ d.weights Try.prog 24, n ≤ reachBytes) :
    ∃ ki ra rb rc sa cap ss, v = .agg #[.int .i64 ki, .int .i64 ra, .int .i64 rb, .int .i64 rc, .slice sa (List.length ss) cap] ∧ I64 ki ∧ I64 ra ∧ I64 rb ∧ I64 rc ∧ TextsAt W sa cap ss := by
  obtain ⟨cs, rfl, _⟩ := okWide_struct Try.underlying24 hv
  obtain ⟨fuel, hf⟩ := h
  obtain ⟨xs, n, _, hx, hl, hlen, hg⟩ := DataW.trod_struct Try.underlying24 hf
  rw [cRaw] at hl
  match xs, hlen with
  | [y0, y1, y2, y3, y4], _ =>
  have h0 := hg 0 _ rfl
  have h1 := hg 1 _ rfl
  have h2 := hg 2 _ rfl
  have h3 := hg 3 _ rfl
  have h4 := hg 4 _ rfl
  simp only [Prod.mk.injEq] at hx
  obtain ⟨rfl, rfl⟩ := hx
  obtain ⟨l⟩ := cs
  match l, hl with
  | [c0, c1, c2, c3, c4], _ =>
  obtain ⟨a0, e0, rfl, w0⟩ := DataW.trod_int Try.underlying3 h0
  obtain ⟨a1, e1, rfl, w1⟩ := DataW.trod_int Try.underlying3 h1
  obtain ⟨a2, e2, rfl, w2⟩ := DataW.trod_int Try.underlying3 h2
  obtain ⟨a3, e3, rfl, w3⟩ := DataW.trod_int Try.underlying3 h3
  obtain ⟨sa, cap, ss, e4, hs⟩ := open_texts_cells h4 (fun n hn => hfit n (by simp [DataW.weights, DataW.weightsEach, Try.underlying24, hn]))
  simp [cIntR, cStrsR, Value.cells] at e0 e1 e2 e3 e4
  subst e0 e1 e2 e3 e4
  exact ⟨a0, a1, a2, a3, sa, cap, ss, rfl, bounds_i64 w0, bounds_i64 w1, bounds_i64 w2, bounds_i64 w3, hs⟩
end Go.Proofs.Ythijfhbmkpfnkaa

namespace Go.Proofs.Ythijfhbmkpfnkaa
open Go.RowKit

set_option maxRecDepth 100000 in
theorem pk_smallM {a : Int} (h : 0 ≤ a ∧ a < 5) : pk a 5 = a := by rw [pk, if_neg (by omega)]; omega
set_option maxRecDepth 100000 in
theorem texts_none (w : World) : TextsAt w none 0 [] := ⟨Nat.le_refl _, by decide, fun _ => rfl, ⟨.inl rfl, fun s h => by cases h⟩⟩
set_option maxRecDepth 100000 in
set_option maxHeartbeats 8000000 in
theorem more_walk1 (ki ra rb rc : Int) (sa : Option Addr) (cap : Nat) (ss0 : List ByteArray) (kd : Int) (w : World) (h1 : I64 ki) (h2 : I64 ra) (h3 : I64 rb) (h4 : I64 rc) (h5 : TextsAt w sa cap ss0) (hn1 : -9223372036854775808 ≤ kd) (hn2 : kd ≤ 9223372036854775807) (hkd : pk kd 5 = 0) :
    Calls Try.prog 6 #[.agg #[.int .i64 ki, .int .i64 ra, .int .i64 rb, .int .i64 rc, .slice sa ss0.length cap], .int .i64 kd] w fun e w' => e = .returned (.bool true) ∧ Below w.heap.size w w' := by
  have HP : Hid (∀ W : World, Calls Try.prog 14 #[.int .i64 kd, .int .i64 5] W fun e w' => e = .returned (.int .i64 0) ∧ W = w') := by
    show ∀ _, _
    intro W
    rw [← hkd]
    exact picked_any kd 5 W hn1 hn2 (by omega) (by omega)
  clear hkd
  have hA : Below w.heap.size w (w.alloc (.cells #[.int .i64 ki, .int .i64 ra, .int .i64 rb, .int .i64 rc, .slice sa ss0.length cap] 24)) := (Below.refl _ _).alloc (Nat.le_refl _) _
  have p0 := heap_alloc_new w (.cells #[.int .i64 ki, .int .i64 ra, .int .i64 rb, .int .i64 rc, .slice sa ss0.length cap] 24)
  go_enter Try.func6, Try.ntmps6
  go_wp2_with fail
  generalize w.alloc (.cells #[.int .i64 ki, .int .i64 ra, .int .i64 rb, .int .i64 rc, .slice sa ss0.length cap] 24) = W0 at hA p0 ⊢
  refine (raw_msgM ki ra rb rc sa cap ss0 W0 h1 h2 h3 h4 (h5.below hA)).mono ?_
  rintro e w1 ⟨x, he, hM, hC, hN, hb1, -⟩
  have hB1 := hA.trans (hb1.mono hA.size)
  subst he
  dsimp only
  have p1 := (hb1.block _ (lt_of_heap p0)).trans p0
  have qz := heap_alloc_new w1 (.cells #[.int .i64 0, .int .i64 0, .int .i64 0, .int .i64 0, .int .i64 0, .slice none 0 0, .int .i64 0, .int .i64 0, .slice none 0 0, .slice none 0 0, .int .i64 0, .int .i64 0, .slice none 0 0, .int .i64 0, .int .i64 0, .slice none 0 0, .slice none 0 0, .slice none 0 0, .int .i64 0] 37)
  have hA1 : Below w1.heap.size w1 ((w1.alloc (.cells #[.int .i64 0, .int .i64 0, .int .i64 0, .int .i64 0, .int .i64 0, .slice none 0 0, .int .i64 0, .int .i64 0, .slice none 0 0, .slice none 0 0, .int .i64 0, .int .i64 0, .slice none 0 0, .int .i64 0, .int .i64 0, .slice none 0 0, .slice none 0 0, .slice none 0 0, .int .i64 0] 37)).setRow w1.heap.size #[.int .i64 x.m.fr, .int .i64 x.m.tt, .int .i64 x.m.ki, .int .i64 x.m.bau, .int .i64 x.m.bnu, .slice x.m.bta x.m.btn x.m.btc, .int .i64 x.m.hau, .int .i64 x.m.hrd, .slice x.m.hba x.m.hbn x.m.hbc, .slice x.m.hpa x.m.hpn x.m.hpc, .int .i64 x.m.sau, .int .i64 x.m.srd, .slice x.m.sda x.m.sdn x.m.sdc, .int .i64 x.m.cau, .int .i64 x.m.crd, .slice x.m.cba x.m.cbn x.m.cbc, .slice x.m.cpa x.m.cpn x.m.cpc, .slice x.m.cva x.m.cvn x.m.cvc, .int .i64 x.m.ro]) := laid_row w1 #[.int .i64 0, .int .i64 0, .int .i64 0, .int .i64 0, .int .i64 0, .slice none 0 0, .int .i64 0, .int .i64 0, .slice none 0 0, .slice none 0 0, .int .i64 0, .int .i64 0, .slice none 0 0, .int .i64 0, .int .i64 0, .slice none 0 0, .slice none 0 0, .slice none 0 0, .int .i64 0] #[.int .i64 x.m.fr, .int .i64 x.m.tt, .int .i64 x.m.ki, .int .i64 x.m.bau, .int .i64 x.m.bnu, .slice x.m.bta x.m.btn x.m.btc, .int .i64 x.m.hau, .int .i64 x.m.hrd, .slice x.m.hba x.m.hbn x.m.hbc, .slice x.m.hpa x.m.hpn x.m.hpc, .int .i64 x.m.sau, .int .i64 x.m.srd, .slice x.m.sda x.m.sdn x.m.sdc, .int .i64 x.m.cau, .int .i64 x.m.crd, .slice x.m.cba x.m.cbn x.m.cbc, .slice x.m.cpa x.m.cpn x.m.cpc, .slice x.m.cva x.m.cvn x.m.cvc, .int .i64 x.m.ro] 37
  have q1 := setRow_heap _ _ _ #[.int .i64 x.m.fr, .int .i64 x.m.tt, .int .i64 x.m.ki, .int .i64 x.m.bau, .int .i64 x.m.bnu, .slice x.m.bta x.m.btn x.m.btc, .int .i64 x.m.hau, .int .i64 x.m.hrd, .slice x.m.hba x.m.hbn x.m.hbc, .slice x.m.hpa x.m.hpn x.m.hpc, .int .i64 x.m.sau, .int .i64 x.m.srd, .slice x.m.sda x.m.sdn x.m.sdc, .int .i64 x.m.cau, .int .i64 x.m.crd, .slice x.m.cba x.m.cbn x.m.cbc, .slice x.m.cpa x.m.cpn x.m.cpc, .slice x.m.cva x.m.cvn x.m.cvc, .int .i64 x.m.ro] _ _ qz
  have hlt0 : w.heap.size < w1.heap.size := lt_of_heap p1
  have p2 := (hA1.block _ (lt_of_heap p1)).trans p1
  have hX := hN.has.lt hM
  have hM1 := hM.below hA1
  go_upto_region 2 with (refine wpList_store_row rfl 37 _ _ rfl w1.heap.size #[.int .i64 x.m.fr, .int .i64 x.m.tt, .int .i64 x.m.ki, .int .i64 x.m.bau, .int .i64 x.m.bnu, .slice x.m.bta x.m.btn x.m.btc, .int .i64 x.m.hau, .int .i64 x.m.hrd, .slice x.m.hba x.m.hbn x.m.hbc, .slice x.m.hpa x.m.hpn x.m.hpc, .int .i64 x.m.sau, .int .i64 x.m.srd, .slice x.m.sda x.m.sdn x.m.sdc, .int .i64 x.m.cau, .int .i64 x.m.crd, .slice x.m.cba x.m.cbn x.m.cbc, .slice x.m.cpa x.m.cpn x.m.cpc, .slice x.m.cva x.m.cvn x.m.cvc, .int .i64 x.m.ro] rfl rfl 37 _ qz sMsg' rfl (by simp [Value.oneCell']) ?_)
  generalize (w1.alloc (.cells #[.int .i64 0, .int .i64 0, .int .i64 0, .int .i64 0, .int .i64 0, .slice none 0 0, .int .i64 0, .int .i64 0, .slice none 0 0, .slice none 0 0, .int .i64 0, .int .i64 0, .slice none 0 0, .int .i64 0, .int .i64 0, .slice none 0 0, .slice none 0 0, .slice none 0 0, .int .i64 0] 37)).setRow w1.heap.size #[.int .i64 x.m.fr, .int .i64 x.m.tt, .int .i64 x.m.ki, .int .i64 x.m.bau, .int .i64 x.m.bnu, .slice x.m.bta x.m.btn x.m.btc, .int .i64 x.m.hau, .int .i64 x.m.hrd, .slice x.m.hba x.m.hbn x.m.hbc, .slice x.m.hpa x.m.hpn x.m.hpc, .int .i64 x.m.sau, .int .i64 x.m.srd, .slice x.m.sda x.m.sdn x.m.sdc, .int .i64 x.m.cau, .int .i64 x.m.crd, .slice x.m.cba x.m.cbn x.m.cbc, .slice x.m.cpa x.m.cpn x.m.cpc, .slice x.m.cva x.m.cvn x.m.cvc, .int .i64 x.m.ro] = W1 at hA1 q1 p2 hM1 ⊢
  clear qz
  have hBW1 := hB1.trans (hA1.mono hB1.size)
  have y2 := cells_at q1 2 _ rfl
  have hltW : w1.heap.size < W1.heap.size := lt_of_heap q1
  by_cases hK : x.m.ki = 1
  · rw [hK] at y2
    have hf2 := frozen_at q1 2
    have HK6 : Hid (checkF { x.m with ki := 6 } (carriedF { x.m with ki := 6 } x.ss x.bl x.pl x.cbl x.cpl x.vl) = 3) := check_kind6 (checkF_ok hC).1 (checkF_ok hC).2.1
    have q3 : (W1.setCell ⟨w1.heap.size, 2, none⟩ (.int .i64 6)).heap[w1.heap.size]? = some (.cells #[.int .i64 x.m.fr, .int .i64 x.m.tt, .int .i64 6, .int .i64 x.m.bau, .int .i64 x.m.bnu, .slice x.m.bta x.m.btn x.m.btc, .int .i64 x.m.hau, .int .i64 x.m.hrd, .slice x.m.hba x.m.hbn x.m.hbc, .slice x.m.hpa x.m.hpn x.m.hpc, .int .i64 x.m.sau, .int .i64 x.m.srd, .slice x.m.sda x.m.sdn x.m.sdc, .int .i64 x.m.cau, .int .i64 x.m.crd, .slice x.m.cba x.m.cbn x.m.cbc, .slice x.m.cpa x.m.cpn x.m.cpc, .slice x.m.cva x.m.cvn x.m.cvc, .int .i64 x.m.ro] 37 (0, 0)) := by simpa using heap_setCell_same _ _ 2 _ _ (.int .i64 6) q1
    have p3 := heap_far (j := 2) (v := .int .i64 6) p2 (show w.heap.size ≠ w1.heap.size by omega)
    have hBW3 := hBW1.setCell (p := ⟨w1.heap.size, 2, none⟩) (show w.heap.size ≤ w1.heap.size by omega) (.int .i64 6)
    have hM3 : MAt (W1.setCell ⟨w1.heap.size, 2, none⟩ (.int .i64 6)) x := hM1.stays (G := fun k => W0.heap.size ≤ k ∧ k < w1.heap.size) (fun k hk => heap_setCell_other _ ⟨w1.heap.size, 2, none⟩ k _ (show k ≠ w1.heap.size by omega)) hX
    have hsz3 : w1.heap.size < (W1.setCell ⟨w1.heap.size, 2, none⟩ (.int .i64 6)).heap.size := lt_of_heap q3
    go_upto_region 18 with (go_at_call 14; refine (HP.out _).mono ?_; rintro e w9 ⟨rfl, rfl⟩)
    generalize W1.setCell ⟨w1.heap.size, 2, none⟩ (.int .i64 6) = W3 at q3 p3 hBW3 hM3 hsz3 ⊢
    clear hM1 q1 p2 y2 hf2
    have u0 := cells_at p3 0 _ rfl
    have u1 := cells_at p3 1 _ rfl
    have u2 := cells_at p3 2 _ rfl
    have u3 := cells_at p3 3 _ rfl
    have u4 := cells_at p3 4 _ rfl
    have hZ := raw_msgM ki ra rb rc sa cap ss0 W3 h1 h2 h3 h4 (h5.below hBW3)
    go_wp2_with fail
    refine hZ.mono ?_
    rintro e w4 ⟨n, he, hMn, -, hNn, hb4, -⟩
    clear hZ
    subst he
    dsimp only
    have hB4 := hBW3.trans (hb4.mono hBW3.size)
    have q4 := (hb4.block _ (lt_of_heap q3)).trans q3
    have hM4 := hM3.below hb4
    have hNL := hNn.has.lt hMn
    have hlt4 : w1.heap.size < w4.heap.size := lt_of_heap q4
    have qz := heap_alloc_new w4 (.cells #[.int .i64 0, .int .i64 0, .int .i64 0, .int .i64 0, .int .i64 0, .slice none 0 0, .int .i64 0, .int .i64 0, .slice none 0 0, .slice none 0 0, .int .i64 0, .int .i64 0, .slice none 0 0, .int .i64 0, .int .i64 0, .slice none 0 0, .slice none 0 0, .slice none 0 0, .int .i64 0] 37)
    have hA5 : Below w4.heap.size w4 ((w4.alloc (.cells #[.int .i64 0, .int .i64 0, .int .i64 0, .int .i64 0, .int .i64 0, .slice none 0 0, .int .i64 0, .int .i64 0, .slice none 0 0, .slice none 0 0, .int .i64 0, .int .i64 0, .slice none 0 0, .int .i64 0, .int .i64 0, .slice none 0 0, .slice none 0 0, .slice none 0 0, .int .i64 0] 37)).setRow w4.heap.size #[.int .i64 n.m.fr, .int .i64 n.m.tt, .int .i64 n.m.ki, .int .i64 n.m.bau, .int .i64 n.m.bnu, .slice n.m.bta n.m.btn n.m.btc, .int .i64 n.m.hau, .int .i64 n.m.hrd, .slice n.m.hba n.m.hbn n.m.hbc, .slice n.m.hpa n.m.hpn n.m.hpc, .int .i64 n.m.sau, .int .i64 n.m.srd, .slice n.m.sda n.m.sdn n.m.sdc, .int .i64 n.m.cau, .int .i64 n.m.crd, .slice n.m.cba n.m.cbn n.m.cbc, .slice n.m.cpa n.m.cpn n.m.cpc, .slice n.m.cva n.m.cvn n.m.cvc, .int .i64 n.m.ro]) := laid_row w4 #[.int .i64 0, .int .i64 0, .int .i64 0, .int .i64 0, .int .i64 0, .slice none 0 0, .int .i64 0, .int .i64 0, .slice none 0 0, .slice none 0 0, .int .i64 0, .int .i64 0, .slice none 0 0, .int .i64 0, .int .i64 0, .slice none 0 0, .slice none 0 0, .slice none 0 0, .int .i64 0] #[.int .i64 n.m.fr, .int .i64 n.m.tt, .int .i64 n.m.ki, .int .i64 n.m.bau, .int .i64 n.m.bnu, .slice n.m.bta n.m.btn n.m.btc, .int .i64 n.m.hau, .int .i64 n.m.hrd, .slice n.m.hba n.m.hbn n.m.hbc, .slice n.m.hpa n.m.hpn n.m.hpc, .int .i64 n.m.sau, .int .i64 n.m.srd, .slice n.m.sda n.m.sdn n.m.sdc, .int .i64 n.m.cau, .int .i64 n.m.crd, .slice n.m.cba n.m.cbn n.m.cbc, .slice n.m.cpa n.m.cpn n.m.cpc, .slice n.m.cva n.m.cvn n.m.cvc, .int .i64 n.m.ro] 37
    have qN := setRow_heap _ _ _ #[.int .i64 n.m.fr, .int .i64 n.m.tt, .int .i64 n.m.ki, .int .i64 n.m.bau, .int .i64 n.m.bnu, .slice n.m.bta n.m.btn n.m.btc, .int .i64 n.m.hau, .int .i64 n.m.hrd, .slice n.m.hba n.m.hbn n.m.hbc, .slice n.m.hpa n.m.hpn n.m.hpc, .int .i64 n.m.sau, .int .i64 n.m.srd, .slice n.m.sda n.m.sdn n.m.sdc, .int .i64 n.m.cau, .int .i64 n.m.crd, .slice n.m.cba n.m.cbn n.m.cbc, .slice n.m.cpa n.m.cpn n.m.cpc, .slice n.m.cva n.m.cvn n.m.cvc, .int .i64 n.m.ro] _ _ qz
    go_upto_region 19 with (refine wpList_store_row rfl 37 _ _ rfl w4.heap.size #[.int .i64 n.m.fr, .int .i64 n.m.tt, .int .i64 n.m.ki, .int .i64 n.m.bau, .int .i64 n.m.bnu, .slice n.m.bta n.m.btn n.m.btc, .int .i64 n.m.hau, .int .i64 n.m.hrd, .slice n.m.hba n.m.hbn n.m.hbc, .slice n.m.hpa n.m.hpn n.m.hpc, .int .i64 n.m.sau, .int .i64 n.m.srd, .slice n.m.sda n.m.sdn n.m.sdc, .int .i64 n.m.cau, .int .i64 n.m.crd, .slice n.m.cba n.m.cbn n.m.cbc, .slice n.m.cpa n.m.cpn n.m.cpc, .slice n.m.cva n.m.cvn n.m.cvc, .int .i64 n.m.ro] rfl rfl 37 _ qz sMsg' rfl (by simp [Value.oneCell']) ?_)
    generalize (w4.alloc (.cells #[.int .i64 0, .int .i64 0, .int .i64 0, .int .i64 0, .int .i64 0, .slice none 0 0, .int .i64 0, .int .i64 0, .slice none 0 0, .slice none 0 0, .int .i64 0, .int .i64 0, .slice none 0 0, .int .i64 0, .int .i64 0, .slice none 0 0, .slice none 0 0, .slice none 0 0, .int .i64 0] 37)).setRow w4.heap.size #[.int .i64 n.m.fr, .int .i64 n.m.tt, .int .i64 n.m.ki, .int .i64 n.m.bau, .int .i64 n.m.bnu, .slice n.m.bta n.m.btn n.m.btc, .int .i64 n.m.hau, .int .i64 n.m.hrd, .slice n.m.hba n.m.hbn n.m.hbc, .slice n.m.hpa n.m.hpn n.m.hpc, .int .i64 n.m.sau, .int .i64 n.m.srd, .slice n.m.sda n.m.sdn n.m.sdc, .int .i64 n.m.cau, .int .i64 n.m.crd, .slice n.m.cba n.m.cbn n.m.cbc, .slice n.m.cpa n.m.cpn n.m.cpc, .slice n.m.cva n.m.cvn n.m.cvc, .int .i64 n.m.ro] = W5 at hA5 qN ⊢
    clear qz
    have q5 := (hA5.block _ (lt_of_heap q4)).trans q4
    have hM5 := hM4.below hA5
    have hMn5 := hMn.below hA5
    have hBW5 := hB4.trans (hA5.mono hB4.size)
    have n0 := cells_at qN 0 _ rfl
    have nf := frozen_at qN 0
    have qN6 : (W5.setCell ⟨w4.heap.size, 0, none⟩ (.int .i64 4)).heap[w4.heap.size]? = some (.cells #[.int .i64 4, .int .i64 n.m.tt, .int .i64 n.m.ki, .int .i64 n.m.bau, .int .i64 n.m.bnu, .slice n.m.bta n.m.btn n.m.btc, .int .i64 n.m.hau, .int .i64 n.m.hrd, .slice n.m.hba n.m.hbn n.m.hbc, .slice n.m.hpa n.m.hpn n.m.hpc, .int .i64 n.m.sau, .int .i64 n.m.srd, .slice n.m.sda n.m.sdn n.m.sdc, .int .i64 n.m.cau, .int .i64 n.m.crd, .slice n.m.cba n.m.cbn n.m.cbc, .slice n.m.cpa n.m.cpn n.m.cpc, .slice n.m.cva n.m.cvn n.m.cvc, .int .i64 n.m.ro] 37 (0, 0)) := by simpa using heap_setCell_same _ _ 0 _ _ (.int .i64 4) qN
    have q6 := heap_far (j := 0) (v := .int .i64 4) q5 (show w1.heap.size ≠ w4.heap.size by omega)
    have hBW6 := hBW5.setCell (p := ⟨w4.heap.size, 0, none⟩) (show w.heap.size ≤ w4.heap.size by omega) (.int .i64 4)
    have hM6 : MAt (W5.setCell ⟨w4.heap.size, 0, none⟩ (.int .i64 4)) x := hM5.stays (G := fun k => W0.heap.size ≤ k ∧ k < w1.heap.size) (fun k hk => heap_setCell_other _ ⟨w4.heap.size, 0, none⟩ k _ (show k ≠ w4.heap.size by omega)) hX
    have hMn6 : MAt (W5.setCell ⟨w4.heap.size, 0, none⟩ (.int .i64 4)) n := hMn5.stays (G := fun k => W3.heap.size ≤ k ∧ k < w4.heap.size) (fun k hk => heap_setCell_other _ ⟨w4.heap.size, 0, none⟩ k _ (show k ≠ w4.heap.size by omega)) hNL
    go_upto_region 20 with fail
    generalize W5.setCell ⟨w4.heap.size, 0, none⟩ (.int .i64 4) = W6 at qN6 q6 hBW6 hM6 hMn6 ⊢
    clear n0 nf hM5 hMn5 qN q5 u0 u1 u2 u3 u4
    have H6 := hM6.at'
    have hC6 := check_any { x.m with ki := 6 } x.ss x.bl x.pl x.cbl x.cpl x.vl W6 ⟨H6.e1, H6.e2, H6.e3, H6.e4, H6.e5, H6.e6, H6.s1, H6.s6, H6.s7, H6.txs, H6.bat, H6.par, H6.cbat, H6.cpar, H6.vot⟩
    rw [HK6.out] at hC6
    go_wp2_with (refine wpList_load_row rfl 37 _ rfl w1.heap.size rfl 37 #[.int .i64 x.m.fr, .int .i64 x.m.tt, .int .i64 6, .int .i64 x.m.bau, .int .i64 x.m.bnu, .slice x.m.bta x.m.btn x.m.btc, .int .i64 x.m.hau, .int .i64 x.m.hrd, .slice x.m.hba x.m.hbn x.m.hbc, .slice x.m.hpa x.m.hpn x.m.hpc, .int .i64 x.m.sau, .int .i64 x.m.srd, .slice x.m.sda x.m.sdn x.m.sdc, .int .i64 x.m.cau, .int .i64 x.m.crd, .slice x.m.cba x.m.cbn x.m.cbc, .slice x.m.cpa x.m.cpn x.m.cpc, .slice x.m.cva x.m.cvn x.m.cvc, .int .i64 x.m.ro] (0, 0) _ q6 Try.underlying37 rfl sMsg' ?_)
    refine hC6.mono ?_
    rintro e w7 ⟨he, hb7⟩
    clear hC6
    subst he
    dsimp only
    have qN7 := (hb7.block _ (lt_of_heap qN6)).trans qN6
    have H7 := (hMn6.below hb7).at'
    have hC7 := check_any { n.m with fr := 4 } n.ss n.bl n.pl n.cbl n.cpl n.vl w7 ⟨H7.e1, H7.e2, H7.e3, H7.e4, H7.e5, H7.e6, H7.s1, H7.s6, H7.s7, H7.txs, H7.bat, H7.par, H7.cbat, H7.cpar, H7.vot⟩
    rw [check_from4] at hC7
    have hB7 := hBW6.trans (hb7.mono hBW6.size)
    go_wp2_with (refine wpList_load_row_w rfl 37 _ rfl w4.heap.size rfl 37 #[.int .i64 4, .int .i64 n.m.tt, .int .i64 n.m.ki, .int .i64 n.m.bau, .int .i64 n.m.bnu, .slice n.m.bta n.m.btn n.m.btc, .int .i64 n.m.hau, .int .i64 n.m.hrd, .slice n.m.hba n.m.hbn n.m.hbc, .slice n.m.hpa n.m.hpn n.m.hpc, .int .i64 n.m.sau, .int .i64 n.m.srd, .slice n.m.sda n.m.sdn n.m.sdc, .int .i64 n.m.cau, .int .i64 n.m.crd, .slice n.m.cba n.m.cbn n.m.cbc, .slice n.m.cpa n.m.cpn n.m.cpc, .slice n.m.cva n.m.cvn n.m.cvc, .int .i64 n.m.ro] (0, 0) _ qN7 Try.underlying37 rfl sMsg' ?_)
    refine hC7.mono ?_
    rintro e w8 ⟨he, hb8⟩
    clear hC7
    subst he
    dsimp only
    go_wp2_with fail
    go_ret
    exact ⟨rfl, hB7.trans (hb8.mono hB7.size)⟩
  · have hKn : (1 : Int) ≠ x.m.ki := fun e => hK e.symm
    have u1 := cells_at p2 1 _ rfl
    have u2 := cells_at p2 2 _ rfl
    have u3 := cells_at p2 3 _ rfl
    have hZ := raw_msgM 0 ra rb rc none 0 [] W1 ⟨by decide, by decide⟩ h2 h3 h4 (texts_none _)
    go_wp2_with (go_at_call 14; refine (HP.out _).mono ?_; rintro e w9 ⟨rfl, rfl⟩)
    refine hZ.mono ?_
    rintro e w2 ⟨z, he, hMz, -, hNz, hb2, hkz, z1, z2, z3, z4, z5⟩
    rw [pk_smallM (a := 0) (by decide)] at hkz
    have HZ : Hid (z.m.bnu ≠ 0) := z1 hkz
    clear hZ z1 z2 z3 z4 z5 hkz u1 u2 u3 y2
    subst he
    dsimp only
    have hB2 := hBW1.trans (hb2.mono hBW1.size)
    have q2 := (hb2.block _ (lt_of_heap q1)).trans q1
    have hlt2 : w1.heap.size < w2.heap.size := lt_of_heap q2
    have qz := heap_alloc_new w2 (.cells #[.int .i64 0, .int .i64 0, .int .i64 0, .int .i64 0, .int .i64 0, .slice none 0 0, .int .i64 0, .int .i64 0, .slice none 0 0, .slice none 0 0, .int .i64 0, .int .i64 0, .slice none 0 0, .int .i64 0, .int .i64 0, .slice none 0 0, .slice none 0 0, .slice none 0 0, .int .i64 0] 37)
    have hA2 : Below w2.heap.size w2 ((w2.alloc (.cells #[.int .i64 0, .int .i64 0, .int .i64 0, .int .i64 0, .int .i64 0, .slice none 0 0, .int .i64 0, .int .i64 0, .slice none 0 0, .slice none 0 0, .int .i64 0, .int .i64 0, .slice none 0 0, .int .i64 0, .int .i64 0, .slice none 0 0, .slice none 0 0, .slice none 0 0, .int .i64 0] 37)).setRow w2.heap.size #[.int .i64 z.m.fr, .int .i64 z.m.tt, .int .i64 z.m.ki, .int .i64 z.m.bau, .int .i64 z.m.bnu, .slice z.m.bta z.m.btn z.m.btc, .int .i64 z.m.hau, .int .i64 z.m.hrd, .slice z.m.hba z.m.hbn z.m.hbc, .slice z.m.hpa z.m.hpn z.m.hpc, .int .i64 z.m.sau, .int .i64 z.m.srd, .slice z.m.sda z.m.sdn z.m.sdc, .int .i64 z.m.cau, .int .i64 z.m.crd, .slice z.m.cba z.m.cbn z.m.cbc, .slice z.m.cpa z.m.cpn z.m.cpc, .slice z.m.cva z.m.cvn z.m.cvc, .int .i64 z.m.ro]) := laid_row w2 #[.int .i64 0, .int .i64 0, .int .i64 0, .int .i64 0, .int .i64 0, .slice none 0 0, .int .i64 0, .int .i64 0, .slice none 0 0, .slice none 0 0, .int .i64 0, .int .i64 0, .slice none 0 0, .int .i64 0, .int .i64 0, .slice none 0 0, .slice none 0 0, .slice none 0 0, .int .i64 0] #[.int .i64 z.m.fr, .int .i64 z.m.tt, .int .i64 z.m.ki, .int .i64 z.m.bau, .int .i64 z.m.bnu, .slice z.m.bta z.m.btn z.m.btc, .int .i64 z.m.hau, .int .i64 z.m.hrd, .slice z.m.hba z.m.hbn z.m.hbc, .slice z.m.hpa z.m.hpn z.m.hpc, .int .i64 z.m.sau, .int .i64 z.m.srd, .slice z.m.sda z.m.sdn z.m.sdc, .int .i64 z.m.cau, .int .i64 z.m.crd, .slice z.m.cba z.m.cbn z.m.cbc, .slice z.m.cpa z.m.cpn z.m.cpc, .slice z.m.cva z.m.cvn z.m.cvc, .int .i64 z.m.ro] 37
    have qZ := setRow_heap _ _ _ #[.int .i64 z.m.fr, .int .i64 z.m.tt, .int .i64 z.m.ki, .int .i64 z.m.bau, .int .i64 z.m.bnu, .slice z.m.bta z.m.btn z.m.btc, .int .i64 z.m.hau, .int .i64 z.m.hrd, .slice z.m.hba z.m.hbn z.m.hbc, .slice z.m.hpa z.m.hpn z.m.hpc, .int .i64 z.m.sau, .int .i64 z.m.srd, .slice z.m.sda z.m.sdn z.m.sdc, .int .i64 z.m.cau, .int .i64 z.m.crd, .slice z.m.cba z.m.cbn z.m.cbc, .slice z.m.cpa z.m.cpn z.m.cpc, .slice z.m.cva z.m.cvn z.m.cvc, .int .i64 z.m.ro] _ _ qz
    go_upto_region 5 with (refine wpList_store_row rfl 37 _ _ rfl w2.heap.size #[.int .i64 z.m.fr, .int .i64 z.m.tt, .int .i64 z.m.ki, .int .i64 z.m.bau, .int .i64 z.m.bnu, .slice z.m.bta z.m.btn z.m.btc, .int .i64 z.m.hau, .int .i64 z.m.hrd, .slice z.m.hba z.m.hbn z.m.hbc, .slice z.m.hpa z.m.hpn z.m.hpc, .int .i64 z.m.sau, .int .i64 z.m.srd, .slice z.m.sda z.m.sdn z.m.sdc, .int .i64 z.m.cau, .int .i64 z.m.crd, .slice z.m.cba z.m.cbn z.m.cbc, .slice z.m.cpa z.m.cpn z.m.cpc, .slice z.m.cva z.m.cvn z.m.cvc, .int .i64 z.m.ro] rfl rfl 37 _ qz sMsg' rfl (by simp [Value.oneCell']) ?_)
    generalize (w2.alloc (.cells #[.int .i64 0, .int .i64 0, .int .i64 0, .int .i64 0, .int .i64 0, .slice none 0 0, .int .i64 0, .int .i64 0, .slice none 0 0, .slice none 0 0, .int .i64 0, .int .i64 0, .slice none 0 0, .int .i64 0, .int .i64 0, .slice none 0 0, .slice none 0 0, .slice none 0 0, .int .i64 0] 37)).setRow w2.heap.size #[.int .i64 z.m.fr, .int .i64 z.m.tt, .int .i64 z.m.ki, .int .i64 z.m.bau, .int .i64 z.m.bnu, .slice z.m.bta z.m.btn z.m.btc, .int .i64 z.m.hau, .int .i64 z.m.hrd, .slice z.m.hba z.m.hbn z.m.hbc, .slice z.m.hpa z.m.hpn z.m.hpc, .int .i64 z.m.sau, .int .i64 z.m.srd, .slice z.m.sda z.m.sdn z.m.sdc, .int .i64 z.m.cau, .int .i64 z.m.crd, .slice z.m.cba z.m.cbn z.m.cbc, .slice z.m.cpa z.m.cpn z.m.cpc, .slice z.m.cva z.m.cvn z.m.cvc, .int .i64 z.m.ro] = W2 at hA2 qZ ⊢
    clear qz
    have hBW2 := hB2.trans (hA2.mono hB2.size)
    have q3 := (hA2.block _ (lt_of_heap q2)).trans q2
    have hMx3 := (hM1.below hb2).below hA2
    have hMz3 := hMz.below hA2
    have hble : w.heap.size ≤ w1.heap.size := by omega
    have zc3 := cells_at qZ 3 _ rfl
    have xc3 := cells_at q3 3 _ rfl
    have xf3 := frozen_at q3 3
    have zc4 := cells_at qZ 4 _ rfl
    have xc4 := cells_at q3 4 _ rfl
    have xf4 := frozen_at q3 4
    have zc5 := cells_at qZ 5 _ rfl
    have xc5 := cells_at q3 5 _ rfl
    have xf5 := frozen_at q3 5
    have rF : (((W2.setCell ⟨w1.heap.size, 3, none⟩ (.int .i64 z.m.bau)).setCell ⟨w1.heap.size, 4, none⟩ (.int .i64 z.m.bnu)).setCell ⟨w1.heap.size, 5, none⟩ (.slice z.m.bta z.m.btn z.m.btc)).heap[w1.heap.size]? = some (.cells #[.int .i64 x.m.fr, .int .i64 x.m.tt, .int .i64 x.m.ki, .int .i64 z.m.bau, .int .i64 z.m.bnu, .slice z.m.bta z.m.btn z.m.btc, .int .i64 x.m.hau, .int .i64 x.m.hrd, .slice x.m.hba x.m.hbn x.m.hbc, .slice x.m.hpa x.m.hpn x.m.hpc, .int .i64 x.m.sau, .int .i64 x.m.srd, .slice x.m.sda x.m.sdn x.m.sdc, .int .i64 x.m.cau, .int .i64 x.m.crd, .slice x.m.cba x.m.cbn x.m.cbc, .slice x.m.cpa x.m.cpn x.m.cpc, .slice x.m.cva x.m.cvn x.m.cvc, .int .i64 x.m.ro] 37 (0, 0)) := by simpa using (heap_setCell_same _ _ 5 _ _ (.slice z.m.bta z.m.btn z.m.btc) (heap_setCell_same _ _ 4 _ _ (.int .i64 z.m.bnu) (heap_setCell_same _ _ 3 _ _ (.int .i64 z.m.bau) q3)))
    have hoth : ∀ k, k ≠ w1.heap.size → (((W2.setCell ⟨w1.heap.size, 3, none⟩ (.int .i64 z.m.bau)).setCell ⟨w1.heap.size, 4, none⟩ (.int .i64 z.m.bnu)).setCell ⟨w1.heap.size, 5, none⟩ (.slice z.m.bta z.m.btn z.m.btc)).heap[k]? = W2.heap[k]? := fun k hk => ((heap_setCell_other _ ⟨w1.heap.size, 5, none⟩ k _ hk).trans ((heap_setCell_other _ ⟨w1.heap.size, 4, none⟩ k _ hk).trans ((heap_setCell_other _ ⟨w1.heap.size, 3, none⟩ k _ hk).trans rfl)))
    have hBF := (((hBW2.setCell (p := ⟨w1.heap.size, 3, none⟩) hble (.int .i64 z.m.bau)).setCell (p := ⟨w1.heap.size, 4, none⟩) hble (.int .i64 z.m.bnu)).setCell (p := ⟨w1.heap.size, 5, none⟩) hble (.slice z.m.bta z.m.btn z.m.btc))
    go_upto_region 15 with fail
    generalize (((W2.setCell ⟨w1.heap.size, 3, none⟩ (.int .i64 z.m.bau)).setCell ⟨w1.heap.size, 4, none⟩ (.int .i64 z.m.bnu)).setCell ⟨w1.heap.size, 5, none⟩ (.slice z.m.bta z.m.btn z.m.btc)) = W4 at rF hoth hBF ⊢
    clear q3 qZ zc3 xc3 xf3 zc4 xc4 xf4 zc5 xc5 xf5
    have hMx4 : MAt W4 x := hMx3.stays (G := fun k => W0.heap.size ≤ k ∧ k < w1.heap.size) (fun k hk => hoth k (by omega)) hX
    have hMz4 : MAt W4 z := hMz3.stays (G := fun k => W1.heap.size ≤ k) (fun k hk => hoth k (by omega)) hNz.has
    have hMM := mix1_at hMx4 hMz4
    have h44 : checkF (x.mix1 z).m (carriedF (x.mix1 z).m (x.mix1 z).ss (x.mix1 z).bl (x.mix1 z).pl (x.mix1 z).cbl (x.mix1 z).cpl (x.mix1 z).vl) = 4 := more1 hC hK HZ.out
    have hE := encode_any (x.mix1 z).m (x.mix1 z).ss (x.mix1 z).bl (x.mix1 z).pl (x.mix1 z).cbl (x.mix1 z).cpl (x.mix1 z).ds (x.mix1 z).vl W4 hMM.at' hMM.dig hMM.dn
    rw [h44] at hE
    go_wp2_with (refine wpList_load_row rfl 37 _ rfl w1.heap.size rfl 37 #[.int .i64 x.m.fr, .int .i64 x.m.tt, .int .i64 x.m.ki, .int .i64 z.m.bau, .int .i64 z.m.bnu, .slice z.m.bta z.m.btn z.m.btc, .int .i64 x.m.hau, .int .i64 x.m.hrd, .slice x.m.hba x.m.hbn x.m.hbc, .slice x.m.hpa x.m.hpn x.m.hpc, .int .i64 x.m.sau, .int .i64 x.m.srd, .slice x.m.sda x.m.sdn x.m.sdc, .int .i64 x.m.cau, .int .i64 x.m.crd, .slice x.m.cba x.m.cbn x.m.cbc, .slice x.m.cpa x.m.cpn x.m.cpc, .slice x.m.cva x.m.cvn x.m.cvc, .int .i64 x.m.ro] (0, 0) _ rF Try.underlying37 rfl sMsg' ?_)
    refine hE.mono ?_
    rintro e w5 ⟨v, he, -, hb5⟩
    clear hE
    subst he
    dsimp only
    have hB5 := hBF.trans (hb5.mono hBF.size)
    have rF5 := (hb5.block _ (lt_of_heap rF)).trans rF
    have hCk := check_any (x.mix1 z).m (x.mix1 z).ss (x.mix1 z).bl (x.mix1 z).pl (x.mix1 z).cbl (x.mix1 z).cpl (x.mix1 z).vl w5 (hMM.at'.below hb5)
    rw [h44] at hCk
    go_wp2_with (refine wpList_load_row rfl 37 _ rfl w1.heap.size rfl 37 #[.int .i64 x.m.fr, .int .i64 x.m.tt, .int .i64 x.m.ki, .int .i64 z.m.bau, .int .i64 z.m.bnu, .slice z.m.bta z.m.btn z.m.btc, .int .i64 x.m.hau, .int .i64 x.m.hrd, .slice x.m.hba x.m.hbn x.m.hbc, .slice x.m.hpa x.m.hpn x.m.hpc, .int .i64 x.m.sau, .int .i64 x.m.srd, .slice x.m.sda x.m.sdn x.m.sdc, .int .i64 x.m.cau, .int .i64 x.m.crd, .slice x.m.cba x.m.cbn x.m.cbc, .slice x.m.cpa x.m.cpn x.m.cpc, .slice x.m.cva x.m.cvn x.m.cvc, .int .i64 x.m.ro] (0, 0) _ rF5 Try.underlying37 rfl sMsg' ?_)
    refine hCk.mono ?_
    rintro e w6 ⟨he, hb6⟩
    clear hCk
    subst he
    dsimp only
    go_wp2_with fail
    go_ret
    exact ⟨rfl, hB5.trans (hb6.mono hB5.size)⟩
set_option maxRecDepth 100000 in
set_option maxHeartbeats 8000000 in
theorem more_walk2 (ki ra rb rc : Int) (sa : Option Addr) (cap : Nat) (ss0 : List ByteArray) (kd : Int) (w : World) (h1 : I64 ki) (h2 : I64 ra) (h3 : I64 rb) (h4 : I64 rc) (h5 : TextsAt w sa cap ss0) (hn1 : -9223372036854775808 ≤ kd) (hn2 : kd ≤ 9223372036854775807) (hkd : pk kd 5 = 1) :
    Calls Try.prog 6 #[.agg #[.int .i64 ki, .int .i64 ra, .int .i64 rb, .int .i64 rc, .slice sa ss0.length cap], .int .i64 kd] w fun e w' => e = .returned (.bool true) ∧ Below w.heap.size w w' := by
  have HP : Hid (∀ W : World, Calls Try.prog 14 #[.int .i64 kd, .int .i64 5] W fun e w' => e = .returned (.int .i64 1) ∧ W = w') := by
    show ∀ _, _
    intro W
    rw [← hkd]
    exact picked_any kd 5 W hn1 hn2 (by omega) (by omega)
  clear hkd
  have hA : Below w.heap.size w (w.alloc (.cells #[.int .i64 ki, .int .i64 ra, .int .i64 rb, .int .i64 rc, .slice sa ss0.length cap] 24)) := (Below.refl _ _).alloc (Nat.le_refl _) _
  have p0 := heap_alloc_new w (.cells #[.int .i64 ki, .int .i64 ra, .int .i64 rb, .int .i64 rc, .slice sa ss0.length cap] 24)
  go_enter Try.func6, Try.ntmps6
  go_wp2_with fail
  generalize w.alloc (.cells #[.int .i64 ki, .int .i64 ra, .int .i64 rb, .int .i64 rc, .slice sa ss0.length cap] 24) = W0 at hA p0 ⊢
  refine (raw_msgM ki ra rb rc sa cap ss0 W0 h1 h2 h3 h4 (h5.below hA)).mono ?_
  rintro e w1 ⟨x, he, hM, hC, hN, hb1, -⟩
  have hB1 := hA.trans (hb1.mono hA.size)
  subst he
  dsimp only
  have p1 := (hb1.block _ (lt_of_heap p0)).trans p0
  have qz := heap_alloc_new w1 (.cells #[.int .i64 0, .int .i64 0, .int .i64 0, .int .i64 0, .int .i64 0, .slice none 0 0, .int .i64 0, .int .i64 0, .slice none 0 0, .slice none 0 0, .int .i64 0, .int .i64 0, .slice none 0 0, .int .i64 0, .int .i64 0, .slice none 0 0, .slice none 0 0, .slice none 0 0, .int .i64 0] 37)
  have hA1 : Below w1.heap.size w1 ((w1.alloc (.cells #[.int .i64 0, .int .i64 0, .int .i64 0, .int .i64 0, .int .i64 0, .slice none 0 0, .int .i64 0, .int .i64 0, .slice none 0 0, .slice none 0 0, .int .i64 0, .int .i64 0, .slice none 0 0, .int .i64 0, .int .i64 0, .slice none 0 0, .slice none 0 0, .slice none 0 0, .int .i64 0] 37)).setRow w1.heap.size #[.int .i64 x.m.fr, .int .i64 x.m.tt, .int .i64 x.m.ki, .int .i64 x.m.bau, .int .i64 x.m.bnu, .slice x.m.bta x.m.btn x.m.btc, .int .i64 x.m.hau, .int .i64 x.m.hrd, .slice x.m.hba x.m.hbn x.m.hbc, .slice x.m.hpa x.m.hpn x.m.hpc, .int .i64 x.m.sau, .int .i64 x.m.srd, .slice x.m.sda x.m.sdn x.m.sdc, .int .i64 x.m.cau, .int .i64 x.m.crd, .slice x.m.cba x.m.cbn x.m.cbc, .slice x.m.cpa x.m.cpn x.m.cpc, .slice x.m.cva x.m.cvn x.m.cvc, .int .i64 x.m.ro]) := laid_row w1 #[.int .i64 0, .int .i64 0, .int .i64 0, .int .i64 0, .int .i64 0, .slice none 0 0, .int .i64 0, .int .i64 0, .slice none 0 0, .slice none 0 0, .int .i64 0, .int .i64 0, .slice none 0 0, .int .i64 0, .int .i64 0, .slice none 0 0, .slice none 0 0, .slice none 0 0, .int .i64 0] #[.int .i64 x.m.fr, .int .i64 x.m.tt, .int .i64 x.m.ki, .int .i64 x.m.bau, .int .i64 x.m.bnu, .slice x.m.bta x.m.btn x.m.btc, .int .i64 x.m.hau, .int .i64 x.m.hrd, .slice x.m.hba x.m.hbn x.m.hbc, .slice x.m.hpa x.m.hpn x.m.hpc, .int .i64 x.m.sau, .int .i64 x.m.srd, .slice x.m.sda x.m.sdn x.m.sdc, .int .i64 x.m.cau, .int .i64 x.m.crd, .slice x.m.cba x.m.cbn x.m.cbc, .slice x.m.cpa x.m.cpn x.m.cpc, .slice x.m.cva x.m.cvn x.m.cvc, .int .i64 x.m.ro] 37
  have q1 := setRow_heap _ _ _ #[.int .i64 x.m.fr, .int .i64 x.m.tt, .int .i64 x.m.ki, .int .i64 x.m.bau, .int .i64 x.m.bnu, .slice x.m.bta x.m.btn x.m.btc, .int .i64 x.m.hau, .int .i64 x.m.hrd, .slice x.m.hba x.m.hbn x.m.hbc, .slice x.m.hpa x.m.hpn x.m.hpc, .int .i64 x.m.sau, .int .i64 x.m.srd, .slice x.m.sda x.m.sdn x.m.sdc, .int .i64 x.m.cau, .int .i64 x.m.crd, .slice x.m.cba x.m.cbn x.m.cbc, .slice x.m.cpa x.m.cpn x.m.cpc, .slice x.m.cva x.m.cvn x.m.cvc, .int .i64 x.m.ro] _ _ qz
  have hlt0 : w.heap.size < w1.heap.size := lt_of_heap p1
  have p2 := (hA1.block _ (lt_of_heap p1)).trans p1
  have hX := hN.has.lt hM
  have hM1 := hM.below hA1
  go_upto_region 2 with (refine wpList_store_row rfl 37 _ _ rfl w1.heap.size #[.int .i64 x.m.fr, .int .i64 x.m.tt, .int .i64 x.m.ki, .int .i64 x.m.bau, .int .i64 x.m.bnu, .slice x.m.bta x.m.btn x.m.btc, .int .i64 x.m.hau, .int .i64 x.m.hrd, .slice x.m.hba x.m.hbn x.m.hbc, .slice x.m.hpa x.m.hpn x.m.hpc, .int .i64 x.m.sau, .int .i64 x.m.srd, .slice x.m.sda x.m.sdn x.m.sdc, .int .i64 x.m.cau, .int .i64 x.m.crd, .slice x.m.cba x.m.cbn x.m.cbc, .slice x.m.cpa x.m.cpn x.m.cpc, .slice x.m.cva x.m.cvn x.m.cvc, .int .i64 x.m.ro] rfl rfl 37 _ qz sMsg' rfl (by simp [Value.oneCell']) ?_)
  generalize (w1.alloc (.cells #[.int .i64 0, .int .i64 0, .int .i64 0, .int .i64 0, .int .i64 0, .slice none 0 0, .int .i64 0, .int .i64 0, .slice none 0 0, .slice none 0 0, .int .i64 0, .int .i64 0, .slice none 0 0, .int .i64 0, .int .i64 0, .slice none 0 0, .slice none 0 0, .slice none 0 0, .int .i64 0] 37)).setRow w1.heap.size #[.int .i64 x.m.fr, .int .i64 x.m.tt, .int .i64 x.m.ki, .int .i64 x.m.bau, .int .i64 x.m.bnu, .slice x.m.bta x.m.btn x.m.btc, .int .i64 x.m.hau, .int .i64 x.m.hrd, .slice x.m.hba x.m.hbn x.m.hbc, .slice x.m.hpa x.m.hpn x.m.hpc, .int .i64 x.m.sau, .int .i64 x.m.srd, .slice x.m.sda x.m.sdn x.m.sdc, .int .i64 x.m.cau, .int .i64 x.m.crd, .slice x.m.cba x.m.cbn x.m.cbc, .slice x.m.cpa x.m.cpn x.m.cpc, .slice x.m.cva x.m.cvn x.m.cvc, .int .i64 x.m.ro] = W1 at hA1 q1 p2 hM1 ⊢
  clear qz
  have hBW1 := hB1.trans (hA1.mono hB1.size)
  have y2 := cells_at q1 2 _ rfl
  have hltW : w1.heap.size < W1.heap.size := lt_of_heap q1
  by_cases hK : x.m.ki = 2
  · rw [hK] at y2
    have hf2 := frozen_at q1 2
    have HK6 : Hid (checkF { x.m with ki := 6 } (carriedF { x.m with ki := 6 } x.ss x.bl x.pl x.cbl x.cpl x.vl) = 3) := check_kind6 (checkF_ok hC).1 (checkF_ok hC).2.1
    have q3 : (W1.setCell ⟨w1.heap.size, 2, none⟩ (.int .i64 6)).heap[w1.heap.size]? = some (.cells #[.int .i64 x.m.fr, .int .i64 x.m.tt, .int .i64 6, .int .i64 x.m.bau, .int .i64 x.m.bnu, .slice x.m.bta x.m.btn x.m.btc, .int .i64 x.m.hau, .int .i64 x.m.hrd, .slice x.m.hba x.m.hbn x.m.hbc, .slice x.m.hpa x.m.hpn x.m.hpc, .int .i64 x.m.sau, .int .i64 x.m.srd, .slice x.m.sda x.m.sdn x.m.sdc, .int .i64 x.m.cau, .int .i64 x.m.crd, .slice x.m.cba x.m.cbn x.m.cbc, .slice x.m.cpa x.m.cpn x.m.cpc, .slice x.m.cva x.m.cvn x.m.cvc, .int .i64 x.m.ro] 37 (0, 0)) := by simpa using heap_setCell_same _ _ 2 _ _ (.int .i64 6) q1
    have p3 := heap_far (j := 2) (v := .int .i64 6) p2 (show w.heap.size ≠ w1.heap.size by omega)
    have hBW3 := hBW1.setCell (p := ⟨w1.heap.size, 2, none⟩) (show w.heap.size ≤ w1.heap.size by omega) (.int .i64 6)
    have hM3 : MAt (W1.setCell ⟨w1.heap.size, 2, none⟩ (.int .i64 6)) x := hM1.stays (G := fun k => W0.heap.size ≤ k ∧ k < w1.heap.size) (fun k hk => heap_setCell_other _ ⟨w1.heap.size, 2, none⟩ k _ (show k ≠ w1.heap.size by omega)) hX
    have hsz3 : w1.heap.size < (W1.setCell ⟨w1.heap.size, 2, none⟩ (.int .i64 6)).heap.size := lt_of_heap q3
    go_upto_region 18 with (go_at_call 14; refine (HP.out _).mono ?_; rintro e w9 ⟨rfl, rfl⟩)
    generalize W1.setCell ⟨w1.heap.size, 2, none⟩ (.int .i64 6) = W3 at q3 p3 hBW3 hM3 hsz3 ⊢
    clear hM1 q1 p2 y2 hf2
    have u0 := cells_at p3 0 _ rfl
    have u1 := cells_at p3 1 _ rfl
    have u2 := cells_at p3 2 _ rfl
    have u3 := cells_at p3 3 _ rfl
    have u4 := cells_at p3 4 _ rfl
    have hZ := raw_msgM ki ra rb rc sa cap ss0 W3 h1 h2 h3 h4 (h5.below hBW3)
    go_wp2_with fail
    refine hZ.mono ?_
    rintro e w4 ⟨n, he, hMn, -, hNn, hb4, -⟩
    clear hZ
    subst he
    dsimp only
    have hB4 := hBW3.trans (hb4.mono hBW3.size)
    have q4 := (hb4.block _ (lt_of_heap q3)).trans q3
    have hM4 := hM3.below hb4
    have hNL := hNn.has.lt hMn
    have hlt4 : w1.heap.size < w4.heap.size := lt_of_heap q4
    have qz := heap_alloc_new w4 (.cells #[.int .i64 0, .int .i64 0, .int .i64 0, .int .i64 0, .int .i64 0, .slice none 0 0, .int .i64 0, .int .i64 0, .slice none 0 0, .slice none 0 0, .int .i64 0, .int .i64 0, .slice none 0 0, .int .i64 0, .int .i64 0, .slice none 0 0, .slice none 0 0, .slice none 0 0, .int .i64 0] 37)
    have hA5 : Below w4.heap.size w4 ((w4.alloc (.cells #[.int .i64 0, .int .i64 0, .int .i64 0, .int .i64 0, .int .i64 0, .slice none 0 0, .int .i64 0, .int .i64 0, .slice none 0 0, .slice none 0 0, .int .i64 0, .int .i64 0, .slice none 0 0, .int .i64 0, .int .i64 0, .slice none 0 0, .slice none 0 0, .slice none 0 0, .int .i64 0] 37)).setRow w4.heap.size #[.int .i64 n.m.fr, .int .i64 n.m.tt, .int .i64 n.m.ki, .int .i64 n.m.bau, .int .i64 n.m.bnu, .slice n.m.bta n.m.btn n.m.btc, .int .i64 n.m.hau, .int .i64 n.m.hrd, .slice n.m.hba n.m.hbn n.m.hbc, .slice n.m.hpa n.m.hpn n.m.hpc, .int .i64 n.m.sau, .int .i64 n.m.srd, .slice n.m.sda n.m.sdn n.m.sdc, .int .i64 n.m.cau, .int .i64 n.m.crd, .slice n.m.cba n.m.cbn n.m.cbc, .slice n.m.cpa n.m.cpn n.m.cpc, .slice n.m.cva n.m.cvn n.m.cvc, .int .i64 n.m.ro]) := laid_row w4 #[.int .i64 0, .int .i64 0, .int .i64 0, .int .i64 0, .int .i64 0, .slice none 0 0, .int .i64 0, .int .i64 0, .slice none 0 0, .slice none 0 0, .int .i64 0, .int .i64 0, .slice none 0 0, .int .i64 0, .int .i64 0, .slice none 0 0, .slice none 0 0, .slice none 0 0, .int .i64 0] #[.int .i64 n.m.fr, .int .i64 n.m.tt, .int .i64 n.m.ki, .int .i64 n.m.bau, .int .i64 n.m.bnu, .slice n.m.bta n.m.btn n.m.btc, .int .i64 n.m.hau, .int .i64 n.m.hrd, .slice n.m.hba n.m.hbn n.m.hbc, .slice n.m.hpa n.m.hpn n.m.hpc, .int .i64 n.m.sau, .int .i64 n.m.srd, .slice n.m.sda n.m.sdn n.m.sdc, .int .i64 n.m.cau, .int .i64 n.m.crd, .slice n.m.cba n.m.cbn n.m.cbc, .slice n.m.cpa n.m.cpn n.m.cpc, .slice n.m.cva n.m.cvn n.m.cvc, .int .i64 n.m.ro] 37
    have qN := setRow_heap _ _ _ #[.int .i64 n.m.fr, .int .i64 n.m.tt, .int .i64 n.m.ki, .int .i64 n.m.bau, .int .i64 n.m.bnu, .slice n.m.bta n.m.btn n.m.btc, .int .i64 n.m.hau, .int .i64 n.m.hrd, .slice n.m.hba n.m.hbn n.m.hbc, .slice n.m.hpa n.m.hpn n.m.hpc, .int .i64 n.m.sau, .int .i64 n.m.srd, .slice n.m.sda n.m.sdn n.m.sdc, .int .i64 n.m.cau, .int .i64 n.m.crd, .slice n.m.cba n.m.cbn n.m.cbc, .slice n.m.cpa n.m.cpn n.m.cpc, .slice n.m.cva n.m.cvn n.m.cvc, .int .i64 n.m.ro] _ _ qz
    go_upto_region 19 with (refine wpList_store_row rfl 37 _ _ rfl w4.heap.size #[.int .i64 n.m.fr, .int .i64 n.m.tt, .int .i64 n.m.ki, .int .i64 n.m.bau, .int .i64 n.m.bnu, .slice n.m.bta n.m.btn n.m.btc, .int .i64 n.m.hau, .int .i64 n.m.hrd, .slice n.m.hba n.m.hbn n.m.hbc, .slice n.m.hpa n.m.hpn n.m.hpc, .int .i64 n.m.sau, .int .i64 n.m.srd, .slice n.m.sda n.m.sdn n.m.sdc, .int .i64 n.m.cau, .int .i64 n.m.crd, .slice n.m.cba n.m.cbn n.m.cbc, .slice n.m.cpa n.m.cpn n.m.cpc, .slice n.m.cva n.m.cvn n.m.cvc, .int .i64 n.m.ro] rfl rfl 37 _ qz sMsg' rfl (by simp [Value.oneCell']) ?_)
    generalize (w4.alloc (.cells #[.int .i64 0, .int .i64 0, .int .i64 0, .int .i64 0, .int .i64 0, .slice none 0 0, .int .i64 0, .int .i64 0, .slice none 0 0, .slice none 0 0, .int .i64 0, .int .i64 0, .slice none 0 0, .int .i64 0, .int .i64 0, .slice none 0 0, .slice none 0 0, .slice none 0 0, .int .i64 0] 37)).setRow w4.heap.size #[.int .i64 n.m.fr, .int .i64 n.m.tt, .int .i64 n.m.ki, .int .i64 n.m.bau, .int .i64 n.m.bnu, .slice n.m.bta n.m.btn n.m.btc, .int .i64 n.m.hau, .int .i64 n.m.hrd, .slice n.m.hba n.m.hbn n.m.hbc, .slice n.m.hpa n.m.hpn n.m.hpc, .int .i64 n.m.sau, .int .i64 n.m.srd, .slice n.m.sda n.m.sdn n.m.sdc, .int .i64 n.m.cau, .int .i64 n.m.crd, .slice n.m.cba n.m.cbn n.m.cbc, .slice n.m.cpa n.m.cpn n.m.cpc, .slice n.m.cva n.m.cvn n.m.cvc, .int .i64 n.m.ro] = W5 at hA5 qN ⊢
    clear qz
    have q5 := (hA5.block _ (lt_of_heap q4)).trans q4
    have hM5 := hM4.below hA5
    have hMn5 := hMn.below hA5
    have hBW5 := hB4.trans (hA5.mono hB4.size)
    have n0 := cells_at qN 0 _ rfl
    have nf := frozen_at qN 0
    have qN6 : (W5.setCell ⟨w4.heap.size, 0, none⟩ (.int .i64 4)).heap[w4.heap.size]? = some (.cells #[.int .i64 4, .int .i64 n.m.tt, .int .i64 n.m.ki, .int .i64 n.m.bau, .int .i64 n.m.bnu, .slice n.m.bta n.m.btn n.m.btc, .int .i64 n.m.hau, .int .i64 n.m.hrd, .slice n.m.hba n.m.hbn n.m.hbc, .slice n.m.hpa n.m.hpn n.m.hpc, .int .i64 n.m.sau, .int .i64 n.m.srd, .slice n.m.sda n.m.sdn n.m.sdc, .int .i64 n.m.cau, .int .i64 n.m.crd, .slice n.m.cba n.m.cbn n.m.cbc, .slice n.m.cpa n.m.cpn n.m.cpc, .slice n.m.cva n.m.cvn n.m.cvc, .int .i64 n.m.ro] 37 (0, 0)) := by simpa using heap_setCell_same _ _ 0 _ _ (.int .i64 4) qN
    have q6 := heap_far (j := 0) (v := .int .i64 4) q5 (show w1.heap.size ≠ w4.heap.size by omega)
    have hBW6 := hBW5.setCell (p := ⟨w4.heap.size, 0, none⟩) (show w.heap.size ≤ w4.heap.size by omega) (.int .i64 4)
    have hM6 : MAt (W5.setCell ⟨w4.heap.size, 0, none⟩ (.int .i64 4)) x := hM5.stays (G := fun k => W0.heap.size ≤ k ∧ k < w1.heap.size) (fun k hk => heap_setCell_other _ ⟨w4.heap.size, 0, none⟩ k _ (show k ≠ w4.heap.size by omega)) hX
    have hMn6 : MAt (W5.setCell ⟨w4.heap.size, 0, none⟩ (.int .i64 4)) n := hMn5.stays (G := fun k => W3.heap.size ≤ k ∧ k < w4.heap.size) (fun k hk => heap_setCell_other _ ⟨w4.heap.size, 0, none⟩ k _ (show k ≠ w4.heap.size by omega)) hNL
    go_upto_region 20 with fail
    generalize W5.setCell ⟨w4.heap.size, 0, none⟩ (.int .i64 4) = W6 at qN6 q6 hBW6 hM6 hMn6 ⊢
    clear n0 nf hM5 hMn5 qN q5 u0 u1 u2 u3 u4
    have H6 := hM6.at'
    have hC6 := check_any { x.m with ki := 6 } x.ss x.bl x.pl x.cbl x.cpl x.vl W6 ⟨H6.e1, H6.e2, H6.e3, H6.e4, H6.e5, H6.e6, H6.s1, H6.s6, H6.s7, H6.txs, H6.bat, H6.par, H6.cbat, H6.cpar, H6.vot⟩
    rw [HK6.out] at hC6
    go_wp2_with (refine wpList_load_row rfl 37 _ rfl w1.heap.size rfl 37 #[.int .i64 x.m.fr, .int .i64 x.m.tt, .int .i64 6, .int .i64 x.m.bau, .int .i64 x.m.bnu, .slice x.m.bta x.m.btn x.m.btc, .int .i64 x.m.hau, .int .i64 x.m.hrd, .slice x.m.hba x.m.hbn x.m.hbc, .slice x.m.hpa x.m.hpn x.m.hpc, .int .i64 x.m.sau, .int .i64 x.m.srd, .slice x.m.sda x.m.sdn x.m.sdc, .int .i64 x.m.cau, .int .i64 x.m.crd, .slice x.m.cba x.m.cbn x.m.cbc, .slice x.m.cpa x.m.cpn x.m.cpc, .slice x.m.cva x.m.cvn x.m.cvc, .int .i64 x.m.ro] (0, 0) _ q6 Try.underlying37 rfl sMsg' ?_)
    refine hC6.mono ?_
    rintro e w7 ⟨he, hb7⟩
    clear hC6
    subst he
    dsimp only
    have qN7 := (hb7.block _ (lt_of_heap qN6)).trans qN6
    have H7 := (hMn6.below hb7).at'
    have hC7 := check_any { n.m with fr := 4 } n.ss n.bl n.pl n.cbl n.cpl n.vl w7 ⟨H7.e1, H7.e2, H7.e3, H7.e4, H7.e5, H7.e6, H7.s1, H7.s6, H7.s7, H7.txs, H7.bat, H7.par, H7.cbat, H7.cpar, H7.vot⟩
    rw [check_from4] at hC7
    have hB7 := hBW6.trans (hb7.mono hBW6.size)
    go_wp2_with (refine wpList_load_row_w rfl 37 _ rfl w4.heap.size rfl 37 #[.int .i64 4, .int .i64 n.m.tt, .int .i64 n.m.ki, .int .i64 n.m.bau, .int .i64 n.m.bnu, .slice n.m.bta n.m.btn n.m.btc, .int .i64 n.m.hau, .int .i64 n.m.hrd, .slice n.m.hba n.m.hbn n.m.hbc, .slice n.m.hpa n.m.hpn n.m.hpc, .int .i64 n.m.sau, .int .i64 n.m.srd, .slice n.m.sda n.m.sdn n.m.sdc, .int .i64 n.m.cau, .int .i64 n.m.crd, .slice n.m.cba n.m.cbn n.m.cbc, .slice n.m.cpa n.m.cpn n.m.cpc, .slice n.m.cva n.m.cvn n.m.cvc, .int .i64 n.m.ro] (0, 0) _ qN7 Try.underlying37 rfl sMsg' ?_)
    refine hC7.mono ?_
    rintro e w8 ⟨he, hb8⟩
    clear hC7
    subst he
    dsimp only
    go_wp2_with fail
    go_ret
    exact ⟨rfl, hB7.trans (hb8.mono hB7.size)⟩
  · have hKn : (2 : Int) ≠ x.m.ki := fun e => hK e.symm
    have u1 := cells_at p2 1 _ rfl
    have u2 := cells_at p2 2 _ rfl
    have u3 := cells_at p2 3 _ rfl
    have hZ := raw_msgM 1 ra rb rc none 0 [] W1 ⟨by decide, by decide⟩ h2 h3 h4 (texts_none _)
    go_wp2_with (go_at_call 14; refine (HP.out _).mono ?_; rintro e w9 ⟨rfl, rfl⟩)
    refine hZ.mono ?_
    rintro e w2 ⟨z, he, hMz, -, hNz, hb2, hkz, z1, z2, z3, z4, z5⟩
    rw [pk_smallM (a := 1) (by decide)] at hkz
    have HZ : Hid (z.m.hrd ≠ 0) := z2 hkz
    clear hZ z1 z2 z3 z4 z5 hkz u1 u2 u3 y2
    subst he
    dsimp only
    have hB2 := hBW1.trans (hb2.mono hBW1.size)
    have q2 := (hb2.block _ (lt_of_heap q1)).trans q1
    have hlt2 : w1.heap.size < w2.heap.size := lt_of_heap q2
    have qz := heap_alloc_new w2 (.cells #[.int .i64 0, .int .i64 0, .int .i64 0, .int .i64 0, .int .i64 0, .slice none 0 0, .int .i64 0, .int .i64 0, .slice none 0 0, .slice none 0 0, .int .i64 0, .int .i64 0, .slice none 0 0, .int .i64 0, .int .i64 0, .slice none 0 0, .slice none 0 0, .slice none 0 0, .int .i64 0] 37)
    have hA2 : Below w2.heap.size w2 ((w2.alloc (.cells #[.int .i64 0, .int .i64 0, .int .i64 0, .int .i64 0, .int .i64 0, .slice none 0 0, .int .i64 0, .int .i64 0, .slice none 0 0, .slice none 0 0, .int .i64 0, .int .i64 0, .slice none 0 0, .int .i64 0, .int .i64 0, .slice none 0 0, .slice none 0 0, .slice none 0 0, .int .i64 0] 37)).setRow w2.heap.size #[.int .i64 z.m.fr, .int .i64 z.m.tt, .int .i64 z.m.ki, .int .i64 z.m.bau, .int .i64 z.m.bnu, .slice z.m.bta z.m.btn z.m.btc, .int .i64 z.m.hau, .int .i64 z.m.hrd, .slice z.m.hba z.m.hbn z.m.hbc, .slice z.m.hpa z.m.hpn z.m.hpc, .int .i64 z.m.sau, .int .i64 z.m.srd, .slice z.m.sda z.m.sdn z.m.sdc, .int .i64 z.m.cau, .int .i64 z.m.crd, .slice z.m.cba z.m.cbn z.m.cbc, .slice z.m.cpa z.m.cpn z.m.cpc, .slice z.m.cva z.m.cvn z.m.cvc, .int .i64 z.m.ro]) := laid_row w2 #[.int .i64 0, .int .i64 0, .int .i64 0, .int .i64 0, .int .i64 0, .slice none 0 0, .int .i64 0, .int .i64 0, .slice none 0 0, .slice none 0 0, .int .i64 0, .int .i64 0, .slice none 0 0, .int .i64 0, .int .i64 0, .slice none 0 0, .slice none 0 0, .slice none 0 0, .int .i64 0] #[.int .i64 z.m.fr, .int .i64 z.m.tt, .int .i64 z.m.ki, .int .i64 z.m.bau, .int .i64 z.m.bnu, .slice z.m.bta z.m.btn z.m.btc, .int .i64 z.m.hau, .int .i64 z.m.hrd, .slice z.m.hba z.m.hbn z.m.hbc, .slice z.m.hpa z.m.hpn z.m.hpc, .int .i64 z.m.sau, .int .i64 z.m.srd, .slice z.m.sda z.m.sdn z.m.sdc, .int .i64 z.m.cau, .int .i64 z.m.crd, .slice z.m.cba z.m.cbn z.m.cbc, .slice z.m.cpa z.m.cpn z.m.cpc, .slice z.m.cva z.m.cvn z.m.cvc, .int .i64 z.m.ro] 37
    have qZ := setRow_heap _ _ _ #[.int .i64 z.m.fr, .int .i64 z.m.tt, .int .i64 z.m.ki, .int .i64 z.m.bau, .int .i64 z.m.bnu, .slice z.m.bta z.m.btn z.m.btc, .int .i64 z.m.hau, .int .i64 z.m.hrd, .slice z.m.hba z.m.hbn z.m.hbc, .slice z.m.hpa z.m.hpn z.m.hpc, .int .i64 z.m.sau, .int .i64 z.m.srd, .slice z.m.sda z.m.sdn z.m.sdc, .int .i64 z.m.cau, .int .i64 z.m.crd, .slice z.m.cba z.m.cbn z.m.cbc, .slice z.m.cpa z.m.cpn z.m.cpc, .slice z.m.cva z.m.cvn z.m.cvc, .int .i64 z.m.ro] _ _ qz
    go_upto_region 5 with (refine wpList_store_row rfl 37 _ _ rfl w2.heap.size #[.int .i64 z.m.fr, .int .i64 z.m.tt, .int .i64 z.m.ki, .int .i64 z.m.bau, .int .i64 z.m.bnu, .slice z.m.bta z.m.btn z.m.btc, .int .i64 z.m.hau, .int .i64 z.m.hrd, .slice z.m.hba z.m.hbn z.m.hbc, .slice z.m.hpa z.m.hpn z.m.hpc, .int .i64 z.m.sau, .int .i64 z.m.srd, .slice z.m.sda z.m.sdn z.m.sdc, .int .i64 z.m.cau, .int .i64 z.m.crd, .slice z.m.cba z.m.cbn z.m.cbc, .slice z.m.cpa z.m.cpn z.m.cpc, .slice z.m.cva z.m.cvn z.m.cvc, .int .i64 z.m.ro] rfl rfl 37 _ qz sMsg' rfl (by simp [Value.oneCell']) ?_)
    generalize (w2.alloc (.cells #[.int .i64 0, .int .i64 0, .int .i64 0, .int .i64 0, .int .i64 0, .slice none 0 0, .int .i64 0, .int .i64 0, .slice none 0 0, .slice none 0 0, .int .i64 0, .int .i64 0, .slice none 0 0, .int .i64 0, .int .i64 0, .slice none 0 0, .slice none 0 0, .slice none 0 0, .int .i64 0] 37)).setRow w2.heap.size #[.int .i64 z.m.fr, .int .i64 z.m.tt, .int .i64 z.m.ki, .int .i64 z.m.bau, .int .i64 z.m.bnu, .slice z.m.bta z.m.btn z.m.btc, .int .i64 z.m.hau, .int .i64 z.m.hrd, .slice z.m.hba z.m.hbn z.m.hbc, .slice z.m.hpa z.m.hpn z.m.hpc, .int .i64 z.m.sau, .int .i64 z.m.srd, .slice z.m.sda z.m.sdn z.m.sdc, .int .i64 z.m.cau, .int .i64 z.m.crd, .slice z.m.cba z.m.cbn z.m.cbc, .slice z.m.cpa z.m.cpn z.m.cpc, .slice z.m.cva z.m.cvn z.m.cvc, .int .i64 z.m.ro] = W2 at hA2 qZ ⊢
    clear qz
    have hBW2 := hB2.trans (hA2.mono hB2.size)
    have q3 := (hA2.block _ (lt_of_heap q2)).trans q2
    have hMx3 := (hM1.below hb2).below hA2
    have hMz3 := hMz.below hA2
    have hble : w.heap.size ≤ w1.heap.size := by omega
    have zc6 := cells_at qZ 6 _ rfl
    have xc6 := cells_at q3 6 _ rfl
    have xf6 := frozen_at q3 6
    have zc7 := cells_at qZ 7 _ rfl
    have xc7 := cells_at q3 7 _ rfl
    have xf7 := frozen_at q3 7
    have zc8 := cells_at qZ 8 _ rfl
    have xc8 := cells_at q3 8 _ rfl
    have xf8 := frozen_at q3 8
    have zc9 := cells_at qZ 9 _ rfl
    have xc9 := cells_at q3 9 _ rfl
    have xf9 := frozen_at q3 9
    have rF : ((((W2.setCell ⟨w1.heap.size, 6, none⟩ (.int .i64 z.m.hau)).setCell ⟨w1.heap.size, 7, none⟩ (.int .i64 z.m.hrd)).setCell ⟨w1.heap.size, 8, none⟩ (.slice z.m.hba z.m.hbn z.m.hbc)).setCell ⟨w1.heap.size, 9, none⟩ (.slice z.m.hpa z.m.hpn z.m.hpc)).heap[w1.heap.size]? = some (.cells #[.int .i64 x.m.fr, .int .i64 x.m.tt, .int .i64 x.m.ki, .int .i64 x.m.bau, .int .i64 x.m.bnu, .slice x.m.bta x.m.btn x.m.btc, .int .i64 z.m.hau, .int .i64 z.m.hrd, .slice z.m.hba z.m.hbn z.m.hbc, .slice z.m.hpa z.m.hpn z.m.hpc, .int .i64 x.m.sau, .int .i64 x.m.srd, .slice x.m.sda x.m.sdn x.m.sdc, .int .i64 x.m.cau, .int .i64 x.m.crd, .slice x.m.cba x.m.cbn x.m.cbc, .slice x.m.cpa x.m.cpn x.m.cpc, .slice x.m.cva x.m.cvn x.m.cvc, .int .i64 x.m.ro] 37 (0, 0)) := by simpa using (heap_setCell_same _ _ 9 _ _ (.slice z.m.hpa z.m.hpn z.m.hpc) (heap_setCell_same _ _ 8 _ _ (.slice z.m.hba z.m.hbn z.m.hbc) (heap_setCell_same _ _ 7 _ _ (.int .i64 z.m.hrd) (heap_setCell_same _ _ 6 _ _ (.int .i64 z.m.hau) q3))))
    have hoth : ∀ k, k ≠ w1.heap.size → ((((W2.setCell ⟨w1.heap.size, 6, none⟩ (.int .i64 z.m.hau)).setCell ⟨w1.heap.size, 7, none⟩ (.int .i64 z.m.hrd)).setCell ⟨w1.heap.size, 8, none⟩ (.slice z.m.hba z.m.hbn z.m.hbc)).setCell ⟨w1.heap.size, 9, none⟩ (.slice z.m.hpa z.m.hpn z.m.hpc)).heap[k]? = W2.heap[k]? := fun k hk => ((heap_setCell_other _ ⟨w1.heap.size, 9, none⟩ k _ hk).trans ((heap_setCell_other _ ⟨w1.heap.size, 8, none⟩ k _ hk).trans ((heap_setCell_other _ ⟨w1.heap.size, 7, none⟩ k _ hk).trans ((heap_setCell_other _ ⟨w1.heap.size, 6, none⟩ k _ hk).trans rfl))))
    have hBF := ((((hBW2.setCell (p := ⟨w1.heap.size, 6, none⟩) hble (.int .i64 z.m.hau)).setCell (p := ⟨w1.heap.size, 7, none⟩) hble (.int .i64 z.m.hrd)).setCell (p := ⟨w1.heap.size, 8, none⟩) hble (.slice z.m.hba z.m.hbn z.m.hbc)).setCell (p := ⟨w1.heap.size, 9, none⟩) hble (.slice z.m.hpa z.m.hpn z.m.hpc))
    go_upto_region 15 with fail
    generalize ((((W2.setCell ⟨w1.heap.size, 6, none⟩ (.int .i64 z.m.hau)).setCell ⟨w1.heap.size, 7, none⟩ (.int .i64 z.m.hrd)).setCell ⟨w1.heap.size, 8, none⟩ (.slice z.m.hba z.m.hbn z.m.hbc)).setCell ⟨w1.heap.size, 9, none⟩ (.slice z.m.hpa z.m.hpn z.m.hpc)) = W4 at rF hoth hBF ⊢
    clear q3 qZ zc6 xc6 xf6 zc7 xc7 xf7 zc8 xc8 xf8 zc9 xc9 xf9
    have hMx4 : MAt W4 x := hMx3.stays (G := fun k => W0.heap.size ≤ k ∧ k < w1.heap.size) (fun k hk => hoth k (by omega)) hX
    have hMz4 : MAt W4 z := hMz3.stays (G := fun k => W1.heap.size ≤ k) (fun k hk => hoth k (by omega)) hNz.has
    have hMM := mix2_at hMx4 hMz4
    have h44 : checkF (x.mix2 z).m (carriedF (x.mix2 z).m (x.mix2 z).ss (x.mix2 z).bl (x.mix2 z).pl (x.mix2 z).cbl (x.mix2 z).cpl (x.mix2 z).vl) = 4 := more2 hC hK HZ.out
    have hE := encode_any (x.mix2 z).m (x.mix2 z).ss (x.mix2 z).bl (x.mix2 z).pl (x.mix2 z).cbl (x.mix2 z).cpl (x.mix2 z).ds (x.mix2 z).vl W4 hMM.at' hMM.dig hMM.dn
    rw [h44] at hE
    go_wp2_with (refine wpList_load_row rfl 37 _ rfl w1.heap.size rfl 37 #[.int .i64 x.m.fr, .int .i64 x.m.tt, .int .i64 x.m.ki, .int .i64 x.m.bau, .int .i64 x.m.bnu, .slice x.m.bta x.m.btn x.m.btc, .int .i64 z.m.hau, .int .i64 z.m.hrd, .slice z.m.hba z.m.hbn z.m.hbc, .slice z.m.hpa z.m.hpn z.m.hpc, .int .i64 x.m.sau, .int .i64 x.m.srd, .slice x.m.sda x.m.sdn x.m.sdc, .int .i64 x.m.cau, .int .i64 x.m.crd, .slice x.m.cba x.m.cbn x.m.cbc, .slice x.m.cpa x.m.cpn x.m.cpc, .slice x.m.cva x.m.cvn x.m.cvc, .int .i64 x.m.ro] (0, 0) _ rF Try.underlying37 rfl sMsg' ?_)
    refine hE.mono ?_
    rintro e w5 ⟨v, he, -, hb5⟩
    clear hE
    subst he
    dsimp only
    have hB5 := hBF.trans (hb5.mono hBF.size)
    have rF5 := (hb5.block _ (lt_of_heap rF)).trans rF
    have hCk := check_any (x.mix2 z).m (x.mix2 z).ss (x.mix2 z).bl (x.mix2 z).pl (x.mix2 z).cbl (x.mix2 z).cpl (x.mix2 z).vl w5 (hMM.at'.below hb5)
    rw [h44] at hCk
    go_wp2_with (refine wpList_load_row rfl 37 _ rfl w1.heap.size rfl 37 #[.int .i64 x.m.fr, .int .i64 x.m.tt, .int .i64 x.m.ki, .int .i64 x.m.bau, .int .i64 x.m.bnu, .slice x.m.bta x.m.btn x.m.btc, .int .i64 z.m.hau, .int .i64 z.m.hrd, .slice z.m.hba z.m.hbn z.m.hbc, .slice z.m.hpa z.m.hpn z.m.hpc, .int .i64 x.m.sau, .int .i64 x.m.srd, .slice x.m.sda x.m.sdn x.m.sdc, .int .i64 x.m.cau, .int .i64 x.m.crd, .slice x.m.cba x.m.cbn x.m.cbc, .slice x.m.cpa x.m.cpn x.m.cpc, .slice x.m.cva x.m.cvn x.m.cvc, .int .i64 x.m.ro] (0, 0) _ rF5 Try.underlying37 rfl sMsg' ?_)
    refine hCk.mono ?_
    rintro e w6 ⟨he, hb6⟩
    clear hCk
    subst he
    dsimp only
    go_wp2_with fail
    go_ret
    exact ⟨rfl, hB5.trans (hb6.mono hB5.size)⟩
set_option maxRecDepth 100000 in
set_option maxHeartbeats 8000000 in
theorem more_walk3 (ki ra rb rc : Int) (sa : Option Addr) (cap : Nat) (ss0 : List ByteArray) (kd : Int) (w : World) (h1 : I64 ki) (h2 : I64 ra) (h3 : I64 rb) (h4 : I64 rc) (h5 : TextsAt w sa cap ss0) (hn1 : -9223372036854775808 ≤ kd) (hn2 : kd ≤ 9223372036854775807) (hkd : pk kd 5 = 2) :
    Calls Try.prog 6 #[.agg #[.int .i64 ki, .int .i64 ra, .int .i64 rb, .int .i64 rc, .slice sa ss0.length cap], .int .i64 kd] w fun e w' => e = .returned (.bool true) ∧ Below w.heap.size w w' := by
  have HP : Hid (∀ W : World, Calls Try.prog 14 #[.int .i64 kd, .int .i64 5] W fun e w' => e = .returned (.int .i64 2) ∧ W = w') := by
    show ∀ _, _
    intro W
    rw [← hkd]
    exact picked_any kd 5 W hn1 hn2 (by omega) (by omega)
  clear hkd
  have hA : Below w.heap.size w (w.alloc (.cells #[.int .i64 ki, .int .i64 ra, .int .i64 rb, .int .i64 rc, .slice sa ss0.length cap] 24)) := (Below.refl _ _).alloc (Nat.le_refl _) _
  have p0 := heap_alloc_new w (.cells #[.int .i64 ki, .int .i64 ra, .int .i64 rb, .int .i64 rc, .slice sa ss0.length cap] 24)
  go_enter Try.func6, Try.ntmps6
  go_wp2_with fail
  generalize w.alloc (.cells #[.int .i64 ki, .int .i64 ra, .int .i64 rb, .int .i64 rc, .slice sa ss0.length cap] 24) = W0 at hA p0 ⊢
  refine (raw_msgM ki ra rb rc sa cap ss0 W0 h1 h2 h3 h4 (h5.below hA)).mono ?_
  rintro e w1 ⟨x, he, hM, hC, hN, hb1, -⟩
  have hB1 := hA.trans (hb1.mono hA.size)
  subst he
  dsimp only
  have p1 := (hb1.block _ (lt_of_heap p0)).trans p0
  have qz := heap_alloc_new w1 (.cells #[.int .i64 0, .int .i64 0, .int .i64 0, .int .i64 0, .int .i64 0, .slice none 0 0, .int .i64 0, .int .i64 0, .slice none 0 0, .slice none 0 0, .int .i64 0, .int .i64 0, .slice none 0 0, .int .i64 0, .int .i64 0, .slice none 0 0, .slice none 0 0, .slice none 0 0, .int .i64 0] 37)
  have hA1 : Below w1.heap.size w1 ((w1.alloc (.cells #[.int .i64 0, .int .i64 0, .int .i64 0, .int .i64 0, .int .i64 0, .slice none 0 0, .int .i64 0, .int .i64 0, .slice none 0 0, .slice none 0 0, .int .i64 0, .int .i64 0, .slice none 0 0, .int .i64 0, .int .i64 0, .slice none 0 0, .slice none 0 0, .slice none 0 0, .int .i64 0] 37)).setRow w1.heap.size #[.int .i64 x.m.fr, .int .i64 x.m.tt, .int .i64 x.m.ki, .int .i64 x.m.bau, .int .i64 x.m.bnu, .slice x.m.bta x.m.btn x.m.btc, .int .i64 x.m.hau, .int .i64 x.m.hrd, .slice x.m.hba x.m.hbn x.m.hbc, .slice x.m.hpa x.m.hpn x.m.hpc, .int .i64 x.m.sau, .int .i64 x.m.srd, .slice x.m.sda x.m.sdn x.m.sdc, .int .i64 x.m.cau, .int .i64 x.m.crd, .slice x.m.cba x.m.cbn x.m.cbc, .slice x.m.cpa x.m.cpn x.m.cpc, .slice x.m.cva x.m.cvn x.m.cvc, .int .i64 x.m.ro]) := laid_row w1 #[.int .i64 0, .int .i64 0, .int .i64 0, .int .i64 0, .int .i64 0, .slice none 0 0, .int .i64 0, .int .i64 0, .slice none 0 0, .slice none 0 0, .int .i64 0, .int .i64 0, .slice none 0 0, .int .i64 0, .int .i64 0, .slice none 0 0, .slice none 0 0, .slice none 0 0, .int .i64 0] #[.int .i64 x.m.fr, .int .i64 x.m.tt, .int .i64 x.m.ki, .int .i64 x.m.bau, .int .i64 x.m.bnu, .slice x.m.bta x.m.btn x.m.btc, .int .i64 x.m.hau, .int .i64 x.m.hrd, .slice x.m.hba x.m.hbn x.m.hbc, .slice x.m.hpa x.m.hpn x.m.hpc, .int .i64 x.m.sau, .int .i64 x.m.srd, .slice x.m.sda x.m.sdn x.m.sdc, .int .i64 x.m.cau, .int .i64 x.m.crd, .slice x.m.cba x.m.cbn x.m.cbc, .slice x.m.cpa x.m.cpn x.m.cpc, .slice x.m.cva x.m.cvn x.m.cvc, .int .i64 x.m.ro] 37
  have q1 := setRow_heap _ _ _ #[.int .i64 x.m.fr, .int .i64 x.m.tt, .int .i64 x.m.ki, .int .i64 x.m.bau, .int .i64 x.m.bnu, .slice x.m.bta x.m.btn x.m.btc, .int .i64 x.m.hau, .int .i64 x.m.hrd, .slice x.m.hba x.m.hbn x.m.hbc, .slice x.m.hpa x.m.hpn x.m.hpc, .int .i64 x.m.sau, .int .i64 x.m.srd, .slice x.m.sda x.m.sdn x.m.sdc, .int .i64 x.m.cau, .int .i64 x.m.crd, .slice x.m.cba x.m.cbn x.m.cbc, .slice x.m.cpa x.m.cpn x.m.cpc, .slice x.m.cva x.m.cvn x.m.cvc, .int .i64 x.m.ro] _ _ qz
  have hlt0 : w.heap.size < w1.heap.size := lt_of_heap p1
  have p2 := (hA1.block _ (lt_of_heap p1)).trans p1
  have hX := hN.has.lt hM
  have hM1 := hM.below hA1
  go_upto_region 2 with (refine wpList_store_row rfl 37 _ _ rfl w1.heap.size #[.int .i64 x.m.fr, .int .i64 x.m.tt, .int .i64 x.m.ki, .int .i64 x.m.bau, .int .i64 x.m.bnu, .slice x.m.bta x.m.btn x.m.btc, .int .i64 x.m.hau, .int .i64 x.m.hrd, .slice x.m.hba x.m.hbn x.m.hbc, .slice x.m.hpa x.m.hpn x.m.hpc, .int .i64 x.m.sau, .int .i64 x.m.srd, .slice x.m.sda x.m.sdn x.m.sdc, .int .i64 x.m.cau, .int .i64 x.m.crd, .slice x.m.cba x.m.cbn x.m.cbc, .slice x.m.cpa x.m.cpn x.m.cpc, .slice x.m.cva x.m.cvn x.m.cvc, .int .i64 x.m.ro] rfl rfl 37 _ qz sMsg' rfl (by simp [Value.oneCell']) ?_)
  generalize (w1.alloc (.cells #[.int .i64 0, .int .i64 0, .int .i64 0, .int .i64 0, .int .i64 0, .slice none 0 0, .int .i64 0, .int .i64 0, .slice none 0 0, .slice none 0 0, .int .i64 0, .int .i64 0, .slice none 0 0, .int .i64 0, .int .i64 0, .slice none 0 0, .slice none 0 0, .slice none 0 0, .int .i64 0] 37)).setRow w1.heap.size #[.int .i64 x.m.fr, .int .i64 x.m.tt, .int .i64 x.m.ki, .int .i64 x.m.bau, .int .i64 x.m.bnu, .slice x.m.bta x.m.btn x.m.btc, .int .i64 x.m.hau, .int .i64 x.m.hrd, .slice x.m.hba x.m.hbn x.m.hbc, .slice x.m.hpa x.m.hpn x.m.hpc, .int .i64 x.m.sau, .int .i64 x.m.srd, .slice x.m.sda x.m.sdn x.m.sdc, .int .i64 x.m.cau, .int .i64 x.m.crd, .slice x.m.cba x.m.cbn x.m.cbc, .slice x.m.cpa x.m.cpn x.m.cpc, .slice x.m.cva x.m.cvn x.m.cvc, .int .i64 x.m.ro] = W1 at hA1 q1 p2 hM1 ⊢
  clear qz
  have hBW1 := hB1.trans (hA1.mono hB1.size)
  have y2 := cells_at q1 2 _ rfl
  have hltW : w1.heap.size < W1.heap.size := lt_of_heap q1
  by_cases hK : x.m.ki = 3
  · rw [hK] at y2
    have hf2 := frozen_at q1 2
    have HK6 : Hid (checkF { x.m with ki := 6 } (carriedF { x.m with ki := 6 } x.ss x.bl x.pl x.cbl x.cpl x.vl) = 3) := check_kind6 (checkF_ok hC).1 (checkF_ok hC).2.1
    have q3 : (W1.setCell ⟨w1.heap.size, 2, none⟩ (.int .i64 6)).heap[w1.heap.size]? = some (.cells #[.int .i64 x.m.fr, .int .i64 x.m.tt, .int .i64 6, .int .i64 x.m.bau, .int .i64 x.m.bnu, .slice x.m.bta x.m.btn x.m.btc, .int .i64 x.m.hau, .int .i64 x.m.hrd, .slice x.m.hba x.m.hbn x.m.hbc, .slice x.m.hpa x.m.hpn x.m.hpc, .int .i64 x.m.sau, .int .i64 x.m.srd, .slice x.m.sda x.m.sdn x.m.sdc, .int .i64 x.m.cau, .int .i64 x.m.crd, .slice x.m.cba x.m.cbn x.m.cbc, .slice x.m.cpa x.m.cpn x.m.cpc, .slice x.m.cva x.m.cvn x.m.cvc, .int .i64 x.m.ro] 37 (0, 0)) := by simpa using heap_setCell_same _ _ 2 _ _ (.int .i64 6) q1
    have p3 := heap_far (j := 2) (v := .int .i64 6) p2 (show w.heap.size ≠ w1.heap.size by omega)
    have hBW3 := hBW1.setCell (p := ⟨w1.heap.size, 2, none⟩) (show w.heap.size ≤ w1.heap.size by omega) (.int .i64 6)
    have hM3 : MAt (W1.setCell ⟨w1.heap.size, 2, none⟩ (.int .i64 6)) x := hM1.stays (G := fun k => W0.heap.size ≤ k ∧ k < w1.heap.size) (fun k hk => heap_setCell_other _ ⟨w1.heap.size, 2, none⟩ k _ (show k ≠ w1.heap.size by omega)) hX
    have hsz3 : w1.heap.size < (W1.setCell ⟨w1.heap.size, 2, none⟩ (.int .i64 6)).heap.size := lt_of_heap q3
    go_upto_region 18 with (go_at_call 14; refine (HP.out _).mono ?_; rintro e w9 ⟨rfl, rfl⟩)
    generalize W1.setCell ⟨w1.heap.size, 2, none⟩ (.int .i64 6) = W3 at q3 p3 hBW3 hM3 hsz3 ⊢
    clear hM1 q1 p2 y2 hf2
    have u0 := cells_at p3 0 _ rfl
    have u1 := cells_at p3 1 _ rfl
    have u2 := cells_at p3 2 _ rfl
    have u3 := cells_at p3 3 _ rfl
    have u4 := cells_at p3 4 _ rfl
    have hZ := raw_msgM ki ra rb rc sa cap ss0 W3 h1 h2 h3 h4 (h5.below hBW3)
    go_wp2_with fail
    refine hZ.mono ?_
    rintro e w4 ⟨n, he, hMn, -, hNn, hb4, -⟩
    clear hZ
    subst he
    dsimp only
    have hB4 := hBW3.trans (hb4.mono hBW3.size)
    have q4 := (hb4.block _ (lt_of_heap q3)).trans q3
    have hM4 := hM3.below hb4
    have hNL := hNn.has.lt hMn
    have hlt4 : w1.heap.size < w4.heap.size := lt_of_heap q4
    have qz := heap_alloc_new w4 (.cells #[.int .i64 0, .int .i64 0, .int .i64 0, .int .i64 0, .int .i64 0, .slice none 0 0, .int .i64 0, .int .i64 0, .slice none 0 0, .slice none 0 0, .int .i64 0, .int .i64 0, .slice none 0 0, .int .i64 0, .int .i64 0, .slice none 0 0, .slice none 0 0, .slice none 0 0, .int .i64 0] 37)
    have hA5 : Below w4.heap.size w4 ((w4.alloc (.cells #[.int .i64 0, .int .i64 0, .int .i64 0, .int .i64 0, .int .i64 0, .slice none 0 0, .int .i64 0, .int .i64 0, .slice none 0 0, .slice none 0 0, .int .i64 0, .int .i64 0, .slice none 0 0, .int .i64 0, .int .i64 0, .slice none 0 0, .slice none 0 0, .slice none 0 0, .int .i64 0] 37)).setRow w4.heap.size #[.int .i64 n.m.fr, .int .i64 n.m.tt, .int .i64 n.m.ki, .int .i64 n.m.bau, .int .i64 n.m.bnu, .slice n.m.bta n.m.btn n.m.btc, .int .i64 n.m.hau, .int .i64 n.m.hrd, .slice n.m.hba n.m.hbn n.m.hbc, .slice n.m.hpa n.m.hpn n.m.hpc, .int .i64 n.m.sau, .int .i64 n.m.srd, .slice n.m.sda n.m.sdn n.m.sdc, .int .i64 n.m.cau, .int .i64 n.m.crd, .slice n.m.cba n.m.cbn n.m.cbc, .slice n.m.cpa n.m.cpn n.m.cpc, .slice n.m.cva n.m.cvn n.m.cvc, .int .i64 n.m.ro]) := laid_row w4 #[.int .i64 0, .int .i64 0, .int .i64 0, .int .i64 0, .int .i64 0, .slice none 0 0, .int .i64 0, .int .i64 0, .slice none 0 0, .slice none 0 0, .int .i64 0, .int .i64 0, .slice none 0 0, .int .i64 0, .int .i64 0, .slice none 0 0, .slice none 0 0, .slice none 0 0, .int .i64 0] #[.int .i64 n.m.fr, .int .i64 n.m.tt, .int .i64 n.m.ki, .int .i64 n.m.bau, .int .i64 n.m.bnu, .slice n.m.bta n.m.btn n.m.btc, .int .i64 n.m.hau, .int .i64 n.m.hrd, .slice n.m.hba n.m.hbn n.m.hbc, .slice n.m.hpa n.m.hpn n.m.hpc, .int .i64 n.m.sau, .int .i64 n.m.srd, .slice n.m.sda n.m.sdn n.m.sdc, .int .i64 n.m.cau, .int .i64 n.m.crd, .slice n.m.cba n.m.cbn n.m.cbc, .slice n.m.cpa n.m.cpn n.m.cpc, .slice n.m.cva n.m.cvn n.m.cvc, .int .i64 n.m.ro] 37
    have qN := setRow_heap _ _ _ #[.int .i64 n.m.fr, .int .i64 n.m.tt, .int .i64 n.m.ki, .int .i64 n.m.bau, .int .i64 n.m.bnu, .slice n.m.bta n.m.btn n.m.btc, .int .i64 n.m.hau, .int .i64 n.m.hrd, .slice n.m.hba n.m.hbn n.m.hbc, .slice n.m.hpa n.m.hpn n.m.hpc, .int .i64 n.m.sau, .int .i64 n.m.srd, .slice n.m.sda n.m.sdn n.m.sdc, .int .i64 n.m.cau, .int .i64 n.m.crd, .slice n.m.cba n.m.cbn n.m.cbc, .slice n.m.cpa n.m.cpn n.m.cpc, .slice n.m.cva n.m.cvn n.m.cvc, .int .i64 n.m.ro] _ _ qz
    go_upto_region 19 with (refine wpList_store_row rfl 37 _ _ rfl w4.heap.size #[.int .i64 n.m.fr, .int .i64 n.m.tt, .int .i64 n.m.ki, .int .i64 n.m.bau, .int .i64 n.m.bnu, .slice n.m.bta n.m.btn n.m.btc, .int .i64 n.m.hau, .int .i64 n.m.hrd, .slice n.m.hba n.m.hbn n.m.hbc, .slice n.m.hpa n.m.hpn n.m.hpc, .int .i64 n.m.sau, .int .i64 n.m.srd, .slice n.m.sda n.m.sdn n.m.sdc, .int .i64 n.m.cau, .int .i64 n.m.crd, .slice n.m.cba n.m.cbn n.m.cbc, .slice n.m.cpa n.m.cpn n.m.cpc, .slice n.m.cva n.m.cvn n.m.cvc, .int .i64 n.m.ro] rfl rfl 37 _ qz sMsg' rfl (by simp [Value.oneCell']) ?_)
    generalize (w4.alloc (.cells #[.int .i64 0, .int .i64 0, .int .i64 0, .int .i64 0, .int .i64 0, .slice none 0 0, .int .i64 0, .int .i64 0, .slice none 0 0, .slice none 0 0, .int .i64 0, .int .i64 0, .slice none 0 0, .int .i64 0, .int .i64 0, .slice none 0 0, .slice none 0 0, .slice none 0 0, .int .i64 0] 37)).setRow w4.heap.size #[.int .i64 n.m.fr, .int .i64 n.m.tt, .int .i64 n.m.ki, .int .i64 n.m.bau, .int .i64 n.m.bnu, .slice n.m.bta n.m.btn n.m.btc, .int .i64 n.m.hau, .int .i64 n.m.hrd, .slice n.m.hba n.m.hbn n.m.hbc, .slice n.m.hpa n.m.hpn n.m.hpc, .int .i64 n.m.sau, .int .i64 n.m.srd, .slice n.m.sda n.m.sdn n.m.sdc, .int .i64 n.m.cau, .int .i64 n.m.crd, .slice n.m.cba n.m.cbn n.m.cbc, .slice n.m.cpa n.m.cpn n.m.cpc, .slice n.m.cva n.m.cvn n.m.cvc, .int .i64 n.m.ro] = W5 at hA5 qN ⊢
    clear qz
    have q5 := (hA5.block _ (lt_of_heap q4)).trans q4
    have hM5 := hM4.below hA5
    have hMn5 := hMn.below hA5
    have hBW5 := hB4.trans (hA5.mono hB4.size)
    have n0 := cells_at qN 0 _ rfl
    have nf := frozen_at qN 0
    have qN6 : (W5.setCell ⟨w4.heap.size, 0, none⟩ (.int .i64 4)).heap[w4.heap.size]? = some (.cells #[.int .i64 4, .int .i64 n.m.tt, .int .i64 n.m.ki, .int .i64 n.m.bau, .int .i64 n.m.bnu, .slice n.m.bta n.m.btn n.m.btc, .int .i64 n.m.hau, .int .i64 n.m.hrd, .slice n.m.hba n.m.hbn n.m.hbc, .slice n.m.hpa n.m.hpn n.m.hpc, .int .i64 n.m.sau, .int .i64 n.m.srd, .slice n.m.sda n.m.sdn n.m.sdc, .int .i64 n.m.cau, .int .i64 n.m.crd, .slice n.m.cba n.m.cbn n.m.cbc, .slice n.m.cpa n.m.cpn n.m.cpc, .slice n.m.cva n.m.cvn n.m.cvc, .int .i64 n.m.ro] 37 (0, 0)) := by simpa using heap_setCell_same _ _ 0 _ _ (.int .i64 4) qN
    have q6 := heap_far (j := 0) (v := .int .i64 4) q5 (show w1.heap.size ≠ w4.heap.size by omega)
    have hBW6 := hBW5.setCell (p := ⟨w4.heap.size, 0, none⟩) (show w.heap.size ≤ w4.heap.size by omega) (.int .i64 4)
    have hM6 : MAt (W5.setCell ⟨w4.heap.size, 0, none⟩ (.int .i64 4)) x := hM5.stays (G := fun k => W0.heap.size ≤ k ∧ k < w1.heap.size) (fun k hk => heap_setCell_other _ ⟨w4.heap.size, 0, none⟩ k _ (show k ≠ w4.heap.size by omega)) hX
    have hMn6 : MAt (W5.setCell ⟨w4.heap.size, 0, none⟩ (.int .i64 4)) n := hMn5.stays (G := fun k => W3.heap.size ≤ k ∧ k < w4.heap.size) (fun k hk => heap_setCell_other _ ⟨w4.heap.size, 0, none⟩ k _ (show k ≠ w4.heap.size by omega)) hNL
    go_upto_region 20 with fail
    generalize W5.setCell ⟨w4.heap.size, 0, none⟩ (.int .i64 4) = W6 at qN6 q6 hBW6 hM6 hMn6 ⊢
    clear n0 nf hM5 hMn5 qN q5 u0 u1 u2 u3 u4
    have H6 := hM6.at'
    have hC6 := check_any { x.m with ki := 6 } x.ss x.bl x.pl x.cbl x.cpl x.vl W6 ⟨H6.e1, H6.e2, H6.e3, H6.e4, H6.e5, H6.e6, H6.s1, H6.s6, H6.s7, H6.txs, H6.bat, H6.par, H6.cbat, H6.cpar, H6.vot⟩
    rw [HK6.out] at hC6
    go_wp2_with (refine wpList_load_row rfl 37 _ rfl w1.heap.size rfl 37 #[.int .i64 x.m.fr, .int .i64 x.m.tt, .int .i64 6, .int .i64 x.m.bau, .int .i64 x.m.bnu, .slice x.m.bta x.m.btn x.m.btc, .int .i64 x.m.hau, .int .i64 x.m.hrd, .slice x.m.hba x.m.hbn x.m.hbc, .slice x.m.hpa x.m.hpn x.m.hpc, .int .i64 x.m.sau, .int .i64 x.m.srd, .slice x.m.sda x.m.sdn x.m.sdc, .int .i64 x.m.cau, .int .i64 x.m.crd, .slice x.m.cba x.m.cbn x.m.cbc, .slice x.m.cpa x.m.cpn x.m.cpc, .slice x.m.cva x.m.cvn x.m.cvc, .int .i64 x.m.ro] (0, 0) _ q6 Try.underlying37 rfl sMsg' ?_)
    refine hC6.mono ?_
    rintro e w7 ⟨he, hb7⟩
    clear hC6
    subst he
    dsimp only
    have qN7 := (hb7.block _ (lt_of_heap qN6)).trans qN6
    have H7 := (hMn6.below hb7).at'
    have hC7 := check_any { n.m with fr := 4 } n.ss n.bl n.pl n.cbl n.cpl n.vl w7 ⟨H7.e1, H7.e2, H7.e3, H7.e4, H7.e5, H7.e6, H7.s1, H7.s6, H7.s7, H7.txs, H7.bat, H7.par, H7.cbat, H7.cpar, H7.vot⟩
    rw [check_from4] at hC7
    have hB7 := hBW6.trans (hb7.mono hBW6.size)
    go_wp2_with (refine wpList_load_row_w rfl 37 _ rfl w4.heap.size rfl 37 #[.int .i64 4, .int .i64 n.m.tt, .int .i64 n.m.ki, .int .i64 n.m.bau, .int .i64 n.m.bnu, .slice n.m.bta n.m.btn n.m.btc, .int .i64 n.m.hau, .int .i64 n.m.hrd, .slice n.m.hba n.m.hbn n.m.hbc, .slice n.m.hpa n.m.hpn n.m.hpc, .int .i64 n.m.sau, .int .i64 n.m.srd, .slice n.m.sda n.m.sdn n.m.sdc, .int .i64 n.m.cau, .int .i64 n.m.crd, .slice n.m.cba n.m.cbn n.m.cbc, .slice n.m.cpa n.m.cpn n.m.cpc, .slice n.m.cva n.m.cvn n.m.cvc, .int .i64 n.m.ro] (0, 0) _ qN7 Try.underlying37 rfl sMsg' ?_)
    refine hC7.mono ?_
    rintro e w8 ⟨he, hb8⟩
    clear hC7
    subst he
    dsimp only
    go_wp2_with fail
    go_ret
    exact ⟨rfl, hB7.trans (hb8.mono hB7.size)⟩
  · have hKn : (3 : Int) ≠ x.m.ki := fun e => hK e.symm
    have u1 := cells_at p2 1 _ rfl
    have u2 := cells_at p2 2 _ rfl
    have u3 := cells_at p2 3 _ rfl
    have hZ := raw_msgM 2 ra rb rc none 0 [] W1 ⟨by decide, by decide⟩ h2 h3 h4 (texts_none _)
    go_wp2_with (go_at_call 14; refine (HP.out _).mono ?_; rintro e w9 ⟨rfl, rfl⟩)
    refine hZ.mono ?_
    rintro e w2 ⟨z, he, hMz, -, hNz, hb2, hkz, z1, z2, z3, z4, z5⟩
    rw [pk_smallM (a := 2) (by decide)] at hkz
    have HZ : Hid (z.m.srd ≠ 0) := z3 hkz
    clear hZ z1 z2 z3 z4 z5 hkz u1 u2 u3 y2
    subst he
    dsimp only
    have hB2 := hBW1.trans (hb2.mono hBW1.size)
    have q2 := (hb2.block _ (lt_of_heap q1)).trans q1
    have hlt2 : w1.heap.size < w2.heap.size := lt_of_heap q2
    have qz := heap_alloc_new w2 (.cells #[.int .i64 0, .int .i64 0, .int .i64 0, .int .i64 0, .int .i64 0, .slice none 0 0, .int .i64 0, .int .i64 0, .slice none 0 0, .slice none 0 0, .int .i64 0, .int .i64 0, .slice none 0 0, .int .i64 0, .int .i64 0, .slice none 0 0, .slice none 0 0, .slice none 0 0, .int .i64 0] 37)
    have hA2 : Below w2.heap.size w2 ((w2.alloc (.cells #[.int .i64 0, .int .i64 0, .int .i64 0, .int .i64 0, .int .i64 0, .slice none 0 0, .int .i64 0, .int .i64 0, .slice none 0 0, .slice none 0 0, .int .i64 0, .int .i64 0, .slice none 0 0, .int .i64 0, .int .i64 0, .slice none 0 0, .slice none 0 0, .slice none 0 0, .int .i64 0] 37)).setRow w2.heap.size #[.int .i64 z.m.fr, .int .i64 z.m.tt, .int .i64 z.m.ki, .int .i64 z.m.bau, .int .i64 z.m.bnu, .slice z.m.bta z.m.btn z.m.btc, .int .i64 z.m.hau, .int .i64 z.m.hrd, .slice z.m.hba z.m.hbn z.m.hbc, .slice z.m.hpa z.m.hpn z.m.hpc, .int .i64 z.m.sau, .int .i64 z.m.srd, .slice z.m.sda z.m.sdn z.m.sdc, .int .i64 z.m.cau, .int .i64 z.m.crd, .slice z.m.cba z.m.cbn z.m.cbc, .slice z.m.cpa z.m.cpn z.m.cpc, .slice z.m.cva z.m.cvn z.m.cvc, .int .i64 z.m.ro]) := laid_row w2 #[.int .i64 0, .int .i64 0, .int .i64 0, .int .i64 0, .int .i64 0, .slice none 0 0, .int .i64 0, .int .i64 0, .slice none 0 0, .slice none 0 0, .int .i64 0, .int .i64 0, .slice none 0 0, .int .i64 0, .int .i64 0, .slice none 0 0, .slice none 0 0, .slice none 0 0, .int .i64 0] #[.int .i64 z.m.fr, .int .i64 z.m.tt, .int .i64 z.m.ki, .int .i64 z.m.bau, .int .i64 z.m.bnu, .slice z.m.bta z.m.btn z.m.btc, .int .i64 z.m.hau, .int .i64 z.m.hrd, .slice z.m.hba z.m.hbn z.m.hbc, .slice z.m.hpa z.m.hpn z.m.hpc, .int .i64 z.m.sau, .int .i64 z.m.srd, .slice z.m.sda z.m.sdn z.m.sdc, .int .i64 z.m.cau, .int .i64 z.m.crd, .slice z.m.cba z.m.cbn z.m.cbc, .slice z.m.cpa z.m.cpn z.m.cpc, .slice z.m.cva z.m.cvn z.m.cvc, .int .i64 z.m.ro] 37
    have qZ := setRow_heap _ _ _ #[.int .i64 z.m.fr, .int .i64 z.m.tt, .int .i64 z.m.ki, .int .i64 z.m.bau, .int .i64 z.m.bnu, .slice z.m.bta z.m.btn z.m.btc, .int .i64 z.m.hau, .int .i64 z.m.hrd, .slice z.m.hba z.m.hbn z.m.hbc, .slice z.m.hpa z.m.hpn z.m.hpc, .int .i64 z.m.sau, .int .i64 z.m.srd, .slice z.m.sda z.m.sdn z.m.sdc, .int .i64 z.m.cau, .int .i64 z.m.crd, .slice z.m.cba z.m.cbn z.m.cbc, .slice z.m.cpa z.m.cpn z.m.cpc, .slice z.m.cva z.m.cvn z.m.cvc, .int .i64 z.m.ro] _ _ qz
    go_upto_region 5 with (refine wpList_store_row rfl 37 _ _ rfl w2.heap.size #[.int .i64 z.m.fr, .int .i64 z.m.tt, .int .i64 z.m.ki, .int .i64 z.m.bau, .int .i64 z.m.bnu, .slice z.m.bta z.m.btn z.m.btc, .int .i64 z.m.hau, .int .i64 z.m.hrd, .slice z.m.hba z.m.hbn z.m.hbc, .slice z.m.hpa z.m.hpn z.m.hpc, .int .i64 z.m.sau, .int .i64 z.m.srd, .slice z.m.sda z.m.sdn z.m.sdc, .int .i64 z.m.cau, .int .i64 z.m.crd, .slice z.m.cba z.m.cbn z.m.cbc, .slice z.m.cpa z.m.cpn z.m.cpc, .slice z.m.cva z.m.cvn z.m.cvc, .int .i64 z.m.ro] rfl rfl 37 _ qz sMsg' rfl (by simp [Value.oneCell']) ?_)
    generalize (w2.alloc (.cells #[.int .i64 0, .int .i64 0, .int .i64 0, .int .i64 0, .int .i64 0, .slice none 0 0, .int .i64 0, .int .i64 0, .slice none 0 0, .slice none 0 0, .int .i64 0, .int .i64 0, .slice none 0 0, .int .i64 0, .int .i64 0, .slice none 0 0, .slice none 0 0, .slice none 0 0, .int .i64 0] 37)).setRow w2.heap.size #[.int .i64 z.m.fr, .int .i64 z.m.tt, .int .i64 z.m.ki, .int .i64 z.m.bau, .int .i64 z.m.bnu, .slice z.m.bta z.m.btn z.m.btc, .int .i64 z.m.hau, .int .i64 z.m.hrd, .slice z.m.hba z.m.hbn z.m.hbc, .slice z.m.hpa z.m.hpn z.m.hpc, .int .i64 z.m.sau, .int .i64 z.m.srd, .slice z.m.sda z.m.sdn z.m.sdc, .int .i64 z.m.cau, .int .i64 z.m.crd, .slice z.m.cba z.m.cbn z.m.cbc, .slice z.m.cpa z.m.cpn z.m.cpc, .slice z.m.cva z.m.cvn z.m.cvc, .int .i64 z.m.ro] = W2 at hA2 qZ ⊢
    clear qz
    have hBW2 := hB2.trans (hA2.mono hB2.size)
    have q3 := (hA2.block _ (lt_of_heap q2)).trans q2
    have hMx3 := (hM1.below hb2).below hA2
    have hMz3 := hMz.below hA2
    have hble : w.heap.size ≤ w1.heap.size := by omega
    have zc10 := cells_at qZ 10 _ rfl
    have xc10 := cells_at q3 10 _ rfl
    have xf10 := frozen_at q3 10
    have zc11 := cells_at qZ 11 _ rfl
    have xc11 := cells_at q3 11 _ rfl
    have xf11 := frozen_at q3 11
    have zc12 := cells_at qZ 12 _ rfl
    have xc12 := cells_at q3 12 _ rfl
    have xf12 := frozen_at q3 12
    have rF : (((W2.setCell ⟨w1.heap.size, 10, none⟩ (.int .i64 z.m.sau)).setCell ⟨w1.heap.size, 11, none⟩ (.int .i64 z.m.srd)).setCell ⟨w1.heap.size, 12, none⟩ (.slice z.m.sda z.m.sdn z.m.sdc)).heap[w1.heap.size]? = some (.cells #[.int .i64 x.m.fr, .int .i64 x.m.tt, .int .i64 x.m.ki, .int .i64 x.m.bau, .int .i64 x.m.bnu, .slice x.m.bta x.m.btn x.m.btc, .int .i64 x.m.hau, .int .i64 x.m.hrd, .slice x.m.hba x.m.hbn x.m.hbc, .slice x.m.hpa x.m.hpn x.m.hpc, .int .i64 z.m.sau, .int .i64 z.m.srd, .slice z.m.sda z.m.sdn z.m.sdc, .int .i64 x.m.cau, .int .i64 x.m.crd, .slice x.m.cba x.m.cbn x.m.cbc, .slice x.m.cpa x.m.cpn x.m.cpc, .slice x.m.cva x.m.cvn x.m.cvc, .int .i64 x.m.ro] 37 (0, 0)) := by simpa using (heap_setCell_same _ _ 12 _ _ (.slice z.m.sda z.m.sdn z.m.sdc) (heap_setCell_same _ _ 11 _ _ (.int .i64 z.m.srd) (heap_setCell_same _ _ 10 _ _ (.int .i64 z.m.sau) q3)))
    have hoth : ∀ k, k ≠ w1.heap.size → (((W2.setCell ⟨w1.heap.size, 10, none⟩ (.int .i64 z.m.sau)).setCell ⟨w1.heap.size, 11, none⟩ (.int .i64 z.m.srd)).setCell ⟨w1.heap.size, 12, none⟩ (.slice z.m.sda z.m.sdn z.m.sdc)).heap[k]? = W2.heap[k]? := fun k hk => ((heap_setCell_other _ ⟨w1.heap.size, 12, none⟩ k _ hk).trans ((heap_setCell_other _ ⟨w1.heap.size, 11, none⟩ k _ hk).trans ((heap_setCell_other _ ⟨w1.heap.size, 10, none⟩ k _ hk).trans rfl)))
    have hBF := (((hBW2.setCell (p := ⟨w1.heap.size, 10, none⟩) hble (.int .i64 z.m.sau)).setCell (p := ⟨w1.heap.size, 11, none⟩) hble (.int .i64 z.m.srd)).setCell (p := ⟨w1.heap.size, 12, none⟩) hble (.slice z.m.sda z.m.sdn z.m.sdc))
    go_upto_region 15 with fail
    generalize (((W2.setCell ⟨w1.heap.size, 10, none⟩ (.int .i64 z.m.sau)).setCell ⟨w1.heap.size, 11, none⟩ (.int .i64 z.m.srd)).setCell ⟨w1.heap.size, 12, none⟩ (.slice z.m.sda z.m.sdn z.m.sdc)) = W4 at rF hoth hBF ⊢
    clear q3 qZ zc10 xc10 xf10 zc11 xc11 xf11 zc12 xc12 xf12
    have hMx4 : MAt W4 x := hMx3.stays (G := fun k => W0.heap.size ≤ k ∧ k < w1.heap.size) (fun k hk => hoth k (by omega)) hX
    have hMz4 : MAt W4 z := hMz3.stays (G := fun k => W1.heap.size ≤ k) (fun k hk => hoth k (by omega)) hNz.has
    have hMM := mix3_at hMx4 hMz4
    have h44 : checkF (x.mix3 z).m (carriedF (x.mix3 z).m (x.mix3 z).ss (x.mix3 z).bl (x.mix3 z).pl (x.mix3 z).cbl (x.mix3 z).cpl (x.mix3 z).vl) = 4 := more3 hC hK HZ.out
    have hE := encode_any (x.mix3 z).m (x.mix3 z).ss (x.mix3 z).bl (x.mix3 z).pl (x.mix3 z).cbl (x.mix3 z).cpl (x.mix3 z).ds (x.mix3 z).vl W4 hMM.at' hMM.dig hMM.dn
    rw [h44] at hE
    go_wp2_with (refine wpList_load_row rfl 37 _ rfl w1.heap.size rfl 37 #[.int .i64 x.m.fr, .int .i64 x.m.tt, .int .i64 x.m.ki, .int .i64 x.m.bau, .int .i64 x.m.bnu, .slice x.m.bta x.m.btn x.m.btc, .int .i64 x.m.hau, .int .i64 x.m.hrd, .slice x.m.hba x.m.hbn x.m.hbc, .slice x.m.hpa x.m.hpn x.m.hpc, .int .i64 z.m.sau, .int .i64 z.m.srd, .slice z.m.sda z.m.sdn z.m.sdc, .int .i64 x.m.cau, .int .i64 x.m.crd, .slice x.m.cba x.m.cbn x.m.cbc, .slice x.m.cpa x.m.cpn x.m.cpc, .slice x.m.cva x.m.cvn x.m.cvc, .int .i64 x.m.ro] (0, 0) _ rF Try.underlying37 rfl sMsg' ?_)
    refine hE.mono ?_
    rintro e w5 ⟨v, he, -, hb5⟩
    clear hE
    subst he
    dsimp only
    have hB5 := hBF.trans (hb5.mono hBF.size)
    have rF5 := (hb5.block _ (lt_of_heap rF)).trans rF
    have hCk := check_any (x.mix3 z).m (x.mix3 z).ss (x.mix3 z).bl (x.mix3 z).pl (x.mix3 z).cbl (x.mix3 z).cpl (x.mix3 z).vl w5 (hMM.at'.below hb5)
    rw [h44] at hCk
    go_wp2_with (refine wpList_load_row rfl 37 _ rfl w1.heap.size rfl 37 #[.int .i64 x.m.fr, .int .i64 x.m.tt, .int .i64 x.m.ki, .int .i64 x.m.bau, .int .i64 x.m.bnu, .slice x.m.bta x.m.btn x.m.btc, .int .i64 x.m.hau, .int .i64 x.m.hrd, .slice x.m.hba x.m.hbn x.m.hbc, .slice x.m.hpa x.m.hpn x.m.hpc, .int .i64 z.m.sau, .int .i64 z.m.srd, .slice z.m.sda z.m.sdn z.m.sdc, .int .i64 x.m.cau, .int .i64 x.m.crd, .slice x.m.cba x.m.cbn x.m.cbc, .slice x.m.cpa x.m.cpn x.m.cpc, .slice x.m.cva x.m.cvn x.m.cvc, .int .i64 x.m.ro] (0, 0) _ rF5 Try.underlying37 rfl sMsg' ?_)
    refine hCk.mono ?_
    rintro e w6 ⟨he, hb6⟩
    clear hCk
    subst he
    dsimp only
    go_wp2_with fail
    go_ret
    exact ⟨rfl, hB5.trans (hb6.mono hB5.size)⟩
set_option maxRecDepth 100000 in
set_option maxHeartbeats 8000000 in
theorem more_walk4 (ki ra rb rc : Int) (sa : Option Addr) (cap : Nat) (ss0 : List ByteArray) (kd : Int) (w : World) (h1 : I64 ki) (h2 : I64 ra) (h3 : I64 rb) (h4 : I64 rc) (h5 : TextsAt w sa cap ss0) (hn1 : -9223372036854775808 ≤ kd) (hn2 : kd ≤ 9223372036854775807) (hkd : pk kd 5 = 3) :
    Calls Try.prog 6 #[.agg #[.int .i64 ki, .int .i64 ra, .int .i64 rb, .int .i64 rc, .slice sa ss0.length cap], .int .i64 kd] w fun e w' => e = .returned (.bool true) ∧ Below w.heap.size w w' := by
  have HP : Hid (∀ W : World, Calls Try.prog 14 #[.int .i64 kd, .int .i64 5] W fun e w' => e = .returned (.int .i64 3) ∧ W = w') := by
    show ∀ _, _
    intro W
    rw [← hkd]
    exact picked_any kd 5 W hn1 hn2 (by omega) (by omega)
  clear hkd
  have hA : Below w.heap.size w (w.alloc (.cells #[.int .i64 ki, .int .i64 ra, .int .i64 rb, .int .i64 rc, .slice sa ss0.length cap] 24)) := (Below.refl _ _).alloc (Nat.le_refl _) _
  have p0 := heap_alloc_new w (.cells #[.int .i64 ki, .int .i64 ra, .int .i64 rb, .int .i64 rc, .slice sa ss0.length cap] 24)
  go_enter Try.func6, Try.ntmps6
  go_wp2_with fail
  generalize w.alloc (.cells #[.int .i64 ki, .int .i64 ra, .int .i64 rb, .int .i64 rc, .slice sa ss0.length cap] 24) = W0 at hA p0 ⊢
  refine (raw_msgM ki ra rb rc sa cap ss0 W0 h1 h2 h3 h4 (h5.below hA)).mono ?_
  rintro e w1 ⟨x, he, hM, hC, hN, hb1, -⟩
  have hB1 := hA.trans (hb1.mono hA.size)
  subst he
  dsimp only
  have p1 := (hb1.block _ (lt_of_heap p0)).trans p0
  have qz := heap_alloc_new w1 (.cells #[.int .i64 0, .int .i64 0, .int .i64 0, .int .i64 0, .int .i64 0, .slice none 0 0, .int .i64 0, .int .i64 0, .slice none 0 0, .slice none 0 0, .int .i64 0, .int .i64 0, .slice none 0 0, .int .i64 0, .int .i64 0, .slice none 0 0, .slice none 0 0, .slice none 0 0, .int .i64 0] 37)
  have hA1 : Below w1.heap.size w1 ((w1.alloc (.cells #[.int .i64 0, .int .i64 0, .int .i64 0, .int .i64 0, .int .i64 0, .slice none 0 0, .int .i64 0, .int .i64 0, .slice none 0 0, .slice none 0 0, .int .i64 0, .int .i64 0, .slice none 0 0, .int .i64 0, .int .i64 0, .slice none 0 0, .slice none 0 0, .slice none 0 0, .int .i64 0] 37)).setRow w1.heap.size #[.int .i64 x.m.fr, .int .i64 x.m.tt, .int .i64 x.m.ki, .int .i64 x.m.bau, .int .i64 x.m.bnu, .slice x.m.bta x.m.btn x.m.btc, .int .i64 x.m.hau, .int .i64 x.m.hrd, .slice x.m.hba x.m.hbn x.m.hbc, .slice x.m.hpa x.m.hpn x.m.hpc, .int .i64 x.m.sau, .int .i64 x.m.srd, .slice x.m.sda x.m.sdn x.m.sdc, .int .i64 x.m.cau, .int .i64 x.m.crd, .slice x.m.cba x.m.cbn x.m.cbc, .slice x.m.cpa x.m.cpn x.m.cpc, .slice x.m.cva x.m.cvn x.m.cvc, .int .i64 x.m.ro]) := laid_row w1 #[.int .i64 0, .int .i64 0, .int .i64 0, .int .i64 0, .int .i64 0, .slice none 0 0, .int .i64 0, .int .i64 0, .slice none 0 0, .slice none 0 0, .int .i64 0, .int .i64 0, .slice none 0 0, .int .i64 0, .int .i64 0, .slice none 0 0, .slice none 0 0, .slice none 0 0, .int .i64 0] #[.int .i64 x.m.fr, .int .i64 x.m.tt, .int .i64 x.m.ki, .int .i64 x.m.bau, .int .i64 x.m.bnu, .slice x.m.bta x.m.btn x.m.btc, .int .i64 x.m.hau, .int .i64 x.m.hrd, .slice x.m.hba x.m.hbn x.m.hbc, .slice x.m.hpa x.m.hpn x.m.hpc, .int .i64 x.m.sau, .int .i64 x.m.srd, .slice x.m.sda x.m.sdn x.m.sdc, .int .i64 x.m.cau, .int .i64 x.m.crd, .slice x.m.cba x.m.cbn x.m.cbc, .slice x.m.cpa x.m.cpn x.m.cpc, .slice x.m.cva x.m.cvn x.m.cvc, .int .i64 x.m.ro] 37
  have q1 := setRow_heap _ _ _ #[.int .i64 x.m.fr, .int .i64 x.m.tt, .int .i64 x.m.ki, .int .i64 x.m.bau, .int .i64 x.m.bnu, .slice x.m.bta x.m.btn x.m.btc, .int .i64 x.m.hau, .int .i64 x.m.hrd, .slice x.m.hba x.m.hbn x.m.hbc, .slice x.m.hpa x.m.hpn x.m.hpc, .int .i64 x.m.sau, .int .i64 x.m.srd, .slice x.m.sda x.m.sdn x.m.sdc, .int .i64 x.m.cau, .int .i64 x.m.crd, .slice x.m.cba x.m.cbn x.m.cbc, .slice x.m.cpa x.m.cpn x.m.cpc, .slice x.m.cva x.m.cvn x.m.cvc, .int .i64 x.m.ro] _ _ qz
  have hlt0 : w.heap.size < w1.heap.size := lt_of_heap p1
  have p2 := (hA1.block _ (lt_of_heap p1)).trans p1
  have hX := hN.has.lt hM
  have hM1 := hM.below hA1
  go_upto_region 2 with (refine wpList_store_row rfl 37 _ _ rfl w1.heap.size #[.int .i64 x.m.fr, .int .i64 x.m.tt, .int .i64 x.m.ki, .int .i64 x.m.bau, .int .i64 x.m.bnu, .slice x.m.bta x.m.btn x.m.btc, .int .i64 x.m.hau, .int .i64 x.m.hrd, .slice x.m.hba x.m.hbn x.m.hbc, .slice x.m.hpa x.m.hpn x.m.hpc, .int .i64 x.m.sau, .int .i64 x.m.srd, .slice x.m.sda x.m.sdn x.m.sdc, .int .i64 x.m.cau, .int .i64 x.m.crd, .slice x.m.cba x.m.cbn x.m.cbc, .slice x.m.cpa x.m.cpn x.m.cpc, .slice x.m.cva x.m.cvn x.m.cvc, .int .i64 x.m.ro] rfl rfl 37 _ qz sMsg' rfl (by simp [Value.oneCell']) ?_)
  generalize (w1.alloc (.cells #[.int .i64 0, .int .i64 0, .int .i64 0, .int .i64 0, .int .i64 0, .slice none 0 0, .int .i64 0, .int .i64 0, .slice none 0 0, .slice none 0 0, .int .i64 0, .int .i64 0, .slice none 0 0, .int .i64 0, .int .i64 0, .slice none 0 0, .slice none 0 0, .slice none 0 0, .int .i64 0] 37)).setRow w1.heap.size #[.int .i64 x.m.fr, .int .i64 x.m.tt, .int .i64 x.m.ki, .int .i64 x.m.bau, .int .i64 x.m.bnu, .slice x.m.bta x.m.btn x.m.btc, .int .i64 x.m.hau, .int .i64 x.m.hrd, .slice x.m.hba x.m.hbn x.m.hbc, .slice x.m.hpa x.m.hpn x.m.hpc, .int .i64 x.m.sau, .int .i64 x.m.srd, .slice x.m.sda x.m.sdn x.m.sdc, .int .i64 x.m.cau, .int .i64 x.m.crd, .slice x.m.cba x.m.cbn x.m.cbc, .slice x.m.cpa x.m.cpn x.m.cpc, .slice x.m.cva x.m.cvn x.m.cvc, .int .i64 x.m.ro] = W1 at hA1 q1 p2 hM1 ⊢
  clear qz
  have hBW1 := hB1.trans (hA1.mono hB1.size)
  have y2 := cells_at q1 2 _ rfl
  have hltW : w1.heap.size < W1.heap.size := lt_of_heap q1
  by_cases hK : x.m.ki = 4
  · rw [hK] at y2
    have hf2 := frozen_at q1 2
    have HK6 : Hid (checkF { x.m with ki := 6 } (carriedF { x.m with ki := 6 } x.ss x.bl x.pl x.cbl x.cpl x.vl) = 3) := check_kind6 (checkF_ok hC).1 (checkF_ok hC).2.1
    have q3 : (W1.setCell ⟨w1.heap.size, 2, none⟩ (.int .i64 6)).heap[w1.heap.size]? = some (.cells #[.int .i64 x.m.fr, .int .i64 x.m.tt, .int .i64 6, .int .i64 x.m.bau, .int .i64 x.m.bnu, .slice x.m.bta x.m.btn x.m.btc, .int .i64 x.m.hau, .int .i64 x.m.hrd, .slice x.m.hba x.m.hbn x.m.hbc, .slice x.m.hpa x.m.hpn x.m.hpc, .int .i64 x.m.sau, .int .i64 x.m.srd, .slice x.m.sda x.m.sdn x.m.sdc, .int .i64 x.m.cau, .int .i64 x.m.crd, .slice x.m.cba x.m.cbn x.m.cbc, .slice x.m.cpa x.m.cpn x.m.cpc, .slice x.m.cva x.m.cvn x.m.cvc, .int .i64 x.m.ro] 37 (0, 0)) := by simpa using heap_setCell_same _ _ 2 _ _ (.int .i64 6) q1
    have p3 := heap_far (j := 2) (v := .int .i64 6) p2 (show w.heap.size ≠ w1.heap.size by omega)
    have hBW3 := hBW1.setCell (p := ⟨w1.heap.size, 2, none⟩) (show w.heap.size ≤ w1.heap.size by omega) (.int .i64 6)
    have hM3 : MAt (W1.setCell ⟨w1.heap.size, 2, none⟩ (.int .i64 6)) x := hM1.stays (G := fun k => W0.heap.size ≤ k ∧ k < w1.heap.size) (fun k hk => heap_setCell_other _ ⟨w1.heap.size, 2, none⟩ k _ (show k ≠ w1.heap.size by omega)) hX
    have hsz3 : w1.heap.size < (W1.setCell ⟨w1.heap.size, 2, none⟩ (.int .i64 6)).heap.size := lt_of_heap q3
    go_upto_region 18 with (go_at_call 14; refine (HP.out _).mono ?_; rintro e w9 ⟨rfl, rfl⟩)
    generalize W1.setCell ⟨w1.heap.size, 2, none⟩ (.int .i64 6) = W3 at q3 p3 hBW3 hM3 hsz3 ⊢
    clear hM1 q1 p2 y2 hf2
    have u0 := cells_at p3 0 _ rfl
    have u1 := cells_at p3 1 _ rfl
    have u2 := cells_at p3 2 _ rfl
    have u3 := cells_at p3 3 _ rfl
    have u4 := cells_at p3 4 _ rfl
    have hZ := raw_msgM ki ra rb rc sa cap ss0 W3 h1 h2 h3 h4 (h5.below hBW3)
    go_wp2_with fail
    refine hZ.mono ?_
    rintro e w4 ⟨n, he, hMn, -, hNn, hb4, -⟩
    clear hZ
    subst he
    dsimp only
    have hB4 := hBW3.trans (hb4.mono hBW3.size)
    have q4 := (hb4.block _ (lt_of_heap q3)).trans q3
    have hM4 := hM3.below hb4
    have hNL := hNn.has.lt hMn
    have hlt4 : w1.heap.size < w4.heap.size := lt_of_heap q4
    have qz := heap_alloc_new w4 (.cells #[.int .i64 0, .int .i64 0, .int .i64 0, .int .i64 0, .int .i64 0, .slice none 0 0, .int .i64 0, .int .i64 0, .slice none 0 0, .slice none 0 0, .int .i64 0, .int .i64 0, .slice none 0 0, .int .i64 0, .int .i64 0, .slice none 0 0, .slice none 0 0, .slice none 0 0, .int .i64 0] 37)
    have hA5 : Below w4.heap.size w4 ((w4.alloc (.cells #[.int .i64 0, .int .i64 0, .int .i64 0, .int .i64 0, .int .i64 0, .slice none 0 0, .int .i64 0, .int .i64 0, .slice none 0 0, .slice none 0 0, .int .i64 0, .int .i64 0, .slice none 0 0, .int .i64 0, .int .i64 0, .slice none 0 0, .slice none 0 0, .slice none 0 0, .int .i64 0] 37)).setRow w4.heap.size #[.int .i64 n.m.fr, .int .i64 n.m.tt, .int .i64 n.m.ki, .int .i64 n.m.bau, .int .i64 n.m.bnu, .slice n.m.bta n.m.btn n.m.btc, .int .i64 n.m.hau, .int .i64 n.m.hrd, .slice n.m.hba n.m.hbn n.m.hbc, .slice n.m.hpa n.m.hpn n.m.hpc, .int .i64 n.m.sau, .int .i64 n.m.srd, .slice n.m.sda n.m.sdn n.m.sdc, .int .i64 n.m.cau, .int .i64 n.m.crd, .slice n.m.cba n.m.cbn n.m.cbc, .slice n.m.cpa n.m.cpn n.m.cpc, .slice n.m.cva n.m.cvn n.m.cvc, .int .i64 n.m.ro]) := laid_row w4 #[.int .i64 0, .int .i64 0, .int .i64 0, .int .i64 0, .int .i64 0, .slice none 0 0, .int .i64 0, .int .i64 0, .slice none 0 0, .slice none 0 0, .int .i64 0, .int .i64 0, .slice none 0 0, .int .i64 0, .int .i64 0, .slice none 0 0, .slice none 0 0, .slice none 0 0, .int .i64 0] #[.int .i64 n.m.fr, .int .i64 n.m.tt, .int .i64 n.m.ki, .int .i64 n.m.bau, .int .i64 n.m.bnu, .slice n.m.bta n.m.btn n.m.btc, .int .i64 n.m.hau, .int .i64 n.m.hrd, .slice n.m.hba n.m.hbn n.m.hbc, .slice n.m.hpa n.m.hpn n.m.hpc, .int .i64 n.m.sau, .int .i64 n.m.srd, .slice n.m.sda n.m.sdn n.m.sdc, .int .i64 n.m.cau, .int .i64 n.m.crd, .slice n.m.cba n.m.cbn n.m.cbc, .slice n.m.cpa n.m.cpn n.m.cpc, .slice n.m.cva n.m.cvn n.m.cvc, .int .i64 n.m.ro] 37
    have qN := setRow_heap _ _ _ #[.int .i64 n.m.fr, .int .i64 n.m.tt, .int .i64 n.m.ki, .int .i64 n.m.bau, .int .i64 n.m.bnu, .slice n.m.bta n.m.btn n.m.btc, .int .i64 n.m.hau, .int .i64 n.m.hrd, .slice n.m.hba n.m.hbn n.m.hbc, .slice n.m.hpa n.m.hpn n.m.hpc, .int .i64 n.m.sau, .int .i64 n.m.srd, .slice n.m.sda n.m.sdn n.m.sdc, .int .i64 n.m.cau, .int .i64 n.m.crd, .slice n.m.cba n.m.cbn n.m.cbc, .slice n.m.cpa n.m.cpn n.m.cpc, .slice n.m.cva n.m.cvn n.m.cvc, .int .i64 n.m.ro] _ _ qz
    go_upto_region 19 with (refine wpList_store_row rfl 37 _ _ rfl w4.heap.size #[.int .i64 n.m.fr, .int .i64 n.m.tt, .int .i64 n.m.ki, .int .i64 n.m.bau, .int .i64 n.m.bnu, .slice n.m.bta n.m.btn n.m.btc, .int .i64 n.m.hau, .int .i64 n.m.hrd, .slice n.m.hba n.m.hbn n.m.hbc, .slice n.m.hpa n.m.hpn n.m.hpc, .int .i64 n.m.sau, .int .i64 n.m.srd, .slice n.m.sda n.m.sdn n.m.sdc, .int .i64 n.m.cau, .int .i64 n.m.crd, .slice n.m.cba n.m.cbn n.m.cbc, .slice n.m.cpa n.m.cpn n.m.cpc, .slice n.m.cva n.m.cvn n.m.cvc, .int .i64 n.m.ro] rfl rfl 37 _ qz sMsg' rfl (by simp [Value.oneCell']) ?_)
    generalize (w4.alloc (.cells #[.int .i64 0, .int .i64 0, .int .i64 0, .int .i64 0, .int .i64 0, .slice none 0 0, .int .i64 0, .int .i64 0, .slice none 0 0, .slice none 0 0, .int .i64 0, .int .i64 0, .slice none 0 0, .int .i64 0, .int .i64 0, .slice none 0 0, .slice none 0 0, .slice none 0 0, .int .i64 0] 37)).setRow w4.heap.size #[.int .i64 n.m.fr, .int .i64 n.m.tt, .int .i64 n.m.ki, .int .i64 n.m.bau, .int .i64 n.m.bnu, .slice n.m.bta n.m.btn n.m.btc, .int .i64 n.m.hau, .int .i64 n.m.hrd, .slice n.m.hba n.m.hbn n.m.hbc, .slice n.m.hpa n.m.hpn n.m.hpc, .int .i64 n.m.sau, .int .i64 n.m.srd, .slice n.m.sda n.m.sdn n.m.sdc, .int .i64 n.m.cau, .int .i64 n.m.crd, .slice n.m.cba n.m.cbn n.m.cbc, .slice n.m.cpa n.m.cpn n.m.cpc, .slice n.m.cva n.m.cvn n.m.cvc, .int .i64 n.m.ro] = W5 at hA5 qN ⊢
    clear qz
    have q5 := (hA5.block _ (lt_of_heap q4)).trans q4
    have hM5 := hM4.below hA5
    have hMn5 := hMn.below hA5
    have hBW5 := hB4.trans (hA5.mono hB4.size)
    have n0 := cells_at qN 0 _ rfl
    have nf := frozen_at qN 0
    have qN6 : (W5.setCell ⟨w4.heap.size, 0, none⟩ (.int .i64 4)).heap[w4.heap.size]? = some (.cells #[.int .i64 4, .int .i64 n.m.tt, .int .i64 n.m.ki, .int .i64 n.m.bau, .int .i64 n.m.bnu, .slice n.m.bta n.m.btn n.m.btc, .int .i64 n.m.hau, .int .i64 n.m.hrd, .slice n.m.hba n.m.hbn n.m.hbc, .slice n.m.hpa n.m.hpn n.m.hpc, .int .i64 n.m.sau, .int .i64 n.m.srd, .slice n.m.sda n.m.sdn n.m.sdc, .int .i64 n.m.cau, .int .i64 n.m.crd, .slice n.m.cba n.m.cbn n.m.cbc, .slice n.m.cpa n.m.cpn n.m.cpc, .slice n.m.cva n.m.cvn n.m.cvc, .int .i64 n.m.ro] 37 (0, 0)) := by simpa using heap_setCell_same _ _ 0 _ _ (.int .i64 4) qN
    have q6 := heap_far (j := 0) (v := .int .i64 4) q5 (show w1.heap.size ≠ w4.heap.size by omega)
    have hBW6 := hBW5.setCell (p := ⟨w4.heap.size, 0, none⟩) (show w.heap.size ≤ w4.heap.size by omega) (.int .i64 4)
    have hM6 : MAt (W5.setCell ⟨w4.heap.size, 0, none⟩ (.int .i64 4)) x := hM5.stays (G := fun k => W0.heap.size ≤ k ∧ k < w1.heap.size) (fun k hk => heap_setCell_other _ ⟨w4.heap.size, 0, none⟩ k _ (show k ≠ w4.heap.size by omega)) hX
    have hMn6 : MAt (W5.setCell ⟨w4.heap.size, 0, none⟩ (.int .i64 4)) n := hMn5.stays (G := fun k => W3.heap.size ≤ k ∧ k < w4.heap.size) (fun k hk => heap_setCell_other _ ⟨w4.heap.size, 0, none⟩ k _ (show k ≠ w4.heap.size by omega)) hNL
    go_upto_region 20 with fail
    generalize W5.setCell ⟨w4.heap.size, 0, none⟩ (.int .i64 4) = W6 at qN6 q6 hBW6 hM6 hMn6 ⊢
    clear n0 nf hM5 hMn5 qN q5 u0 u1 u2 u3 u4
    have H6 := hM6.at'
    have hC6 := check_any { x.m with ki := 6 } x.ss x.bl x.pl x.cbl x.cpl x.vl W6 ⟨H6.e1, H6.e2, H6.e3, H6.e4, H6.e5, H6.e6, H6.s1, H6.s6, H6.s7, H6.txs, H6.bat, H6.par, H6.cbat, H6.cpar, H6.vot⟩
    rw [HK6.out] at hC6
    go_wp2_with (refine wpList_load_row rfl 37 _ rfl w1.heap.size rfl 37 #[.int .i64 x.m.fr, .int .i64 x.m.tt, .int .i64 6, .int .i64 x.m.bau, .int .i64 x.m.bnu, .slice x.m.bta x.m.btn x.m.btc, .int .i64 x.m.hau, .int .i64 x.m.hrd, .slice x.m.hba x.m.hbn x.m.hbc, .slice x.m.hpa x.m.hpn x.m.hpc, .int .i64 x.m.sau, .int .i64 x.m.srd, .slice x.m.sda x.m.sdn x.m.sdc, .int .i64 x.m.cau, .int .i64 x.m.crd, .slice x.m.cba x.m.cbn x.m.cbc, .slice x.m.cpa x.m.cpn x.m.cpc, .slice x.m.cva x.m.cvn x.m.cvc, .int .i64 x.m.ro] (0, 0) _ q6 Try.underlying37 rfl sMsg' ?_)
    refine hC6.mono ?_
    rintro e w7 ⟨he, hb7⟩
    clear hC6
    subst he
    dsimp only
    have qN7 := (hb7.block _ (lt_of_heap qN6)).trans qN6
    have H7 := (hMn6.below hb7).at'
    have hC7 := check_any { n.m with fr := 4 } n.ss n.bl n.pl n.cbl n.cpl n.vl w7 ⟨H7.e1, H7.e2, H7.e3, H7.e4, H7.e5, H7.e6, H7.s1, H7.s6, H7.s7, H7.txs, H7.bat, H7.par, H7.cbat, H7.cpar, H7.vot⟩
    rw [check_from4] at hC7
    have hB7 := hBW6.trans (hb7.mono hBW6.size)
    go_wp2_with (refine wpList_load_row_w rfl 37 _ rfl w4.heap.size rfl 37 #[.int .i64 4, .int .i64 n.m.tt, .int .i64 n.m.ki, .int .i64 n.m.bau, .int .i64 n.m.bnu, .slice n.m.bta n.m.btn n.m.btc, .int .i64 n.m.hau, .int .i64 n.m.hrd, .slice n.m.hba n.m.hbn n.m.hbc, .slice n.m.hpa n.m.hpn n.m.hpc, .int .i64 n.m.sau, .int .i64 n.m.srd, .slice n.m.sda n.m.sdn n.m.sdc, .int .i64 n.m.cau, .int .i64 n.m.crd, .slice n.m.cba n.m.cbn n.m.cbc, .slice n.m.cpa n.m.cpn n.m.cpc, .slice n.m.cva n.m.cvn n.m.cvc, .int .i64 n.m.ro] (0, 0) _ qN7 Try.underlying37 rfl sMsg' ?_)
    refine hC7.mono ?_
    rintro e w8 ⟨he, hb8⟩
    clear hC7
    subst he
    dsimp only
    go_wp2_with fail
    go_ret
    exact ⟨rfl, hB7.trans (hb8.mono hB7.size)⟩
  · have hKn : (4 : Int) ≠ x.m.ki := fun e => hK e.symm
    have u1 := cells_at p2 1 _ rfl
    have u2 := cells_at p2 2 _ rfl
    have u3 := cells_at p2 3 _ rfl
    have hZ := raw_msgM 3 ra rb rc none 0 [] W1 ⟨by decide, by decide⟩ h2 h3 h4 (texts_none _)
    go_wp2_with (go_at_call 14; refine (HP.out _).mono ?_; rintro e w9 ⟨rfl, rfl⟩)
    refine hZ.mono ?_
    rintro e w2 ⟨z, he, hMz, -, hNz, hb2, hkz, z1, z2, z3, z4, z5⟩
    rw [pk_smallM (a := 3) (by decide)] at hkz
    have HZ : Hid (z.m.crd ≠ 0) := z4 hkz
    clear hZ z1 z2 z3 z4 z5 hkz u1 u2 u3 y2
    subst he
    dsimp only
    have hB2 := hBW1.trans (hb2.mono hBW1.size)
    have q2 := (hb2.block _ (lt_of_heap q1)).trans q1
    have hlt2 : w1.heap.size < w2.heap.size := lt_of_heap q2
    have qz := heap_alloc_new w2 (.cells #[.int .i64 0, .int .i64 0, .int .i64 0, .int .i64 0, .int .i64 0, .slice none 0 0, .int .i64 0, .int .i64 0, .slice none 0 0, .slice none 0 0, .int .i64 0, .int .i64 0, .slice none 0 0, .int .i64 0, .int .i64 0, .slice none 0 0, .slice none 0 0, .slice none 0 0, .int .i64 0] 37)
    have hA2 : Below w2.heap.size w2 ((w2.alloc (.cells #[.int .i64 0, .int .i64 0, .int .i64 0, .int .i64 0, .int .i64 0, .slice none 0 0, .int .i64 0, .int .i64 0, .slice none 0 0, .slice none 0 0, .int .i64 0, .int .i64 0, .slice none 0 0, .int .i64 0, .int .i64 0, .slice none 0 0, .slice none 0 0, .slice none 0 0, .int .i64 0] 37)).setRow w2.heap.size #[.int .i64 z.m.fr, .int .i64 z.m.tt, .int .i64 z.m.ki, .int .i64 z.m.bau, .int .i64 z.m.bnu, .slice z.m.bta z.m.btn z.m.btc, .int .i64 z.m.hau, .int .i64 z.m.hrd, .slice z.m.hba z.m.hbn z.m.hbc, .slice z.m.hpa z.m.hpn z.m.hpc, .int .i64 z.m.sau, .int .i64 z.m.srd, .slice z.m.sda z.m.sdn z.m.sdc, .int .i64 z.m.cau, .int .i64 z.m.crd, .slice z.m.cba z.m.cbn z.m.cbc, .slice z.m.cpa z.m.cpn z.m.cpc, .slice z.m.cva z.m.cvn z.m.cvc, .int .i64 z.m.ro]) := laid_row w2 #[.int .i64 0, .int .i64 0, .int .i64 0, .int .i64 0, .int .i64 0, .slice none 0 0, .int .i64 0, .int .i64 0, .slice none 0 0, .slice none 0 0, .int .i64 0, .int .i64 0, .slice none 0 0, .int .i64 0, .int .i64 0, .slice none 0 0, .slice none 0 0, .slice none 0 0, .int .i64 0] #[.int .i64 z.m.fr, .int .i64 z.m.tt, .int .i64 z.m.ki, .int .i64 z.m.bau, .int .i64 z.m.bnu, .slice z.m.bta z.m.btn z.m.btc, .int .i64 z.m.hau, .int .i64 z.m.hrd, .slice z.m.hba z.m.hbn z.m.hbc, .slice z.m.hpa z.m.hpn z.m.hpc, .int .i64 z.m.sau, .int .i64 z.m.srd, .slice z.m.sda z.m.sdn z.m.sdc, .int .i64 z.m.cau, .int .i64 z.m.crd, .slice z.m.cba z.m.cbn z.m.cbc, .slice z.m.cpa z.m.cpn z.m.cpc, .slice z.m.cva z.m.cvn z.m.cvc, .int .i64 z.m.ro] 37
    have qZ := setRow_heap _ _ _ #[.int .i64 z.m.fr, .int .i64 z.m.tt, .int .i64 z.m.ki, .int .i64 z.m.bau, .int .i64 z.m.bnu, .slice z.m.bta z.m.btn z.m.btc, .int .i64 z.m.hau, .int .i64 z.m.hrd, .slice z.m.hba z.m.hbn z.m.hbc, .slice z.m.hpa z.m.hpn z.m.hpc, .int .i64 z.m.sau, .int .i64 z.m.srd, .slice z.m.sda z.m.sdn z.m.sdc, .int .i64 z.m.cau, .int .i64 z.m.crd, .slice z.m.cba z.m.cbn z.m.cbc, .slice z.m.cpa z.m.cpn z.m.cpc, .slice z.m.cva z.m.cvn z.m.cvc, .int .i64 z.m.ro] _ _ qz
    go_upto_region 5 with (refine wpList_store_row rfl 37 _ _ rfl w2.heap.size #[.int .i64 z.m.fr, .int .i64 z.m.tt, .int .i64 z.m.ki, .int .i64 z.m.bau, .int .i64 z.m.bnu, .slice z.m.bta z.m.btn z.m.btc, .int .i64 z.m.hau, .int .i64 z.m.hrd, .slice z.m.hba z.m.hbn z.m.hbc, .slice z.m.hpa z.m.hpn z.m.hpc, .int .i64 z.m.sau, .int .i64 z.m.srd, .slice z.m.sda z.m.sdn z.m.sdc, .int .i64 z.m.cau, .int .i64 z.m.crd, .slice z.m.cba z.m.cbn z.m.cbc, .slice z.m.cpa z.m.cpn z.m.cpc, .slice z.m.cva z.m.cvn z.m.cvc, .int .i64 z.m.ro] rfl rfl 37 _ qz sMsg' rfl (by simp [Value.oneCell']) ?_)
    generalize (w2.alloc (.cells #[.int .i64 0, .int .i64 0, .int .i64 0, .int .i64 0, .int .i64 0, .slice none 0 0, .int .i64 0, .int .i64 0, .slice none 0 0, .slice none 0 0, .int .i64 0, .int .i64 0, .slice none 0 0, .int .i64 0, .int .i64 0, .slice none 0 0, .slice none 0 0, .slice none 0 0, .int .i64 0] 37)).setRow w2.heap.size #[.int .i64 z.m.fr, .int .i64 z.m.tt, .int .i64 z.m.ki, .int .i64 z.m.bau, .int .i64 z.m.bnu, .slice z.m.bta z.m.btn z.m.btc, .int .i64 z.m.hau, .int .i64 z.m.hrd, .slice z.m.hba z.m.hbn z.m.hbc, .slice z.m.hpa z.m.hpn z.m.hpc, .int .i64 z.m.sau, .int .i64 z.m.srd, .slice z.m.sda z.m.sdn z.m.sdc, .int .i64 z.m.cau, .int .i64 z.m.crd, .slice z.m.cba z.m.cbn z.m.cbc, .slice z.m.cpa z.m.cpn z.m.cpc, .slice z.m.cva z.m.cvn z.m.cvc, .int .i64 z.m.ro] = W2 at hA2 qZ ⊢
    clear qz
    have hBW2 := hB2.trans (hA2.mono hB2.size)
    have q3 := (hA2.block _ (lt_of_heap q2)).trans q2
    have hMx3 := (hM1.below hb2).below hA2
    have hMz3 := hMz.below hA2
    have hble : w.heap.size ≤ w1.heap.size := by omega
    have zc13 := cells_at qZ 13 _ rfl
    have xc13 := cells_at q3 13 _ rfl
    have xf13 := frozen_at q3 13
    have zc14 := cells_at qZ 14 _ rfl
    have xc14 := cells_at q3 14 _ rfl
    have xf14 := frozen_at q3 14
    have zc15 := cells_at qZ 15 _ rfl
    have xc15 := cells_at q3 15 _ rfl
    have xf15 := frozen_at q3 15
    have zc16 := cells_at qZ 16 _ rfl
    have xc16 := cells_at q3 16 _ rfl
    have xf16 := frozen_at q3 16
    have zc17 := cells_at qZ 17 _ rfl
    have xc17 := cells_at q3 17 _ rfl
    have xf17 := frozen_at q3 17
    have rF : (((((W2.setCell ⟨w1.heap.size, 13, none⟩ (.int .i64 z.m.cau)).setCell ⟨w1.heap.size, 14, none⟩ (.int .i64 z.m.crd)).setCell ⟨w1.heap.size, 15, none⟩ (.slice z.m.cba z.m.cbn z.m.cbc)).setCell ⟨w1.heap.size, 16, none⟩ (.slice z.m.cpa z.m.cpn z.m.cpc)).setCell ⟨w1.heap.size, 17, none⟩ (.slice z.m.cva z.m.cvn z.m.cvc)).heap[w1.heap.size]? = some (.cells #[.int .i64 x.m.fr, .int .i64 x.m.tt, .int .i64 x.m.ki, .int .i64 x.m.bau, .int .i64 x.m.bnu, .slice x.m.bta x.m.btn x.m.btc, .int .i64 x.m.hau, .int .i64 x.m.hrd, .slice x.m.hba x.m.hbn x.m.hbc, .slice x.m.hpa x.m.hpn x.m.hpc, .int .i64 x.m.sau, .int .i64 x.m.srd, .slice x.m.sda x.m.sdn x.m.sdc, .int .i64 z.m.cau, .int .i64 z.m.crd, .slice z.m.cba z.m.cbn z.m.cbc, .slice z.m.cpa z.m.cpn z.m.cpc, .slice z.m.cva z.m.cvn z.m.cvc, .int .i64 x.m.ro] 37 (0, 0)) := by simpa using (heap_setCell_same _ _ 17 _ _ (.slice z.m.cva z.m.cvn z.m.cvc) (heap_setCell_same _ _ 16 _ _ (.slice z.m.cpa z.m.cpn z.m.cpc) (heap_setCell_same _ _ 15 _ _ (.slice z.m.cba z.m.cbn z.m.cbc) (heap_setCell_same _ _ 14 _ _ (.int .i64 z.m.crd) (heap_setCell_same _ _ 13 _ _ (.int .i64 z.m.cau) q3)))))
    have hoth : ∀ k, k ≠ w1.heap.size → (((((W2.setCell ⟨w1.heap.size, 13, none⟩ (.int .i64 z.m.cau)).setCell ⟨w1.heap.size, 14, none⟩ (.int .i64 z.m.crd)).setCell ⟨w1.heap.size, 15, none⟩ (.slice z.m.cba z.m.cbn z.m.cbc)).setCell ⟨w1.heap.size, 16, none⟩ (.slice z.m.cpa z.m.cpn z.m.cpc)).setCell ⟨w1.heap.size, 17, none⟩ (.slice z.m.cva z.m.cvn z.m.cvc)).heap[k]? = W2.heap[k]? := fun k hk => ((heap_setCell_other _ ⟨w1.heap.size, 17, none⟩ k _ hk).trans ((heap_setCell_other _ ⟨w1.heap.size, 16, none⟩ k _ hk).trans ((heap_setCell_other _ ⟨w1.heap.size, 15, none⟩ k _ hk).trans ((heap_setCell_other _ ⟨w1.heap.size, 14, none⟩ k _ hk).trans ((heap_setCell_other _ ⟨w1.heap.size, 13, none⟩ k _ hk).trans rfl)))))
    have hBF := (((((hBW2.setCell (p := ⟨w1.heap.size, 13, none⟩) hble (.int .i64 z.m.cau)).setCell (p := ⟨w1.heap.size, 14, none⟩) hble (.int .i64 z.m.crd)).setCell (p := ⟨w1.heap.size, 15, none⟩) hble (.slice z.m.cba z.m.cbn z.m.cbc)).setCell (p := ⟨w1.heap.size, 16, none⟩) hble (.slice z.m.cpa z.m.cpn z.m.cpc)).setCell (p := ⟨w1.heap.size, 17, none⟩) hble (.slice z.m.cva z.m.cvn z.m.cvc))
    go_upto_region 15 with fail
    generalize (((((W2.setCell ⟨w1.heap.size, 13, none⟩ (.int .i64 z.m.cau)).setCell ⟨w1.heap.size, 14, none⟩ (.int .i64 z.m.crd)).setCell ⟨w1.heap.size, 15, none⟩ (.slice z.m.cba z.m.cbn z.m.cbc)).setCell ⟨w1.heap.size, 16, none⟩ (.slice z.m.cpa z.m.cpn z.m.cpc)).setCell ⟨w1.heap.size, 17, none⟩ (.slice z.m.cva z.m.cvn z.m.cvc)) = W4 at rF hoth hBF ⊢
    clear q3 qZ zc13 xc13 xf13 zc14 xc14 xf14 zc15 xc15 xf15 zc16 xc16 xf16 zc17 xc17 xf17
    have hMx4 : MAt W4 x := hMx3.stays (G := fun k => W0.heap.size ≤ k ∧ k < w1.heap.size) (fun k hk => hoth k (by omega)) hX
    have hMz4 : MAt W4 z := hMz3.stays (G := fun k => W1.heap.size ≤ k) (fun k hk => hoth k (by omega)) hNz.has
    have hMM := mix4_at hMx4 hMz4
    have h44 : checkF (x.mix4 z).m (carriedF (x.mix4 z).m (x.mix4 z).ss (x.mix4 z).bl (x.mix4 z).pl (x.mix4 z).cbl (x.mix4 z).cpl (x.mix4 z).vl) = 4 := more4 hC hK HZ.out
    have hE := encode_any (x.mix4 z).m (x.mix4 z).ss (x.mix4 z).bl (x.mix4 z).pl (x.mix4 z).cbl (x.mix4 z).cpl (x.mix4 z).ds (x.mix4 z).vl W4 hMM.at' hMM.dig hMM.dn
    rw [h44] at hE
    go_wp2_with (refine wpList_load_row rfl 37 _ rfl w1.heap.size rfl 37 #[.int .i64 x.m.fr, .int .i64 x.m.tt, .int .i64 x.m.ki, .int .i64 x.m.bau, .int .i64 x.m.bnu, .slice x.m.bta x.m.btn x.m.btc, .int .i64 x.m.hau, .int .i64 x.m.hrd, .slice x.m.hba x.m.hbn x.m.hbc, .slice x.m.hpa x.m.hpn x.m.hpc, .int .i64 x.m.sau, .int .i64 x.m.srd, .slice x.m.sda x.m.sdn x.m.sdc, .int .i64 z.m.cau, .int .i64 z.m.crd, .slice z.m.cba z.m.cbn z.m.cbc, .slice z.m.cpa z.m.cpn z.m.cpc, .slice z.m.cva z.m.cvn z.m.cvc, .int .i64 x.m.ro] (0, 0) _ rF Try.underlying37 rfl sMsg' ?_)
    refine hE.mono ?_
    rintro e w5 ⟨v, he, -, hb5⟩
    clear hE
    subst he
    dsimp only
    have hB5 := hBF.trans (hb5.mono hBF.size)
    have rF5 := (hb5.block _ (lt_of_heap rF)).trans rF
    have hCk := check_any (x.mix4 z).m (x.mix4 z).ss (x.mix4 z).bl (x.mix4 z).pl (x.mix4 z).cbl (x.mix4 z).cpl (x.mix4 z).vl w5 (hMM.at'.below hb5)
    rw [h44] at hCk
    go_wp2_with (refine wpList_load_row rfl 37 _ rfl w1.heap.size rfl 37 #[.int .i64 x.m.fr, .int .i64 x.m.tt, .int .i64 x.m.ki, .int .i64 x.m.bau, .int .i64 x.m.bnu, .slice x.m.bta x.m.btn x.m.btc, .int .i64 x.m.hau, .int .i64 x.m.hrd, .slice x.m.hba x.m.hbn x.m.hbc, .slice x.m.hpa x.m.hpn x.m.hpc, .int .i64 x.m.sau, .int .i64 x.m.srd, .slice x.m.sda x.m.sdn x.m.sdc, .int .i64 z.m.cau, .int .i64 z.m.crd, .slice z.m.cba z.m.cbn z.m.cbc, .slice z.m.cpa z.m.cpn z.m.cpc, .slice z.m.cva z.m.cvn z.m.cvc, .int .i64 x.m.ro] (0, 0) _ rF5 Try.underlying37 rfl sMsg' ?_)
    refine hCk.mono ?_
    rintro e w6 ⟨he, hb6⟩
    clear hCk
    subst he
    dsimp only
    go_wp2_with fail
    go_ret
    exact ⟨rfl, hB5.trans (hb6.mono hB5.size)⟩
set_option maxRecDepth 100000 in
set_option maxHeartbeats 8000000 in
theorem more_walk5 (ki ra rb rc : Int) (sa : Option Addr) (cap : Nat) (ss0 : List ByteArray) (kd : Int) (w : World) (h1 : I64 ki) (h2 : I64 ra) (h3 : I64 rb) (h4 : I64 rc) (h5 : TextsAt w sa cap ss0) (hn1 : -9223372036854775808 ≤ kd) (hn2 : kd ≤ 9223372036854775807) (hkd : pk kd 5 = 4) :
    Calls Try.prog 6 #[.agg #[.int .i64 ki, .int .i64 ra, .int .i64 rb, .int .i64 rc, .slice sa ss0.length cap], .int .i64 kd] w fun e w' => e = .returned (.bool true) ∧ Below w.heap.size w w' := by
  have HP : Hid (∀ W : World, Calls Try.prog 14 #[.int .i64 kd, .int .i64 5] W fun e w' => e = .returned (.int .i64 4) ∧ W = w') := by
    show ∀ _, _
    intro W
    rw [← hkd]
    exact picked_any kd 5 W hn1 hn2 (by omega) (by omega)
  clear hkd
  have hA : Below w.heap.size w (w.alloc (.cells #[.int .i64 ki, .int .i64 ra, .int .i64 rb, .int .i64 rc, .slice sa ss0.length cap] 24)) := (Below.refl _ _).alloc (Nat.le_refl _) _
  have p0 := heap_alloc_new w (.cells #[.int .i64 ki, .int .i64 ra, .int .i64 rb, .int .i64 rc, .slice sa ss0.length cap] 24)
  go_enter Try.func6, Try.ntmps6
  go_wp2_with fail
  generalize w.alloc (.cells #[.int .i64 ki, .int .i64 ra, .int .i64 rb, .int .i64 rc, .slice sa ss0.length cap] 24) = W0 at hA p0 ⊢
  refine (raw_msgM ki ra rb rc sa cap ss0 W0 h1 h2 h3 h4 (h5.below hA)).mono ?_
  rintro e w1 ⟨x, he, hM, hC, hN, hb1, -⟩
  have hB1 := hA.trans (hb1.mono hA.size)
  subst he
  dsimp only
  have p1 := (hb1.block _ (lt_of_heap p0)).trans p0
  have qz := heap_alloc_new w1 (.cells #[.int .i64 0, .int .i64 0, .int .i64 0, .int .i64 0, .int .i64 0, .slice none 0 0, .int .i64 0, .int .i64 0, .slice none 0 0, .slice none 0 0, .int .i64 0, .int .i64 0, .slice none 0 0, .int .i64 0, .int .i64 0, .slice none 0 0, .slice none 0 0, .slice none 0 0, .int .i64 0] 37)
  have hA1 : Below w1.heap.size w1 ((w1.alloc (.cells #[.int .i64 0, .int .i64 0, .int .i64 0, .int .i64 0, .int .i64 0, .slice none 0 0, .int .i64 0, .int .i64 0, .slice none 0 0, .slice none 0 0, .int .i64 0, .int .i64 0, .slice none 0 0, .int .i64 0, .int .i64 0, .slice none 0 0, .slice none 0 0, .slice none 0 0, .int .i64 0] 37)).setRow w1.heap.size #[.int .i64 x.m.fr, .int .i64 x.m.tt, .int .i64 x.m.ki, .int .i64 x.m.bau, .int .i64 x.m.bnu, .slice x.m.bta x.m.btn x.m.btc, .int .i64 x.m.hau, .int .i64 x.m.hrd, .slice x.m.hba x.m.hbn x.m.hbc, .slice x.m.hpa x.m.hpn x.m.hpc, .int .i64 x.m.sau, .int .i64 x.m.srd, .slice x.m.sda x.m.sdn x.m.sdc, .int .i64 x.m.cau, .int .i64 x.m.crd, .slice x.m.cba x.m.cbn x.m.cbc, .slice x.m.cpa x.m.cpn x.m.cpc, .slice x.m.cva x.m.cvn x.m.cvc, .int .i64 x.m.ro]) := laid_row w1 #[.int .i64 0, .int .i64 0, .int .i64 0, .int .i64 0, .int .i64 0, .slice none 0 0, .int .i64 0, .int .i64 0, .slice none 0 0, .slice none 0 0, .int .i64 0, .int .i64 0, .slice none 0 0, .int .i64 0, .int .i64 0, .slice none 0 0, .slice none 0 0, .slice none 0 0, .int .i64 0] #[.int .i64 x.m.fr, .int .i64 x.m.tt, .int .i64 x.m.ki, .int .i64 x.m.bau, .int .i64 x.m.bnu, .slice x.m.bta x.m.btn x.m.btc, .int .i64 x.m.hau, .int .i64 x.m.hrd, .slice x.m.hba x.m.hbn x.m.hbc, .slice x.m.hpa x.m.hpn x.m.hpc, .int .i64 x.m.sau, .int .i64 x.m.srd, .slice x.m.sda x.m.sdn x.m.sdc, .int .i64 x.m.cau, .int .i64 x.m.crd, .slice x.m.cba x.m.cbn x.m.cbc, .slice x.m.cpa x.m.cpn x.m.cpc, .slice x.m.cva x.m.cvn x.m.cvc, .int .i64 x.m.ro] 37
  have q1 := setRow_heap _ _ _ #[.int .i64 x.m.fr, .int .i64 x.m.tt, .int .i64 x.m.ki, .int .i64 x.m.bau, .int .i64 x.m.bnu, .slice x.m.bta x.m.btn x.m.btc, .int .i64 x.m.hau, .int .i64 x.m.hrd, .slice x.m.hba x.m.hbn x.m.hbc, .slice x.m.hpa x.m.hpn x.m.hpc, .int .i64 x.m.sau, .int .i64 x.m.srd, .slice x.m.sda x.m.sdn x.m.sdc, .int .i64 x.m.cau, .int .i64 x.m.crd, .slice x.m.cba x.m.cbn x.m.cbc, .slice x.m.cpa x.m.cpn x.m.cpc, .slice x.m.cva x.m.cvn x.m.cvc, .int .i64 x.m.ro] _ _ qz
  have hlt0 : w.heap.size < w1.heap.size := lt_of_heap p1
  have p2 := (hA1.block _ (lt_of_heap p1)).trans p1
  have hX := hN.has.lt hM
  have hM1 := hM.below hA1
  go_upto_region 2 with (refine wpList_store_row rfl 37 _ _ rfl w1.heap.size #[.int .i64 x.m.fr, .int .i64 x.m.tt, .int .i64 x.m.ki, .int .i64 x.m.bau, .int .i64 x.m.bnu, .slice x.m.bta x.m.btn x.m.btc, .int .i64 x.m.hau, .int .i64 x.m.hrd, .slice x.m.hba x.m.hbn x.m.hbc, .slice x.m.hpa x.m.hpn x.m.hpc, .int .i64 x.m.sau, .int .i64 x.m.srd, .slice x.m.sda x.m.sdn x.m.sdc, .int .i64 x.m.cau, .int .i64 x.m.crd, .slice x.m.cba x.m.cbn x.m.cbc, .slice x.m.cpa x.m.cpn x.m.cpc, .slice x.m.cva x.m.cvn x.m.cvc, .int .i64 x.m.ro] rfl rfl 37 _ qz sMsg' rfl (by simp [Value.oneCell']) ?_)
  generalize (w1.alloc (.cells #[.int .i64 0, .int .i64 0, .int .i64 0, .int .i64 0, .int .i64 0, .slice none 0 0, .int .i64 0, .int .i64 0, .slice none 0 0, .slice none 0 0, .int .i64 0, .int .i64 0, .slice none 0 0, .int .i64 0, .int .i64 0, .slice none 0 0, .slice none 0 0, .slice none 0 0, .int .i64 0] 37)).setRow w1.heap.size #[.int .i64 x.m.fr, .int .i64 x.m.tt, .int .i64 x.m.ki, .int .i64 x.m.bau, .int .i64 x.m.bnu, .slice x.m.bta x.m.btn x.m.btc, .int .i64 x.m.hau, .int .i64 x.m.hrd, .slice x.m.hba x.m.hbn x.m.hbc, .slice x.m.hpa x.m.hpn x.m.hpc, .int .i64 x.m.sau, .int .i64 x.m.srd, .slice x.m.sda x.m.sdn x.m.sdc, .int .i64 x.m.cau, .int .i64 x.m.crd, .slice x.m.cba x.m.cbn x.m.cbc, .slice x.m.cpa x.m.cpn x.m.cpc, .slice x.m.cva x.m.cvn x.m.cvc, .int .i64 x.m.ro] = W1 at hA1 q1 p2 hM1 ⊢
  clear qz
  have hBW1 := hB1.trans (hA1.mono hB1.size)
  have y2 := cells_at q1 2 _ rfl
  have hltW : w1.heap.size < W1.heap.size := lt_of_heap q1
  by_cases hK : x.m.ki = 5
  · rw [hK] at y2
    have hf2 := frozen_at q1 2
    have HK6 : Hid (checkF { x.m with ki := 6 } (carriedF { x.m with ki := 6 } x.ss x.bl x.pl x.cbl x.cpl x.vl) = 3) := check_kind6 (checkF_ok hC).1 (checkF_ok hC).2.1
    have q3 : (W1.setCell ⟨w1.heap.size, 2, none⟩ (.int .i64 6)).heap[w1.heap.size]? = some (.cells #[.int .i64 x.m.fr, .int .i64 x.m.tt, .int .i64 6, .int .i64 x.m.bau, .int .i64 x.m.bnu, .slice x.m.bta x.m.btn x.m.btc, .int .i64 x.m.hau, .int .i64 x.m.hrd, .slice x.m.hba x.m.hbn x.m.hbc, .slice x.m.hpa x.m.hpn x.m.hpc, .int .i64 x.m.sau, .int .i64 x.m.srd, .slice x.m.sda x.m.sdn x.m.sdc, .int .i64 x.m.cau, .int .i64 x.m.crd, .slice x.m.cba x.m.cbn x.m.cbc, .slice x.m.cpa x.m.cpn x.m.cpc, .slice x.m.cva x.m.cvn x.m.cvc, .int .i64 x.m.ro] 37 (0, 0)) := by simpa using heap_setCell_same _ _ 2 _ _ (.int .i64 6) q1
    have p3 := heap_far (j := 2) (v := .int .i64 6) p2 (show w.heap.size ≠ w1.heap.size by omega)
    have hBW3 := hBW1.setCell (p := ⟨w1.heap.size, 2, none⟩) (show w.heap.size ≤ w1.heap.size by omega) (.int .i64 6)
    have hM3 : MAt (W1.setCell ⟨w1.heap.size, 2, none⟩ (.int .i64 6)) x := hM1.stays (G := fun k => W0.heap.size ≤ k ∧ k < w1.heap.size) (fun k hk => heap_setCell_other _ ⟨w1.heap.size, 2, none⟩ k _ (show k ≠ w1.heap.size by omega)) hX
    have hsz3 : w1.heap.size < (W1.setCell ⟨w1.heap.size, 2, none⟩ (.int .i64 6)).heap.size := lt_of_heap q3
    go_upto_region 18 with (go_at_call 14; refine (HP.out _).mono ?_; rintro e w9 ⟨rfl, rfl⟩)
    generalize W1.setCell ⟨w1.heap.size, 2, none⟩ (.int .i64 6) = W3 at q3 p3 hBW3 hM3 hsz3 ⊢
    clear hM1 q1 p2 y2 hf2
    have u0 := cells_at p3 0 _ rfl
    have u1 := cells_at p3 1 _ rfl
    have u2 := cells_at p3 2 _ rfl
    have u3 := cells_at p3 3 _ rfl
    have u4 := cells_at p3 4 _ rfl
    have hZ := raw_msgM ki ra rb rc sa cap ss0 W3 h1 h2 h3 h4 (h5.below hBW3)
    go_wp2_with fail
    refine hZ.mono ?_
    rintro e w4 ⟨n, he, hMn, -, hNn, hb4, -⟩
    clear hZ
    subst he
    dsimp only
    have hB4 := hBW3.trans (hb4.mono hBW3.size)
    have q4 := (hb4.block _ (lt_of_heap q3)).trans q3
    have hM4 := hM3.below hb4
    have hNL := hNn.has.lt hMn
    have hlt4 : w1.heap.size < w4.heap.size := lt_of_heap q4
    have qz := heap_alloc_new w4 (.cells #[.int .i64 0, .int .i64 0, .int .i64 0, .int .i64 0, .int .i64 0, .slice none 0 0, .int .i64 0, .int .i64 0, .slice none 0 0, .slice none 0 0, .int .i64 0, .int .i64 0, .slice none 0 0, .int .i64 0, .int .i64 0, .slice none 0 0, .slice none 0 0, .slice none 0 0, .int .i64 0] 37)
    have hA5 : Below w4.heap.size w4 ((w4.alloc (.cells #[.int .i64 0, .int .i64 0, .int .i64 0, .int .i64 0, .int .i64 0, .slice none 0 0, .int .i64 0, .int .i64 0, .slice none 0 0, .slice none 0 0, .int .i64 0, .int .i64 0, .slice none 0 0, .int .i64 0, .int .i64 0, .slice none 0 0, .slice none 0 0, .slice none 0 0, .int .i64 0] 37)).setRow w4.heap.size #[.int .i64 n.m.fr, .int .i64 n.m.tt, .int .i64 n.m.ki, .int .i64 n.m.bau, .int .i64 n.m.bnu, .slice n.m.bta n.m.btn n.m.btc, .int .i64 n.m.hau, .int .i64 n.m.hrd, .slice n.m.hba n.m.hbn n.m.hbc, .slice n.m.hpa n.m.hpn n.m.hpc, .int .i64 n.m.sau, .int .i64 n.m.srd, .slice n.m.sda n.m.sdn n.m.sdc, .int .i64 n.m.cau, .int .i64 n.m.crd, .slice n.m.cba n.m.cbn n.m.cbc, .slice n.m.cpa n.m.cpn n.m.cpc, .slice n.m.cva n.m.cvn n.m.cvc, .int .i64 n.m.ro]) := laid_row w4 #[.int .i64 0, .int .i64 0, .int .i64 0, .int .i64 0, .int .i64 0, .slice none 0 0, .int .i64 0, .int .i64 0, .slice none 0 0, .slice none 0 0, .int .i64 0, .int .i64 0, .slice none 0 0, .int .i64 0, .int .i64 0, .slice none 0 0, .slice none 0 0, .slice none 0 0, .int .i64 0] #[.int .i64 n.m.fr, .int .i64 n.m.tt, .int .i64 n.m.ki, .int .i64 n.m.bau, .int .i64 n.m.bnu, .slice n.m.bta n.m.btn n.m.btc, .int .i64 n.m.hau, .int .i64 n.m.hrd, .slice n.m.hba n.m.hbn n.m.hbc, .slice n.m.hpa n.m.hpn n.m.hpc, .int .i64 n.m.sau, .int .i64 n.m.srd, .slice n.m.sda n.m.sdn n.m.sdc, .int .i64 n.m.cau, .int .i64 n.m.crd, .slice n.m.cba n.m.cbn n.m.cbc, .slice n.m.cpa n.m.cpn n.m.cpc, .slice n.m.cva n.m.cvn n.m.cvc, .int .i64 n.m.ro] 37
    have qN := setRow_heap _ _ _ #[.int .i64 n.m.fr, .int .i64 n.m.tt, .int .i64 n.m.ki, .int .i64 n.m.bau, .int .i64 n.m.bnu, .slice n.m.bta n.m.btn n.m.btc, .int .i64 n.m.hau, .int .i64 n.m.hrd, .slice n.m.hba n.m.hbn n.m.hbc, .slice n.m.hpa n.m.hpn n.m.hpc, .int .i64 n.m.sau, .int .i64 n.m.srd, .slice n.m.sda n.m.sdn n.m.sdc, .int .i64 n.m.cau, .int .i64 n.m.crd, .slice n.m.cba n.m.cbn n.m.cbc, .slice n.m.cpa n.m.cpn n.m.cpc, .slice n.m.cva n.m.cvn n.m.cvc, .int .i64 n.m.ro] _ _ qz
    go_upto_region 19 with (refine wpList_store_row rfl 37 _ _ rfl w4.heap.size #[.int .i64 n.m.fr, .int .i64 n.m.tt, .int .i64 n.m.ki, .int .i64 n.m.bau, .int .i64 n.m.bnu, .slice n.m.bta n.m.btn n.m.btc, .int .i64 n.m.hau, .int .i64 n.m.hrd, .slice n.m.hba n.m.hbn n.m.hbc, .slice n.m.hpa n.m.hpn n.m.hpc, .int .i64 n.m.sau, .int .i64 n.m.srd, .slice n.m.sda n.m.sdn n.m.sdc, .int .i64 n.m.cau, .int .i64 n.m.crd, .slice n.m.cba n.m.cbn n.m.cbc, .slice n.m.cpa n.m.cpn n.m.cpc, .slice n.m.cva n.m.cvn n.m.cvc, .int .i64 n.m.ro] rfl rfl 37 _ qz sMsg' rfl (by simp [Value.oneCell']) ?_)
    generalize (w4.alloc (.cells #[.int .i64 0, .int .i64 0, .int .i64 0, .int .i64 0, .int .i64 0, .slice none 0 0, .int .i64 0, .int .i64 0, .slice none 0 0, .slice none 0 0, .int .i64 0, .int .i64 0, .slice none 0 0, .int .i64 0, .int .i64 0, .slice none 0 0, .slice none 0 0, .slice none 0 0, .int .i64 0] 37)).setRow w4.heap.size #[.int .i64 n.m.fr, .int .i64 n.m.tt, .int .i64 n.m.ki, .int .i64 n.m.bau, .int .i64 n.m.bnu, .slice n.m.bta n.m.btn n.m.btc, .int .i64 n.m.hau, .int .i64 n.m.hrd, .slice n.m.hba n.m.hbn n.m.hbc, .slice n.m.hpa n.m.hpn n.m.hpc, .int .i64 n.m.sau, .int .i64 n.m.srd, .slice n.m.sda n.m.sdn n.m.sdc, .int .i64 n.m.cau, .int .i64 n.m.crd, .slice n.m.cba n.m.cbn n.m.cbc, .slice n.m.cpa n.m.cpn n.m.cpc, .slice n.m.cva n.m.cvn n.m.cvc, .int .i64 n.m.ro] = W5 at hA5 qN ⊢
    clear qz
    have q5 := (hA5.block _ (lt_of_heap q4)).trans q4
    have hM5 := hM4.below hA5
    have hMn5 := hMn.below hA5
    have hBW5 := hB4.trans (hA5.mono hB4.size)
    have n0 := cells_at qN 0 _ rfl
    have nf := frozen_at qN 0
    have qN6 : (W5.setCell ⟨w4.heap.size, 0, none⟩ (.int .i64 4)).heap[w4.heap.size]? = some (.cells #[.int .i64 4, .int .i64 n.m.tt, .int .i64 n.m.ki, .int .i64 n.m.bau, .int .i64 n.m.bnu, .slice n.m.bta n.m.btn n.m.btc, .int .i64 n.m.hau, .int .i64 n.m.hrd, .slice n.m.hba n.m.hbn n.m.hbc, .slice n.m.hpa n.m.hpn n.m.hpc, .int .i64 n.m.sau, .int .i64 n.m.srd, .slice n.m.sda n.m.sdn n.m.sdc, .int .i64 n.m.cau, .int .i64 n.m.crd, .slice n.m.cba n.m.cbn n.m.cbc, .slice n.m.cpa n.m.cpn n.m.cpc, .slice n.m.cva n.m.cvn n.m.cvc, .int .i64 n.m.ro] 37 (0, 0)) := by simpa using heap_setCell_same _ _ 0 _ _ (.int .i64 4) qN
    have q6 := heap_far (j := 0) (v := .int .i64 4) q5 (show w1.heap.size ≠ w4.heap.size by omega)
    have hBW6 := hBW5.setCell (p := ⟨w4.heap.size, 0, none⟩) (show w.heap.size ≤ w4.heap.size by omega) (.int .i64 4)
    have hM6 : MAt (W5.setCell ⟨w4.heap.size, 0, none⟩ (.int .i64 4)) x := hM5.stays (G := fun k => W0.heap.size ≤ k ∧ k < w1.heap.size) (fun k hk => heap_setCell_other _ ⟨w4.heap.size, 0, none⟩ k _ (show k ≠ w4.heap.size by omega)) hX
    have hMn6 : MAt (W5.setCell ⟨w4.heap.size, 0, none⟩ (.int .i64 4)) n := hMn5.stays (G := fun k => W3.heap.size ≤ k ∧ k < w4.heap.size) (fun k hk => heap_setCell_other _ ⟨w4.heap.size, 0, none⟩ k _ (show k ≠ w4.heap.size by omega)) hNL
    go_upto_region 20 with fail
    generalize W5.setCell ⟨w4.heap.size, 0, none⟩ (.int .i64 4) = W6 at qN6 q6 hBW6 hM6 hMn6 ⊢
    clear n0 nf hM5 hMn5 qN q5 u0 u1 u2 u3 u4
    have H6 := hM6.at'
    have hC6 := check_any { x.m with ki := 6 } x.ss x.bl x.pl x.cbl x.cpl x.vl W6 ⟨H6.e1, H6.e2, H6.e3, H6.e4, H6.e5, H6.e6, H6.s1, H6.s6, H6.s7, H6.txs, H6.bat, H6.par, H6.cbat, H6.cpar, H6.vot⟩
    rw [HK6.out] at hC6
    go_wp2_with (refine wpList_load_row rfl 37 _ rfl w1.heap.size rfl 37 #[.int .i64 x.m.fr, .int .i64 x.m.tt, .int .i64 6, .int .i64 x.m.bau, .int .i64 x.m.bnu, .slice x.m.bta x.m.btn x.m.btc, .int .i64 x.m.hau, .int .i64 x.m.hrd, .slice x.m.hba x.m.hbn x.m.hbc, .slice x.m.hpa x.m.hpn x.m.hpc, .int .i64 x.m.sau, .int .i64 x.m.srd, .slice x.m.sda x.m.sdn x.m.sdc, .int .i64 x.m.cau, .int .i64 x.m.crd, .slice x.m.cba x.m.cbn x.m.cbc, .slice x.m.cpa x.m.cpn x.m.cpc, .slice x.m.cva x.m.cvn x.m.cvc, .int .i64 x.m.ro] (0, 0) _ q6 Try.underlying37 rfl sMsg' ?_)
    refine hC6.mono ?_
    rintro e w7 ⟨he, hb7⟩
    clear hC6
    subst he
    dsimp only
    have qN7 := (hb7.block _ (lt_of_heap qN6)).trans qN6
    have H7 := (hMn6.below hb7).at'
    have hC7 := check_any { n.m with fr := 4 } n.ss n.bl n.pl n.cbl n.cpl n.vl w7 ⟨H7.e1, H7.e2, H7.e3, H7.e4, H7.e5, H7.e6, H7.s1, H7.s6, H7.s7, H7.txs, H7.bat, H7.par, H7.cbat, H7.cpar, H7.vot⟩
    rw [check_from4] at hC7
    have hB7 := hBW6.trans (hb7.mono hBW6.size)
    go_wp2_with (refine wpList_load_row_w rfl 37 _ rfl w4.heap.size rfl 37 #[.int .i64 4, .int .i64 n.m.tt, .int .i64 n.m.ki, .int .i64 n.m.bau, .int .i64 n.m.bnu, .slice n.m.bta n.m.btn n.m.btc, .int .i64 n.m.hau, .int .i64 n.m.hrd, .slice n.m.hba n.m.hbn n.m.hbc, .slice n.m.hpa n.m.hpn n.m.hpc, .int .i64 n.m.sau, .int .i64 n.m.srd, .slice n.m.sda n.m.sdn n.m.sdc, .int .i64 n.m.cau, .int .i64 n.m.crd, .slice n.m.cba n.m.cbn n.m.cbc, .slice n.m.cpa n.m.cpn n.m.cpc, .slice n.m.cva n.m.cvn n.m.cvc, .int .i64 n.m.ro] (0, 0) _ qN7 Try.underlying37 rfl sMsg' ?_)
    refine hC7.mono ?_
    rintro e w8 ⟨he, hb8⟩
    clear hC7
    subst he
    dsimp only
    go_wp2_with fail
    go_ret
    exact ⟨rfl, hB7.trans (hb8.mono hB7.size)⟩
  · have hKn : (5 : Int) ≠ x.m.ki := fun e => hK e.symm
    have u1 := cells_at p2 1 _ rfl
    have u2 := cells_at p2 2 _ rfl
    have u3 := cells_at p2 3 _ rfl
    have hZ := raw_msgM 4 ra rb rc none 0 [] W1 ⟨by decide, by decide⟩ h2 h3 h4 (texts_none _)
    go_wp2_with (go_at_call 14; refine (HP.out _).mono ?_; rintro e w9 ⟨rfl, rfl⟩)
    refine hZ.mono ?_
    rintro e w2 ⟨z, he, hMz, -, hNz, hb2, hkz, z1, z2, z3, z4, z5⟩
    rw [pk_smallM (a := 4) (by decide)] at hkz
    have HZ : Hid (z.m.ro ≠ 0) := z5 hkz
    clear hZ z1 z2 z3 z4 z5 hkz u1 u2 u3 y2
    subst he
    dsimp only
    have hB2 := hBW1.trans (hb2.mono hBW1.size)
    have q2 := (hb2.block _ (lt_of_heap q1)).trans q1
    have hlt2 : w1.heap.size < w2.heap.size := lt_of_heap q2
    have qz := heap_alloc_new w2 (.cells #[.int .i64 0, .int .i64 0, .int .i64 0, .int .i64 0, .int .i64 0, .slice none 0 0, .int .i64 0, .int .i64 0, .slice none 0 0, .slice none 0 0, .int .i64 0, .int .i64 0, .slice none 0 0, .int .i64 0, .int .i64 0, .slice none 0 0, .slice none 0 0, .slice none 0 0, .int .i64 0] 37)
    have hA2 : Below w2.heap.size w2 ((w2.alloc (.cells #[.int .i64 0, .int .i64 0, .int .i64 0, .int .i64 0, .int .i64 0, .slice none 0 0, .int .i64 0, .int .i64 0, .slice none 0 0, .slice none 0 0, .int .i64 0, .int .i64 0, .slice none 0 0, .int .i64 0, .int .i64 0, .slice none 0 0, .slice none 0 0, .slice none 0 0, .int .i64 0] 37)).setRow w2.heap.size #[.int .i64 z.m.fr, .int .i64 z.m.tt, .int .i64 z.m.ki, .int .i64 z.m.bau, .int .i64 z.m.bnu, .slice z.m.bta z.m.btn z.m.btc, .int .i64 z.m.hau, .int .i64 z.m.hrd, .slice z.m.hba z.m.hbn z.m.hbc, .slice z.m.hpa z.m.hpn z.m.hpc, .int .i64 z.m.sau, .int .i64 z.m.srd, .slice z.m.sda z.m.sdn z.m.sdc, .int .i64 z.m.cau, .int .i64 z.m.crd, .slice z.m.cba z.m.cbn z.m.cbc, .slice z.m.cpa z.m.cpn z.m.cpc, .slice z.m.cva z.m.cvn z.m.cvc, .int .i64 z.m.ro]) := laid_row w2 #[.int .i64 0, .int .i64 0, .int .i64 0, .int .i64 0, .int .i64 0, .slice none 0 0, .int .i64 0, .int .i64 0, .slice none 0 0, .slice none 0 0, .int .i64 0, .int .i64 0, .slice none 0 0, .int .i64 0, .int .i64 0, .slice none 0 0, .slice none 0 0, .slice none 0 0, .int .i64 0] #[.int .i64 z.m.fr, .int .i64 z.m.tt, .int .i64 z.m.ki, .int .i64 z.m.bau, .int .i64 z.m.bnu, .slice z.m.bta z.m.btn z.m.btc, .int .i64 z.m.hau, .int .i64 z.m.hrd, .slice z.m.hba z.m.hbn z.m.hbc, .slice z.m.hpa z.m.hpn z.m.hpc, .int .i64 z.m.sau, .int .i64 z.m.srd, .slice z.m.sda z.m.sdn z.m.sdc, .int .i64 z.m.cau, .int .i64 z.m.crd, .slice z.m.cba z.m.cbn z.m.cbc, .slice z.m.cpa z.m.cpn z.m.cpc, .slice z.m.cva z.m.cvn z.m.cvc, .int .i64 z.m.ro] 37
    have qZ := setRow_heap _ _ _ #[.int .i64 z.m.fr, .int .i64 z.m.tt, .int .i64 z.m.ki, .int .i64 z.m.bau, .int .i64 z.m.bnu, .slice z.m.bta z.m.btn z.m.btc, .int .i64 z.m.hau, .int .i64 z.m.hrd, .slice z.m.hba z.m.hbn z.m.hbc, .slice z.m.hpa z.m.hpn z.m.hpc, .int .i64 z.m.sau, .int .i64 z.m.srd, .slice z.m.sda z.m.sdn z.m.sdc, .int .i64 z.m.cau, .int .i64 z.m.crd, .slice z.m.cba z.m.cbn z.m.cbc, .slice z.m.cpa z.m.cpn z.m.cpc, .slice z.m.cva z.m.cvn z.m.cvc, .int .i64 z.m.ro] _ _ qz
    go_upto_region 5 with (refine wpList_store_row rfl 37 _ _ rfl w2.heap.size #[.int .i64 z.m.fr, .int .i64 z.m.tt, .int .i64 z.m.ki, .int .i64 z.m.bau, .int .i64 z.m.bnu, .slice z.m.bta z.m.btn z.m.btc, .int .i64 z.m.hau, .int .i64 z.m.hrd, .slice z.m.hba z.m.hbn z.m.hbc, .slice z.m.hpa z.m.hpn z.m.hpc, .int .i64 z.m.sau, .int .i64 z.m.srd, .slice z.m.sda z.m.sdn z.m.sdc, .int .i64 z.m.cau, .int .i64 z.m.crd, .slice z.m.cba z.m.cbn z.m.cbc, .slice z.m.cpa z.m.cpn z.m.cpc, .slice z.m.cva z.m.cvn z.m.cvc, .int .i64 z.m.ro] rfl rfl 37 _ qz sMsg' rfl (by simp [Value.oneCell']) ?_)
    generalize (w2.alloc (.cells #[.int .i64 0, .int .i64 0, .int .i64 0, .int .i64 0, .int .i64 0, .slice none 0 0, .int .i64 0, .int .i64 0, .slice none 0 0, .slice none 0 0, .int .i64 0, .int .i64 0, .slice none 0 0, .int .i64 0, .int .i64 0, .slice none 0 0, .slice none 0 0, .slice none 0 0, .int .i64 0] 37)).setRow w2.heap.size #[.int .i64 z.m.fr, .int .i64 z.m.tt, .int .i64 z.m.ki, .int .i64 z.m.bau, .int .i64 z.m.bnu, .slice z.m.bta z.m.btn z.m.btc, .int .i64 z.m.hau, .int .i64 z.m.hrd, .slice z.m.hba z.m.hbn z.m.hbc, .slice z.m.hpa z.m.hpn z.m.hpc, .int .i64 z.m.sau, .int .i64 z.m.srd, .slice z.m.sda z.m.sdn z.m.sdc, .int .i64 z.m.cau, .int .i64 z.m.crd, .slice z.m.cba z.m.cbn z.m.cbc, .slice z.m.cpa z.m.cpn z.m.cpc, .slice z.m.cva z.m.cvn z.m.cvc, .int .i64 z.m.ro] = W2 at hA2 qZ ⊢
    clear qz
    have hBW2 := hB2.trans (hA2.mono hB2.size)
    have q3 := (hA2.block _ (lt_of_heap q2)).trans q2
    have hMx3 := (hM1.below hb2).below hA2
    have hMz3 := hMz.below hA2
    have hble : w.heap.size ≤ w1.heap.size := by omega
    have zc18 := cells_at qZ 18 _ rfl
    have xc18 := cells_at q3 18 _ rfl
    have xf18 := frozen_at q3 18
    have rF : (W2.setCell ⟨w1.heap.size, 18, none⟩ (.int .i64 z.m.ro)).heap[w1.heap.size]? = some (.cells #[.int .i64 x.m.fr, .int .i64 x.m.tt, .int .i64 x.m.ki, .int .i64 x.m.bau, .int .i64 x.m.bnu, .slice x.m.bta x.m.btn x.m.btc, .int .i64 x.m.hau, .int .i64 x.m.hrd, .slice x.m.hba x.m.hbn x.m.hbc, .slice x.m.hpa x.m.hpn x.m.hpc, .int .i64 x.m.sau, .int .i64 x.m.srd, .slice x.m.sda x.m.sdn x.m.sdc, .int .i64 x.m.cau, .int .i64 x.m.crd, .slice x.m.cba x.m.cbn x.m.cbc, .slice x.m.cpa x.m.cpn x.m.cpc, .slice x.m.cva x.m.cvn x.m.cvc, .int .i64 z.m.ro] 37 (0, 0)) := by simpa using (heap_setCell_same _ _ 18 _ _ (.int .i64 z.m.ro) q3)
    have hoth : ∀ k, k ≠ w1.heap.size → (W2.setCell ⟨w1.heap.size, 18, none⟩ (.int .i64 z.m.ro)).heap[k]? = W2.heap[k]? := fun k hk => ((heap_setCell_other _ ⟨w1.heap.size, 18, none⟩ k _ hk).trans rfl)
    have hBF := (hBW2.setCell (p := ⟨w1.heap.size, 18, none⟩) hble (.int .i64 z.m.ro))
    go_upto_region 15 with fail
    generalize (W2.setCell ⟨w1.heap.size, 18, none⟩ (.int .i64 z.m.ro)) = W4 at rF hoth hBF ⊢
    clear q3 qZ zc18 xc18 xf18
    have hMx4 : MAt W4 x := hMx3.stays (G := fun k => W0.heap.size ≤ k ∧ k < w1.heap.size) (fun k hk => hoth k (by omega)) hX
    have hMz4 : MAt W4 z := hMz3.stays (G := fun k => W1.heap.size ≤ k) (fun k hk => hoth k (by omega)) hNz.has
    have hMM := mix5_at hMx4 hMz4
    have h44 : checkF (x.mix5 z).m (carriedF (x.mix5 z).m (x.mix5 z).ss (x.mix5 z).bl (x.mix5 z).pl (x.mix5 z).cbl (x.mix5 z).cpl (x.mix5 z).vl) = 4 := more5 hC hK HZ.out
    have hE := encode_any (x.mix5 z).m (x.mix5 z).ss (x.mix5 z).bl (x.mix5 z).pl (x.mix5 z).cbl (x.mix5 z).cpl (x.mix5 z).ds (x.mix5 z).vl W4 hMM.at' hMM.dig hMM.dn
    rw [h44] at hE
    go_wp2_with (refine wpList_load_row rfl 37 _ rfl w1.heap.size rfl 37 #[.int .i64 x.m.fr, .int .i64 x.m.tt, .int .i64 x.m.ki, .int .i64 x.m.bau, .int .i64 x.m.bnu, .slice x.m.bta x.m.btn x.m.btc, .int .i64 x.m.hau, .int .i64 x.m.hrd, .slice x.m.hba x.m.hbn x.m.hbc, .slice x.m.hpa x.m.hpn x.m.hpc, .int .i64 x.m.sau, .int .i64 x.m.srd, .slice x.m.sda x.m.sdn x.m.sdc, .int .i64 x.m.cau, .int .i64 x.m.crd, .slice x.m.cba x.m.cbn x.m.cbc, .slice x.m.cpa x.m.cpn x.m.cpc, .slice x.m.cva x.m.cvn x.m.cvc, .int .i64 z.m.ro] (0, 0) _ rF Try.underlying37 rfl sMsg' ?_)
    refine hE.mono ?_
    rintro e w5 ⟨v, he, -, hb5⟩
    clear hE
    subst he
    dsimp only
    have hB5 := hBF.trans (hb5.mono hBF.size)
    have rF5 := (hb5.block _ (lt_of_heap rF)).trans rF
    have hCk := check_any (x.mix5 z).m (x.mix5 z).ss (x.mix5 z).bl (x.mix5 z).pl (x.mix5 z).cbl (x.mix5 z).cpl (x.mix5 z).vl w5 (hMM.at'.below hb5)
    rw [h44] at hCk
    go_wp2_with (refine wpList_load_row rfl 37 _ rfl w1.heap.size rfl 37 #[.int .i64 x.m.fr, .int .i64 x.m.tt, .int .i64 x.m.ki, .int .i64 x.m.bau, .int .i64 x.m.bnu, .slice x.m.bta x.m.btn x.m.btc, .int .i64 x.m.hau, .int .i64 x.m.hrd, .slice x.m.hba x.m.hbn x.m.hbc, .slice x.m.hpa x.m.hpn x.m.hpc, .int .i64 x.m.sau, .int .i64 x.m.srd, .slice x.m.sda x.m.sdn x.m.sdc, .int .i64 x.m.cau, .int .i64 x.m.crd, .slice x.m.cba x.m.cbn x.m.cbc, .slice x.m.cpa x.m.cpn x.m.cpc, .slice x.m.cva x.m.cvn x.m.cvc, .int .i64 z.m.ro] (0, 0) _ rF5 Try.underlying37 rfl sMsg' ?_)
    refine hCk.mono ?_
    rintro e w6 ⟨he, hb6⟩
    clear hCk
    subst he
    dsimp only
    go_wp2_with fail
    go_ret
    exact ⟨rfl, hB5.trans (hb6.mono hB5.size)⟩
set_option maxRecDepth 100000 in
theorem messageMore_walk (ki ra rb rc : Int) (sa : Option Addr) (cap : Nat) (ss0 : List ByteArray) (kd : Int) (w : World) (h1 : I64 ki) (h2 : I64 ra) (h3 : I64 rb) (h4 : I64 rc) (h5 : TextsAt w sa cap ss0) (hn1 : -9223372036854775808 ≤ kd) (hn2 : kd ≤ 9223372036854775807) :
    Calls Try.prog 6 #[.agg #[.int .i64 ki, .int .i64 ra, .int .i64 rb, .int .i64 rc, .slice sa ss0.length cap], .int .i64 kd] w fun e w' => e = .returned (.bool true) ∧ Below w.heap.size w w' := by
  obtain ⟨pn0, pn1⟩ := pk_bounds kd 5 (by decide)
  have h : pk kd 5 = 0 ∨ pk kd 5 = 1 ∨ pk kd 5 = 2 ∨ pk kd 5 = 3 ∨ pk kd 5 = 4 := by omega
  rcases h with h | h | h | h | h
  · exact more_walk1 ki ra rb rc sa cap ss0 kd w h1 h2 h3 h4 h5 hn1 hn2 h
  · exact more_walk2 ki ra rb rc sa cap ss0 kd w h1 h2 h3 h4 h5 hn1 hn2 h
  · exact more_walk3 ki ra rb rc sa cap ss0 kd w h1 h2 h3 h4 h5 hn1 hn2 h
  · exact more_walk4 ki ra rb rc sa cap ss0 kd w h1 h2 h3 h4 h5 hn1 hn2 h
  · exact more_walk5 ki ra rb rc sa cap ss0 kd w h1 h2 h3 h4 h5 hn1 hn2 h
end Go.Proofs.Ythijfhbmkpfnkaa

namespace Go.Proofs.Ythijfhbmkpfnkaa.messageMore
open Go.ChangeShapes Go.WideShapes Go.ChangeAt Go.RowKit

set_option maxRecDepth 100000 in
/-- What the walk gives, for every argument and every world. -/
theorem contract (H : Type) (enc : TypeId × Value → H) (W : World) (base : Nat) (args : Array Value) (ds gs : List (DataW H)) (before : List MemPlace)
    (hval : ∀ (j : Nat) t v, Try.f6.params[j]? = some t → args[j]? = some v → Value.okWide Try.prog W .any base t v)
    (hW : DataW.Whole enc Try.prog Try.f6.params.toList Rows.messageMoreSpec.vars false W args.toList ds gs before) (hsz : (DataW.weightsEach Try.prog (Try.f6.params.toList ++ (OpenSpec.ofChange Rows.messageMoreSpec).bare.plain.varTypes Try.prog) (ds ++ gs)).all (· ≤ reachBytes) = true) (_hL : laidMetH Try.prog Rows.messageMoreRow.laid W) :
    Calls Try.prog 6 args W fun e W' => ∃ v, e = .returned v ∧ Rows.messageMoreSpec.post enc Try.prog Try.f6 false true false false W args v W' := by
  have hW' := hW
  obtain ⟨p, q, hA0, hV, rfl, hfz, hnd⟩ := hW
  have hA : DataW.TrodAll enc Try.prog W 0 (fun _ => true) true Try.f6.params.toList args.toList ds p := hA0
  rw [Try.params6] at hA hval hsz
  obtain ⟨v0, vs0, d0, ds0, p0, q0, hargs, rfl, rfl, h0, r0⟩ := trodAll_cons hA
  obtain ⟨v1, vs1, d1, ds1, p1, q1, rfl, rfl, rfl, h1, r1⟩ := trodAll_cons r0
  obtain ⟨rfl, rfl, rfl⟩ := trodAll_nil r1
  obtain rfl : args = #[v0, v1] := by cases args; simp_all
  obtain ⟨rfl, rfl⟩ := trodVars_none hV
  have k0 := h0
  have lt0 : ∀ x ∈ p0, x.block < W.heap.size := by obtain ⟨m, hm⟩ := k0; exact DataW.trod_lt m _ _ _ hm
  obtain ⟨ki0, ra0, rb0, rc0, sa0, cap0, ss0, rfl, q0_0, q0_1, q0_2, q0_3, q0_4⟩ := open_raw (hval 0 24 v0 rfl rfl) h0 (fit_each hsz (j := 0) rfl rfl)
  obtain ⟨a1, rfl, rfl, rfl, w1⟩ := open_int Try.underlying3 (hval 1 3 v1 rfl rfl) h1
  obtain ⟨lo1, hi1⟩ := bounds_i64 w1
  clear hA0
  refine (messageMore_walk ki0 ra0 rb0 rc0 sa0 cap0 ss0 a1 W q0_0 q0_1 q0_2 q0_3 q0_4 lo1 hi1).mono fun e W' ⟨he, bel⟩ => ?_
  subst he
  exact ⟨_, rfl, _, _, _, [], _, [], hW', trodAll_mk1 (shut_bool Try.underlying4 _), (trodAll_cons_mk (Below.trod laidOut (by kernel_rfl) (of_decide_eq_true (by kernel_rfl)) k0 bel lt0) (trodAll_cons_mk (shut_int Try.underlying3 w1) trodAll_mk0)), rfl, bel.frame _, fun h => by cases h⟩

set_option maxRecDepth 100000 in
theorem laid_met (os : Os) : laidMet Try.prog Rows.messageMoreRow.laid ((World.holding Try.prog os ⟨#[], #[], []⟩).forCall (fun _ _ => 0) ⟨#[], #[.agg #[.int .i64 0, .int .i64 0, .int .i64 0, .int .i64 0, .slice none 0 0], .int .i64 0], []⟩).memory :=
  laidMet_of_run' 8 (by kernel_rfl) (by kernel_rfl)
set_option maxRecDepth 100000 in
theorem reads (os : Os) {H : Type} (enc : TypeId × Value → H) : ∃ places, DataW.whole enc Try.prog ((World.holding Try.prog os ⟨#[], #[], []⟩).forCall (fun _ _ => 0) ⟨#[], #[.agg #[.int .i64 0, .int .i64 0, .int .i64 0, .int .i64 0, .slice none 0 0], .int .i64 0], []⟩).memory Try.f6.params.toList Rows.messageMoreSpec.vars false (#[.agg #[.int .i64 0, .int .i64 0, .int .i64 0, .int .i64 0, .slice none 0 0], .int .i64 0] : Array Value).toList 8 = some ([.agg [.lit (.int .i64 0), .lit (.int .i64 0), .lit (.int .i64 0), .lit (.int .i64 0), .nil], .lit (.int .i64 0)], [], places) :=
  ⟨[], by kernel_rfl⟩

set_option maxRecDepth 100000 in
theorem lifted (os : Os) (started : os.Started) (H : Type) (enc : TypeId × Value → H) (F : Stop.Interp) :
    ReturnsInHanded {} Try.checked os 6 .any ((OpenSpec.ofChange Rows.messageMoreSpec).preRow enc Try.prog Try.f6 Rows.messageMoreRow.domain false Rows.messageMoreRow.laid) (((OpenSpec.ofChange Rows.messageMoreSpec).at F).post enc Try.prog Try.f6 false true false false) := by
  obtain ⟨places, hx⟩ := reads os enc
  refine returnsInHanded_of_row (C := Try.checked) (s := OpenSpec.ofChange Rows.messageMoreSpec) own started (by kernel_rfl) Try.func6
    (witness_row_at (enc := enc) (C := Try.checked) false (World.holding Try.prog os ⟨#[], #[], []⟩) #[.agg #[.int .i64 0, .int .i64 0, .int .i64 0, .int .i64 0, .slice none 0 0], .int .i64 0] rfl (by kernel_rfl) (by kernel_rfl) (by kernel_rfl)
      (OpenSpec.preRow_of_cond 8 hx (by kernel_rfl) (fun k hk => by cases hk) (by kernel_rfl) (laid_met os))) ?_
  intro W base args ds gs before hval hW _ _ hsz hL _ _
  exact contract H enc W base args ds gs before hval hW hsz hL

set_option maxRecDepth 100000 in
theorem said : Rows.MessageMoreSaid :=
  OpenClaim.holds_of_cond 6 Try.f6 rfl rfl rfl rfl rfl rfl rfl ⟨rfl, rfl, rfl, rfl, rfl⟩ rfl rfl rfl rfl rfl (by kernel_rfl) Try.func6 (by kernel_rfl)
    (of_decide_eq_true (by kernel_rfl)) (by unfold Func.isWrapper; first | (rw [if_pos (by decide +kernel)]; kernel_rfl) | (rw [if_neg (by decide +kernel)]; exact ⟨rfl, rfl⟩))
    (fun os started H enc _ F => by rw [OpenClaim.pre_eq_preRow]; exact lifted os started H enc F)

end Go.Proofs.Ythijfhbmkpfnkaa.messageMore
namespace Go.Proofs.Ythijfhbmkpfnkaa
set_option maxRecDepth 100000 in
theorem messageMore_holds : Rows.MessageMoreSaid := messageMore.said
#print axioms messageMore_holds
end Go.Proofs.Ythijfhbmkpfnkaa
