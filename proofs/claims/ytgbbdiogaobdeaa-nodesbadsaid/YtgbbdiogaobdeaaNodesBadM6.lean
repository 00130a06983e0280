/- The law sheaveskeep.NodesBad answers true for every argument, and each argument reads behind the call as it read before: no condition but the form's own reach. -/
import Derived.Test.YtgbbdiogaobdeaaCheckM
import Derived.Test.YtgbbdiogaobdeaaOpenB
import Derived.Test.YtgbbdiogaobdeaaTextsAt
import Derived.Deep.Strs
import Derived.Test.YtgbbdiogaobdeaaMRaw
import Derived.Test.YtgbbdiogaobdeaaNodesBadM0
import Derived.Test.YtgbbdiogaobdeaaRows
import Derived.WalkKit
import Derived.ProofKit
import Derived.OpenShut
import Derived.Deep.DeepHandedRow
import Derived.SevenTiedAt
import Derived.Below
namespace Go.Proofs.Ytgbbdiogaobdeaa
open Go.RowKit

set_option maxRecDepth 100000 in
set_option maxHeartbeats 1000000 in
theorem encode_bad (m : Msg) (ec : Int) (w : World) (he : ec ≠ 0)
    (hc : ∀ w1, Below w.heap.size w w1 → Calls Try.prog 8 #[.agg #[.int .i64 m.fr, .int .i64 m.tt, .int .i64 m.ki, .int .i64 m.bau, .int .i64 m.bnu, .slice m.bta m.btn m.btc, .int .i64 m.hau, .int .i64 m.hrd, .slice m.hba m.hbn m.hbc, .slice m.hpa m.hpn m.hpc, .int .i64 m.sau, .int .i64 m.srd, .slice m.sda m.sdn m.sdc, .int .i64 m.cau, .int .i64 m.crd, .slice m.cba m.cbn m.cbc, .slice m.cpa m.cpn m.cpc, .slice m.cva m.cvn m.cvc, .int .i64 m.ro]] w1 fun e w' => e = .returned (.int .i64 ec) ∧ Below w1.heap.size w1 w') :
    Calls Try.prog 7 #[.agg #[.int .i64 m.fr, .int .i64 m.tt, .int .i64 m.ki, .int .i64 m.bau, .int .i64 m.bnu, .slice m.bta m.btn m.btc, .int .i64 m.hau, .int .i64 m.hrd, .slice m.hba m.hbn m.hbc, .slice m.hpa m.hpn m.hpc, .int .i64 m.sau, .int .i64 m.srd, .slice m.sda m.sdn m.sdc, .int .i64 m.cau, .int .i64 m.crd, .slice m.cba m.cbn m.cbc, .slice m.cpa m.cpn m.cpc, .slice m.cva m.cvn m.cvc, .int .i64 m.ro]] w fun e w' => e = .returned (.tuple #[.slice none 0 0, .int .i64 ec]) ∧ Below w.heap.size w w' := by
  have hq := heap_alloc_new w (.cells #[.int .i64 m.fr, .int .i64 m.tt, .int .i64 m.ki, .int .i64 m.bau, .int .i64 m.bnu, .slice m.bta m.btn m.btc, .int .i64 m.hau, .int .i64 m.hrd, .slice m.hba m.hbn m.hbc, .slice m.hpa m.hpn m.hpc, .int .i64 m.sau, .int .i64 m.srd, .slice m.sda m.sdn m.sdc, .int .i64 m.cau, .int .i64 m.crd, .slice m.cba m.cbn m.cbc, .slice m.cpa m.cpn m.cpc, .slice m.cva m.cvn m.cvc, .int .i64 m.ro] 37)
  have hB : Below w.heap.size w (w.alloc (.cells #[.int .i64 m.fr, .int .i64 m.tt, .int .i64 m.ki, .int .i64 m.bau, .int .i64 m.bnu, .slice m.bta m.btn m.btc, .int .i64 m.hau, .int .i64 m.hrd, .slice m.hba m.hbn m.hbc, .slice m.hpa m.hpn m.hpc, .int .i64 m.sau, .int .i64 m.srd, .slice m.sda m.sdn m.sdc, .int .i64 m.cau, .int .i64 m.crd, .slice m.cba m.cbn m.cbc, .slice m.cpa m.cpn m.cpc, .slice m.cva m.cvn m.cvc, .int .i64 m.ro] 37)) := (Below.refl _ _).alloc (Nat.le_refl _) _
  go_enter Try.func7, Try.ntmps7
  go_wp2_with (refine wpList_load_row rfl 37 _ rfl w.heap.size rfl 37 #[.int .i64 m.fr, .int .i64 m.tt, .int .i64 m.ki, .int .i64 m.bau, .int .i64 m.bnu, .slice m.bta m.btn m.btc, .int .i64 m.hau, .int .i64 m.hrd, .slice m.hba m.hbn m.hbc, .slice m.hpa m.hpn m.hpc, .int .i64 m.sau, .int .i64 m.srd, .slice m.sda m.sdn m.sdc, .int .i64 m.cau, .int .i64 m.crd, .slice m.cba m.cbn m.cbc, .slice m.cpa m.cpn m.cpc, .slice m.cva m.cvn m.cvc, .int .i64 m.ro] (0, 0) _ hq Try.underlying37 rfl sMsg ?_)
  refine (hc _ hB).mono ?_
  rintro e w1 ⟨rfl, hb1⟩
  go_wp2_with fail
  go_ret2
  exact ⟨rfl, below_alloc hb1⟩
end Go.Proofs.Ytgbbdiogaobdeaa

namespace Go.Proofs.Ytgbbdiogaobdeaa
open Go.ChangeShapes Go.WideShapes Go.ChangeAt Go.RowKit Go.Deep

set_option maxRecDepth 100000 in
theorem cRaw : Try.prog.cellsOf 24 = 5 := by kernel_rfl
set_option maxRecDepth 100000 in
theorem cIntR : Try.prog.cellsOf 3 = 1 := by kernel_rfl
set_option maxRecDepth 100000 in
theorem cStrsR : Try.prog.cellsOf 22 = 1 := by kernel_rfl
set_option maxRecDepth 100000 in
theorem open_raw {H : Type} {enc : TypeId × Value → H} {W : World} {base : Nat} {v : Value} {d : DataW H} {p : List MemPlace}
    (hv : Value.okWide Try.prog W .any base 24 v) (h : DataW.Trod enc Try.prog W 0 (fun _ => true) true 24 v d p) (hfit : ∀ n ∈ d.weights Try.prog 24, n ≤ reachBytes) :
    ∃ ki ra rb rc sa cap ss, v = .agg #[.int .i64 ki, .int .i64 ra, .int .i64 rb, .int .i64 rc, .slice sa (List.length ss) cap] ∧ I64 ki ∧ I64 ra ∧ I64 rb ∧ I64 rc ∧ TextsAt W sa cap ss := by
  obtain ⟨cs, rfl, _⟩ := okWide_struct Try.underlying24 hv
  obtain ⟨fuel, hf⟩ := h
  obtain ⟨xs, n, _, hx, hl, hlen, hg⟩ := DataW.trod_struct Try.underlying24 hf
  rw [cRaw] at hl
  match xs, hlen with
  | [y0, y1, y2, y3, y4], _ =>
  have h0 := hg 0 _ rfl
  have h1 := hg 1 _ rfl
  have h2 := hg 2 _ rfl
  have h3 := hg 3 _ rfl
  have h4 := hg 4 _ rfl
  simp only [Prod.mk.injEq] at hx
  obtain ⟨rfl, rfl⟩ := hx
  obtain ⟨l⟩ := cs
  match l, hl with
  | [c0, c1, c2, c3, c4], _ =>
  obtain ⟨a0, e0, rfl, w0⟩ := DataW.trod_int Try.underlying3 h0
  obtain ⟨a1, e1, rfl, w1⟩ := DataW.trod_int Try.underlying3 h1
  obtain ⟨a2, e2, rfl, w2⟩ := DataW.trod_int Try.underlying3 h2
  obtain ⟨a3, e3, rfl, w3⟩ := DataW.trod_int Try.underlying3 h3
  obtain ⟨sa, cap, ss, e4, hs⟩ := open_texts_cells h4 (fun n hn => hfit n (by simp [DataW.weights, DataW.weightsEach, Try.underlying24, hn]))
  simp [cIntR, cStrsR, Value.cells] at e0 e1 e2 e3 e4
  subst e0 e1 e2 e3 e4
  exact ⟨a0, a1, a2, a3, sa, cap, ss, rfl, bounds_i64 w0, bounds_i64 w1, bounds_i64 w2, bounds_i64 w3, hs⟩
end Go.Proofs.Ytgbbdiogaobdeaa

namespace Go.Proofs.Ytgbbdiogaobdeaa
open Go.RowKit

set_option maxRecDepth 100000 in
theorem checkF_low {m : Msg} (e : Int) (h : ¬ (0 ≤ m.fr ∧ m.fr < 4) ∨ ¬ (0 ≤ m.tt ∧ m.tt < 4)) : checkF m e = 2 := by rw [checkF, if_pos h]
set_option maxRecDepth 100000 in
theorem checkF_zero {m : Msg} (h1 : 0 ≤ m.fr ∧ m.fr < 4) (h2 : 0 ≤ m.tt ∧ m.tt < 4) (h3 : msgEmpty (strip m) = true) : checkF m 0 = 0 := by
  rw [checkF, if_neg (by omega), if_neg (by simp), if_pos h3]
def Msg.toK (m : Msg) (k : Int) : Msg := { m with tt := k }
def Msg.fromK (m : Msg) (k : Int) : Msg := { m with fr := k }
set_option maxRecDepth 100000 in
theorem MsgAt.toK {w : World} {m : Msg} {ss : List ByteArray} {bl pl cbl cpl : List Part} {vl : List Int} (H : MsgAt w m ss bl pl cbl cpl vl) (k : Int) : MsgAt w (m.toK k) ss bl pl cbl cpl vl := ⟨H.e1, H.e2, H.e3, H.e4, H.e5, H.e6, H.s1, H.s6, H.s7, H.txs, H.bat, H.par, H.cbat, H.cpar, H.vot⟩
set_option maxRecDepth 100000 in
theorem MsgAt.fromK {w : World} {m : Msg} {ss : List ByteArray} {bl pl cbl cpl : List Part} {vl : List Int} (H : MsgAt w m ss bl pl cbl cpl vl) (k : Int) : MsgAt w (m.fromK k) ss bl pl cbl cpl vl := ⟨H.e1, H.e2, H.e3, H.e4, H.e5, H.e6, H.s1, H.s6, H.s7, H.txs, H.bat, H.par, H.cbat, H.cpar, H.vot⟩
set_option maxRecDepth 100000 in
theorem check_toK (m : Msg) (k : Int) (ss : List ByteArray) (bl pl cbl cpl : List Part) (vl : List Int) (w : World) (H : MsgAt w m ss bl pl cbl cpl vl) (hk : ¬ (0 ≤ k ∧ k < 4)) :
    Calls Try.prog 8 #[.agg #[.int .i64 m.fr, .int .i64 k, .int .i64 m.ki, .int .i64 m.bau, .int .i64 m.bnu, .slice m.bta m.btn m.btc, .int .i64 m.hau, .int .i64 m.hrd, .slice m.hba m.hbn m.hbc, .slice m.hpa m.hpn m.hpc, .int .i64 m.sau, .int .i64 m.srd, .slice m.sda m.sdn m.sdc, .int .i64 m.cau, .int .i64 m.crd, .slice m.cba m.cbn m.cbc, .slice m.cpa m.cpn m.cpc, .slice m.cva m.cvn m.cvc, .int .i64 m.ro]] w fun e w' => e = .returned (.int .i64 2) ∧ Below w.heap.size w w' := by
  have := check_any (m.toK k) ss bl pl cbl cpl vl w (H.toK k)
  rw [checkF_low _ (.inr hk)] at this
  exact this
set_option maxRecDepth 100000 in
theorem check_fromK (m : Msg) (k : Int) (ss : List ByteArray) (bl pl cbl cpl : List Part) (vl : List Int) (w : World) (H : MsgAt w m ss bl pl cbl cpl vl) (hk : ¬ (0 ≤ k ∧ k < 4)) :
    Calls Try.prog 8 #[.agg #[.int .i64 k, .int .i64 m.tt, .int .i64 m.ki, .int .i64 m.bau, .int .i64 m.bnu, .slice m.bta m.btn m.btc, .int .i64 m.hau, .int .i64 m.hrd, .slice m.hba m.hbn m.hbc, .slice m.hpa m.hpn m.hpc, .int .i64 m.sau, .int .i64 m.srd, .slice m.sda m.sdn m.sdc, .int .i64 m.cau, .int .i64 m.crd, .slice m.cba m.cbn m.cbc, .slice m.cpa m.cpn m.cpc, .slice m.cva m.cvn m.cvc, .int .i64 m.ro]] w fun e w' => e = .returned (.int .i64 2) ∧ Below w.heap.size w w' := by
  have := check_any (m.fromK k) ss bl pl cbl cpl vl w (H.fromK k)
  rw [checkF_low _ (.inl hk)] at this
  exact this
set_option maxRecDepth 100000 in
set_option maxHeartbeats 4000000 in
theorem nodesBad_walk (ki ra rb rc : Int) (sa : Option Addr) (cap : Nat) (ss0 : List ByteArray) (n : Int) (tb : Bool) (w : World) (h1 : I64 ki) (h2 : I64 ra) (h3 : I64 rb) (h4 : I64 rc) (h5 : TextsAt w sa cap ss0) (hn1 : -9223372036854775808 ≤ n) (hn2 : n ≤ 9223372036854775807) :
    Calls Try.prog 4 #[.agg #[.int .i64 ki, .int .i64 ra, .int .i64 rb, .int .i64 rc, .slice sa ss0.length cap], .int .i64 n, .bool tb] w fun e w' => e = .returned (.bool true) ∧ Below w.heap.size w w' := by
  obtain ⟨pn0, pn1⟩ := pk_bounds n 9 (by decide)
  obtain ⟨pf0, pf1⟩ := pk_bounds rc 4 (by decide)
  obtain ⟨pt0, pt1⟩ := pk_bounds rb 4 (by decide)
  have HP : Hid (∀ W : World, Calls Try.prog 6 #[.int .i64 n, .int .i64 9] W fun e w' => e = .returned (.int .i64 (pk n 9)) ∧ W = w') := by
    show ∀ _, _
    intro W
    exact picked_any n 9 W hn1 hn2 (by omega) (by omega)
  have hA : Below w.heap.size w (w.alloc (.cells #[.int .i64 ki, .int .i64 ra, .int .i64 rb, .int .i64 rc, .slice sa ss0.length cap] 24)) := (Below.refl _ _).alloc (Nat.le_refl _) _
  go_enter Try.func4, Try.ntmps4
  go_wp2_with fail
  refine (message_raw ki ra rb rc sa cap ss0 _ h1 h2 h3 h4 (h5.below hA)).mono ?_
  rintro e w1 ⟨m, ss, bl, pl, cbl, cpl, vl, he, H, hfr, htt, hcar, hemp, hb1⟩
  have hB1 := hA.trans (hb1.mono hA.size)
  have hC0 : Hid (checkF m (carriedF m ss bl pl cbl cpl vl) = 0) := by show _ = _; rw [hcar]; exact checkF_zero (by omega) (by omega) hemp
  subst he
  dsimp only
  have qz := heap_alloc_new w1 (.cells #[.int .i64 0, .int .i64 0, .int .i64 0, .int .i64 0, .int .i64 0, .slice none 0 0, .int .i64 0, .int .i64 0, .slice none 0 0, .slice none 0 0, .int .i64 0, .int .i64 0, .slice none 0 0, .int .i64 0, .int .i64 0, .slice none 0 0, .slice none 0 0, .slice none 0 0, .int .i64 0] 37)
  have hA1 : Below w1.heap.size w1 ((w1.alloc (.cells #[.int .i64 0, .int .i64 0, .int .i64 0, .int .i64 0, .int .i64 0, .slice none 0 0, .int .i64 0, .int .i64 0, .slice none 0 0, .slice none 0 0, .int .i64 0, .int .i64 0, .slice none 0 0, .int .i64 0, .int .i64 0, .slice none 0 0, .slice none 0 0, .slice none 0 0, .int .i64 0] 37)).setRow w1.heap.size #[.int .i64 m.fr, .int .i64 m.tt, .int .i64 m.ki, .int .i64 m.bau, .int .i64 m.bnu, .slice m.bta m.btn m.btc, .int .i64 m.hau, .int .i64 m.hrd, .slice m.hba m.hbn m.hbc, .slice m.hpa m.hpn m.hpc, .int .i64 m.sau, .int .i64 m.srd, .slice m.sda m.sdn m.sdc, .int .i64 m.cau, .int .i64 m.crd, .slice m.cba m.cbn m.cbc, .slice m.cpa m.cpn m.cpc, .slice m.cva m.cvn m.cvc, .int .i64 m.ro]) := laid_row w1 #[.int .i64 0, .int .i64 0, .int .i64 0, .int .i64 0, .int .i64 0, .slice none 0 0, .int .i64 0, .int .i64 0, .slice none 0 0, .slice none 0 0, .int .i64 0, .int .i64 0, .slice none 0 0, .int .i64 0, .int .i64 0, .slice none 0 0, .slice none 0 0, .slice none 0 0, .int .i64 0] #[.int .i64 m.fr, .int .i64 m.tt, .int .i64 m.ki, .int .i64 m.bau, .int .i64 m.bnu, .slice m.bta m.btn m.btc, .int .i64 m.hau, .int .i64 m.hrd, .slice m.hba m.hbn m.hbc, .slice m.hpa m.hpn m.hpc, .int .i64 m.sau, .int .i64 m.srd, .slice m.sda m.sdn m.sdc, .int .i64 m.cau, .int .i64 m.crd, .slice m.cba m.cbn m.cbc, .slice m.cpa m.cpn m.cpc, .slice m.cva m.cvn m.cvc, .int .i64 m.ro] 37
  have q0 := setRow_heap _ _ _ #[.int .i64 m.fr, .int .i64 m.tt, .int .i64 m.ki, .int .i64 m.bau, .int .i64 m.bnu, .slice m.bta m.btn m.btc, .int .i64 m.hau, .int .i64 m.hrd, .slice m.hba m.hbn m.hbc, .slice m.hpa m.hpn m.hpc, .int .i64 m.sau, .int .i64 m.srd, .slice m.sda m.sdn m.sdc, .int .i64 m.cau, .int .i64 m.crd, .slice m.cba m.cbn m.cbc, .slice m.cpa m.cpn m.cpc, .slice m.cva m.cvn m.cvc, .int .i64 m.ro] _ _ qz
  clear hcar hemp hfr htt
  go_wp2_with (first | refine wpList_store_row rfl 37 _ _ rfl w1.heap.size #[.int .i64 m.fr, .int .i64 m.tt, .int .i64 m.ki, .int .i64 m.bau, .int .i64 m.bnu, .slice m.bta m.btn m.btc, .int .i64 m.hau, .int .i64 m.hrd, .slice m.hba m.hbn m.hbc, .slice m.hpa m.hpn m.hpc, .int .i64 m.sau, .int .i64 m.srd, .slice m.sda m.sdn m.sdc, .int .i64 m.cau, .int .i64 m.crd, .slice m.cba m.cbn m.cbc, .slice m.cpa m.cpn m.cpc, .slice m.cva m.cvn m.cvc, .int .i64 m.ro] rfl rfl 37 _ qz sMsg' rfl (by simp [Value.oneCell']) ?_ | refine wpList_load_row rfl 37 _ rfl w1.heap.size rfl 37 #[.int .i64 m.fr, .int .i64 m.tt, .int .i64 m.ki, .int .i64 m.bau, .int .i64 m.bnu, .slice m.bta m.btn m.btc, .int .i64 m.hau, .int .i64 m.hrd, .slice m.hba m.hbn m.hbc, .slice m.hpa m.hpn m.hpc, .int .i64 m.sau, .int .i64 m.srd, .slice m.sda m.sdn m.sdc, .int .i64 m.cau, .int .i64 m.crd, .slice m.cba m.cbn m.cbc, .slice m.cpa m.cpn m.cpc, .slice m.cva m.cvn m.cvc, .int .i64 m.ro] (0, 0) _ q0 Try.underlying37 rfl sMsg' ?_)
  generalize (w1.alloc (.cells #[.int .i64 0, .int .i64 0, .int .i64 0, .int .i64 0, .int .i64 0, .slice none 0 0, .int .i64 0, .int .i64 0, .slice none 0 0, .slice none 0 0, .int .i64 0, .int .i64 0, .slice none 0 0, .int .i64 0, .int .i64 0, .slice none 0 0, .slice none 0 0, .slice none 0 0, .int .i64 0] 37)).setRow w1.heap.size #[.int .i64 m.fr, .int .i64 m.tt, .int .i64 m.ki, .int .i64 m.bau, .int .i64 m.bnu, .slice m.bta m.btn m.btc, .int .i64 m.hau, .int .i64 m.hrd, .slice m.hba m.hbn m.hbc, .slice m.hpa m.hpn m.hpc, .int .i64 m.sau, .int .i64 m.srd, .slice m.sda m.sdn m.sdc, .int .i64 m.cau, .int .i64 m.crd, .slice m.cba m.cbn m.cbc, .slice m.cpa m.cpn m.cpc, .slice m.cva m.cvn m.cvc, .int .i64 m.ro] = W1 at hA1 q0 ⊢
  have hc := check_any m ss bl pl cbl cpl vl W1 (H.below hA1)
  rw [hC0.out] at hc
  refine hc.mono ?_
  rintro e w2 ⟨he, hb2⟩
  subst he
  dsimp only
  have hbW := hA1.trans (hb2.mono hA1.size)
  have q2 := (hb2.block _ (lt_of_heap q0)).trans q0
  have H2 := H.below hbW
  have hB2 := hB1.trans (hbW.mono hB1.size)
  have x0 : w2.cell? ⟨w1.heap.size, 0, none⟩ = some (.int .i64 m.fr) := cells_at q2 0 _ rfl
  have x1 : w2.cell? ⟨w1.heap.size, 1, none⟩ = some (.int .i64 m.tt) := cells_at q2 1 _ rfl
  have f0 := frozen_at q2 0
  have f1 := frozen_at q2 1
  have hle1 : w.heap.size ≤ w1.heap.size := hB1.size
  have HK := H
  clear hc hC0 H pf0 pf1 pt0 pt1
  have hw1 : IntKind.i64.wrap (4 + pk n 9) = 4 + pk n 9 := by rw [IntKind.wrap_i64]; omega
  have hw2 : IntKind.i64.wrap (-1 - pk n 9) = -1 - pk n 9 := by rw [IntKind.wrap_i64]; omega
  by_cases hneg : n < 0
  · cases tb with
    | true =>
      have hk : ¬ (0 ≤ -1 - pk n 9 ∧ -1 - pk n 9 < 4) := by omega
      have rF : (w2.setCell ⟨w1.heap.size, 1, none⟩ (.int .i64 (-1 - pk n 9))).heap[w1.heap.size]? = some (.cells #[.int .i64 m.fr, .int .i64 (-1 - pk n 9), .int .i64 m.ki, .int .i64 m.bau, .int .i64 m.bnu, .slice m.bta m.btn m.btc, .int .i64 m.hau, .int .i64 m.hrd, .slice m.hba m.hbn m.hbc, .slice m.hpa m.hpn m.hpc, .int .i64 m.sau, .int .i64 m.srd, .slice m.sda m.sdn m.sdc, .int .i64 m.cau, .int .i64 m.crd, .slice m.cba m.cbn m.cbc, .slice m.cpa m.cpn m.cpc, .slice m.cva m.cvn m.cvc, .int .i64 m.ro] 37 (0, 0)) := by simpa using heap_setCell_same _ _ 1 _ _ (.int .i64 (-1 - pk n 9)) q2
      have hbF : Below w1.heap.size w1 (w2.setCell ⟨w1.heap.size, 1, none⟩ (.int .i64 (-1 - pk n 9))) := hbW.setCell (p := ⟨w1.heap.size, 1, none⟩) (Nat.le_refl _) _
      have hBF : Below w.heap.size w (w2.setCell ⟨w1.heap.size, 1, none⟩ (.int .i64 (-1 - pk n 9))) := hB2.setCell (p := ⟨w1.heap.size, 1, none⟩) hle1 _
      have HF : MsgAt (w2.setCell ⟨w1.heap.size, 1, none⟩ (.int .i64 (-1 - pk n 9))) m ss bl pl cbl cpl vl := (HK.below (by exact hbF))
      go_wp2_with (first | (go_at_call 6; refine (HP.out _).mono ?_; rintro e w9 ⟨rfl, rfl⟩) | refine wpList_load_row rfl 37 _ rfl w1.heap.size rfl 37 #[.int .i64 m.fr, .int .i64 (-1 - pk n 9), .int .i64 m.ki, .int .i64 m.bau, .int .i64 m.bnu, .slice m.bta m.btn m.btc, .int .i64 m.hau, .int .i64 m.hrd, .slice m.hba m.hbn m.hbc, .slice m.hpa m.hpn m.hpc, .int .i64 m.sau, .int .i64 m.srd, .slice m.sda m.sdn m.sdc, .int .i64 m.cau, .int .i64 m.crd, .slice m.cba m.cbn m.cbc, .slice m.cpa m.cpn m.cpc, .slice m.cva m.cvn m.cvc, .int .i64 m.ro] (0, 0) _ rF Try.underlying37 rfl sMsg' ?_)
      generalize w2.setCell ⟨w1.heap.size, 1, none⟩ (.int .i64 (-1 - pk n 9)) = WF at rF hbF hBF HF ⊢
      refine (encode_bad (m.toK (-1 - pk n 9)) 2 WF (by decide) (fun w8 hb8 => check_toK m (-1 - pk n 9) ss bl pl cbl cpl vl w8 (HF.below hb8) hk)).mono ?_
      rintro e w4 ⟨he, hb4⟩
      subst he
      dsimp only
      have q4 := (hb4.block _ (lt_of_heap rF)).trans rF
      go_wp2_with (first | refine wpList_load_row rfl 37 _ rfl w1.heap.size rfl 37 #[.int .i64 m.fr, .int .i64 (-1 - pk n 9), .int .i64 m.ki, .int .i64 m.bau, .int .i64 m.bnu, .slice m.bta m.btn m.btc, .int .i64 m.hau, .int .i64 m.hrd, .slice m.hba m.hbn m.hbc, .slice m.hpa m.hpn m.hpc, .int .i64 m.sau, .int .i64 m.srd, .slice m.sda m.sdn m.sdc, .int .i64 m.cau, .int .i64 m.crd, .slice m.cba m.cbn m.cbc, .slice m.cpa m.cpn m.cpc, .slice m.cva m.cvn m.cvc, .int .i64 m.ro] (0, 0) _ q4 Try.underlying37 rfl sMsg' ?_)
      refine (check_toK m (-1 - pk n 9) ss bl pl cbl cpl vl w4 (HF.below hb4) hk).mono ?_
      rintro e w5 ⟨he, hb5⟩
      subst he
      dsimp only
      go_wp2_with fail
      go_ret
      have hB4 := hBF.trans (hb4.mono hBF.size)
      exact ⟨by rfl, hB4.trans (hb5.mono hB4.size)⟩
    | false =>
      have hk : ¬ (0 ≤ -1 - pk n 9 ∧ -1 - pk n 9 < 4) := by omega
      have rF : (w2.setCell ⟨w1.heap.size, 0, none⟩ (.int .i64 (-1 - pk n 9))).heap[w1.heap.size]? = some (.cells #[.int .i64 (-1 - pk n 9), .int .i64 m.tt, .int .i64 m.ki, .int .i64 m.bau, .int .i64 m.bnu, .slice m.bta m.btn m.btc, .int .i64 m.hau, .int .i64 m.hrd, .slice m.hba m.hbn m.hbc, .slice m.hpa m.hpn m.hpc, .int .i64 m.sau, .int .i64 m.srd, .slice m.sda m.sdn m.sdc, .int .i64 m.cau, .int .i64 m.crd, .slice m.cba m.cbn m.cbc, .slice m.cpa m.cpn m.cpc, .slice m.cva m.cvn m.cvc, .int .i64 m.ro] 37 (0, 0)) := by simpa using heap_setCell_same _ _ 0 _ _ (.int .i64 (-1 - pk n 9)) q2
      have hbF : Below w1.heap.size w1 (w2.setCell ⟨w1.heap.size, 0, none⟩ (.int .i64 (-1 - pk n 9))) := hbW.setCell (p := ⟨w1.heap.size, 0, none⟩) (Nat.le_refl _) _
      have hBF : Below w.heap.size w (w2.setCell ⟨w1.heap.size, 0, none⟩ (.int .i64 (-1 - pk n 9))) := hB2.setCell (p := ⟨w1.heap.size, 0, none⟩) hle1 _
      have HF : MsgAt (w2.setCell ⟨w1.heap.size, 0, none⟩ (.int .i64 (-1 - pk n 9))) m ss bl pl cbl cpl vl := (HK.below (by exact hbF))
      go_wp2_with (first | (go_at_call 6; refine (HP.out _).mono ?_; rintro e w9 ⟨rfl, rfl⟩) | refine wpList_load_row rfl 37 _ rfl w1.heap.size rfl 37 #[.int .i64 (-1 - pk n 9), .int .i64 m.tt, .int .i64 m.ki, .int .i64 m.bau, .int .i64 m.bnu, .slice m.bta m.btn m.btc, .int .i64 m.hau, .int .i64 m.hrd, .slice m.hba m.hbn m.hbc, .slice m.hpa m.hpn m.hpc, .int .i64 m.sau, .int .i64 m.srd, .slice m.sda m.sdn m.sdc, .int .i64 m.cau, .int .i64 m.crd, .slice m.cba m.cbn m.cbc, .slice m.cpa m.cpn m.cpc, .slice m.cva m.cvn m.cvc, .int .i64 m.ro] (0, 0) _ rF Try.underlying37 rfl sMsg' ?_)
      generalize w2.setCell ⟨w1.heap.size, 0, none⟩ (.int .i64 (-1 - pk n 9)) = WF at rF hbF hBF HF ⊢
      refine (encode_bad (m.fromK (-1 - pk n 9)) 2 WF (by decide) (fun w8 hb8 => check_fromK m (-1 - pk n 9) ss bl pl cbl cpl vl w8 (HF.below hb8) hk)).mono ?_
      rintro e w4 ⟨he, hb4⟩
      subst he
      dsimp only
      have q4 := (hb4.block _ (lt_of_heap rF)).trans rF
      go_wp2_with (first | refine wpList_load_row rfl 37 _ rfl w1.heap.size rfl 37 #[.int .i64 (-1 - pk n 9), .int .i64 m.tt, .int .i64 m.ki, .int .i64 m.bau, .int .i64 m.bnu, .slice m.bta m.btn m.btc, .int .i64 m.hau, .int .i64 m.hrd, .slice m.hba m.hbn m.hbc, .slice m.hpa m.hpn m.hpc, .int .i64 m.sau, .int .i64 m.srd, .slice m.sda m.sdn m.sdc, .int .i64 m.cau, .int .i64 m.crd, .slice m.cba m.cbn m.cbc, .slice m.cpa m.cpn m.cpc, .slice m.cva m.cvn m.cvc, .int .i64 m.ro] (0, 0) _ q4 Try.underlying37 rfl sMsg' ?_)
      refine (check_fromK m (-1 - pk n 9) ss bl pl cbl cpl vl w4 (HF.below hb4) hk).mono ?_
      rintro e w5 ⟨he, hb5⟩
      subst he
      dsimp only
      go_wp2_with fail
      go_ret
      have hB4 := hBF.trans (hb4.mono hBF.size)
      exact ⟨by rfl, hB4.trans (hb5.mono hB4.size)⟩
  · cases tb with
    | true =>
      have hk : ¬ (0 ≤ 4 + pk n 9 ∧ 4 + pk n 9 < 4) := by omega
      have rF : (w2.setCell ⟨w1.heap.size, 1, none⟩ (.int .i64 (4 + pk n 9))).heap[w1.heap.size]? = some (.cells #[.int .i64 m.fr, .int .i64 (4 + pk n 9), .int .i64 m.ki, .int .i64 m.bau, .int .i64 m.bnu, .slice m.bta m.btn m.btc, .int .i64 m.hau, .int .i64 m.hrd, .slice m.hba m.hbn m.hbc, .slice m.hpa m.hpn m.hpc, .int .i64 m.sau, .int .i64 m.srd, .slice m.sda m.sdn m.sdc, .int .i64 m.cau, .int .i64 m.crd, .slice m.cba m.cbn m.cbc, .slice m.cpa m.cpn m.cpc, .slice m.cva m.cvn m.cvc, .int .i64 m.ro] 37 (0, 0)) := by simpa using heap_setCell_same _ _ 1 _ _ (.int .i64 (4 + pk n 9)) q2
      have hbF : Below w1.heap.size w1 (w2.setCell ⟨w1.heap.size, 1, none⟩ (.int .i64 (4 + pk n 9))) := hbW.setCell (p := ⟨w1.heap.size, 1, none⟩) (Nat.le_refl _) _
      have hBF : Below w.heap.size w (w2.setCell ⟨w1.heap.size, 1, none⟩ (.int .i64 (4 + pk n 9))) := hB2.setCell (p := ⟨w1.heap.size, 1, none⟩) hle1 _
      have HF : MsgAt (w2.setCell ⟨w1.heap.size, 1, none⟩ (.int .i64 (4 + pk n 9))) m ss bl pl cbl cpl vl := (HK.below (by exact hbF))
      go_wp2_with (first | (go_at_call 6; refine (HP.out _).mono ?_; rintro e w9 ⟨rfl, rfl⟩) | refine wpList_load_row rfl 37 _ rfl w1.heap.size rfl 37 #[.int .i64 m.fr, .int .i64 (4 + pk n 9), .int .i64 m.ki, .int .i64 m.bau, .int .i64 m.bnu, .slice m.bta m.btn m.btc, .int .i64 m.hau, .int .i64 m.hrd, .slice m.hba m.hbn m.hbc, .slice m.hpa m.hpn m.hpc, .int .i64 m.sau, .int .i64 m.srd, .slice m.sda m.sdn m.sdc, .int .i64 m.cau, .int .i64 m.crd, .slice m.cba m.cbn m.cbc, .slice m.cpa m.cpn m.cpc, .slice m.cva m.cvn m.cvc, .int .i64 m.ro] (0, 0) _ rF Try.underlying37 rfl sMsg' ?_)
      generalize w2.setCell ⟨w1.heap.size, 1, none⟩ (.int .i64 (4 + pk n 9)) = WF at rF hbF hBF HF ⊢
      refine (encode_bad (m.toK (4 + pk n 9)) 2 WF (by decide) (fun w8 hb8 => check_toK m (4 + pk n 9) ss bl pl cbl cpl vl w8 (HF.below hb8) hk)).mono ?_
      rintro e w4 ⟨he, hb4⟩
      subst he
      dsimp only
      have q4 := (hb4.block _ (lt_of_heap rF)).trans rF
      go_wp2_with (first | refine wpList_load_row rfl 37 _ rfl w1.heap.size rfl 37 #[.int .i64 m.fr, .int .i64 (4 + pk n 9), .int .i64 m.ki, .int .i64 m.bau, .int .i64 m.bnu, .slice m.bta m.btn m.btc, .int .i64 m.hau, .int .i64 m.hrd, .slice m.hba m.hbn m.hbc, .slice m.hpa m.hpn m.hpc, .int .i64 m.sau, .int .i64 m.srd, .slice m.sda m.sdn m.sdc, .int .i64 m.cau, .int .i64 m.crd, .slice m.cba m.cbn m.cbc, .slice m.cpa m.cpn m.cpc, .slice m.cva m.cvn m.cvc, .int .i64 m.ro] (0, 0) _ q4 Try.underlying37 rfl sMsg' ?_)
      refine (check_toK m (4 + pk n 9) ss bl pl cbl cpl vl w4 (HF.below hb4) hk).mono ?_
      rintro e w5 ⟨he, hb5⟩
      subst he
      dsimp only
      go_wp2_with fail
      go_ret
      have hB4 := hBF.trans (hb4.mono hBF.size)
      exact ⟨by rfl, hB4.trans (hb5.mono hB4.size)⟩
    | false =>
      have hk : ¬ (0 ≤ 4 + pk n 9 ∧ 4 + pk n 9 < 4) := by omega
      have rF : (w2.setCell ⟨w1.heap.size, 0, none⟩ (.int .i64 (4 + pk n 9))).heap[w1.heap.size]? = some (.cells #[.int .i64 (4 + pk n 9), .int .i64 m.tt, .int .i64 m.ki, .int .i64 m.bau, .int .i64 m.bnu, .slice m.bta m.btn m.btc, .int .i64 m.hau, .int .i64 m.hrd, .slice m.hba m.hbn m.hbc, .slice m.hpa m.hpn m.hpc, .int .i64 m.sau, .int .i64 m.srd, .slice m.sda m.sdn m.sdc, .int .i64 m.cau, .int .i64 m.crd, .slice m.cba m.cbn m.cbc, .slice m.cpa m.cpn m.cpc, .slice m.cva m.cvn m.cvc, .int .i64 m.ro] 37 (0, 0)) := by simpa using heap_setCell_same _ _ 0 _ _ (.int .i64 (4 + pk n 9)) q2
      have hbF : Below w1.heap.size w1 (w2.setCell ⟨w1.heap.size, 0, none⟩ (.int .i64 (4 + pk n 9))) := hbW.setCell (p := ⟨w1.heap.size, 0, none⟩) (Nat.le_refl _) _
      have hBF : Below w.heap.size w (w2.setCell ⟨w1.heap.size, 0, none⟩ (.int .i64 (4 + pk n 9))) := hB2.setCell (p := ⟨w1.heap.size, 0, none⟩) hle1 _
      have HF : MsgAt (w2.setCell ⟨w1.heap.size, 0, none⟩ (.int .i64 (4 + pk n 9))) m ss bl pl cbl cpl vl := (HK.below (by exact hbF))
      go_wp2_with (first | (go_at_call 6; refine (HP.out _).mono ?_; rintro e w9 ⟨rfl, rfl⟩) | refine wpList_load_row rfl 37 _ rfl w1.heap.size rfl 37 #[.int .i64 (4 + pk n 9), .int .i64 m.tt, .int .i64 m.ki, .int .i64 m.bau, .int .i64 m.bnu, .slice m.bta m.btn m.btc, .int .i64 m.hau, .int .i64 m.hrd, .slice m.hba m.hbn m.hbc, .slice m.hpa m.hpn m.hpc, .int .i64 m.sau, .int .i64 m.srd, .slice m.sda m.sdn m.sdc, .int .i64 m.cau, .int .i64 m.crd, .slice m.cba m.cbn m.cbc, .slice m.cpa m.cpn m.cpc, .slice m.cva m.cvn m.cvc, .int .i64 m.ro] (0, 0) _ rF Try.underlying37 rfl sMsg' ?_)
      generalize w2.setCell ⟨w1.heap.size, 0, none⟩ (.int .i64 (4 + pk n 9)) = WF at rF hbF hBF HF ⊢
      refine (encode_bad (m.fromK (4 + pk n 9)) 2 WF (by decide) (fun w8 hb8 => check_fromK m (4 + pk n 9) ss bl pl cbl cpl vl w8 (HF.below hb8) hk)).mono ?_
      rintro e w4 ⟨he, hb4⟩
      subst he
      dsimp only
      have q4 := (hb4.block _ (lt_of_heap rF)).trans rF
      go_wp2_with (first | refine wpList_load_row rfl 37 _ rfl w1.heap.size rfl 37 #[.int .i64 (4 + pk n 9), .int .i64 m.tt, .int .i64 m.ki, .int .i64 m.bau, .int .i64 m.bnu, .slice m.bta m.btn m.btc, .int .i64 m.hau, .int .i64 m.hrd, .slice m.hba m.hbn m.hbc, .slice m.hpa m.hpn m.hpc, .int .i64 m.sau, .int .i64 m.srd, .slice m.sda m.sdn m.sdc, .int .i64 m.cau, .int .i64 m.crd, .slice m.cba m.cbn m.cbc, .slice m.cpa m.cpn m.cpc, .slice m.cva m.cvn m.cvc, .int .i64 m.ro] (0, 0) _ q4 Try.underlying37 rfl sMsg' ?_)
      refine (check_fromK m (4 + pk n 9) ss bl pl cbl cpl vl w4 (HF.below hb4) hk).mono ?_
      rintro e w5 ⟨he, hb5⟩
      subst he
      dsimp only
      go_wp2_with fail
      go_ret
      have hB4 := hBF.trans (hb4.mono hBF.size)
      exact ⟨by rfl, hB4.trans (hb5.mono hB4.size)⟩
end Go.Proofs.Ytgbbdiogaobdeaa

namespace Go.Proofs.Ytgbbdiogaobdeaa.nodesBad
open Go.ChangeShapes Go.WideShapes Go.ChangeAt Go.RowKit

set_option maxRecDepth 100000 in
/-- What the walk gives, for every argument and every world. -/
theorem contract (H : Type) (enc : TypeId × Value → H) (W : World) (base : Nat) (args : Array Value) (ds gs : List (DataW H)) (before : List MemPlace)
    (hval : ∀ (j : Nat) t v, Try.f4.params[j]? = some t → args[j]? = some v → Value.okWide Try.prog W .any base t v)
    (hW : DataW.Whole enc Try.prog Try.f4.params.toList Rows.nodesBadSpec.vars false W args.toList ds gs before) (hsz : (DataW.weightsEach Try.prog (Try.f4.params.toList ++ (OpenSpec.ofChange Rows.nodesBadSpec).bare.plain.varTypes Try.prog) (ds ++ gs)).all (· ≤ reachBytes) = true) (_hL : laidMetH Try.prog Rows.nodesBadRow.laid W) :
    Calls Try.prog 4 args W fun e W' => ∃ v, e = .returned v ∧ Rows.nodesBadSpec.post enc Try.prog Try.f4 false true false false W args v W' := by
  have hW' := hW
  obtain ⟨p, q, hA0, hV, rfl, hfz, hnd⟩ := hW
  have hA : DataW.TrodAll enc Try.prog W 0 (fun _ => true) true Try.f4.params.toList args.toList ds p := hA0
  rw [Try.params4] at hA hval hsz
  obtain ⟨v0, vs0, d0, ds0, p0, q0, hargs, rfl, rfl, h0, r0⟩ := trodAll_cons hA
  obtain ⟨v1, vs1, d1, ds1, p1, q1, rfl, rfl, rfl, h1, r1⟩ := trodAll_cons r0
  obtain ⟨v2, vs2, d2, ds2, p2, q2, rfl, rfl, rfl, h2, r2⟩ := trodAll_cons r1
  obtain ⟨rfl, rfl, rfl⟩ := trodAll_nil r2
  obtain rfl : args = #[v0, v1, v2] := by cases args; simp_all
  obtain ⟨rfl, rfl⟩ := trodVars_none hV
  have k0 := h0
  have lt0 : ∀ x ∈ p0, x.block < W.heap.size := by obtain ⟨m, hm⟩ := k0; exact DataW.trod_lt m _ _ _ hm
  obtain ⟨ki0, ra0, rb0, rc0, sa0, cap0, ss0, rfl, q0_0, q0_1, q0_2, q0_3, q0_4⟩ := open_raw (hval 0 24 v0 rfl rfl) h0 (fit_each hsz (j := 0) rfl rfl)
  obtain ⟨a1, rfl, rfl, rfl, w1⟩ := open_int Try.underlying3 (hval 1 3 v1 rfl rfl) h1
  obtain ⟨lo1, hi1⟩ := bounds_i64 w1
  obtain ⟨a2, rfl, rfl, rfl⟩ := open_bool Try.underlying4 (hval 2 4 v2 rfl rfl) h2
  clear hA0
  refine (nodesBad_walk ki0 ra0 rb0 rc0 sa0 cap0 ss0 a1 a2 W q0_0 q0_1 q0_2 q0_3 q0_4 lo1 hi1).mono fun e W' ⟨he, bel⟩ => ?_
  subst he
  exact ⟨_, rfl, _, _, _, [], _, [], hW', trodAll_mk1 (shut_bool Try.underlying4 _), (trodAll_cons_mk (Below.trod laidOut (by kernel_rfl) (of_decide_eq_true (by kernel_rfl)) k0 bel lt0) (trodAll_cons_mk (shut_int Try.underlying3 w1) (trodAll_cons_mk (shut_bool Try.underlying4 _) trodAll_mk0))), rfl, bel.frame _, fun h => by cases h⟩

set_option maxRecDepth 100000 in
theorem laid_met (os : Os) : laidMet Try.prog Rows.nodesBadRow.laid ((World.holding Try.prog os ⟨#[], #[], []⟩).forCall (fun _ _ => 0) ⟨#[], #[.agg #[.int .i64 0, .int .i64 0, .int .i64 0, .int .i64 0, .slice none 0 0], .int .i64 0, .bool false], []⟩).memory :=
  laidMet_of_run' 8 (by kernel_rfl) (by kernel_rfl)
set_option maxRecDepth 100000 in
theorem reads (os : Os) {H : Type} (enc : TypeId × Value → H) : ∃ places, DataW.whole enc Try.prog ((World.holding Try.prog os ⟨#[], #[], []⟩).forCall (fun _ _ => 0) ⟨#[], #[.agg #[.int .i64 0, .int .i64 0, .int .i64 0, .int .i64 0, .slice none 0 0], .int .i64 0, .bool false], []⟩).memory Try.f4.params.toList Rows.nodesBadSpec.vars false (#[.agg #[.int .i64 0, .int .i64 0, .int .i64 0, .int .i64 0, .slice none 0 0], .int .i64 0, .bool false] : Array Value).toList 8 = some ([.agg [.lit (.int .i64 0), .lit (.int .i64 0), .lit (.int .i64 0), .lit (.int .i64 0), .nil], .lit (.int .i64 0), .lit (.bool false)], [], places) :=
  ⟨[], by kernel_rfl⟩

set_option maxRecDepth 100000 in
theorem lifted (os : Os) (started : os.Started) (H : Type) (enc : TypeId × Value → H) (F : Stop.Interp) :
    ReturnsInHanded {} Try.checked os 4 .any ((OpenSpec.ofChange Rows.nodesBadSpec).preRow enc Try.prog Try.f4 Rows.nodesBadRow.domain false Rows.nodesBadRow.laid) (((OpenSpec.ofChange Rows.nodesBadSpec).at F).post enc Try.prog Try.f4 false true false false) := by
  obtain ⟨places, hx⟩ := reads os enc
  refine returnsInHanded_of_row (C := Try.checked) (s := OpenSpec.ofChange Rows.nodesBadSpec) own started (by kernel_rfl) Try.func4
    (witness_row_at (enc := enc) (C := Try.checked) false (World.holding Try.prog os ⟨#[], #[], []⟩) #[.agg #[.int .i64 0, .int .i64 0, .int .i64 0, .int .i64 0, .slice none 0 0], .int .i64 0, .bool false] rfl (by kernel_rfl) (by kernel_rfl) (by kernel_rfl)
      (OpenSpec.preRow_of_cond 8 hx (by kernel_rfl) (fun k hk => by cases hk) (by kernel_rfl) (laid_met os))) ?_
  intro W base args ds gs before hval hW _ _ hsz hL _ _
  exact contract H enc W base args ds gs before hval hW hsz hL

set_option maxRecDepth 100000 in
theorem said : Rows.NodesBadSaid :=
  OpenClaim.holds_of_cond 4 Try.f4 rfl rfl rfl rfl rfl rfl rfl ⟨rfl, rfl, rfl, rfl, rfl⟩ rfl rfl rfl rfl rfl (by kernel_rfl) Try.func4 (by kernel_rfl)
    (of_decide_eq_true (by kernel_rfl)) (by unfold Func.isWrapper; first | (rw [if_pos (by decide +kernel)]; kernel_rfl) | (rw [if_neg (by decide +kernel)]; exact ⟨rfl, rfl⟩))
    (fun os started H enc _ F => by rw [OpenClaim.pre_eq_preRow]; exact lifted os started H enc F)

end Go.Proofs.Ytgbbdiogaobdeaa.nodesBad
namespace Go.Proofs.Ytgbbdiogaobdeaa
set_option maxRecDepth 100000 in
theorem nodesBad_holds : Rows.NodesBadSaid := nodesBad.said
#print axioms nodesBad_holds
end Go.Proofs.Ytgbbdiogaobdeaa
