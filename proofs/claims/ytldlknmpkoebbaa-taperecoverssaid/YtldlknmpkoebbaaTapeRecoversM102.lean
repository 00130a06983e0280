/- The law sheaveslaw.TapeRecovers answers true for every argument, and each argument reads behind the call as it read before: no condition but the form's own reach. -/
import Derived.Test.YtldlknmpkoebbaaTapeRecoversM96
import Derived.Test.YtldlknmpkoebbaaApp
import Derived.Test.YtldlknmpkoebbaaSx
import Derived.Test.YtldlknmpkoebbaaTapeRecoversM30
import Derived.Test.YtldlknmpkoebbaaTapeRecoversM0
import Derived.Deep.Strs
import Derived.Deep.CutRange
import Derived.Deep.DeepCutAuto
import Derived.Deep.RegionHeld3
import Derived.Test.YtldlknmpkoebbaaRows
import Derived.WalkKit
import Derived.ProofKit
import Derived.OpenShut
import Derived.Deep.DeepHandedRow
import Derived.SevenTiedAt
import Derived.Below
namespace Go.Proofs.Ytldlknmpkoebbaa
open Go.RowKit

set_option maxRecDepth 100000 in
theorem tape_one {w w0 : World} : ∀ (ys zs : List MV) (r s : List Int), (∀ y ∈ ys, MAt w y ∧ IsRec y) → (∀ z ∈ zs, MAt w0 z ∧ IsRec z) → tapeB ys ++ r = tapeB zs ++ s → noRec r → noRec s → ys.map MV.c = zs.map MV.c ∧ tapeB ys = tapeB zs
  | [], [], _, _, _, _, _, _, _ => ⟨rfl, rfl⟩
  | [], z :: zs, r, s, _, hz, h, hr, _ => by
    have h1 : r = z.onTape ++ (tapeB zs ++ s) := by rw [tapeB_cons] at h; simpa [tapeB] using h
    exact absurd h1 (hr w0 z _ (hz z (by simp)).1 (hz z (by simp)).2)
  | y :: ys, [], r, s, hy, _, h, _, hs => by
    have h1 : s = y.onTape ++ (tapeB ys ++ r) := by rw [tapeB_cons] at h; simpa [tapeB] using h.symm
    exact absurd h1 (hs w y _ (hy y (by simp)).1 (hy y (by simp)).2)
  | y :: ys, z :: zs, r, s, hy, hz, h, hr, hs => by
    rw [tapeB_cons, tapeB_cons, List.append_assoc, List.append_assoc] at h
    obtain ⟨_, h2, h3, h4⟩ := onTape_step (hz z (by simp)).1 (hy y (by simp)).1 (hz z (by simp)).2 (hy y (by simp)).2 h
    obtain ⟨h5, h6⟩ := tape_one ys zs r s (fun x hx => hy x (by simp [hx])) (fun x hx => hz x (by simp [hx])) h4 hr hs
    exact ⟨by rw [List.map_cons, List.map_cons, h2, h5], by rw [tapeB_cons, tapeB_cons, h3, h6]⟩
/-- P8.6 -/
def RcvV (bs : List Int) (sy : Int) (cs : List MC) (tb : List Int) (sy' C : Int) : Prop :=
  (tapeOk bs.length sy = false ∧ cs = [] ∧ tb = [] ∧ sy' = 0 ∧ C = 12) ∨ (tapeOk bs.length sy = true ∧ ∃ (W : World) (ys : List MV) (r : List Int), (∀ y ∈ ys, MAt W y ∧ IsRec y) ∧ bs = tapeB ys ++ r ∧ noRec r ∧ cs = ys.map MV.c ∧ tb = tapeB ys ∧ sy' = min sy tb.length ∧ C = 0)
set_option maxRecDepth 100000 in
theorem RcvV.one {bs : List Int} {sy : Int} {cs ds : List MC} {tb ub : List Int} {x y C D : Int} (h : RcvV bs sy cs tb x C) (g : RcvV bs sy ds ub y D) : cs = ds ∧ tb = ub ∧ x = y ∧ C = D := by
  rcases h with ⟨h1, h2, h3, h4, h5⟩ | ⟨h1, W, ys, r, h2, h3, h4, h5, h6, h7, h8⟩ <;> rcases g with ⟨g1, g2, g3, g4, g5⟩ | ⟨g1, V, zs, s, g2, g3, g4, g5, g6, g7, g8⟩
  · exact ⟨h2.trans g2.symm, h3.trans g3.symm, h4.trans g4.symm, h5.trans g5.symm⟩
  · rw [h1] at g1; cases g1
  · rw [h1] at g1; cases g1
  · obtain ⟨e1, e2⟩ := tape_one ys zs r s h2 g2 (h3.symm.trans g3) h4 g4
    have e3 : tb = ub := by rw [h6, g6, e2]
    subst e3
    exact ⟨by rw [h5, g5, e1], rfl, h7.trans g7.symm, h8.trans g8.symm⟩
/-- What Recover gives, as it lies there. -/
structure RcvL2 (W : World) (va : Option Addr) (ys : List MV) (ra : Option Addr) (rc : Nat) (tb : List Int) : Prop where
  row : MsRow W va ys
  each : ∀ y ∈ ys, MAt W y
  dat : SliceAt W ra rc tb
  len : ys.length ≤ 1000000
set_option maxRecDepth 100000 in
theorem RcvL2.below {w w' : World} {va : Option Addr} {ys : List MV} {ra : Option Addr} {rc : Nat} {tb : List Int} (h : RcvL2 w va ys ra rc tb) (hb : Below w.heap.size w w') : RcvL2 w' va ys ra rc tb := ⟨h.row.below hb, fun y hy => (h.each y hy).below hb, h.dat.below hb, h.len⟩
set_option maxRecDepth 100000 in
theorem rcv_one {w w' : World} {e : Ending} {bs : List Int} {sy : Int} (h : RcvIs w w' e bs sy) (hl : bs.length ≤ 400000 ∨ tapeOk bs.length sy = false) : ∃ (va : Option Addr) (vc : Nat) (ys : List MV) (ra : Option Addr) (rc : Nat) (tb : List Int) (sy' C : Int), e = .returned (.tuple #[.slice va ys.length vc, .agg #[.slice ra tb.length rc, .int .i64 sy'], .int .i64 C]) ∧ RcvL2 w' va ys ra rc tb ∧ RcvV bs sy (ys.map MV.c) tb sy' C := by
  rcases h.out with ⟨h1, h2⟩ | ⟨h1, v, ys, r, ra, rc, h2, h3, h4, h5, h6, _, h8⟩
  · exact ⟨none, 0, [], none, 0, [], 0, 12, h2, ⟨.inl rfl, (fun y hy => by cases hy), nilSlice _, Nat.zero_le _⟩, .inl ⟨h1, rfl, rfl, rfl, rfl⟩⟩
  · obtain ⟨va, vc, hv, _, _, _, hrow⟩ := msRow_of_owns h4
    have hlen : ys.length ≤ 1000000 := by
      have g1 := tapeB_two ys (fun y _ => onTape_two y)
      have g2 : bs.length = (tapeB ys).length + r.length := by rw [h2, List.length_append]
      rcases hl with g | g
      · omega
      · rw [h1] at g; cases g
    refine ⟨va, vc, ys, ra, rc, tapeB ys, min sy (tapeB ys).length, 0, ?_, ⟨hrow, fun y hy => (h5 y hy).1, h6, hlen⟩, .inr ⟨h1, w', ys, r, fun y hy => ⟨(h5 y hy).1, (h5 y hy).2.1⟩, h2, h3, rfl, rfl, rfl, rfl⟩⟩
    rw [h8, hv]
end Go.Proofs.Ytldlknmpkoebbaa

namespace Go.Proofs.Ytldlknmpkoebbaa
open Go.RowKit

set_option maxRecDepth 100000 in
set_option maxHeartbeats 400000 in
theorem octets_any2 (bs : List Int) (sa : Option Addr) (n cap : Nat) (w : World) (hn : n = bs.length) (hs : SliceAt w sa cap bs) (hr : cap ≤ 140737488351232) :
    Calls Try.prog 17 #[.slice sa n cap] w fun e w' => ∃ ra rc, e = .returned (.slice ra bs.length rc) ∧ SliceAt w' ra rc bs ∧ Below w.heap.size w w' ∧ (∀ sb so, ra = some ⟨sb, so, none⟩ → w.heap.size ≤ sb) := by
  have hle := hs.le
  go_enter Try.func17, Try.ntmps17
  go_wp2_with (at_builtin; refine wpList_append_part rfl _ _ rfl w.heap.size _ 0 [] rfl (World.ownsRow_nil _ _ _ _) sa n cap bs rfl hn hs (by omega) (Nat.le_refl _) ?_; intro v1 w1 ho1 hg1)
  obtain ⟨ra, rc, hv, hl, hsl⟩ := owns_form ho1
  have hlt := ho1.lt
  subst hv
  go_ret
  refine ⟨ra, rc, ?_, by simpa using hsl, grown_none hg1, fun sb so e => (hlt sb (by rw [e]; rfl)).1⟩
  simp [hn]
end Go.Proofs.Ytldlknmpkoebbaa

namespace Go.Proofs.Ytldlknmpkoebbaa
open Go.ChangeShapes Go.WideShapes Go.ChangeAt Go.RowKit Go.Deep

set_option maxRecDepth 100000 in
set_option maxHeartbeats 1000000 in
theorem tapes_any (sy : Int) (sa : Option Addr) (n cap : Nat) (bs : List Int) (w : World) (hn : n = bs.length) (hs : SliceAt w sa cap bs) (hr : cap ≤ 140737488351232) :
    Calls Try.prog 5 #[.agg #[.slice sa n cap, .int .i64 sy]] w fun e w' => ∃ ra rc, e = .returned (.agg #[.slice ra n rc, .int .i64 sy]) ∧ SliceAt w' ra rc bs ∧ (∀ sb so, ra = some ⟨sb, so, none⟩ → w.heap.size ≤ sb) ∧ Below w.heap.size w w' := by
  have hA : Below w.heap.size w ((w.alloc (.cells #[.slice sa n cap, .int .i64 sy] 24)).alloc (.cells #[.slice none 0 0, .int .i64 0] 24)) := ((Below.refl _ _).alloc (Nat.le_refl _) _).alloc (by simp) _
  have r0 := heap_alloc2_old w (.cells #[.slice sa n cap, .int .i64 sy] 24) (.cells #[.slice none 0 0, .int .i64 0] 24)
  have r1 := heap_alloc2_new w (.cells #[.slice sa n cap, .int .i64 sy] 24) (.cells #[.slice none 0 0, .int .i64 0] 24)
  have HT : Hid (∀ W : World, Below w.heap.size w W → Calls Try.prog 17 #[.slice sa n cap] W fun e w' => ∃ ra rc, e = .returned (.slice ra bs.length rc) ∧ SliceAt w' ra rc bs ∧ Below W.heap.size W w' ∧ (∀ sb so, ra = some ⟨sb, so, none⟩ → W.heap.size ≤ sb)) := by
    show ∀ _, _
    intro W hW
    exact octets_any2 bs sa n cap W hn (hs.below hW) hr
  rw [← hn] at HT
  clear hs hn
  go_enter Try.func5, Try.ntmps5
  go_wp2_with fail
  generalize (w.alloc (.cells #[.slice sa n cap, .int .i64 sy] 24)).alloc (.cells #[.slice none 0 0, .int .i64 0] 24) = W0 at hA r0 r1 ⊢
  have c0 : W0.cell? ⟨w.heap.size, 0, none⟩ = some (.slice sa n cap) := cells_at r0 0 _ rfl
  have c1 : W0.cell? ⟨w.heap.size, 1, none⟩ = some (.int .i64 sy) := cells_at r0 1 _ rfl
  have hlt := lt_of_heap r1
  go_region_held3 (fun w' => w'.cell? ⟨w.heap.size, 0, none⟩ = some (.slice sa n cap) ∧ w'.cell? ⟨w.heap.size, 1, none⟩ = some (.int .i64 sy)) (go_keep) ((go_at_call 17; refine (HT.out _ hA.drew).mono ?_; rintro e w3 ⟨ra, rc, rfl, hs3, hb3, hf3⟩; replace hb3 := below_drew hb3; have s0 := (hb3.block _ (lt_of_heap r0)).trans r0; have s1 := (hb3.block _ (lt_of_heap r1)).trans r1; have g0 : w3.cell? ⟨w.heap.size, 0, none⟩ = some (.slice sa n cap) := cells_at s0 0 _ rfl; have g1 : w3.cell? ⟨w.heap.size, 1, none⟩ = some (.int .i64 sy) := cells_at s0 1 _ rfl; have e0 : w3.cell? ⟨w.heap.size + 1, 0, none⟩ = some (.slice none 0 0) := cells_at s1 0 _ rfl; have e1 : w3.cell? ⟨w.heap.size + 1, 1, none⟩ = some (.int .i64 0) := cells_at s1 1 _ rfl; have k0 := frozen_at s1 0; have k1 := frozen_at s1 1))
  all_goals
    go_wp2_with fail
    refine bodyPost_ret (v := .agg #[.slice ra n rc, .int .i64 sy]) (by simp [results, Try.results5, go_sem, e0, e1]) rfl ⟨ra, rc, rfl, ?_, ?_, ?_⟩
    · exact (hs3.setCellT _ _ _ (fun sb so e => by have := hf3 sb so e; simp at this; omega)).setCellT _ _ _ (fun sb so e => by have := hf3 sb so e; simp at this; omega)
    · intro sb so e
      have := hf3 sb so e
      simp at this
      omega
    · exact ((hA.trans (hb3.mono hA.size)).setCell (by simp) _).setCell (by simp) _
set_option maxRecDepth 100000 in
set_option maxHeartbeats 400000 in
theorem sameTape_eq (sy : Int) (bs : List Int) (sa sb : Option Addr) (n m c d : Nat) (w : World) (hn : n = bs.length) (hm : m = bs.length) (ha : SliceAt w sa c bs) (hb : SliceAt w sb d bs) :
    Calls Try.prog 9 #[.agg #[.slice sa n c, .int .i64 sy], .agg #[.slice sb m d, .int .i64 sy]] w fun e w' => e = .returned (.bool true) ∧ Below w.heap.size w w' := by
  have hA : Below w.heap.size w ((w.alloc (.cells #[.slice sa n c, .int .i64 sy] 24)).alloc (.cells #[.slice sb m d, .int .i64 sy] 24)) := ((Below.refl _ _).alloc (Nat.le_refl _) _).alloc (by simp) _
  have r0 := heap_alloc2_old w (.cells #[.slice sa n c, .int .i64 sy] 24) (.cells #[.slice sb m d, .int .i64 sy] 24)
  have r1 := heap_alloc2_new w (.cells #[.slice sa n c, .int .i64 sy] 24) (.cells #[.slice sb m d, .int .i64 sy] 24)
  have h1 := run_text _ sa n c bs hn (ha.below hA)
  have h2 := run_text _ sb m d bs hm (hb.below hA)
  clear hn hm ha hb
  generalize bstr bs = A at *
  go_enter Try.func9, Try.ntmps9
  go_upto_region 1 with fail
  generalize (w.alloc (.cells #[.slice sa n c, .int .i64 sy] 24)).alloc (.cells #[.slice sb m d, .int .i64 sy] 24) = W0 at hA r0 r1 h1 h2 ⊢
  have c0 : W0.cell? ⟨w.heap.size, 0, none⟩ = some (.slice sa n c) := cells_at r0 0 _ rfl
  have c1 : W0.cell? ⟨w.heap.size, 1, none⟩ = some (.int .i64 sy) := cells_at r0 1 _ rfl
  have d0 : W0.cell? ⟨w.heap.size + 1, 0, none⟩ = some (.slice sb m d) := cells_at r1 0 _ rfl
  have d1 : W0.cell? ⟨w.heap.size + 1, 1, none⟩ = some (.int .i64 sy) := cells_at r1 1 _ rfl
  go_wp2_with fail
  go_ret
  exact ⟨by simp, hA⟩
set_option maxRecDepth 100000 in
theorem cTape : Try.prog.cellsOf 24 = 2 := by kernel_rfl
set_option maxRecDepth 100000 in
theorem cBsT : Try.prog.cellsOf 22 = 1 := by kernel_rfl
set_option maxRecDepth 100000 in
theorem cIntT : Try.prog.cellsOf 3 = 1 := by kernel_rfl
set_option maxRecDepth 100000 in
theorem open_tape {H : Type} {enc : TypeId × Value → H} {W : World} {base : Nat} {v : Value} {d : DataW H} {p : List MemPlace}
    (hv : Value.okWide Try.prog W .any base 24 v) (h : DataW.Trod enc Try.prog W 0 (fun _ => true) true 24 v d p) (hfit : ∀ n ∈ d.weights Try.prog 24, n ≤ reachBytes) :
    ∃ sa cap bs sy, v = .agg #[.slice sa (List.length bs) cap, .int .i64 sy] ∧ SliceAt W sa cap bs ∧ AllU8 bs ∧ cap ≤ 140737488351232 ∧ I64 sy := by
  obtain ⟨cs, rfl, _⟩ := okWide_struct Try.underlying24 hv
  obtain ⟨fuel, hf⟩ := h
  have hf' : DataW.trod enc Try.prog W 0 (fun _ => true) true fuel 24 cs.toList = some (d, p) := hf
  obtain ⟨y0, y1, n, hx, hl, h0, h1⟩ := trod_struct2 Try.underlying24 hf'
  simp only [Prod.mk.injEq] at hx
  obtain ⟨rfl, rfl⟩ := hx
  rw [cTape] at hl
  obtain ⟨l⟩ := cs
  match l, hl with
  | [c0, c1], _ =>
  obtain ⟨sa, cap, bs, e0, hs, hu⟩ := open_bytes_cells h0
  have hc := bytes_fit h0 (fun n hn => hfit n (by simp [DataW.weights, DataW.weightsEach, Try.underlying24, hn])) e0
  obtain ⟨a, e1, rfl, wa⟩ := DataW.trod_int Try.underlying3 h1
  simp [cIntT, cBsT] at e0 e1
  subst e0 e1
  exact ⟨sa, cap, bs, a, rfl, hs, hu, hc, bounds_i64 wa⟩
end Go.Proofs.Ytldlknmpkoebbaa

namespace Go.Proofs.Ytldlknmpkoebbaa
open Go.RowKit

set_option maxRecDepth 100000 in
set_option maxHeartbeats 4000000 in
theorem tapeRecovers_walk (sa : Option Addr) (cap : Nat) (bs : List Int) (sy : Int) (w : World) (hs : SliceAt w sa cap bs) (hu : AllU8 bs) (hr : cap ≤ 140737488351232) (_hy : I64 sy) :
    Calls Try.prog 3 #[.agg #[.slice sa bs.length cap, .int .i64 sy]] w fun e w' => e = .returned (.bool true) ∧ Below w.heap.size w w' := by
  have hle := hs.le
  have hA : Below w.heap.size w (w.alloc (.cells #[.slice sa bs.length cap, .int .i64 sy] 24)) := (Below.refl _ _).alloc (Nat.le_refl _) _
  have r0 := heap_alloc_new w (.cells #[.slice sa bs.length cap, .int .i64 sy] 24)
  have hok : Hid (bs.length ≤ 400000 ∨ tapeOk bs.length sy = false) := by
    show _ ∨ _
    cases h : tapeOk bs.length sy with
    | false => exact .inr rfl
    | true => exact .inl (tapeOk_iff.1 h).1
  go_enter Try.func3, Try.ntmps3
  go_wp2_with fail
  generalize w.alloc (.cells #[.slice sa bs.length cap, .int .i64 sy] 24) = W0 at hA r0 ⊢
  refine (tapes_any sy sa _ cap bs W0 rfl (hs.below hA) hr).mono ?_
  rintro e w1 ⟨ca, cc, he, hs1, -, hb1⟩
  subst he
  dsimp only
  have hB1 := hA.trans (hb1.mono hA.size)
  have t1 := (hb1.block _ (lt_of_heap r0)).trans r0
  have hA1 := (Below.refl w1.heap.size w1).alloc (Nat.le_refl _) (.cells #[.slice ca bs.length cc, .int .i64 sy] 24)
  have c1 := heap_alloc_new w1 (.cells #[.slice ca bs.length cc, .int .i64 sy] 24)
  have c10 := cells_at c1 0 _ rfl
  have c11 := cells_at c1 1 _ rfl
  go_wp2_with fail
  have hB1A := hB1.alloc hB1.size (.cells #[.slice ca bs.length cc, .int .i64 sy] 24)
  have t2 := (hA1.block _ (lt_of_heap t1)).trans t1
  have hs2 := hs1.below hA1
  generalize hCB : w1.heap.size = CB at c1 c10 c11 ⊢
  generalize w1.alloc (.cells #[.slice ca bs.length cc, .int .i64 sy] 24) = W1 at hA1 c1 c10 c11 hB1A t2 hs2 ⊢
  clear hCB
  have HR := recover_any bs ca _ cc sy W1 rfl hs2 hu (by omega)
  refine HR.mono ?_
  intro e w3 h3
  have hb3 := h3.below
  obtain ⟨va, vc, ys, ra, rc, tb, sx, C, he, hL, hV⟩ := rcv_one h3 hok.out
  subst he
  dsimp only
  have HV : Hid _ := hV
  clear h3 HR hV c10 c11
  have hB3 := hB1A.trans (hb3.mono hB1A.size)
  have t3 := (hb3.block _ (lt_of_heap t2)).trans t2
  have c3 := (hb3.block _ (lt_of_heap c1)).trans c1
  have hs3 := hs2.below hb3
  have hA3 := (Below.refl w3.heap.size w3).alloc (Nat.le_refl _) (.cells #[.slice ra tb.length rc, .int .i64 sx] 24)
  have x3 := heap_alloc_new w3 (.cells #[.slice ra tb.length rc, .int .i64 sx] 24)
  have t4 := (hA3.block _ (lt_of_heap t3)).trans t3
  have d0 := cells_at t4 0 _ rfl
  have d1 := cells_at t4 1 _ rfl
  go_wp2_with fail
  have hB4 := hB3.alloc hB3.size (.cells #[.slice ra tb.length rc, .int .i64 sx] 24)
  have c4 := (hA3.block _ (lt_of_heap c3)).trans c3
  have hs4 := hs3.below hA3
  have hL4 := hL.below hA3
  generalize hXB : w3.heap.size = XB at x3 ⊢
  generalize w3.alloc (.cells #[.slice ra tb.length rc, .int .i64 sx] 24) = W3 at hA3 x3 t4 d0 d1 hB4 c4 hs4 hL4 ⊢
  clear hXB hL
  have HR := tapeRecovered_any bs sa _ cap sy W3 rfl (hs.below hB4) hu (by omega)
  refine HR.mono ?_
  intro e w5 h5
  have hb5 := h5.below
  obtain ⟨ua, uc, zs, qa, qc, ub', sz, D, he, hM, hV⟩ := rcv_one h5 hok.out
  subst he
  dsimp only
  obtain ⟨e1, e2, e3, e4⟩ := RcvV.one HV.out hV
  subst e2 e3 e4
  have HE : Hid (ys.map MV.c = zs.map MV.c) := e1
  have hlen : ys.length = zs.length := by simpa using congrArg List.length e1
  clear h5 HR hV HV e1 d0 d1
  have hB5 := hB4.trans (hb5.mono hB4.size)
  have hL5 := hL4.below hb5
  have HSM : Hid (∀ W : World, Below w5.heap.size w5 W → Calls Try.prog 8 #[.slice va ys.length vc, .slice ua zs.length uc] W fun e w' => e = .returned (.bool true) ∧ Below W.heap.size W w') := by
    show ∀ W, _
    intro W hW
    have h1 := hL5.below hW
    have h2 := hM.below hW
    refine sameMsgs_eq ys zs va ua _ _ vc uc W rfl hlen.symm hlen h1.len h1.row h2.row (fun i g1 g2 => ⟨h1.each _ (List.getElem_mem g1), h2.each _ (List.getElem_mem g2), ?_⟩)
    have h3 : (ys.map MV.c)[i]? = (zs.map MV.c)[i]? := by rw [HE.out]
    simpa [g1, g2] using h3
  have HX : Hid (∀ W : World, Below w5.heap.size w5 W → SliceAt W ra rc tb ∧ SliceAt W qa qc tb) := by
    show ∀ W, _
    exact fun W hW => ⟨(hL5.below hW).dat, (hM.below hW).dat⟩
  have t5 := (hb5.block _ (lt_of_heap t4)).trans t4
  have c5 := (hb5.block _ (lt_of_heap c4)).trans c4
  have x5 := (hb5.block _ (lt_of_heap x3)).trans x3
  have HS5 : Hid (∀ W : World, Below w5.heap.size w5 W → SliceAt W ca cc bs) := by
    show ∀ W, _
    exact fun W hW => (hs4.below hb5).below hW
  clear hlen hL5 hM hs4 hL4
  have hA5 := (Below.refl w5.heap.size w5).alloc (Nat.le_refl _) (.cells #[.slice qa tb.length qc, .int .i64 sx] 24)
  have y5 := heap_alloc_new w5 (.cells #[.slice qa tb.length qc, .int .i64 sx] 24)
  go_wp2_with fail
  have hB6 := hB5.alloc hB5.size (.cells #[.slice qa tb.length qc, .int .i64 sx] 24)
  have t6 := (hA5.block _ (lt_of_heap t5)).trans t5
  have c6 := (hA5.block _ (lt_of_heap c5)).trans c5
  have x6 := (hA5.block _ (lt_of_heap x5)).trans x5
  generalize hYB : w5.heap.size = YB at y5 ⊢
  generalize w5.alloc (.cells #[.slice qa tb.length qc, .int .i64 sx] 24) = W5 at hA5 y5 hB6 t6 c6 x6 ⊢
  rw [hYB] at hA5
  subst hYB
  refine (HSM.out W5 hA5).mono ?_
  rintro e w7 ⟨he, hb7⟩
  subst he
  dsimp only
  have hA7 := hA5.trans (hb7.mono hA5.size)
  have hB7 := hB6.trans (hb7.mono hB6.size)
  have t7 := (hb7.block _ (lt_of_heap t6)).trans t6
  have c7 := (hb7.block _ (lt_of_heap c6)).trans c6
  have x7 := (hb7.block _ (lt_of_heap x6)).trans x6
  have y7 := (hb7.block _ (lt_of_heap y5)).trans y5
  have m0 := cells_at x7 0 _ rfl
  have m1 := cells_at x7 1 _ rfl
  have n0 := cells_at y7 0 _ rfl
  have n1 := cells_at y7 1 _ rfl
  go_wp2_with fail
  refine (sameTape_eq sx tb ra qa _ _ rc qc w7 rfl rfl (HX.out w7 hA7).1 (HX.out w7 hA7).2).mono ?_
  rintro e w8 ⟨he, hb8⟩
  subst he
  dsimp only
  clear m0 m1 n0 n1
  have hA8 := hA7.trans (hb8.mono hA7.size)
  have hB8 := hB7.trans (hb8.mono hB7.size)
  have t8 := (hb8.block _ (lt_of_heap t7)).trans t7
  have c8 := (hb8.block _ (lt_of_heap c7)).trans c7
  have m0 := cells_at t8 0 _ rfl
  have m1 := cells_at t8 1 _ rfl
  have n0 := cells_at c8 0 _ rfl
  have n1 := cells_at c8 1 _ rfl
  go_wp2_with fail
  refine (sameTape_eq sy bs ca sa _ _ cc cap w8 rfl rfl (HS5.out w8 hA8) (hs.below hB8)).mono ?_
  rintro e w9 ⟨he, hb9⟩
  subst he
  dsimp only
  go_wp2_with fail
  go_ret
  exact ⟨rfl, hB8.trans (hb9.mono hB8.size)⟩
end Go.Proofs.Ytldlknmpkoebbaa

namespace Go.Proofs.Ytldlknmpkoebbaa.tapeRecovers
open Go.ChangeShapes Go.WideShapes Go.ChangeAt Go.RowKit

set_option maxRecDepth 100000 in
/-- What the walk gives, for every argument and every world. -/
theorem contract (H : Type) (enc : TypeId × Value → H) (W : World) (base : Nat) (args : Array Value) (ds gs : List (DataW H)) (before : List MemPlace)
    (hval : ∀ (j : Nat) t v, Try.f3.params[j]? = some t → args[j]? = some v → Value.okWide Try.prog W .any base t v)
    (hW : DataW.Whole enc Try.prog Try.f3.params.toList Rows.tapeRecoversSpec.vars false W args.toList ds gs before) (hsz : (DataW.weightsEach Try.prog (Try.f3.params.toList ++ (OpenSpec.ofChange Rows.tapeRecoversSpec).bare.plain.varTypes Try.prog) (ds ++ gs)).all (· ≤ reachBytes) = true) (_hL : laidMetH Try.prog Rows.tapeRecoversRow.laid W) :
    Calls Try.prog 3 args W fun e W' => ∃ v, e = .returned v ∧ Rows.tapeRecoversSpec.post enc Try.prog Try.f3 false true false false W args v W' := by
  have hW' := hW
  obtain ⟨p, q, hA0, hV, rfl, hfz, hnd⟩ := hW
  have hA : DataW.TrodAll enc Try.prog W 0 (fun _ => true) true Try.f3.params.toList args.toList ds p := hA0
  rw [Try.params3] at hA hval hsz
  obtain ⟨v0, vs0, d0, ds0, p0, q0, hargs, rfl, rfl, h0, r0⟩ := trodAll_cons hA
  obtain ⟨rfl, rfl, rfl⟩ := trodAll_nil r0
  obtain rfl : args = #[v0] := by cases args; simp_all
  obtain ⟨rfl, rfl⟩ := trodVars_none hV
  have k0 := h0
  have lt0 : ∀ x ∈ p0, x.block < W.heap.size := by obtain ⟨m, hm⟩ := k0; exact DataW.trod_lt m _ _ _ hm
  obtain ⟨sa0, cap0, bs0, sy0, rfl, q0_0, q0_1, q0_2, q0_3⟩ := open_tape (hval 0 24 v0 rfl rfl) h0 (fit_each hsz (j := 0) rfl rfl)
  clear hA0
  refine (tapeRecovers_walk sa0 cap0 bs0 sy0 W q0_0 q0_1 q0_2 q0_3).mono fun e W' ⟨he, bel⟩ => ?_
  subst he
  exact ⟨_, rfl, _, _, _, [], _, [], hW', trodAll_mk1 (shut_bool Try.underlying4 _), (trodAll_cons_mk (Below.trod laidOut (by kernel_rfl) (of_decide_eq_true (by kernel_rfl)) k0 bel lt0) trodAll_mk0), rfl, bel.frame _, fun h => by cases h⟩

set_option maxRecDepth 100000 in
theorem laid_met (os : Os) : laidMet Try.prog Rows.tapeRecoversRow.laid ((World.holding Try.prog os ⟨#[], #[], []⟩).forCall (fun _ _ => 0) ⟨#[], #[.agg #[.slice none 0 0, .int .i64 0]], []⟩).memory :=
  laidMet_of_run' 8 (by kernel_rfl) (by kernel_rfl)
set_option maxRecDepth 100000 in
theorem reads (os : Os) {H : Type} (enc : TypeId × Value → H) : ∃ places, DataW.whole enc Try.prog ((World.holding Try.prog os ⟨#[], #[], []⟩).forCall (fun _ _ => 0) ⟨#[], #[.agg #[.slice none 0 0, .int .i64 0]], []⟩).memory Try.f3.params.toList Rows.tapeRecoversSpec.vars false (#[.agg #[.slice none 0 0, .int .i64 0]] : Array Value).toList 8 = some ([.agg [.nil, .lit (.int .i64 0)]], [], places) :=
  ⟨[], by kernel_rfl⟩

set_option maxRecDepth 100000 in
theorem lifted (os : Os) (started : os.Started) (H : Type) (enc : TypeId × Value → H) (F : Stop.Interp) :
    ReturnsInHanded {} Try.checked os 3 .any ((OpenSpec.ofChange Rows.tapeRecoversSpec).preRow enc Try.prog Try.f3 Rows.tapeRecoversRow.domain false Rows.tapeRecoversRow.laid) (((OpenSpec.ofChange Rows.tapeRecoversSpec).at F).post enc Try.prog Try.f3 false true false false) := by
  obtain ⟨places, hx⟩ := reads os enc
  refine returnsInHanded_of_row (C := Try.checked) (s := OpenSpec.ofChange Rows.tapeRecoversSpec) own started (by kernel_rfl) Try.func3
    (witness_row_at (enc := enc) (C := Try.checked) false (World.holding Try.prog os ⟨#[], #[], []⟩) #[.agg #[.slice none 0 0, .int .i64 0]] rfl (by kernel_rfl) (by kernel_rfl) (by kernel_rfl)
      (OpenSpec.preRow_of_cond 8 hx (by kernel_rfl) (fun k hk => by cases hk) (by kernel_rfl) (laid_met os))) ?_
  intro W base args ds gs before hval hW _ _ hsz hL _ _
  exact contract H enc W base args ds gs before hval hW hsz hL

set_option maxRecDepth 100000 in
theorem said : Rows.TapeRecoversSaid :=
  OpenClaim.holds_of_cond 3 Try.f3 rfl rfl rfl rfl rfl rfl rfl ⟨rfl, rfl, rfl, rfl, rfl⟩ rfl rfl rfl rfl rfl (by kernel_rfl) Try.func3 (by kernel_rfl)
    (of_decide_eq_true (by kernel_rfl)) (by unfold Func.isWrapper; first | (rw [if_pos (by decide +kernel)]; kernel_rfl) | (rw [if_neg (by decide +kernel)]; exact ⟨rfl, rfl⟩))
    (fun os started H enc _ F => by rw [OpenClaim.pre_eq_preRow]; exact lifted os started H enc F)

end Go.Proofs.Ytldlknmpkoebbaa.tapeRecovers
namespace Go.Proofs.Ytldlknmpkoebbaa
set_option maxRecDepth 100000 in
theorem tapeRecovers_holds : Rows.TapeRecoversSaid := tapeRecovers.said
#print axioms tapeRecovers_holds
end Go.Proofs.Ytldlknmpkoebbaa
