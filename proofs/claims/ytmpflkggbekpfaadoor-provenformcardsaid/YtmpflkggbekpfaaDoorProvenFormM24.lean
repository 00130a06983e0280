/- What the reading of an argument that is a slice of bytes gives the walks. -/
import Derived.Test.YtmpflkggbekpfaaDoorOpenB
import Derived.Test.YtmpflkggbekpfaaDoorProvenFormM18
import Derived.Deep.Strs
import Derived.Test.YtmpflkggbekpfaaDoorProvenFormM12
import Derived.Test.YtmpflkggbekpfaaDoorRows
import Derived.Test.YtmpflkggbekpfaaDoorK
import Derived.Lib.LaidTab
import Derived.OpenShut
import Derived.Stop.LaidErr
import Derived.Test.YtmpflkggbekpfaaDoorProvenFormM0
import Derived.ProofKit
namespace Go.Proofs.YtmpflkggbekpfaaDoor
open Go.ChangeShapes Go.WideShapes Go.ChangeAt Go.RowKit Go.Deep

/-- What is read of a slice of texts that came in. -/
structure TextsAt (w : World) (sa : Option Addr) (cap : Nat) (ss : List ByteArray) : Prop where
  le : ss.length ≤ cap
  reach : cap * 16 ≤ 140737488351232
  nil : sa = none → cap = 0
  strs : StrsAt w sa ss
set_option maxRecDepth 100000 in
theorem TextsAt.below {w w' : World} {sa : Option Addr} {cap : Nat} {ss : List ByteArray} (h : TextsAt w sa cap ss) (hb : Below w.heap.size w w') : TextsAt w' sa cap ss := ⟨h.le, h.reach, h.nil, h.strs.below hb⟩

set_option maxRecDepth 100000 in
theorem cStr : Tryd.prog.cellsOf 9 = 1 := by kernel_rfl
set_option maxRecDepth 100000 in
theorem bStr : Tryd.prog.bytesOf 9 = 16 := by kernel_rfl
set_option maxRecDepth 100000 in
theorem open_texts_cells {H : Type} {enc : TypeId × Value → H} {W : World} {fuel : Nat} {cs : List Value} {x : DataW H × List MemPlace}
    (hf : DataW.trod enc Tryd.prog W 0 (fun _ => true) true fuel 34 cs = some x) (hfit : ∀ n ∈ x.1.weights Tryd.prog 34, n ≤ reachBytes) :
    ∃ sa cap ss, cs = [.slice sa (List.length ss) cap] ∧ TextsAt W sa cap ss := by
  rcases open_strs Tryd.underlying34 Tryd.underlying9 cStr hf with ⟨rfl, _⟩ | ⟨a, len, cap, m, Sx, rfl, _, hl, hm, hmm, rfl, hc⟩
  · exact ⟨none, 0, [], rfl, ⟨Nat.le_refl _, by decide, fun _ => rfl, ⟨.inl rfl, fun s hs => by cases hs⟩⟩⟩
  · simp only [if_true] at hmm
    subst hmm
    have hw := hfit ((((List.range len).map fun i => (DataW.lit (.string (Sx i).data.toList) : DataW H)).length + ((List.range (m - len)).map fun j => (DataW.lit (.string (Sx (len + j)).data.toList) : DataW H)).length) * Tryd.prog.bytesOf 9) (by simp [DataW.weights, Tryd.underlying34])
    rw [bStr] at hw
    simp [reachBytes] at hw
    refine ⟨some a, m, (List.range len).map Sx, by simp, ⟨by simpa using hl, by omega, (fun e => by cases e), ⟨?_, ?_⟩⟩⟩
    · rcases Nat.eq_zero_or_pos len with h0 | h0
      · subst h0; exact .inl rfl
      · right
        have h9 := (hc 0 (by omega)).1
        obtain ⟨b, off, rfl⟩ : ∃ b off, a = ⟨b, off, none⟩ := by
          cases a with
          | mk b off spot =>
            cases spot with
            | none => exact ⟨b, off, rfl⟩
            | some s => simp [World.cell?, Addr.add] at h9; split at h9 <;> cases h9
        refine ⟨b, off, rfl, fun j hj => ?_⟩
        have hj' : j < len := by simpa using hj
        have := (hc j (by omega)).1
        rw [add_off] at this
        rw [this]
        simp [hj']
    · intro s hs
      simp at hs
      obtain ⟨j, hj, rfl⟩ := hs
      exact (hc j (by omega)).2
end Go.Proofs.YtmpflkggbekpfaaDoor

namespace Go.Proofs.YtmpflkggbekpfaaDoor
open Go.ChangeShapes Go.WideShapes Go.ChangeAt Go.RowKit Go.Deep

set_option maxRecDepth 100000 in
theorem cRaw : Tryd.prog.cellsOf 36 = 5 := by kernel_rfl
set_option maxRecDepth 100000 in
theorem cIntR : Tryd.prog.cellsOf 3 = 1 := by kernel_rfl
set_option maxRecDepth 100000 in
theorem cStrsR : Tryd.prog.cellsOf 34 = 1 := by kernel_rfl
set_option maxRecDepth 100000 in
theorem open_raw {H : Type} {enc : TypeId × Value → H} {W : World} {base : Nat} {v : Value} {d : DataW H} {p : List MemPlace}
    (hv : Value.okWide Tryd.prog W .any base 36 v) (h : DataW.Trod enc Tryd.prog W 0 (fun _ => true) true 36 v d p) (hfit : ∀ n ∈ d.weights Tryd.prog 36, n ≤ reachBytes) :
    ∃ ki ra rb rc sa cap ss, v = .agg #[.int .i64 ki, .int .i64 ra, .int .i64 rb, .int .i64 rc, .slice sa (List.length ss) cap] ∧ I64 ki ∧ I64 ra ∧ I64 rb ∧ I64 rc ∧ TextsAt W sa cap ss := by
  obtain ⟨cs, rfl, _⟩ := okWide_struct Tryd.underlying36 hv
  obtain ⟨fuel, hf⟩ := h
  obtain ⟨xs, n, _, hx, hl, hlen, hg⟩ := DataW.trod_struct Tryd.underlying36 hf
  rw [cRaw] at hl
  match xs, hlen with
  | [y0, y1, y2, y3, y4], _ =>
  have h0 := hg 0 _ rfl
  have h1 := hg 1 _ rfl
  have h2 := hg 2 _ rfl
  have h3 := hg 3 _ rfl
  have h4 := hg 4 _ rfl
  simp only [Prod.mk.injEq] at hx
  obtain ⟨rfl, rfl⟩ := hx
  obtain ⟨l⟩ := cs
  match l, hl with
  | [c0, c1, c2, c3, c4], _ =>
  obtain ⟨a0, e0, rfl, w0⟩ := DataW.trod_int Tryd.underlying3 h0
  obtain ⟨a1, e1, rfl, w1⟩ := DataW.trod_int Tryd.underlying3 h1
  obtain ⟨a2, e2, rfl, w2⟩ := DataW.trod_int Tryd.underlying3 h2
  obtain ⟨a3, e3, rfl, w3⟩ := DataW.trod_int Tryd.underlying3 h3
  obtain ⟨sa, cap, ss, e4, hs⟩ := open_texts_cells h4 (fun n hn => hfit n (by simp [DataW.weights, DataW.weightsEach, Tryd.underlying36, hn]))
  simp [cIntR, cStrsR, Value.cells] at e0 e1 e2 e3 e4
  subst e0 e1 e2 e3 e4
  exact ⟨a0, a1, a2, a3, sa, cap, ss, rfl, bounds_i64 w0, bounds_i64 w1, bounds_i64 w2, bounds_i64 w3, hs⟩
end Go.Proofs.YtmpflkggbekpfaaDoor

namespace Go.Proofs.YtmpflkggbekpfaaDoor
open Go.RowKit

set_option maxRecDepth 100000 in
theorem CertC.hat {w wx : World} {b : Nat} {ra rb rc : Int} {ba : Option Addr} {bc : Nat} {bl : List Part} {pa : Option Addr} {pc : Nat} {pl : List Part} {va : Option Addr} {vc : Nat} (H : CertC w wx b ra rb rc ba bc bl pa pc pl va vc) : HAt wx ba bc bl pa pc pl :=
  ⟨H.bat, H.par, fun sb so e => (H.offb.row sb so e).1, fun sb so e => (H.offp.row sb so e).1⟩
set_option maxRecDepth 100000 in
theorem HAt.away {w : World} {ba : Option Addr} {bc : Nat} {bl : List Part} {pa : Option Addr} {pc : Nat} {pl : List Part} {b : Nat} (h : HAt w ba bc bl pa pc pl) (h1 : Away b ba bl) (h2 : Away b pa pl) (j : Nat) (v : Value) : HAt (w.setCell ⟨b, j, none⟩ v) ba bc bl pa pc pl :=
  ⟨h.lb.away h1 j v, h.lp.away h2 j v, fun sb so e => by have := h.rb sb so e; simpa using this, fun sb so e => by have := h.rp sb so e; simpa using this⟩
set_option maxRecDepth 100000 in
theorem IntsAt.away {w : World} {va : Option Addr} {vl : List Int} {b : Nat} (h : IntsAt w va vl) (hn : ∀ sb so, va = some ⟨sb, so, none⟩ → sb ≠ b) (j : Nat) (v : Value) : IntsAt (w.setCell ⟨b, j, none⟩ v) va vl := by
  refine ⟨?_⟩
  rcases h.cells with h | ⟨sb, so, rfl, hc⟩
  · exact .inl h
  · exact .inr ⟨sb, so, rfl, fun k hk => (World.cell?_setCell_far _ _ _ _ (Ne.symm (hn sb so rfl))).trans (hc k hk)⟩
set_option maxRecDepth 100000 in
theorem IntsAt.take {w : World} {va : Option Addr} {vl : List Int} (h : IntsAt w va vl) (k : Nat) : IntsAt w va (vl.take k) := by
  refine ⟨?_⟩
  rcases h.cells with h | ⟨sb, so, rfl, hc⟩
  · left; rw [h]; simp
  · refine .inr ⟨sb, so, rfl, fun j hj => ?_⟩
    have hj2 : j < vl.length := by rw [List.length_take] at hj; omega
    have hj3 : j < k := by rw [List.length_take] at hj; omega
    rw [hc j hj2]
    simp [List.getD, hj3]
set_option maxRecDepth 100000 in
theorem IntsAt.lit {w : World} {b : Nat} {vl : List Int} (h : w.heap[b]? = some (.cells (iv vl).toArray 3 (0, 0))) : IntsAt w (some ⟨b, 0, none⟩) vl := by
  refine ⟨.inr ⟨b, 0, rfl, fun j hj => ?_⟩⟩
  rw [Nat.zero_add]
  refine cells_at h j _ ?_
  simp [iv, hj, List.getD]
set_option maxRecDepth 100000 in
/-- A store into a certificate's block leaves signs as they are. -/
theorem signs_cert {w : World} {sa : Option Addr} {ks : List Sg} (h : SignsAt w sa ks) {b : Nat} {x0 x1 : Int} {a2 a3 a4 : Option Addr} {n2 n3 n4 c2 c3 c4 : Nat} {T : TypeId} (hb : w.heap[b]? = some (.cells #[.int .i64 x0, .int .i64 x1, .slice a2 n2 c2, .slice a3 n3 c3, .slice a4 n4 c4] T (0, 0))) (j : Nat) (v : Value) : SignsAt (w.setCell ⟨b, j, none⟩ v) sa ks := by
  have hcell : ∀ i, w.cell? ⟨b, i, none⟩ = (#[.int .i64 x0, .int .i64 x1, .slice a2 n2 c2, .slice a3 n3 c3, .slice a4 n4 c4] : Array Value)[i]? := fun i => by simp [World.cell?, hb]
  refine ⟨?_, fun s hs => ⟨?_, (h.each s hs).2⟩⟩
  · rcases h.cells with h | ⟨sb, so, rfl, hc⟩
    · exact .inl h
    · refine .inr ⟨sb, so, rfl, fun k hk => ?_⟩
      obtain ⟨h0, h1, h2, h3⟩ := hc k hk
      have hne : b ≠ sb := by
        intro e
        subst e
        rw [hcell] at h2
        generalize so + k * 4 = o at h2
        match o, h2 with
        | 0, h2 => simp at h2
        | 1, h2 => simp at h2
        | 2, h2 => simp at h2
        | o + 3, h2 => simp at h2
      exact ⟨(World.cell?_setCell_far _ _ _ _ hne).trans h0, (World.cell?_setCell_far _ _ _ _ hne).trans h1, (World.cell?_setCell_far _ _ _ _ hne).trans h2, (World.cell?_setCell_far _ _ _ _ hne).trans h3⟩
  · have hs1 := (h.each s hs).1
    refine ⟨hs1.le, hs1.max, hs1.some, hs1.nil, ?_⟩
    rcases hs1.bytes with hc | ⟨sb, so, e, hc⟩
    · exact .inl hc
    · refine .inr ⟨sb, so, e, fun k hk => ?_⟩
      have h2 := hc k hk
      have hne : b ≠ sb := by
        intro e
        subst e
        rw [hcell] at h2
        generalize so + k = o at h2
        match o, h2 with
        | 0, h2 => simp at h2
        | 1, h2 => simp at h2
        | 2, h2 => simp at h2
        | 3, h2 => simp at h2
        | 4, h2 => simp at h2
        | o + 5, h2 => simp at h2
      exact (World.cell?_setCell_far _ _ _ _ hne).trans h2
set_option maxRecDepth 100000 in
theorem gtab_cert {w : World} {sa : Option Addr} {cap : Nat} {ks : List Sg} (h : GTab w sa cap ks) {b : Nat} {x0 x1 : Int} {a2 a3 a4 : Option Addr} {n2 n3 n4 c2 c3 c4 : Nat} {T : TypeId} (hb : w.heap[b]? = some (.cells #[.int .i64 x0, .int .i64 x1, .slice a2 n2 c2, .slice a3 n3 c3, .slice a4 n4 c4] T (0, 0))) (j : Nat) (v : Value) : GTab (w.setCell ⟨b, j, none⟩ v) sa cap ks :=
  ⟨h.le, h.max, h.small, h.some, signs_cert h.slots hb j v⟩
set_option maxRecDepth 100000 in
theorem votersF_two (rc : Int) : votersF ((votersL rc).take 2) = 10 ∧ ((votersL rc).take 2).length = 2 := by
  obtain ⟨p0, p1⟩ := pk_bounds rc 5 (by decide)
  unfold votersL
  generalize pk rc 5 = k at *
  have h : k = 0 ∨ k = 1 ∨ k = 2 ∨ k = 3 ∨ k = 4 := by omega
  rcases h with rfl | rfl | rfl | rfl | rfl <;> decide
end Go.Proofs.YtmpflkggbekpfaaDoor

namespace Go.Proofs.YtmpflkggbekpfaaDoor
open Go.RowKit

set_option maxRecDepth 100000 in
set_option maxHeartbeats 4000000 in
theorem provenForm_walk (ki ra rb rc : Int) (sa : Option Addr) (cap : Nat) (ss : List ByteArray) (wh : Int) (w : World) (_h1 : I64 ki) (h2 : I64 ra) (h3 : I64 rb) (h4 : I64 rc) (_h5 : TextsAt w sa cap ss) (h60 : -9223372036854775808 ≤ wh) (h61 : wh ≤ 9223372036854775807) (hT : Tabs w) :
    Calls Tryd.prog 6 #[.agg #[.int .i64 ki, .int .i64 ra, .int .i64 rb, .int .i64 rc, .slice sa ss.length cap], .int .i64 wh] w fun e w' => e = .returned (.bool true) ∧ Below w.heap.size w w' := by
  have hB : ∀ wx, _ := fun wx => header_raw2 ki ra rb rc sa ss.length cap wx h2 h3 h4
  have hV : ∀ wx, _ := fun wx => voters_any rc wx h4
  have HB : Hid _ := hB
  have HV : Hid _ := hV
  clear hB hV
  have q0 := heap_alloc_new w (.cells #[.int .i64 ki, .int .i64 ra, .int .i64 rb, .int .i64 rc, .slice sa ss.length cap] 36)
  have k0 : (w.alloc (.cells #[.int .i64 ki, .int .i64 ra, .int .i64 rb, .int .i64 rc, .slice sa ss.length cap] 36)).cell? ⟨w.heap.size, 0, none⟩ = some (.int .i64 ki) := cells_at q0 0 _ rfl
  have k1 : (w.alloc (.cells #[.int .i64 ki, .int .i64 ra, .int .i64 rb, .int .i64 rc, .slice sa ss.length cap] 36)).cell? ⟨w.heap.size, 1, none⟩ = some (.int .i64 ra) := cells_at q0 1 _ rfl
  have k2 : (w.alloc (.cells #[.int .i64 ki, .int .i64 ra, .int .i64 rb, .int .i64 rc, .slice sa ss.length cap] 36)).cell? ⟨w.heap.size, 2, none⟩ = some (.int .i64 rb) := cells_at q0 2 _ rfl
  have k3 : (w.alloc (.cells #[.int .i64 ki, .int .i64 ra, .int .i64 rb, .int .i64 rc, .slice sa ss.length cap] 36)).cell? ⟨w.heap.size, 3, none⟩ = some (.int .i64 rc) := cells_at q0 3 _ rfl
  have k4 : (w.alloc (.cells #[.int .i64 ki, .int .i64 ra, .int .i64 rb, .int .i64 rc, .slice sa ss.length cap] 36)).cell? ⟨w.heap.size, 4, none⟩ = some (.slice sa ss.length cap) := cells_at q0 4 _ rfl
  go_enter Tryd.func6, Tryd.ntmps6
  go_upto_region 1 with (fail)
  go_cut [5] (fun v wx => ∃ b ba bc bl pa pc pl va vc, v = .pointer (some ⟨b, 0, none⟩) ∧ CertC w wx b ra rb rc ba bc bl pa pc pl va vc)
  case first =>
    go_region_held3 (fun w' => w'.cell? ⟨w.heap.size, 0, none⟩ = some (.int .i64 ki) ∧ w'.cell? ⟨w.heap.size, 1, none⟩ = some (.int .i64 ra) ∧ w'.cell? ⟨w.heap.size, 2, none⟩ = some (.int .i64 rb) ∧ w'.cell? ⟨w.heap.size, 3, none⟩ = some (.int .i64 rc) ∧ w'.cell? ⟨w.heap.size, 4, none⟩ = some (.slice sa ss.length cap)) (go_keep) (first | (go_at_call 12; refine (HB.out _).mono ?_; rintro e w1 ⟨ba, bc, bl, pa, pc, pl, rfl, hLb, hLp, hOb, hOp, hbs, hps, hb1, hFb, hFp⟩; have HBS : Hid _ := hbs; have HPS : Hid _ := hps; clear hbs hps; have hN1 : w.heap.size < w1.heap.size := Nat.lt_of_lt_of_le (by simp; try omega) hb1.size; have hN1' : ¬ w.heap.size = w1.heap.size := Nat.ne_of_lt hN1; have hN1'' : ¬ w1.heap.size = w.heap.size := Nat.ne_of_gt hN1; first | (have r1 := row_new (below_drew hb1); have t0 := row_new (below_alloc (below_drew hb1)); rw [size_alloc] at r1; have c3 : w1.cell? ⟨w.heap.size, 3, none⟩ = some (.int .i64 rc) := cells_at t0 3 _ rfl; have c0 : w1.cell? ⟨w.heap.size, 0, none⟩ = some (.int .i64 ki) := cells_at t0 0 _ rfl; have c1 : w1.cell? ⟨w.heap.size, 1, none⟩ = some (.int .i64 ra) := cells_at t0 1 _ rfl; have c2 : w1.cell? ⟨w.heap.size, 2, none⟩ = some (.int .i64 rb) := cells_at t0 2 _ rfl; have c4 : w1.cell? ⟨w.heap.size, 4, none⟩ = some (.slice sa ss.length cap) := cells_at t0 4 _ rfl) | (have t0 := row_new (below_drew hb1); have c3 : w1.cell? ⟨w.heap.size, 3, none⟩ = some (.int .i64 rc) := cells_at t0 3 _ rfl; have c0 : w1.cell? ⟨w.heap.size, 0, none⟩ = some (.int .i64 ki) := cells_at t0 0 _ rfl; have c1 : w1.cell? ⟨w.heap.size, 1, none⟩ = some (.int .i64 ra) := cells_at t0 1 _ rfl; have c2 : w1.cell? ⟨w.heap.size, 2, none⟩ = some (.int .i64 rb) := cells_at t0 2 _ rfl; have c4 : w1.cell? ⟨w.heap.size, 4, none⟩ = some (.slice sa ss.length cap) := cells_at t0 4 _ rfl)) | (go_at_call 13; refine (HV.out _).mono ?_; rintro e w2 ⟨vv, rfl, ho2, hb2⟩; obtain ⟨va, vc, hvv⟩ := owns_shape ho2; subst hvv; have hN2 : w.heap.size < w2.heap.size := Nat.lt_of_lt_of_le hN1 (Nat.le_trans (by simp) hb2.size); first | (have r2 := row_new hb2; have u0 := ((below_alloc hb2).block _ (lt_of_heap t0)).trans t0; have d0 : w2.cell? ⟨w.heap.size, 0, none⟩ = some (.int .i64 ki) := cells_at u0 0 _ rfl; have d1 : w2.cell? ⟨w.heap.size, 1, none⟩ = some (.int .i64 ra) := cells_at u0 1 _ rfl; have d2 : w2.cell? ⟨w.heap.size, 2, none⟩ = some (.int .i64 rb) := cells_at u0 2 _ rfl; have d3 : w2.cell? ⟨w.heap.size, 3, none⟩ = some (.int .i64 rc) := cells_at u0 3 _ rfl; have d4 : w2.cell? ⟨w.heap.size, 4, none⟩ = some (.slice sa ss.length cap) := cells_at u0 4 _ rfl; have z0 : w2.cell? ⟨w1.heap.size, 0, none⟩ = some (.int .i64 0) := cells_at r2 0 _ rfl; have f0 := frozen_at r2 0; have z1 : w2.cell? ⟨w1.heap.size, 1, none⟩ = some (.int .i64 0) := cells_at r2 1 _ rfl; have f1 := frozen_at r2 1; have z2 : w2.cell? ⟨w1.heap.size, 2, none⟩ = some (.slice none 0 0) := cells_at r2 2 _ rfl; have f2 := frozen_at r2 2; have z3 : w2.cell? ⟨w1.heap.size, 3, none⟩ = some (.slice none 0 0) := cells_at r2 3 _ rfl; have f3 := frozen_at r2 3; have z4 : w2.cell? ⟨w1.heap.size, 4, none⟩ = some (.slice none 0 0) := cells_at r2 4 _ rfl; have f4 := frozen_at r2 4) | (have r2 := (hb2.block _ (lt_of_heap r1)).trans r1; have u0 := (hb2.block _ (lt_of_heap t0)).trans t0; have d0 : w2.cell? ⟨w.heap.size, 0, none⟩ = some (.int .i64 ki) := cells_at u0 0 _ rfl; have d1 : w2.cell? ⟨w.heap.size, 1, none⟩ = some (.int .i64 ra) := cells_at u0 1 _ rfl; have d2 : w2.cell? ⟨w.heap.size, 2, none⟩ = some (.int .i64 rb) := cells_at u0 2 _ rfl; have d3 : w2.cell? ⟨w.heap.size, 3, none⟩ = some (.int .i64 rc) := cells_at u0 3 _ rfl; have d4 : w2.cell? ⟨w.heap.size, 4, none⟩ = some (.slice sa ss.length cap) := cells_at u0 4 _ rfl; have z0 : w2.cell? ⟨w.heap.size + 1, 0, none⟩ = some (.int .i64 0) := cells_at r2 0 _ rfl; have f0 := frozen_at r2 0; have z1 : w2.cell? ⟨w.heap.size + 1, 1, none⟩ = some (.int .i64 0) := cells_at r2 1 _ rfl; have f1 := frozen_at r2 1; have z2 : w2.cell? ⟨w.heap.size + 1, 2, none⟩ = some (.slice none 0 0) := cells_at r2 2 _ rfl; have f2 := frozen_at r2 2; have z3 : w2.cell? ⟨w.heap.size + 1, 3, none⟩ = some (.slice none 0 0) := cells_at r2 3 _ rfl; have f3 := frozen_at r2 3; have z4 : w2.cell? ⟨w.heap.size + 1, 4, none⟩ = some (.slice none 0 0) := cells_at r2 4 _ rfl; have f4 := frozen_at r2 4) | (have u0 := (hb2.block _ (lt_of_heap t0)).trans t0; have d0 : w2.cell? ⟨w.heap.size, 0, none⟩ = some (.int .i64 ki) := cells_at u0 0 _ rfl; have d1 : w2.cell? ⟨w.heap.size, 1, none⟩ = some (.int .i64 ra) := cells_at u0 1 _ rfl; have d2 : w2.cell? ⟨w.heap.size, 2, none⟩ = some (.int .i64 rb) := cells_at u0 2 _ rfl; have d3 : w2.cell? ⟨w.heap.size, 3, none⟩ = some (.int .i64 rc) := cells_at u0 3 _ rfl; have d4 : w2.cell? ⟨w.heap.size, 4, none⟩ = some (.slice sa ss.length cap) := cells_at u0 4 _ rfl)))
    all_goals
      go_wp2_with fail
      go_meet
      case rel =>
        have hB1 := below_drew hb1
        first
          | (have hg := r1; refine ⟨_, ba, bc, bl, pa, pc, pl, va, vc, rfl, ?_⟩; exact certC_first (below_alloc (below_alloc hB1)) (by have := hB1.size; rw [size_alloc, size_alloc] at this; exact this) hLb hLp hOb hOp HBS.out HPS.out (by have h := hFb; rw [heap_drew, size_alloc, size_alloc] at h; exact h) (by have h := hFp; rw [heap_drew, size_alloc, size_alloc] at h; exact h) hb2 ho2 r2)
          | (have hg := r2; refine ⟨_, ba, bc, bl, pa, pc, pl, va, vc, rfl, ?_⟩; exact certC_mid (below_alloc hB1) hN1 hLb hLp hOb hOp HBS.out HPS.out hb2 ho2)
          | (refine ⟨_, ba, bc, bl, pa, pc, pl, va, vc, rfl, ?_⟩; exact certC_last (below_alloc hB1) hN1 hLb hLp hOb hOp HBS.out HPS.out hb2 ho2)
  case rest =>
    obtain ⟨b, ba, bc, bl, pa, pc, pl, va, vc, rfl, H⟩ := hcut
    clear k0 k1 k2 k3 k4 q0 HB HV
    have hF := headerF_raw ra rb rc bl pl H.ebs H.eps
    have HF : Hid (headerF (pk ra 4) (1 + pk rb 9) bl pl = 0) := hF
    clear hF
    have hbox := H.box
    have hat := H.hat
    have hawb := H.awb
    have hawp := H.awp
    have hvne := H.vne
    have hlow := H.low
    have HB := H.below
    have hvi : IntsAt wc va (votersL rc) ∧ (votersL rc).length ≤ vc := by
      have hown := H.own
      rcases hown.2 with ⟨e, hn⟩ | ⟨g, cap', cur, e, hr⟩
      · obtain ⟨x0, x1, x2, xs, hVL, _⟩ := votersL_form rc
        rw [hVL] at hn; simp at hn
      · obtain ⟨_, _, e9, _, hI, _⟩ := intsAt_of_owns hown
        cases e9
        cases e
        exact ⟨hI, hr.2.2.1⟩
    obtain ⟨hvi, hvc⟩ := hvi
    clear H
    obtain ⟨pw0, pw1⟩ := pk_bounds wh 5 (by decide)
    obtain ⟨hv10, hv2⟩ := votersF_two rc
    obtain ⟨x0, x1, x2, xs, hVL, _, _, _, _, _, hV4⟩ := votersL_form rc
    have hv3 : 3 ≤ (votersL rc).length := by rw [hVL]; simp
    clear hVL
    have HV10 : Hid (votersF ((votersL rc).take 2) = 10) := hv10
    have HV2 : Hid (((votersL rc).take 2).length = 2) := hv2
    clear hv10 hv2
    have hvcap : 2 ≤ vc := by omega
    generalize votersL rc = VL at *
    generalize pk ra 4 = au at *
    generalize 1 + pk rb 9 = rd at *
    go_wp2_with fail
    refine (picked_any wh 5 wc h60 h61 (by decide) (by decide)).mono ?_
    rintro e wq ⟨he, hwq⟩
    subst he hwq
    dsimp only
    generalize pk wh 5 = kk at *
    have hwk : IntKind.i64.wrap (kk - 1) = kk - 1 := by rw [IntKind.wrap_i64]; omega
    have hA1 := (Below.refl wc.heap.size wc).alloc (Nat.le_refl _) (.cells #[.int .i64 0, .int .i64 1, .int .i64 2, .int .i64 3] 3)
    have qn := heap_alloc_new wc (.cells #[.int .i64 0, .int .i64 1, .int .i64 2, .int .i64 3] 3)
    have kb := heap_keep (o := .cells #[.int .i64 0, .int .i64 1, .int .i64 2, .int .i64 3] 3) hbox
    have kb0 := cells_at kb 0 _ rfl
    have kb1 := cells_at kb 1 _ rfl
    have kb2 := cells_at kb 2 _ rfl
    have kb3 := cells_at kb 3 _ rfl
    have kb4 := cells_at kb 4 _ rfl
    have hbox_c0 := cells_at hbox 0 _ rfl
    have hbox_c1 := cells_at hbox 1 _ rfl
    have hbox_c2 := cells_at hbox 2 _ rfl
    have hbox_c3 := cells_at hbox 3 _ rfl
    have hbox_c4 := cells_at hbox 4 _ rfl
    go_wp2_with fail
    clear hbox_c0 hbox_c1 hbox_c2 hbox_c3 hbox_c4
    clear kb0 kb1 kb2 kb3 kb4 kb
    generalize hG : wc.alloc (.cells #[.int .i64 0, .int .i64 1, .int .i64 2, .int .i64 3] 3) = wa at hA1 qn ⊢
    clear hG
    replace hbox := (hA1.block _ (lt_of_heap hbox)).trans hbox
    replace hat := hat.below hA1
    replace hvi := hvi.below hA1
    replace HB := HB.trans (hA1.mono HB.size)
    generalize hNB : wc.heap.size = NB at qn ⊢
    clear hNB
    refine (signedBy_any au rd ba bc bl pa pc pl (some ⟨NB, 0, none⟩) 4 4 [0, 1, 2, 3] wa rfl hat HF.out (IntsAt.lit qn) (by decide) (by decide) (hT.below HB)).mono ?_
    rintro e w1 ⟨ra', rc', ks, he, hks, hG, hb1⟩
    subst he
    dsimp only
    replace hbox := (hb1.block _ (lt_of_heap hbox)).trans hbox
    replace hat := hat.below hb1
    replace hvi := hvi.below hb1
    replace qn := (hb1.block _ (lt_of_heap qn)).trans qn
    replace HB := HB.trans (hb1.mono HB.size)
    have HO : Hid (signsF (gvs ks) = 0) := by show _ = _; rw [hks]; exact sgL_ok HF.out (by decide)
    clear hks
    have hbox_c0 := cells_at hbox 0 _ rfl
    have hbox_c1 := cells_at hbox 1 _ rfl
    have hbox_c2 := cells_at hbox 2 _ rfl
    have hbox_c3 := cells_at hbox 3 _ rfl
    have hbox_c4 := cells_at hbox 4 _ rfl
    have fb4 := frozen_at hbox 4
    have hsl : ¬ (2 : Int) > vc := by omega
    have hslI : (2 : Int) ≤ vc := by omega
    have hset : (w1.setCell ⟨b, 4, none⟩ (.slice va 2 vc)).heap[b]? = some (.cells #[.int .i64 au, .int .i64 rd, .slice ba bl.length bc, .slice pa pl.length pc, .slice va 2 vc] 28 (0, 0)) := by simpa using heap_setCell_same _ _ 4 _ _ _ hbox
    have hset3 := heap_keep (o := .cells #[.int .i64 9, .int .i64 rd, .slice ba bl.length bc, .slice pa pl.length pc, .slice va 2 vc] 28) hset
    have s3_0 := cells_at hset3 0 _ rfl
    have s3_1 := cells_at hset3 1 _ rfl
    have s3_2 := cells_at hset3 2 _ rfl
    have s3_3 := cells_at hset3 3 _ rfl
    have s3_4 := cells_at hset3 4 _ rfl
    have hG3 := gtab_cert hG hbox 4 (.slice va 2 vc)
    have hat3 := hat.away hawb hawp 4 (.slice va 2 vc)
    have hvi3 := hvi.away hvne 4 (.slice va 2 vc)
    have hB3 := HB.setCell (p := ⟨b, 4, none⟩) (Nat.le_of_lt hlow) (.slice va 2 vc)
    have hAd : Below (w1.setCell ⟨b, 4, none⟩ (.slice va 2 vc)).heap.size (w1.setCell ⟨b, 4, none⟩ (.slice va 2 vc)) ((w1.setCell ⟨b, 4, none⟩ (.slice va 2 vc)).alloc (.cells #[.int .i64 9, .int .i64 rd, .slice ba bl.length bc, .slice pa pl.length pc, .slice va 2 vc] 28)) := (Below.refl _ _).alloc (Nat.le_refl _) _
    have qd := heap_alloc_new (w1.setCell ⟨b, 4, none⟩ (.slice va 2 vc)) (.cells #[.int .i64 9, .int .i64 rd, .slice ba bl.length bc, .slice pa pl.length pc, .slice va 2 vc] 28)
    replace hG3 := hG3.below hAd
    replace hat3 := hat3.below hAd
    replace hvi3 := hvi3.below hAd
    replace hB3 := hB3.trans (hAd.mono hB3.size)
    go_wp2_with fail
    clear s3_0 s3_1 s3_2 s3_3 s3_4 hbox_c0 hbox_c1 hbox_c2 hbox_c3 hbox_c4 fb4
    have hszS : (w1.setCell ⟨b, 4, none⟩ (.slice va 2 vc)).heap.size = w1.heap.size := by simp
    rw [hszS] at qd
    generalize hW3 : (w1.setCell ⟨b, 4, none⟩ (.slice va 2 vc)).alloc (.cells #[.int .i64 9, .int .i64 rd, .slice ba bl.length bc, .slice pa pl.length pc, .slice va 2 vc] 28) = W3 at *
    clear hset hW3 hAd
    generalize hDB : w1.heap.size = DB at qd ⊢
    clear hDB
    have HS : Hid (∀ bd, (-1 ≤ bd ∧ bd ≤ 3) → setF (gvs ks) bd = 0) := by show ∀ bd, _; intro bd h; exact setF_ok HO.out h
    have P1 : provF (gvs ks) (kk - 1) au rd (certF au rd bl pl (VL.take 2)) (hDig au rd bl pl) (VL.take 2) = 10 := by
      have hc : certF au rd bl pl (VL.take 2) = 10 := by rw [certF, if_neg (by simpa using HF.out), if_neg (by rw [HV2.out]; decide), HV10.out]
      rw [provF, if_neg (by simpa using HS.out (kk - 1) (by omega)), if_pos (by rw [hc]; decide), hc]
    have P2 : provF (gvs ks) (kk - 1) 9 rd (certF 9 rd bl pl (VL.take 2)) (hDig 9 rd bl pl) (VL.take 2) = 2 := by
      have hh : headerF 9 rd bl pl = 2 := by rw [headerF, if_pos (.inl (by decide))]
      have hc : certF 9 rd bl pl (VL.take 2) = 2 := by rw [certF, if_pos (by rw [hh]; decide), hh]
      rw [provF, if_neg (by simpa using HS.out (kk - 1) (by omega)), if_pos (by rw [hc]; decide), hc]
    have P3 : provF (gvs ks) 4 au rd (certF au rd bl pl (VL.take 2)) (hDig au rd bl pl) (VL.take 2) = 2 := by
      have hs : setF (gvs ks) 4 = 2 := setF_range HO.out (by decide)
      rw [provF, if_pos (by rw [hs]; decide), hs]
    have C := fun (bd a : Int) W (hW : Below W3.heap.size W3 W) => proven_any ks ra' _ rc' bd a rd ba bc bl pa pc pl va vc (VL.take 2) W rfl hG3.small (hG3.slots.below hW) (hat3.below hW) ((hvi3.below hW).take 2) (by rw [HV2.out]; decide) (hT.below (hB3.trans (hW.mono hB3.size)))
    rw [HV2.out] at C
    have C1 := C (kk - 1) au
    rw [P1] at C1
    have C2 := C (kk - 1) 9
    rw [P2] at C2
    have C3 := C 4 au
    rw [P3] at C3
    clear C P1 P2 P3 HS HV10 HV2
    have HX := Below.refl W3.heap.size W3
    refine (C1 _ HX).mono ?_
    rintro e w4 ⟨he, hbx⟩
    subst he
    dsimp only
    replace HX := HX.trans (hbx.mono HX.size)
    clear hbx
    have qd4 := (HX.block _ (lt_of_heap qd)).trans qd
    have d4_0 := cells_at qd4 0 _ rfl
    have d4_1 := cells_at qd4 1 _ rfl
    have d4_2 := cells_at qd4 2 _ rfl
    have d4_3 := cells_at qd4 3 _ rfl
    have d4_4 := cells_at qd4 4 _ rfl
    go_wp2_with fail
    refine (C2 _ HX).mono ?_
    rintro e w5 ⟨he, hbx⟩
    subst he
    dsimp only
    clear d4_0 d4_1 d4_2 d4_3 d4_4
    replace HX := HX.trans (hbx.mono HX.size)
    clear hbx
    have qb5 := (HX.block _ (lt_of_heap hset3)).trans hset3
    have b5_0 := cells_at qb5 0 _ rfl
    have b5_1 := cells_at qb5 1 _ rfl
    have b5_2 := cells_at qb5 2 _ rfl
    have b5_3 := cells_at qb5 3 _ rfl
    have b5_4 := cells_at qb5 4 _ rfl
    go_wp2_with fail
    refine (C3 _ HX).mono ?_
    rintro e w6 ⟨he, hbx⟩
    subst he
    dsimp only
    replace HX := HX.trans (hbx.mono HX.size)
    go_wp2_with fail
    go_ret
    exact ⟨by first | rfl | simp, hB3.trans (HX.mono hB3.size)⟩
end Go.Proofs.YtmpflkggbekpfaaDoor

namespace Go.Proofs.YtmpflkggbekpfaaDoor
open Go.RowKit

set_option maxRecDepth 100000 in
/-- An array of arrays of integers that reads as a table of rows holds the rows' numbers, cell for cell. -/
theorem cells_of_tab2 {H : Type} {enc : TypeId × Value → H} {P : Program} {w : World} {base : Nat} {sp : Nat → Bool} {held : Bool} {fuel : Nat} {t e i : TypeId} {n m : Nat} {k : IntKind} {cs : List Value} {rows : List (List Int)} {p : List MemPlace}
    (ht : P.underlying t = some (.array n e)) (he : P.underlying e = some (.array m i)) (hi : P.underlying i = some (.int k)) (hci : P.cellsOf i = 1) (hce : P.cellsOf e = m) (hm : 0 < m)
    (h : DataW.trod enc P w base sp held fuel t cs = some (.agg (rows.map (Lib.tabData k)), p)) (q : Nat) (hq : q < n * m) : cs[q]? = ((rows.getD (q / m) []).map (Value.int k))[q % m]? := by
  obtain ⟨xs, f, rfl, hx, hl, hn, hr⟩ := DataW.trod_array ht h
  have hin : q / m < n := Nat.div_lt_of_lt_mul (by rw [Nat.mul_comm]; exact hq)
  have hrow := hr (q / m) hin
  have hxs : xs.map (·.1) = rows.map (Lib.tabData k) := by
    have := congrArg Prod.fst hx
    simpa using this.symm
  have hg : (xs.map (·.1))[q / m]? = some (xs[q / m]'(by omega)).1 := by simp [hn, hin]
  rw [hxs] at hg
  simp only [List.getElem?_map, Option.map_eq_some_iff] at hg
  obtain ⟨r, hr1, hr2⟩ := hg
  rw [List.getElem?_eq_getElem (by omega), hce] at hrow
  have hrow' : DataW.trod enc P w base sp held f e ((cs.drop (q / m * m)).take m) = some (Lib.tabData k r, (xs[q / m]'(by omega)).2) := by
    rw [hrow, hr2]
  have hc := Lib.cells_of_tab he hi hci hce hrow'
  have hj : q % m < m := Nat.mod_lt _ hm
  have e1 : ((cs.drop (q / m * m)).take m)[q % m]? = cs[q]? := by
    rw [List.getElem?_take, if_pos hj, List.getElem?_drop, Nat.mul_comm, Nat.div_add_mod]
  rw [← e1, hc]
  simp [List.getD, hr1]

set_option maxRecDepth 100000 in
theorem tFirst : (Tryd.prog.globals[0]?).map (·.type) = some 97 := by kernel_rfl
set_option maxRecDepth 100000 in
theorem tOrders : (Tryd.prog.globals[1]?).map (·.type) = some 110 := by kernel_rfl
set_option maxRecDepth 100000 in
theorem tLanes : (Tryd.prog.globals[2]?).map (·.type) = some 112 := by kernel_rfl
set_option maxRecDepth 100000 in
theorem cU32 : Tryd.prog.cellsOf 96 = 1 := by kernel_rfl
set_option maxRecDepth 100000 in
theorem c8U32 : Tryd.prog.cellsOf 97 = 8 := by kernel_rfl
set_option maxRecDepth 100000 in
theorem c16U8 : Tryd.prog.cellsOf 109 = 16 := by kernel_rfl
set_option maxRecDepth 100000 in
theorem c4U8 : Tryd.prog.cellsOf 111 = 4 := by kernel_rfl
def ordRows : List (List Int) := [[0, 1, 2, 3, 4, 5, 6, 7, 8, 9, 10, 11, 12, 13, 14, 15], [14, 10, 4, 8, 9, 15, 13, 6, 1, 12, 0, 2, 11, 7, 5, 3], [11, 8, 12, 0, 5, 2, 15, 13, 10, 14, 3, 6, 7, 1, 9, 4], [7, 9, 3, 1, 13, 12, 11, 14, 2, 6, 5, 10, 4, 0, 15, 8], [9, 0, 5, 7, 2, 4, 10, 15, 14, 1, 11, 12, 6, 8, 3, 13], [2, 12, 6, 10, 0, 11, 8, 3, 4, 13, 7, 5, 15, 14, 1, 9], [12, 5, 1, 15, 14, 13, 4, 10, 0, 7, 6, 3, 9, 2, 8, 11], [13, 11, 7, 14, 12, 1, 3, 9, 5, 0, 15, 4, 8, 6, 2, 10], [6, 15, 14, 9, 11, 3, 0, 8, 12, 2, 13, 7, 1, 4, 10, 5], [10, 2, 8, 4, 7, 6, 1, 5, 15, 11, 9, 14, 3, 12, 13, 0]]
def laneRows : List (List Int) := [[0, 4, 8, 12], [1, 5, 9, 13], [2, 6, 10, 14], [3, 7, 11, 15], [0, 5, 10, 15], [1, 6, 11, 12], [2, 7, 8, 13], [3, 4, 9, 14]]
set_option maxRecDepth 100000 in
theorem ordRows_flat : ∀ q, q < 160 → (ordRows.getD (q / 16) [])[q % 16]? = some ((ordF.getD q 0 : Nat) : Int) := by decide +kernel
set_option maxRecDepth 100000 in
theorem laneRows_flat : ∀ q, q < 32 → (laneRows.getD (q / 4) [])[q % 4]? = some ((laneF.getD q 0 : Nat) : Int) := by decide +kernel
set_option maxRecDepth 100000 in
theorem dFirst : Rows.laid_sheaves_blake_firstWords (H := Unit) = Lib.tabData .u32 fw := rfl
set_option maxRecDepth 100000 in
theorem dOrders : Rows.laid_sheaves_blake_orders (H := Unit) = .agg (ordRows.map (Lib.tabData .u8)) := rfl
set_option maxRecDepth 100000 in
theorem dLanes : Rows.laid_sheaves_blake_lanes (H := Unit) = .agg (laneRows.map (Lib.tabData .u8)) := rfl

set_option maxRecDepth 100000 in
theorem tabs_of_laid {W : World} {n1 n2 n3 : String} (gFirst : Tryd.prog.globalNamed n1 = some 0) (gOrders : Tryd.prog.globalNamed n2 = some 1) (gLanes : Tryd.prog.globalNamed n3 = some 2)
    (h : laidMetH Tryd.prog [(n1, Rows.laid_sheaves_blake_firstWords), (n2, Rows.laid_sheaves_blake_orders), (n3, Rows.laid_sheaves_blake_lanes)] W) : Tabs W := by
  have h1 : laidMet Tryd.prog [(n1, Rows.laid_sheaves_blake_firstWords), (n2, Rows.laid_sheaves_blake_orders), (n3, Rows.laid_sheaves_blake_lanes)] W := h
  clear h
  have h2 := h1.tail
  have h3 := h2.tail
  rw [dFirst] at h1
  rw [dOrders] at h2
  rw [dLanes] at h3
  have t1 := Lib.tabIs_of_head gFirst tFirst Tryd.underlying97 Tryd.underlying96 cU32 c8U32 h1
  refine ⟨fun i hi => t1.cell gFirst i hi, fun i hi => ?_, fun i hi => ?_⟩
  · obtain ⟨ps, ⟨g', t', cs, fuel, p, q, hg', ht', hvar, hd, _, _⟩, _⟩ := h2
    obtain rfl := Option.some.inj (gOrders.symm.trans hg')
    obtain rfl := Option.some.inj (tOrders.symm.trans ht')
    have hc := World.var?_cell gOrders hvar i
    have he := cells_of_tab2 Tryd.underlying110 Tryd.underlying109 Tryd.underlying5 cU8 c16U8 (by decide) hd i hi
    rw [hc]
    have := ordRows_flat i hi
    simp only [List.getElem?_map, this, Option.map_some] at he
    simpa using he
  · obtain ⟨ps, ⟨g', t', cs, fuel, p, q, hg', ht', hvar, hd, _, _⟩, _⟩ := h3
    obtain rfl := Option.some.inj (gLanes.symm.trans hg')
    obtain rfl := Option.some.inj (tLanes.symm.trans ht')
    have hc := World.var?_cell gLanes hvar i
    have he := cells_of_tab2 Tryd.underlying112 Tryd.underlying111 Tryd.underlying5 cU8 c4U8 (by decide) hd i hi
    rw [hc]
    have := laneRows_flat i hi
    simp only [List.getElem?_map, this, Option.map_some] at he
    simpa using he
end Go.Proofs.YtmpflkggbekpfaaDoor

namespace Go.Proofs.YtmpflkggbekpfaaDoor
open Go.ChangeShapes Go.WideShapes Go.ChangeAt Go.RowKit

/-- What the initialisers of the three tables lay, in the first blocks. -/
def layBlock (c : Array Value) : Obj → Obj
  | .cells _ t frozen => .cells c t frozen
  | o => o
def layTabs (w : World) : World :=
  { w with heap := ((w.heap.modify 0 (layBlock (ua fw))).modify 1 (layBlock (ub (ordF.map Int.ofNat)).toArray)).modify 2 (layBlock (ub (laneF.map Int.ofNat)).toArray) }
end Go.Proofs.YtmpflkggbekpfaaDoor
