/- The walk of ProvenJust. -/
import Derived.Test.YtmpflkggbekpfaaDoorPK
import Derived.Test.YtmpflkggbekpfaaDoorOpenB
import Derived.Deep.Strs
import Derived.Test.YtmpflkggbekpfaaDoorProvenJustM18
import Derived.Test.YtmpflkggbekpfaaDoorCalls
import Derived.Test.YtmpflkggbekpfaaDoorProvenJustM12
namespace Go.Proofs.YtmpflkggbekpfaaDoor
open Go.RowKit

/-- The texts of a slice. -/
structure StrsAt (w : World) (sa : Option Addr) (ss : List ByteArray) : Prop where
  cells : ss = [] ∨ ∃ sb so, sa = some ⟨sb, so, none⟩ ∧ ∀ j, j < ss.length → w.cell? ⟨sb, so + j, none⟩ = some (.string (ss.getD j ByteArray.empty))
  size : ∀ s ∈ ss, s.size ≤ maxLen
set_option maxRecDepth 100000 in
theorem StrsAt.below {w w' : World} {sa : Option Addr} {ss : List ByteArray} (h : StrsAt w sa ss) (hb : Below w.heap.size w w') : StrsAt w' sa ss := by
  refine ⟨?_, h.size⟩
  rcases h.cells with h | ⟨sb, so, rfl, hc⟩
  · exact .inl h
  · exact .inr ⟨sb, so, rfl, fun j hj => (hb.cell (p := ⟨sb, so + j, none⟩) (block_lt_of_cell (hc j hj))).trans (hc j hj)⟩
end Go.Proofs.YtmpflkggbekpfaaDoor

namespace Go.Proofs.YtmpflkggbekpfaaDoor
open Go.ChangeShapes Go.WideShapes Go.ChangeAt Go.RowKit Go.Deep

/-- What is read of a slice of texts that came in. -/
structure TextsAt (w : World) (sa : Option Addr) (cap : Nat) (ss : List ByteArray) : Prop where
  le : ss.length ≤ cap
  reach : cap * 16 ≤ 140737488351232
  nil : sa = none → cap = 0
  strs : StrsAt w sa ss
set_option maxRecDepth 100000 in
theorem TextsAt.below {w w' : World} {sa : Option Addr} {cap : Nat} {ss : List ByteArray} (h : TextsAt w sa cap ss) (hb : Below w.heap.size w w') : TextsAt w' sa cap ss := ⟨h.le, h.reach, h.nil, h.strs.below hb⟩

set_option maxRecDepth 100000 in
theorem cStr : Tryd.prog.cellsOf 9 = 1 := by kernel_rfl
set_option maxRecDepth 100000 in
theorem bStr : Tryd.prog.bytesOf 9 = 16 := by kernel_rfl
set_option maxRecDepth 100000 in
theorem open_texts_cells {H : Type} {enc : TypeId × Value → H} {W : World} {fuel : Nat} {cs : List Value} {x : DataW H × List MemPlace}
    (hf : DataW.trod enc Tryd.prog W 0 (fun _ => true) true fuel 34 cs = some x) (hfit : ∀ n ∈ x.1.weights Tryd.prog 34, n ≤ reachBytes) :
    ∃ sa cap ss, cs = [.slice sa (List.length ss) cap] ∧ TextsAt W sa cap ss := by
  rcases open_strs Tryd.underlying34 Tryd.underlying9 cStr hf with ⟨rfl, _⟩ | ⟨a, len, cap, m, Sx, rfl, _, hl, hm, hmm, rfl, hc⟩
  · exact ⟨none, 0, [], rfl, ⟨Nat.le_refl _, by decide, fun _ => rfl, ⟨.inl rfl, fun s hs => by cases hs⟩⟩⟩
  · simp only [if_true] at hmm
    subst hmm
    have hw := hfit ((((List.range len).map fun i => (DataW.lit (.string (Sx i).data.toList) : DataW H)).length + ((List.range (m - len)).map fun j => (DataW.lit (.string (Sx (len + j)).data.toList) : DataW H)).length) * Tryd.prog.bytesOf 9) (by simp [DataW.weights, Tryd.underlying34])
    rw [bStr] at hw
    simp [reachBytes] at hw
    refine ⟨some a, m, (List.range len).map Sx, by simp, ⟨by simpa using hl, by omega, (fun e => by cases e), ⟨?_, ?_⟩⟩⟩
    · rcases Nat.eq_zero_or_pos len with h0 | h0
      · subst h0; exact .inl rfl
      · right
        have h9 := (hc 0 (by omega)).1
        obtain ⟨b, off, rfl⟩ : ∃ b off, a = ⟨b, off, none⟩ := by
          cases a with
          | mk b off spot =>
            cases spot with
            | none => exact ⟨b, off, rfl⟩
            | some s => simp [World.cell?, Addr.add] at h9; split at h9 <;> cases h9
        refine ⟨b, off, rfl, fun j hj => ?_⟩
        have hj' : j < len := by simpa using hj
        have := (hc j (by omega)).1
        rw [add_off] at this
        rw [this]
        simp [hj']
    · intro s hs
      simp at hs
      obtain ⟨j, hj, rfl⟩ := hs
      exact (hc j (by omega)).2
end Go.Proofs.YtmpflkggbekpfaaDoor

namespace Go.Proofs.YtmpflkggbekpfaaDoor
open Go.ChangeShapes Go.WideShapes Go.ChangeAt Go.RowKit Go.Deep

set_option maxRecDepth 100000 in
theorem cRaw : Tryd.prog.cellsOf 36 = 5 := by kernel_rfl
set_option maxRecDepth 100000 in
theorem cIntR : Tryd.prog.cellsOf 3 = 1 := by kernel_rfl
set_option maxRecDepth 100000 in
theorem cStrsR : Tryd.prog.cellsOf 34 = 1 := by kernel_rfl
set_option maxRecDepth 100000 in
theorem open_raw {H : Type} {enc : TypeId × Value → H} {W : World} {base : Nat} {v : Value} {d : DataW H} {p : List MemPlace}
    (hv : Value.okWide Tryd.prog W .any base 36 v) (h : DataW.Trod enc Tryd.prog W 0 (fun _ => true) true 36 v d p) (hfit : ∀ n ∈ d.weights Tryd.prog 36, n ≤ reachBytes) :
    ∃ ki ra rb rc sa cap ss, v = .agg #[.int .i64 ki, .int .i64 ra, .int .i64 rb, .int .i64 rc, .slice sa (List.length ss) cap] ∧ I64 ki ∧ I64 ra ∧ I64 rb ∧ I64 rc ∧ TextsAt W sa cap ss := by
  obtain ⟨cs, rfl, _⟩ := okWide_struct Tryd.underlying36 hv
  obtain ⟨fuel, hf⟩ := h
  obtain ⟨xs, n, _, hx, hl, hlen, hg⟩ := DataW.trod_struct Tryd.underlying36 hf
  rw [cRaw] at hl
  match xs, hlen with
  | [y0, y1, y2, y3, y4], _ =>
  have h0 := hg 0 _ rfl
  have h1 := hg 1 _ rfl
  have h2 := hg 2 _ rfl
  have h3 := hg 3 _ rfl
  have h4 := hg 4 _ rfl
  simp only [Prod.mk.injEq] at hx
  obtain ⟨rfl, rfl⟩ := hx
  obtain ⟨l⟩ := cs
  match l, hl with
  | [c0, c1, c2, c3, c4], _ =>
  obtain ⟨a0, e0, rfl, w0⟩ := DataW.trod_int Tryd.underlying3 h0
  obtain ⟨a1, e1, rfl, w1⟩ := DataW.trod_int Tryd.underlying3 h1
  obtain ⟨a2, e2, rfl, w2⟩ := DataW.trod_int Tryd.underlying3 h2
  obtain ⟨a3, e3, rfl, w3⟩ := DataW.trod_int Tryd.underlying3 h3
  obtain ⟨sa, cap, ss, e4, hs⟩ := open_texts_cells h4 (fun n hn => hfit n (by simp [DataW.weights, DataW.weightsEach, Tryd.underlying36, hn]))
  simp [cIntR, cStrsR, Value.cells] at e0 e1 e2 e3 e4
  subst e0 e1 e2 e3 e4
  exact ⟨a0, a1, a2, a3, sa, cap, ss, rfl, bounds_i64 w0, bounds_i64 w1, bounds_i64 w2, bounds_i64 w3, hs⟩
end Go.Proofs.YtmpflkggbekpfaaDoor

namespace Go.Proofs.YtmpflkggbekpfaaDoor
open Go.RowKit

set_option maxRecDepth 100000 in
theorem CertC.hat {w wx : World} {b : Nat} {ra rb rc : Int} {ba : Option Addr} {bc : Nat} {bl : List Part} {pa : Option Addr} {pc : Nat} {pl : List Part} {va : Option Addr} {vc : Nat} (H : CertC w wx b ra rb rc ba bc bl pa pc pl va vc) : HAt wx ba bc bl pa pc pl :=
  ⟨H.bat, H.par, fun sb so e => (H.offb.row sb so e).1, fun sb so e => (H.offp.row sb so e).1⟩
set_option maxRecDepth 100000 in
theorem HAt.away {w : World} {ba : Option Addr} {bc : Nat} {bl : List Part} {pa : Option Addr} {pc : Nat} {pl : List Part} {b : Nat} (h : HAt w ba bc bl pa pc pl) (h1 : Away b ba bl) (h2 : Away b pa pl) (j : Nat) (v : Value) : HAt (w.setCell ⟨b, j, none⟩ v) ba bc bl pa pc pl :=
  ⟨h.lb.away h1 j v, h.lp.away h2 j v, fun sb so e => by have := h.rb sb so e; simpa using this, fun sb so e => by have := h.rp sb so e; simpa using this⟩
set_option maxRecDepth 100000 in
theorem IntsAt.away {w : World} {va : Option Addr} {vl : List Int} {b : Nat} (h : IntsAt w va vl) (hn : ∀ sb so, va = some ⟨sb, so, none⟩ → sb ≠ b) (j : Nat) (v : Value) : IntsAt (w.setCell ⟨b, j, none⟩ v) va vl := by
  refine ⟨?_⟩
  rcases h.cells with h | ⟨sb, so, rfl, hc⟩
  · exact .inl h
  · exact .inr ⟨sb, so, rfl, fun k hk => (World.cell?_setCell_far _ _ _ _ (Ne.symm (hn sb so rfl))).trans (hc k hk)⟩
set_option maxRecDepth 100000 in
theorem IntsAt.take {w : World} {va : Option Addr} {vl : List Int} (h : IntsAt w va vl) (k : Nat) : IntsAt w va (vl.take k) := by
  refine ⟨?_⟩
  rcases h.cells with h | ⟨sb, so, rfl, hc⟩
  · left; rw [h]; simp
  · refine .inr ⟨sb, so, rfl, fun j hj => ?_⟩
    have hj2 : j < vl.length := by rw [List.length_take] at hj; omega
    have hj3 : j < k := by rw [List.length_take] at hj; omega
    rw [hc j hj2]
    simp [List.getD, hj3]
set_option maxRecDepth 100000 in
theorem IntsAt.lit {w : World} {b : Nat} {vl : List Int} (h : w.heap[b]? = some (.cells (iv vl).toArray 3 (0, 0))) : IntsAt w (some ⟨b, 0, none⟩) vl := by
  refine ⟨.inr ⟨b, 0, rfl, fun j hj => ?_⟩⟩
  rw [Nat.zero_add]
  refine cells_at h j _ ?_
  simp [iv, hj, List.getD]
set_option maxRecDepth 100000 in
/-- A store into a certificate's block leaves signs as they are. -/
theorem signs_cert {w : World} {sa : Option Addr} {ks : List Sg} (h : SignsAt w sa ks) {b : Nat} {x0 x1 : Int} {a2 a3 a4 : Option Addr} {n2 n3 n4 c2 c3 c4 : Nat} {T : TypeId} (hb : w.heap[b]? = some (.cells #[.int .i64 x0, .int .i64 x1, .slice a2 n2 c2, .slice a3 n3 c3, .slice a4 n4 c4] T (0, 0))) (j : Nat) (v : Value) : SignsAt (w.setCell ⟨b, j, none⟩ v) sa ks := by
  have hcell : ∀ i, w.cell? ⟨b, i, none⟩ = (#[.int .i64 x0, .int .i64 x1, .slice a2 n2 c2, .slice a3 n3 c3, .slice a4 n4 c4] : Array Value)[i]? := fun i => by simp [World.cell?, hb]
  refine ⟨?_, fun s hs => ⟨?_, (h.each s hs).2⟩⟩
  · rcases h.cells with h | ⟨sb, so, rfl, hc⟩
    · exact .inl h
    · refine .inr ⟨sb, so, rfl, fun k hk => ?_⟩
      obtain ⟨h0, h1, h2, h3⟩ := hc k hk
      have hne : b ≠ sb := by
        intro e
        subst e
        rw [hcell] at h2
        generalize so + k * 4 = o at h2
        match o, h2 with
        | 0, h2 => simp at h2
        | 1, h2 => simp at h2
        | 2, h2 => simp at h2
        | o + 3, h2 => simp at h2
      exact ⟨(World.cell?_setCell_far _ _ _ _ hne).trans h0, (World.cell?_setCell_far _ _ _ _ hne).trans h1, (World.cell?_setCell_far _ _ _ _ hne).trans h2, (World.cell?_setCell_far _ _ _ _ hne).trans h3⟩
  · have hs1 := (h.each s hs).1
    refine ⟨hs1.le, hs1.max, hs1.some, hs1.nil, ?_⟩
    rcases hs1.bytes with hc | ⟨sb, so, e, hc⟩
    · exact .inl hc
    · refine .inr ⟨sb, so, e, fun k hk => ?_⟩
      have h2 := hc k hk
      have hne : b ≠ sb := by
        intro e
        subst e
        rw [hcell] at h2
        generalize so + k = o at h2
        match o, h2 with
        | 0, h2 => simp at h2
        | 1, h2 => simp at h2
        | 2, h2 => simp at h2
        | 3, h2 => simp at h2
        | 4, h2 => simp at h2
        | o + 5, h2 => simp at h2
      exact (World.cell?_setCell_far _ _ _ _ hne).trans h2
set_option maxRecDepth 100000 in
theorem gtab_cert {w : World} {sa : Option Addr} {cap : Nat} {ks : List Sg} (h : GTab w sa cap ks) {b : Nat} {x0 x1 : Int} {a2 a3 a4 : Option Addr} {n2 n3 n4 c2 c3 c4 : Nat} {T : TypeId} (hb : w.heap[b]? = some (.cells #[.int .i64 x0, .int .i64 x1, .slice a2 n2 c2, .slice a3 n3 c3, .slice a4 n4 c4] T (0, 0))) (j : Nat) (v : Value) : GTab (w.setCell ⟨b, j, none⟩ v) sa cap ks :=
  ⟨h.le, h.max, h.small, h.some, signs_cert h.slots hb j v⟩
set_option maxRecDepth 100000 in
theorem votersF_two (rc : Int) : votersF ((votersL rc).take 2) = 10 ∧ ((votersL rc).take 2).length = 2 := by
  obtain ⟨p0, p1⟩ := pk_bounds rc 5 (by decide)
  unfold votersL
  generalize pk rc 5 = k at *
  have h : k = 0 ∨ k = 1 ∨ k = 2 ∨ k = 3 ∨ k = 4 := by omega
  rcases h with rfl | rfl | rfl | rfl | rfl <;> decide
end Go.Proofs.YtmpflkggbekpfaaDoor

namespace Go.Proofs.YtmpflkggbekpfaaDoor
open Go.RowKit

set_option maxRecDepth 100000 in
theorem step_append_on {ops : Array Oper} {o : Oper} {a : Act} {w : World} {K : Act → World → Prop} {Q : Exit → Act → World → Prop} {E : Prop}
    (hw : Region.wanted o (yielded ops a.tmps) = true) (d : Nat) (hd : o.dst = some d) (s x : Operand) (t : TypeId) (ho : o.op = .call { callee := .builtin .append, args := #[s, x], argTypes := #[t, t] })
    (base : Nat) (e : TypeId) (i : TypeInfo) (z : Value) (size bytes : Nat) (ht : Tryd.prog.underlying t = some (.slice e)) (hi : Tryd.prog.info? e = some i) (hz : i.zero = some z)
    (hsize : i.size = size) (hby : i.bytes = bytes) (hzs : z.cells.size = size) (hsz : 0 < size)
    (v : Value) (n : Nat) (xs : List Value) (hs : a.eval s = v) (hown : w.ownsRow base e size v n xs)
    (ad : Addr) (m c : Nat) (news : List Value) (hx : a.eval x = .slice (some ad) m c) (hl : news.length = m * size) (hnews : ∀ j u, news[j]? = some u → w.cell? (ad.add j) = some u) (h1 : ∀ u ∈ news, u.oneCell' = true)
    (h63 : n + m ≤ maxLen) (hbytes : (n + m) * bytes ≤ 140737488355328) (hbase : base ≤ w.heap.size)
    (hK : ∀ v' w', w'.ownsRow base e size v' (n + m) (xs ++ news) → Grew w v w' v' → K (a.put (some d) v') w') :
    if Region.wanted o (yielded ops a.tmps) = true then Oper.wp Tryd.prog o a w K Q else E := by
  rw [if_pos hw]
  obtain ⟨v', w', hr, h2, h3, _, h5⟩ := run_append_own_at (P := Tryd.prog) w base t o.type e i z size bytes ht hi hz hsize hby hzs hsz v n xs hown ad m c news hl hnews h1 h63 hbytes hbase
  unfold Oper.wp execOp
  simp only [ho, resolve, invoke, builtin, Sem.run_bind, Sem.run_pure, Result.andThen_ok, List.map_toArray, List.map_cons, List.map_nil, hs, hx, hr]
  rw [Oper.upon_value, hd]
  exact hK v' w' h2 (Grew.of h3 h5)
set_option maxRecDepth 100000 in
/-- An operation behind a guard that is no call, and that turns the world. -/
theorem step_run_on {ops : Array Oper} {o : Oper} {a : Act} {w : World} {K : Act → World → Prop} {Q : Exit → Act → World → Prop} {E : Prop}
    (hw : Region.wanted o (yielded ops a.tmps) = true) (d : Nat) (hd : o.dst = some d) (v : Value) (w' : World) (hr : (execOp a.eval o).run Tryd.prog w = .ok (.value v) w') (hK : K (a.put (some d) v) w') :
    if Region.wanted o (yielded ops a.tmps) = true then Oper.wp Tryd.prog o a w K Q else E := by
  rw [if_pos hw]
  unfold Oper.wp
  rw [hr, Oper.upon_value, hd]
  exact hK
set_option maxRecDepth 100000 in
/-- A store as the operation that comes up. -/
theorem step_store {ops : Array Oper} {o : Oper} {a : Act} {w : World} {K : Act → World → Prop} {Q : Exit → Act → World → Prop} {E : Prop}
    (hg : o.guard = none) (hd : o.dst = none) (w' : World) (hr : (execOp a.eval o).run Tryd.prog w = .ok .skip w') (hK : K a w') :
    if Region.wanted o (yielded ops a.tmps) = true then Oper.wp Tryd.prog o a w K Q else E := by
  have hw : Region.wanted o (yielded ops a.tmps) = true := by simp [Region.wanted, hg]
  rw [if_pos hw]
  unfold Oper.wp
  rw [hr, Oper.upon_skip, hd]
  exact hK
end Go.Proofs.YtmpflkggbekpfaaDoor

namespace Go.Proofs.YtmpflkggbekpfaaDoor
open Go.RowKit

set_option maxRecDepth 100000 in
theorem away_top {w : World} {ra : Option Addr} {rc : Nat} {qs : List Part} (h : ListAt w ra rc qs) (hr : ∀ sb so, ra = some ⟨sb, so, none⟩ → sb < w.heap.size) (h32 : ∀ p ∈ qs, p.bs.length = 32) : Away w.heap.size ra qs :=
  ⟨fun sb so e => by have := hr sb so e; omega, fun p hp sb so e => by
    have hs := h.parts.each p hp
    rcases hs.bytes with hb | ⟨sb', so', e', hb⟩
    · have := h32 p hp; rw [hb] at this; simp at this
    · rw [e] at e'; cases e'
      have h9 : sb < w.heap.size := block_lt_of_cell (hb 0 (by rw [h32 p hp]; decide))
      omega⟩
set_option maxRecDepth 100000 in
theorem slice_off {w : World} {g c : Nat} {bs : List Int} (h : SliceAt w (some ⟨g, 0, none⟩) c bs) (b j : Nat) (v : Value) (hb : b ≠ g) : SliceAt (w.setCell ⟨b, j, none⟩ v) (some ⟨g, 0, none⟩) c bs := by
  refine ⟨h.le, h.max, h.some, h.nil, ?_⟩
  rcases h.bytes with hc | ⟨sb, so, e, hc⟩
  · exact .inl hc
  · cases e
    exact .inr ⟨g, 0, rfl, fun k hk => (World.cell?_setCell_far _ _ _ _ hb).trans (hc k hk)⟩
set_option maxRecDepth 100000 in
theorem owns_slice {w : World} {base P : Nat} {bs : List Int} (h : w.ownsRow base 5 1 (.slice (some ⟨P, 0, none⟩) 32 32) 32 (ub bs)) : SliceAt w (some ⟨P, 0, none⟩) 32 bs := by
  obtain ⟨sa, rc, hv, _, hs⟩ := owns_form h
  simp only [Value.slice.injEq] at hv
  obtain ⟨rfl, -, rfl⟩ := hv
  exact hs
set_option maxRecDepth 100000 in
set_option maxHeartbeats 4000000 in
theorem provenJust_walk (ki ra rb rc : Int) (sa : Option Addr) (cap : Nat) (ss : List ByteArray) (wh : Int) (w : World) (_h1 : I64 ki) (h2 : I64 ra) (h3 : I64 rb) (h4 : I64 rc) (_h5 : TextsAt w sa cap ss) (h60 : -9223372036854775808 ≤ wh) (h61 : wh ≤ 9223372036854775807) (hT : Tabs w) :
    Calls Tryd.prog 5 #[.agg #[.int .i64 ki, .int .i64 ra, .int .i64 rb, .int .i64 rc, .slice sa ss.length cap], .int .i64 wh] w fun e w' => e = .returned (.bool true) ∧ Below w.heap.size w w' := by
  have hB : ∀ wx, _ := fun wx => header_raw2 ki ra rb rc sa ss.length cap wx h2 h3 h4
  have hV : ∀ wx, _ := fun wx => voters_any rc wx h4
  have HB : Hid _ := hB
  have HV : Hid _ := hV
  clear hB hV
  have q0 := heap_alloc_new w (.cells #[.int .i64 ki, .int .i64 ra, .int .i64 rb, .int .i64 rc, .slice sa ss.length cap] 36)
  have k0 : (w.alloc (.cells #[.int .i64 ki, .int .i64 ra, .int .i64 rb, .int .i64 rc, .slice sa ss.length cap] 36)).cell? ⟨w.heap.size, 0, none⟩ = some (.int .i64 ki) := cells_at q0 0 _ rfl
  have k1 : (w.alloc (.cells #[.int .i64 ki, .int .i64 ra, .int .i64 rb, .int .i64 rc, .slice sa ss.length cap] 36)).cell? ⟨w.heap.size, 1, none⟩ = some (.int .i64 ra) := cells_at q0 1 _ rfl
  have k2 : (w.alloc (.cells #[.int .i64 ki, .int .i64 ra, .int .i64 rb, .int .i64 rc, .slice sa ss.length cap] 36)).cell? ⟨w.heap.size, 2, none⟩ = some (.int .i64 rb) := cells_at q0 2 _ rfl
  have k3 : (w.alloc (.cells #[.int .i64 ki, .int .i64 ra, .int .i64 rb, .int .i64 rc, .slice sa ss.length cap] 36)).cell? ⟨w.heap.size, 3, none⟩ = some (.int .i64 rc) := cells_at q0 3 _ rfl
  have k4 : (w.alloc (.cells #[.int .i64 ki, .int .i64 ra, .int .i64 rb, .int .i64 rc, .slice sa ss.length cap] 36)).cell? ⟨w.heap.size, 4, none⟩ = some (.slice sa ss.length cap) := cells_at q0 4 _ rfl
  go_enter Tryd.func5, Tryd.ntmps5
  go_upto_region 1 with (fail)
  go_cut [5] (fun v wx => ∃ b ba bc bl pa pc pl va vc, v = .pointer (some ⟨b, 0, none⟩) ∧ CertC w wx b ra rb rc ba bc bl pa pc pl va vc)
  case first =>
    go_region_held3 (fun w' => w'.cell? ⟨w.heap.size, 0, none⟩ = some (.int .i64 ki) ∧ w'.cell? ⟨w.heap.size, 1, none⟩ = some (.int .i64 ra) ∧ w'.cell? ⟨w.heap.size, 2, none⟩ = some (.int .i64 rb) ∧ w'.cell? ⟨w.heap.size, 3, none⟩ = some (.int .i64 rc) ∧ w'.cell? ⟨w.heap.size, 4, none⟩ = some (.slice sa ss.length cap)) (go_keep) (first | (go_at_call 12; refine (HB.out _).mono ?_; rintro e w1 ⟨ba, bc, bl, pa, pc, pl, rfl, hLb, hLp, hOb, hOp, hbs, hps, hb1, hFb, hFp⟩; have HBS : Hid _ := hbs; have HPS : Hid _ := hps; clear hbs hps; have hN1 : w.heap.size < w1.heap.size := Nat.lt_of_lt_of_le (by simp; try omega) hb1.size; have hN1' : ¬ w.heap.size = w1.heap.size := Nat.ne_of_lt hN1; have hN1'' : ¬ w1.heap.size = w.heap.size := Nat.ne_of_gt hN1; first | (have r1 := row_new (below_drew hb1); have t0 := row_new (below_alloc (below_drew hb1)); rw [size_alloc] at r1; have c3 : w1.cell? ⟨w.heap.size, 3, none⟩ = some (.int .i64 rc) := cells_at t0 3 _ rfl; have c0 : w1.cell? ⟨w.heap.size, 0, none⟩ = some (.int .i64 ki) := cells_at t0 0 _ rfl; have c1 : w1.cell? ⟨w.heap.size, 1, none⟩ = some (.int .i64 ra) := cells_at t0 1 _ rfl; have c2 : w1.cell? ⟨w.heap.size, 2, none⟩ = some (.int .i64 rb) := cells_at t0 2 _ rfl; have c4 : w1.cell? ⟨w.heap.size, 4, none⟩ = some (.slice sa ss.length cap) := cells_at t0 4 _ rfl) | (have t0 := row_new (below_drew hb1); have c3 : w1.cell? ⟨w.heap.size, 3, none⟩ = some (.int .i64 rc) := cells_at t0 3 _ rfl; have c0 : w1.cell? ⟨w.heap.size, 0, none⟩ = some (.int .i64 ki) := cells_at t0 0 _ rfl; have c1 : w1.cell? ⟨w.heap.size, 1, none⟩ = some (.int .i64 ra) := cells_at t0 1 _ rfl; have c2 : w1.cell? ⟨w.heap.size, 2, none⟩ = some (.int .i64 rb) := cells_at t0 2 _ rfl; have c4 : w1.cell? ⟨w.heap.size, 4, none⟩ = some (.slice sa ss.length cap) := cells_at t0 4 _ rfl)) | (go_at_call 13; refine (HV.out _).mono ?_; rintro e w2 ⟨vv, rfl, ho2, hb2⟩; obtain ⟨va, vc, hvv⟩ := owns_shape ho2; subst hvv; have hN2 : w.heap.size < w2.heap.size := Nat.lt_of_lt_of_le hN1 (Nat.le_trans (by simp) hb2.size); first | (have r2 := row_new hb2; have u0 := ((below_alloc hb2).block _ (lt_of_heap t0)).trans t0; have d0 : w2.cell? ⟨w.heap.size, 0, none⟩ = some (.int .i64 ki) := cells_at u0 0 _ rfl; have d1 : w2.cell? ⟨w.heap.size, 1, none⟩ = some (.int .i64 ra) := cells_at u0 1 _ rfl; have d2 : w2.cell? ⟨w.heap.size, 2, none⟩ = some (.int .i64 rb) := cells_at u0 2 _ rfl; have d3 : w2.cell? ⟨w.heap.size, 3, none⟩ = some (.int .i64 rc) := cells_at u0 3 _ rfl; have d4 : w2.cell? ⟨w.heap.size, 4, none⟩ = some (.slice sa ss.length cap) := cells_at u0 4 _ rfl; have z0 : w2.cell? ⟨w1.heap.size, 0, none⟩ = some (.int .i64 0) := cells_at r2 0 _ rfl; have f0 := frozen_at r2 0; have z1 : w2.cell? ⟨w1.heap.size, 1, none⟩ = some (.int .i64 0) := cells_at r2 1 _ rfl; have f1 := frozen_at r2 1; have z2 : w2.cell? ⟨w1.heap.size, 2, none⟩ = some (.slice none 0 0) := cells_at r2 2 _ rfl; have f2 := frozen_at r2 2; have z3 : w2.cell? ⟨w1.heap.size, 3, none⟩ = some (.slice none 0 0) := cells_at r2 3 _ rfl; have f3 := frozen_at r2 3; have z4 : w2.cell? ⟨w1.heap.size, 4, none⟩ = some (.slice none 0 0) := cells_at r2 4 _ rfl; have f4 := frozen_at r2 4) | (have r2 := (hb2.block _ (lt_of_heap r1)).trans r1; have u0 := (hb2.block _ (lt_of_heap t0)).trans t0; have d0 : w2.cell? ⟨w.heap.size, 0, none⟩ = some (.int .i64 ki) := cells_at u0 0 _ rfl; have d1 : w2.cell? ⟨w.heap.size, 1, none⟩ = some (.int .i64 ra) := cells_at u0 1 _ rfl; have d2 : w2.cell? ⟨w.heap.size, 2, none⟩ = some (.int .i64 rb) := cells_at u0 2 _ rfl; have d3 : w2.cell? ⟨w.heap.size, 3, none⟩ = some (.int .i64 rc) := cells_at u0 3 _ rfl; have d4 : w2.cell? ⟨w.heap.size, 4, none⟩ = some (.slice sa ss.length cap) := cells_at u0 4 _ rfl; have z0 : w2.cell? ⟨w.heap.size + 1, 0, none⟩ = some (.int .i64 0) := cells_at r2 0 _ rfl; have f0 := frozen_at r2 0; have z1 : w2.cell? ⟨w.heap.size + 1, 1, none⟩ = some (.int .i64 0) := cells_at r2 1 _ rfl; have f1 := frozen_at r2 1; have z2 : w2.cell? ⟨w.heap.size + 1, 2, none⟩ = some (.slice none 0 0) := cells_at r2 2 _ rfl; have f2 := frozen_at r2 2; have z3 : w2.cell? ⟨w.heap.size + 1, 3, none⟩ = some (.slice none 0 0) := cells_at r2 3 _ rfl; have f3 := frozen_at r2 3; have z4 : w2.cell? ⟨w.heap.size + 1, 4, none⟩ = some (.slice none 0 0) := cells_at r2 4 _ rfl; have f4 := frozen_at r2 4) | (have u0 := (hb2.block _ (lt_of_heap t0)).trans t0; have d0 : w2.cell? ⟨w.heap.size, 0, none⟩ = some (.int .i64 ki) := cells_at u0 0 _ rfl; have d1 : w2.cell? ⟨w.heap.size, 1, none⟩ = some (.int .i64 ra) := cells_at u0 1 _ rfl; have d2 : w2.cell? ⟨w.heap.size, 2, none⟩ = some (.int .i64 rb) := cells_at u0 2 _ rfl; have d3 : w2.cell? ⟨w.heap.size, 3, none⟩ = some (.int .i64 rc) := cells_at u0 3 _ rfl; have d4 : w2.cell? ⟨w.heap.size, 4, none⟩ = some (.slice sa ss.length cap) := cells_at u0 4 _ rfl)))
    all_goals
      go_wp2_with fail
      go_meet
      case rel =>
        have hB1 := below_drew hb1
        first
          | (have hg := r1; refine ⟨_, ba, bc, bl, pa, pc, pl, va, vc, rfl, ?_⟩; exact certC_first (below_alloc (below_alloc hB1)) (by have := hB1.size; rw [size_alloc, size_alloc] at this; exact this) hLb hLp hOb hOp HBS.out HPS.out (by have h := hFb; rw [heap_drew, size_alloc, size_alloc] at h; exact h) (by have h := hFp; rw [heap_drew, size_alloc, size_alloc] at h; exact h) hb2 ho2 r2)
          | (have hg := r2; refine ⟨_, ba, bc, bl, pa, pc, pl, va, vc, rfl, ?_⟩; exact certC_mid (below_alloc hB1) hN1 hLb hLp hOb hOp HBS.out HPS.out hb2 ho2)
          | (refine ⟨_, ba, bc, bl, pa, pc, pl, va, vc, rfl, ?_⟩; exact certC_last (below_alloc hB1) hN1 hLb hLp hOb hOp HBS.out HPS.out hb2 ho2)
  case rest =>
    obtain ⟨b, ba, bc, bl, pa, pc, pl, va, vc, rfl, H⟩ := hcut
    clear k0 k1 k2 k3 k4 q0 HB HV
    have hF := headerF_raw ra rb rc bl pl H.ebs H.eps
    have HF : Hid (headerF (pk ra 4) (1 + pk rb 9) bl pl = 0) := hF
    clear hF
    have hbox := H.box
    have hat := H.hat
    have hawb := H.awb
    have hawp := H.awp
    have hvne := H.vne
    have hlow := H.low
    have HB := H.below
    have hvi : IntsAt wc va (votersL rc) ∧ (votersL rc).length ≤ vc := by
      have hown := H.own
      rcases hown.2 with ⟨e, hn⟩ | ⟨g, cap', cur, e, hr⟩
      · obtain ⟨x0, x1, x2, xs, hVL, _⟩ := votersL_form rc
        rw [hVL] at hn; simp at hn
      · obtain ⟨_, _, e9, _, hI, _⟩ := intsAt_of_owns hown
        cases e9
        cases e
        exact ⟨hI, hr.2.2.1⟩
    obtain ⟨hvi, hvc⟩ := hvi
    clear H
    have pw := pk_bounds wh 9 (by decide)
    obtain ⟨x0, x1, x2, xs, hVL, _, _, _, hvF, _, hV4⟩ := votersL_form rc
    have hvf := votersL_four rc
    have hV3 : 3 ≤ (votersL rc).length := by rw [hVL]; simp
    clear hVL
    have HVF : Hid (votersF (votersL rc) = 0) := hvF
    have HV4 : Hid (∀ x ∈ votersL rc, 0 ≤ x ∧ x < 4) := hvf
    clear hvF hvf
    have prd := pk_bounds rb 9 (by decide)
    have pau := pk_bounds ra 4 (by decide)
    have hrd9 : 1 ≤ 1 + pk rb 9 ∧ 1 + pk rb 9 ≤ 9 := by omega
    clear prd
    generalize votersL rc = VL at *
    generalize pk ra 4 = au at *
    generalize 1 + pk rb 9 = rd at *
    have hA1 := (Below.refl wc.heap.size wc).alloc (Nat.le_refl _) (.cells #[.int .i64 0, .int .i64 1, .int .i64 2, .int .i64 3] 3)
    have qn := heap_alloc_new wc (.cells #[.int .i64 0, .int .i64 1, .int .i64 2, .int .i64 3] 3)
    have kb := heap_keep (o := .cells #[.int .i64 0, .int .i64 1, .int .i64 2, .int .i64 3] 3) hbox
    have kb0 := cells_at kb 0 _ rfl
    have kb1 := cells_at kb 1 _ rfl
    have kb2 := cells_at kb 2 _ rfl
    have kb3 := cells_at kb 3 _ rfl
    have kb4 := cells_at kb 4 _ rfl
    have hbox_c0 := cells_at hbox 0 _ rfl
    have hbox_c1 := cells_at hbox 1 _ rfl
    have hbox_c2 := cells_at hbox 2 _ rfl
    have hbox_c3 := cells_at hbox 3 _ rfl
    have hbox_c4 := cells_at hbox 4 _ rfl
    go_wp2_with fail
    clear hbox_c0 hbox_c1 hbox_c2 hbox_c3 hbox_c4
    clear kb0 kb1 kb2 kb3 kb4 kb
    generalize hG : wc.alloc (.cells #[.int .i64 0, .int .i64 1, .int .i64 2, .int .i64 3] 3) = wa at hA1 qn ⊢
    clear hG
    replace hbox := (hA1.block _ (lt_of_heap hbox)).trans hbox
    replace hat := hat.below hA1
    replace hvi := hvi.below hA1
    replace HB := HB.trans (hA1.mono HB.size)
    generalize hNB : wc.heap.size = NB at qn ⊢
    clear hNB
    refine (signedBy_any au rd ba bc bl pa pc pl (some ⟨NB, 0, none⟩) 4 4 [0, 1, 2, 3] wa rfl hat HF.out (IntsAt.lit qn) (by decide) (by decide) (hT.below HB)).mono ?_
    rintro e w1 ⟨ra', rc', ks, he, hks, hG, hb1⟩
    subst he
    dsimp only
    replace hbox := (hb1.block _ (lt_of_heap hbox)).trans hbox
    replace hat := hat.below hb1
    replace hvi := hvi.below hb1
    replace qn := (hb1.block _ (lt_of_heap qn)).trans qn
    replace HB := HB.trans (hb1.mono HB.size)
    have HKS : Hid (gvs ks = sgL au rd (hDig au rd bl pl) [0, 1, 2, 3]) := hks
    clear hks
    have HO : Hid (signsF (gvs ks) = 0) := by show _ = _; rw [HKS.out]; exact sgL_ok HF.out (by decide)
    have hA2 := (Below.refl w1.heap.size w1).alloc (Nat.le_refl _) (.cells #[.int .i64 au, .int .i64 rd, .slice ba bl.length bc, .slice pa pl.length pc, .slice va VL.length vc] 28)
    have hbl1 : b < w1.heap.size := lt_of_heap hbox
    have hawDb : Away w1.heap.size ba bl := away_top hat.lb hat.rb (headerF_ok HF.out).2.2.2.2.1
    have hawDp : Away w1.heap.size pa pl := away_top hat.lp hat.rp (headerF_ok HF.out).2.2.2.2.2
    have hvDne : ∀ sb so, va = some ⟨sb, so, none⟩ → sb ≠ w1.heap.size := by
      intro sb so e
      rcases hvi.cells with h | ⟨sb', so', e', hc⟩
      · rw [h] at hV3; simp at hV3
      · rw [e] at e'; cases e'
        have h9 : sb < w1.heap.size := block_lt_of_cell (hc 0 (by omega))
        omega
    have qd := heap_alloc_new w1 (.cells #[.int .i64 au, .int .i64 rd, .slice ba bl.length bc, .slice pa pl.length pc, .slice va VL.length vc] 28)
    have hbox_c0 := cells_at hbox 0 _ rfl
    have hbox_c1 := cells_at hbox 1 _ rfl
    have hbox_c2 := cells_at hbox 2 _ rfl
    have hbox_c3 := cells_at hbox 3 _ rfl
    have hbox_c4 := cells_at hbox 4 _ rfl
    go_wp2_with fail
    clear hbox_c0 hbox_c1 hbox_c2 hbox_c3 hbox_c4
    generalize hG : w1.alloc (.cells #[.int .i64 au, .int .i64 rd, .slice ba bl.length bc, .slice pa pl.length pc, .slice va VL.length vc] 28) = w2 at hA2 qd ⊢
    clear hG
    replace hbox := (hA2.block _ (lt_of_heap hbox)).trans hbox
    replace hat := hat.below hA2
    replace hvi := hvi.below hA2
    replace qn := (hA2.block _ (lt_of_heap qn)).trans qn
    replace hG := hG.below hA2
    replace HB := HB.trans (hA2.mono HB.size)
    have hDB1 : w1.heap.size < w2.heap.size := lt_of_heap qd
    have hDB1 : w1.heap.size < w2.heap.size := lt_of_heap qd
    have hDBw : w.heap.size ≤ w1.heap.size := by omega
    have hDBb : b ≠ w1.heap.size := by omega
    generalize hDB : w1.heap.size = DB at qd hDB1 hDBw hDBb hawDb hawDp hvDne ⊢
    have hb0 := cells_at hbox 0 _ rfl
    have hb1' := cells_at hbox 1 _ rfl
    have hblt := lt_of_heap hbox
    have HP := picked_any wh 9 w2.drew h60 h61 (by decide) (by decide)
    generalize pk wh 9 = kk at *
    have hwr1 : IntKind.i64.wrap (rd + 1) = rd + 1 := by rw [IntKind.wrap_i64]; omega
    have hwr2 : IntKind.i64.wrap (rd + 1 + kk) = rd + 1 + kk := by rw [IntKind.wrap_i64]; omega
    refine wp_region_held_drew (S := fun w' => w'.cell? ⟨b, 1, none⟩ = some (.int .i64 rd)) (by kernel_rfl) hb1' (fun hHeld => ?_)
    refine take_dst (i := 0) (d := 19) (v := .pointer (some ⟨b, 0, none⟩)) rfl rfl (by kernel_rfl) (by kernel_rfl) (by kernel_rfl) (fun _ _ _ h => h) (Or.inl ⟨by rfl, ?_⟩) hHeld ?_
    · (intro w0 hSw; (try dsimp only at hSw); go_simp)
    simp only [Act.put, List.setIfInBounds_toArray, List.set_cons_zero, List.set_cons_succ]
    refine take_dst (i := 1) (d := 20) (v := .pointer (some ⟨b, 1, none⟩)) rfl rfl (by kernel_rfl) (by kernel_rfl) (by kernel_rfl) (fun _ _ _ h => h) (Or.inl ⟨by rfl, ?_⟩) hHeld ?_
    · (intro w0 hSw; (try dsimp only at hSw); go_simp)
    simp only [Act.put, List.setIfInBounds_toArray, List.set_cons_zero, List.set_cons_succ]
    refine take_dst (i := 2) (d := 21) (v := .int .i64 rd) rfl rfl (by kernel_rfl) (by kernel_rfl) (by kernel_rfl) (fun _ _ _ h => h) (Or.inl ⟨by rfl, ?_⟩) hHeld ?_
    · (intro w0 hSw; (try dsimp only at hSw); go_simp)
    simp only [Act.put, List.setIfInBounds_toArray, List.set_cons_zero, List.set_cons_succ]
    refine take_dst (i := 3) (d := 22) (v := .int .i64 (rd + 1)) rfl rfl (by kernel_rfl) (by kernel_rfl) (by kernel_rfl) (fun _ _ _ h => h) (Or.inl ⟨by rfl, ?_⟩) hHeld ?_
    · (intro w0 hSw; (try dsimp only at hSw); go_simp)
    simp only [Act.put, List.setIfInBounds_toArray, List.set_cons_zero, List.set_cons_succ]
    refine take_dst (i := 4) (d := 23) (v := .int .i64 wh) rfl rfl (by kernel_rfl) (by kernel_rfl) (by kernel_rfl) (fun _ _ _ h => h) (Or.inl ⟨by rfl, ?_⟩) hHeld ?_
    · (intro w0 hSw; (try dsimp only at hSw); go_simp)
    simp only [Act.put, List.setIfInBounds_toArray, List.set_cons_zero, List.set_cons_succ]
    refine wpAnyH_ready (rs := [5]) (by kernel_rfl) (by simp) (AllReadyH.cons rfl (fun K hK => ?_) AllReadyH.nil)
    refine step_calls_dst rfl 24 rfl 15 [.tmp 23, .const (.int .i64 9)] #[3, 3] rfl [.int .i64 wh, .int .i64 9] rfl (enters_of Tryd.func15 (by kernel_rfl) rfl) (fun v w' => v = .int .i64 kk ∧ w2.drew = w') (HP.mono (fun e w2 h => ⟨_, h.1, rfl, h.2⟩)) ?_
    rintro v w9 ⟨rfl, rfl⟩
    refine hK.out _ _ hb1' (fun hHeld => ?_)
    simp only [Act.put, List.setIfInBounds_toArray, List.set_cons_zero, List.set_cons_succ]
    refine take_dst (i := 6) (d := 25) (v := .int .i64 (rd + 1 + kk)) rfl rfl (by kernel_rfl) (by kernel_rfl) (by kernel_rfl) (fun _ _ _ h => h) (Or.inl ⟨by rfl, ?_⟩) hHeld ?_
    · (intro w0 hSw; (try dsimp only at hSw); go_simp)
    simp only [Act.put, List.setIfInBounds_toArray, List.set_cons_zero, List.set_cons_succ]
    refine take_dst (i := 7) (d := 26) (v := .pointer (some ⟨DB, 0, none⟩)) rfl rfl (by kernel_rfl) (by kernel_rfl) (by kernel_rfl) (fun _ _ _ h => h) (Or.inl ⟨by rfl, ?_⟩) hHeld ?_
    · (intro w0 hSw; (try dsimp only at hSw); go_simp)
    simp only [Act.put, List.setIfInBounds_toArray, List.set_cons_zero, List.set_cons_succ]
    refine take_dst (i := 8) (d := 27) (v := .pointer (some ⟨DB, 1, none⟩)) rfl rfl (by kernel_rfl) (by kernel_rfl) (by kernel_rfl) (fun _ _ _ h => h) (Or.inl ⟨by rfl, ?_⟩) hHeld ?_
    · (intro w0 hSw; (try dsimp only at hSw); go_simp)
    simp only [Act.put, List.setIfInBounds_toArray, List.set_cons_zero, List.set_cons_succ]
    refine wpAnyH_ready (rs := [9]) (by kernel_rfl) (by simp) (AllReadyH.cons rfl (fun K hK => ?_) AllReadyH.nil)
    have d1 : w2.drew.cell? ⟨DB, 1, none⟩ = _ := cells_at (w := w2.drew) qd 1 _ rfl
    have f1 : w2.drew.frozen? ⟨DB, 1, none⟩ = false := frozen_at (w := w2.drew) qd 1
    refine step_store rfl rfl (w2.drew.setCell ⟨DB, 1, none⟩ (.int .i64 (rd + 1 + kk))) (by go_simp) ?_
    have qd3 : (w2.drew.setCell ⟨DB, 1, none⟩ (.int .i64 (rd + 1 + kk))).heap[DB]? = some (.cells #[.int .i64 au, .int .i64 (rd + 1 + kk), .slice ba bl.length bc, .slice pa pl.length pc, .slice va VL.length vc] 28 (0, 0)) := by simpa using heap_setCell_same _ _ 1 _ _ _ (show w2.drew.heap[DB]? = _ from qd)
    have hbox3 := heap_far (w := w2.drew) (j := 1) (v := .int .i64 (rd + 1 + kk)) hbox hDBb
    have hD2 : Below w2.heap.size w2 w2.drew := (Below.refl _ _).drew
    have hG3 := gtab_cert (hG.below hD2) (show w2.drew.heap[DB]? = _ from qd) 1 (.int .i64 (rd + 1 + kk))
    have HB3 := (HB.drew).setCell (p := ⟨DB, 1, none⟩) hDBw (.int .i64 (rd + 1 + kk))
    have hawD1 : Away DB ba bl := hawDb
    have hawD2 : Away DB pa pl := hawDp
    have hvD : ∀ sb so, va = some ⟨sb, so, none⟩ → sb ≠ DB := hvDne
    have hat3 := (hat.below hD2).away hawD1 hawD2 1 (.int .i64 (rd + 1 + kk))
    have hvi3 := (hvi.below hD2).away hvD 1 (.int .i64 (rd + 1 + kk))
    have hbc := cells_at hbox3 1 _ rfl
    refine hK.out _ _ hbc (fun hHeld => ?_)
    generalize hW3 : w2.drew.setCell ⟨DB, 1, none⟩ (.int .i64 (rd + 1 + kk)) = W3 at qd3 hbox3 hG3 HB3 hat3 hvi3 ⊢
    clear hW3
    refine wpAnyH_done (by kernel_rfl) ?_ _
    clear HB hat hvi hG qd hbox hbc hb0 hb1' d1 f1 HP hHeld
    have hDB3 : DB < W3.heap.size := lt_of_heap qd3
    have HB := HB3
    clear HB3
    go_wp2_with fail
    refine (some_any 1 1 W3 ⟨by decide, by decide⟩).mono ?_
    rintro e w4 ⟨he, ho1, hb1⟩
    subst he
    dsimp only
    have hp1 := (owns_slice ho1)
    have hdx1 : DB < W3.heap.size := hDB3
    have hpl1 := hdx1
    generalize hPB1 : W3.heap.size = P1 at hp1 hpl1 ⊢
    clear hPB1 ho1
    replace hbox3 := (hb1.block _ (lt_of_heap hbox3)).trans hbox3
    replace qd3 := (hb1.block _ (lt_of_heap qd3)).trans qd3
    replace hat3 := hat3.below hb1
    replace hvi3 := hvi3.below hb1
    replace hG3 := hG3.below hb1
    replace HB := HB.trans (hb1.mono HB.size)
    go_wp2_with fail
    refine (some_any 1 2 w4 ⟨by decide, by decide⟩).mono ?_
    rintro e w5 ⟨he, ho2, hb2⟩
    subst he
    dsimp only
    have hp2 := (owns_slice ho2)
    have hdx2 : DB < w4.heap.size := by have := hb1.size; omega
    have hpl2 := hdx2
    generalize hPB2 : w4.heap.size = P2 at hp2 hpl2 ⊢
    clear hPB2 ho2
    replace hbox3 := (hb2.block _ (lt_of_heap hbox3)).trans hbox3
    replace qd3 := (hb2.block _ (lt_of_heap qd3)).trans qd3
    replace hat3 := hat3.below hb2
    replace hvi3 := hvi3.below hb2
    replace hG3 := hG3.below hb2
    replace hp1 := hp1.below hb2
    replace HB := HB.trans (hb2.mono HB.size)
    go_wp2_with fail
    refine (some_any 1 3 w5 ⟨by decide, by decide⟩).mono ?_
    rintro e w6 ⟨he, ho3, hb3⟩
    subst he
    dsimp only
    have hp3 := (owns_slice ho3)
    have hdx3 : DB < w5.heap.size := by have := hb2.size; omega
    have hpl3 := hdx3
    generalize hPB3 : w5.heap.size = P3 at hp3 hpl3 ⊢
    clear hPB3 ho3
    replace hbox3 := (hb3.block _ (lt_of_heap hbox3)).trans hbox3
    replace qd3 := (hb3.block _ (lt_of_heap qd3)).trans qd3
    replace hat3 := hat3.below hb3
    replace hvi3 := hvi3.below hb3
    replace hG3 := hG3.below hb3
    replace hp1 := hp1.below hb3
    replace hp2 := hp2.below hb3
    replace HB := HB.trans (hb3.mono HB.size)
    have kd3 := cells_at qd3 3 _ rfl
    have kf3 := frozen_at qd3 3
    have hD6 : DB < w6.heap.size := lt_of_heap qd3
    have hRB : DB ≠ w6.heap.size := by omega
    have kx := heap_keep (o := .cells #[.slice (some ⟨P1, 0, none⟩) 32 32, .slice (some ⟨P2, 0, none⟩) 32 32, .slice (some ⟨P3, 0, none⟩) 32 32] 42) (heap_far (j := 3) (v := .slice (some ⟨w6.heap.size, 0, none⟩) 3 3) hbox3 hDBb)
    have ka := heap_keep (o := .cells #[.slice (some ⟨P1, 0, none⟩) 32 32, .slice (some ⟨P2, 0, none⟩) 32 32, .slice (some ⟨P3, 0, none⟩) 32 32] 42) qd3
    have ka3 := cells_at ka 3 _ rfl
    have kaf := frozen_at ka 3
    have kx0 := cells_at kx 0 _ rfl
    have kx1 := cells_at kx 1 _ rfl
    have kx2 := cells_at kx 2 _ rfl
    have kx3 := cells_at kx 3 _ rfl
    have kx4 := cells_at kx 4 _ rfl
    go_wp2_with fail
    clear kd3 kf3 ka ka3 kaf kx0 kx1 kx2 kx3 kx4
    have hA7 : Below (w6.setCell ⟨DB, 3, none⟩ (.slice (some ⟨w6.heap.size, 0, none⟩) 3 3)).heap.size (w6.setCell ⟨DB, 3, none⟩ (.slice (some ⟨w6.heap.size, 0, none⟩) 3 3)) ((w6.setCell ⟨DB, 3, none⟩ (.slice (some ⟨w6.heap.size, 0, none⟩) 3 3)).alloc (.cells #[.slice (some ⟨P1, 0, none⟩) 32 32, .slice (some ⟨P2, 0, none⟩) 32 32, .slice (some ⟨P3, 0, none⟩) 32 32] 42)) := (Below.refl _ _).alloc (Nat.le_refl _) _
    have qr := heap_alloc_new (w6.setCell ⟨DB, 3, none⟩ (.slice (some ⟨w6.heap.size, 0, none⟩) 3 3)) (.cells #[.slice (some ⟨P1, 0, none⟩) 32 32, .slice (some ⟨P2, 0, none⟩) 32 32, .slice (some ⟨P3, 0, none⟩) 32 32] 42)
    have hszW : (w6.setCell ⟨DB, 3, none⟩ (.slice (some ⟨w6.heap.size, 0, none⟩) 3 3)).heap.size = w6.heap.size := by simp
    rw [hszW] at qr
    have qd7 : ((w6.setCell ⟨DB, 3, none⟩ (.slice (some ⟨w6.heap.size, 0, none⟩) 3 3)).alloc (.cells #[.slice (some ⟨P1, 0, none⟩) 32 32, .slice (some ⟨P2, 0, none⟩) 32 32, .slice (some ⟨P3, 0, none⟩) 32 32] 42)).heap[DB]? = some (.cells #[.int .i64 au, .int .i64 (rd + 1 + kk), .slice ba bl.length bc, .slice (some ⟨w6.heap.size, 0, none⟩) 3 3, .slice va VL.length vc] 28 (0, 0)) := heap_keep (by simpa using heap_setCell_same _ _ 3 _ _ _ qd3)
    have hG7 := (gtab_cert hG3 qd3 3 (.slice (some ⟨w6.heap.size, 0, none⟩) 3 3)).below hA7
    have hat7 := (hat3.away hawD1 hawD2 3 (.slice (some ⟨w6.heap.size, 0, none⟩) 3 3)).below hA7
    have hvi7 := (hvi3.away hvD 3 (.slice (some ⟨w6.heap.size, 0, none⟩) 3 3)).below hA7
    have hs71 := (slice_off hp1 DB 3 (.slice (some ⟨w6.heap.size, 0, none⟩) 3 3) (by omega)).below hA7
    have hs72 := (slice_off hp2 DB 3 (.slice (some ⟨w6.heap.size, 0, none⟩) 3 3) (by omega)).below hA7
    have hs73 := (slice_off hp3 DB 3 (.slice (some ⟨w6.heap.size, 0, none⟩) 3 3) (by omega)).below hA7
    have HB7 := HB.setCell (p := ⟨DB, 3, none⟩) hDBw (.slice (some ⟨w6.heap.size, 0, none⟩) 3 3)
    replace HB7 := HB7.trans (hA7.mono HB7.size)
    have hbox7 := kx
    clear kx hA7 hszW
    generalize hW7 : (w6.setCell ⟨DB, 3, none⟩ (.slice (some ⟨w6.heap.size, 0, none⟩) 3 3)).alloc (.cells #[.slice (some ⟨P1, 0, none⟩) 32 32, .slice (some ⟨P2, 0, none⟩) 32 32, .slice (some ⟨P3, 0, none⟩) 32 32] 42) = W7 at *
    clear hW7
    generalize hPB : w6.heap.size = PB at qr qd7 hRB ⊢
    clear hPB
    have hPBl : PB < W7.heap.size := lt_of_heap qr
    have hLp7 : ListAt W7 (some ⟨PB, 0, none⟩) 3 [⟨some ⟨P1, 0, none⟩, 32, someL 1 1⟩, ⟨some ⟨P2, 0, none⟩, 32, someL 1 2⟩, ⟨some ⟨P3, 0, none⟩, 32, someL 1 3⟩] := by
      refine ⟨show 3 ≤ 3 by decide, by decide, show 3 ≤ 9000000000000000000 by decide, .inr ⟨PB, 0, rfl⟩, ⟨.inr ⟨PB, 0, rfl, fun j hj => ?_⟩, ?_⟩⟩
      · have hj : j < 3 := hj
        match j, hj with
        | 0, _ => exact cells_at qr 0 _ (by simp [someL_length])
        | 1, _ => exact cells_at qr 1 _ (by simp [someL_length])
        | 2, _ => exact cells_at qr 2 _ (by simp [someL_length])
      · intro p hp
        simp at hp
        rcases hp with rfl | rfl | rfl
        · exact hs71
        · exact hs72
        · exact hs73
    have hatd : HAt W7 ba bc bl (some ⟨PB, 0, none⟩) 3 [⟨some ⟨P1, 0, none⟩, 32, someL 1 1⟩, ⟨some ⟨P2, 0, none⟩, 32, someL 1 2⟩, ⟨some ⟨P3, 0, none⟩, 32, someL 1 3⟩] := ⟨hat7.lb, hLp7, hat7.rb, fun sb so e => by cases e; exact hPBl⟩
    have hF2 : headerF au (rd + 1 + kk) bl [⟨some ⟨P1, 0, none⟩, 32, someL 1 1⟩, ⟨some ⟨P2, 0, none⟩, 32, someL 1 2⟩, ⟨some ⟨P3, 0, none⟩, 32, someL 1 3⟩] = 0 := by
      have h := HF.out
      obtain ⟨z1, z2, z3, z4, z5, z6⟩ := headerF_ok h
      have hdb : digF bl = 0 := by
        unfold headerF at h
        rw [if_neg (by omega), if_neg (by omega)] at h
        split at h
        · assumption
        · rename_i g; simpa using g
      have hdp : digF [⟨some ⟨P1, 0, none⟩, 32, someL 1 1⟩, ⟨some ⟨P2, 0, none⟩, 32, someL 1 2⟩, ⟨some ⟨P3, 0, none⟩, 32, someL 1 3⟩] = 0 := digF_some _ 1 1 3 (by decide) (by rfl)
      rw [headerF, if_neg (by omega), if_neg (by simp; omega), if_neg (by simpa using hdb), if_neg (by simpa using hdp), parentsF, if_neg (by simp; omega)]
    have HF2 : Hid _ := hF2
    clear hF2
    have hc1 : certF au rd bl pl VL = 0 := by rw [certF, if_neg (by simpa using HF.out), if_neg (by omega), HVF.out]
    have hc2 : certF au (rd + 1 + kk) bl [⟨some ⟨P1, 0, none⟩, 32, someL 1 1⟩, ⟨some ⟨P2, 0, none⟩, 32, someL 1 2⟩, ⟨some ⟨P3, 0, none⟩, 32, someL 1 3⟩] VL = 0 := by rw [certF, if_neg (by simpa using HF2.out), if_neg (by omega), HVF.out]
    have hin : ∀ nd, 0 ≤ nd ∧ nd < 4 → lacksF (gvs ks) (-1) au rd (hDig au rd bl pl) nd = false := by
      intro nd h
      rw [HKS.out, lacks_sgL]
      have : nd ∈ [0, 1, 2, 3] := by simp; omega
      simp [this]
    have PV1 : provF (gvs ks) (-1) au rd (certF au rd bl pl VL) (hDig au rd bl pl) VL = 0 := by
      rw [hc1, provF, if_neg (by simpa using setF_ok (bad := -1) HO.out (by decide)), if_neg (by decide), hin au pau, if_neg]
      simp only [Bool.false_or, List.any_eq_true, not_exists, not_and, Bool.not_eq_true]
      intro nd hnd
      exact hin nd (HV4.out nd hnd)
    have PV2 : provF (gvs ks) (-1) au (rd + 1 + kk) (certF au (rd + 1 + kk) bl [⟨some ⟨P1, 0, none⟩, 32, someL 1 1⟩, ⟨some ⟨P2, 0, none⟩, 32, someL 1 2⟩, ⟨some ⟨P3, 0, none⟩, 32, someL 1 3⟩] VL) (hDig au (rd + 1 + kk) bl [⟨some ⟨P1, 0, none⟩, 32, someL 1 1⟩, ⟨some ⟨P2, 0, none⟩, 32, someL 1 2⟩, ⟨some ⟨P3, 0, none⟩, 32, someL 1 3⟩]) VL = 11 := by
      have hl : lacksF (gvs ks) (-1) au (rd + 1 + kk) (hDig au (rd + 1 + kk) bl [⟨some ⟨P1, 0, none⟩, 32, someL 1 1⟩, ⟨some ⟨P2, 0, none⟩, 32, someL 1 2⟩, ⟨some ⟨P3, 0, none⟩, 32, someL 1 3⟩]) au = true := by
        rw [HKS.out, lacksF]
        have h1 : ¬ (au, au, rd + 1 + kk, hDig au (rd + 1 + kk) bl [⟨some ⟨P1, 0, none⟩, 32, someL 1 1⟩, ⟨some ⟨P2, 0, none⟩, 32, someL 1 2⟩, ⟨some ⟨P3, 0, none⟩, 32, someL 1 3⟩]) ∈ sgL au rd (hDig au rd bl pl) [0, 1, 2, 3] := by
          rw [sgL_mem]
          rintro ⟨y, _, e⟩
          simp only [Prod.mk.injEq] at e
          omega
        have h2 : au ≠ -1 := by omega
        simp [h1, h2]
      rw [hc2, provF, if_neg (by simpa using setF_ok (bad := -1) HO.out (by decide)), if_neg (by decide), hl]
      rfl
    have hkl : ks.length = 4 := by
      have h := congrArg List.length HKS.out
      rw [gvs_length] at h
      rw [h]
      simp [sgL, more]
    have C1 := fun W (hW : Below W7.heap.size W7 W) => proven_any ks ra' _ rc' (-1) au rd ba bc bl pa pc pl va vc VL W rfl hG7.small (hG7.slots.below hW) (hat7.below hW) (hvi7.below hW) (by omega) (hT.below (HB7.trans (hW.mono HB7.size)))
    have C2 := fun W (hW : Below W7.heap.size W7 W) => proven_any ks ra' _ rc' (-1) au (rd + 1 + kk) ba bc bl (some ⟨PB, 0, none⟩) 3 [⟨some ⟨P1, 0, none⟩, 32, someL 1 1⟩, ⟨some ⟨P2, 0, none⟩, 32, someL 1 2⟩, ⟨some ⟨P3, 0, none⟩, 32, someL 1 3⟩] va vc VL W rfl hG7.small (hG7.slots.below hW) (hatd.below hW) (hvi7.below hW) (by omega) (hT.below (HB7.trans (hW.mono HB7.size)))
    rw [PV1] at C1
    rw [PV2] at C2
    clear PV1 PV2 hc1 hc2 hin HKS
    have HX := Below.refl W7.heap.size W7
    rw [hkl] at C1 C2 ⊢
    clear hkl
    refine (C1 _ HX).mono ?_
    rintro e w8 ⟨he, hbx⟩
    subst he
    dsimp only
    replace HX := HX.trans (hbx.mono HX.size)
    clear hbx
    have qd8 := (HX.block _ (lt_of_heap qd7)).trans qd7
    have d8_0 := cells_at qd8 0 _ rfl
    have d8_1 := cells_at qd8 1 _ rfl
    have d8_2 := cells_at qd8 2 _ rfl
    have d8_3 := cells_at qd8 3 _ rfl
    have d8_4 := cells_at qd8 4 _ rfl
    go_wp2_with fail
    refine (C2 _ HX).mono ?_
    rintro e w9 ⟨he, hbx⟩
    subst he
    dsimp only
    replace HX := HX.trans (hbx.mono HX.size)
    go_wp2_with fail
    go_ret
    exact ⟨by first | rfl | simp, HB7.trans (HX.mono HB7.size)⟩
end Go.Proofs.YtmpflkggbekpfaaDoor
