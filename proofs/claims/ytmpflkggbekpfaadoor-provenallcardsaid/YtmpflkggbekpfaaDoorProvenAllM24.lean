/- An append behind a guard, as one step of a region that draws its order. -/
import Derived.Test.YtmpflkggbekpfaaDoorPK
import Derived.Test.YtmpflkggbekpfaaDoorOpenB
import Derived.Deep.Strs
import Derived.Test.YtmpflkggbekpfaaDoorProvenAllM18
import Derived.Test.YtmpflkggbekpfaaDoorBase
import Derived.Test.YtmpflkggbekpfaaDoorCalls
namespace Go.Proofs.YtmpflkggbekpfaaDoor
open Go.RowKit

/-- The texts of a slice. -/
structure StrsAt (w : World) (sa : Option Addr) (ss : List ByteArray) : Prop where
  cells : ss = [] ∨ ∃ sb so, sa = some ⟨sb, so, none⟩ ∧ ∀ j, j < ss.length → w.cell? ⟨sb, so + j, none⟩ = some (.string (ss.getD j ByteArray.empty))
  size : ∀ s ∈ ss, s.size ≤ maxLen
set_option maxRecDepth 100000 in
theorem StrsAt.below {w w' : World} {sa : Option Addr} {ss : List ByteArray} (h : StrsAt w sa ss) (hb : Below w.heap.size w w') : StrsAt w' sa ss := by
  refine ⟨?_, h.size⟩
  rcases h.cells with h | ⟨sb, so, rfl, hc⟩
  · exact .inl h
  · exact .inr ⟨sb, so, rfl, fun j hj => (hb.cell (p := ⟨sb, so + j, none⟩) (block_lt_of_cell (hc j hj))).trans (hc j hj)⟩
end Go.Proofs.YtmpflkggbekpfaaDoor

namespace Go.Proofs.YtmpflkggbekpfaaDoor
open Go.ChangeShapes Go.WideShapes Go.ChangeAt Go.RowKit Go.Deep

/-- What is read of a slice of texts that came in. -/
structure TextsAt (w : World) (sa : Option Addr) (cap : Nat) (ss : List ByteArray) : Prop where
  le : ss.length ≤ cap
  reach : cap * 16 ≤ 140737488351232
  nil : sa = none → cap = 0
  strs : StrsAt w sa ss
set_option maxRecDepth 100000 in
theorem TextsAt.below {w w' : World} {sa : Option Addr} {cap : Nat} {ss : List ByteArray} (h : TextsAt w sa cap ss) (hb : Below w.heap.size w w') : TextsAt w' sa cap ss := ⟨h.le, h.reach, h.nil, h.strs.below hb⟩

set_option maxRecDepth 100000 in
theorem cStr : Tryd.prog.cellsOf 9 = 1 := by kernel_rfl
set_option maxRecDepth 100000 in
theorem bStr : Tryd.prog.bytesOf 9 = 16 := by kernel_rfl
set_option maxRecDepth 100000 in
theorem open_texts_cells {H : Type} {enc : TypeId × Value → H} {W : World} {fuel : Nat} {cs : List Value} {x : DataW H × List MemPlace}
    (hf : DataW.trod enc Tryd.prog W 0 (fun _ => true) true fuel 34 cs = some x) (hfit : ∀ n ∈ x.1.weights Tryd.prog 34, n ≤ reachBytes) :
    ∃ sa cap ss, cs = [.slice sa (List.length ss) cap] ∧ TextsAt W sa cap ss := by
  rcases open_strs Tryd.underlying34 Tryd.underlying9 cStr hf with ⟨rfl, _⟩ | ⟨a, len, cap, m, Sx, rfl, _, hl, hm, hmm, rfl, hc⟩
  · exact ⟨none, 0, [], rfl, ⟨Nat.le_refl _, by decide, fun _ => rfl, ⟨.inl rfl, fun s hs => by cases hs⟩⟩⟩
  · simp only [if_true] at hmm
    subst hmm
    have hw := hfit ((((List.range len).map fun i => (DataW.lit (.string (Sx i).data.toList) : DataW H)).length + ((List.range (m - len)).map fun j => (DataW.lit (.string (Sx (len + j)).data.toList) : DataW H)).length) * Tryd.prog.bytesOf 9) (by simp [DataW.weights, Tryd.underlying34])
    rw [bStr] at hw
    simp [reachBytes] at hw
    refine ⟨some a, m, (List.range len).map Sx, by simp, ⟨by simpa using hl, by omega, (fun e => by cases e), ⟨?_, ?_⟩⟩⟩
    · rcases Nat.eq_zero_or_pos len with h0 | h0
      · subst h0; exact .inl rfl
      · right
        have h9 := (hc 0 (by omega)).1
        obtain ⟨b, off, rfl⟩ : ∃ b off, a = ⟨b, off, none⟩ := by
          cases a with
          | mk b off spot =>
            cases spot with
            | none => exact ⟨b, off, rfl⟩
            | some s => simp [World.cell?, Addr.add] at h9; split at h9 <;> cases h9
        refine ⟨b, off, rfl, fun j hj => ?_⟩
        have hj' : j < len := by simpa using hj
        have := (hc j (by omega)).1
        rw [add_off] at this
        rw [this]
        simp [hj']
    · intro s hs
      simp at hs
      obtain ⟨j, hj, rfl⟩ := hs
      exact (hc j (by omega)).2
end Go.Proofs.YtmpflkggbekpfaaDoor

namespace Go.Proofs.YtmpflkggbekpfaaDoor
open Go.ChangeShapes Go.WideShapes Go.ChangeAt Go.RowKit Go.Deep

set_option maxRecDepth 100000 in
theorem cRaw : Tryd.prog.cellsOf 36 = 5 := by kernel_rfl
set_option maxRecDepth 100000 in
theorem cIntR : Tryd.prog.cellsOf 3 = 1 := by kernel_rfl
set_option maxRecDepth 100000 in
theorem cStrsR : Tryd.prog.cellsOf 34 = 1 := by kernel_rfl
set_option maxRecDepth 100000 in
theorem open_raw {H : Type} {enc : TypeId × Value → H} {W : World} {base : Nat} {v : Value} {d : DataW H} {p : List MemPlace}
    (hv : Value.okWide Tryd.prog W .any base 36 v) (h : DataW.Trod enc Tryd.prog W 0 (fun _ => true) true 36 v d p) (hfit : ∀ n ∈ d.weights Tryd.prog 36, n ≤ reachBytes) :
    ∃ ki ra rb rc sa cap ss, v = .agg #[.int .i64 ki, .int .i64 ra, .int .i64 rb, .int .i64 rc, .slice sa (List.length ss) cap] ∧ I64 ki ∧ I64 ra ∧ I64 rb ∧ I64 rc ∧ TextsAt W sa cap ss := by
  obtain ⟨cs, rfl, _⟩ := okWide_struct Tryd.underlying36 hv
  obtain ⟨fuel, hf⟩ := h
  obtain ⟨xs, n, _, hx, hl, hlen, hg⟩ := DataW.trod_struct Tryd.underlying36 hf
  rw [cRaw] at hl
  match xs, hlen with
  | [y0, y1, y2, y3, y4], _ =>
  have h0 := hg 0 _ rfl
  have h1 := hg 1 _ rfl
  have h2 := hg 2 _ rfl
  have h3 := hg 3 _ rfl
  have h4 := hg 4 _ rfl
  simp only [Prod.mk.injEq] at hx
  obtain ⟨rfl, rfl⟩ := hx
  obtain ⟨l⟩ := cs
  match l, hl with
  | [c0, c1, c2, c3, c4], _ =>
  obtain ⟨a0, e0, rfl, w0⟩ := DataW.trod_int Tryd.underlying3 h0
  obtain ⟨a1, e1, rfl, w1⟩ := DataW.trod_int Tryd.underlying3 h1
  obtain ⟨a2, e2, rfl, w2⟩ := DataW.trod_int Tryd.underlying3 h2
  obtain ⟨a3, e3, rfl, w3⟩ := DataW.trod_int Tryd.underlying3 h3
  obtain ⟨sa, cap, ss, e4, hs⟩ := open_texts_cells h4 (fun n hn => hfit n (by simp [DataW.weights, DataW.weightsEach, Tryd.underlying36, hn]))
  simp [cIntR, cStrsR, Value.cells] at e0 e1 e2 e3 e4
  subst e0 e1 e2 e3 e4
  exact ⟨a0, a1, a2, a3, sa, cap, ss, rfl, bounds_i64 w0, bounds_i64 w1, bounds_i64 w2, bounds_i64 w3, hs⟩
end Go.Proofs.YtmpflkggbekpfaaDoor

namespace Go.Proofs.YtmpflkggbekpfaaDoor
open Go.RowKit

set_option maxRecDepth 100000 in
theorem CertC.hat {w wx : World} {b : Nat} {ra rb rc : Int} {ba : Option Addr} {bc : Nat} {bl : List Part} {pa : Option Addr} {pc : Nat} {pl : List Part} {va : Option Addr} {vc : Nat} (H : CertC w wx b ra rb rc ba bc bl pa pc pl va vc) : HAt wx ba bc bl pa pc pl :=
  ⟨H.bat, H.par, fun sb so e => (H.offb.row sb so e).1, fun sb so e => (H.offp.row sb so e).1⟩
set_option maxRecDepth 100000 in
theorem HAt.away {w : World} {ba : Option Addr} {bc : Nat} {bl : List Part} {pa : Option Addr} {pc : Nat} {pl : List Part} {b : Nat} (h : HAt w ba bc bl pa pc pl) (h1 : Away b ba bl) (h2 : Away b pa pl) (j : Nat) (v : Value) : HAt (w.setCell ⟨b, j, none⟩ v) ba bc bl pa pc pl :=
  ⟨h.lb.away h1 j v, h.lp.away h2 j v, fun sb so e => by have := h.rb sb so e; simpa using this, fun sb so e => by have := h.rp sb so e; simpa using this⟩
set_option maxRecDepth 100000 in
theorem IntsAt.away {w : World} {va : Option Addr} {vl : List Int} {b : Nat} (h : IntsAt w va vl) (hn : ∀ sb so, va = some ⟨sb, so, none⟩ → sb ≠ b) (j : Nat) (v : Value) : IntsAt (w.setCell ⟨b, j, none⟩ v) va vl := by
  refine ⟨?_⟩
  rcases h.cells with h | ⟨sb, so, rfl, hc⟩
  · exact .inl h
  · exact .inr ⟨sb, so, rfl, fun k hk => (World.cell?_setCell_far _ _ _ _ (Ne.symm (hn sb so rfl))).trans (hc k hk)⟩
set_option maxRecDepth 100000 in
theorem IntsAt.take {w : World} {va : Option Addr} {vl : List Int} (h : IntsAt w va vl) (k : Nat) : IntsAt w va (vl.take k) := by
  refine ⟨?_⟩
  rcases h.cells with h | ⟨sb, so, rfl, hc⟩
  · left; rw [h]; simp
  · refine .inr ⟨sb, so, rfl, fun j hj => ?_⟩
    have hj2 : j < vl.length := by rw [List.length_take] at hj; omega
    have hj3 : j < k := by rw [List.length_take] at hj; omega
    rw [hc j hj2]
    simp [List.getD, hj3]
set_option maxRecDepth 100000 in
theorem IntsAt.lit {w : World} {b : Nat} {vl : List Int} (h : w.heap[b]? = some (.cells (iv vl).toArray 3 (0, 0))) : IntsAt w (some ⟨b, 0, none⟩) vl := by
  refine ⟨.inr ⟨b, 0, rfl, fun j hj => ?_⟩⟩
  rw [Nat.zero_add]
  refine cells_at h j _ ?_
  simp [iv, hj, List.getD]
set_option maxRecDepth 100000 in
/-- A store into a certificate's block leaves signs as they are. -/
theorem signs_cert {w : World} {sa : Option Addr} {ks : List Sg} (h : SignsAt w sa ks) {b : Nat} {x0 x1 : Int} {a2 a3 a4 : Option Addr} {n2 n3 n4 c2 c3 c4 : Nat} {T : TypeId} (hb : w.heap[b]? = some (.cells #[.int .i64 x0, .int .i64 x1, .slice a2 n2 c2, .slice a3 n3 c3, .slice a4 n4 c4] T (0, 0))) (j : Nat) (v : Value) : SignsAt (w.setCell ⟨b, j, none⟩ v) sa ks := by
  have hcell : ∀ i, w.cell? ⟨b, i, none⟩ = (#[.int .i64 x0, .int .i64 x1, .slice a2 n2 c2, .slice a3 n3 c3, .slice a4 n4 c4] : Array Value)[i]? := fun i => by simp [World.cell?, hb]
  refine ⟨?_, fun s hs => ⟨?_, (h.each s hs).2⟩⟩
  · rcases h.cells with h | ⟨sb, so, rfl, hc⟩
    · exact .inl h
    · refine .inr ⟨sb, so, rfl, fun k hk => ?_⟩
      obtain ⟨h0, h1, h2, h3⟩ := hc k hk
      have hne : b ≠ sb := by
        intro e
        subst e
        rw [hcell] at h2
        generalize so + k * 4 = o at h2
        match o, h2 with
        | 0, h2 => simp at h2
        | 1, h2 => simp at h2
        | 2, h2 => simp at h2
        | o + 3, h2 => simp at h2
      exact ⟨(World.cell?_setCell_far _ _ _ _ hne).trans h0, (World.cell?_setCell_far _ _ _ _ hne).trans h1, (World.cell?_setCell_far _ _ _ _ hne).trans h2, (World.cell?_setCell_far _ _ _ _ hne).trans h3⟩
  · have hs1 := (h.each s hs).1
    refine ⟨hs1.le, hs1.max, hs1.some, hs1.nil, ?_⟩
    rcases hs1.bytes with hc | ⟨sb, so, e, hc⟩
    · exact .inl hc
    · refine .inr ⟨sb, so, e, fun k hk => ?_⟩
      have h2 := hc k hk
      have hne : b ≠ sb := by
        intro e
        subst e
        rw [hcell] at h2
        generalize so + k = o at h2
        match o, h2 with
        | 0, h2 => simp at h2
        | 1, h2 => simp at h2
        | 2, h2 => simp at h2
        | 3, h2 => simp at h2
        | 4, h2 => simp at h2
        | o + 5, h2 => simp at h2
      exact (World.cell?_setCell_far _ _ _ _ hne).trans h2
set_option maxRecDepth 100000 in
theorem gtab_cert {w : World} {sa : Option Addr} {cap : Nat} {ks : List Sg} (h : GTab w sa cap ks) {b : Nat} {x0 x1 : Int} {a2 a3 a4 : Option Addr} {n2 n3 n4 c2 c3 c4 : Nat} {T : TypeId} (hb : w.heap[b]? = some (.cells #[.int .i64 x0, .int .i64 x1, .slice a2 n2 c2, .slice a3 n3 c3, .slice a4 n4 c4] T (0, 0))) (j : Nat) (v : Value) : GTab (w.setCell ⟨b, j, none⟩ v) sa cap ks :=
  ⟨h.le, h.max, h.small, h.some, signs_cert h.slots hb j v⟩
set_option maxRecDepth 100000 in
theorem votersF_two (rc : Int) : votersF ((votersL rc).take 2) = 10 ∧ ((votersL rc).take 2).length = 2 := by
  obtain ⟨p0, p1⟩ := pk_bounds rc 5 (by decide)
  unfold votersL
  generalize pk rc 5 = k at *
  have h : k = 0 ∨ k = 1 ∨ k = 2 ∨ k = 3 ∨ k = 4 := by omega
  rcases h with rfl | rfl | rfl | rfl | rfl <;> decide
end Go.Proofs.YtmpflkggbekpfaaDoor

namespace Go.Proofs.YtmpflkggbekpfaaDoor

set_option maxRecDepth 100000 in
theorem infoIntP : (Tryd.prog.info? 3).map (fun i => (i.zero, i.size, i.bytes)) = some (some (.int .i64 0), 1, 8) := by kernel_rfl
end Go.Proofs.YtmpflkggbekpfaaDoor

namespace Go.Proofs.YtmpflkggbekpfaaDoor
open Go.RowKit

set_option maxRecDepth 100000 in
theorem step_append_on {ops : Array Oper} {o : Oper} {a : Act} {w : World} {K : Act → World → Prop} {Q : Exit → Act → World → Prop} {E : Prop}
    (hw : Region.wanted o (yielded ops a.tmps) = true) (d : Nat) (hd : o.dst = some d) (s x : Operand) (t : TypeId) (ho : o.op = .call { callee := .builtin .append, args := #[s, x], argTypes := #[t, t] })
    (base : Nat) (e : TypeId) (i : TypeInfo) (z : Value) (size bytes : Nat) (ht : Tryd.prog.underlying t = some (.slice e)) (hi : Tryd.prog.info? e = some i) (hz : i.zero = some z)
    (hsize : i.size = size) (hby : i.bytes = bytes) (hzs : z.cells.size = size) (hsz : 0 < size)
    (v : Value) (n : Nat) (xs : List Value) (hs : a.eval s = v) (hown : w.ownsRow base e size v n xs)
    (ad : Addr) (m c : Nat) (news : List Value) (hx : a.eval x = .slice (some ad) m c) (hl : news.length = m * size) (hnews : ∀ j u, news[j]? = some u → w.cell? (ad.add j) = some u) (h1 : ∀ u ∈ news, u.oneCell' = true)
    (h63 : n + m ≤ maxLen) (hbytes : (n + m) * bytes ≤ 140737488355328) (hbase : base ≤ w.heap.size)
    (hK : ∀ v' w', w'.ownsRow base e size v' (n + m) (xs ++ news) → Grew w v w' v' → K (a.put (some d) v') w') :
    if Region.wanted o (yielded ops a.tmps) = true then Oper.wp Tryd.prog o a w K Q else E := by
  rw [if_pos hw]
  obtain ⟨v', w', hr, h2, h3, _, h5⟩ := run_append_own_at (P := Tryd.prog) w base t o.type e i z size bytes ht hi hz hsize hby hzs hsz v n xs hown ad m c news hl hnews h1 h63 hbytes hbase
  unfold Oper.wp execOp
  simp only [ho, resolve, invoke, builtin, Sem.run_bind, Sem.run_pure, Result.andThen_ok, List.map_toArray, List.map_cons, List.map_nil, hs, hx, hr]
  rw [Oper.upon_value, hd]
  exact hK v' w' h2 (Grew.of h3 h5)
set_option maxRecDepth 100000 in
/-- An operation behind a guard that is no call, and that turns the world. -/
theorem step_run_on {ops : Array Oper} {o : Oper} {a : Act} {w : World} {K : Act → World → Prop} {Q : Exit → Act → World → Prop} {E : Prop}
    (hw : Region.wanted o (yielded ops a.tmps) = true) (d : Nat) (hd : o.dst = some d) (v : Value) (w' : World) (hr : (execOp a.eval o).run Tryd.prog w = .ok (.value v) w') (hK : K (a.put (some d) v) w') :
    if Region.wanted o (yielded ops a.tmps) = true then Oper.wp Tryd.prog o a w K Q else E := by
  rw [if_pos hw]
  unfold Oper.wp
  rw [hr, Oper.upon_value, hd]
  exact hK
set_option maxRecDepth 100000 in
/-- A store as the operation that comes up. -/
theorem step_store {ops : Array Oper} {o : Oper} {a : Act} {w : World} {K : Act → World → Prop} {Q : Exit → Act → World → Prop} {E : Prop}
    (hg : o.guard = none) (hd : o.dst = none) (w' : World) (hr : (execOp a.eval o).run Tryd.prog w = .ok .skip w') (hK : K a w') :
    if Region.wanted o (yielded ops a.tmps) = true then Oper.wp Tryd.prog o a w K Q else E := by
  have hw : Region.wanted o (yielded ops a.tmps) = true := by simp [Region.wanted, hg]
  rw [if_pos hw]
  unfold Oper.wp
  rw [hr, Oper.upon_skip, hd]
  exact hK
end Go.Proofs.YtmpflkggbekpfaaDoor
