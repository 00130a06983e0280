/- The walk of ProvenRogue. -/
import Derived.Test.YtmpflkggbekpfaaDoorPK
import Derived.Test.YtmpflkggbekpfaaDoorOpenB
import Derived.Deep.Strs
import Derived.Test.YtmpflkggbekpfaaDoorProvenRogueM18
import Derived.Test.YtmpflkggbekpfaaDoorBase
namespace Go.Proofs.YtmpflkggbekpfaaDoor
open Go.RowKit

/-- The texts of a slice. -/
structure StrsAt (w : World) (sa : Option Addr) (ss : List ByteArray) : Prop where
  cells : ss = [] ∨ ∃ sb so, sa = some ⟨sb, so, none⟩ ∧ ∀ j, j < ss.length → w.cell? ⟨sb, so + j, none⟩ = some (.string (ss.getD j ByteArray.empty))
  size : ∀ s ∈ ss, s.size ≤ maxLen
set_option maxRecDepth 100000 in
theorem StrsAt.below {w w' : World} {sa : Option Addr} {ss : List ByteArray} (h : StrsAt w sa ss) (hb : Below w.heap.size w w') : StrsAt w' sa ss := by
  refine ⟨?_, h.size⟩
  rcases h.cells with h | ⟨sb, so, rfl, hc⟩
  · exact .inl h
  · exact .inr ⟨sb, so, rfl, fun j hj => (hb.cell (p := ⟨sb, so + j, none⟩) (block_lt_of_cell (hc j hj))).trans (hc j hj)⟩
end Go.Proofs.YtmpflkggbekpfaaDoor

namespace Go.Proofs.YtmpflkggbekpfaaDoor
open Go.ChangeShapes Go.WideShapes Go.ChangeAt Go.RowKit Go.Deep

/-- What is read of a slice of texts that came in. -/
structure TextsAt (w : World) (sa : Option Addr) (cap : Nat) (ss : List ByteArray) : Prop where
  le : ss.length ≤ cap
  reach : cap * 16 ≤ 140737488351232
  nil : sa = none → cap = 0
  strs : StrsAt w sa ss
set_option maxRecDepth 100000 in
theorem TextsAt.below {w w' : World} {sa : Option Addr} {cap : Nat} {ss : List ByteArray} (h : TextsAt w sa cap ss) (hb : Below w.heap.size w w') : TextsAt w' sa cap ss := ⟨h.le, h.reach, h.nil, h.strs.below hb⟩

set_option maxRecDepth 100000 in
theorem cStr : Tryd.prog.cellsOf 9 = 1 := by kernel_rfl
set_option maxRecDepth 100000 in
theorem bStr : Tryd.prog.bytesOf 9 = 16 := by kernel_rfl
set_option maxRecDepth 100000 in
theorem open_texts_cells {H : Type} {enc : TypeId × Value → H} {W : World} {fuel : Nat} {cs : List Value} {x : DataW H × List MemPlace}
    (hf : DataW.trod enc Tryd.prog W 0 (fun _ => true) true fuel 34 cs = some x) (hfit : ∀ n ∈ x.1.weights Tryd.prog 34, n ≤ reachBytes) :
    ∃ sa cap ss, cs = [.slice sa (List.length ss) cap] ∧ TextsAt W sa cap ss := by
  rcases open_strs Tryd.underlying34 Tryd.underlying9 cStr hf with ⟨rfl, _⟩ | ⟨a, len, cap, m, Sx, rfl, _, hl, hm, hmm, rfl, hc⟩
  · exact ⟨none, 0, [], rfl, ⟨Nat.le_refl _, by decide, fun _ => rfl, ⟨.inl rfl, fun s hs => by cases hs⟩⟩⟩
  · simp only [if_true] at hmm
    subst hmm
    have hw := hfit ((((List.range len).map fun i => (DataW.lit (.string (Sx i).data.toList) : DataW H)).length + ((List.range (m - len)).map fun j => (DataW.lit (.string (Sx (len + j)).data.toList) : DataW H)).length) * Tryd.prog.bytesOf 9) (by simp [DataW.weights, Tryd.underlying34])
    rw [bStr] at hw
    simp [reachBytes] at hw
    refine ⟨some a, m, (List.range len).map Sx, by simp, ⟨by simpa using hl, by omega, (fun e => by cases e), ⟨?_, ?_⟩⟩⟩
    · rcases Nat.eq_zero_or_pos len with h0 | h0
      · subst h0; exact .inl rfl
      · right
        have h9 := (hc 0 (by omega)).1
        obtain ⟨b, off, rfl⟩ : ∃ b off, a = ⟨b, off, none⟩ := by
          cases a with
          | mk b off spot =>
            cases spot with
            | none => exact ⟨b, off, rfl⟩
            | some s => simp [World.cell?, Addr.add] at h9; split at h9 <;> cases h9
        refine ⟨b, off, rfl, fun j hj => ?_⟩
        have hj' : j < len := by simpa using hj
        have := (hc j (by omega)).1
        rw [add_off] at this
        rw [this]
        simp [hj']
    · intro s hs
      simp at hs
      obtain ⟨j, hj, rfl⟩ := hs
      exact (hc j (by omega)).2
end Go.Proofs.YtmpflkggbekpfaaDoor

namespace Go.Proofs.YtmpflkggbekpfaaDoor
open Go.ChangeShapes Go.WideShapes Go.ChangeAt Go.RowKit Go.Deep

set_option maxRecDepth 100000 in
theorem cRaw : Tryd.prog.cellsOf 36 = 5 := by kernel_rfl
set_option maxRecDepth 100000 in
theorem cIntR : Tryd.prog.cellsOf 3 = 1 := by kernel_rfl
set_option maxRecDepth 100000 in
theorem cStrsR : Tryd.prog.cellsOf 34 = 1 := by kernel_rfl
set_option maxRecDepth 100000 in
theorem open_raw {H : Type} {enc : TypeId × Value → H} {W : World} {base : Nat} {v : Value} {d : DataW H} {p : List MemPlace}
    (hv : Value.okWide Tryd.prog W .any base 36 v) (h : DataW.Trod enc Tryd.prog W 0 (fun _ => true) true 36 v d p) (hfit : ∀ n ∈ d.weights Tryd.prog 36, n ≤ reachBytes) :
    ∃ ki ra rb rc sa cap ss, v = .agg #[.int .i64 ki, .int .i64 ra, .int .i64 rb, .int .i64 rc, .slice sa (List.length ss) cap] ∧ I64 ki ∧ I64 ra ∧ I64 rb ∧ I64 rc ∧ TextsAt W sa cap ss := by
  obtain ⟨cs, rfl, _⟩ := okWide_struct Tryd.underlying36 hv
  obtain ⟨fuel, hf⟩ := h
  obtain ⟨xs, n, _, hx, hl, hlen, hg⟩ := DataW.trod_struct Tryd.underlying36 hf
  rw [cRaw] at hl
  match xs, hlen with
  | [y0, y1, y2, y3, y4], _ =>
  have h0 := hg 0 _ rfl
  have h1 := hg 1 _ rfl
  have h2 := hg 2 _ rfl
  have h3 := hg 3 _ rfl
  have h4 := hg 4 _ rfl
  simp only [Prod.mk.injEq] at hx
  obtain ⟨rfl, rfl⟩ := hx
  obtain ⟨l⟩ := cs
  match l, hl with
  | [c0, c1, c2, c3, c4], _ =>
  obtain ⟨a0, e0, rfl, w0⟩ := DataW.trod_int Tryd.underlying3 h0
  obtain ⟨a1, e1, rfl, w1⟩ := DataW.trod_int Tryd.underlying3 h1
  obtain ⟨a2, e2, rfl, w2⟩ := DataW.trod_int Tryd.underlying3 h2
  obtain ⟨a3, e3, rfl, w3⟩ := DataW.trod_int Tryd.underlying3 h3
  obtain ⟨sa, cap, ss, e4, hs⟩ := open_texts_cells h4 (fun n hn => hfit n (by simp [DataW.weights, DataW.weightsEach, Tryd.underlying36, hn]))
  simp [cIntR, cStrsR, Value.cells] at e0 e1 e2 e3 e4
  subst e0 e1 e2 e3 e4
  exact ⟨a0, a1, a2, a3, sa, cap, ss, rfl, bounds_i64 w0, bounds_i64 w1, bounds_i64 w2, bounds_i64 w3, hs⟩
end Go.Proofs.YtmpflkggbekpfaaDoor

namespace Go.Proofs.YtmpflkggbekpfaaDoor
open Go.RowKit

set_option maxRecDepth 100000 in
theorem CertC.hat {w wx : World} {b : Nat} {ra rb rc : Int} {ba : Option Addr} {bc : Nat} {bl : List Part} {pa : Option Addr} {pc : Nat} {pl : List Part} {va : Option Addr} {vc : Nat} (H : CertC w wx b ra rb rc ba bc bl pa pc pl va vc) : HAt wx ba bc bl pa pc pl :=
  ⟨H.bat, H.par, fun sb so e => (H.offb.row sb so e).1, fun sb so e => (H.offp.row sb so e).1⟩
set_option maxRecDepth 100000 in
theorem HAt.away {w : World} {ba : Option Addr} {bc : Nat} {bl : List Part} {pa : Option Addr} {pc : Nat} {pl : List Part} {b : Nat} (h : HAt w ba bc bl pa pc pl) (h1 : Away b ba bl) (h2 : Away b pa pl) (j : Nat) (v : Value) : HAt (w.setCell ⟨b, j, none⟩ v) ba bc bl pa pc pl :=
  ⟨h.lb.away h1 j v, h.lp.away h2 j v, fun sb so e => by have := h.rb sb so e; simpa using this, fun sb so e => by have := h.rp sb so e; simpa using this⟩
set_option maxRecDepth 100000 in
theorem IntsAt.away {w : World} {va : Option Addr} {vl : List Int} {b : Nat} (h : IntsAt w va vl) (hn : ∀ sb so, va = some ⟨sb, so, none⟩ → sb ≠ b) (j : Nat) (v : Value) : IntsAt (w.setCell ⟨b, j, none⟩ v) va vl := by
  refine ⟨?_⟩
  rcases h.cells with h | ⟨sb, so, rfl, hc⟩
  · exact .inl h
  · exact .inr ⟨sb, so, rfl, fun k hk => (World.cell?_setCell_far _ _ _ _ (Ne.symm (hn sb so rfl))).trans (hc k hk)⟩
set_option maxRecDepth 100000 in
theorem IntsAt.take {w : World} {va : Option Addr} {vl : List Int} (h : IntsAt w va vl) (k : Nat) : IntsAt w va (vl.take k) := by
  refine ⟨?_⟩
  rcases h.cells with h | ⟨sb, so, rfl, hc⟩
  · left; rw [h]; simp
  · refine .inr ⟨sb, so, rfl, fun j hj => ?_⟩
    have hj2 : j < vl.length := by rw [List.length_take] at hj; omega
    have hj3 : j < k := by rw [List.length_take] at hj; omega
    rw [hc j hj2]
    simp [List.getD, hj3]
set_option maxRecDepth 100000 in
theorem IntsAt.lit {w : World} {b : Nat} {vl : List Int} (h : w.heap[b]? = some (.cells (iv vl).toArray 3 (0, 0))) : IntsAt w (some ⟨b, 0, none⟩) vl := by
  refine ⟨.inr ⟨b, 0, rfl, fun j hj => ?_⟩⟩
  rw [Nat.zero_add]
  refine cells_at h j _ ?_
  simp [iv, hj, List.getD]
set_option maxRecDepth 100000 in
/-- A store into a certificate's block leaves signs as they are. -/
theorem signs_cert {w : World} {sa : Option Addr} {ks : List Sg} (h : SignsAt w sa ks) {b : Nat} {x0 x1 : Int} {a2 a3 a4 : Option Addr} {n2 n3 n4 c2 c3 c4 : Nat} {T : TypeId} (hb : w.heap[b]? = some (.cells #[.int .i64 x0, .int .i64 x1, .slice a2 n2 c2, .slice a3 n3 c3, .slice a4 n4 c4] T (0, 0))) (j : Nat) (v : Value) : SignsAt (w.setCell ⟨b, j, none⟩ v) sa ks := by
  have hcell : ∀ i, w.cell? ⟨b, i, none⟩ = (#[.int .i64 x0, .int .i64 x1, .slice a2 n2 c2, .slice a3 n3 c3, .slice a4 n4 c4] : Array Value)[i]? := fun i => by simp [World.cell?, hb]
  refine ⟨?_, fun s hs => ⟨?_, (h.each s hs).2⟩⟩
  · rcases h.cells with h | ⟨sb, so, rfl, hc⟩
    · exact .inl h
    · refine .inr ⟨sb, so, rfl, fun k hk => ?_⟩
      obtain ⟨h0, h1, h2, h3⟩ := hc k hk
      have hne : b ≠ sb := by
        intro e
        subst e
        rw [hcell] at h2
        generalize so + k * 4 = o at h2
        match o, h2 with
        | 0, h2 => simp at h2
        | 1, h2 => simp at h2
        | 2, h2 => simp at h2
        | o + 3, h2 => simp at h2
      exact ⟨(World.cell?_setCell_far _ _ _ _ hne).trans h0, (World.cell?_setCell_far _ _ _ _ hne).trans h1, (World.cell?_setCell_far _ _ _ _ hne).trans h2, (World.cell?_setCell_far _ _ _ _ hne).trans h3⟩
  · have hs1 := (h.each s hs).1
    refine ⟨hs1.le, hs1.max, hs1.some, hs1.nil, ?_⟩
    rcases hs1.bytes with hc | ⟨sb, so, e, hc⟩
    · exact .inl hc
    · refine .inr ⟨sb, so, e, fun k hk => ?_⟩
      have h2 := hc k hk
      have hne : b ≠ sb := by
        intro e
        subst e
        rw [hcell] at h2
        generalize so + k = o at h2
        match o, h2 with
        | 0, h2 => simp at h2
        | 1, h2 => simp at h2
        | 2, h2 => simp at h2
        | 3, h2 => simp at h2
        | 4, h2 => simp at h2
        | o + 5, h2 => simp at h2
      exact (World.cell?_setCell_far _ _ _ _ hne).trans h2
set_option maxRecDepth 100000 in
theorem gtab_cert {w : World} {sa : Option Addr} {cap : Nat} {ks : List Sg} (h : GTab w sa cap ks) {b : Nat} {x0 x1 : Int} {a2 a3 a4 : Option Addr} {n2 n3 n4 c2 c3 c4 : Nat} {T : TypeId} (hb : w.heap[b]? = some (.cells #[.int .i64 x0, .int .i64 x1, .slice a2 n2 c2, .slice a3 n3 c3, .slice a4 n4 c4] T (0, 0))) (j : Nat) (v : Value) : GTab (w.setCell ⟨b, j, none⟩ v) sa cap ks :=
  ⟨h.le, h.max, h.small, h.some, signs_cert h.slots hb j v⟩
set_option maxRecDepth 100000 in
theorem votersF_two (rc : Int) : votersF ((votersL rc).take 2) = 10 ∧ ((votersL rc).take 2).length = 2 := by
  obtain ⟨p0, p1⟩ := pk_bounds rc 5 (by decide)
  unfold votersL
  generalize pk rc 5 = k at *
  have h : k = 0 ∨ k = 1 ∨ k = 2 ∨ k = 3 ∨ k = 4 := by omega
  rcases h with rfl | rfl | rfl | rfl | rfl <;> decide
end Go.Proofs.YtmpflkggbekpfaaDoor

namespace Go.Proofs.YtmpflkggbekpfaaDoor

set_option maxRecDepth 100000 in
theorem infoIntP : (Tryd.prog.info? 3).map (fun i => (i.zero, i.size, i.bytes)) = some (some (.int .i64 0), 1, 8) := by kernel_rfl
end Go.Proofs.YtmpflkggbekpfaaDoor

namespace Go.Proofs.YtmpflkggbekpfaaDoor
open Go.RowKit

set_option maxRecDepth 100000 in
theorem headerF_author {au au' rd : Int} {bl pl : List Part} (h : headerF au rd bl pl = 0) (ha : 0 ≤ au' ∧ au' < 4) : headerF au' rd bl pl = 0 := by
  obtain ⟨z1, z2, z3, z4, _, _⟩ := headerF_ok h
  unfold headerF at h ⊢
  rw [if_neg (by omega)] at h ⊢
  exact h
set_option maxRecDepth 100000 in
theorem prov_sgL {au rd bad : Int} {bl pl : List Part} {nodes vl : List Int} (hF : headerF au rd bl pl = 0) (hn : ∀ x ∈ nodes, 0 ≤ x ∧ x < 4) (hb : -1 ≤ bad ∧ bad ≤ 3) :
    provF (sgL au rd (hDig au rd bl pl) nodes) bad au rd 0 (hDig au rd bl pl) vl = if ((decide (au ≠ bad) && !decide (au ∈ nodes)) || vl.any fun nd => decide (nd ≠ bad) && !decide (nd ∈ nodes)) then 11 else 0 := by
  have h : lacksF (sgL au rd (hDig au rd bl pl) nodes) bad au rd (hDig au rd bl pl) = fun nd => decide (nd ≠ bad) && !decide (nd ∈ nodes) := by
    funext nd; exact lacks_sgL _ _ _ _ _ _
  rw [provF, if_neg (by simpa using setF_ok (bad := bad) (sgL_ok hF hn) hb), if_neg (by decide), h]
set_option maxRecDepth 100000 in
theorem certF_of {au rd : Int} {bl pl : List Part} {vl : List Int} (hF : headerF au rd bl pl = 0) (hv : votersF vl = 0) (hl : vl.length ≤ 4) : certF au rd bl pl vl = 0 := by
  rw [certF, if_neg (by simpa using hF), if_neg (by omega), hv]
set_option maxRecDepth 100000 in
theorem rogue_one (k : Int) (h : k = 0 ∨ k = 1 ∨ k = 2 ∨ k = 3) : votersF (without ((k + 1) % 4) 4) = 0 ∧ (without ((k + 1) % 4) 4).length = 3 := by
  rcases h with rfl | rfl | rfl | rfl <;> decide

set_option maxRecDepth 100000 in
set_option maxHeartbeats 8000000 in
theorem provenRogue_walk (ki ra rb rc : Int) (sa : Option Addr) (cap : Nat) (ss : List ByteArray) (wh : Int) (w : World) (_h1 : I64 ki) (h2 : I64 ra) (h3 : I64 rb) (h4 : I64 rc) (_h5 : TextsAt w sa cap ss) (h60 : -9223372036854775808 ≤ wh) (h61 : wh ≤ 9223372036854775807) (hT : Tabs w) :
    Calls Tryd.prog 7 #[.agg #[.int .i64 ki, .int .i64 ra, .int .i64 rb, .int .i64 rc, .slice sa ss.length cap], .int .i64 wh] w fun e w' => e = .returned (.bool true) ∧ Below w.heap.size w w' := by
  have HH : Hid _ := header_raw2 ki ra rb rc sa ss.length cap
  have pw := pk_bounds wh 4 (by decide)
  have HB := (Below.refl w.heap.size w).alloc (Nat.le_refl _) (.cells #[.int .i64 ki, .int .i64 ra, .int .i64 rb, .int .i64 rc, .slice sa ss.length cap] 36)
  have q0 := heap_alloc_new w (.cells #[.int .i64 ki, .int .i64 ra, .int .i64 rb, .int .i64 rc, .slice sa ss.length cap] 36)
  obtain ⟨i, hi, hz0, hz1, hz2⟩ := info_parts infoIntP
  go_enter Tryd.func7, Tryd.ntmps7
  go_wp2_with fail
  generalize w.alloc (.cells #[.int .i64 ki, .int .i64 ra, .int .i64 rb, .int .i64 rc, .slice sa ss.length cap] 36) = W0 at HB q0 ⊢
  refine (picked_any wh 4 W0 h60 h61 (by decide) (by decide)).mono ?_
  rintro e wq ⟨he, hwq⟩
  subst he hwq
  dsimp only
  generalize pk wh 4 = k at *
  have q0_0 := cells_at q0 0 _ rfl
  have q0_1 := cells_at q0 1 _ rfl
  have q0_2 := cells_at q0 2 _ rfl
  have q0_3 := cells_at q0 3 _ rfl
  have q0_4 := cells_at q0 4 _ rfl
  go_wp2_with fail
  refine (HH.out W0 h2 h3 h4).mono ?_
  rintro e w2 ⟨ba, bc, bl, pa, pc, pl, he, hLb, hLp, hOb, hOp, hbs, hps, hb2, _, _⟩
  subst he
  dsimp only
  clear q0_0 q0_1 q0_2 q0_3 q0_4 HH
  have hF0 := headerF_raw ra rb rc bl pl hbs hps
  have HF : Hid (headerF k (1 + pk rb 9) bl pl = 0) := headerF_author hF0 pw
  have hat : HAt w2 ba bc bl pa pc pl := ⟨hLb, hLp, fun sb so e => (hOb.row sb so e).1, fun sb so e => (hOp.row sb so e).1⟩
  clear hF0 hbs hps hLb hLp hOb hOp q0
  replace HB := HB.trans (hb2.mono HB.size)
  generalize 1 + pk rb 9 = rd at *
  have qb := heap_alloc_new w2 (.cells #[.int .i64 k, .int .i64 rd, .slice ba bl.length bc, .slice pa pl.length pc, .slice none 0 0] 28)
  have hb3 := (Below.refl w2.heap.size w2).alloc (Nat.le_refl _) (.cells #[.int .i64 k, .int .i64 rd, .slice ba bl.length bc, .slice pa pl.length pc, .slice none 0 0] 28)
  go_wp2_with fail
  generalize hW3 : w2.alloc (.cells #[.int .i64 k, .int .i64 rd, .slice ba bl.length bc, .slice pa pl.length pc, .slice none 0 0] 28) = W3 at qb hb3 ⊢
  clear hW3
  have hk4 : k = 0 ∨ k = 1 ∨ k = 2 ∨ k = 3 := by omega
  have hbW : w.heap.size ≤ w2.heap.size := HB.size
  rcases hk4 with hk | hk | hk | hk
  · subst hk
    have hvo : votersF (without 1 4) = 0 ∧ (without 1 4).length = 3 := by decide
    go_loopw [7] (fun i wr => ∃ (j : Nat) (v : Value), j ≤ 4 ∧ i = .int .i64 j ∧ wr.heap[w2.heap.size]? = some (.cells #[.int .i64 0, .int .i64 rd, .slice ba bl.length bc, .slice pa pl.length pc, v] 28 (0, 0)) ∧ wr.ownsRow (w2.heap.size + 1) 3 1 v (without 1 j).length (iv (without 1 j)) ∧ Below w2.heap.size w2 wr) (fun i _ => 4 - (intOf i).toNat)
    case atStart => exact ⟨0, _, Nat.zero_le _, rfl, qb, World.ownsRow_nil _ _ _ _, hb3⟩
    case round =>
      obtain ⟨j, v, hj, rfl, qr, ho, hb⟩ := hrel
      obtain ⟨ua, uc, hv⟩ := owns_shape ho
      subst hv
      have e0 := cells_at qr 0 _ rfl
      have e1 := cells_at qr 1 _ rfl
      have e2 := cells_at qr 2 _ rfl
      have e3 := cells_at qr 3 _ rfl
      have e4 := cells_at qr 4 _ rfl
      have f4 := frozen_at qr 4
      have hqlt := lt_of_heap qr
      by_cases hlt : j < 4
      · have hltI : (j : Int) < 4 := by omega
        by_cases hjo : (j : Int) = 1
        · have hst : without 1 (j + 1) = without 1 j := by rw [without, if_pos hjo]
          have HST : Hid _ := hst
          have hjn : ((j : Int) != 1) = false := by simpa using hjo
          clear hst hjo
          go_wp2_with fail
          go_roundw
          case rel => exact ⟨j + 1, _, by omega, by go_num, qr, by rw [HST.out]; exact ho, hb⟩
          case measure => simp [intOf]; omega
        · have hst : without 1 (j + 1) = without 1 j ++ [(j : Int)] := by rw [without, if_neg hjo]
          have HST : Hid _ := hst
          have hjn : ((j : Int) != 1) = true := by simpa using hjo
          have hwl := without_le 1 j
          clear hst hjo
          have qr1 := heap_keep (o := .cells #[.int .i64 j] 3) qr
          have g4 := cells_at qr1 4 _ rfl
          have y4 := frozen_at qr1 4
          have hob := World.ownsRow.alloc ho (.cells #[.int .i64 j] 3)
          have hnew := cells_new wr [.int .i64 (j : Int)] 3
          go_wp2_with (at_builtin; refine wpList_append_own_at _ rfl _ _ 26 rfl (w2.heap.size + 1) 3 i (.int .i64 0) 1 8 Tryd.underlying26 hi hz0 hz1 hz2 rfl (by decide) _ (without 1 j).length _ rfl hob ⟨wr.heap.size, 0, none⟩ 1 1 [.int .i64 (j : Int)] rfl rfl hnew (by intro u hu; simp at hu; subst hu; rfl) (by unfold maxLen; omega) (by omega) (by rw [size_alloc]; have := hb.size; omega) ?_; intro v1 w4 ho4 hg4 _ hat4; obtain ⟨va4, vc4, hv4⟩ := owns_shape ho4; subst hv4; have q4 := (hg4.block _ (lt_of_heap qr1) (by intro e; have := (hob.lt _ e.symm).1; omega)).trans qr1; have d4 := cells_at q4 4 _ rfl; have z4 := frozen_at q4 4)
          have hb4 := Below.grown (hb.alloc hb.size (.cells #[.int .i64 (j : Int)] 3)) hg4 (le_alloc hb.size _) (fun q e => by have := (hob.lt q e).1; omega)
          have q5 : (w4.setCell ⟨w2.heap.size, 4, none⟩ (.slice va4 ((without 1 j).length + 1) vc4)).heap[w2.heap.size]? = some (.cells #[.int .i64 0, .int .i64 rd, .slice ba bl.length bc, .slice pa pl.length pc, .slice va4 ((without 1 j).length + 1) vc4] 28 (0, 0)) := by simpa using heap_setCell_same _ _ 4 _ _ _ q4
          have ho5 : (w4.setCell ⟨w2.heap.size, 4, none⟩ (.slice va4 ((without 1 j).length + 1) vc4)).ownsRow (w2.heap.size + 1) 3 1 (.slice va4 ((without 1 j).length + 1) vc4) (without 1 (j + 1)).length (iv (without 1 (j + 1))) := by
            rw [HST.out]
            refine owns_away ?_ _ _ _ (fun e => by have := (ho4.lt _ e).1; omega)
            simpa [iv] using ho4
          have hb5 := hb4.setCell (p := ⟨w2.heap.size, 4, none⟩) (Nat.le_refl _) (.slice va4 ((without 1 j).length + 1) vc4)
          go_wp2_with fail
          go_roundw
          case rel => exact ⟨j + 1, _, by omega, by go_num, q5, ho5, hb5⟩
          case measure => simp [intOf]; omega
      · obtain rfl : j = 4 := by omega
        obtain ⟨va, vc, hv, _, hvi, _⟩ := intsAt_of_owns ho
        cases hv
        clear e0 e1 e2 e3 e4 f4
        rw [hvo.2] at qr
        have HVO : Hid (votersF (without 1 4) = 0 ∧ (without 1 4).length = 3) := hvo
        replace hat := hat.below hb
        replace HB := HB.trans (hb.mono HB.size)
        clear hvo ho hb hb3 qb
        have HVE : Hid (without 1 4 = [0, 2, 3]) := by show _ = _; decide
        rw [HVE.out] at hvi
        have hc0 : certF 0 rd bl pl [0, 2, 3] = 0 := certF_of HF.out (by decide) (by decide)
        have HC0 : Hid _ := hc0
        clear hc0 HVO HVE
        have hA1 := (Below.refl wr.heap.size wr).alloc (Nat.le_refl _) (.cells #[.int .i64 2] 3)
        have qnX := heap_alloc_new wr (.cells #[.int .i64 2] 3)
        have kb := heap_keep (o := .cells #[.int .i64 2] 3) qr
        have kb0 := cells_at kb 0 _ rfl
        have kb1 := cells_at kb 1 _ rfl
        have kb2 := cells_at kb 2 _ rfl
        have kb3 := cells_at kb 3 _ rfl
        have kb4 := cells_at kb 4 _ rfl
        have qr_c0 := cells_at qr 0 _ rfl
        have qr_c1 := cells_at qr 1 _ rfl
        have qr_c2 := cells_at qr 2 _ rfl
        have qr_c3 := cells_at qr 3 _ rfl
        have qr_c4 := cells_at qr 4 _ rfl
        go_wp2_with fail
        clear qr_c0 qr_c1 qr_c2 qr_c3 qr_c4
        clear kb0 kb1 kb2 kb3 kb4 kb
        generalize hG : wr.alloc (.cells #[.int .i64 2] 3) = waX at hA1 qnX ⊢
        clear hG
        replace qr := (hA1.block _ (lt_of_heap qr)).trans qr
        replace hat := hat.below hA1
        replace hvi := hvi.below hA1
        replace HB := HB.trans (hA1.mono HB.size)
        generalize hNB : wr.heap.size = NBX at qnX ⊢
        clear hNB
        refine (signedBy_any 0 rd ba bc bl pa pc pl (some ⟨NBX, 0, none⟩) 1 1 [2] waX rfl hat HF.out (IntsAt.lit qnX) (by decide) (by decide) (hT.below HB)).mono ?_
        rintro e w6 ⟨raX, rcX, ksX, he, hksX, hGX, hbX⟩
        subst he
        dsimp only
        replace qr := (hbX.block _ (lt_of_heap qr)).trans qr
        replace hat := hat.below hbX
        replace hvi := hvi.below hbX
        replace HB := HB.trans (hbX.mono HB.size)
        have HKX : Hid (gvs ksX = sgL 0 rd (hDig 0 rd bl pl) [2]) := hksX
        clear hksX
        have hA2 := (Below.refl w6.heap.size w6).alloc (Nat.le_refl _) (.cells #[.int .i64 2, .int .i64 3] 3)
        have qnY := heap_alloc_new w6 (.cells #[.int .i64 2, .int .i64 3] 3)
        have kb := heap_keep (o := .cells #[.int .i64 2, .int .i64 3] 3) qr
        have kb0 := cells_at kb 0 _ rfl
        have kb1 := cells_at kb 1 _ rfl
        have kb2 := cells_at kb 2 _ rfl
        have kb3 := cells_at kb 3 _ rfl
        have kb4 := cells_at kb 4 _ rfl
        have qr_c0 := cells_at qr 0 _ rfl
        have qr_c1 := cells_at qr 1 _ rfl
        have qr_c2 := cells_at qr 2 _ rfl
        have qr_c3 := cells_at qr 3 _ rfl
        have qr_c4 := cells_at qr 4 _ rfl
        go_wp2_with fail
        clear qr_c0 qr_c1 qr_c2 qr_c3 qr_c4
        clear kb0 kb1 kb2 kb3 kb4 kb
        generalize hG : w6.alloc (.cells #[.int .i64 2, .int .i64 3] 3) = waY at hA2 qnY ⊢
        clear hG
        replace qr := (hA2.block _ (lt_of_heap qr)).trans qr
        replace hat := hat.below hA2
        replace hvi := hvi.below hA2
        replace hGX := hGX.below hA2
        replace HB := HB.trans (hA2.mono HB.size)
        generalize hNB : w6.heap.size = NBY at qnY ⊢
        clear hNB
        refine (signedBy_any 0 rd ba bc bl pa pc pl (some ⟨NBY, 0, none⟩) 2 2 [2, 3] waY rfl hat HF.out (IntsAt.lit qnY) (by decide) (by decide) (hT.below HB)).mono ?_
        rintro e w7 ⟨raY, rcY, ksY, he, hksY, hGY, hbY⟩
        subst he
        dsimp only
        replace qr := (hbY.block _ (lt_of_heap qr)).trans qr
        replace hat := hat.below hbY
        replace hvi := hvi.below hbY
        replace hGX := hGX.below hbY
        replace HB := HB.trans (hbY.mono HB.size)
        have HKY : Hid (gvs ksY = sgL 0 rd (hDig 0 rd bl pl) [2, 3]) := hksY
        clear hksY
        obtain ⟨VX, hVX⟩ : ∃ l : List Int, l = [0, 2, 3] := ⟨_, rfl⟩
        have hlx : VX.length = 3 := by rw [hVX]; rfl
        rw [← hVX] at hvi
        have HVX : Hid (VX = [0, 2, 3]) := hVX
        clear hVX
        have PV0 : provF (gvs []) 0 0 rd (certF 0 rd bl pl VX) (hDig 0 rd bl pl) VX = 11 := by
          rw [HVX.out, show gvs [] = sgL 0 rd (hDig 0 rd bl pl) [] from rfl, HC0.out, prov_sgL HF.out (by decide) (by decide)]
          decide
        have PVX : provF (gvs ksX) 0 0 rd (certF 0 rd bl pl VX) (hDig 0 rd bl pl) VX = 11 := by
          rw [HVX.out, HKX.out, HC0.out, prov_sgL HF.out (by decide) (by decide)]
          decide
        have PVY : provF (gvs ksY) 0 0 rd (certF 0 rd bl pl VX) (hDig 0 rd bl pl) VX = 0 := by
          rw [HVX.out, HKY.out, HC0.out, prov_sgL HF.out (by decide) (by decide)]
          decide
        have C0 := fun W (hW : Below w7.heap.size w7 W) => proven_any [] none 0 0 0 0 rd ba bc bl pa pc pl ua uc VX W rfl (by decide) ⟨.inl rfl, fun s hs => by cases hs⟩ (hat.below hW) (hvi.below hW) (by omega) (hT.below (HB.trans (hW.mono HB.size)))
        have CX := fun W (hW : Below w7.heap.size w7 W) => proven_any ksX raX _ rcX 0 0 rd ba bc bl pa pc pl ua uc VX W rfl hGX.small (hGX.slots.below hW) (hat.below hW) (hvi.below hW) (by omega) (hT.below (HB.trans (hW.mono HB.size)))
        have CY := fun W (hW : Below w7.heap.size w7 W) => proven_any ksY raY _ rcY 0 0 rd ba bc bl pa pc pl ua uc VX W rfl hGY.small (hGY.slots.below hW) (hat.below hW) (hvi.below hW) (by omega) (hT.below (HB.trans (hW.mono HB.size)))
        rw [PV0, hlx] at C0
        rw [PVX, hlx] at CX
        rw [PVY, hlx] at CY
        clear PV0 PVX PVY HKX HKY hlx
        have HX := Below.refl w7.heap.size w7
        have q_ := (HX.block _ (lt_of_heap qr)).trans qr
        have q_0 := cells_at q_ 0 _ rfl
        have q_1 := cells_at q_ 1 _ rfl
        have q_2 := cells_at q_ 2 _ rfl
        have q_3 := cells_at q_ 3 _ rfl
        have q_4 := cells_at q_ 4 _ rfl
        go_wp2_with fail
        refine (C0 _ HX).mono ?_
        rintro e w8 ⟨he, hbx⟩
        subst he
        dsimp only
        clear q_0 q_1 q_2 q_3 q_4 q_
        replace HX := HX.trans (hbx.mono HX.size)
        clear hbx
        have q_ := (HX.block _ (lt_of_heap qr)).trans qr
        have q_0 := cells_at q_ 0 _ rfl
        have q_1 := cells_at q_ 1 _ rfl
        have q_2 := cells_at q_ 2 _ rfl
        have q_3 := cells_at q_ 3 _ rfl
        have q_4 := cells_at q_ 4 _ rfl
        go_wp2_with fail
        refine (CX _ HX).mono ?_
        rintro e w9 ⟨he, hbx⟩
        subst he
        dsimp only
        clear q_0 q_1 q_2 q_3 q_4 q_
        replace HX := HX.trans (hbx.mono HX.size)
        clear hbx
        have q_ := (HX.block _ (lt_of_heap qr)).trans qr
        have q_0 := cells_at q_ 0 _ rfl
        have q_1 := cells_at q_ 1 _ rfl
        have q_2 := cells_at q_ 2 _ rfl
        have q_3 := cells_at q_ 3 _ rfl
        have q_4 := cells_at q_ 4 _ rfl
        go_wp2_with fail
        refine (CY _ HX).mono ?_
        rintro e w10 ⟨he, hbx⟩
        subst he
        dsimp only
        clear q_0 q_1 q_2 q_3 q_4 q_
        replace HX := HX.trans (hbx.mono HX.size)
        clear hbx
        go_wp2_with fail
        go_ret
        exact ⟨by first | rfl | simp, HB.trans (HX.mono HB.size)⟩
  · subst hk
    have hvo : votersF (without 2 4) = 0 ∧ (without 2 4).length = 3 := by decide
    go_loopw [7] (fun i wr => ∃ (j : Nat) (v : Value), j ≤ 4 ∧ i = .int .i64 j ∧ wr.heap[w2.heap.size]? = some (.cells #[.int .i64 1, .int .i64 rd, .slice ba bl.length bc, .slice pa pl.length pc, v] 28 (0, 0)) ∧ wr.ownsRow (w2.heap.size + 1) 3 1 v (without 2 j).length (iv (without 2 j)) ∧ Below w2.heap.size w2 wr) (fun i _ => 4 - (intOf i).toNat)
    case atStart => exact ⟨0, _, Nat.zero_le _, rfl, qb, World.ownsRow_nil _ _ _ _, hb3⟩
    case round =>
      obtain ⟨j, v, hj, rfl, qr, ho, hb⟩ := hrel
      obtain ⟨ua, uc, hv⟩ := owns_shape ho
      subst hv
      have e0 := cells_at qr 0 _ rfl
      have e1 := cells_at qr 1 _ rfl
      have e2 := cells_at qr 2 _ rfl
      have e3 := cells_at qr 3 _ rfl
      have e4 := cells_at qr 4 _ rfl
      have f4 := frozen_at qr 4
      have hqlt := lt_of_heap qr
      by_cases hlt : j < 4
      · have hltI : (j : Int) < 4 := by omega
        by_cases hjo : (j : Int) = 2
        · have hst : without 2 (j + 1) = without 2 j := by rw [without, if_pos hjo]
          have HST : Hid _ := hst
          have hjn : ((j : Int) != 2) = false := by simpa using hjo
          clear hst hjo
          go_wp2_with fail
          go_roundw
          case rel => exact ⟨j + 1, _, by omega, by go_num, qr, by rw [HST.out]; exact ho, hb⟩
          case measure => simp [intOf]; omega
        · have hst : without 2 (j + 1) = without 2 j ++ [(j : Int)] := by rw [without, if_neg hjo]
          have HST : Hid _ := hst
          have hjn : ((j : Int) != 2) = true := by simpa using hjo
          have hwl := without_le 2 j
          clear hst hjo
          have qr1 := heap_keep (o := .cells #[.int .i64 j] 3) qr
          have g4 := cells_at qr1 4 _ rfl
          have y4 := frozen_at qr1 4
          have hob := World.ownsRow.alloc ho (.cells #[.int .i64 j] 3)
          have hnew := cells_new wr [.int .i64 (j : Int)] 3
          go_wp2_with (at_builtin; refine wpList_append_own_at _ rfl _ _ 26 rfl (w2.heap.size + 1) 3 i (.int .i64 0) 1 8 Tryd.underlying26 hi hz0 hz1 hz2 rfl (by decide) _ (without 2 j).length _ rfl hob ⟨wr.heap.size, 0, none⟩ 1 1 [.int .i64 (j : Int)] rfl rfl hnew (by intro u hu; simp at hu; subst hu; rfl) (by unfold maxLen; omega) (by omega) (by rw [size_alloc]; have := hb.size; omega) ?_; intro v1 w4 ho4 hg4 _ hat4; obtain ⟨va4, vc4, hv4⟩ := owns_shape ho4; subst hv4; have q4 := (hg4.block _ (lt_of_heap qr1) (by intro e; have := (hob.lt _ e.symm).1; omega)).trans qr1; have d4 := cells_at q4 4 _ rfl; have z4 := frozen_at q4 4)
          have hb4 := Below.grown (hb.alloc hb.size (.cells #[.int .i64 (j : Int)] 3)) hg4 (le_alloc hb.size _) (fun q e => by have := (hob.lt q e).1; omega)
          have q5 : (w4.setCell ⟨w2.heap.size, 4, none⟩ (.slice va4 ((without 2 j).length + 1) vc4)).heap[w2.heap.size]? = some (.cells #[.int .i64 1, .int .i64 rd, .slice ba bl.length bc, .slice pa pl.length pc, .slice va4 ((without 2 j).length + 1) vc4] 28 (0, 0)) := by simpa using heap_setCell_same _ _ 4 _ _ _ q4
          have ho5 : (w4.setCell ⟨w2.heap.size, 4, none⟩ (.slice va4 ((without 2 j).length + 1) vc4)).ownsRow (w2.heap.size + 1) 3 1 (.slice va4 ((without 2 j).length + 1) vc4) (without 2 (j + 1)).length (iv (without 2 (j + 1))) := by
            rw [HST.out]
            refine owns_away ?_ _ _ _ (fun e => by have := (ho4.lt _ e).1; omega)
            simpa [iv] using ho4
          have hb5 := hb4.setCell (p := ⟨w2.heap.size, 4, none⟩) (Nat.le_refl _) (.slice va4 ((without 2 j).length + 1) vc4)
          go_wp2_with fail
          go_roundw
          case rel => exact ⟨j + 1, _, by omega, by go_num, q5, ho5, hb5⟩
          case measure => simp [intOf]; omega
      · obtain rfl : j = 4 := by omega
        obtain ⟨va, vc, hv, _, hvi, _⟩ := intsAt_of_owns ho
        cases hv
        clear e0 e1 e2 e3 e4 f4
        rw [hvo.2] at qr
        have HVO : Hid (votersF (without 2 4) = 0 ∧ (without 2 4).length = 3) := hvo
        replace hat := hat.below hb
        replace HB := HB.trans (hb.mono HB.size)
        clear hvo ho hb hb3 qb
        have HVE : Hid (without 2 4 = [0, 1, 3]) := by show _ = _; decide
        rw [HVE.out] at hvi
        have hc0 : certF 1 rd bl pl [0, 1, 3] = 0 := certF_of HF.out (by decide) (by decide)
        have HC0 : Hid _ := hc0
        clear hc0 HVO HVE
        have hA1 := (Below.refl wr.heap.size wr).alloc (Nat.le_refl _) (.cells #[.int .i64 3] 3)
        have qnX := heap_alloc_new wr (.cells #[.int .i64 3] 3)
        have kb := heap_keep (o := .cells #[.int .i64 3] 3) qr
        have kb0 := cells_at kb 0 _ rfl
        have kb1 := cells_at kb 1 _ rfl
        have kb2 := cells_at kb 2 _ rfl
        have kb3 := cells_at kb 3 _ rfl
        have kb4 := cells_at kb 4 _ rfl
        have qr_c0 := cells_at qr 0 _ rfl
        have qr_c1 := cells_at qr 1 _ rfl
        have qr_c2 := cells_at qr 2 _ rfl
        have qr_c3 := cells_at qr 3 _ rfl
        have qr_c4 := cells_at qr 4 _ rfl
        go_wp2_with fail
        clear qr_c0 qr_c1 qr_c2 qr_c3 qr_c4
        clear kb0 kb1 kb2 kb3 kb4 kb
        generalize hG : wr.alloc (.cells #[.int .i64 3] 3) = waX at hA1 qnX ⊢
        clear hG
        replace qr := (hA1.block _ (lt_of_heap qr)).trans qr
        replace hat := hat.below hA1
        replace hvi := hvi.below hA1
        replace HB := HB.trans (hA1.mono HB.size)
        generalize hNB : wr.heap.size = NBX at qnX ⊢
        clear hNB
        refine (signedBy_any 1 rd ba bc bl pa pc pl (some ⟨NBX, 0, none⟩) 1 1 [3] waX rfl hat HF.out (IntsAt.lit qnX) (by decide) (by decide) (hT.below HB)).mono ?_
        rintro e w6 ⟨raX, rcX, ksX, he, hksX, hGX, hbX⟩
        subst he
        dsimp only
        replace qr := (hbX.block _ (lt_of_heap qr)).trans qr
        replace hat := hat.below hbX
        replace hvi := hvi.below hbX
        replace HB := HB.trans (hbX.mono HB.size)
        have HKX : Hid (gvs ksX = sgL 1 rd (hDig 1 rd bl pl) [3]) := hksX
        clear hksX
        have hA2 := (Below.refl w6.heap.size w6).alloc (Nat.le_refl _) (.cells #[.int .i64 3, .int .i64 0] 3)
        have qnY := heap_alloc_new w6 (.cells #[.int .i64 3, .int .i64 0] 3)
        have kb := heap_keep (o := .cells #[.int .i64 3, .int .i64 0] 3) qr
        have kb0 := cells_at kb 0 _ rfl
        have kb1 := cells_at kb 1 _ rfl
        have kb2 := cells_at kb 2 _ rfl
        have kb3 := cells_at kb 3 _ rfl
        have kb4 := cells_at kb 4 _ rfl
        have qr_c0 := cells_at qr 0 _ rfl
        have qr_c1 := cells_at qr 1 _ rfl
        have qr_c2 := cells_at qr 2 _ rfl
        have qr_c3 := cells_at qr 3 _ rfl
        have qr_c4 := cells_at qr 4 _ rfl
        go_wp2_with fail
        clear qr_c0 qr_c1 qr_c2 qr_c3 qr_c4
        clear kb0 kb1 kb2 kb3 kb4 kb
        generalize hG : w6.alloc (.cells #[.int .i64 3, .int .i64 0] 3) = waY at hA2 qnY ⊢
        clear hG
        replace qr := (hA2.block _ (lt_of_heap qr)).trans qr
        replace hat := hat.below hA2
        replace hvi := hvi.below hA2
        replace hGX := hGX.below hA2
        replace HB := HB.trans (hA2.mono HB.size)
        generalize hNB : w6.heap.size = NBY at qnY ⊢
        clear hNB
        refine (signedBy_any 1 rd ba bc bl pa pc pl (some ⟨NBY, 0, none⟩) 2 2 [3, 0] waY rfl hat HF.out (IntsAt.lit qnY) (by decide) (by decide) (hT.below HB)).mono ?_
        rintro e w7 ⟨raY, rcY, ksY, he, hksY, hGY, hbY⟩
        subst he
        dsimp only
        replace qr := (hbY.block _ (lt_of_heap qr)).trans qr
        replace hat := hat.below hbY
        replace hvi := hvi.below hbY
        replace hGX := hGX.below hbY
        replace HB := HB.trans (hbY.mono HB.size)
        have HKY : Hid (gvs ksY = sgL 1 rd (hDig 1 rd bl pl) [3, 0]) := hksY
        clear hksY
        obtain ⟨VX, hVX⟩ : ∃ l : List Int, l = [0, 1, 3] := ⟨_, rfl⟩
        have hlx : VX.length = 3 := by rw [hVX]; rfl
        rw [← hVX] at hvi
        have HVX : Hid (VX = [0, 1, 3]) := hVX
        clear hVX
        have PV0 : provF (gvs []) 1 1 rd (certF 1 rd bl pl VX) (hDig 1 rd bl pl) VX = 11 := by
          rw [HVX.out, show gvs [] = sgL 1 rd (hDig 1 rd bl pl) [] from rfl, HC0.out, prov_sgL HF.out (by decide) (by decide)]
          decide
        have PVX : provF (gvs ksX) 1 1 rd (certF 1 rd bl pl VX) (hDig 1 rd bl pl) VX = 11 := by
          rw [HVX.out, HKX.out, HC0.out, prov_sgL HF.out (by decide) (by decide)]
          decide
        have PVY : provF (gvs ksY) 1 1 rd (certF 1 rd bl pl VX) (hDig 1 rd bl pl) VX = 0 := by
          rw [HVX.out, HKY.out, HC0.out, prov_sgL HF.out (by decide) (by decide)]
          decide
        have C0 := fun W (hW : Below w7.heap.size w7 W) => proven_any [] none 0 0 1 1 rd ba bc bl pa pc pl ua uc VX W rfl (by decide) ⟨.inl rfl, fun s hs => by cases hs⟩ (hat.below hW) (hvi.below hW) (by omega) (hT.below (HB.trans (hW.mono HB.size)))
        have CX := fun W (hW : Below w7.heap.size w7 W) => proven_any ksX raX _ rcX 1 1 rd ba bc bl pa pc pl ua uc VX W rfl hGX.small (hGX.slots.below hW) (hat.below hW) (hvi.below hW) (by omega) (hT.below (HB.trans (hW.mono HB.size)))
        have CY := fun W (hW : Below w7.heap.size w7 W) => proven_any ksY raY _ rcY 1 1 rd ba bc bl pa pc pl ua uc VX W rfl hGY.small (hGY.slots.below hW) (hat.below hW) (hvi.below hW) (by omega) (hT.below (HB.trans (hW.mono HB.size)))
        rw [PV0, hlx] at C0
        rw [PVX, hlx] at CX
        rw [PVY, hlx] at CY
        clear PV0 PVX PVY HKX HKY hlx
        have HX := Below.refl w7.heap.size w7
        have q_ := (HX.block _ (lt_of_heap qr)).trans qr
        have q_0 := cells_at q_ 0 _ rfl
        have q_1 := cells_at q_ 1 _ rfl
        have q_2 := cells_at q_ 2 _ rfl
        have q_3 := cells_at q_ 3 _ rfl
        have q_4 := cells_at q_ 4 _ rfl
        go_wp2_with fail
        refine (C0 _ HX).mono ?_
        rintro e w8 ⟨he, hbx⟩
        subst he
        dsimp only
        clear q_0 q_1 q_2 q_3 q_4 q_
        replace HX := HX.trans (hbx.mono HX.size)
        clear hbx
        have q_ := (HX.block _ (lt_of_heap qr)).trans qr
        have q_0 := cells_at q_ 0 _ rfl
        have q_1 := cells_at q_ 1 _ rfl
        have q_2 := cells_at q_ 2 _ rfl
        have q_3 := cells_at q_ 3 _ rfl
        have q_4 := cells_at q_ 4 _ rfl
        go_wp2_with fail
        refine (CX _ HX).mono ?_
        rintro e w9 ⟨he, hbx⟩
        subst he
        dsimp only
        clear q_0 q_1 q_2 q_3 q_4 q_
        replace HX := HX.trans (hbx.mono HX.size)
        clear hbx
        have q_ := (HX.block _ (lt_of_heap qr)).trans qr
        have q_0 := cells_at q_ 0 _ rfl
        have q_1 := cells_at q_ 1 _ rfl
        have q_2 := cells_at q_ 2 _ rfl
        have q_3 := cells_at q_ 3 _ rfl
        have q_4 := cells_at q_ 4 _ rfl
        go_wp2_with fail
        refine (CY _ HX).mono ?_
        rintro e w10 ⟨he, hbx⟩
        subst he
        dsimp only
        clear q_0 q_1 q_2 q_3 q_4 q_
        replace HX := HX.trans (hbx.mono HX.size)
        clear hbx
        go_wp2_with fail
        go_ret
        exact ⟨by first | rfl | simp, HB.trans (HX.mono HB.size)⟩
  · subst hk
    have hvo : votersF (without 3 4) = 0 ∧ (without 3 4).length = 3 := by decide
    go_loopw [7] (fun i wr => ∃ (j : Nat) (v : Value), j ≤ 4 ∧ i = .int .i64 j ∧ wr.heap[w2.heap.size]? = some (.cells #[.int .i64 2, .int .i64 rd, .slice ba bl.length bc, .slice pa pl.length pc, v] 28 (0, 0)) ∧ wr.ownsRow (w2.heap.size + 1) 3 1 v (without 3 j).length (iv (without 3 j)) ∧ Below w2.heap.size w2 wr) (fun i _ => 4 - (intOf i).toNat)
    case atStart => exact ⟨0, _, Nat.zero_le _, rfl, qb, World.ownsRow_nil _ _ _ _, hb3⟩
    case round =>
      obtain ⟨j, v, hj, rfl, qr, ho, hb⟩ := hrel
      obtain ⟨ua, uc, hv⟩ := owns_shape ho
      subst hv
      have e0 := cells_at qr 0 _ rfl
      have e1 := cells_at qr 1 _ rfl
      have e2 := cells_at qr 2 _ rfl
      have e3 := cells_at qr 3 _ rfl
      have e4 := cells_at qr 4 _ rfl
      have f4 := frozen_at qr 4
      have hqlt := lt_of_heap qr
      by_cases hlt : j < 4
      · have hltI : (j : Int) < 4 := by omega
        by_cases hjo : (j : Int) = 3
        · have hst : without 3 (j + 1) = without 3 j := by rw [without, if_pos hjo]
          have HST : Hid _ := hst
          have hjn : ((j : Int) != 3) = false := by simpa using hjo
          clear hst hjo
          go_wp2_with fail
          go_roundw
          case rel => exact ⟨j + 1, _, by omega, by go_num, qr, by rw [HST.out]; exact ho, hb⟩
          case measure => simp [intOf]; omega
        · have hst : without 3 (j + 1) = without 3 j ++ [(j : Int)] := by rw [without, if_neg hjo]
          have HST : Hid _ := hst
          have hjn : ((j : Int) != 3) = true := by simpa using hjo
          have hwl := without_le 3 j
          clear hst hjo
          have qr1 := heap_keep (o := .cells #[.int .i64 j] 3) qr
          have g4 := cells_at qr1 4 _ rfl
          have y4 := frozen_at qr1 4
          have hob := World.ownsRow.alloc ho (.cells #[.int .i64 j] 3)
          have hnew := cells_new wr [.int .i64 (j : Int)] 3
          go_wp2_with (at_builtin; refine wpList_append_own_at _ rfl _ _ 26 rfl (w2.heap.size + 1) 3 i (.int .i64 0) 1 8 Tryd.underlying26 hi hz0 hz1 hz2 rfl (by decide) _ (without 3 j).length _ rfl hob ⟨wr.heap.size, 0, none⟩ 1 1 [.int .i64 (j : Int)] rfl rfl hnew (by intro u hu; simp at hu; subst hu; rfl) (by unfold maxLen; omega) (by omega) (by rw [size_alloc]; have := hb.size; omega) ?_; intro v1 w4 ho4 hg4 _ hat4; obtain ⟨va4, vc4, hv4⟩ := owns_shape ho4; subst hv4; have q4 := (hg4.block _ (lt_of_heap qr1) (by intro e; have := (hob.lt _ e.symm).1; omega)).trans qr1; have d4 := cells_at q4 4 _ rfl; have z4 := frozen_at q4 4)
          have hb4 := Below.grown (hb.alloc hb.size (.cells #[.int .i64 (j : Int)] 3)) hg4 (le_alloc hb.size _) (fun q e => by have := (hob.lt q e).1; omega)
          have q5 : (w4.setCell ⟨w2.heap.size, 4, none⟩ (.slice va4 ((without 3 j).length + 1) vc4)).heap[w2.heap.size]? = some (.cells #[.int .i64 2, .int .i64 rd, .slice ba bl.length bc, .slice pa pl.length pc, .slice va4 ((without 3 j).length + 1) vc4] 28 (0, 0)) := by simpa using heap_setCell_same _ _ 4 _ _ _ q4
          have ho5 : (w4.setCell ⟨w2.heap.size, 4, none⟩ (.slice va4 ((without 3 j).length + 1) vc4)).ownsRow (w2.heap.size + 1) 3 1 (.slice va4 ((without 3 j).length + 1) vc4) (without 3 (j + 1)).length (iv (without 3 (j + 1))) := by
            rw [HST.out]
            refine owns_away ?_ _ _ _ (fun e => by have := (ho4.lt _ e).1; omega)
            simpa [iv] using ho4
          have hb5 := hb4.setCell (p := ⟨w2.heap.size, 4, none⟩) (Nat.le_refl _) (.slice va4 ((without 3 j).length + 1) vc4)
          go_wp2_with fail
          go_roundw
          case rel => exact ⟨j + 1, _, by omega, by go_num, q5, ho5, hb5⟩
          case measure => simp [intOf]; omega
      · obtain rfl : j = 4 := by omega
        obtain ⟨va, vc, hv, _, hvi, _⟩ := intsAt_of_owns ho
        cases hv
        clear e0 e1 e2 e3 e4 f4
        rw [hvo.2] at qr
        have HVO : Hid (votersF (without 3 4) = 0 ∧ (without 3 4).length = 3) := hvo
        replace hat := hat.below hb
        replace HB := HB.trans (hb.mono HB.size)
        clear hvo ho hb hb3 qb
        have HVE : Hid (without 3 4 = [0, 1, 2]) := by show _ = _; decide
        rw [HVE.out] at hvi
        have hc0 : certF 2 rd bl pl [0, 1, 2] = 0 := certF_of HF.out (by decide) (by decide)
        have HC0 : Hid _ := hc0
        clear hc0 HVO HVE
        have hA1 := (Below.refl wr.heap.size wr).alloc (Nat.le_refl _) (.cells #[.int .i64 0] 3)
        have qnX := heap_alloc_new wr (.cells #[.int .i64 0] 3)
        have kb := heap_keep (o := .cells #[.int .i64 0] 3) qr
        have kb0 := cells_at kb 0 _ rfl
        have kb1 := cells_at kb 1 _ rfl
        have kb2 := cells_at kb 2 _ rfl
        have kb3 := cells_at kb 3 _ rfl
        have kb4 := cells_at kb 4 _ rfl
        have qr_c0 := cells_at qr 0 _ rfl
        have qr_c1 := cells_at qr 1 _ rfl
        have qr_c2 := cells_at qr 2 _ rfl
        have qr_c3 := cells_at qr 3 _ rfl
        have qr_c4 := cells_at qr 4 _ rfl
        go_wp2_with fail
        clear qr_c0 qr_c1 qr_c2 qr_c3 qr_c4
        clear kb0 kb1 kb2 kb3 kb4 kb
        generalize hG : wr.alloc (.cells #[.int .i64 0] 3) = waX at hA1 qnX ⊢
        clear hG
        replace qr := (hA1.block _ (lt_of_heap qr)).trans qr
        replace hat := hat.below hA1
        replace hvi := hvi.below hA1
        replace HB := HB.trans (hA1.mono HB.size)
        generalize hNB : wr.heap.size = NBX at qnX ⊢
        clear hNB
        refine (signedBy_any 2 rd ba bc bl pa pc pl (some ⟨NBX, 0, none⟩) 1 1 [0] waX rfl hat HF.out (IntsAt.lit qnX) (by decide) (by decide) (hT.below HB)).mono ?_
        rintro e w6 ⟨raX, rcX, ksX, he, hksX, hGX, hbX⟩
        subst he
        dsimp only
        replace qr := (hbX.block _ (lt_of_heap qr)).trans qr
        replace hat := hat.below hbX
        replace hvi := hvi.below hbX
        replace HB := HB.trans (hbX.mono HB.size)
        have HKX : Hid (gvs ksX = sgL 2 rd (hDig 2 rd bl pl) [0]) := hksX
        clear hksX
        have hA2 := (Below.refl w6.heap.size w6).alloc (Nat.le_refl _) (.cells #[.int .i64 0, .int .i64 1] 3)
        have qnY := heap_alloc_new w6 (.cells #[.int .i64 0, .int .i64 1] 3)
        have kb := heap_keep (o := .cells #[.int .i64 0, .int .i64 1] 3) qr
        have kb0 := cells_at kb 0 _ rfl
        have kb1 := cells_at kb 1 _ rfl
        have kb2 := cells_at kb 2 _ rfl
        have kb3 := cells_at kb 3 _ rfl
        have kb4 := cells_at kb 4 _ rfl
        have qr_c0 := cells_at qr 0 _ rfl
        have qr_c1 := cells_at qr 1 _ rfl
        have qr_c2 := cells_at qr 2 _ rfl
        have qr_c3 := cells_at qr 3 _ rfl
        have qr_c4 := cells_at qr 4 _ rfl
        go_wp2_with fail
        clear qr_c0 qr_c1 qr_c2 qr_c3 qr_c4
        clear kb0 kb1 kb2 kb3 kb4 kb
        generalize hG : w6.alloc (.cells #[.int .i64 0, .int .i64 1] 3) = waY at hA2 qnY ⊢
        clear hG
        replace qr := (hA2.block _ (lt_of_heap qr)).trans qr
        replace hat := hat.below hA2
        replace hvi := hvi.below hA2
        replace hGX := hGX.below hA2
        replace HB := HB.trans (hA2.mono HB.size)
        generalize hNB : w6.heap.size = NBY at qnY ⊢
        clear hNB
        refine (signedBy_any 2 rd ba bc bl pa pc pl (some ⟨NBY, 0, none⟩) 2 2 [0, 1] waY rfl hat HF.out (IntsAt.lit qnY) (by decide) (by decide) (hT.below HB)).mono ?_
        rintro e w7 ⟨raY, rcY, ksY, he, hksY, hGY, hbY⟩
        subst he
        dsimp only
        replace qr := (hbY.block _ (lt_of_heap qr)).trans qr
        replace hat := hat.below hbY
        replace hvi := hvi.below hbY
        replace hGX := hGX.below hbY
        replace HB := HB.trans (hbY.mono HB.size)
        have HKY : Hid (gvs ksY = sgL 2 rd (hDig 2 rd bl pl) [0, 1]) := hksY
        clear hksY
        obtain ⟨VX, hVX⟩ : ∃ l : List Int, l = [0, 1, 2] := ⟨_, rfl⟩
        have hlx : VX.length = 3 := by rw [hVX]; rfl
        rw [← hVX] at hvi
        have HVX : Hid (VX = [0, 1, 2]) := hVX
        clear hVX
        have PV0 : provF (gvs []) 2 2 rd (certF 2 rd bl pl VX) (hDig 2 rd bl pl) VX = 11 := by
          rw [HVX.out, show gvs [] = sgL 2 rd (hDig 2 rd bl pl) [] from rfl, HC0.out, prov_sgL HF.out (by decide) (by decide)]
          decide
        have PVX : provF (gvs ksX) 2 2 rd (certF 2 rd bl pl VX) (hDig 2 rd bl pl) VX = 11 := by
          rw [HVX.out, HKX.out, HC0.out, prov_sgL HF.out (by decide) (by decide)]
          decide
        have PVY : provF (gvs ksY) 2 2 rd (certF 2 rd bl pl VX) (hDig 2 rd bl pl) VX = 0 := by
          rw [HVX.out, HKY.out, HC0.out, prov_sgL HF.out (by decide) (by decide)]
          decide
        have C0 := fun W (hW : Below w7.heap.size w7 W) => proven_any [] none 0 0 2 2 rd ba bc bl pa pc pl ua uc VX W rfl (by decide) ⟨.inl rfl, fun s hs => by cases hs⟩ (hat.below hW) (hvi.below hW) (by omega) (hT.below (HB.trans (hW.mono HB.size)))
        have CX := fun W (hW : Below w7.heap.size w7 W) => proven_any ksX raX _ rcX 2 2 rd ba bc bl pa pc pl ua uc VX W rfl hGX.small (hGX.slots.below hW) (hat.below hW) (hvi.below hW) (by omega) (hT.below (HB.trans (hW.mono HB.size)))
        have CY := fun W (hW : Below w7.heap.size w7 W) => proven_any ksY raY _ rcY 2 2 rd ba bc bl pa pc pl ua uc VX W rfl hGY.small (hGY.slots.below hW) (hat.below hW) (hvi.below hW) (by omega) (hT.below (HB.trans (hW.mono HB.size)))
        rw [PV0, hlx] at C0
        rw [PVX, hlx] at CX
        rw [PVY, hlx] at CY
        clear PV0 PVX PVY HKX HKY hlx
        have HX := Below.refl w7.heap.size w7
        have q_ := (HX.block _ (lt_of_heap qr)).trans qr
        have q_0 := cells_at q_ 0 _ rfl
        have q_1 := cells_at q_ 1 _ rfl
        have q_2 := cells_at q_ 2 _ rfl
        have q_3 := cells_at q_ 3 _ rfl
        have q_4 := cells_at q_ 4 _ rfl
        go_wp2_with fail
        refine (C0 _ HX).mono ?_
        rintro e w8 ⟨he, hbx⟩
        subst he
        dsimp only
        clear q_0 q_1 q_2 q_3 q_4 q_
        replace HX := HX.trans (hbx.mono HX.size)
        clear hbx
        have q_ := (HX.block _ (lt_of_heap qr)).trans qr
        have q_0 := cells_at q_ 0 _ rfl
        have q_1 := cells_at q_ 1 _ rfl
        have q_2 := cells_at q_ 2 _ rfl
        have q_3 := cells_at q_ 3 _ rfl
        have q_4 := cells_at q_ 4 _ rfl
        go_wp2_with fail
        refine (CX _ HX).mono ?_
        rintro e w9 ⟨he, hbx⟩
        subst he
        dsimp only
        clear q_0 q_1 q_2 q_3 q_4 q_
        replace HX := HX.trans (hbx.mono HX.size)
        clear hbx
        have q_ := (HX.block _ (lt_of_heap qr)).trans qr
        have q_0 := cells_at q_ 0 _ rfl
        have q_1 := cells_at q_ 1 _ rfl
        have q_2 := cells_at q_ 2 _ rfl
        have q_3 := cells_at q_ 3 _ rfl
        have q_4 := cells_at q_ 4 _ rfl
        go_wp2_with fail
        refine (CY _ HX).mono ?_
        rintro e w10 ⟨he, hbx⟩
        subst he
        dsimp only
        clear q_0 q_1 q_2 q_3 q_4 q_
        replace HX := HX.trans (hbx.mono HX.size)
        clear hbx
        go_wp2_with fail
        go_ret
        exact ⟨by first | rfl | simp, HB.trans (HX.mono HB.size)⟩
  · subst hk
    have hvo : votersF (without 0 4) = 0 ∧ (without 0 4).length = 3 := by decide
    go_loopw [7] (fun i wr => ∃ (j : Nat) (v : Value), j ≤ 4 ∧ i = .int .i64 j ∧ wr.heap[w2.heap.size]? = some (.cells #[.int .i64 3, .int .i64 rd, .slice ba bl.length bc, .slice pa pl.length pc, v] 28 (0, 0)) ∧ wr.ownsRow (w2.heap.size + 1) 3 1 v (without 0 j).length (iv (without 0 j)) ∧ Below w2.heap.size w2 wr) (fun i _ => 4 - (intOf i).toNat)
    case atStart => exact ⟨0, _, Nat.zero_le _, rfl, qb, World.ownsRow_nil _ _ _ _, hb3⟩
    case round =>
      obtain ⟨j, v, hj, rfl, qr, ho, hb⟩ := hrel
      obtain ⟨ua, uc, hv⟩ := owns_shape ho
      subst hv
      have e0 := cells_at qr 0 _ rfl
      have e1 := cells_at qr 1 _ rfl
      have e2 := cells_at qr 2 _ rfl
      have e3 := cells_at qr 3 _ rfl
      have e4 := cells_at qr 4 _ rfl
      have f4 := frozen_at qr 4
      have hqlt := lt_of_heap qr
      by_cases hlt : j < 4
      · have hltI : (j : Int) < 4 := by omega
        by_cases hjo : (j : Int) = 0
        · have hst : without 0 (j + 1) = without 0 j := by rw [without, if_pos hjo]
          have HST : Hid _ := hst
          have hjn : ((j : Int) != 0) = false := by simpa using hjo
          clear hst hjo
          go_wp2_with fail
          go_roundw
          case rel => exact ⟨j + 1, _, by omega, by go_num, qr, by rw [HST.out]; exact ho, hb⟩
          case measure => simp [intOf]; omega
        · have hst : without 0 (j + 1) = without 0 j ++ [(j : Int)] := by rw [without, if_neg hjo]
          have HST : Hid _ := hst
          have hjn : ((j : Int) != 0) = true := by simpa using hjo
          have hwl := without_le 0 j
          clear hst hjo
          have qr1 := heap_keep (o := .cells #[.int .i64 j] 3) qr
          have g4 := cells_at qr1 4 _ rfl
          have y4 := frozen_at qr1 4
          have hob := World.ownsRow.alloc ho (.cells #[.int .i64 j] 3)
          have hnew := cells_new wr [.int .i64 (j : Int)] 3
          go_wp2_with (at_builtin; refine wpList_append_own_at _ rfl _ _ 26 rfl (w2.heap.size + 1) 3 i (.int .i64 0) 1 8 Tryd.underlying26 hi hz0 hz1 hz2 rfl (by decide) _ (without 0 j).length _ rfl hob ⟨wr.heap.size, 0, none⟩ 1 1 [.int .i64 (j : Int)] rfl rfl hnew (by intro u hu; simp at hu; subst hu; rfl) (by unfold maxLen; omega) (by omega) (by rw [size_alloc]; have := hb.size; omega) ?_; intro v1 w4 ho4 hg4 _ hat4; obtain ⟨va4, vc4, hv4⟩ := owns_shape ho4; subst hv4; have q4 := (hg4.block _ (lt_of_heap qr1) (by intro e; have := (hob.lt _ e.symm).1; omega)).trans qr1; have d4 := cells_at q4 4 _ rfl; have z4 := frozen_at q4 4)
          have hb4 := Below.grown (hb.alloc hb.size (.cells #[.int .i64 (j : Int)] 3)) hg4 (le_alloc hb.size _) (fun q e => by have := (hob.lt q e).1; omega)
          have q5 : (w4.setCell ⟨w2.heap.size, 4, none⟩ (.slice va4 ((without 0 j).length + 1) vc4)).heap[w2.heap.size]? = some (.cells #[.int .i64 3, .int .i64 rd, .slice ba bl.length bc, .slice pa pl.length pc, .slice va4 ((without 0 j).length + 1) vc4] 28 (0, 0)) := by simpa using heap_setCell_same _ _ 4 _ _ _ q4
          have ho5 : (w4.setCell ⟨w2.heap.size, 4, none⟩ (.slice va4 ((without 0 j).length + 1) vc4)).ownsRow (w2.heap.size + 1) 3 1 (.slice va4 ((without 0 j).length + 1) vc4) (without 0 (j + 1)).length (iv (without 0 (j + 1))) := by
            rw [HST.out]
            refine owns_away ?_ _ _ _ (fun e => by have := (ho4.lt _ e).1; omega)
            simpa [iv] using ho4
          have hb5 := hb4.setCell (p := ⟨w2.heap.size, 4, none⟩) (Nat.le_refl _) (.slice va4 ((without 0 j).length + 1) vc4)
          go_wp2_with fail
          go_roundw
          case rel => exact ⟨j + 1, _, by omega, by go_num, q5, ho5, hb5⟩
          case measure => simp [intOf]; omega
      · obtain rfl : j = 4 := by omega
        obtain ⟨va, vc, hv, _, hvi, _⟩ := intsAt_of_owns ho
        cases hv
        clear e0 e1 e2 e3 e4 f4
        rw [hvo.2] at qr
        have HVO : Hid (votersF (without 0 4) = 0 ∧ (without 0 4).length = 3) := hvo
        replace hat := hat.below hb
        replace HB := HB.trans (hb.mono HB.size)
        clear hvo ho hb hb3 qb
        have HVE : Hid (without 0 4 = [1, 2, 3]) := by show _ = _; decide
        rw [HVE.out] at hvi
        have hc0 : certF 3 rd bl pl [1, 2, 3] = 0 := certF_of HF.out (by decide) (by decide)
        have HC0 : Hid _ := hc0
        clear hc0 HVO HVE
        have hA1 := (Below.refl wr.heap.size wr).alloc (Nat.le_refl _) (.cells #[.int .i64 1] 3)
        have qnX := heap_alloc_new wr (.cells #[.int .i64 1] 3)
        have kb := heap_keep (o := .cells #[.int .i64 1] 3) qr
        have kb0 := cells_at kb 0 _ rfl
        have kb1 := cells_at kb 1 _ rfl
        have kb2 := cells_at kb 2 _ rfl
        have kb3 := cells_at kb 3 _ rfl
        have kb4 := cells_at kb 4 _ rfl
        have qr_c0 := cells_at qr 0 _ rfl
        have qr_c1 := cells_at qr 1 _ rfl
        have qr_c2 := cells_at qr 2 _ rfl
        have qr_c3 := cells_at qr 3 _ rfl
        have qr_c4 := cells_at qr 4 _ rfl
        go_wp2_with fail
        clear qr_c0 qr_c1 qr_c2 qr_c3 qr_c4
        clear kb0 kb1 kb2 kb3 kb4 kb
        generalize hG : wr.alloc (.cells #[.int .i64 1] 3) = waX at hA1 qnX ⊢
        clear hG
        replace qr := (hA1.block _ (lt_of_heap qr)).trans qr
        replace hat := hat.below hA1
        replace hvi := hvi.below hA1
        replace HB := HB.trans (hA1.mono HB.size)
        generalize hNB : wr.heap.size = NBX at qnX ⊢
        clear hNB
        refine (signedBy_any 3 rd ba bc bl pa pc pl (some ⟨NBX, 0, none⟩) 1 1 [1] waX rfl hat HF.out (IntsAt.lit qnX) (by decide) (by decide) (hT.below HB)).mono ?_
        rintro e w6 ⟨raX, rcX, ksX, he, hksX, hGX, hbX⟩
        subst he
        dsimp only
        replace qr := (hbX.block _ (lt_of_heap qr)).trans qr
        replace hat := hat.below hbX
        replace hvi := hvi.below hbX
        replace HB := HB.trans (hbX.mono HB.size)
        have HKX : Hid (gvs ksX = sgL 3 rd (hDig 3 rd bl pl) [1]) := hksX
        clear hksX
        have hA2 := (Below.refl w6.heap.size w6).alloc (Nat.le_refl _) (.cells #[.int .i64 1, .int .i64 2] 3)
        have qnY := heap_alloc_new w6 (.cells #[.int .i64 1, .int .i64 2] 3)
        have kb := heap_keep (o := .cells #[.int .i64 1, .int .i64 2] 3) qr
        have kb0 := cells_at kb 0 _ rfl
        have kb1 := cells_at kb 1 _ rfl
        have kb2 := cells_at kb 2 _ rfl
        have kb3 := cells_at kb 3 _ rfl
        have kb4 := cells_at kb 4 _ rfl
        have qr_c0 := cells_at qr 0 _ rfl
        have qr_c1 := cells_at qr 1 _ rfl
        have qr_c2 := cells_at qr 2 _ rfl
        have qr_c3 := cells_at qr 3 _ rfl
        have qr_c4 := cells_at qr 4 _ rfl
        go_wp2_with fail
        clear qr_c0 qr_c1 qr_c2 qr_c3 qr_c4
        clear kb0 kb1 kb2 kb3 kb4 kb
        generalize hG : w6.alloc (.cells #[.int .i64 1, .int .i64 2] 3) = waY at hA2 qnY ⊢
        clear hG
        replace qr := (hA2.block _ (lt_of_heap qr)).trans qr
        replace hat := hat.below hA2
        replace hvi := hvi.below hA2
        replace hGX := hGX.below hA2
        replace HB := HB.trans (hA2.mono HB.size)
        generalize hNB : w6.heap.size = NBY at qnY ⊢
        clear hNB
        refine (signedBy_any 3 rd ba bc bl pa pc pl (some ⟨NBY, 0, none⟩) 2 2 [1, 2] waY rfl hat HF.out (IntsAt.lit qnY) (by decide) (by decide) (hT.below HB)).mono ?_
        rintro e w7 ⟨raY, rcY, ksY, he, hksY, hGY, hbY⟩
        subst he
        dsimp only
        replace qr := (hbY.block _ (lt_of_heap qr)).trans qr
        replace hat := hat.below hbY
        replace hvi := hvi.below hbY
        replace hGX := hGX.below hbY
        replace HB := HB.trans (hbY.mono HB.size)
        have HKY : Hid (gvs ksY = sgL 3 rd (hDig 3 rd bl pl) [1, 2]) := hksY
        clear hksY
        obtain ⟨VX, hVX⟩ : ∃ l : List Int, l = [1, 2, 3] := ⟨_, rfl⟩
        have hlx : VX.length = 3 := by rw [hVX]; rfl
        rw [← hVX] at hvi
        have HVX : Hid (VX = [1, 2, 3]) := hVX
        clear hVX
        have PV0 : provF (gvs []) 3 3 rd (certF 3 rd bl pl VX) (hDig 3 rd bl pl) VX = 11 := by
          rw [HVX.out, show gvs [] = sgL 3 rd (hDig 3 rd bl pl) [] from rfl, HC0.out, prov_sgL HF.out (by decide) (by decide)]
          decide
        have PVX : provF (gvs ksX) 3 3 rd (certF 3 rd bl pl VX) (hDig 3 rd bl pl) VX = 11 := by
          rw [HVX.out, HKX.out, HC0.out, prov_sgL HF.out (by decide) (by decide)]
          decide
        have PVY : provF (gvs ksY) 3 3 rd (certF 3 rd bl pl VX) (hDig 3 rd bl pl) VX = 0 := by
          rw [HVX.out, HKY.out, HC0.out, prov_sgL HF.out (by decide) (by decide)]
          decide
        have C0 := fun W (hW : Below w7.heap.size w7 W) => proven_any [] none 0 0 3 3 rd ba bc bl pa pc pl ua uc VX W rfl (by decide) ⟨.inl rfl, fun s hs => by cases hs⟩ (hat.below hW) (hvi.below hW) (by omega) (hT.below (HB.trans (hW.mono HB.size)))
        have CX := fun W (hW : Below w7.heap.size w7 W) => proven_any ksX raX _ rcX 3 3 rd ba bc bl pa pc pl ua uc VX W rfl hGX.small (hGX.slots.below hW) (hat.below hW) (hvi.below hW) (by omega) (hT.below (HB.trans (hW.mono HB.size)))
        have CY := fun W (hW : Below w7.heap.size w7 W) => proven_any ksY raY _ rcY 3 3 rd ba bc bl pa pc pl ua uc VX W rfl hGY.small (hGY.slots.below hW) (hat.below hW) (hvi.below hW) (by omega) (hT.below (HB.trans (hW.mono HB.size)))
        rw [PV0, hlx] at C0
        rw [PVX, hlx] at CX
        rw [PVY, hlx] at CY
        clear PV0 PVX PVY HKX HKY hlx
        have HX := Below.refl w7.heap.size w7
        have q_ := (HX.block _ (lt_of_heap qr)).trans qr
        have q_0 := cells_at q_ 0 _ rfl
        have q_1 := cells_at q_ 1 _ rfl
        have q_2 := cells_at q_ 2 _ rfl
        have q_3 := cells_at q_ 3 _ rfl
        have q_4 := cells_at q_ 4 _ rfl
        go_wp2_with fail
        refine (C0 _ HX).mono ?_
        rintro e w8 ⟨he, hbx⟩
        subst he
        dsimp only
        clear q_0 q_1 q_2 q_3 q_4 q_
        replace HX := HX.trans (hbx.mono HX.size)
        clear hbx
        have q_ := (HX.block _ (lt_of_heap qr)).trans qr
        have q_0 := cells_at q_ 0 _ rfl
        have q_1 := cells_at q_ 1 _ rfl
        have q_2 := cells_at q_ 2 _ rfl
        have q_3 := cells_at q_ 3 _ rfl
        have q_4 := cells_at q_ 4 _ rfl
        go_wp2_with fail
        refine (CX _ HX).mono ?_
        rintro e w9 ⟨he, hbx⟩
        subst he
        dsimp only
        clear q_0 q_1 q_2 q_3 q_4 q_
        replace HX := HX.trans (hbx.mono HX.size)
        clear hbx
        have q_ := (HX.block _ (lt_of_heap qr)).trans qr
        have q_0 := cells_at q_ 0 _ rfl
        have q_1 := cells_at q_ 1 _ rfl
        have q_2 := cells_at q_ 2 _ rfl
        have q_3 := cells_at q_ 3 _ rfl
        have q_4 := cells_at q_ 4 _ rfl
        go_wp2_with fail
        refine (CY _ HX).mono ?_
        rintro e w10 ⟨he, hbx⟩
        subst he
        dsimp only
        clear q_0 q_1 q_2 q_3 q_4 q_
        replace HX := HX.trans (hbx.mono HX.size)
        clear hbx
        go_wp2_with fail
        go_ret
        exact ⟨by first | rfl | simp, HB.trans (HX.mono HB.size)⟩
end Go.Proofs.YtmpflkggbekpfaaDoor
