/- The copies that the statements make: texts and batch. -/
import Derived.Test.YtchmfbhdnhaleaaTapeAppendsM42
import Derived.Deep.Strs
import Derived.Test.YtchmfbhdnhaleaaCertF
import Derived.Test.YtchmfbhdnhaleaaOpenB
import Derived.Test.YtchmfbhdnhaleaaStrsAt
import Derived.Deep.RegionHeld
import Derived.Test.YtchmfbhdnhaleaaApp
import Derived.Test.YtchmfbhdnhaleaaSx
import Derived.Deep.RegionHeld2
namespace Go.Proofs.Ytchmfbhdnhaleaa
open Go.ChangeShapes Go.WideShapes Go.ChangeAt Go.RowKit Go.Deep

set_option maxRecDepth 100000 in
theorem cHeader : Try.prog.cellsOf 27 = 4 := by kernel_rfl
set_option maxRecDepth 100000 in
theorem cIntL : Try.prog.cellsOf 3 = 1 := by kernel_rfl
set_option maxRecDepth 100000 in
theorem cLists : Try.prog.cellsOf 25 = 1 := by kernel_rfl
set_option maxRecDepth 100000 in
theorem open_header_cells {H : Type} {enc : TypeId × Value → H} {W : World} {fuel : Nat} {cs : List Value} {x : DataW H × List MemPlace}
    (hf : DataW.trod enc Try.prog W 0 (fun _ => true) true fuel 27 cs = some x) (hfit : ∀ n ∈ x.1.weights Try.prog 27, n ≤ reachBytes) :
    ∃ au rd ba bc bl pa pc pl, cs = [.int .i64 au, .int .i64 rd, .slice ba (List.length bl) bc, .slice pa (List.length pl) pc] ∧ I64 au ∧ I64 rd ∧ ReadAt W ba bc bl ∧ ReadAt W pa pc pl := by
  obtain ⟨xs, n, _, rfl, hl, hlen, hg⟩ := DataW.trod_struct Try.underlying27 hf
  rw [cHeader] at hl
  match xs, hlen with
  | [y0, y1, y2, y3], _ =>
  have h0 := hg 0 _ rfl
  have h1 := hg 1 _ rfl
  have h2 := hg 2 _ rfl
  have h3 := hg 3 _ rfl
  match cs, hl with
  | [c0, c1, c2, c3], _ =>
  obtain ⟨a0, e0, rfl, w0⟩ := DataW.trod_int Try.underlying3 h0
  obtain ⟨a1, e1, rfl, w1⟩ := DataW.trod_int Try.underlying3 h1
  obtain ⟨ba, bc, bl, e2, hb, _⟩ := open_lists_cells h2 (fun n hn => hfit n (by simp [DataW.weights, DataW.weightsEach, Try.underlying27, hn]))
  obtain ⟨pa, pc, pl, e3, hp, _⟩ := open_lists_cells h3 (fun n hn => hfit n (by simp [DataW.weights, DataW.weightsEach, Try.underlying27, hn]))
  simp [cIntL, cLists] at e0 e1 e2 e3
  subst e0 e1 e2 e3
  exact ⟨a0, a1, ba, bc, bl, pa, pc, pl, rfl, bounds_i64 w0, bounds_i64 w1, hb, hp⟩
set_option maxRecDepth 100000 in
theorem open_header {H : Type} {enc : TypeId × Value → H} {W : World} {base : Nat} {v : Value} {d : DataW H} {p : List MemPlace}
    (hv : Value.okWide Try.prog W .any base 27 v) (h : DataW.Trod enc Try.prog W 0 (fun _ => true) true 27 v d p) (hfit : ∀ n ∈ d.weights Try.prog 27, n ≤ reachBytes) :
    ∃ au rd ba bc bl pa pc pl, v = .agg #[.int .i64 au, .int .i64 rd, .slice ba (List.length bl) bc, .slice pa (List.length pl) pc] ∧ I64 au ∧ I64 rd ∧ ReadAt W ba bc bl ∧ ReadAt W pa pc pl := by
  obtain ⟨cs, rfl, _⟩ := okWide_struct Try.underlying27 hv
  obtain ⟨fuel, hf⟩ := h
  obtain ⟨au, rd, ba, bc, bl, pa, pc, pl, hcs, h1, h2, h3, h4⟩ := open_header_cells hf hfit
  refine ⟨au, rd, ba, bc, bl, pa, pc, pl, ?_, h1, h2, h3, h4⟩
  have : cs.toList = _ := hcs
  rw [← this]
end Go.Proofs.Ytchmfbhdnhaleaa

namespace Go.Proofs.Ytchmfbhdnhaleaa
open Go.ChangeShapes Go.WideShapes Go.ChangeAt Go.RowKit Go.Deep

set_option maxRecDepth 100000 in
theorem cCert : Try.prog.cellsOf 33 = 5 := by kernel_rfl
set_option maxRecDepth 100000 in
theorem cHeaderC : Try.prog.cellsOf 27 = 4 := by kernel_rfl
set_option maxRecDepth 100000 in
theorem cIntsC : Try.prog.cellsOf 31 = 1 := by kernel_rfl
set_option maxRecDepth 100000 in
theorem bIntC : Try.prog.bytesOf 3 = 8 := by kernel_rfl
/-- What is read of a list of numbers that came in. -/
structure NumsAt (w : World) (va : Option Addr) (vc : Nat) (vl : List Int) : Prop where
  ints : IntsAt w va vl
  le : vl.length ≤ vc
  reach : vc * 8 ≤ 140737488351232
set_option maxRecDepth 100000 in
theorem open_nums_cells {H : Type} {enc : TypeId × Value → H} {W : World} {fuel : Nat} {cs : List Value} {x : DataW H × List MemPlace}
    (hf : DataW.trod enc Try.prog W 0 (fun _ => true) true fuel 31 cs = some x) (hfit : ∀ n ∈ x.1.weights Try.prog 31, n ≤ reachBytes) :
    ∃ va vc vl, cs = [.slice va (List.length vl) vc] ∧ NumsAt W va vc vl := by
  rcases open_ints Try.underlying31 Try.underlying3 cIntL hf with ⟨rfl, _⟩ | ⟨a, len, cap, zs, rfl, _, hl, hm, hz, rfl, hcell, _⟩
  · exact ⟨none, 0, [], rfl, ⟨⟨.inl rfl⟩, Nat.le_refl _, by decide⟩⟩
  · have hw := hfit (((zs.take len).length + (zs.drop len).length) * Try.prog.bytesOf 3) (by simp [DataW.weights, Try.underlying31, lits])
    rw [bIntC] at hw
    simp only [if_true] at hz
    simp [reachBytes] at hw
    have hlen : (zs.take len).length = len := by rw [List.length_take, hz]; omega
    refine ⟨some a, cap, zs.take len, by rw [hlen], ⟨⟨?_⟩, by omega, by omega⟩⟩
    rcases Nat.eq_zero_or_pos cap with h0 | h0
    · left
      exact List.eq_nil_of_length_eq_zero (by omega)
    · obtain ⟨b, off, rfl, hc⟩ := ints_at hcell (by omega)
      refine .inr ⟨b, off, rfl, fun j hj => ?_⟩
      rw [hc j (by omega)]
      have : j < len := by omega
      simp [List.getD, this]
set_option maxRecDepth 100000 in
theorem open_cert {H : Type} {enc : TypeId × Value → H} {W : World} {base : Nat} {v : Value} {d : DataW H} {p : List MemPlace}
    (hv : Value.okWide Try.prog W .any base 33 v) (h : DataW.Trod enc Try.prog W 0 (fun _ => true) true 33 v d p) (hfit : ∀ n ∈ d.weights Try.prog 33, n ≤ reachBytes) :
    ∃ au rd ba bc bl pa pc pl va vc vl, v = .agg #[.int .i64 au, .int .i64 rd, .slice ba bl.length bc, .slice pa pl.length pc, .slice va vl.length vc] ∧ I64 au ∧ I64 rd ∧ ReadAt W ba bc bl ∧ ReadAt W pa pc pl ∧ NumsAt W va vc vl := by
  obtain ⟨cs, rfl, _⟩ := okWide_struct Try.underlying33 hv
  obtain ⟨fuel, hf⟩ := h
  obtain ⟨y0, y1, n, hx, hl, h0, h1⟩ := trod_struct2 Try.underlying33 hf
  simp only [Prod.mk.injEq] at hx
  obtain ⟨rfl, rfl⟩ := hx
  rw [cCert] at hl
  obtain ⟨l⟩ := cs
  match l, hl with
  | [c0, c1, c2, c3, c4], _ =>
  obtain ⟨au, rd, ba, bc, bl, pa, pc, pl, e0, i0, i1, hb, hp⟩ := open_header_cells h0 (fun n hn => hfit n (by simp [DataW.weights, DataW.weightsEach, Try.underlying33, hn]))
  obtain ⟨va, vc, vl, e1, hn⟩ := open_nums_cells h1 (fun n hn => hfit n (by simp [DataW.weights, DataW.weightsEach, Try.underlying33, hn]))
  simp [cHeaderC, cIntsC, Value.cells] at e0 e1
  obtain ⟨rfl, rfl, rfl, rfl⟩ := e0
  subst e1
  exact ⟨au, rd, ba, bc, bl, pa, pc, pl, va, vc, vl, rfl, i0, i1, hb, hp, hn⟩
end Go.Proofs.Ytchmfbhdnhaleaa

namespace Go.Proofs.Ytchmfbhdnhaleaa
open Go.ChangeShapes Go.WideShapes Go.ChangeAt Go.RowKit Go.Deep

set_option maxRecDepth 100000 in
theorem cInt : Try.prog.cellsOf 3 = 1 := by kernel_rfl
set_option maxRecDepth 100000 in
theorem cBs : Try.prog.cellsOf 28 = 1 := by kernel_rfl
set_option maxRecDepth 100000 in
theorem cSlot : Try.prog.cellsOf 30 = 3 := by kernel_rfl
set_option maxRecDepth 100000 in
theorem open_slot_cells {H : Type} {enc : TypeId × Value → H} {W : World} {fuel : Nat} {cs : List Value} {x : DataW H × List MemPlace}
    (hf : DataW.trod enc Try.prog W 0 (fun _ => true) true fuel 30 cs = some x) (hfit : ∀ n ∈ x.1.weights Try.prog 30, n ≤ reachBytes) :
    ∃ au rd sa cap bs, cs = [.int .i64 au, .int .i64 rd, .slice sa (List.length bs) cap] ∧ I64 au ∧ I64 rd ∧ SliceAt W sa cap bs ∧ AllU8 bs ∧ cap ≤ 140737488351232 := by
  obtain ⟨y0, y1, y2, n, rfl, hl, h0, h1, h2⟩ := trod_struct3 Try.underlying30 hf
  rw [cSlot] at hl
  match cs, hl with
  | [c0, c1, c2], _ =>
  obtain ⟨a, e0, rfl, wa⟩ := DataW.trod_int Try.underlying3 h0
  obtain ⟨b, e1, rfl, wb⟩ := DataW.trod_int Try.underlying3 h1
  obtain ⟨sa, cap, bs, e2, hs, hu⟩ := open_bytes_cells h2
  have hc := bytes_fit h2 (fun n hn => hfit n (by simp [DataW.weights, DataW.weightsEach, Try.underlying30, hn])) e2
  simp [cInt, cBs] at e0 e1 e2
  subst e0 e1 e2
  exact ⟨a, b, sa, cap, bs, rfl, bounds_i64 wa, bounds_i64 wb, hs, hu, hc⟩
set_option maxRecDepth 100000 in
theorem open_slot {H : Type} {enc : TypeId × Value → H} {W : World} {base : Nat} {v : Value} {d : DataW H} {p : List MemPlace}
    (hv : Value.okWide Try.prog W .any base 30 v) (h : DataW.Trod enc Try.prog W 0 (fun _ => true) true 30 v d p) (hfit : ∀ n ∈ d.weights Try.prog 30, n ≤ reachBytes) :
    ∃ au rd sa cap bs, v = .agg #[.int .i64 au, .int .i64 rd, .slice sa (List.length bs) cap] ∧ I64 au ∧ I64 rd ∧ SliceAt W sa cap bs ∧ AllU8 bs ∧ cap ≤ 140737488351232 := by
  obtain ⟨cs, rfl, _⟩ := okWide_struct Try.underlying30 hv
  obtain ⟨fuel, hf⟩ := h
  obtain ⟨au, rd, sa, cap, bs, hcs, h1, h2, h3, h4⟩ := open_slot_cells hf hfit
  refine ⟨au, rd, sa, cap, bs, ?_, h1, h2, h3, h4⟩
  have : cs.toList = _ := hcs
  rw [← this]
end Go.Proofs.Ytchmfbhdnhaleaa

namespace Go.Proofs.Ytchmfbhdnhaleaa
open Go.ChangeShapes Go.WideShapes Go.ChangeAt Go.RowKit Go.Deep

/-- What is read of a slice of texts that came in. -/
structure TextsAt (w : World) (sa : Option Addr) (cap : Nat) (ss : List ByteArray) : Prop where
  le : ss.length ≤ cap
  reach : cap * 16 ≤ 140737488351232
  nil : sa = none → cap = 0
  strs : StrsAt w sa ss
set_option maxRecDepth 100000 in
theorem TextsAt.below {w w' : World} {sa : Option Addr} {cap : Nat} {ss : List ByteArray} (h : TextsAt w sa cap ss) (hb : Below w.heap.size w w') : TextsAt w' sa cap ss := ⟨h.le, h.reach, h.nil, h.strs.below hb⟩

set_option maxRecDepth 100000 in
theorem cStr : Try.prog.cellsOf 9 = 1 := by kernel_rfl
set_option maxRecDepth 100000 in
theorem bStr : Try.prog.bytesOf 9 = 16 := by kernel_rfl
set_option maxRecDepth 100000 in
theorem open_texts_cells {H : Type} {enc : TypeId × Value → H} {W : World} {fuel : Nat} {cs : List Value} {x : DataW H × List MemPlace}
    (hf : DataW.trod enc Try.prog W 0 (fun _ => true) true fuel 22 cs = some x) (hfit : ∀ n ∈ x.1.weights Try.prog 22, n ≤ reachBytes) :
    ∃ sa cap ss, cs = [.slice sa (List.length ss) cap] ∧ TextsAt W sa cap ss := by
  rcases open_strs Try.underlying22 Try.underlying9 cStr hf with ⟨rfl, _⟩ | ⟨a, len, cap, m, Sx, rfl, _, hl, hm, hmm, rfl, hc⟩
  · exact ⟨none, 0, [], rfl, ⟨Nat.le_refl _, by decide, fun _ => rfl, ⟨.inl rfl, fun s hs => by cases hs⟩⟩⟩
  · simp only [if_true] at hmm
    subst hmm
    have hw := hfit ((((List.range len).map fun i => (DataW.lit (.string (Sx i).data.toList) : DataW H)).length + ((List.range (m - len)).map fun j => (DataW.lit (.string (Sx (len + j)).data.toList) : DataW H)).length) * Try.prog.bytesOf 9) (by simp [DataW.weights, Try.underlying22])
    rw [bStr] at hw
    simp [reachBytes] at hw
    refine ⟨some a, m, (List.range len).map Sx, by simp, ⟨by simpa using hl, by omega, (fun e => by cases e), ⟨?_, ?_⟩⟩⟩
    · rcases Nat.eq_zero_or_pos len with h0 | h0
      · subst h0; exact .inl rfl
      · right
        have h9 := (hc 0 (by omega)).1
        obtain ⟨b, off, rfl⟩ : ∃ b off, a = ⟨b, off, none⟩ := by
          cases a with
          | mk b off spot =>
            cases spot with
            | none => exact ⟨b, off, rfl⟩
            | some s => simp [World.cell?, Addr.add] at h9; split at h9 <;> cases h9
        refine ⟨b, off, rfl, fun j hj => ?_⟩
        have hj' : j < len := by simpa using hj
        have := (hc j (by omega)).1
        rw [add_off] at this
        rw [this]
        simp [hj']
    · intro s hs
      simp at hs
      obtain ⟨j, hj, rfl⟩ := hs
      exact (hc j (by omega)).2
end Go.Proofs.Ytchmfbhdnhaleaa

namespace Go.Proofs.Ytchmfbhdnhaleaa
open Go.RowKit

set_option maxRecDepth 100000 in
theorem infoStr : (Try.prog.info? 9).map (fun i => (i.zero, i.size, i.bytes)) = some (some (.string ByteArray.empty), 1, 16) := by kernel_rfl
def sv (ss : List ByteArray) : List Value := ss.map Value.string
set_option maxRecDepth 100000 in
theorem sv_length (ss : List ByteArray) : (sv ss).length = ss.length := by simp [sv]
set_option maxRecDepth 100000 in
theorem sv_one (ss : List ByteArray) : ∀ u ∈ sv ss, u.oneCell' = true := by
  intro u hu; simp [sv] at hu; obtain ⟨x, _, rfl⟩ := hu; rfl
set_option maxRecDepth 100000 in
theorem strsAt_of_owns {w : World} {base n : Nat} {v : Value} {ss : List ByteArray} (h : w.ownsRow base 9 1 v n (sv ss)) (hz : ∀ s ∈ ss, s.size ≤ maxLen) : ∃ ra rc, v = .slice ra n rc ∧ n = ss.length ∧ StrsAt w ra ss ∧ ∀ sb so, ra = some ⟨sb, so, none⟩ → base ≤ sb := by
  have hl : n = ss.length := by have := h.1; rw [sv_length] at this; omega
  rcases h.2 with ⟨rfl, hn⟩ | ⟨g, cap, cur, rfl, _⟩
  · have hb : ss = [] := List.eq_nil_of_length_eq_zero (by omega)
    subst hn hb
    exact ⟨none, 0, rfl, rfl, ⟨.inl rfl, hz⟩, fun _ _ e => by cases e⟩
  · refine ⟨some ⟨g, 0, none⟩, cap, rfl, hl, ⟨.inr ⟨g, 0, rfl, fun j hj => ?_⟩, hz⟩, fun sb so e => by cases e; exact (h.lt _ rfl).1⟩
    rw [Nat.zero_add, World.ownsRow.cellAt h j (by omega)]
    simp [sv, hj]
set_option maxRecDepth 100000 in
theorem StrsAt.setCell {w : World} {sa : Option Addr} {ss : List ByteArray} (h : StrsAt w sa ss) (b j : Nat) (v : Value) (hne : ∀ sb so, sa = some ⟨sb, so, none⟩ → b ≠ sb) : StrsAt (w.setCell ⟨b, j, none⟩ v) sa ss := by
  refine ⟨?_, h.size⟩
  rcases h.cells with h | ⟨sb, so, rfl, hc⟩
  · exact .inl h
  · exact .inr ⟨sb, so, rfl, fun k hk => (World.cell?_setCell_far _ _ _ _ (hne sb so rfl)).trans (hc k hk)⟩
end Go.Proofs.Ytchmfbhdnhaleaa

namespace Go.Proofs.Ytchmfbhdnhaleaa
open Go.RowKit

set_option maxRecDepth 100000 in
set_option maxHeartbeats 400000 in
theorem texts_any (ss : List ByteArray) (sa : Option Addr) (n cap : Nat) (w : World) (hn : n = ss.length) (hs : TextsAt w sa cap ss) :
    Calls Try.prog 34 #[.slice sa n cap] w fun e w' => ∃ ra rc, e = .returned (.slice ra ss.length rc) ∧ StrsAt w' ra ss ∧ Below w.heap.size w w' ∧ ∀ sb so, ra = some ⟨sb, so, none⟩ → w.heap.size ≤ sb := by
  obtain ⟨i, hi, hz0, hz1, hz2⟩ := info_parts infoStr
  have hle := hs.le
  have hre := hs.reach
  cases sa with
  | none =>
    obtain rfl := hs.nil rfl
    obtain rfl : ss = [] := List.eq_nil_of_length_eq_zero (by omega)
    subst hn
    go_enter Try.func34, Try.ntmps34
    go_wp2_with (at_builtin; refine wpList_append_own_none rfl _ _ 22 rfl w.heap.size 9 i 1 Try.underlying22 hi _ 0 [] rfl (World.ownsRow_nil _ _ _ _) rfl ?_)
    go_ret
    exact ⟨none, 0, rfl, hs.strs, Below.refl _ _, fun _ _ e => by cases e⟩
  | some ad =>
    have hcell : ∀ j u, (sv ss)[j]? = some u → w.cell? (ad.add j) = some u := by
      intro j u hu
      rcases hs.strs.cells with hb | ⟨sb, so, e, hb⟩
      · subst hb; simp [sv] at hu
      · cases e
        have hj : j < ss.length := by
          rcases Nat.lt_or_ge j ss.length with g | g
          · exact g
          · rw [List.getElem?_eq_none (by rw [sv_length]; exact g)] at hu; cases hu
        rw [add_off, hb j hj]
        simp [sv, hj] at hu
        simp [hj, hu]
    subst hn
    go_enter Try.func34, Try.ntmps34
    go_wp2_with (at_builtin; refine wpList_append_own _ rfl _ _ 22 rfl w.heap.size 9 i (.string ByteArray.empty) 1 16 Try.underlying22 hi hz0 hz1 hz2 rfl (by decide) _ 0 [] rfl (World.ownsRow_nil _ _ _ _) ad ss.length cap (sv ss) rfl (by rw [sv_length]; omega) hcell (sv_one ss) (by unfold maxLen; omega) (by omega) (Nat.le_refl _) ?_; intro v1 w1 ho1 hg1 _)
    obtain ⟨ra, rc, hv, hl, hsl, hfr⟩ := strsAt_of_owns ho1 hs.strs.size
    subst hv
    go_ret
    refine ⟨ra, rc, ?_, hsl, grown_none hg1, hfr⟩
    simp
set_option maxRecDepth 100000 in
set_option maxHeartbeats 400000 in
theorem batch_any2 (au nu : Int) (ss : List ByteArray) (sa : Option Addr) (n cap : Nat) (w : World) (hn : n = ss.length) (hs : TextsAt w sa cap ss) :
    Calls Try.prog 19 #[.agg #[.int .i64 au, .int .i64 nu, .slice sa n cap]] w fun e w' => ∃ ra rc, e = .returned (.agg #[.int .i64 au, .int .i64 nu, .slice ra ss.length rc]) ∧ StrsAt w' ra ss ∧ Below w.heap.size w w' ∧ (∀ sb so, ra = some ⟨sb, so, none⟩ → w.heap.size ≤ sb) := by
  subst hn
  go_enter Try.func19, Try.ntmps19
  go_wp2_with fail
  have hR : Below w.heap.size w ((w.alloc (.cells #[.int .i64 au, .int .i64 nu, .slice sa ss.length cap] 24)).alloc (.cells #[.int .i64 0, .int .i64 0, .slice none 0 0] 24)) := ((Below.refl _ _).alloc (Nat.le_refl _) _).alloc (by simp) _
  have q0 := row_new (below_alloc (Below.refl ((w.alloc (.cells #[.int .i64 au, .int .i64 nu, .slice sa ss.length cap] 24)).alloc (.cells #[.int .i64 0, .int .i64 0, .slice none 0 0] 24)).heap.size ((w.alloc (.cells #[.int .i64 au, .int .i64 nu, .slice sa ss.length cap] 24)).alloc (.cells #[.int .i64 0, .int .i64 0, .slice none 0 0] 24))))
  have k0 := cells_at q0 0 _ rfl
  have k1 := cells_at q0 1 _ rfl
  have k2 := cells_at q0 2 _ rfl
  go_region_held2 (fun w' => w'.cell? ⟨w.heap.size, 0, none⟩ = some (.int .i64 au) ∧ w'.cell? ⟨w.heap.size, 1, none⟩ = some (.int .i64 nu) ∧ w'.cell? ⟨w.heap.size, 2, none⟩ = some (.slice sa ss.length cap)) (go_keep) ((go_at_call 34; refine (texts_any ss sa _ cap _ rfl (hs.below ?_)).mono ?_; exact hR.drew; rintro e w1 ⟨ra, rc, rfl, hs1, hb1, hfr⟩; replace hb1 := below_drew hb1; have r1 := row_new hb1; have r0 := row_new (below_alloc hb1); rw [size_alloc] at r1; have c0 := cells_at r0 0 _ rfl; have c1 := cells_at r0 1 _ rfl; have c2 := cells_at r0 2 _ rfl; have d0 := cells_at r1 0 _ rfl; have d1 := cells_at r1 1 _ rfl; have d2 := cells_at r1 2 _ rfl; have f0 := frozen_at r1 0; have f1 := frozen_at r1 1; have f2 := frozen_at r1 2))
  all_goals
    go_wp2_with fail
    have hfr' : ∀ sb so, ra = some ⟨sb, so, none⟩ → w.heap.size + 1 ≠ sb := fun sb so e => by have := hfr sb so e; simp at this; omega
    refine bodyPost_ret (v := .agg #[.int .i64 au, .int .i64 nu, .slice ra ss.length rc]) (by simp [results, Try.results19, go_sem, d0, d1, d2]) rfl ⟨ra, rc, rfl, ?_, ?_, fun sb so e => by have := hfr sb so e; simp at this; omega⟩
    · exact ((hs1.setCell _ _ _ hfr').setCell _ _ _ hfr').setCell _ _ _ hfr'
    · exact (((below_alloc (below_alloc hb1)).setCell (by simp) _).setCell (by simp) _).setCell (by simp) _
set_option maxRecDepth 100000 in
theorem batch_any (au nu : Int) (ss : List ByteArray) (sa : Option Addr) (n cap : Nat) (w : World) (hn : n = ss.length) (hs : TextsAt w sa cap ss) :
    Calls Try.prog 19 #[.agg #[.int .i64 au, .int .i64 nu, .slice sa n cap]] w fun e w' => ∃ ra rc, e = .returned (.agg #[.int .i64 au, .int .i64 nu, .slice ra ss.length rc]) ∧ StrsAt w' ra ss ∧ Below w.heap.size w w' := by
  refine (batch_any2 au nu ss sa n cap w hn hs).mono ?_
  rintro e w' ⟨ra, rc, he, h1, h2, _⟩
  exact ⟨ra, rc, he, h1, h2⟩
end Go.Proofs.Ytchmfbhdnhaleaa
