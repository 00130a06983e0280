/- The law sheaveskeep.DigestMade answers true for every argument, and each argument reads behind the call as it read before: the tied card. Its conditions: the three tables of package blake hold what the program's text lays (the card ties that); the form's own reach. -/
import Derived.Test.YtcecjdoabnhcgaaDoorApp
import Derived.Test.YtcecjdoabnhcgaaDoorDigestMadeM6
import Derived.Deep.Strs
import Derived.Test.YtcecjdoabnhcgaaDoorDigU
import Derived.Test.YtcecjdoabnhcgaaDoorBunM
import Derived.Test.YtcecjdoabnhcgaaDoorDigestMadeM0
import Derived.Test.YtcecjdoabnhcgaaDoorRows
import Derived.Test.YtcecjdoabnhcgaaDoorK
import Derived.Lib.LaidTab
import Derived.OpenShut
import Derived.Stop.LaidErr
import Derived.Test.YtcecjdoabnhcgaaDoorLib
import Derived.ProofKit
import Derived.Test.YtcecjdoabnhcgaaDoorCards
import Derived.Test.YtcecjdoabnhcgaaDoorTie
import Derived.WalkKit
import Derived.Deep.DeepHandedRow
import Derived.SevenTiedAt
import Derived.Below
namespace Go.Proofs.YtcecjdoabnhcgaaDoor
open Go.RowKit

set_option maxRecDepth 100000 in
set_option maxHeartbeats 400000 in
theorem same_eq (bs : List Int) (sa sb : Option Addr) (n m c d : Nat) (w : World) (hn : n = bs.length) (hm : m = bs.length) (ha : SliceAt w sa c bs) (hb : SliceAt w sb d bs) :
    Calls Tryd.prog 19 #[.slice sa n c, .slice sb m d] w fun e w' => e = .returned (.bool true) ∧ w = w' := by
  have h1 := run_text w sa n c bs hn ha
  have h2 := run_text w sb m d bs hm hb
  clear hn hm ha hb
  go_enter Tryd.func19, Tryd.ntmps19
  go_wp2_with fail
  go_ret
  exact ⟨by simp, rfl⟩
end Go.Proofs.YtcecjdoabnhcgaaDoor

namespace Go.Proofs.YtcecjdoabnhcgaaDoor
open Go.ChangeShapes Go.WideShapes Go.ChangeAt Go.RowKit Go.Deep

set_option maxRecDepth 100000 in
theorem cRaw : Tryd.prog.cellsOf 39 = 5 := by kernel_rfl
set_option maxRecDepth 100000 in
theorem cIntR : Tryd.prog.cellsOf 3 = 1 := by kernel_rfl
set_option maxRecDepth 100000 in
theorem cStrsR : Tryd.prog.cellsOf 22 = 1 := by kernel_rfl
set_option maxRecDepth 100000 in
theorem open_raw {H : Type} {enc : TypeId × Value → H} {W : World} {base : Nat} {v : Value} {d : DataW H} {p : List MemPlace}
    (hv : Value.okWide Tryd.prog W .any base 39 v) (h : DataW.Trod enc Tryd.prog W 0 (fun _ => true) true 39 v d p) (hfit : ∀ n ∈ d.weights Tryd.prog 39, n ≤ reachBytes) :
    ∃ ki ra rb rc sa cap ss, v = .agg #[.int .i64 ki, .int .i64 ra, .int .i64 rb, .int .i64 rc, .slice sa (List.length ss) cap] ∧ I64 ki ∧ I64 ra ∧ I64 rb ∧ I64 rc ∧ TextsAt W sa cap ss := by
  obtain ⟨cs, rfl, _⟩ := okWide_struct Tryd.underlying39 hv
  obtain ⟨fuel, hf⟩ := h
  obtain ⟨xs, n, _, hx, hl, hlen, hg⟩ := DataW.trod_struct Tryd.underlying39 hf
  rw [cRaw] at hl
  match xs, hlen with
  | [y0, y1, y2, y3, y4], _ =>
  have h0 := hg 0 _ rfl
  have h1 := hg 1 _ rfl
  have h2 := hg 2 _ rfl
  have h3 := hg 3 _ rfl
  have h4 := hg 4 _ rfl
  simp only [Prod.mk.injEq] at hx
  obtain ⟨rfl, rfl⟩ := hx
  obtain ⟨l⟩ := cs
  match l, hl with
  | [c0, c1, c2, c3, c4], _ =>
  obtain ⟨a0, e0, rfl, w0⟩ := DataW.trod_int Tryd.underlying3 h0
  obtain ⟨a1, e1, rfl, w1⟩ := DataW.trod_int Tryd.underlying3 h1
  obtain ⟨a2, e2, rfl, w2⟩ := DataW.trod_int Tryd.underlying3 h2
  obtain ⟨a3, e3, rfl, w3⟩ := DataW.trod_int Tryd.underlying3 h3
  obtain ⟨sa, cap, ss, e4, hs⟩ := open_texts_cells h4 (fun n hn => hfit n (by simp [DataW.weights, DataW.weightsEach, Tryd.underlying39, hn]))
  simp [cIntR, cStrsR, Value.cells] at e0 e1 e2 e3 e4
  subst e0 e1 e2 e3 e4
  exact ⟨a0, a1, a2, a3, sa, cap, ss, rfl, bounds_i64 w0, bounds_i64 w1, bounds_i64 w2, bounds_i64 w3, hs⟩
end Go.Proofs.YtcecjdoabnhcgaaDoor

namespace Go.Proofs.YtcecjdoabnhcgaaDoor
open Go.RowKit

set_option maxRecDepth 100000 in
/-- What stands behind the first three bytes of a slice. -/
theorem tail3_slice {w : World} {g so cap : Nat} {a b c : Int} {bs : List Int} (h : SliceAt w (some ⟨g, so, none⟩) cap ([a, b, c] ++ bs)) : SliceAt w (some ⟨g, so + 3, none⟩) (cap - 3) bs := by
  have hl := h.le
  have hm := h.max
  simp at hl
  refine ⟨by omega, by omega, .inr ⟨g, so + 3, rfl⟩, (fun e => by cases e), ?_⟩
  have := h.bytes.cut 3 bs.length
  simpa using this
set_option maxRecDepth 100000 in
set_option maxHeartbeats 4000000 in
theorem digestMade_walk (ki ra rb rc : Int) (sa : Option Addr) (cap : Nat) (ss : List ByteArray) (w : World) (_h1 : I64 ki) (h2 : I64 ra) (h3 : I64 rb) (h4 : I64 rc) (h5 : TextsAt w sa cap ss) (hT : Tabs w) :
    Calls Tryd.prog 5 #[.agg #[.int .i64 ki, .int .i64 ra, .int .i64 rb, .int .i64 rc, .slice sa ss.length cap]] w fun e w' => e = .returned (.bool true) ∧ Below w.heap.size w w' := by
  have hF := batchF_raw ra rb ss
  obtain ⟨⟨hl1, hl2⟩, hl3⟩ := bTxs_ok ss
  have hA : Below w.heap.size w (w.alloc (.cells #[.int .i64 ki, .int .i64 ra, .int .i64 rb, .int .i64 rc, .slice sa ss.length cap] 39)) := (Below.refl _ _).alloc (Nat.le_refl _) _
  have hB := batch_raw ki ra rb rc sa cap ss _ h2 h3 (h5.below hA)
  have hH : ∀ wx, _ := fun wx => header_raw ki ra rb rc sa ss.length cap wx h2 h3 h4
  have hHF : ∀ (bl pl : List Part), bl.map (·.bs) = hBats rc → pl.map (·.bs) = hPars ra rb rc → _ := fun bl pl => headerF_raw ra rb rc bl pl
  generalize bTxs ss = ts at *
  generalize pk ra 4 = au at *
  generalize 1 + pk rb 9 = nu at *
  have HF : Hid (batchF au nu ts = 0) := hF
  have HH : Hid _ := hH
  have HHF : Hid _ := hHF
  clear hF hH hHF
  go_enter Tryd.func5, Tryd.ntmps5
  go_wp2_with fail
  refine hB.mono ?_
  rintro e w1 ⟨ta, tc, rfl, ho1, hb1⟩
  have r1 := row_new hb1
  have hW1 := below_alloc hb1
  clear hb1 hB hA
  have e0 : w1.cell? ⟨w.heap.size, 0, none⟩ = some (.int .i64 ki) := cells_at r1 0 _ rfl
  have e1 : w1.cell? ⟨w.heap.size, 1, none⟩ = some (.int .i64 ra) := cells_at r1 1 _ rfl
  have e2 : w1.cell? ⟨w.heap.size, 2, none⟩ = some (.int .i64 rb) := cells_at r1 2 _ rfl
  have e3 : w1.cell? ⟨w.heap.size, 3, none⟩ = some (.int .i64 rc) := cells_at r1 3 _ rfl
  have e4 : w1.cell? ⟨w.heap.size, 4, none⟩ = some (.slice sa ss.length cap) := cells_at r1 4 _ rfl
  have hlt1 : w.heap.size < w1.heap.size := lt_of_heap r1
  obtain ⟨_, _, e0', _, hS, _⟩ := strsAt_of_owns ho1 (fun s h => by have := (hl3 s h).2; unfold maxLen; omega)
  cases e0'
  have htl : ∀ sb so, ta = some ⟨sb, so, none⟩ → sb < w1.heap.size := fun sb so e => by subst e; exact (ho1.lt sb rfl).2
  clear ho1
  go_wp2_with fail
  refine (HH.out _).mono ?_
  rintro e w2 ⟨ba, bc, bl, pa, pc, pl, rfl, hLb, hLp, hOb, hOp, hbs, hps, hb2⟩
  have HG : Hid _ := HHF.out bl pl hbs hps
  clear hbs hps HH HHF e0 e1 e2 e3 e4 r1
  have q2 := row_new hb2
  replace hb2 := below_alloc hb2
  have hW2 := hW1.trans (hb2.mono hW1.size)
  have hlt2 : w1.heap.size < w2.heap.size := lt_of_heap q2
  have k0 : w2.cell? ⟨w1.heap.size, 0, none⟩ = some (.int .i64 au) := cells_at q2 0 _ rfl
  have k1 : w2.cell? ⟨w1.heap.size, 1, none⟩ = some (.int .i64 nu) := cells_at q2 1 _ rfl
  have k2 : w2.cell? ⟨w1.heap.size, 2, none⟩ = some (.slice ta ts.length tc) := cells_at q2 2 _ rfl
  have hS2 := hS.below hb2
  have hA2 : Below w2.heap.size w2 (w2.alloc (.cells #[.int .i64 au, .int .i64 nu, .slice ba bl.length bc, .slice pa pl.length pc] 33)) := (Below.refl _ _).alloc (Nat.le_refl _) _
  have htl2 : ∀ sb so, ta = some ⟨sb, so, none⟩ → sb < w2.heap.size := fun sb so e => Nat.lt_trans (htl sb so e) hlt2
  go_wp2_with fail
  refine (encode_b 0 0 au nu ta _ tc ts _ (by omega) (by omega) rfl (hS2.below hA2) (fun sb so e => by have := htl2 sb so e; rw [size_alloc]; omega) HF.out).mono ?_
  rintro e w3 ⟨v3, rfl, ho3, hb3⟩
  have q3 := row_new hb3
  replace hb3 := below_alloc hb3
  have p3 := (hb3.block _ hlt2).trans q2
  have hW3 := hW2.trans (hb3.mono hW2.size)
  have hlt3 : w2.heap.size < w3.heap.size := lt_of_heap q3
  have m0 : w3.cell? ⟨w2.heap.size, 0, none⟩ = some (.int .i64 au) := cells_at q3 0 _ rfl
  have m1 : w3.cell? ⟨w2.heap.size, 1, none⟩ = some (.int .i64 nu) := cells_at q3 1 _ rfl
  have m2 : w3.cell? ⟨w2.heap.size, 2, none⟩ = some (.slice ba bl.length bc) := cells_at q3 2 _ rfl
  have m3 : w3.cell? ⟨w2.heap.size, 3, none⟩ = some (.slice pa pl.length pc) := cells_at q3 3 _ rfl
  obtain ⟨xa, xc, hv, hxl, hx⟩ := owns_form ho3
  subst hv
  obtain ⟨g, go, rfl⟩ : ∃ sb so, xa = some ⟨sb, so, none⟩ := by
    rcases hx.bytes with h | ⟨sb, so, e, _⟩
    · simp at h
    · exact ⟨sb, so, e⟩
  have HXL : Hid _ := hxl
  have hbB : (batchB au nu ts).length ≤ 100 := by
    have := txsB_le ts (fun s hs => (hl3 s hs).2)
    simp [batchB, rd3]; omega
  have hxc := hx.le
  have hxm := hx.max
  unfold maxLen at hxm
  have hXc : 3 + (batchB au nu ts).length ≤ xc := by rw [hxl]; exact hxc
  have hX3 : 3 ≤ 3 + (batchB au nu ts).length := by omega
  have HBB : Hid ((3 + (batchB au nu ts).length) - 3 = (batchB au nu ts).length) := by show _ = _; omega
  have hX4 : 3 < 3 + (batchB au nu ts).length := by simp [batchB, rd3]
  have hX300 : 3 + (batchB au nu ts).length ≤ 200 := by omega
  clear k0 k1 k2 ho3 hxl hxc q2 hA2
  generalize 3 + (batchB au nu ts).length = X at *
  have hX3I : ¬ (X : Int) < 3 := by omega
  have hX3J : (3 : Int) ≤ (X : Int) := by omega
  have hXcI : (X : Int) ≤ (xc : Int) := by omega
  have hxc4 : (3 : Int) < (xc : Int) := by omega
  have hxc5 : ¬ xc = 3 := by omega
  have hxc6 : ¬ xc - 3 = 0 := by omega
  go_wp2_with fail
  refine (encode_o 0 0 au nu ba _ bc bl pa _ pc pl _ (by omega) (by omega) rfl rfl (hLb.below hb3) (hLp.below hb3) (hOb.below hb3) (hOp.below hb3) HG.out).mono ?_
  rintro e w4 ⟨v4, rfl, ho4, hb4⟩
  have q4 := (hb4.block _ hlt3).trans q3
  have p4 := (hb4.block _ (lt_of_heap p3)).trans p3
  have hW4 := hW3.trans (hb4.mono hW3.size)
  have hx4 := hx.below hb4
  obtain ⟨ya, yc, hv, hyl, hy⟩ := owns_form ho4
  subst hv
  obtain ⟨g', go', rfl⟩ : ∃ sb so, ya = some ⟨sb, so, none⟩ := by
    rcases hy.bytes with h | ⟨sb, so, e, _⟩
    · simp at h
    · exact ⟨sb, so, e⟩
  obtain ⟨z1, z2, z3, z4, z5, z6⟩ := headerF_ok HG.out
  have hhB : (headB au nu bl pl).length ≤ 300 := headB_le au nu bl pl (by omega) z4 z5 z6
  have hyc := hy.le
  have hym := hy.max
  unfold maxLen at hym
  have hYc : 3 + (headB au nu bl pl).length ≤ yc := by rw [hyl]; exact hyc
  have hY3 : 3 ≤ 3 + (headB au nu bl pl).length := by omega
  have HHB : Hid ((3 + (headB au nu bl pl).length) - 3 = (headB au nu bl pl).length) := by show _ = _; omega
  have hY4 : 3 < 3 + (headB au nu bl pl).length := by simp [headB, rd3]
  have hY300 : 3 + (headB au nu bl pl).length ≤ 400 := by omega
  clear m0 m1 m2 m3 ho4 hyl hyc q3 p3 hx
  generalize 3 + (headB au nu bl pl).length = Y at *
  have hY3I : ¬ (Y : Int) < 3 := by omega
  have hY3J : (3 : Int) ≤ (Y : Int) := by omega
  have hYcI : (Y : Int) ≤ (yc : Int) := by omega
  have hyc4 : (3 : Int) < (yc : Int) := by omega
  have hyc5 : ¬ yc = 3 := by omega
  have hyc6 : ¬ yc - 3 = 0 := by omega
  go_wp2_with fail
  have hx3 := tail3_slice hx4
  have hA4 : Below w4.heap.size w4 (w4.alloc (.cells #[.slice (some ⟨g, go + 3, none⟩) (X - 3) (xc - 3)] 25)) := (Below.refl _ _).alloc (Nat.le_refl _) _
  have hB1 : (batchB au nu ts).length ≤ 200 := by omega
  have hB2 : (headB au nu bl pl).length ≤ 400 := by omega
  have hT4 := hT.below hW4
  refine (tagged_ok 1 [⟨some ⟨g, go + 3, none⟩, xc - 3, batchB au nu ts⟩] _ _ _ _ rfl (one_part w4 _ _ _ _ HBB.out hx3) (by simp [psz]; omega) (hT4.below hA4)).mono ?_
  rintro e w5 ⟨d1, rfl, hd1, hb5, hr5⟩
  rw [show tagTo 1 [(⟨some ⟨g, go + 3, none⟩, xc - 3, batchB au nu ts⟩ : Part)] [(⟨some ⟨g, go + 3, none⟩, xc - 3, batchB au nu ts⟩ : Part)].length = tagTo 1 [⟨none, 0, batchB au nu ts⟩] 1 from tagTo_part _ _ _ _] at hr5
  replace hb5 := below_alloc hb5
  have hW5 := hW4.trans (hb5.mono hW4.size)
  have hy5 := tail3_slice (hy.below hb5)
  clear hA4
  have hA5 : Below w5.heap.size w5 (w5.alloc (.cells #[.slice (some ⟨g', go' + 3, none⟩) (Y - 3) (yc - 3)] 25)) := (Below.refl _ _).alloc (Nat.le_refl _) _
  have hT5 := hT.below hW5
  go_wp2_with fail
  refine (tagged_ok 2 [⟨some ⟨g', go' + 3, none⟩, yc - 3, headB au nu bl pl⟩] _ _ _ _ rfl (one_part w5 _ _ _ _ HHB.out hy5) (by simp [psz]; omega) (hT5.below hA5)).mono ?_
  rintro e w6 ⟨d2, rfl, hd2, hb6, hr6⟩
  rw [show tagTo 2 [(⟨some ⟨g', go' + 3, none⟩, yc - 3, headB au nu bl pl⟩ : Part)] [(⟨some ⟨g', go' + 3, none⟩, yc - 3, headB au nu bl pl⟩ : Part)].length = tagTo 2 [⟨none, 0, headB au nu bl pl⟩] 1 from tagTo_part _ _ _ _] at hr6
  replace hb6 := below_alloc hb6
  have hW6 := hW5.trans (hb6.mono hW5.size)
  have hb46 := hb5.trans (hb6.mono hb5.size)
  have p6 := (hb46.block _ (lt_of_heap p4)).trans p4
  have q6 := (hb46.block _ (lt_of_heap q4)).trans q4
  have k0 : w6.cell? ⟨w1.heap.size, 0, none⟩ = some (.int .i64 au) := cells_at p6 0 _ rfl
  have k1 : w6.cell? ⟨w1.heap.size, 1, none⟩ = some (.int .i64 nu) := cells_at p6 1 _ rfl
  have k2 : w6.cell? ⟨w1.heap.size, 2, none⟩ = some (.slice ta ts.length tc) := cells_at p6 2 _ rfl
  have hb26 := hb3.trans ((hb4.trans (hb46.mono hb4.size)).mono hb3.size)
  have hr56 := hr5.below hb6
  obtain ⟨y1, y2, y3, y4⟩ := batchF_ok HF.out
  clear hA5 hx3 hy5 hr5
  go_wp2_with fail
  refine (batchDigest_ok au nu ta _ tc ts w6 rfl (hS2.below hb26) HF.out y1 ⟨by omega, y2.2⟩ y3.2 (fun s hs => (y4 s hs).2) (fun sb so e => Nat.lt_of_lt_of_le (htl2 sb so e) hb26.size) (hT.below hW6)).mono ?_
  rintro e w7 ⟨d3, rfl, hd3, hb7, hr7⟩
  have hW7 := hW6.trans (hb7.mono hW6.size)
  have q7 := (hb7.block _ (lt_of_heap q6)).trans q6
  have m0 : w7.cell? ⟨w2.heap.size, 0, none⟩ = some (.int .i64 au) := cells_at q7 0 _ rfl
  have m1 : w7.cell? ⟨w2.heap.size, 1, none⟩ = some (.int .i64 nu) := cells_at q7 1 _ rfl
  have m2 : w7.cell? ⟨w2.heap.size, 2, none⟩ = some (.slice ba bl.length bc) := cells_at q7 2 _ rfl
  have m3 : w7.cell? ⟨w2.heap.size, 3, none⟩ = some (.slice pa pl.length pc) := cells_at q7 3 _ rfl
  have hb27 := hb26.trans (hb7.mono hb26.size)
  clear k0 k1 k2
  go_wp2_with fail
  refine (headerDigest_ok au nu ba _ bc bl pa _ pc pl w7 rfl rfl (hLb.below hb27) (hLp.below hb27) (hOb.below hb27) (hOp.below hb27) HG.out z1 ⟨by omega, z2.2⟩ (by omega) z4 z5 z6 (hT.below hW7)).mono ?_
  rintro e w8 ⟨d4, rfl, hd4, hb8, hr8⟩
  have hW8 := hW7.trans (hb8.mono hW7.size)
  go_wp2_with fail
  refine (same_eq (tagD 1 (batchB au nu ts)) _ _ _ _ _ _ w8 (tagD_length _ _).symm (tagD_length _ _).symm (hr7.below hb8) ((hr56.below hb7).below hb8)).mono ?_
  rintro e w9 ⟨rfl, rfl⟩
  go_wp2_with fail
  refine (same_eq (tagD 2 (headB au nu bl pl)) _ _ _ _ _ _ w8 (tagD_length _ _).symm (tagD_length _ _).symm hr8 ((hr6.below hb7).below hb8)).mono ?_
  rintro e w9 ⟨rfl, rfl⟩
  go_wp2_with fail
  go_ret
  exact ⟨rfl, hW8⟩
end Go.Proofs.YtcecjdoabnhcgaaDoor

namespace Go.Proofs.YtcecjdoabnhcgaaDoor
open Go.RowKit

set_option maxRecDepth 100000 in
/-- An array of arrays of integers that reads as a table of rows holds the rows' numbers, cell for cell. -/
theorem cells_of_tab2 {H : Type} {enc : TypeId × Value → H} {P : Program} {w : World} {base : Nat} {sp : Nat → Bool} {held : Bool} {fuel : Nat} {t e i : TypeId} {n m : Nat} {k : IntKind} {cs : List Value} {rows : List (List Int)} {p : List MemPlace}
    (ht : P.underlying t = some (.array n e)) (he : P.underlying e = some (.array m i)) (hi : P.underlying i = some (.int k)) (hci : P.cellsOf i = 1) (hce : P.cellsOf e = m) (hm : 0 < m)
    (h : DataW.trod enc P w base sp held fuel t cs = some (.agg (rows.map (Lib.tabData k)), p)) (q : Nat) (hq : q < n * m) : cs[q]? = ((rows.getD (q / m) []).map (Value.int k))[q % m]? := by
  obtain ⟨xs, f, rfl, hx, hl, hn, hr⟩ := DataW.trod_array ht h
  have hin : q / m < n := Nat.div_lt_of_lt_mul (by rw [Nat.mul_comm]; exact hq)
  have hrow := hr (q / m) hin
  have hxs : xs.map (·.1) = rows.map (Lib.tabData k) := by
    have := congrArg Prod.fst hx
    simpa using this.symm
  have hg : (xs.map (·.1))[q / m]? = some (xs[q / m]'(by omega)).1 := by simp [hn, hin]
  rw [hxs] at hg
  simp only [List.getElem?_map, Option.map_eq_some_iff] at hg
  obtain ⟨r, hr1, hr2⟩ := hg
  rw [List.getElem?_eq_getElem (by omega), hce] at hrow
  have hrow' : DataW.trod enc P w base sp held f e ((cs.drop (q / m * m)).take m) = some (Lib.tabData k r, (xs[q / m]'(by omega)).2) := by
    rw [hrow, hr2]
  have hc := Lib.cells_of_tab he hi hci hce hrow'
  have hj : q % m < m := Nat.mod_lt _ hm
  have e1 : ((cs.drop (q / m * m)).take m)[q % m]? = cs[q]? := by
    rw [List.getElem?_take, if_pos hj, List.getElem?_drop, Nat.mul_comm, Nat.div_add_mod]
  rw [← e1, hc]
  simp [List.getD, hr1]

set_option maxRecDepth 100000 in
theorem tFirst : (Tryd.prog.globals[0]?).map (·.type) = some 85 := by kernel_rfl
set_option maxRecDepth 100000 in
theorem tOrders : (Tryd.prog.globals[1]?).map (·.type) = some 101 := by kernel_rfl
set_option maxRecDepth 100000 in
theorem tLanes : (Tryd.prog.globals[2]?).map (·.type) = some 103 := by kernel_rfl
set_option maxRecDepth 100000 in
theorem cU32 : Tryd.prog.cellsOf 84 = 1 := by kernel_rfl
set_option maxRecDepth 100000 in
theorem c8U32 : Tryd.prog.cellsOf 85 = 8 := by kernel_rfl
set_option maxRecDepth 100000 in
theorem c16U8 : Tryd.prog.cellsOf 100 = 16 := by kernel_rfl
set_option maxRecDepth 100000 in
theorem c4U8 : Tryd.prog.cellsOf 102 = 4 := by kernel_rfl
def ordRows : List (List Int) := [[0, 1, 2, 3, 4, 5, 6, 7, 8, 9, 10, 11, 12, 13, 14, 15], [14, 10, 4, 8, 9, 15, 13, 6, 1, 12, 0, 2, 11, 7, 5, 3], [11, 8, 12, 0, 5, 2, 15, 13, 10, 14, 3, 6, 7, 1, 9, 4], [7, 9, 3, 1, 13, 12, 11, 14, 2, 6, 5, 10, 4, 0, 15, 8], [9, 0, 5, 7, 2, 4, 10, 15, 14, 1, 11, 12, 6, 8, 3, 13], [2, 12, 6, 10, 0, 11, 8, 3, 4, 13, 7, 5, 15, 14, 1, 9], [12, 5, 1, 15, 14, 13, 4, 10, 0, 7, 6, 3, 9, 2, 8, 11], [13, 11, 7, 14, 12, 1, 3, 9, 5, 0, 15, 4, 8, 6, 2, 10], [6, 15, 14, 9, 11, 3, 0, 8, 12, 2, 13, 7, 1, 4, 10, 5], [10, 2, 8, 4, 7, 6, 1, 5, 15, 11, 9, 14, 3, 12, 13, 0]]
def laneRows : List (List Int) := [[0, 4, 8, 12], [1, 5, 9, 13], [2, 6, 10, 14], [3, 7, 11, 15], [0, 5, 10, 15], [1, 6, 11, 12], [2, 7, 8, 13], [3, 4, 9, 14]]
set_option maxRecDepth 100000 in
theorem ordRows_flat : ∀ q, q < 160 → (ordRows.getD (q / 16) [])[q % 16]? = some ((ordF.getD q 0 : Nat) : Int) := by decide +kernel
set_option maxRecDepth 100000 in
theorem laneRows_flat : ∀ q, q < 32 → (laneRows.getD (q / 4) [])[q % 4]? = some ((laneF.getD q 0 : Nat) : Int) := by decide +kernel
set_option maxRecDepth 100000 in
theorem dFirst : Rows.laid_sheaves_blake_firstWords (H := Unit) = Lib.tabData .u32 fw := rfl
set_option maxRecDepth 100000 in
theorem dOrders : Rows.laid_sheaves_blake_orders (H := Unit) = .agg (ordRows.map (Lib.tabData .u8)) := rfl
set_option maxRecDepth 100000 in
theorem dLanes : Rows.laid_sheaves_blake_lanes (H := Unit) = .agg (laneRows.map (Lib.tabData .u8)) := rfl

set_option maxRecDepth 100000 in
theorem tabs_of_laid {W : World} {n1 n2 n3 : String} (gFirst : Tryd.prog.globalNamed n1 = some 0) (gOrders : Tryd.prog.globalNamed n2 = some 1) (gLanes : Tryd.prog.globalNamed n3 = some 2)
    (h : laidMetH Tryd.prog [(n1, Rows.laid_sheaves_blake_firstWords), (n2, Rows.laid_sheaves_blake_orders), (n3, Rows.laid_sheaves_blake_lanes)] W) : Tabs W := by
  have h1 : laidMet Tryd.prog [(n1, Rows.laid_sheaves_blake_firstWords), (n2, Rows.laid_sheaves_blake_orders), (n3, Rows.laid_sheaves_blake_lanes)] W := h
  clear h
  have h2 := h1.tail
  have h3 := h2.tail
  rw [dFirst] at h1
  rw [dOrders] at h2
  rw [dLanes] at h3
  have t1 := Lib.tabIs_of_head gFirst tFirst Tryd.underlying85 Tryd.underlying84 cU32 c8U32 h1
  refine ⟨fun i hi => t1.cell gFirst i hi, fun i hi => ?_, fun i hi => ?_⟩
  · obtain ⟨ps, ⟨g', t', cs, fuel, p, q, hg', ht', hvar, hd, _, _⟩, _⟩ := h2
    obtain rfl := Option.some.inj (gOrders.symm.trans hg')
    obtain rfl := Option.some.inj (tOrders.symm.trans ht')
    have hc := World.var?_cell gOrders hvar i
    have he := cells_of_tab2 Tryd.underlying101 Tryd.underlying100 Tryd.underlying5 cU8 c16U8 (by decide) hd i hi
    rw [hc]
    have := ordRows_flat i hi
    simp only [List.getElem?_map, this, Option.map_some] at he
    simpa using he
  · obtain ⟨ps, ⟨g', t', cs, fuel, p, q, hg', ht', hvar, hd, _, _⟩, _⟩ := h3
    obtain rfl := Option.some.inj (gLanes.symm.trans hg')
    obtain rfl := Option.some.inj (tLanes.symm.trans ht')
    have hc := World.var?_cell gLanes hvar i
    have he := cells_of_tab2 Tryd.underlying103 Tryd.underlying102 Tryd.underlying5 cU8 c4U8 (by decide) hd i hi
    rw [hc]
    have := laneRows_flat i hi
    simp only [List.getElem?_map, this, Option.map_some] at he
    simpa using he
end Go.Proofs.YtcecjdoabnhcgaaDoor

namespace Go.Proofs.YtcecjdoabnhcgaaDoor
open Go.ChangeShapes Go.WideShapes Go.ChangeAt Go.RowKit

/-- What the initialisers of the three tables lay, in the first blocks. -/
def layBlock (c : Array Value) : Obj → Obj
  | .cells _ t frozen => .cells c t frozen
  | o => o
def layTabs (w : World) : World :=
  { w with heap := ((w.heap.modify 0 (layBlock (ua fw))).modify 1 (layBlock (ub (ordF.map Int.ofNat)).toArray)).modify 2 (layBlock (ub (laneF.map Int.ofNat)).toArray) }
end Go.Proofs.YtcecjdoabnhcgaaDoor

namespace Go.Proofs.YtcecjdoabnhcgaaDoor.digestMade
open Go.ChangeShapes Go.WideShapes Go.ChangeAt Go.RowKit

set_option maxRecDepth 100000 in
/-- What the walk gives, for every argument and every world that holds the tables. -/
theorem contract (H : Type) (enc : TypeId × Value → H) (W : World) (base : Nat) (args : Array Value) (ds gs : List (DataW H)) (before : List MemPlace)
    (hval : ∀ (j : Nat) t v, Tryd.f5.params[j]? = some t → args[j]? = some v → Value.okWide Tryd.prog W .any base t v)
    (hW : DataW.Whole enc Tryd.prog Tryd.f5.params.toList Rows.digestMadeSpec.vars false W args.toList ds gs before) (hsz : (DataW.weightsEach Tryd.prog (Tryd.f5.params.toList ++ (OpenSpec.ofChange Rows.digestMadeSpec).bare.plain.varTypes Tryd.prog) (ds ++ gs)).all (· ≤ reachBytes) = true) (hL : laidMetH Tryd.prog Rows.digestMadeRow.laid W) :
    Calls Tryd.prog 5 args W fun e W' => ∃ v, e = .returned v ∧ Rows.digestMadeSpec.post enc Tryd.prog Tryd.f5 false true false false W args v W' := by
  have hW' := hW
  obtain ⟨p, q, hA0, hV, rfl, hfz, hnd⟩ := hW
  have hA : DataW.TrodAll enc Tryd.prog W 0 (fun _ => true) true Tryd.f5.params.toList args.toList ds p := hA0
  rw [Tryd.params5] at hA hval hsz
  obtain ⟨v0, vs0, d0, ds0, p0, q0, hargs, rfl, rfl, h0, r0⟩ := trodAll_cons hA
  obtain ⟨rfl, rfl, rfl⟩ := trodAll_nil r0
  obtain rfl : args = #[v0] := by cases args; simp_all
  obtain ⟨rfl, rfl⟩ := trodVars_none hV
  have k0 := h0
  have lt0 : ∀ x ∈ p0, x.block < W.heap.size := by obtain ⟨m, hm⟩ := k0; exact DataW.trod_lt m _ _ _ hm
  obtain ⟨ki0, ra0, rb0, rc0, sa0, cap0, ss0, rfl, q0_0, q0_1, q0_2, q0_3, q0_4⟩ := open_raw (hval 0 39 v0 rfl rfl) h0 (fit_each hsz (j := 0) rfl rfl)
  clear hA0
  have hT : Tabs W := tabs_of_laid (by kernel_rfl) (by kernel_rfl) (by kernel_rfl) hL
  refine (digestMade_walk ki0 ra0 rb0 rc0 sa0 cap0 ss0 W q0_0 q0_1 q0_2 q0_3 q0_4 hT).mono fun e W' ⟨he, bel⟩ => ?_
  subst he
  exact ⟨_, rfl, _, _, _, [], _, [], hW', trodAll_mk1 (shut_bool Tryd.underlying4 _), (trodAll_cons_mk (Below.trod laidOut (by kernel_rfl) (of_decide_eq_true (by kernel_rfl)) k0 bel lt0) trodAll_mk0), rfl, bel.frame _, fun h => by cases h⟩

set_option maxRecDepth 100000 in
theorem laid_met (os : Os) : laidMet Tryd.prog Rows.digestMadeRow.laid ((layTabs (World.holding Tryd.prog os ⟨#[], #[], []⟩)).forCall (fun _ _ => 0) ⟨#[], #[.agg #[.int .i64 0, .int .i64 0, .int .i64 0, .int .i64 0, .slice none 0 0]], []⟩).memory :=
  laidMet_of_run' 8 (by kernel_rfl) (by kernel_rfl)
set_option maxRecDepth 100000 in
theorem reads (os : Os) {H : Type} (enc : TypeId × Value → H) : ∃ places, DataW.whole enc Tryd.prog ((layTabs (World.holding Tryd.prog os ⟨#[], #[], []⟩)).forCall (fun _ _ => 0) ⟨#[], #[.agg #[.int .i64 0, .int .i64 0, .int .i64 0, .int .i64 0, .slice none 0 0]], []⟩).memory Tryd.f5.params.toList Rows.digestMadeSpec.vars false (#[.agg #[.int .i64 0, .int .i64 0, .int .i64 0, .int .i64 0, .slice none 0 0]] : Array Value).toList 8 = some ([.agg [.lit (.int .i64 0), .lit (.int .i64 0), .lit (.int .i64 0), .lit (.int .i64 0), .nil]], [], places) :=
  ⟨[], by kernel_rfl⟩

set_option maxRecDepth 100000 in
theorem lifted (os : Os) (started : os.Started) (H : Type) (enc : TypeId × Value → H) (F : Stop.Interp) :
    ReturnsInHanded {} Tryd.checked os 5 .any ((OpenSpec.ofChange Rows.digestMadeSpec).preRow enc Tryd.prog Tryd.f5 Rows.digestMadeRow.domain false Rows.digestMadeRow.laid) (((OpenSpec.ofChange Rows.digestMadeSpec).at F).post enc Tryd.prog Tryd.f5 false true false false) := by
  obtain ⟨places, hx⟩ := reads os enc
  refine returnsInHanded_of_row (C := Tryd.checked) (s := OpenSpec.ofChange Rows.digestMadeSpec) own started (by kernel_rfl) Tryd.func5
    (witness_row_at (enc := enc) (C := Tryd.checked) false (layTabs (World.holding Tryd.prog os ⟨#[], #[], []⟩)) #[.agg #[.int .i64 0, .int .i64 0, .int .i64 0, .int .i64 0, .slice none 0 0]] rfl (by kernel_rfl) (by kernel_rfl) (by kernel_rfl)
      (OpenSpec.preRow_of_cond 8 hx (by kernel_rfl) (fun k hk => by cases hk) (by kernel_rfl) (laid_met os))) ?_
  intro W base args ds gs before hval hW _ _ hsz hL _ _
  exact contract H enc W base args ds gs before hval hW hsz hL

set_option maxRecDepth 100000 in
theorem said : Rows.DigestMadeSaid :=
  OpenClaim.holds_of_cond 5 Tryd.f5 rfl rfl rfl rfl rfl rfl rfl ⟨rfl, rfl, rfl, rfl, rfl⟩ rfl rfl rfl rfl rfl (by kernel_rfl) Tryd.func5 (by kernel_rfl)
    (of_decide_eq_true (by kernel_rfl)) (by unfold Func.isWrapper; first | (rw [if_pos (by decide +kernel)]; kernel_rfl) | (rw [if_neg (by decide +kernel)]; exact ⟨rfl, rfl⟩))
    (fun os started H enc _ F => by rw [OpenClaim.pre_eq_preRow]; exact lifted os started H enc F)

set_option maxRecDepth 100000 in
theorem plain (f : FuncId) (fn : Func) (hf : Tryd.pinned.checked.prog.funcNamed Rows.digestMadeRow.func = some f) (hfn : Tryd.pinned.checked.prog.funcs[f]? = some fn) :
    false = Tryd.pinned.checked.prog.looks [] ∧ ∀ (j : Nat) t, fn.params[j]? = some t → Tryd.pinned.checked.prog.wantsStandIn t = false := by
  obtain rfl : f = 5 := Option.some.inj ((show Tryd.prog.funcNamed Rows.digestMadeRow.func = some 5 by kernel_rfl).symm.trans hf) |>.symm
  obtain rfl : fn = Tryd.f5 := (Option.some.inj (Tryd.func5.symm.trans hfn)).symm
  refine ⟨by kernel_rfl, fun j t ht => ?_⟩
  rw [Tryd.params5] at ht
  have hm : t = 39 := by simpa using Array.mem_of_getElem? ht
  rcases hm with rfl
  · exact (show Tryd.prog.wantsStandIn 39 = false by kernel_rfl)

set_option maxRecDepth 100000 in
/-- THE CARD. -/
theorem card : Rows.DigestMadeCardSaid :=
  Claim7.holds_tied_plain_at .later [] _ _ _ _ said (fun _ h => by cases h) (by kernel_rfl) (fun _ h => by cases h) digestMade_row_tie rfl ⟨rfl, rfl⟩ (by kernel_rfl) rfl plain (by kernel_rfl)
end Go.Proofs.YtcecjdoabnhcgaaDoor.digestMade
namespace Go.Proofs.YtcecjdoabnhcgaaDoor
set_option maxRecDepth 100000 in
theorem digestMade_holds : Rows.DigestMadeCardSaid := digestMade.card
#print axioms digestMade_holds
end Go.Proofs.YtcecjdoabnhcgaaDoor
