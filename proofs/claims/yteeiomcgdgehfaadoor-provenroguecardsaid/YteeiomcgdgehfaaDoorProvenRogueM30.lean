/- The law sheaveskeep.ProvenRogue answers true for every argument, and each argument reads behind the call as it read before: the tied card. Its conditions: the three tables of package blake hold what the program's text lays (the card ties that); the form's own reach. -/
import Derived.Test.YteeiomcgdgehfaaDoorProvenRogueM24
import Derived.Test.YteeiomcgdgehfaaDoorProvenRogueM18
import Derived.Test.YteeiomcgdgehfaaDoorBase
import Derived.Test.YteeiomcgdgehfaaDoorRows
import Derived.Test.YteeiomcgdgehfaaDoorK
import Derived.Test.YteeiomcgdgehfaaDoorOpenB
import Derived.Lib.LaidTab
import Derived.OpenShut
import Derived.Stop.LaidErr
import Derived.Test.YteeiomcgdgehfaaDoorProvenRogueM6
import Derived.ProofKit
import Derived.Test.YteeiomcgdgehfaaDoorCards
import Derived.Test.YteeiomcgdgehfaaDoorTie
import Derived.WalkKit
import Derived.Deep.DeepHandedRow
import Derived.SevenTiedAt
import Derived.Below
namespace Go.Proofs.YteeiomcgdgehfaaDoor
open Go.RowKit

set_option maxRecDepth 100000 in
theorem CertC.hat {w wx : World} {b : Nat} {ra rb rc : Int} {ba : Option Addr} {bc : Nat} {bl : List Part} {pa : Option Addr} {pc : Nat} {pl : List Part} {va : Option Addr} {vc : Nat} (H : CertC w wx b ra rb rc ba bc bl pa pc pl va vc) : HAt wx ba bc bl pa pc pl :=
  ⟨H.bat, H.par, fun sb so e => (H.offb.row sb so e).1, fun sb so e => (H.offp.row sb so e).1⟩
set_option maxRecDepth 100000 in
theorem HAt.away {w : World} {ba : Option Addr} {bc : Nat} {bl : List Part} {pa : Option Addr} {pc : Nat} {pl : List Part} {b : Nat} (h : HAt w ba bc bl pa pc pl) (h1 : Away b ba bl) (h2 : Away b pa pl) (j : Nat) (v : Value) : HAt (w.setCell ⟨b, j, none⟩ v) ba bc bl pa pc pl :=
  ⟨h.lb.away h1 j v, h.lp.away h2 j v, fun sb so e => by have := h.rb sb so e; simpa using this, fun sb so e => by have := h.rp sb so e; simpa using this⟩
set_option maxRecDepth 100000 in
theorem IntsAt.away {w : World} {va : Option Addr} {vl : List Int} {b : Nat} (h : IntsAt w va vl) (hn : ∀ sb so, va = some ⟨sb, so, none⟩ → sb ≠ b) (j : Nat) (v : Value) : IntsAt (w.setCell ⟨b, j, none⟩ v) va vl := by
  refine ⟨?_⟩
  rcases h.cells with h | ⟨sb, so, rfl, hc⟩
  · exact .inl h
  · exact .inr ⟨sb, so, rfl, fun k hk => (World.cell?_setCell_far _ _ _ _ (Ne.symm (hn sb so rfl))).trans (hc k hk)⟩
set_option maxRecDepth 100000 in
theorem IntsAt.take {w : World} {va : Option Addr} {vl : List Int} (h : IntsAt w va vl) (k : Nat) : IntsAt w va (vl.take k) := by
  refine ⟨?_⟩
  rcases h.cells with h | ⟨sb, so, rfl, hc⟩
  · left; rw [h]; simp
  · refine .inr ⟨sb, so, rfl, fun j hj => ?_⟩
    have hj2 : j < vl.length := by rw [List.length_take] at hj; omega
    have hj3 : j < k := by rw [List.length_take] at hj; omega
    rw [hc j hj2]
    simp [List.getD, hj3]
set_option maxRecDepth 100000 in
theorem IntsAt.lit {w : World} {b : Nat} {vl : List Int} (h : w.heap[b]? = some (.cells (iv vl).toArray 3 (0, 0))) : IntsAt w (some ⟨b, 0, none⟩) vl := by
  refine ⟨.inr ⟨b, 0, rfl, fun j hj => ?_⟩⟩
  rw [Nat.zero_add]
  refine cells_at h j _ ?_
  simp [iv, hj, List.getD]
set_option maxRecDepth 100000 in
/-- A store into a certificate's block leaves signs as they are. -/
theorem signs_cert {w : World} {sa : Option Addr} {ks : List Sg} (h : SignsAt w sa ks) {b : Nat} {x0 x1 : Int} {a2 a3 a4 : Option Addr} {n2 n3 n4 c2 c3 c4 : Nat} {T : TypeId} (hb : w.heap[b]? = some (.cells #[.int .i64 x0, .int .i64 x1, .slice a2 n2 c2, .slice a3 n3 c3, .slice a4 n4 c4] T (0, 0))) (j : Nat) (v : Value) : SignsAt (w.setCell ⟨b, j, none⟩ v) sa ks := by
  have hcell : ∀ i, w.cell? ⟨b, i, none⟩ = (#[.int .i64 x0, .int .i64 x1, .slice a2 n2 c2, .slice a3 n3 c3, .slice a4 n4 c4] : Array Value)[i]? := fun i => by simp [World.cell?, hb]
  refine ⟨?_, fun s hs => ⟨?_, (h.each s hs).2⟩⟩
  · rcases h.cells with h | ⟨sb, so, rfl, hc⟩
    · exact .inl h
    · refine .inr ⟨sb, so, rfl, fun k hk => ?_⟩
      obtain ⟨h0, h1, h2, h3⟩ := hc k hk
      have hne : b ≠ sb := by
        intro e
        subst e
        rw [hcell] at h2
        generalize so + k * 4 = o at h2
        match o, h2 with
        | 0, h2 => simp at h2
        | 1, h2 => simp at h2
        | 2, h2 => simp at h2
        | o + 3, h2 => simp at h2
      exact ⟨(World.cell?_setCell_far _ _ _ _ hne).trans h0, (World.cell?_setCell_far _ _ _ _ hne).trans h1, (World.cell?_setCell_far _ _ _ _ hne).trans h2, (World.cell?_setCell_far _ _ _ _ hne).trans h3⟩
  · have hs1 := (h.each s hs).1
    refine ⟨hs1.le, hs1.max, hs1.some, hs1.nil, ?_⟩
    rcases hs1.bytes with hc | ⟨sb, so, e, hc⟩
    · exact .inl hc
    · refine .inr ⟨sb, so, e, fun k hk => ?_⟩
      have h2 := hc k hk
      have hne : b ≠ sb := by
        intro e
        subst e
        rw [hcell] at h2
        generalize so + k = o at h2
        match o, h2 with
        | 0, h2 => simp at h2
        | 1, h2 => simp at h2
        | 2, h2 => simp at h2
        | 3, h2 => simp at h2
        | 4, h2 => simp at h2
        | o + 5, h2 => simp at h2
      exact (World.cell?_setCell_far _ _ _ _ hne).trans h2
set_option maxRecDepth 100000 in
theorem gtab_cert {w : World} {sa : Option Addr} {cap : Nat} {ks : List Sg} (h : GTab w sa cap ks) {b : Nat} {x0 x1 : Int} {a2 a3 a4 : Option Addr} {n2 n3 n4 c2 c3 c4 : Nat} {T : TypeId} (hb : w.heap[b]? = some (.cells #[.int .i64 x0, .int .i64 x1, .slice a2 n2 c2, .slice a3 n3 c3, .slice a4 n4 c4] T (0, 0))) (j : Nat) (v : Value) : GTab (w.setCell ⟨b, j, none⟩ v) sa cap ks :=
  ⟨h.le, h.max, h.small, h.some, signs_cert h.slots hb j v⟩
set_option maxRecDepth 100000 in
theorem votersF_two (rc : Int) : votersF ((votersL rc).take 2) = 10 ∧ ((votersL rc).take 2).length = 2 := by
  obtain ⟨p0, p1⟩ := pk_bounds rc 5 (by decide)
  unfold votersL
  generalize pk rc 5 = k at *
  have h : k = 0 ∨ k = 1 ∨ k = 2 ∨ k = 3 ∨ k = 4 := by omega
  rcases h with rfl | rfl | rfl | rfl | rfl <;> decide
end Go.Proofs.YteeiomcgdgehfaaDoor

namespace Go.Proofs.YteeiomcgdgehfaaDoor

set_option maxRecDepth 100000 in
theorem infoIntP : (Tryd.prog.info? 3).map (fun i => (i.zero, i.size, i.bytes)) = some (some (.int .i64 0), 1, 8) := by kernel_rfl
end Go.Proofs.YteeiomcgdgehfaaDoor

namespace Go.Proofs.YteeiomcgdgehfaaDoor
open Go.RowKit

set_option maxRecDepth 100000 in
theorem headerF_author {au au' rd : Int} {bl pl : List Part} (h : headerF au rd bl pl = 0) (ha : 0 ≤ au' ∧ au' < 4) : headerF au' rd bl pl = 0 := by
  obtain ⟨z1, z2, z3, z4, _, _⟩ := headerF_ok h
  unfold headerF at h ⊢
  rw [if_neg (by omega)] at h ⊢
  exact h
set_option maxRecDepth 100000 in
theorem prov_sgL {au rd bad : Int} {bl pl : List Part} {nodes vl : List Int} (hF : headerF au rd bl pl = 0) (hn : ∀ x ∈ nodes, 0 ≤ x ∧ x < 4) (hb : -1 ≤ bad ∧ bad ≤ 3) :
    provF (sgL au rd (hDig au rd bl pl) nodes) bad au rd 0 (hDig au rd bl pl) vl = if ((decide (au ≠ bad) && !decide (au ∈ nodes)) || vl.any fun nd => decide (nd ≠ bad) && !decide (nd ∈ nodes)) then 11 else 0 := by
  have h : lacksF (sgL au rd (hDig au rd bl pl) nodes) bad au rd (hDig au rd bl pl) = fun nd => decide (nd ≠ bad) && !decide (nd ∈ nodes) := by
    funext nd; exact lacks_sgL _ _ _ _ _ _
  rw [provF, if_neg (by simpa using setF_ok (bad := bad) (sgL_ok hF hn) hb), if_neg (by decide), h]
set_option maxRecDepth 100000 in
theorem certF_of {au rd : Int} {bl pl : List Part} {vl : List Int} (hF : headerF au rd bl pl = 0) (hv : votersF vl = 0) (hl : vl.length ≤ 4) : certF au rd bl pl vl = 0 := by
  rw [certF, if_neg (by simpa using hF), if_neg (by omega), hv]
set_option maxRecDepth 100000 in
theorem rogue_one (k : Int) (h : k = 0 ∨ k = 1 ∨ k = 2 ∨ k = 3) : votersF (without ((k + 1) % 4) 4) = 0 ∧ (without ((k + 1) % 4) 4).length = 3 := by
  rcases h with rfl | rfl | rfl | rfl <;> decide

set_option maxRecDepth 100000 in
set_option maxHeartbeats 8000000 in
theorem provenRogue_walk (ki ra rb rc : Int) (sa : Option Addr) (cap : Nat) (ss : List ByteArray) (wh : Int) (w : World) (_h1 : I64 ki) (h2 : I64 ra) (h3 : I64 rb) (h4 : I64 rc) (_h5 : TextsAt w sa cap ss) (h60 : -9223372036854775808 ≤ wh) (h61 : wh ≤ 9223372036854775807) (hT : Tabs w) :
    Calls Tryd.prog 7 #[.agg #[.int .i64 ki, .int .i64 ra, .int .i64 rb, .int .i64 rc, .slice sa ss.length cap], .int .i64 wh] w fun e w' => e = .returned (.bool true) ∧ Below w.heap.size w w' := by
  have HH : Hid _ := header_raw2 ki ra rb rc sa ss.length cap
  have pw := pk_bounds wh 4 (by decide)
  have HB := (Below.refl w.heap.size w).alloc (Nat.le_refl _) (.cells #[.int .i64 ki, .int .i64 ra, .int .i64 rb, .int .i64 rc, .slice sa ss.length cap] 36)
  have q0 := heap_alloc_new w (.cells #[.int .i64 ki, .int .i64 ra, .int .i64 rb, .int .i64 rc, .slice sa ss.length cap] 36)
  obtain ⟨i, hi, hz0, hz1, hz2⟩ := info_parts infoIntP
  go_enter Tryd.func7, Tryd.ntmps7
  go_wp2_with fail
  generalize w.alloc (.cells #[.int .i64 ki, .int .i64 ra, .int .i64 rb, .int .i64 rc, .slice sa ss.length cap] 36) = W0 at HB q0 ⊢
  refine (picked_any wh 4 W0 h60 h61 (by decide) (by decide)).mono ?_
  rintro e wq ⟨he, hwq⟩
  subst he hwq
  dsimp only
  generalize pk wh 4 = k at *
  have q0_0 := cells_at q0 0 _ rfl
  have q0_1 := cells_at q0 1 _ rfl
  have q0_2 := cells_at q0 2 _ rfl
  have q0_3 := cells_at q0 3 _ rfl
  have q0_4 := cells_at q0 4 _ rfl
  go_wp2_with fail
  refine (HH.out W0 h2 h3 h4).mono ?_
  rintro e w2 ⟨ba, bc, bl, pa, pc, pl, he, hLb, hLp, hOb, hOp, hbs, hps, hb2, _, _⟩
  subst he
  dsimp only
  clear q0_0 q0_1 q0_2 q0_3 q0_4 HH
  have hF0 := headerF_raw ra rb rc bl pl hbs hps
  have HF : Hid (headerF k (1 + pk rb 9) bl pl = 0) := headerF_author hF0 pw
  have hat : HAt w2 ba bc bl pa pc pl := ⟨hLb, hLp, fun sb so e => (hOb.row sb so e).1, fun sb so e => (hOp.row sb so e).1⟩
  clear hF0 hbs hps hLb hLp hOb hOp q0
  replace HB := HB.trans (hb2.mono HB.size)
  generalize 1 + pk rb 9 = rd at *
  have qb := heap_alloc_new w2 (.cells #[.int .i64 k, .int .i64 rd, .slice ba bl.length bc, .slice pa pl.length pc, .slice none 0 0] 28)
  have hb3 := (Below.refl w2.heap.size w2).alloc (Nat.le_refl _) (.cells #[.int .i64 k, .int .i64 rd, .slice ba bl.length bc, .slice pa pl.length pc, .slice none 0 0] 28)
  go_wp2_with fail
  generalize hW3 : w2.alloc (.cells #[.int .i64 k, .int .i64 rd, .slice ba bl.length bc, .slice pa pl.length pc, .slice none 0 0] 28) = W3 at qb hb3 ⊢
  clear hW3
  have hk4 : k = 0 ∨ k = 1 ∨ k = 2 ∨ k = 3 := by omega
  have hbW : w.heap.size ≤ w2.heap.size := HB.size
  rcases hk4 with hk | hk | hk | hk
  · subst hk
    have hvo : votersF (without 1 4) = 0 ∧ (without 1 4).length = 3 := by decide
    go_loopw [7] (fun i wr => ∃ (j : Nat) (v : Value), j ≤ 4 ∧ i = .int .i64 j ∧ wr.heap[w2.heap.size]? = some (.cells #[.int .i64 0, .int .i64 rd, .slice ba bl.length bc, .slice pa pl.length pc, v] 28 (0, 0)) ∧ wr.ownsRow (w2.heap.size + 1) 3 1 v (without 1 j).length (iv (without 1 j)) ∧ Below w2.heap.size w2 wr) (fun i _ => 4 - (intOf i).toNat)
    case atStart => exact ⟨0, _, Nat.zero_le _, rfl, qb, World.ownsRow_nil _ _ _ _, hb3⟩
    case round =>
      obtain ⟨j, v, hj, rfl, qr, ho, hb⟩ := hrel
      obtain ⟨ua, uc, hv⟩ := owns_shape ho
      subst hv
      have e0 := cells_at qr 0 _ rfl
      have e1 := cells_at qr 1 _ rfl
      have e2 := cells_at qr 2 _ rfl
      have e3 := cells_at qr 3 _ rfl
      have e4 := cells_at qr 4 _ rfl
      have f4 := frozen_at qr 4
      have hqlt := lt_of_heap qr
      by_cases hlt : j < 4
      · have hltI : (j : Int) < 4 := by omega
        by_cases hjo : (j : Int) = 1
        · have hst : without 1 (j + 1) = without 1 j := by rw [without, if_pos hjo]
          have HST : Hid _ := hst
          have hjn : ((j : Int) != 1) = false := by simpa using hjo
          clear hst hjo
          go_wp2_with fail
          go_roundw
          case rel => exact ⟨j + 1, _, by omega, by go_num, qr, by rw [HST.out]; exact ho, hb⟩
          case measure => simp [intOf]; omega
        · have hst : without 1 (j + 1) = without 1 j ++ [(j : Int)] := by rw [without, if_neg hjo]
          have HST : Hid _ := hst
          have hjn : ((j : Int) != 1) = true := by simpa using hjo
          have hwl := without_le 1 j
          clear hst hjo
          have qr1 := heap_keep (o := .cells #[.int .i64 j] 3) qr
          have g4 := cells_at qr1 4 _ rfl
          have y4 := frozen_at qr1 4
          have hob := World.ownsRow.alloc ho (.cells #[.int .i64 j] 3)
          have hnew := cells_new wr [.int .i64 (j : Int)] 3
          go_wp2_with (at_builtin; refine wpList_append_own_at _ rfl _ _ 26 rfl (w2.heap.size + 1) 3 i (.int .i64 0) 1 8 Tryd.underlying26 hi hz0 hz1 hz2 rfl (by decide) _ (without 1 j).length _ rfl hob ⟨wr.heap.size, 0, none⟩ 1 1 [.int .i64 (j : Int)] rfl rfl hnew (by intro u hu; simp at hu; subst hu; rfl) (by unfold maxLen; omega) (by omega) (by rw [size_alloc]; have := hb.size; omega) ?_; intro v1 w4 ho4 hg4 _ hat4; obtain ⟨va4, vc4, hv4⟩ := owns_shape ho4; subst hv4; have q4 := (hg4.block _ (lt_of_heap qr1) (by intro e; have := (hob.lt _ e.symm).1; omega)).trans qr1; have d4 := cells_at q4 4 _ rfl; have z4 := frozen_at q4 4)
          have hb4 := Below.grown (hb.alloc hb.size (.cells #[.int .i64 (j : Int)] 3)) hg4 (le_alloc hb.size _) (fun q e => by have := (hob.lt q e).1; omega)
          have q5 : (w4.setCell ⟨w2.heap.size, 4, none⟩ (.slice va4 ((without 1 j).length + 1) vc4)).heap[w2.heap.size]? = some (.cells #[.int .i64 0, .int .i64 rd, .slice ba bl.length bc, .slice pa pl.length pc, .slice va4 ((without 1 j).length + 1) vc4] 28 (0, 0)) := by simpa using heap_setCell_same _ _ 4 _ _ _ q4
          have ho5 : (w4.setCell ⟨w2.heap.size, 4, none⟩ (.slice va4 ((without 1 j).length + 1) vc4)).ownsRow (w2.heap.size + 1) 3 1 (.slice va4 ((without 1 j).length + 1) vc4) (without 1 (j + 1)).length (iv (without 1 (j + 1))) := by
            rw [HST.out]
            refine owns_away ?_ _ _ _ (fun e => by have := (ho4.lt _ e).1; omega)
            simpa [iv] using ho4
          have hb5 := hb4.setCell (p := ⟨w2.heap.size, 4, none⟩) (Nat.le_refl _) (.slice va4 ((without 1 j).length + 1) vc4)
          go_wp2_with fail
          go_roundw
          case rel => exact ⟨j + 1, _, by omega, by go_num, q5, ho5, hb5⟩
          case measure => simp [intOf]; omega
      · obtain rfl : j = 4 := by omega
        obtain ⟨va, vc, hv, _, hvi, _⟩ := intsAt_of_owns ho
        cases hv
        clear e0 e1 e2 e3 e4 f4
        rw [hvo.2] at qr
        have HVO : Hid (votersF (without 1 4) = 0 ∧ (without 1 4).length = 3) := hvo
        replace hat := hat.below hb
        replace HB := HB.trans (hb.mono HB.size)
        clear hvo ho hb hb3 qb
        have HVE : Hid (without 1 4 = [0, 2, 3]) := by show _ = _; decide
        rw [HVE.out] at hvi
        have hc0 : certF 0 rd bl pl [0, 2, 3] = 0 := certF_of HF.out (by decide) (by decide)
        have HC0 : Hid _ := hc0
        clear hc0 HVO HVE
        have hA1 := (Below.refl wr.heap.size wr).alloc (Nat.le_refl _) (.cells #[.int .i64 2] 3)
        have qnX := heap_alloc_new wr (.cells #[.int .i64 2] 3)
        have kb := heap_keep (o := .cells #[.int .i64 2] 3) qr
        have kb0 := cells_at kb 0 _ rfl
        have kb1 := cells_at kb 1 _ rfl
        have kb2 := cells_at kb 2 _ rfl
        have kb3 := cells_at kb 3 _ rfl
        have kb4 := cells_at kb 4 _ rfl
        have qr_c0 := cells_at qr 0 _ rfl
        have qr_c1 := cells_at qr 1 _ rfl
        have qr_c2 := cells_at qr 2 _ rfl
        have qr_c3 := cells_at qr 3 _ rfl
        have qr_c4 := cells_at qr 4 _ rfl
        go_wp2_with fail
        clear qr_c0 qr_c1 qr_c2 qr_c3 qr_c4
        clear kb0 kb1 kb2 kb3 kb4 kb
        generalize hG : wr.alloc (.cells #[.int .i64 2] 3) = waX at hA1 qnX ⊢
        clear hG
        replace qr := (hA1.block _ (lt_of_heap qr)).trans qr
        replace hat := hat.below hA1
        replace hvi := hvi.below hA1
        replace HB := HB.trans (hA1.mono HB.size)
        generalize hNB : wr.heap.size = NBX at qnX ⊢
        clear hNB
        refine (signedBy_any 0 rd ba bc bl pa pc pl (some ⟨NBX, 0, none⟩) 1 1 [2] waX rfl hat HF.out (IntsAt.lit qnX) (by decide) (by decide) (hT.below HB)).mono ?_
        rintro e w6 ⟨raX, rcX, ksX, he, hksX, hGX, hbX⟩
        subst he
        dsimp only
        replace qr := (hbX.block _ (lt_of_heap qr)).trans qr
        replace hat := hat.below hbX
        replace hvi := hvi.below hbX
        replace HB := HB.trans (hbX.mono HB.size)
        have HKX : Hid (gvs ksX = sgL 0 rd (hDig 0 rd bl pl) [2]) := hksX
        clear hksX
        have hA2 := (Below.refl w6.heap.size w6).alloc (Nat.le_refl _) (.cells #[.int .i64 2, .int .i64 3] 3)
        have qnY := heap_alloc_new w6 (.cells #[.int .i64 2, .int .i64 3] 3)
        have kb := heap_keep (o := .cells #[.int .i64 2, .int .i64 3] 3) qr
        have kb0 := cells_at kb 0 _ rfl
        have kb1 := cells_at kb 1 _ rfl
        have kb2 := cells_at kb 2 _ rfl
        have kb3 := cells_at kb 3 _ rfl
        have kb4 := cells_at kb 4 _ rfl
        have qr_c0 := cells_at qr 0 _ rfl
        have qr_c1 := cells_at qr 1 _ rfl
        have qr_c2 := cells_at qr 2 _ rfl
        have qr_c3 := cells_at qr 3 _ rfl
        have qr_c4 := cells_at qr 4 _ rfl
        go_wp2_with fail
        clear qr_c0 qr_c1 qr_c2 qr_c3 qr_c4
        clear kb0 kb1 kb2 kb3 kb4 kb
        generalize hG : w6.alloc (.cells #[.int .i64 2, .int .i64 3] 3) = waY at hA2 qnY ⊢
        clear hG
        replace qr := (hA2.block _ (lt_of_heap qr)).trans qr
        replace hat := hat.below hA2
        replace hvi := hvi.below hA2
        replace hGX := hGX.below hA2
        replace HB := HB.trans (hA2.mono HB.size)
        generalize hNB : w6.heap.size = NBY at qnY ⊢
        clear hNB
        refine (signedBy_any 0 rd ba bc bl pa pc pl (some ⟨NBY, 0, none⟩) 2 2 [2, 3] waY rfl hat HF.out (IntsAt.lit qnY) (by decide) (by decide) (hT.below HB)).mono ?_
        rintro e w7 ⟨raY, rcY, ksY, he, hksY, hGY, hbY⟩
        subst he
        dsimp only
        replace qr := (hbY.block _ (lt_of_heap qr)).trans qr
        replace hat := hat.below hbY
        replace hvi := hvi.below hbY
        replace hGX := hGX.below hbY
        replace HB := HB.trans (hbY.mono HB.size)
        have HKY : Hid (gvs ksY = sgL 0 rd (hDig 0 rd bl pl) [2, 3]) := hksY
        clear hksY
        obtain ⟨VX, hVX⟩ : ∃ l : List Int, l = [0, 2, 3] := ⟨_, rfl⟩
        have hlx : VX.length = 3 := by rw [hVX]; rfl
        rw [← hVX] at hvi
        have HVX : Hid (VX = [0, 2, 3]) := hVX
        clear hVX
        have PV0 : provF (gvs []) 0 0 rd (certF 0 rd bl pl VX) (hDig 0 rd bl pl) VX = 11 := by
          rw [HVX.out, show gvs [] = sgL 0 rd (hDig 0 rd bl pl) [] from rfl, HC0.out, prov_sgL HF.out (by decide) (by decide)]
          decide
        have PVX : provF (gvs ksX) 0 0 rd (certF 0 rd bl pl VX) (hDig 0 rd bl pl) VX = 11 := by
          rw [HVX.out, HKX.out, HC0.out, prov_sgL HF.out (by decide) (by decide)]
          decide
        have PVY : provF (gvs ksY) 0 0 rd (certF 0 rd bl pl VX) (hDig 0 rd bl pl) VX = 0 := by
          rw [HVX.out, HKY.out, HC0.out, prov_sgL HF.out (by decide) (by decide)]
          decide
        have C0 := fun W (hW : Below w7.heap.size w7 W) => proven_any [] none 0 0 0 0 rd ba bc bl pa pc pl ua uc VX W rfl (by decide) ⟨.inl rfl, fun s hs => by cases hs⟩ (hat.below hW) (hvi.below hW) (by omega) (hT.below (HB.trans (hW.mono HB.size)))
        have CX := fun W (hW : Below w7.heap.size w7 W) => proven_any ksX raX _ rcX 0 0 rd ba bc bl pa pc pl ua uc VX W rfl hGX.small (hGX.slots.below hW) (hat.below hW) (hvi.below hW) (by omega) (hT.below (HB.trans (hW.mono HB.size)))
        have CY := fun W (hW : Below w7.heap.size w7 W) => proven_any ksY raY _ rcY 0 0 rd ba bc bl pa pc pl ua uc VX W rfl hGY.small (hGY.slots.below hW) (hat.below hW) (hvi.below hW) (by omega) (hT.below (HB.trans (hW.mono HB.size)))
        rw [PV0, hlx] at C0
        rw [PVX, hlx] at CX
        rw [PVY, hlx] at CY
        clear PV0 PVX PVY HKX HKY hlx
        have HX := Below.refl w7.heap.size w7
        have q_ := (HX.block _ (lt_of_heap qr)).trans qr
        have q_0 := cells_at q_ 0 _ rfl
        have q_1 := cells_at q_ 1 _ rfl
        have q_2 := cells_at q_ 2 _ rfl
        have q_3 := cells_at q_ 3 _ rfl
        have q_4 := cells_at q_ 4 _ rfl
        go_wp2_with fail
        refine (C0 _ HX).mono ?_
        rintro e w8 ⟨he, hbx⟩
        subst he
        dsimp only
        clear q_0 q_1 q_2 q_3 q_4 q_
        replace HX := HX.trans (hbx.mono HX.size)
        clear hbx
        have q_ := (HX.block _ (lt_of_heap qr)).trans qr
        have q_0 := cells_at q_ 0 _ rfl
        have q_1 := cells_at q_ 1 _ rfl
        have q_2 := cells_at q_ 2 _ rfl
        have q_3 := cells_at q_ 3 _ rfl
        have q_4 := cells_at q_ 4 _ rfl
        go_wp2_with fail
        refine (CX _ HX).mono ?_
        rintro e w9 ⟨he, hbx⟩
        subst he
        dsimp only
        clear q_0 q_1 q_2 q_3 q_4 q_
        replace HX := HX.trans (hbx.mono HX.size)
        clear hbx
        have q_ := (HX.block _ (lt_of_heap qr)).trans qr
        have q_0 := cells_at q_ 0 _ rfl
        have q_1 := cells_at q_ 1 _ rfl
        have q_2 := cells_at q_ 2 _ rfl
        have q_3 := cells_at q_ 3 _ rfl
        have q_4 := cells_at q_ 4 _ rfl
        go_wp2_with fail
        refine (CY _ HX).mono ?_
        rintro e w10 ⟨he, hbx⟩
        subst he
        dsimp only
        clear q_0 q_1 q_2 q_3 q_4 q_
        replace HX := HX.trans (hbx.mono HX.size)
        clear hbx
        go_wp2_with fail
        go_ret
        exact ⟨by first | rfl | simp, HB.trans (HX.mono HB.size)⟩
  · subst hk
    have hvo : votersF (without 2 4) = 0 ∧ (without 2 4).length = 3 := by decide
    go_loopw [7] (fun i wr => ∃ (j : Nat) (v : Value), j ≤ 4 ∧ i = .int .i64 j ∧ wr.heap[w2.heap.size]? = some (.cells #[.int .i64 1, .int .i64 rd, .slice ba bl.length bc, .slice pa pl.length pc, v] 28 (0, 0)) ∧ wr.ownsRow (w2.heap.size + 1) 3 1 v (without 2 j).length (iv (without 2 j)) ∧ Below w2.heap.size w2 wr) (fun i _ => 4 - (intOf i).toNat)
    case atStart => exact ⟨0, _, Nat.zero_le _, rfl, qb, World.ownsRow_nil _ _ _ _, hb3⟩
    case round =>
      obtain ⟨j, v, hj, rfl, qr, ho, hb⟩ := hrel
      obtain ⟨ua, uc, hv⟩ := owns_shape ho
      subst hv
      have e0 := cells_at qr 0 _ rfl
      have e1 := cells_at qr 1 _ rfl
      have e2 := cells_at qr 2 _ rfl
      have e3 := cells_at qr 3 _ rfl
      have e4 := cells_at qr 4 _ rfl
      have f4 := frozen_at qr 4
      have hqlt := lt_of_heap qr
      by_cases hlt : j < 4
      · have hltI : (j : Int) < 4 := by omega
        by_cases hjo : (j : Int) = 2
        · have hst : without 2 (j + 1) = without 2 j := by rw [without, if_pos hjo]
          have HST : Hid _ := hst
          have hjn : ((j : Int) != 2) = false := by simpa using hjo
          clear hst hjo
          go_wp2_with fail
          go_roundw
          case rel => exact ⟨j + 1, _, by omega, by go_num, qr, by rw [HST.out]; exact ho, hb⟩
          case measure => simp [intOf]; omega
        · have hst : without 2 (j + 1) = without 2 j ++ [(j : Int)] := by rw [without, if_neg hjo]
          have HST : Hid _ := hst
          have hjn : ((j : Int) != 2) = true := by simpa using hjo
          have hwl := without_le 2 j
          clear hst hjo
          have qr1 := heap_keep (o := .cells #[.int .i64 j] 3) qr
          have g4 := cells_at qr1 4 _ rfl
          have y4 := frozen_at qr1 4
          have hob := World.ownsRow.alloc ho (.cells #[.int .i64 j] 3)
          have hnew := cells_new wr [.int .i64 (j : Int)] 3
          go_wp2_with (at_builtin; refine wpList_append_own_at _ rfl _ _ 26 rfl (w2.heap.size + 1) 3 i (.int .i64 0) 1 8 Tryd.underlying26 hi hz0 hz1 hz2 rfl (by decide) _ (without 2 j).length _ rfl hob ⟨wr.heap.size, 0, none⟩ 1 1 [.int .i64 (j : Int)] rfl rfl hnew (by intro u hu; simp at hu; subst hu; rfl) (by unfold maxLen; omega) (by omega) (by rw [size_alloc]; have := hb.size; omega) ?_; intro v1 w4 ho4 hg4 _ hat4; obtain ⟨va4, vc4, hv4⟩ := owns_shape ho4; subst hv4; have q4 := (hg4.block _ (lt_of_heap qr1) (by intro e; have := (hob.lt _ e.symm).1; omega)).trans qr1; have d4 := cells_at q4 4 _ rfl; have z4 := frozen_at q4 4)
          have hb4 := Below.grown (hb.alloc hb.size (.cells #[.int .i64 (j : Int)] 3)) hg4 (le_alloc hb.size _) (fun q e => by have := (hob.lt q e).1; omega)
          have q5 : (w4.setCell ⟨w2.heap.size, 4, none⟩ (.slice va4 ((without 2 j).length + 1) vc4)).heap[w2.heap.size]? = some (.cells #[.int .i64 1, .int .i64 rd, .slice ba bl.length bc, .slice pa pl.length pc, .slice va4 ((without 2 j).length + 1) vc4] 28 (0, 0)) := by simpa using heap_setCell_same _ _ 4 _ _ _ q4
          have ho5 : (w4.setCell ⟨w2.heap.size, 4, none⟩ (.slice va4 ((without 2 j).length + 1) vc4)).ownsRow (w2.heap.size + 1) 3 1 (.slice va4 ((without 2 j).length + 1) vc4) (without 2 (j + 1)).length (iv (without 2 (j + 1))) := by
            rw [HST.out]
            refine owns_away ?_ _ _ _ (fun e => by have := (ho4.lt _ e).1; omega)
            simpa [iv] using ho4
          have hb5 := hb4.setCell (p := ⟨w2.heap.size, 4, none⟩) (Nat.le_refl _) (.slice va4 ((without 2 j).length + 1) vc4)
          go_wp2_with fail
          go_roundw
          case rel => exact ⟨j + 1, _, by omega, by go_num, q5, ho5, hb5⟩
          case measure => simp [intOf]; omega
      · obtain rfl : j = 4 := by omega
        obtain ⟨va, vc, hv, _, hvi, _⟩ := intsAt_of_owns ho
        cases hv
        clear e0 e1 e2 e3 e4 f4
        rw [hvo.2] at qr
        have HVO : Hid (votersF (without 2 4) = 0 ∧ (without 2 4).length = 3) := hvo
        replace hat := hat.below hb
        replace HB := HB.trans (hb.mono HB.size)
        clear hvo ho hb hb3 qb
        have HVE : Hid (without 2 4 = [0, 1, 3]) := by show _ = _; decide
        rw [HVE.out] at hvi
        have hc0 : certF 1 rd bl pl [0, 1, 3] = 0 := certF_of HF.out (by decide) (by decide)
        have HC0 : Hid _ := hc0
        clear hc0 HVO HVE
        have hA1 := (Below.refl wr.heap.size wr).alloc (Nat.le_refl _) (.cells #[.int .i64 3] 3)
        have qnX := heap_alloc_new wr (.cells #[.int .i64 3] 3)
        have kb := heap_keep (o := .cells #[.int .i64 3] 3) qr
        have kb0 := cells_at kb 0 _ rfl
        have kb1 := cells_at kb 1 _ rfl
        have kb2 := cells_at kb 2 _ rfl
        have kb3 := cells_at kb 3 _ rfl
        have kb4 := cells_at kb 4 _ rfl
        have qr_c0 := cells_at qr 0 _ rfl
        have qr_c1 := cells_at qr 1 _ rfl
        have qr_c2 := cells_at qr 2 _ rfl
        have qr_c3 := cells_at qr 3 _ rfl
        have qr_c4 := cells_at qr 4 _ rfl
        go_wp2_with fail
        clear qr_c0 qr_c1 qr_c2 qr_c3 qr_c4
        clear kb0 kb1 kb2 kb3 kb4 kb
        generalize hG : wr.alloc (.cells #[.int .i64 3] 3) = waX at hA1 qnX ⊢
        clear hG
        replace qr := (hA1.block _ (lt_of_heap qr)).trans qr
        replace hat := hat.below hA1
        replace hvi := hvi.below hA1
        replace HB := HB.trans (hA1.mono HB.size)
        generalize hNB : wr.heap.size = NBX at qnX ⊢
        clear hNB
        refine (signedBy_any 1 rd ba bc bl pa pc pl (some ⟨NBX, 0, none⟩) 1 1 [3] waX rfl hat HF.out (IntsAt.lit qnX) (by decide) (by decide) (hT.below HB)).mono ?_
        rintro e w6 ⟨raX, rcX, ksX, he, hksX, hGX, hbX⟩
        subst he
        dsimp only
        replace qr := (hbX.block _ (lt_of_heap qr)).trans qr
        replace hat := hat.below hbX
        replace hvi := hvi.below hbX
        replace HB := HB.trans (hbX.mono HB.size)
        have HKX : Hid (gvs ksX = sgL 1 rd (hDig 1 rd bl pl) [3]) := hksX
        clear hksX
        have hA2 := (Below.refl w6.heap.size w6).alloc (Nat.le_refl _) (.cells #[.int .i64 3, .int .i64 0] 3)
        have qnY := heap_alloc_new w6 (.cells #[.int .i64 3, .int .i64 0] 3)
        have kb := heap_keep (o := .cells #[.int .i64 3, .int .i64 0] 3) qr
        have kb0 := cells_at kb 0 _ rfl
        have kb1 := cells_at kb 1 _ rfl
        have kb2 := cells_at kb 2 _ rfl
        have kb3 := cells_at kb 3 _ rfl
        have kb4 := cells_at kb 4 _ rfl
        have qr_c0 := cells_at qr 0 _ rfl
        have qr_c1 := cells_at qr 1 _ rfl
        have qr_c2 := cells_at qr 2 _ rfl
        have qr_c3 := cells_at qr 3 _ rfl
        have qr_c4 := cells_at qr 4 _ rfl
        go_wp2_with fail
        clear qr_c0 qr_c1 qr_c2 qr_c3 qr_c4
        clear kb0 kb1 kb2 kb3 kb4 kb
        generalize hG : w6.alloc (.cells #[.int .i64 3, .int .i64 0] 3) = waY at hA2 qnY ⊢
        clear hG
        replace qr := (hA2.block _ (lt_of_heap qr)).trans qr
        replace hat := hat.below hA2
        replace hvi := hvi.below hA2
        replace hGX := hGX.below hA2
        replace HB := HB.trans (hA2.mono HB.size)
        generalize hNB : w6.heap.size = NBY at qnY ⊢
        clear hNB
        refine (signedBy_any 1 rd ba bc bl pa pc pl (some ⟨NBY, 0, none⟩) 2 2 [3, 0] waY rfl hat HF.out (IntsAt.lit qnY) (by decide) (by decide) (hT.below HB)).mono ?_
        rintro e w7 ⟨raY, rcY, ksY, he, hksY, hGY, hbY⟩
        subst he
        dsimp only
        replace qr := (hbY.block _ (lt_of_heap qr)).trans qr
        replace hat := hat.below hbY
        replace hvi := hvi.below hbY
        replace hGX := hGX.below hbY
        replace HB := HB.trans (hbY.mono HB.size)
        have HKY : Hid (gvs ksY = sgL 1 rd (hDig 1 rd bl pl) [3, 0]) := hksY
        clear hksY
        obtain ⟨VX, hVX⟩ : ∃ l : List Int, l = [0, 1, 3] := ⟨_, rfl⟩
        have hlx : VX.length = 3 := by rw [hVX]; rfl
        rw [← hVX] at hvi
        have HVX : Hid (VX = [0, 1, 3]) := hVX
        clear hVX
        have PV0 : provF (gvs []) 1 1 rd (certF 1 rd bl pl VX) (hDig 1 rd bl pl) VX = 11 := by
          rw [HVX.out, show gvs [] = sgL 1 rd (hDig 1 rd bl pl) [] from rfl, HC0.out, prov_sgL HF.out (by decide) (by decide)]
          decide
        have PVX : provF (gvs ksX) 1 1 rd (certF 1 rd bl pl VX) (hDig 1 rd bl pl) VX = 11 := by
          rw [HVX.out, HKX.out, HC0.out, prov_sgL HF.out (by decide) (by decide)]
          decide
        have PVY : provF (gvs ksY) 1 1 rd (certF 1 rd bl pl VX) (hDig 1 rd bl pl) VX = 0 := by
          rw [HVX.out, HKY.out, HC0.out, prov_sgL HF.out (by decide) (by decide)]
          decide
        have C0 := fun W (hW : Below w7.heap.size w7 W) => proven_any [] none 0 0 1 1 rd ba bc bl pa pc pl ua uc VX W rfl (by decide) ⟨.inl rfl, fun s hs => by cases hs⟩ (hat.below hW) (hvi.below hW) (by omega) (hT.below (HB.trans (hW.mono HB.size)))
        have CX := fun W (hW : Below w7.heap.size w7 W) => proven_any ksX raX _ rcX 1 1 rd ba bc bl pa pc pl ua uc VX W rfl hGX.small (hGX.slots.below hW) (hat.below hW) (hvi.below hW) (by omega) (hT.below (HB.trans (hW.mono HB.size)))
        have CY := fun W (hW : Below w7.heap.size w7 W) => proven_any ksY raY _ rcY 1 1 rd ba bc bl pa pc pl ua uc VX W rfl hGY.small (hGY.slots.below hW) (hat.below hW) (hvi.below hW) (by omega) (hT.below (HB.trans (hW.mono HB.size)))
        rw [PV0, hlx] at C0
        rw [PVX, hlx] at CX
        rw [PVY, hlx] at CY
        clear PV0 PVX PVY HKX HKY hlx
        have HX := Below.refl w7.heap.size w7
        have q_ := (HX.block _ (lt_of_heap qr)).trans qr
        have q_0 := cells_at q_ 0 _ rfl
        have q_1 := cells_at q_ 1 _ rfl
        have q_2 := cells_at q_ 2 _ rfl
        have q_3 := cells_at q_ 3 _ rfl
        have q_4 := cells_at q_ 4 _ rfl
        go_wp2_with fail
        refine (C0 _ HX).mono ?_
        rintro e w8 ⟨he, hbx⟩
        subst he
        dsimp only
        clear q_0 q_1 q_2 q_3 q_4 q_
        replace HX := HX.trans (hbx.mono HX.size)
        clear hbx
        have q_ := (HX.block _ (lt_of_heap qr)).trans qr
        have q_0 := cells_at q_ 0 _ rfl
        have q_1 := cells_at q_ 1 _ rfl
        have q_2 := cells_at q_ 2 _ rfl
        have q_3 := cells_at q_ 3 _ rfl
        have q_4 := cells_at q_ 4 _ rfl
        go_wp2_with fail
        refine (CX _ HX).mono ?_
        rintro e w9 ⟨he, hbx⟩
        subst he
        dsimp only
        clear q_0 q_1 q_2 q_3 q_4 q_
        replace HX := HX.trans (hbx.mono HX.size)
        clear hbx
        have q_ := (HX.block _ (lt_of_heap qr)).trans qr
        have q_0 := cells_at q_ 0 _ rfl
        have q_1 := cells_at q_ 1 _ rfl
        have q_2 := cells_at q_ 2 _ rfl
        have q_3 := cells_at q_ 3 _ rfl
        have q_4 := cells_at q_ 4 _ rfl
        go_wp2_with fail
        refine (CY _ HX).mono ?_
        rintro e w10 ⟨he, hbx⟩
        subst he
        dsimp only
        clear q_0 q_1 q_2 q_3 q_4 q_
        replace HX := HX.trans (hbx.mono HX.size)
        clear hbx
        go_wp2_with fail
        go_ret
        exact ⟨by first | rfl | simp, HB.trans (HX.mono HB.size)⟩
  · subst hk
    have hvo : votersF (without 3 4) = 0 ∧ (without 3 4).length = 3 := by decide
    go_loopw [7] (fun i wr => ∃ (j : Nat) (v : Value), j ≤ 4 ∧ i = .int .i64 j ∧ wr.heap[w2.heap.size]? = some (.cells #[.int .i64 2, .int .i64 rd, .slice ba bl.length bc, .slice pa pl.length pc, v] 28 (0, 0)) ∧ wr.ownsRow (w2.heap.size + 1) 3 1 v (without 3 j).length (iv (without 3 j)) ∧ Below w2.heap.size w2 wr) (fun i _ => 4 - (intOf i).toNat)
    case atStart => exact ⟨0, _, Nat.zero_le _, rfl, qb, World.ownsRow_nil _ _ _ _, hb3⟩
    case round =>
      obtain ⟨j, v, hj, rfl, qr, ho, hb⟩ := hrel
      obtain ⟨ua, uc, hv⟩ := owns_shape ho
      subst hv
      have e0 := cells_at qr 0 _ rfl
      have e1 := cells_at qr 1 _ rfl
      have e2 := cells_at qr 2 _ rfl
      have e3 := cells_at qr 3 _ rfl
      have e4 := cells_at qr 4 _ rfl
      have f4 := frozen_at qr 4
      have hqlt := lt_of_heap qr
      by_cases hlt : j < 4
      · have hltI : (j : Int) < 4 := by omega
        by_cases hjo : (j : Int) = 3
        · have hst : without 3 (j + 1) = without 3 j := by rw [without, if_pos hjo]
          have HST : Hid _ := hst
          have hjn : ((j : Int) != 3) = false := by simpa using hjo
          clear hst hjo
          go_wp2_with fail
          go_roundw
          case rel => exact ⟨j + 1, _, by omega, by go_num, qr, by rw [HST.out]; exact ho, hb⟩
          case measure => simp [intOf]; omega
        · have hst : without 3 (j + 1) = without 3 j ++ [(j : Int)] := by rw [without, if_neg hjo]
          have HST : Hid _ := hst
          have hjn : ((j : Int) != 3) = true := by simpa using hjo
          have hwl := without_le 3 j
          clear hst hjo
          have qr1 := heap_keep (o := .cells #[.int .i64 j] 3) qr
          have g4 := cells_at qr1 4 _ rfl
          have y4 := frozen_at qr1 4
          have hob := World.ownsRow.alloc ho (.cells #[.int .i64 j] 3)
          have hnew := cells_new wr [.int .i64 (j : Int)] 3
          go_wp2_with (at_builtin; refine wpList_append_own_at _ rfl _ _ 26 rfl (w2.heap.size + 1) 3 i (.int .i64 0) 1 8 Tryd.underlying26 hi hz0 hz1 hz2 rfl (by decide) _ (without 3 j).length _ rfl hob ⟨wr.heap.size, 0, none⟩ 1 1 [.int .i64 (j : Int)] rfl rfl hnew (by intro u hu; simp at hu; subst hu; rfl) (by unfold maxLen; omega) (by omega) (by rw [size_alloc]; have := hb.size; omega) ?_; intro v1 w4 ho4 hg4 _ hat4; obtain ⟨va4, vc4, hv4⟩ := owns_shape ho4; subst hv4; have q4 := (hg4.block _ (lt_of_heap qr1) (by intro e; have := (hob.lt _ e.symm).1; omega)).trans qr1; have d4 := cells_at q4 4 _ rfl; have z4 := frozen_at q4 4)
          have hb4 := Below.grown (hb.alloc hb.size (.cells #[.int .i64 (j : Int)] 3)) hg4 (le_alloc hb.size _) (fun q e => by have := (hob.lt q e).1; omega)
          have q5 : (w4.setCell ⟨w2.heap.size, 4, none⟩ (.slice va4 ((without 3 j).length + 1) vc4)).heap[w2.heap.size]? = some (.cells #[.int .i64 2, .int .i64 rd, .slice ba bl.length bc, .slice pa pl.length pc, .slice va4 ((without 3 j).length + 1) vc4] 28 (0, 0)) := by simpa using heap_setCell_same _ _ 4 _ _ _ q4
          have ho5 : (w4.setCell ⟨w2.heap.size, 4, none⟩ (.slice va4 ((without 3 j).length + 1) vc4)).ownsRow (w2.heap.size + 1) 3 1 (.slice va4 ((without 3 j).length + 1) vc4) (without 3 (j + 1)).length (iv (without 3 (j + 1))) := by
            rw [HST.out]
            refine owns_away ?_ _ _ _ (fun e => by have := (ho4.lt _ e).1; omega)
            simpa [iv] using ho4
          have hb5 := hb4.setCell (p := ⟨w2.heap.size, 4, none⟩) (Nat.le_refl _) (.slice va4 ((without 3 j).length + 1) vc4)
          go_wp2_with fail
          go_roundw
          case rel => exact ⟨j + 1, _, by omega, by go_num, q5, ho5, hb5⟩
          case measure => simp [intOf]; omega
      · obtain rfl : j = 4 := by omega
        obtain ⟨va, vc, hv, _, hvi, _⟩ := intsAt_of_owns ho
        cases hv
        clear e0 e1 e2 e3 e4 f4
        rw [hvo.2] at qr
        have HVO : Hid (votersF (without 3 4) = 0 ∧ (without 3 4).length = 3) := hvo
        replace hat := hat.below hb
        replace HB := HB.trans (hb.mono HB.size)
        clear hvo ho hb hb3 qb
        have HVE : Hid (without 3 4 = [0, 1, 2]) := by show _ = _; decide
        rw [HVE.out] at hvi
        have hc0 : certF 2 rd bl pl [0, 1, 2] = 0 := certF_of HF.out (by decide) (by decide)
        have HC0 : Hid _ := hc0
        clear hc0 HVO HVE
        have hA1 := (Below.refl wr.heap.size wr).alloc (Nat.le_refl _) (.cells #[.int .i64 0] 3)
        have qnX := heap_alloc_new wr (.cells #[.int .i64 0] 3)
        have kb := heap_keep (o := .cells #[.int .i64 0] 3) qr
        have kb0 := cells_at kb 0 _ rfl
        have kb1 := cells_at kb 1 _ rfl
        have kb2 := cells_at kb 2 _ rfl
        have kb3 := cells_at kb 3 _ rfl
        have kb4 := cells_at kb 4 _ rfl
        have qr_c0 := cells_at qr 0 _ rfl
        have qr_c1 := cells_at qr 1 _ rfl
        have qr_c2 := cells_at qr 2 _ rfl
        have qr_c3 := cells_at qr 3 _ rfl
        have qr_c4 := cells_at qr 4 _ rfl
        go_wp2_with fail
        clear qr_c0 qr_c1 qr_c2 qr_c3 qr_c4
        clear kb0 kb1 kb2 kb3 kb4 kb
        generalize hG : wr.alloc (.cells #[.int .i64 0] 3) = waX at hA1 qnX ⊢
        clear hG
        replace qr := (hA1.block _ (lt_of_heap qr)).trans qr
        replace hat := hat.below hA1
        replace hvi := hvi.below hA1
        replace HB := HB.trans (hA1.mono HB.size)
        generalize hNB : wr.heap.size = NBX at qnX ⊢
        clear hNB
        refine (signedBy_any 2 rd ba bc bl pa pc pl (some ⟨NBX, 0, none⟩) 1 1 [0] waX rfl hat HF.out (IntsAt.lit qnX) (by decide) (by decide) (hT.below HB)).mono ?_
        rintro e w6 ⟨raX, rcX, ksX, he, hksX, hGX, hbX⟩
        subst he
        dsimp only
        replace qr := (hbX.block _ (lt_of_heap qr)).trans qr
        replace hat := hat.below hbX
        replace hvi := hvi.below hbX
        replace HB := HB.trans (hbX.mono HB.size)
        have HKX : Hid (gvs ksX = sgL 2 rd (hDig 2 rd bl pl) [0]) := hksX
        clear hksX
        have hA2 := (Below.refl w6.heap.size w6).alloc (Nat.le_refl _) (.cells #[.int .i64 0, .int .i64 1] 3)
        have qnY := heap_alloc_new w6 (.cells #[.int .i64 0, .int .i64 1] 3)
        have kb := heap_keep (o := .cells #[.int .i64 0, .int .i64 1] 3) qr
        have kb0 := cells_at kb 0 _ rfl
        have kb1 := cells_at kb 1 _ rfl
        have kb2 := cells_at kb 2 _ rfl
        have kb3 := cells_at kb 3 _ rfl
        have kb4 := cells_at kb 4 _ rfl
        have qr_c0 := cells_at qr 0 _ rfl
        have qr_c1 := cells_at qr 1 _ rfl
        have qr_c2 := cells_at qr 2 _ rfl
        have qr_c3 := cells_at qr 3 _ rfl
        have qr_c4 := cells_at qr 4 _ rfl
        go_wp2_with fail
        clear qr_c0 qr_c1 qr_c2 qr_c3 qr_c4
        clear kb0 kb1 kb2 kb3 kb4 kb
        generalize hG : w6.alloc (.cells #[.int .i64 0, .int .i64 1] 3) = waY at hA2 qnY ⊢
        clear hG
        replace qr := (hA2.block _ (lt_of_heap qr)).trans qr
        replace hat := hat.below hA2
        replace hvi := hvi.below hA2
        replace hGX := hGX.below hA2
        replace HB := HB.trans (hA2.mono HB.size)
        generalize hNB : w6.heap.size = NBY at qnY ⊢
        clear hNB
        refine (signedBy_any 2 rd ba bc bl pa pc pl (some ⟨NBY, 0, none⟩) 2 2 [0, 1] waY rfl hat HF.out (IntsAt.lit qnY) (by decide) (by decide) (hT.below HB)).mono ?_
        rintro e w7 ⟨raY, rcY, ksY, he, hksY, hGY, hbY⟩
        subst he
        dsimp only
        replace qr := (hbY.block _ (lt_of_heap qr)).trans qr
        replace hat := hat.below hbY
        replace hvi := hvi.below hbY
        replace hGX := hGX.below hbY
        replace HB := HB.trans (hbY.mono HB.size)
        have HKY : Hid (gvs ksY = sgL 2 rd (hDig 2 rd bl pl) [0, 1]) := hksY
        clear hksY
        obtain ⟨VX, hVX⟩ : ∃ l : List Int, l = [0, 1, 2] := ⟨_, rfl⟩
        have hlx : VX.length = 3 := by rw [hVX]; rfl
        rw [← hVX] at hvi
        have HVX : Hid (VX = [0, 1, 2]) := hVX
        clear hVX
        have PV0 : provF (gvs []) 2 2 rd (certF 2 rd bl pl VX) (hDig 2 rd bl pl) VX = 11 := by
          rw [HVX.out, show gvs [] = sgL 2 rd (hDig 2 rd bl pl) [] from rfl, HC0.out, prov_sgL HF.out (by decide) (by decide)]
          decide
        have PVX : provF (gvs ksX) 2 2 rd (certF 2 rd bl pl VX) (hDig 2 rd bl pl) VX = 11 := by
          rw [HVX.out, HKX.out, HC0.out, prov_sgL HF.out (by decide) (by decide)]
          decide
        have PVY : provF (gvs ksY) 2 2 rd (certF 2 rd bl pl VX) (hDig 2 rd bl pl) VX = 0 := by
          rw [HVX.out, HKY.out, HC0.out, prov_sgL HF.out (by decide) (by decide)]
          decide
        have C0 := fun W (hW : Below w7.heap.size w7 W) => proven_any [] none 0 0 2 2 rd ba bc bl pa pc pl ua uc VX W rfl (by decide) ⟨.inl rfl, fun s hs => by cases hs⟩ (hat.below hW) (hvi.below hW) (by omega) (hT.below (HB.trans (hW.mono HB.size)))
        have CX := fun W (hW : Below w7.heap.size w7 W) => proven_any ksX raX _ rcX 2 2 rd ba bc bl pa pc pl ua uc VX W rfl hGX.small (hGX.slots.below hW) (hat.below hW) (hvi.below hW) (by omega) (hT.below (HB.trans (hW.mono HB.size)))
        have CY := fun W (hW : Below w7.heap.size w7 W) => proven_any ksY raY _ rcY 2 2 rd ba bc bl pa pc pl ua uc VX W rfl hGY.small (hGY.slots.below hW) (hat.below hW) (hvi.below hW) (by omega) (hT.below (HB.trans (hW.mono HB.size)))
        rw [PV0, hlx] at C0
        rw [PVX, hlx] at CX
        rw [PVY, hlx] at CY
        clear PV0 PVX PVY HKX HKY hlx
        have HX := Below.refl w7.heap.size w7
        have q_ := (HX.block _ (lt_of_heap qr)).trans qr
        have q_0 := cells_at q_ 0 _ rfl
        have q_1 := cells_at q_ 1 _ rfl
        have q_2 := cells_at q_ 2 _ rfl
        have q_3 := cells_at q_ 3 _ rfl
        have q_4 := cells_at q_ 4 _ rfl
        go_wp2_with fail
        refine (C0 _ HX).mono ?_
        rintro e w8 ⟨he, hbx⟩
        subst he
        dsimp only
        clear q_0 q_1 q_2 q_3 q_4 q_
        replace HX := HX.trans (hbx.mono HX.size)
        clear hbx
        have q_ := (HX.block _ (lt_of_heap qr)).trans qr
        have q_0 := cells_at q_ 0 _ rfl
        have q_1 := cells_at q_ 1 _ rfl
        have q_2 := cells_at q_ 2 _ rfl
        have q_3 := cells_at q_ 3 _ rfl
        have q_4 := cells_at q_ 4 _ rfl
        go_wp2_with fail
        refine (CX _ HX).mono ?_
        rintro e w9 ⟨he, hbx⟩
        subst he
        dsimp only
        clear q_0 q_1 q_2 q_3 q_4 q_
        replace HX := HX.trans (hbx.mono HX.size)
        clear hbx
        have q_ := (HX.block _ (lt_of_heap qr)).trans qr
        have q_0 := cells_at q_ 0 _ rfl
        have q_1 := cells_at q_ 1 _ rfl
        have q_2 := cells_at q_ 2 _ rfl
        have q_3 := cells_at q_ 3 _ rfl
        have q_4 := cells_at q_ 4 _ rfl
        go_wp2_with fail
        refine (CY _ HX).mono ?_
        rintro e w10 ⟨he, hbx⟩
        subst he
        dsimp only
        clear q_0 q_1 q_2 q_3 q_4 q_
        replace HX := HX.trans (hbx.mono HX.size)
        clear hbx
        go_wp2_with fail
        go_ret
        exact ⟨by first | rfl | simp, HB.trans (HX.mono HB.size)⟩
  · subst hk
    have hvo : votersF (without 0 4) = 0 ∧ (without 0 4).length = 3 := by decide
    go_loopw [7] (fun i wr => ∃ (j : Nat) (v : Value), j ≤ 4 ∧ i = .int .i64 j ∧ wr.heap[w2.heap.size]? = some (.cells #[.int .i64 3, .int .i64 rd, .slice ba bl.length bc, .slice pa pl.length pc, v] 28 (0, 0)) ∧ wr.ownsRow (w2.heap.size + 1) 3 1 v (without 0 j).length (iv (without 0 j)) ∧ Below w2.heap.size w2 wr) (fun i _ => 4 - (intOf i).toNat)
    case atStart => exact ⟨0, _, Nat.zero_le _, rfl, qb, World.ownsRow_nil _ _ _ _, hb3⟩
    case round =>
      obtain ⟨j, v, hj, rfl, qr, ho, hb⟩ := hrel
      obtain ⟨ua, uc, hv⟩ := owns_shape ho
      subst hv
      have e0 := cells_at qr 0 _ rfl
      have e1 := cells_at qr 1 _ rfl
      have e2 := cells_at qr 2 _ rfl
      have e3 := cells_at qr 3 _ rfl
      have e4 := cells_at qr 4 _ rfl
      have f4 := frozen_at qr 4
      have hqlt := lt_of_heap qr
      by_cases hlt : j < 4
      · have hltI : (j : Int) < 4 := by omega
        by_cases hjo : (j : Int) = 0
        · have hst : without 0 (j + 1) = without 0 j := by rw [without, if_pos hjo]
          have HST : Hid _ := hst
          have hjn : ((j : Int) != 0) = false := by simpa using hjo
          clear hst hjo
          go_wp2_with fail
          go_roundw
          case rel => exact ⟨j + 1, _, by omega, by go_num, qr, by rw [HST.out]; exact ho, hb⟩
          case measure => simp [intOf]; omega
        · have hst : without 0 (j + 1) = without 0 j ++ [(j : Int)] := by rw [without, if_neg hjo]
          have HST : Hid _ := hst
          have hjn : ((j : Int) != 0) = true := by simpa using hjo
          have hwl := without_le 0 j
          clear hst hjo
          have qr1 := heap_keep (o := .cells #[.int .i64 j] 3) qr
          have g4 := cells_at qr1 4 _ rfl
          have y4 := frozen_at qr1 4
          have hob := World.ownsRow.alloc ho (.cells #[.int .i64 j] 3)
          have hnew := cells_new wr [.int .i64 (j : Int)] 3
          go_wp2_with (at_builtin; refine wpList_append_own_at _ rfl _ _ 26 rfl (w2.heap.size + 1) 3 i (.int .i64 0) 1 8 Tryd.underlying26 hi hz0 hz1 hz2 rfl (by decide) _ (without 0 j).length _ rfl hob ⟨wr.heap.size, 0, none⟩ 1 1 [.int .i64 (j : Int)] rfl rfl hnew (by intro u hu; simp at hu; subst hu; rfl) (by unfold maxLen; omega) (by omega) (by rw [size_alloc]; have := hb.size; omega) ?_; intro v1 w4 ho4 hg4 _ hat4; obtain ⟨va4, vc4, hv4⟩ := owns_shape ho4; subst hv4; have q4 := (hg4.block _ (lt_of_heap qr1) (by intro e; have := (hob.lt _ e.symm).1; omega)).trans qr1; have d4 := cells_at q4 4 _ rfl; have z4 := frozen_at q4 4)
          have hb4 := Below.grown (hb.alloc hb.size (.cells #[.int .i64 (j : Int)] 3)) hg4 (le_alloc hb.size _) (fun q e => by have := (hob.lt q e).1; omega)
          have q5 : (w4.setCell ⟨w2.heap.size, 4, none⟩ (.slice va4 ((without 0 j).length + 1) vc4)).heap[w2.heap.size]? = some (.cells #[.int .i64 3, .int .i64 rd, .slice ba bl.length bc, .slice pa pl.length pc, .slice va4 ((without 0 j).length + 1) vc4] 28 (0, 0)) := by simpa using heap_setCell_same _ _ 4 _ _ _ q4
          have ho5 : (w4.setCell ⟨w2.heap.size, 4, none⟩ (.slice va4 ((without 0 j).length + 1) vc4)).ownsRow (w2.heap.size + 1) 3 1 (.slice va4 ((without 0 j).length + 1) vc4) (without 0 (j + 1)).length (iv (without 0 (j + 1))) := by
            rw [HST.out]
            refine owns_away ?_ _ _ _ (fun e => by have := (ho4.lt _ e).1; omega)
            simpa [iv] using ho4
          have hb5 := hb4.setCell (p := ⟨w2.heap.size, 4, none⟩) (Nat.le_refl _) (.slice va4 ((without 0 j).length + 1) vc4)
          go_wp2_with fail
          go_roundw
          case rel => exact ⟨j + 1, _, by omega, by go_num, q5, ho5, hb5⟩
          case measure => simp [intOf]; omega
      · obtain rfl : j = 4 := by omega
        obtain ⟨va, vc, hv, _, hvi, _⟩ := intsAt_of_owns ho
        cases hv
        clear e0 e1 e2 e3 e4 f4
        rw [hvo.2] at qr
        have HVO : Hid (votersF (without 0 4) = 0 ∧ (without 0 4).length = 3) := hvo
        replace hat := hat.below hb
        replace HB := HB.trans (hb.mono HB.size)
        clear hvo ho hb hb3 qb
        have HVE : Hid (without 0 4 = [1, 2, 3]) := by show _ = _; decide
        rw [HVE.out] at hvi
        have hc0 : certF 3 rd bl pl [1, 2, 3] = 0 := certF_of HF.out (by decide) (by decide)
        have HC0 : Hid _ := hc0
        clear hc0 HVO HVE
        have hA1 := (Below.refl wr.heap.size wr).alloc (Nat.le_refl _) (.cells #[.int .i64 1] 3)
        have qnX := heap_alloc_new wr (.cells #[.int .i64 1] 3)
        have kb := heap_keep (o := .cells #[.int .i64 1] 3) qr
        have kb0 := cells_at kb 0 _ rfl
        have kb1 := cells_at kb 1 _ rfl
        have kb2 := cells_at kb 2 _ rfl
        have kb3 := cells_at kb 3 _ rfl
        have kb4 := cells_at kb 4 _ rfl
        have qr_c0 := cells_at qr 0 _ rfl
        have qr_c1 := cells_at qr 1 _ rfl
        have qr_c2 := cells_at qr 2 _ rfl
        have qr_c3 := cells_at qr 3 _ rfl
        have qr_c4 := cells_at qr 4 _ rfl
        go_wp2_with fail
        clear qr_c0 qr_c1 qr_c2 qr_c3 qr_c4
        clear kb0 kb1 kb2 kb3 kb4 kb
        generalize hG : wr.alloc (.cells #[.int .i64 1] 3) = waX at hA1 qnX ⊢
        clear hG
        replace qr := (hA1.block _ (lt_of_heap qr)).trans qr
        replace hat := hat.below hA1
        replace hvi := hvi.below hA1
        replace HB := HB.trans (hA1.mono HB.size)
        generalize hNB : wr.heap.size = NBX at qnX ⊢
        clear hNB
        refine (signedBy_any 3 rd ba bc bl pa pc pl (some ⟨NBX, 0, none⟩) 1 1 [1] waX rfl hat HF.out (IntsAt.lit qnX) (by decide) (by decide) (hT.below HB)).mono ?_
        rintro e w6 ⟨raX, rcX, ksX, he, hksX, hGX, hbX⟩
        subst he
        dsimp only
        replace qr := (hbX.block _ (lt_of_heap qr)).trans qr
        replace hat := hat.below hbX
        replace hvi := hvi.below hbX
        replace HB := HB.trans (hbX.mono HB.size)
        have HKX : Hid (gvs ksX = sgL 3 rd (hDig 3 rd bl pl) [1]) := hksX
        clear hksX
        have hA2 := (Below.refl w6.heap.size w6).alloc (Nat.le_refl _) (.cells #[.int .i64 1, .int .i64 2] 3)
        have qnY := heap_alloc_new w6 (.cells #[.int .i64 1, .int .i64 2] 3)
        have kb := heap_keep (o := .cells #[.int .i64 1, .int .i64 2] 3) qr
        have kb0 := cells_at kb 0 _ rfl
        have kb1 := cells_at kb 1 _ rfl
        have kb2 := cells_at kb 2 _ rfl
        have kb3 := cells_at kb 3 _ rfl
        have kb4 := cells_at kb 4 _ rfl
        have qr_c0 := cells_at qr 0 _ rfl
        have qr_c1 := cells_at qr 1 _ rfl
        have qr_c2 := cells_at qr 2 _ rfl
        have qr_c3 := cells_at qr 3 _ rfl
        have qr_c4 := cells_at qr 4 _ rfl
        go_wp2_with fail
        clear qr_c0 qr_c1 qr_c2 qr_c3 qr_c4
        clear kb0 kb1 kb2 kb3 kb4 kb
        generalize hG : w6.alloc (.cells #[.int .i64 1, .int .i64 2] 3) = waY at hA2 qnY ⊢
        clear hG
        replace qr := (hA2.block _ (lt_of_heap qr)).trans qr
        replace hat := hat.below hA2
        replace hvi := hvi.below hA2
        replace hGX := hGX.below hA2
        replace HB := HB.trans (hA2.mono HB.size)
        generalize hNB : w6.heap.size = NBY at qnY ⊢
        clear hNB
        refine (signedBy_any 3 rd ba bc bl pa pc pl (some ⟨NBY, 0, none⟩) 2 2 [1, 2] waY rfl hat HF.out (IntsAt.lit qnY) (by decide) (by decide) (hT.below HB)).mono ?_
        rintro e w7 ⟨raY, rcY, ksY, he, hksY, hGY, hbY⟩
        subst he
        dsimp only
        replace qr := (hbY.block _ (lt_of_heap qr)).trans qr
        replace hat := hat.below hbY
        replace hvi := hvi.below hbY
        replace hGX := hGX.below hbY
        replace HB := HB.trans (hbY.mono HB.size)
        have HKY : Hid (gvs ksY = sgL 3 rd (hDig 3 rd bl pl) [1, 2]) := hksY
        clear hksY
        obtain ⟨VX, hVX⟩ : ∃ l : List Int, l = [1, 2, 3] := ⟨_, rfl⟩
        have hlx : VX.length = 3 := by rw [hVX]; rfl
        rw [← hVX] at hvi
        have HVX : Hid (VX = [1, 2, 3]) := hVX
        clear hVX
        have PV0 : provF (gvs []) 3 3 rd (certF 3 rd bl pl VX) (hDig 3 rd bl pl) VX = 11 := by
          rw [HVX.out, show gvs [] = sgL 3 rd (hDig 3 rd bl pl) [] from rfl, HC0.out, prov_sgL HF.out (by decide) (by decide)]
          decide
        have PVX : provF (gvs ksX) 3 3 rd (certF 3 rd bl pl VX) (hDig 3 rd bl pl) VX = 11 := by
          rw [HVX.out, HKX.out, HC0.out, prov_sgL HF.out (by decide) (by decide)]
          decide
        have PVY : provF (gvs ksY) 3 3 rd (certF 3 rd bl pl VX) (hDig 3 rd bl pl) VX = 0 := by
          rw [HVX.out, HKY.out, HC0.out, prov_sgL HF.out (by decide) (by decide)]
          decide
        have C0 := fun W (hW : Below w7.heap.size w7 W) => proven_any [] none 0 0 3 3 rd ba bc bl pa pc pl ua uc VX W rfl (by decide) ⟨.inl rfl, fun s hs => by cases hs⟩ (hat.below hW) (hvi.below hW) (by omega) (hT.below (HB.trans (hW.mono HB.size)))
        have CX := fun W (hW : Below w7.heap.size w7 W) => proven_any ksX raX _ rcX 3 3 rd ba bc bl pa pc pl ua uc VX W rfl hGX.small (hGX.slots.below hW) (hat.below hW) (hvi.below hW) (by omega) (hT.below (HB.trans (hW.mono HB.size)))
        have CY := fun W (hW : Below w7.heap.size w7 W) => proven_any ksY raY _ rcY 3 3 rd ba bc bl pa pc pl ua uc VX W rfl hGY.small (hGY.slots.below hW) (hat.below hW) (hvi.below hW) (by omega) (hT.below (HB.trans (hW.mono HB.size)))
        rw [PV0, hlx] at C0
        rw [PVX, hlx] at CX
        rw [PVY, hlx] at CY
        clear PV0 PVX PVY HKX HKY hlx
        have HX := Below.refl w7.heap.size w7
        have q_ := (HX.block _ (lt_of_heap qr)).trans qr
        have q_0 := cells_at q_ 0 _ rfl
        have q_1 := cells_at q_ 1 _ rfl
        have q_2 := cells_at q_ 2 _ rfl
        have q_3 := cells_at q_ 3 _ rfl
        have q_4 := cells_at q_ 4 _ rfl
        go_wp2_with fail
        refine (C0 _ HX).mono ?_
        rintro e w8 ⟨he, hbx⟩
        subst he
        dsimp only
        clear q_0 q_1 q_2 q_3 q_4 q_
        replace HX := HX.trans (hbx.mono HX.size)
        clear hbx
        have q_ := (HX.block _ (lt_of_heap qr)).trans qr
        have q_0 := cells_at q_ 0 _ rfl
        have q_1 := cells_at q_ 1 _ rfl
        have q_2 := cells_at q_ 2 _ rfl
        have q_3 := cells_at q_ 3 _ rfl
        have q_4 := cells_at q_ 4 _ rfl
        go_wp2_with fail
        refine (CX _ HX).mono ?_
        rintro e w9 ⟨he, hbx⟩
        subst he
        dsimp only
        clear q_0 q_1 q_2 q_3 q_4 q_
        replace HX := HX.trans (hbx.mono HX.size)
        clear hbx
        have q_ := (HX.block _ (lt_of_heap qr)).trans qr
        have q_0 := cells_at q_ 0 _ rfl
        have q_1 := cells_at q_ 1 _ rfl
        have q_2 := cells_at q_ 2 _ rfl
        have q_3 := cells_at q_ 3 _ rfl
        have q_4 := cells_at q_ 4 _ rfl
        go_wp2_with fail
        refine (CY _ HX).mono ?_
        rintro e w10 ⟨he, hbx⟩
        subst he
        dsimp only
        clear q_0 q_1 q_2 q_3 q_4 q_
        replace HX := HX.trans (hbx.mono HX.size)
        clear hbx
        go_wp2_with fail
        go_ret
        exact ⟨by first | rfl | simp, HB.trans (HX.mono HB.size)⟩
end Go.Proofs.YteeiomcgdgehfaaDoor

namespace Go.Proofs.YteeiomcgdgehfaaDoor
open Go.RowKit

set_option maxRecDepth 100000 in
/-- An array of arrays of integers that reads as a table of rows holds the rows' numbers, cell for cell. -/
theorem cells_of_tab2 {H : Type} {enc : TypeId × Value → H} {P : Program} {w : World} {base : Nat} {sp : Nat → Bool} {held : Bool} {fuel : Nat} {t e i : TypeId} {n m : Nat} {k : IntKind} {cs : List Value} {rows : List (List Int)} {p : List MemPlace}
    (ht : P.underlying t = some (.array n e)) (he : P.underlying e = some (.array m i)) (hi : P.underlying i = some (.int k)) (hci : P.cellsOf i = 1) (hce : P.cellsOf e = m) (hm : 0 < m)
    (h : DataW.trod enc P w base sp held fuel t cs = some (.agg (rows.map (Lib.tabData k)), p)) (q : Nat) (hq : q < n * m) : cs[q]? = ((rows.getD (q / m) []).map (Value.int k))[q % m]? := by
  obtain ⟨xs, f, rfl, hx, hl, hn, hr⟩ := DataW.trod_array ht h
  have hin : q / m < n := Nat.div_lt_of_lt_mul (by rw [Nat.mul_comm]; exact hq)
  have hrow := hr (q / m) hin
  have hxs : xs.map (·.1) = rows.map (Lib.tabData k) := by
    have := congrArg Prod.fst hx
    simpa using this.symm
  have hg : (xs.map (·.1))[q / m]? = some (xs[q / m]'(by omega)).1 := by simp [hn, hin]
  rw [hxs] at hg
  simp only [List.getElem?_map, Option.map_eq_some_iff] at hg
  obtain ⟨r, hr1, hr2⟩ := hg
  rw [List.getElem?_eq_getElem (by omega), hce] at hrow
  have hrow' : DataW.trod enc P w base sp held f e ((cs.drop (q / m * m)).take m) = some (Lib.tabData k r, (xs[q / m]'(by omega)).2) := by
    rw [hrow, hr2]
  have hc := Lib.cells_of_tab he hi hci hce hrow'
  have hj : q % m < m := Nat.mod_lt _ hm
  have e1 : ((cs.drop (q / m * m)).take m)[q % m]? = cs[q]? := by
    rw [List.getElem?_take, if_pos hj, List.getElem?_drop, Nat.mul_comm, Nat.div_add_mod]
  rw [← e1, hc]
  simp [List.getD, hr1]

set_option maxRecDepth 100000 in
theorem tFirst : (Tryd.prog.globals[1]?).map (·.type) = some 96 := by kernel_rfl
set_option maxRecDepth 100000 in
theorem tOrders : (Tryd.prog.globals[2]?).map (·.type) = some 111 := by kernel_rfl
set_option maxRecDepth 100000 in
theorem tLanes : (Tryd.prog.globals[3]?).map (·.type) = some 113 := by kernel_rfl
set_option maxRecDepth 100000 in
theorem cU32 : Tryd.prog.cellsOf 95 = 1 := by kernel_rfl
set_option maxRecDepth 100000 in
theorem c8U32 : Tryd.prog.cellsOf 96 = 8 := by kernel_rfl
set_option maxRecDepth 100000 in
theorem c16U8 : Tryd.prog.cellsOf 110 = 16 := by kernel_rfl
set_option maxRecDepth 100000 in
theorem c4U8 : Tryd.prog.cellsOf 112 = 4 := by kernel_rfl
def ordRows : List (List Int) := [[0, 1, 2, 3, 4, 5, 6, 7, 8, 9, 10, 11, 12, 13, 14, 15], [14, 10, 4, 8, 9, 15, 13, 6, 1, 12, 0, 2, 11, 7, 5, 3], [11, 8, 12, 0, 5, 2, 15, 13, 10, 14, 3, 6, 7, 1, 9, 4], [7, 9, 3, 1, 13, 12, 11, 14, 2, 6, 5, 10, 4, 0, 15, 8], [9, 0, 5, 7, 2, 4, 10, 15, 14, 1, 11, 12, 6, 8, 3, 13], [2, 12, 6, 10, 0, 11, 8, 3, 4, 13, 7, 5, 15, 14, 1, 9], [12, 5, 1, 15, 14, 13, 4, 10, 0, 7, 6, 3, 9, 2, 8, 11], [13, 11, 7, 14, 12, 1, 3, 9, 5, 0, 15, 4, 8, 6, 2, 10], [6, 15, 14, 9, 11, 3, 0, 8, 12, 2, 13, 7, 1, 4, 10, 5], [10, 2, 8, 4, 7, 6, 1, 5, 15, 11, 9, 14, 3, 12, 13, 0]]
def laneRows : List (List Int) := [[0, 4, 8, 12], [1, 5, 9, 13], [2, 6, 10, 14], [3, 7, 11, 15], [0, 5, 10, 15], [1, 6, 11, 12], [2, 7, 8, 13], [3, 4, 9, 14]]
set_option maxRecDepth 100000 in
theorem ordRows_flat : ∀ q, q < 160 → (ordRows.getD (q / 16) [])[q % 16]? = some ((ordF.getD q 0 : Nat) : Int) := by decide +kernel
set_option maxRecDepth 100000 in
theorem laneRows_flat : ∀ q, q < 32 → (laneRows.getD (q / 4) [])[q % 4]? = some ((laneF.getD q 0 : Nat) : Int) := by decide +kernel
set_option maxRecDepth 100000 in
theorem dFirst : Rows.laid_sheaves_blake_firstWords (H := Unit) = Lib.tabData .u32 fw := rfl
set_option maxRecDepth 100000 in
theorem dOrders : Rows.laid_sheaves_blake_orders (H := Unit) = .agg (ordRows.map (Lib.tabData .u8)) := rfl
set_option maxRecDepth 100000 in
theorem dLanes : Rows.laid_sheaves_blake_lanes (H := Unit) = .agg (laneRows.map (Lib.tabData .u8)) := rfl

set_option maxRecDepth 100000 in
theorem tabs_of_laid {W : World} {n1 n2 n3 : String} (gFirst : Tryd.prog.globalNamed n1 = some 1) (gOrders : Tryd.prog.globalNamed n2 = some 2) (gLanes : Tryd.prog.globalNamed n3 = some 3)
    (h : laidMetH Tryd.prog [(n1, Rows.laid_sheaves_blake_firstWords), (n2, Rows.laid_sheaves_blake_orders), (n3, Rows.laid_sheaves_blake_lanes)] W) : Tabs W := by
  have h1 : laidMet Tryd.prog [(n1, Rows.laid_sheaves_blake_firstWords), (n2, Rows.laid_sheaves_blake_orders), (n3, Rows.laid_sheaves_blake_lanes)] W := h
  clear h
  have h2 := h1.tail
  have h3 := h2.tail
  rw [dFirst] at h1
  rw [dOrders] at h2
  rw [dLanes] at h3
  have t1 := Lib.tabIs_of_head gFirst tFirst Tryd.underlying96 Tryd.underlying95 cU32 c8U32 h1
  refine ⟨fun i hi => t1.cell gFirst i hi, fun i hi => ?_, fun i hi => ?_⟩
  · obtain ⟨ps, ⟨g', t', cs, fuel, p, q, hg', ht', hvar, hd, _, _⟩, _⟩ := h2
    obtain rfl := Option.some.inj (gOrders.symm.trans hg')
    obtain rfl := Option.some.inj (tOrders.symm.trans ht')
    have hc := World.var?_cell gOrders hvar i
    have he := cells_of_tab2 Tryd.underlying111 Tryd.underlying110 Tryd.underlying5 cU8 c16U8 (by decide) hd i hi
    rw [hc]
    have := ordRows_flat i hi
    simp only [List.getElem?_map, this, Option.map_some] at he
    simpa using he
  · obtain ⟨ps, ⟨g', t', cs, fuel, p, q, hg', ht', hvar, hd, _, _⟩, _⟩ := h3
    obtain rfl := Option.some.inj (gLanes.symm.trans hg')
    obtain rfl := Option.some.inj (tLanes.symm.trans ht')
    have hc := World.var?_cell gLanes hvar i
    have he := cells_of_tab2 Tryd.underlying113 Tryd.underlying112 Tryd.underlying5 cU8 c4U8 (by decide) hd i hi
    rw [hc]
    have := laneRows_flat i hi
    simp only [List.getElem?_map, this, Option.map_some] at he
    simpa using he
end Go.Proofs.YteeiomcgdgehfaaDoor

namespace Go.Proofs.YteeiomcgdgehfaaDoor
open Go.ChangeShapes Go.WideShapes Go.ChangeAt Go.RowKit

/-- What the initialisers of the three tables lay, in the first blocks. -/
def layBlock (c : Array Value) : Obj → Obj
  | .cells _ t frozen => .cells c t frozen
  | o => o
def layTabs (w : World) : World :=
  { w with heap := ((w.heap.modify 1 (layBlock (ua fw))).modify 2 (layBlock (ub (ordF.map Int.ofNat)).toArray)).modify 3 (layBlock (ub (laneF.map Int.ofNat)).toArray) }
end Go.Proofs.YteeiomcgdgehfaaDoor

namespace Go.Proofs.YteeiomcgdgehfaaDoor.provenRogue
open Go.ChangeShapes Go.WideShapes Go.ChangeAt Go.RowKit

set_option maxRecDepth 100000 in
/-- What the walk gives, for every argument and every world that holds the tables. -/
theorem contract (H : Type) (enc : TypeId × Value → H) (W : World) (base : Nat) (args : Array Value) (ds gs : List (DataW H)) (before : List MemPlace)
    (hval : ∀ (j : Nat) t v, Tryd.f7.params[j]? = some t → args[j]? = some v → Value.okWide Tryd.prog W .any base t v)
    (hW : DataW.Whole enc Tryd.prog Tryd.f7.params.toList Rows.provenRogueSpec.vars false W args.toList ds gs before) (hsz : (DataW.weightsEach Tryd.prog (Tryd.f7.params.toList ++ (OpenSpec.ofChange Rows.provenRogueSpec).bare.plain.varTypes Tryd.prog) (ds ++ gs)).all (· ≤ reachBytes) = true) (hL : laidMetH Tryd.prog Rows.provenRogueRow.laid W) :
    Calls Tryd.prog 7 args W fun e W' => ∃ v, e = .returned v ∧ Rows.provenRogueSpec.post enc Tryd.prog Tryd.f7 false true false false W args v W' := by
  have hW' := hW
  obtain ⟨p, q, hA0, hV, rfl, hfz, hnd⟩ := hW
  have hA : DataW.TrodAll enc Tryd.prog W 0 (fun _ => true) true Tryd.f7.params.toList args.toList ds p := hA0
  rw [Tryd.params7] at hA hval hsz
  obtain ⟨v0, vs0, d0, ds0, p0, q0, hargs, rfl, rfl, h0, r0⟩ := trodAll_cons hA
  obtain ⟨v1, vs1, d1, ds1, p1, q1, rfl, rfl, rfl, h1, r1⟩ := trodAll_cons r0
  obtain ⟨rfl, rfl, rfl⟩ := trodAll_nil r1
  obtain rfl : args = #[v0, v1] := by cases args; simp_all
  obtain ⟨rfl, rfl⟩ := trodVars_none hV
  have k0 := h0
  have lt0 : ∀ x ∈ p0, x.block < W.heap.size := by obtain ⟨m, hm⟩ := k0; exact DataW.trod_lt m _ _ _ hm
  obtain ⟨ki0, ra0, rb0, rc0, sa0, cap0, ss0, rfl, q0_0, q0_1, q0_2, q0_3, q0_4⟩ := open_raw (hval 0 36 v0 rfl rfl) h0 (fit_each hsz (j := 0) rfl rfl)
  obtain ⟨a1, rfl, rfl, rfl, w1⟩ := open_int Tryd.underlying3 (hval 1 3 v1 rfl rfl) h1
  obtain ⟨lo1, hi1⟩ := bounds_i64 w1
  clear hA0
  have hT : Tabs W := tabs_of_laid (by kernel_rfl) (by kernel_rfl) (by kernel_rfl) hL
  refine (provenRogue_walk ki0 ra0 rb0 rc0 sa0 cap0 ss0 a1 W q0_0 q0_1 q0_2 q0_3 q0_4 lo1 hi1 hT).mono fun e W' ⟨he, bel⟩ => ?_
  subst he
  exact ⟨_, rfl, _, _, _, [], _, [], hW', trodAll_mk1 (shut_bool Tryd.underlying4 _), (trodAll_cons_mk (Below.trod laidOut (by kernel_rfl) (of_decide_eq_true (by kernel_rfl)) k0 bel lt0) (trodAll_cons_mk (shut_int Tryd.underlying3 w1) trodAll_mk0)), rfl, bel.frame _, fun h => by cases h⟩

set_option maxRecDepth 100000 in
theorem laid_met (os : Os) : laidMet Tryd.prog Rows.provenRogueRow.laid ((layTabs (World.holding Tryd.prog os ⟨#[], #[], []⟩)).forCall (fun _ _ => 0) ⟨#[], #[.agg #[.int .i64 0, .int .i64 0, .int .i64 0, .int .i64 0, .slice none 0 0], .int .i64 0], []⟩).memory :=
  laidMet_of_run' 8 (by kernel_rfl) (by kernel_rfl)
set_option maxRecDepth 100000 in
theorem reads (os : Os) {H : Type} (enc : TypeId × Value → H) : ∃ places, DataW.whole enc Tryd.prog ((layTabs (World.holding Tryd.prog os ⟨#[], #[], []⟩)).forCall (fun _ _ => 0) ⟨#[], #[.agg #[.int .i64 0, .int .i64 0, .int .i64 0, .int .i64 0, .slice none 0 0], .int .i64 0], []⟩).memory Tryd.f7.params.toList Rows.provenRogueSpec.vars false (#[.agg #[.int .i64 0, .int .i64 0, .int .i64 0, .int .i64 0, .slice none 0 0], .int .i64 0] : Array Value).toList 8 = some ([.agg [.lit (.int .i64 0), .lit (.int .i64 0), .lit (.int .i64 0), .lit (.int .i64 0), .nil], .lit (.int .i64 0)], [], places) :=
  ⟨[], by kernel_rfl⟩

set_option maxRecDepth 100000 in
theorem lifted (os : Os) (started : os.Started) (H : Type) (enc : TypeId × Value → H) (F : Stop.Interp) :
    ReturnsInHanded {} Tryd.checked os 7 .any ((OpenSpec.ofChange Rows.provenRogueSpec).preRow enc Tryd.prog Tryd.f7 Rows.provenRogueRow.domain false Rows.provenRogueRow.laid) (((OpenSpec.ofChange Rows.provenRogueSpec).at F).post enc Tryd.prog Tryd.f7 false true false false) := by
  obtain ⟨places, hx⟩ := reads os enc
  refine returnsInHanded_of_row (C := Tryd.checked) (s := OpenSpec.ofChange Rows.provenRogueSpec) own started (by kernel_rfl) Tryd.func7
    (witness_row_at (enc := enc) (C := Tryd.checked) false (layTabs (World.holding Tryd.prog os ⟨#[], #[], []⟩)) #[.agg #[.int .i64 0, .int .i64 0, .int .i64 0, .int .i64 0, .slice none 0 0], .int .i64 0] rfl (by kernel_rfl) (by kernel_rfl) (by kernel_rfl)
      (OpenSpec.preRow_of_cond 8 hx (by kernel_rfl) (fun k hk => by cases hk) (by kernel_rfl) (laid_met os))) ?_
  intro W base args ds gs before hval hW _ _ hsz hL _ _
  exact contract H enc W base args ds gs before hval hW hsz hL

set_option maxRecDepth 100000 in
theorem said : Rows.ProvenRogueSaid :=
  OpenClaim.holds_of_cond 7 Tryd.f7 rfl rfl rfl rfl rfl rfl rfl ⟨rfl, rfl, rfl, rfl, rfl⟩ rfl rfl rfl rfl rfl (by kernel_rfl) Tryd.func7 (by kernel_rfl)
    (of_decide_eq_true (by kernel_rfl)) (by unfold Func.isWrapper; first | (rw [if_pos (by decide +kernel)]; kernel_rfl) | (rw [if_neg (by decide +kernel)]; exact ⟨rfl, rfl⟩))
    (fun os started H enc _ F => by rw [OpenClaim.pre_eq_preRow]; exact lifted os started H enc F)

set_option maxRecDepth 100000 in
theorem plain (f : FuncId) (fn : Func) (hf : Tryd.pinned.checked.prog.funcNamed Rows.provenRogueRow.func = some f) (hfn : Tryd.pinned.checked.prog.funcs[f]? = some fn) :
    false = Tryd.pinned.checked.prog.looks [] ∧ ∀ (j : Nat) t, fn.params[j]? = some t → Tryd.pinned.checked.prog.wantsStandIn t = false := by
  obtain rfl : f = 7 := Option.some.inj ((show Tryd.prog.funcNamed Rows.provenRogueRow.func = some 7 by kernel_rfl).symm.trans hf) |>.symm
  obtain rfl : fn = Tryd.f7 := (Option.some.inj (Tryd.func7.symm.trans hfn)).symm
  refine ⟨by kernel_rfl, fun j t ht => ?_⟩
  rw [Tryd.params7] at ht
  have hm : t = 36 ∨ t = 3 := by simpa using Array.mem_of_getElem? ht
  rcases hm with rfl | rfl
  · exact (show Tryd.prog.wantsStandIn 36 = false by kernel_rfl)
  · exact (show Tryd.prog.wantsStandIn 3 = false by kernel_rfl)

set_option maxRecDepth 100000 in
/-- THE CARD. -/
theorem card : Rows.ProvenRogueCardSaid :=
  Claim7.holds_tied_plain_at .later [] _ _ _ _ said (fun _ h => by cases h) (by kernel_rfl) (fun _ h => by cases h) provenRogue_row_tie rfl ⟨rfl, rfl⟩ (by kernel_rfl) rfl plain (by kernel_rfl)
end Go.Proofs.YteeiomcgdgehfaaDoor.provenRogue
namespace Go.Proofs.YteeiomcgdgehfaaDoor
set_option maxRecDepth 100000 in
theorem provenRogue_holds : Rows.ProvenRogueCardSaid := provenRogue.card
#print axioms provenRogue_holds
end Go.Proofs.YteeiomcgdgehfaaDoor
