/- The law sheaveslaw.DagMissing answers true for every argument, and each argument reads behind the call as it read before: the tied card. Its conditions: the three tables of package blake hold what the program's text lays (the card ties that); the form's own reach. -/
import Derived.Test.YtgbomdikhidkoaaDoorOwnL
import Derived.Test.YtgbomdikhidkoaaDoorSx
import Derived.RegionTactic
import Derived.Test.YtgbomdikhidkoaaDoorDagMissingM54
import Derived.Test.YtgbomdikhidkoaaDoorDagMissingM42
import Derived.Test.YtgbomdikhidkoaaDoorCards
import Derived.Test.YtgbomdikhidkoaaDoorTie
import Derived.WalkKit
import Derived.ProofKit
import Derived.OpenShut
import Derived.Deep.DeepHandedRow
import Derived.SevenTiedAt
import Derived.Below
namespace Go.Proofs.YtgbomdikhidkoaaDoor
open Go.RowKit

set_option maxRecDepth 100000 in
set_option maxHeartbeats 1000000 in
theorem sameListsL_eq (ps qs : List Part) (sa sb : Option Addr) (c d : Nat) (w : World) (hS : Same ps qs) (ha : ListAt w sa c ps) (hb : ListAt w sb d qs) :
    Calls Tryd.prog 19 #[.slice sa qs.length c, .slice sb qs.length d] w fun e w' => e = .returned (.bool true) ∧ Below w.heap.size w w' := by
  have hl := hS.length
  have hF : Hid (ps.length = qs.length) := hl
  have HS : Hid _ := hS
  have hsm := hb.small
  clear hl hS
  go_enter Tryd.func19, Tryd.ntmps19
  go_wp2_with fail
  go_loopw [5] (fun j wr => ∃ k : Nat, k ≤ qs.length ∧ j = .int .i64 k ∧ Below w.heap.size w wr) (fun j _ => qs.length - (intOf j).toNat)
  case atStart => exact ⟨0, Nat.zero_le _, rfl, Below.refl _ _⟩
  case round =>
    obtain ⟨k, hk, rfl, hbw⟩ := hrel
    by_cases hlt2 : k < qs.length
    · have hlt : k < ps.length := by have := hF.out; omega
      obtain ⟨ab, ao, rfl, hca⟩ : ∃ ab ao, sa = some ⟨ab, ao, none⟩ ∧ ∀ j (h : j < ps.length), w.cell? ⟨ab, ao + j, none⟩ = some (.slice (ps[j]).sa (ps[j]).bs.length (ps[j]).cap) := by
        rcases ha.parts.cells with h | h
        · subst h; simp at hlt
        · exact h
      obtain ⟨bb, bo, rfl, hcb⟩ : ∃ bb bo, sb = some ⟨bb, bo, none⟩ ∧ ∀ j (h : j < qs.length), w.cell? ⟨bb, bo + j, none⟩ = some (.slice (qs[j]).sa (qs[j]).bs.length (qs[j]).cap) := by
        rcases hb.parts.cells with h | h
        · subst h; simp at hlt2
        · exact h
      have ka := (hbw.cell (p := ⟨ab, ao + k, none⟩) (block_lt_of_cell (hca k hlt))).trans (hca k hlt)
      have kb := (hbw.cell (p := ⟨bb, bo + k, none⟩) (block_lt_of_cell (hcb k hlt2))).trans (hcb k hlt2)
      have hpa := ((ha.parts.each ps[k] (List.getElem_mem hlt)).below hbw).below (Below.refl _ _).drew
      have hpb := ((hb.parts.each qs[k] (List.getElem_mem hlt2)).below hbw).below (Below.refl _ _).drew
      have hpq : (ps[k]).bs = (qs[k]).bs := by
        have h1 : (ps.map (·.bs))[k]? = (qs.map (·.bs))[k]? := by rw [show ps.map (·.bs) = qs.map (·.bs) from HS.out]
        simpa [hlt, hlt2] using h1
      have hltI : (k : Int) < qs.length := by omega
      have h0 : (0 : Int) ≤ k := by omega
      clear hca hcb
      generalize ps[k] = p at *
      generalize qs[k] = q at *
      obtain ⟨pa, pc, pb⟩ := p
      obtain ⟨qa, qc, qb⟩ := q
      simp only at hpq ka kb hpa hpb
      subst hpq
      have t1 := run_text wr.drew pa pb.length pc pb rfl hpa
      have t2 := run_text wr.drew qa pb.length qc pb rfl hpb
      generalize bstr pb = S at *
      go_wp2_with fail
      go_region
      all_goals
        go_wp2_with fail
        go_roundw
        case rel =>
          have hR : ∃ k' : Nat, k' ≤ qs.length ∧ (Value.int .i64 ((k : Int) + 1)) = .int .i64 k' ∧ Below w.heap.size w wr.drew := ⟨k + 1, by omega, by go_num, hbw.drew⟩
          first | exact hR | ((repeat apply Exists.intro); exact ⟨hR, rfl⟩)
        case measure => simp [intOf]; omega
    · obtain rfl : k = qs.length := by omega
      have hltI : ¬ (qs.length : Int) < qs.length := by omega
      go_wp2_with fail
      go_ret
      exact ⟨rfl, hbw⟩
set_option maxRecDepth 100000 in
set_option maxHeartbeats 1000000 in
theorem sameHeaderL_eq (au rd : Int) (xa : Option Addr) (xc : Nat) (xl : List Part) (ya : Option Addr) (yc : Nat) (yl : List Part) (ba : Option Addr) (bc : Nat) (bl : List Part) (pa : Option Addr) (pc : Nat) (pl : List Part) (w : World) (s1 : Same xl bl) (s2 : Same yl pl) (h1 : ListAt w xa xc xl) (h2 : ListAt w ya yc yl) (h3 : ListAt w ba bc bl) (h4 : ListAt w pa pc pl) :
    Calls Tryd.prog 35 #[.agg #[.int .i64 au, .int .i64 rd, .slice xa bl.length xc, .slice ya pl.length yc], .agg #[.int .i64 au, .int .i64 rd, .slice ba bl.length bc, .slice pa pl.length pc]] w fun e w' => e = .returned (.bool true) ∧ Below w.heap.size w w' := by
  have hA : Below w.heap.size w ((w.alloc (.cells #[.int .i64 au, .int .i64 rd, .slice xa bl.length xc, .slice ya pl.length yc] 32)).alloc (.cells #[.int .i64 au, .int .i64 rd, .slice ba bl.length bc, .slice pa pl.length pc] 32)) := ((Below.refl _ _).alloc (Nat.le_refl _) _).alloc (by simp) _
  have hB : ∀ wx, Below w.heap.size w wx → _ := fun wx h => sameListsL_eq xl bl xa ba xc bc wx s1 (h1.below h) (h3.below h)
  have hP : ∀ wx, Below w.heap.size w wx → _ := fun wx h => sameListsL_eq yl pl ya pa yc pc wx s2 (h2.below h) (h4.below h)
  have HB : Hid _ := hB
  have HP : Hid _ := hP
  clear hB hP h1 h2 h3 h4 s1 s2
  go_enter Tryd.func35, Tryd.ntmps35
  go_wp2_with fail
  refine (HB.out _ hA).mono ?_
  rintro e w1 ⟨rfl, hb1⟩
  have r1 := row_new hb1
  have r0 := row_new (below_alloc hb1)
  rw [size_alloc] at r1
  replace hb1 := below_alloc (below_alloc hb1)
  have c3 : w1.cell? ⟨w.heap.size, 3, none⟩ = some (.slice ya pl.length yc) := cells_at r0 3 _ rfl
  have d3 : w1.cell? ⟨w.heap.size + 1, 3, none⟩ = some (.slice pa pl.length pc) := cells_at r1 3 _ rfl
  go_wp2_with fail
  refine (HP.out _ hb1).mono ?_
  rintro e w2 ⟨rfl, hb2⟩
  go_wp2_with fail
  go_ret
  exact ⟨rfl, hb1.trans (hb2.mono hb1.size)⟩
end Go.Proofs.YtgbomdikhidkoaaDoor

namespace Go.Proofs.YtgbomdikhidkoaaDoor
open Go.RowKit

set_option maxRecDepth 100000 in
theorem nilListM (w : World) : ListAt w none 0 [] := ⟨Nat.le_refl _, by decide, by decide, .inl rfl, ⟨.inl rfl, fun p hp => by cases hp⟩⟩
/-- What Missing answers, its parts apart. -/
def MgQ (w' : World) (ma : Option Addr) (mn mc : Nat) (ec : Int) (l : List CV) (au rd : Int) (bl pl : List Part) : Prop :=
  (missE l au rd bl pl ≠ 0 ∧ ec = missE l au rd bl pl ∧ ma = none ∧ mn = 0 ∧ mc = 0) ∨ (missE l au rd bl pl = 0 ∧ ec = 0 ∧ ∃ ms, mn = List.length ms ∧ bss ms = misF l (bss pl) ∧ ListAt w' ma mc ms)
set_option maxRecDepth 100000 in
theorem MgAt.q {w' : World} {e : Ending} {l : List CV} {au rd : Int} {bl pl : List Part} (h : MgAt w' e l au rd bl pl) : ∃ ma mn mc ec, e = .returned (.tuple #[.slice ma mn mc, .int .i64 ec]) ∧ MgQ w' ma mn mc ec l au rd bl pl := by
  rcases h with ⟨h1, h2⟩ | ⟨h1, a, b, c, h2, h3, h4⟩
  · exact ⟨none, 0, 0, _, h2, .inl ⟨h1, rfl, rfl, rfl, rfl⟩⟩
  · exact ⟨a, _, b, 0, h2, .inr ⟨h1, rfl, c, rfl, h3, h4⟩⟩
set_option maxRecDepth 100000 in
/-- Two such answers are the same. -/
theorem MgQ.same {w w' : World} {ma na : Option Addr} {mn mc nn nc : Nat} {ec fc : Int} {l : List CV} {au rd : Int} {bl pl : List Part} (h : MgQ w ma mn mc ec l au rd bl pl) (g : MgQ w' na nn nc fc l au rd bl pl) (hb : Below w.heap.size w w') : ec = fc ∧ mn = nn ∧ ∃ ms ns, nn = List.length ns ∧ Same ms ns ∧ ListAt w' ma mc ms ∧ ListAt w' na nc ns := by
  rcases h with ⟨h1, h2, h3, h4, h5⟩ | ⟨h1, h2, ms, h3, h4, h5⟩ <;> rcases g with ⟨g1, g2, g3, g4, g5⟩ | ⟨g1, g2, ns, g3, g4, g5⟩
  · subst h3 h4 h5 g3 g4 g5
    exact ⟨h2.trans g2.symm, rfl, [], [], rfl, rfl, nilListM _, nilListM _⟩
  · exact absurd g1 h1
  · exact absurd h1 g1
  · have hs : Same ms ns := h4.trans g4.symm
    exact ⟨h2.trans g2.symm, by rw [h3, g3, hs.length], ms, ns, g3, hs, h5.below hb, g5⟩
set_option maxRecDepth 100000 in
set_option maxHeartbeats 2000000 in
theorem dagMissing_walk (sa : Option Addr) (cap : Nat) (ls : List Ct) (au rd : Int) (ba : Option Addr) (bc : Nat) (bl : List Part) (pa : Option Addr) (pc : Nat) (pl : List Part) (w : World) (hd : DagRd w sa cap ls) (_h1 : I64 au) (_h2 : I64 rd) (hb : ReadAt w ba bc bl) (hp : ReadAt w pa pc pl) (_hub : ∀ p ∈ bl, AllU8 p.bs) (_hup : ∀ p ∈ pl, AllU8 p.bs) (hT : Tabs w) :
    Calls Tryd.prog 5 #[.agg #[.slice sa ls.length cap], .agg #[.int .i64 au, .int .i64 rd, .slice ba bl.length bc, .slice pa pl.length pc]] w fun e w' => e = .returned (.bool true) ∧ Below w.heap.size w w' := by
  clear _hub _hup
  have hA : Below w.heap.size w ((w.alloc (.cells #[.slice sa ls.length cap] 24)).alloc (.cells #[.int .i64 au, .int .i64 rd, .slice ba bl.length bc, .slice pa pl.length pc] 32)) := ((Below.refl _ _).alloc (Nat.le_refl _) _).alloc (by rw [size_alloc]; omega) _
  have q0 := heap_alloc2_old w (.cells #[.slice sa ls.length cap] 24) (.cells #[.int .i64 au, .int .i64 rd, .slice ba bl.length bc, .slice pa pl.length pc] 32)
  have q1 : ((w.alloc (.cells #[.slice sa ls.length cap] 24)).alloc (.cells #[.int .i64 au, .int .i64 rd, .slice ba bl.length bc, .slice pa pl.length pc] 32)).heap[w.heap.size + 1]? = some (.cells #[.int .i64 au, .int .i64 rd, .slice ba bl.length bc, .slice pa pl.length pc] 32 (0, 0)) := by
    have := heap_alloc_new (w.alloc (.cells #[.slice sa ls.length cap] 24)) (.cells #[.int .i64 au, .int .i64 rd, .slice ba bl.length bc, .slice pa pl.length pc] 32)
    rw [size_alloc] at this; exact this
  go_enter Tryd.func5, Tryd.ntmps5
  go_wp2_with fail
  generalize (w.alloc (.cells #[.slice sa ls.length cap] 24)).alloc (.cells #[.int .i64 au, .int .i64 rd, .slice ba bl.length bc, .slice pa pl.length pc] 32) = W0 at hA q0 q1 ⊢
  have k0 : W0.cell? ⟨w.heap.size, 0, none⟩ = some (.slice sa ls.length cap) := cells_at q0 0 _ rfl
  have m0 : W0.cell? ⟨w.heap.size + 1, 0, none⟩ = some (.int .i64 au) := cells_at q1 0 _ rfl
  have m1 : W0.cell? ⟨w.heap.size + 1, 1, none⟩ = some (.int .i64 rd) := cells_at q1 1 _ rfl
  have m2 : W0.cell? ⟨w.heap.size + 1, 2, none⟩ = some (.slice ba bl.length bc) := cells_at q1 2 _ rfl
  have m3 : W0.cell? ⟨w.heap.size + 1, 3, none⟩ = some (.slice pa pl.length pc) := cells_at q1 3 _ rfl
  have l0 : w.heap.size < W0.heap.size := lt_of_heap q0
  have l1 : w.heap.size + 1 < W0.heap.size := lt_of_heap q1
  have HDC := dagCopy_any ls sa _ cap W0.drew rfl (hd.below hA.drew)
  have HHC : Hid (∀ W : World, Below w.heap.size w W → _) := fun W hW => headerCopy_any au rd ba bc bl pa pc pl W (hb.below hW) (hp.below hW)
  have HMC : Hid (∀ (W : World) (ra : Option Addr) (rc : Nat) (ks : List Ct) (xa : Option Addr) (xc : Nat) (xs : List Part) (ya : Option Addr) (yc : Nat) (ys : List Part), Below w.heap.size w W → cvs ks = cvs ls → Same xs bl → Same ys pl → DagAt W ra rc ks → ListAt W xa xc xs → ListAt W ya yc ys → Calls Tryd.prog 16 #[.agg #[.slice ra ls.length rc], .agg #[.int .i64 au, .int .i64 rd, .slice xa bl.length xc, .slice ya pl.length yc]] W fun e w' => (∃ ma mn mc ec, e = .returned (.tuple #[.slice ma mn mc, .int .i64 ec]) ∧ MgQ w' ma mn mc ec (cvs ls) au rd bl pl) ∧ Below W.heap.size W w') := by
    show ∀ W, _
    intro W ra rc ks xa xc xs ya yc ys hW hS hS1 hS2 hD hL1 hL2
    have hlen : ls.length = ks.length := by have := congrArg List.length hS; rw [cvs_length, cvs_length] at this; exact this.symm
    refine (dagMissing_any ks ra _ rc au rd xa _ xc xs ya _ yc ys W hlen hS1.length.symm hS2.length.symm hD hL1 hL2 (hT.below hW)).mono ?_
    rintro e w' ⟨hM, hb'⟩
    rw [hS] at hM
    refine ⟨?_, hb'⟩
    rw [MgAt, missE_same hS1 hS2, bss_same hS2] at hM
    exact MgAt.q hM
  go_region_held3 (fun w' => w'.cell? ⟨w.heap.size, 0, none⟩ = some (.slice sa ls.length cap) ∧ w'.cell? ⟨w.heap.size + 1, 0, none⟩ = some (.int .i64 au) ∧ w'.cell? ⟨w.heap.size + 1, 1, none⟩ = some (.int .i64 rd) ∧ w'.cell? ⟨w.heap.size + 1, 2, none⟩ = some (.slice ba bl.length bc) ∧ w'.cell? ⟨w.heap.size + 1, 3, none⟩ = some (.slice pa pl.length pc)) (go_keep) (first | (go_at_call 16; refine (HMC.out w2 ra rc ks xa xc xs ya yc ys hB2 hS hS1 hS2 (hD1.below hb2) hL1 hL2).mono ?_; rintro e w3 ⟨⟨ma, mn, mc, ec, rfl, HM⟩, hb3⟩; have hC3 := hC2.trans (hb3.mono hC2.size); have z0 := (hC3.cell (p := ⟨w.heap.size, 0, none⟩) l0).trans k0; have z1 := (hC3.cell (p := ⟨w.heap.size + 1, 0, none⟩) l1).trans m0; have z2 := (hC3.cell (p := ⟨w.heap.size + 1, 1, none⟩) l1).trans m1; have z3 := (hC3.cell (p := ⟨w.heap.size + 1, 2, none⟩) l1).trans m2; have z4 := (hC3.cell (p := ⟨w.heap.size + 1, 3, none⟩) l1).trans m3) | (go_at_call 17; refine (HHC.out w1 hB1).mono ?_; rintro e w2 ⟨xa, xc, xs, ya, yc, ys, rfl, hS1, hS2, hL1, hL2, hb2, _, _⟩; have hB2 := hB1.trans (hb2.mono hB1.size); have hC2 := hC1.trans (hb2.mono hC1.size); have y0 := (hC2.cell (p := ⟨w.heap.size, 0, none⟩) l0).trans k0; have y1 := (hC2.cell (p := ⟨w.heap.size + 1, 0, none⟩) l1).trans m0; have y2 := (hC2.cell (p := ⟨w.heap.size + 1, 1, none⟩) l1).trans m1; have y3 := (hC2.cell (p := ⟨w.heap.size + 1, 2, none⟩) l1).trans m2; have y4 := (hC2.cell (p := ⟨w.heap.size + 1, 3, none⟩) l1).trans m3) | (go_at_call 10; refine HDC.mono ?_; rintro e w1 ⟨ra, rc, ks, rfl, hS, hD1, hb1⟩; have hC1 : Below W0.heap.size W0 w1 := below_drew hb1; have hB1 := hA.trans (hC1.mono hA.size); have x0 := (hC1.cell (p := ⟨w.heap.size, 0, none⟩) l0).trans k0; have x1 := (hC1.cell (p := ⟨w.heap.size + 1, 0, none⟩) l1).trans m0; have x2 := (hC1.cell (p := ⟨w.heap.size + 1, 1, none⟩) l1).trans m1; have x3 := (hC1.cell (p := ⟨w.heap.size + 1, 2, none⟩) l1).trans m2; have x4 := (hC1.cell (p := ⟨w.heap.size + 1, 3, none⟩) l1).trans m3))
  all_goals
    have HMM : Hid _ := HM
    clear HM
    have hB3 := hA.trans (hC3.mono hA.size)
    go_wp2_with fail
    refine (missingOf_any ls sa cap au rd ba bc bl pa pc pl w3 (hd.below hB3) (hb.below hB3).list (hp.below hB3).list).mono ?_
    rintro e w4 ⟨hY, hb4⟩
    have hB4 := hB3.trans (hb4.mono hB3.size)
    obtain ⟨na, nn, nc, fc, he, hQ⟩ := MgAt.q hY
    obtain ⟨h1, h2, ms, ns, h3, hS9, hL9, hN9⟩ := MgQ.same HMM.out hQ hb4
    have HC := sameListsL_eq ms ns ma na mc nc w4 hS9 hL9 hN9
    rw [← h3] at HC
    subst h1 h2
    clear hY hQ HMM h3
    subst he
    dsimp only
    go_wp2_with fail
    refine HC.mono ?_
    rintro e w5 ⟨he, hb5⟩
    subst he
    dsimp only
    go_wp2_with fail
    go_ret
    exact ⟨rfl, hB4.trans (hb5.mono hB4.size)⟩
end Go.Proofs.YtgbomdikhidkoaaDoor

namespace Go.Proofs.YtgbomdikhidkoaaDoor.dagMissing
open Go.ChangeShapes Go.WideShapes Go.ChangeAt Go.RowKit

set_option maxRecDepth 100000 in
/-- What the walk gives, for every argument and every world that holds the tables. -/
theorem contract (H : Type) (enc : TypeId × Value → H) (W : World) (base : Nat) (args : Array Value) (ds gs : List (DataW H)) (before : List MemPlace)
    (hval : ∀ (j : Nat) t v, Tryd.f5.params[j]? = some t → args[j]? = some v → Value.okWide Tryd.prog W .any base t v)
    (hW : DataW.Whole enc Tryd.prog Tryd.f5.params.toList Rows.dagMissingSpec.vars false W args.toList ds gs before) (hsz : (DataW.weightsEach Tryd.prog (Tryd.f5.params.toList ++ (OpenSpec.ofChange Rows.dagMissingSpec).bare.plain.varTypes Tryd.prog) (ds ++ gs)).all (· ≤ reachBytes) = true) (hL : laidMetH Tryd.prog Rows.dagMissingRow.laid W) :
    Calls Tryd.prog 5 args W fun e W' => ∃ v, e = .returned v ∧ Rows.dagMissingSpec.post enc Tryd.prog Tryd.f5 false true false false W args v W' := by
  have hW' := hW
  obtain ⟨p, q, hA0, hV, rfl, hfz, hnd⟩ := hW
  have hA : DataW.TrodAll enc Tryd.prog W 0 (fun _ => true) true Tryd.f5.params.toList args.toList ds p := hA0
  rw [Tryd.params5] at hA hval hsz
  obtain ⟨v0, vs0, d0, ds0, p0, q0, hargs, rfl, rfl, h0, r0⟩ := trodAll_cons hA
  obtain ⟨v1, vs1, d1, ds1, p1, q1, rfl, rfl, rfl, h1, r1⟩ := trodAll_cons r0
  obtain ⟨rfl, rfl, rfl⟩ := trodAll_nil r1
  obtain rfl : args = #[v0, v1] := by cases args; simp_all
  obtain ⟨rfl, rfl⟩ := trodVars_none hV
  have k0 := h0
  have lt0 : ∀ x ∈ p0, x.block < W.heap.size := by obtain ⟨m, hm⟩ := k0; exact DataW.trod_lt m _ _ _ hm
  obtain ⟨sa0, cap0, ls0, rfl, q0_0⟩ := open_dag (hval 0 24 v0 rfl rfl) h0 (fit_each hsz (j := 0) rfl rfl)
  have k1 := h1
  have lt1 : ∀ x ∈ p1, x.block < W.heap.size := by obtain ⟨m, hm⟩ := k1; exact DataW.trod_lt m _ _ _ hm
  obtain ⟨au1, rd1, ba1, bc1, bl1, pa1, pc1, pl1, rfl, q1_0, q1_1, q1_2, q1_3, q1_4, q1_5⟩ := open_headerU (hval 1 32 v1 rfl rfl) h1 (fit_each hsz (j := 1) rfl rfl)
  clear hA0
  have hT : Tabs W := tabs_of_laid (by kernel_rfl) (by kernel_rfl) (by kernel_rfl) hL
  refine (dagMissing_walk sa0 cap0 ls0 au1 rd1 ba1 bc1 bl1 pa1 pc1 pl1 W q0_0 q1_0 q1_1 q1_2 q1_3 q1_4 q1_5 hT).mono fun e W' ⟨he, bel⟩ => ?_
  subst he
  exact ⟨_, rfl, _, _, _, [], _, [], hW', trodAll_mk1 (shut_bool Tryd.underlying4 _), (trodAll_cons_mk (Below.trod laidOut (by kernel_rfl) (of_decide_eq_true (by kernel_rfl)) k0 bel lt0) (trodAll_cons_mk (Below.trod laidOut (by kernel_rfl) (of_decide_eq_true (by kernel_rfl)) k1 bel lt1) trodAll_mk0)), rfl, bel.frame _, fun h => by cases h⟩

set_option maxRecDepth 100000 in
theorem laid_met (os : Os) : laidMet Tryd.prog Rows.dagMissingRow.laid ((layTabs (World.holding Tryd.prog os ⟨#[], #[], []⟩)).forCall (fun _ _ => 0) ⟨#[], #[.agg #[.slice none 0 0], .agg #[.int .i64 0, .int .i64 0, .slice none 0 0, .slice none 0 0]], []⟩).memory :=
  laidMet_of_run' 8 (by kernel_rfl) (by kernel_rfl)
set_option maxRecDepth 100000 in
theorem reads (os : Os) {H : Type} (enc : TypeId × Value → H) : ∃ places, DataW.whole enc Tryd.prog ((layTabs (World.holding Tryd.prog os ⟨#[], #[], []⟩)).forCall (fun _ _ => 0) ⟨#[], #[.agg #[.slice none 0 0], .agg #[.int .i64 0, .int .i64 0, .slice none 0 0, .slice none 0 0]], []⟩).memory Tryd.f5.params.toList Rows.dagMissingSpec.vars false (#[.agg #[.slice none 0 0], .agg #[.int .i64 0, .int .i64 0, .slice none 0 0, .slice none 0 0]] : Array Value).toList 8 = some ([.agg [.nil], .agg [.lit (.int .i64 0), .lit (.int .i64 0), .nil, .nil]], [], places) :=
  ⟨[], by kernel_rfl⟩

set_option maxRecDepth 100000 in
theorem lifted (os : Os) (started : os.Started) (H : Type) (enc : TypeId × Value → H) (F : Stop.Interp) :
    ReturnsInHanded {} Tryd.checked os 5 .any ((OpenSpec.ofChange Rows.dagMissingSpec).preRow enc Tryd.prog Tryd.f5 Rows.dagMissingRow.domain false Rows.dagMissingRow.laid) (((OpenSpec.ofChange Rows.dagMissingSpec).at F).post enc Tryd.prog Tryd.f5 false true false false) := by
  obtain ⟨places, hx⟩ := reads os enc
  refine returnsInHanded_of_row (C := Tryd.checked) (s := OpenSpec.ofChange Rows.dagMissingSpec) own started (by kernel_rfl) Tryd.func5
    (witness_row_at (enc := enc) (C := Tryd.checked) false (layTabs (World.holding Tryd.prog os ⟨#[], #[], []⟩)) #[.agg #[.slice none 0 0], .agg #[.int .i64 0, .int .i64 0, .slice none 0 0, .slice none 0 0]] rfl (by kernel_rfl) (by kernel_rfl) (by kernel_rfl)
      (OpenSpec.preRow_of_cond 8 hx (by kernel_rfl) (fun k hk => by cases hk) (by kernel_rfl) (laid_met os))) ?_
  intro W base args ds gs before hval hW _ _ hsz hL _ _
  exact contract H enc W base args ds gs before hval hW hsz hL

set_option maxRecDepth 100000 in
theorem said : Rows.DagMissingSaid :=
  OpenClaim.holds_of_cond 5 Tryd.f5 rfl rfl rfl rfl rfl rfl rfl ⟨rfl, rfl, rfl, rfl, rfl⟩ rfl rfl rfl rfl rfl (by kernel_rfl) Tryd.func5 (by kernel_rfl)
    (of_decide_eq_true (by kernel_rfl)) (by unfold Func.isWrapper; first | (rw [if_pos (by decide +kernel)]; kernel_rfl) | (rw [if_neg (by decide +kernel)]; exact ⟨rfl, rfl⟩))
    (fun os started H enc _ F => by rw [OpenClaim.pre_eq_preRow]; exact lifted os started H enc F)

set_option maxRecDepth 100000 in
theorem plain (f : FuncId) (fn : Func) (hf : Tryd.pinned.checked.prog.funcNamed Rows.dagMissingRow.func = some f) (hfn : Tryd.pinned.checked.prog.funcs[f]? = some fn) :
    false = Tryd.pinned.checked.prog.looks [] ∧ ∀ (j : Nat) t, fn.params[j]? = some t → Tryd.pinned.checked.prog.wantsStandIn t = false := by
  obtain rfl : f = 5 := Option.some.inj ((show Tryd.prog.funcNamed Rows.dagMissingRow.func = some 5 by kernel_rfl).symm.trans hf) |>.symm
  obtain rfl : fn = Tryd.f5 := (Option.some.inj (Tryd.func5.symm.trans hfn)).symm
  refine ⟨by kernel_rfl, fun j t ht => ?_⟩
  rw [Tryd.params5] at ht
  have hm : t = 24 ∨ t = 32 := by simpa using Array.mem_of_getElem? ht
  rcases hm with rfl | rfl
  · exact (show Tryd.prog.wantsStandIn 24 = false by kernel_rfl)
  · exact (show Tryd.prog.wantsStandIn 32 = false by kernel_rfl)

set_option maxRecDepth 100000 in
/-- THE CARD. -/
theorem card : Rows.DagMissingCardSaid :=
  Claim7.holds_tied_plain_at .later [] _ _ _ _ said (fun _ h => by cases h) (by kernel_rfl) (fun _ h => by cases h) dagMissing_row_tie rfl ⟨rfl, rfl⟩ (by kernel_rfl) rfl plain (by kernel_rfl)
end Go.Proofs.YtgbomdikhidkoaaDoor.dagMissing
namespace Go.Proofs.YtgbomdikhidkoaaDoor
set_option maxRecDepth 100000 in
theorem dagMissing_holds : Rows.DagMissingCardSaid := dagMissing.card
#print axioms dagMissing_holds
end Go.Proofs.YtgbomdikhidkoaaDoor
