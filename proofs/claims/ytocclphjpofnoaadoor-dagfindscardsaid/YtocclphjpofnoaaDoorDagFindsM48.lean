/- The law sheaveslaw.DagFinds answers true for every argument, and each argument reads behind the call as it read before: the tied card. Its conditions: the three tables of package blake hold what the program's text lays (the card ties that); the form's own reach. -/
import Derived.Test.YtocclphjpofnoaaDoorApp
import Derived.Test.YtocclphjpofnoaaDoorSx
import Derived.Test.YtocclphjpofnoaaDoorDagFindsM42
import Derived.Test.YtocclphjpofnoaaDoorDagFindsM18
import Derived.Test.YtocclphjpofnoaaDoorCards
import Derived.Test.YtocclphjpofnoaaDoorTie
import Derived.WalkKit
import Derived.ProofKit
import Derived.OpenShut
import Derived.Deep.DeepHandedRow
import Derived.SevenTiedAt
import Derived.Below
namespace Go.Proofs.YtocclphjpofnoaaDoor
open Go.RowKit

set_option maxRecDepth 100000 in
set_option maxHeartbeats 400000 in
theorem octets_any2 (bs : List Int) (sa : Option Addr) (n cap : Nat) (w : World) (hn : n = bs.length) (hs : SliceAt w sa cap bs) (hr : cap ≤ 140737488351232) :
    Calls Tryd.prog 13 #[.slice sa n cap] w fun e w' => ∃ ra rc, e = .returned (.slice ra bs.length rc) ∧ SliceAt w' ra rc bs ∧ Below w.heap.size w w' ∧ (∀ sb so, ra = some ⟨sb, so, none⟩ → w.heap.size ≤ sb) := by
  have hle := hs.le
  go_enter Tryd.func13, Tryd.ntmps13
  go_wp2_with (at_builtin; refine wpList_append_part rfl _ _ rfl w.heap.size _ 0 [] rfl (World.ownsRow_nil _ _ _ _) sa n cap bs rfl hn hs (by omega) (Nat.le_refl _) ?_; intro v1 w1 ho1 hg1)
  obtain ⟨ra, rc, hv, hl, hsl⟩ := owns_form ho1
  have hlt := ho1.lt
  subst hv
  go_ret
  refine ⟨ra, rc, ?_, by simpa using hsl, grown_none hg1, fun sb so e => (hlt sb (by rw [e]; rfl)).1⟩
  simp [hn]
end Go.Proofs.YtocclphjpofnoaaDoor

namespace Go.Proofs.YtocclphjpofnoaaDoor
open Go.RowKit

def zeroCt : Ct := ⟨0, 0, none, 0, [], none, 0, [], none, 0, []⟩
set_option maxRecDepth 100000 in
theorem zeroCt_ls (w : World) : CtLs w zeroCt := ⟨⟨Nat.le_refl _, by decide, by decide, .inl rfl, ⟨.inl rfl, fun p hp => by cases hp⟩⟩, ⟨Nat.le_refl _, by decide, by decide, .inl rfl, ⟨.inl rfl, fun p hp => by cases hp⟩⟩, ⟨.inl rfl⟩⟩
set_option maxRecDepth 100000 in
set_option maxHeartbeats 1000000 in
theorem dagFinds_walk (sa : Option Addr) (cap : Nat) (ls : List Ct) (bs : List Int) (ka : Option Addr) (kc : Nat) (w : World) (hd : DagRd w sa cap ls) (hk : SliceAt w ka kc bs) (_hu : AllU8 bs) (hkc : kc ≤ 140737488351232) (hT : Tabs w) :
    Calls Tryd.prog 4 #[.agg #[.slice sa ls.length cap], .slice ka bs.length kc] w fun e w' => e = .returned (.bool true) ∧ Below w.heap.size w w' := by
  have hA := (Below.refl w.heap.size w).alloc (Nat.le_refl _) (.cells #[.slice sa ls.length cap] 24)
  have r0 := heap_alloc_new w (.cells #[.slice sa ls.length cap] 24)
  go_enter Tryd.func4, Tryd.ntmps4
  go_wp2_with fail
  generalize w.alloc (.cells #[.slice sa ls.length cap] 24) = W0 at hA r0 ⊢
  refine (dagCopy_any ls sa _ cap W0 rfl (hd.below hA)).mono ?_
  rintro e w1 ⟨ra, rc, ks, he, hS, hD1, hb1⟩
  subst he
  dsimp only
  have hlen : ls.length = ks.length := by have := congrArg List.length hS; rw [cvs_length, cvs_length] at this; exact this.symm
  have HS : Hid (cvs ks = cvs ls) := hS
  have HL : Hid (ls.length = ks.length) := hlen
  clear hS hlen
  have hB1 := hA.trans (hb1.mono hA.size)
  go_wp2_with fail
  refine (octets_any2 bs ka _ kc w1 rfl (hk.below hB1) hkc).mono ?_
  rintro e w2 ⟨oa, oc, he, hs2, hb2, _⟩
  subst he
  dsimp only
  have hB2 := hB1.trans (hb2.mono hB1.size)
  go_wp2_with fail
  refine (dagFind_any ks ra _ rc bs oa _ oc w2 HL.out rfl (hD1.below hb2) hs2 (hT.below hB2)).mono ?_
  rintro e w3 ⟨hX, hb3⟩
  rw [HS.out] at hX
  have hB3 := hB2.trans (hb3.mono hB2.size)
  have r1 := (hb1.block _ (lt_of_heap r0)).trans r0
  have r2 := (hb2.block _ (lt_of_heap r1)).trans r1
  have r3 := (hb3.block _ (lt_of_heap r2)).trans r2
  have HX : ∃ (c : Ct) (ec : Int), e = .returned (.tuple #[.agg #[.int .i64 c.au, .int .i64 c.rd, .slice c.ba c.bl.length c.bc, .slice c.pa c.pl.length c.pc, .slice c.va c.vl.length c.vc], .int .i64 ec]) ∧ CtLs w3 c ∧ c.vl.length ≤ 4 ∧ ((dagF (cvs ls) = 12 ∧ ec = 12 ∧ c.v = zeroCt.v) ∨ (dagF (cvs ls) = 0 ∧ pOf (cvs ls) bs = -1 ∧ ec = 8 ∧ c.v = zeroCt.v) ∨ (dagF (cvs ls) = 0 ∧ 0 ≤ pOf (cvs ls) bs ∧ ec = 0 ∧ c.v = cvAt (cvs ls) (pOf (cvs ls) bs).toNat)) := by
    rcases hX with ⟨ec, he, h | h⟩ | ⟨h1, h2, c, he, h3, h4, h5⟩
    · exact ⟨zeroCt, ec, he, zeroCt_ls _, by decide, .inl ⟨h.1, h.2, rfl⟩⟩
    · exact ⟨zeroCt, ec, he, zeroCt_ls _, by decide, .inr (.inl ⟨h.1, h.2.1, h.2.2, rfl⟩)⟩
    · exact ⟨c, 0, he, h4, h5, .inr (.inr ⟨h1, h2, rfl, h3⟩)⟩
  clear hX
  obtain ⟨c, ec, he, hcl, hc4, hcase⟩ := HX
  have HCASE : Hid _ := hcase
  clear hcase
  subst he
  dsimp only
  have hA3 := (Below.refl w3.heap.size w3).alloc (Nat.le_refl _) (.cells #[.int .i64 c.au, .int .i64 c.rd, .slice c.ba c.bl.length c.bc, .slice c.pa c.pl.length c.pc, .slice c.va c.vl.length c.vc] 35)
  have p3 := heap_alloc_new w3 (.cells #[.int .i64 c.au, .int .i64 c.rd, .slice c.ba c.bl.length c.bc, .slice c.pa c.pl.length c.pc, .slice c.va c.vl.length c.vc] 35)
  have r3A := heap_keep (o := .cells #[.int .i64 c.au, .int .i64 c.rd, .slice c.ba c.bl.length c.bc, .slice c.pa c.pl.length c.pc, .slice c.va c.vl.length c.vc] 35) r3
  have b0 := cells_at r3A 0 _ rfl
  go_wp2_with fail
  generalize w3.alloc (.cells #[.int .i64 c.au, .int .i64 c.rd, .slice c.ba c.bl.length c.bc, .slice c.pa c.pl.length c.pc, .slice c.va c.vl.length c.vc] 35) = W3 at hA3 p3 r3A b0 ⊢
  have hB3A := hB3.trans (hA3.mono hB3.size)
  refine (foundIn_any ls sa _ cap bs ka _ kc W3 rfl rfl (hd.below hB3A) (hk.below hB3A)).mono ?_
  rintro e w4 ⟨hY, hb4⟩
  have hB4 := hB3A.trans (hb4.mono hB3A.size)
  have HY : ∃ d : Ct, e = .returned (.tuple #[.agg #[.int .i64 d.au, .int .i64 d.rd, .slice d.ba d.bl.length d.bc, .slice d.pa d.pl.length d.pc, .slice d.va d.vl.length d.vc], .int .i64 ec]) ∧ CtLs w4 d ∧ d.vl.length ≤ 4 ∧ c.v = d.v := by
    rcases HCASE.out with ⟨h1, h2, h3⟩ | ⟨h1, h2, h3, h4⟩ | ⟨h1, h2, h3, h4⟩ <;> rcases hY with ⟨ed, he, g | g⟩ | ⟨g1, g2, d, he, g3, g4, g5⟩
    · exact ⟨zeroCt, by rw [he, g.2, h2]; rfl, zeroCt_ls _, by decide, h3⟩
    · exact absurd (h1.symm.trans g.1) (by decide)
    · exact absurd (h1.symm.trans g1) (by decide)
    · exact absurd (h1.symm.trans g.1) (by decide)
    · exact ⟨zeroCt, by rw [he, g.2.2, h3]; rfl, zeroCt_ls _, by decide, h4⟩
    · omega
    · exact absurd (h1.symm.trans g.1) (by decide)
    · omega
    · exact ⟨d, by rw [he, h3], g4, g5, h4.trans g3.symm⟩
  clear hY
  obtain ⟨d, he, hdl, hd4, hcd⟩ := HY
  have HCD : Hid _ := hcd
  clear hcd
  subst he
  dsimp only
  have p4 := (hb4.block _ (lt_of_heap p3)).trans p3
  have hA4 := (Below.refl w4.heap.size w4).alloc (Nat.le_refl _) (.cells #[.int .i64 d.au, .int .i64 d.rd, .slice d.ba d.bl.length d.bc, .slice d.pa d.pl.length d.pc, .slice d.va d.vl.length d.vc] 35)
  have p4A := heap_keep (o := .cells #[.int .i64 d.au, .int .i64 d.rd, .slice d.ba d.bl.length d.bc, .slice d.pa d.pl.length d.pc, .slice d.va d.vl.length d.vc] 35) p4
  have y0 := cells_at p4A 0 _ rfl
  have y1 := cells_at p4A 1 _ rfl
  have y2 := cells_at p4A 2 _ rfl
  have y3 := cells_at p4A 3 _ rfl
  have y4 := cells_at p4A 4 _ rfl
  clear b0
  go_wp2_with fail
  generalize w4.alloc (.cells #[.int .i64 d.au, .int .i64 d.rd, .slice d.ba d.bl.length d.bc, .slice d.pa d.pl.length d.pc, .slice d.va d.vl.length d.vc] 35) = W4 at hA4 p4A y0 y1 y2 y3 y4 ⊢
  have hB4A := hB4.trans (hA4.mono hB4.size)
  refine (sameCertL_eq c d W4 HCD.out (by omega) (((hcl.below hA3).below hb4).below hA4) (hdl.below hA4)).mono ?_
  rintro e w5 ⟨he, hb5⟩
  subst he
  dsimp only
  go_wp2_with fail
  go_ret
  exact ⟨rfl, hB4A.trans (hb5.mono hB4A.size)⟩
end Go.Proofs.YtocclphjpofnoaaDoor

namespace Go.Proofs.YtocclphjpofnoaaDoor.dagFinds
open Go.ChangeShapes Go.WideShapes Go.ChangeAt Go.RowKit

set_option maxRecDepth 100000 in
/-- What the walk gives, for every argument and every world that holds the tables. -/
theorem contract (H : Type) (enc : TypeId × Value → H) (W : World) (base : Nat) (args : Array Value) (ds gs : List (DataW H)) (before : List MemPlace)
    (hval : ∀ (j : Nat) t v, Tryd.f4.params[j]? = some t → args[j]? = some v → Value.okWide Tryd.prog W .any base t v)
    (hW : DataW.Whole enc Tryd.prog Tryd.f4.params.toList Rows.dagFindsSpec.vars false W args.toList ds gs before) (hsz : (DataW.weightsEach Tryd.prog (Tryd.f4.params.toList ++ (OpenSpec.ofChange Rows.dagFindsSpec).bare.plain.varTypes Tryd.prog) (ds ++ gs)).all (· ≤ reachBytes) = true) (hL : laidMetH Tryd.prog Rows.dagFindsRow.laid W) :
    Calls Tryd.prog 4 args W fun e W' => ∃ v, e = .returned v ∧ Rows.dagFindsSpec.post enc Tryd.prog Tryd.f4 false true false false W args v W' := by
  have hW' := hW
  obtain ⟨p, q, hA0, hV, rfl, hfz, hnd⟩ := hW
  have hA : DataW.TrodAll enc Tryd.prog W 0 (fun _ => true) true Tryd.f4.params.toList args.toList ds p := hA0
  rw [Tryd.params4] at hA hval hsz
  obtain ⟨v0, vs0, d0, ds0, p0, q0, hargs, rfl, rfl, h0, r0⟩ := trodAll_cons hA
  obtain ⟨v1, vs1, d1, ds1, p1, q1, rfl, rfl, rfl, h1, r1⟩ := trodAll_cons r0
  obtain ⟨rfl, rfl, rfl⟩ := trodAll_nil r1
  obtain rfl : args = #[v0, v1] := by cases args; simp_all
  obtain ⟨rfl, rfl⟩ := trodVars_none hV
  have k0 := h0
  have lt0 : ∀ x ∈ p0, x.block < W.heap.size := by obtain ⟨m, hm⟩ := k0; exact DataW.trod_lt m _ _ _ hm
  obtain ⟨sa0, cap0, ls0, rfl, q0_0⟩ := open_dag (hval 0 24 v0 rfl rfl) h0 (fit_each hsz (j := 0) rfl rfl)
  have k1 := h1
  have lt1 : ∀ x ∈ p1, x.block < W.heap.size := by obtain ⟨m, hm⟩ := k1; exact DataW.trod_lt m _ _ _ hm
  obtain ⟨sa1, cap1, bs1, rfl, hs1, hu1⟩ := open_bytes (hval 1 29 v1 rfl rfl) h1
  have hc1 : cap1 ≤ 140737488351232 := by obtain ⟨m, hm⟩ := k1; exact bytes_fit hm (fit_each hsz (j := 1) rfl rfl) rfl
  clear hA0
  have hT : Tabs W := tabs_of_laid (by kernel_rfl) (by kernel_rfl) (by kernel_rfl) hL
  refine (dagFinds_walk sa0 cap0 ls0 bs1 sa1 cap1 W q0_0 hs1 hu1 hc1 hT).mono fun e W' ⟨he, bel⟩ => ?_
  subst he
  exact ⟨_, rfl, _, _, _, [], _, [], hW', trodAll_mk1 (shut_bool Tryd.underlying4 _), (trodAll_cons_mk (Below.trod laidOut (by kernel_rfl) (of_decide_eq_true (by kernel_rfl)) k0 bel lt0) (trodAll_cons_mk (Below.trod laidOut (by kernel_rfl) (of_decide_eq_true (by kernel_rfl)) k1 bel lt1) trodAll_mk0)), rfl, bel.frame _, fun h => by cases h⟩

set_option maxRecDepth 100000 in
theorem laid_met (os : Os) : laidMet Tryd.prog Rows.dagFindsRow.laid ((layTabs (World.holding Tryd.prog os ⟨#[], #[], []⟩)).forCall (fun _ _ => 0) ⟨#[], #[.agg #[.slice none 0 0], .slice none 0 0], []⟩).memory :=
  laidMet_of_run' 8 (by kernel_rfl) (by kernel_rfl)
set_option maxRecDepth 100000 in
theorem reads (os : Os) {H : Type} (enc : TypeId × Value → H) : ∃ places, DataW.whole enc Tryd.prog ((layTabs (World.holding Tryd.prog os ⟨#[], #[], []⟩)).forCall (fun _ _ => 0) ⟨#[], #[.agg #[.slice none 0 0], .slice none 0 0], []⟩).memory Tryd.f4.params.toList Rows.dagFindsSpec.vars false (#[.agg #[.slice none 0 0], .slice none 0 0] : Array Value).toList 8 = some ([.agg [.nil], .nil], [], places) :=
  ⟨[], by kernel_rfl⟩

set_option maxRecDepth 100000 in
theorem lifted (os : Os) (started : os.Started) (H : Type) (enc : TypeId × Value → H) (F : Stop.Interp) :
    ReturnsInHanded {} Tryd.checked os 4 .any ((OpenSpec.ofChange Rows.dagFindsSpec).preRow enc Tryd.prog Tryd.f4 Rows.dagFindsRow.domain false Rows.dagFindsRow.laid) (((OpenSpec.ofChange Rows.dagFindsSpec).at F).post enc Tryd.prog Tryd.f4 false true false false) := by
  obtain ⟨places, hx⟩ := reads os enc
  refine returnsInHanded_of_row (C := Tryd.checked) (s := OpenSpec.ofChange Rows.dagFindsSpec) own started (by kernel_rfl) Tryd.func4
    (witness_row_at (enc := enc) (C := Tryd.checked) false (layTabs (World.holding Tryd.prog os ⟨#[], #[], []⟩)) #[.agg #[.slice none 0 0], .slice none 0 0] rfl (by kernel_rfl) (by kernel_rfl) (by kernel_rfl)
      (OpenSpec.preRow_of_cond 8 hx (by kernel_rfl) (fun k hk => by cases hk) (by kernel_rfl) (laid_met os))) ?_
  intro W base args ds gs before hval hW _ _ hsz hL _ _
  exact contract H enc W base args ds gs before hval hW hsz hL

set_option maxRecDepth 100000 in
theorem said : Rows.DagFindsSaid :=
  OpenClaim.holds_of_cond 4 Tryd.f4 rfl rfl rfl rfl rfl rfl rfl ⟨rfl, rfl, rfl, rfl, rfl⟩ rfl rfl rfl rfl rfl (by kernel_rfl) Tryd.func4 (by kernel_rfl)
    (of_decide_eq_true (by kernel_rfl)) (by unfold Func.isWrapper; first | (rw [if_pos (by decide +kernel)]; kernel_rfl) | (rw [if_neg (by decide +kernel)]; exact ⟨rfl, rfl⟩))
    (fun os started H enc _ F => by rw [OpenClaim.pre_eq_preRow]; exact lifted os started H enc F)

set_option maxRecDepth 100000 in
theorem plain (f : FuncId) (fn : Func) (hf : Tryd.pinned.checked.prog.funcNamed Rows.dagFindsRow.func = some f) (hfn : Tryd.pinned.checked.prog.funcs[f]? = some fn) :
    false = Tryd.pinned.checked.prog.looks [] ∧ ∀ (j : Nat) t, fn.params[j]? = some t → Tryd.pinned.checked.prog.wantsStandIn t = false := by
  obtain rfl : f = 4 := Option.some.inj ((show Tryd.prog.funcNamed Rows.dagFindsRow.func = some 4 by kernel_rfl).symm.trans hf) |>.symm
  obtain rfl : fn = Tryd.f4 := (Option.some.inj (Tryd.func4.symm.trans hfn)).symm
  refine ⟨by kernel_rfl, fun j t ht => ?_⟩
  rw [Tryd.params4] at ht
  have hm : t = 24 ∨ t = 29 := by simpa using Array.mem_of_getElem? ht
  rcases hm with rfl | rfl
  · exact (show Tryd.prog.wantsStandIn 24 = false by kernel_rfl)
  · exact (show Tryd.prog.wantsStandIn 29 = false by kernel_rfl)

set_option maxRecDepth 100000 in
/-- THE CARD. -/
theorem card : Rows.DagFindsCardSaid :=
  Claim7.holds_tied_plain_at .later [] _ _ _ _ said (fun _ h => by cases h) (by kernel_rfl) (fun _ h => by cases h) dagFinds_row_tie rfl ⟨rfl, rfl⟩ (by kernel_rfl) rfl plain (by kernel_rfl)
end Go.Proofs.YtocclphjpofnoaaDoor.dagFinds
namespace Go.Proofs.YtocclphjpofnoaaDoor
set_option maxRecDepth 100000 in
theorem dagFinds_holds : Rows.DagFindsCardSaid := dagFinds.card
#print axioms dagFinds_holds
end Go.Proofs.YtocclphjpofnoaaDoor
