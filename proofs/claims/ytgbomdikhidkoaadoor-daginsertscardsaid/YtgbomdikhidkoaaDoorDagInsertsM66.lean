/- The law sheaveslaw.DagInserts answers true for every argument, and each argument reads behind the call as it read before: the tied card. Its conditions: the three tables of package blake hold what the program's text lays (the card ties that); the form's own reach. -/
import Derived.Test.YtgbomdikhidkoaaDoorDagInsertsM60
import Derived.Deep.RegionHeld3
import Derived.Test.YtgbomdikhidkoaaDoorDagInsertsM42
import Derived.Test.YtgbomdikhidkoaaDoorCards
import Derived.Test.YtgbomdikhidkoaaDoorTie
import Derived.WalkKit
import Derived.ProofKit
import Derived.OpenShut
import Derived.Deep.DeepHandedRow
import Derived.SevenTiedAt
import Derived.Below
namespace Go.Proofs.YtgbomdikhidkoaaDoor
open Go.RowKit

set_option maxRecDepth 100000 in
set_option maxHeartbeats 1000000 in
theorem sameCertsL_eq (xs ys : List Ct) (sa sb : Option Addr) (c d : Nat) (w : World) (hS : cvs xs = cvs ys) (hl : ys.length ≤ 3000000000000000000) (hvl : ∀ c ∈ ys, c.vl.length ≤ 9000000000000000000) (ha : CertsAt w sa xs) (hb : CertsAt w sb ys) (hax : ∀ c ∈ xs, CtLs w c) (hby : ∀ c ∈ ys, CtLs w c) :
    Calls Tryd.prog 23 #[.slice sa ys.length c, .slice sb ys.length d] w fun e w' => e = .returned (.bool true) ∧ Below w.heap.size w w' := by
  have hlen : xs.length = ys.length := by have := congrArg List.length hS; rw [cvs_length, cvs_length] at this; exact this
  have HL : Hid (xs.length = ys.length) := hlen
  have HS : Hid (cvs xs = cvs ys) := hS
  clear hlen hS
  go_enter Tryd.func23, Tryd.ntmps23
  go_wp2_with fail
  go_loopw [5] (fun j wr => ∃ k : Nat, k ≤ ys.length ∧ j = .int .i64 k ∧ Below w.heap.size w wr) (fun j _ => ys.length - (intOf j).toNat)
  case atStart => exact ⟨0, Nat.zero_le _, rfl, Below.refl _ _⟩
  case round =>
    obtain ⟨k, hk, rfl, hbw⟩ := hrel
    by_cases hlt2 : k < ys.length
    · have hlt : k < xs.length := by have := HL.out; omega
      obtain ⟨ab, ao, rfl, a0, a1, a2, a3, a4⟩ := (ha.below hbw).at k hlt
      obtain ⟨bb, bo, rfl, b0, b1, b2, b3, b4⟩ := (hb.below hbw).at k hlt2
      have hx := (hax (xs[k]) (List.getElem_mem hlt)).below hbw
      have hy := (hby (ys[k]) (List.getElem_mem hlt2)).below hbw
      have hyv := hvl (ys[k]) (List.getElem_mem hlt2)
      have hv : (xs[k]).v = (ys[k]).v := by
        rw [← cvAt_get xs k hlt, ← cvAt_get ys k hlt2, HS.out]
      have hltI : (k : Int) < ys.length := by omega
      have h0 : (0 : Int) ≤ k := by omega
      have lab : ab < wr.heap.size := block_lt_of_cell a0
      have lbb : bb < wr.heap.size := block_lt_of_cell b0
      have HC := sameCertL_eq (xs[k]) (ys[k]) wr.drew hv hyv (hx.below (Below.refl _ _).drew) (hy.below (Below.refl _ _).drew)
      clear hv hx hy hyv
      generalize xs[k] = p at *
      generalize ys[k] = q at *
      go_wp2_with fail
      go_region_held3 (fun w' => w'.cell? ⟨ab, ao + k * 5, none⟩ = some (.int .i64 p.au) ∧ w'.cell? ⟨ab, ao + k * 5 + 1, none⟩ = some (.int .i64 p.rd) ∧ w'.cell? ⟨ab, ao + k * 5 + 2, none⟩ = some (.slice p.ba p.bl.length p.bc) ∧ w'.cell? ⟨ab, ao + k * 5 + 3, none⟩ = some (.slice p.pa p.pl.length p.pc) ∧ w'.cell? ⟨ab, ao + k * 5 + 4, none⟩ = some (.slice p.va p.vl.length p.vc) ∧ w'.cell? ⟨bb, bo + k * 5, none⟩ = some (.int .i64 q.au) ∧ w'.cell? ⟨bb, bo + k * 5 + 1, none⟩ = some (.int .i64 q.rd) ∧ w'.cell? ⟨bb, bo + k * 5 + 2, none⟩ = some (.slice q.ba q.bl.length q.bc) ∧ w'.cell? ⟨bb, bo + k * 5 + 3, none⟩ = some (.slice q.pa q.pl.length q.pc) ∧ w'.cell? ⟨bb, bo + k * 5 + 4, none⟩ = some (.slice q.va q.vl.length q.vc)) (go_keep) ((go_at_call 15; refine HC.mono ?_; rintro e w2 ⟨rfl, hb2⟩; replace hb2 := below_drew hb2; have c0 := (hb2.cell (p := ⟨ab, ao + k * 5, none⟩) lab).trans a0; have c1 := (hb2.cell (p := ⟨ab, ao + k * 5 + 1, none⟩) lab).trans a1; have c2 := (hb2.cell (p := ⟨ab, ao + k * 5 + 2, none⟩) lab).trans a2; have c3 := (hb2.cell (p := ⟨ab, ao + k * 5 + 3, none⟩) lab).trans a3; have c4 := (hb2.cell (p := ⟨ab, ao + k * 5 + 4, none⟩) lab).trans a4; have d0 := (hb2.cell (p := ⟨bb, bo + k * 5, none⟩) lbb).trans b0; have d1 := (hb2.cell (p := ⟨bb, bo + k * 5 + 1, none⟩) lbb).trans b1; have d2 := (hb2.cell (p := ⟨bb, bo + k * 5 + 2, none⟩) lbb).trans b2; have d3 := (hb2.cell (p := ⟨bb, bo + k * 5 + 3, none⟩) lbb).trans b3; have d4 := (hb2.cell (p := ⟨bb, bo + k * 5 + 4, none⟩) lbb).trans b4))
      all_goals
        go_wp2_with fail
        go_roundw
        case rel =>
          have hR : ∃ k' : Nat, k' ≤ ys.length ∧ (Value.int .i64 ((k : Int) + 1)) = .int .i64 k' ∧ Below w.heap.size w w2 := ⟨k + 1, by omega, by go_num, hbw.trans (hb2.mono hbw.size)⟩
          first | exact hR | ((repeat apply Exists.intro); exact ⟨hR, rfl⟩)
        case measure => simp [intOf]; omega
    · obtain rfl : k = ys.length := by omega
      have hltI : ¬ (ys.length : Int) < ys.length := by omega
      go_wp2_with fail
      go_ret
      exact ⟨rfl, hbw⟩
end Go.Proofs.YtgbomdikhidkoaaDoor

namespace Go.Proofs.YtgbomdikhidkoaaDoor
open Go.RowKit

/-- What Insert answers, its parts apart. -/
def InQ (B : Nat) (w' : World) (ra : Option Addr) (rn rc : Nat) (ec : Int) (l : List CV) (c : CV) : Prop :=
  (insE l c ≠ 0 ∧ ec = insE l c ∧ ra = none ∧ rn = 0 ∧ rc = 0) ∨ (insE l c = 0 ∧ ec = 0 ∧ ∃ ks, rn = List.length ks ∧ cvs ks = l ++ [c] ∧ DagAt w' ra rc ks ∧ (∀ sb so, ra = some ⟨sb, so, none⟩ → B ≤ sb) ∧ ∀ k ∈ ks, ∀ q, CtIn k q → B ≤ q)
set_option maxRecDepth 100000 in
theorem InAt.q {B : Nat} {w' : World} {e : Ending} {l : List CV} {c : CV} (h : InAt B w' e l c) : ∃ ra rn rc ec, e = .returned (.tuple #[.agg #[.slice ra rn rc], .int .i64 ec]) ∧ InQ B w' ra rn rc ec l c := by
  rcases h with ⟨h1, h2⟩ | ⟨h1, a, b, ks, h2, h3⟩
  · exact ⟨none, 0, 0, _, h2, .inl ⟨h1, rfl, rfl, rfl, rfl⟩⟩
  · exact ⟨a, _, b, 0, h2, .inr ⟨h1, rfl, ks, rfl, h3⟩⟩
set_option maxRecDepth 100000 in
theorem InQ.far {B : Nat} {w : World} {ra : Option Addr} {rn rc : Nat} {ec : Int} {l : List CV} {c : CV} (h : InQ B w ra rn rc ec l c) (b j : Nat) (x : Value) (hb : b < B) : InQ B (w.setCell ⟨b, j, none⟩ x) ra rn rc ec l c := by
  rcases h with h | ⟨h1, h2, ks, h3, h4, h5, h6, h7⟩
  · exact .inl h
  · exact .inr ⟨h1, h2, ks, h3, h4, h5.far b j x (fun sb so e => by have := h6 sb so e; omega) (fun k hk q hq => by have := h7 k hk q hq; omega), h6, h7⟩
set_option maxRecDepth 100000 in
theorem InQ.below {B : Nat} {w w' : World} {ra : Option Addr} {rn rc : Nat} {ec : Int} {l : List CV} {c : CV} (h : InQ B w ra rn rc ec l c) (hb : Below w.heap.size w w') : InQ B w' ra rn rc ec l c := by
  rcases h with h | ⟨h1, h2, ks, h3, h4, h5, h6, h7⟩
  · exact .inl h
  · exact .inr ⟨h1, h2, ks, h3, h4, h5.below hb, h6, h7⟩
set_option maxRecDepth 100000 in
theorem InQ.mono {B B' : Nat} {w : World} {ra : Option Addr} {rn rc : Nat} {ec : Int} {l : List CV} {c : CV} (h : InQ B w ra rn rc ec l c) (hb : B' ≤ B) : InQ B' w ra rn rc ec l c := by
  rcases h with h | ⟨h1, h2, ks, h3, h4, h5, h6, h7⟩
  · exact .inl h
  · exact .inr ⟨h1, h2, ks, h3, h4, h5, fun sb so e => Nat.le_trans hb (h6 sb so e), fun k hk q hq => Nat.le_trans hb (h7 k hk q hq)⟩
set_option maxRecDepth 100000 in
theorem nilDag (w : World) : DagAt w none 0 [] := ⟨Nat.le_refl _, by decide, by decide, .inl rfl, ⟨.inl rfl⟩, fun p hp => by cases hp⟩
set_option maxRecDepth 100000 in
theorem InQ.same {B B' : Nat} {w w' : World} {ra na : Option Addr} {rn rc nn nc : Nat} {ec fc : Int} {l : List CV} {c : CV} (h : InQ B w ra rn rc ec l c) (g : InQ B' w' na nn nc fc l c) (hb : Below w.heap.size w w') : ec = fc ∧ rn = nn ∧ ∃ ks ms, nn = List.length ms ∧ cvs ks = cvs ms ∧ DagAt w' ra rc ks ∧ DagAt w' na nc ms := by
  rcases h with ⟨h1, h2, h3, h4, h5⟩ | ⟨h1, h2, ks, h3, h4, h5, _⟩ <;> rcases g with ⟨g1, g2, g3, g4, g5⟩ | ⟨g1, g2, ms, g3, g4, g5, _⟩
  · subst h3 h4 h5 g3 g4 g5
    exact ⟨h2.trans g2.symm, rfl, [], [], rfl, rfl, nilDag _, nilDag _⟩
  · exact absurd g1 h1
  · exact absurd h1 g1
  · have hs : cvs ks = cvs ms := h4.trans g4.symm
    have hl := congrArg List.length hs
    rw [cvs_length, cvs_length] at hl
    exact ⟨h2.trans g2.symm, by rw [h3, g3, hl], ks, ms, g3, hs, h5.below hb, g5⟩
set_option maxRecDepth 100000 in
theorem CtRd.ls {w : World} {c : Ct} (h : CtRd w c) : CtLs w c := ⟨h.rb.list, h.rp.list, h.nums.ints⟩
set_option maxRecDepth 100000 in
set_option maxHeartbeats 2000000 in
theorem dagInserts_walk (sa : Option Addr) (cap : Nat) (ls : List Ct) (c : Ct) (w : World) (hd : DagRd w sa cap ls) (hc : CtRd w c) (hT : Tabs w) :
    Calls Tryd.prog 6 #[.agg #[.slice sa ls.length cap], .agg #[.int .i64 c.au, .int .i64 c.rd, .slice c.ba c.bl.length c.bc, .slice c.pa c.pl.length c.pc, .slice c.va c.vl.length c.vc]] w fun e w' => e = .returned (.bool true) ∧ Below w.heap.size w w' := by
  have hA : Below w.heap.size w ((w.alloc (.cells #[.slice sa ls.length cap] 24)).alloc (.cells #[.int .i64 c.au, .int .i64 c.rd, .slice c.ba c.bl.length c.bc, .slice c.pa c.pl.length c.pc, .slice c.va c.vl.length c.vc] 35)) := ((Below.refl _ _).alloc (Nat.le_refl _) _).alloc (by rw [size_alloc]; omega) _
  have q0 := heap_alloc2_old w (.cells #[.slice sa ls.length cap] 24) (.cells #[.int .i64 c.au, .int .i64 c.rd, .slice c.ba c.bl.length c.bc, .slice c.pa c.pl.length c.pc, .slice c.va c.vl.length c.vc] 35)
  have q1 : ((w.alloc (.cells #[.slice sa ls.length cap] 24)).alloc (.cells #[.int .i64 c.au, .int .i64 c.rd, .slice c.ba c.bl.length c.bc, .slice c.pa c.pl.length c.pc, .slice c.va c.vl.length c.vc] 35)).heap[w.heap.size + 1]? = some (.cells #[.int .i64 c.au, .int .i64 c.rd, .slice c.ba c.bl.length c.bc, .slice c.pa c.pl.length c.pc, .slice c.va c.vl.length c.vc] 35 (0, 0)) := by
    have := heap_alloc_new (w.alloc (.cells #[.slice sa ls.length cap] 24)) (.cells #[.int .i64 c.au, .int .i64 c.rd, .slice c.ba c.bl.length c.bc, .slice c.pa c.pl.length c.pc, .slice c.va c.vl.length c.vc] 35)
    rw [size_alloc] at this; exact this
  go_enter Tryd.func6, Tryd.ntmps6
  go_wp2_with fail
  generalize (w.alloc (.cells #[.slice sa ls.length cap] 24)).alloc (.cells #[.int .i64 c.au, .int .i64 c.rd, .slice c.ba c.bl.length c.bc, .slice c.pa c.pl.length c.pc, .slice c.va c.vl.length c.vc] 35) = W0 at hA q0 q1 ⊢
  refine (dagCopy_any ls sa _ cap W0 rfl (hd.below hA)).mono ?_
  rintro e w1 ⟨ra, rc, ks, he, hS, hD1, hb1⟩
  subst he
  dsimp only
  have HS : Hid (cvs ks = cvs ls) := hS
  have HL : Hid (ls.length = ks.length) := by
    show _ = _
    have := congrArg List.length hS; rw [cvs_length, cvs_length] at this; exact this.symm
  clear hS
  have hB1 := hA.trans (hb1.mono hA.size)
  have hA1 := (Below.refl w1.heap.size w1).alloc (Nat.le_refl _) (.cells #[.slice ra ls.length rc] 24)
  have z1 := heap_alloc_new w1 (.cells #[.slice ra ls.length rc] 24)
  have r0 := heap_keep (o := .cells #[.slice ra ls.length rc] 24) ((hb1.block _ (lt_of_heap q0)).trans q0)
  have r1 := heap_keep (o := .cells #[.slice ra ls.length rc] 24) ((hb1.block _ (lt_of_heap q1)).trans q1)
  have HentC : Hid _ := enters_of Tryd.func21 (by kernel_rfl) rfl
  have HentI : Hid _ := enters_of Tryd.func20 (by kernel_rfl) rfl
  go_wp2_with fail
  generalize w1.alloc (.cells #[.slice ra ls.length rc] 24) = W1 at hA1 z1 r0 r1 ⊢
  have hB1A := hB1.trans (hA1.mono hB1.size)
  have zc := cells_at z1 0 _ rfl
  have n0 := cells_at r1 0 _ rfl
  have n1 := cells_at r1 1 _ rfl
  have n2 := cells_at r1 2 _ rfl
  have n3 := cells_at r1 3 _ rfl
  have n4 := cells_at r1 4 _ rfl
  have HIN : Hid (∀ (W : World) (x : Ct), Below W1.heap.size W1 W → x.v = c.v → CtAt W x → Calls Tryd.prog 20 #[.agg #[.slice ra ls.length rc], .agg #[.int .i64 x.au, .int .i64 x.rd, .slice x.ba x.bl.length x.bc, .slice x.pa x.pl.length x.pc, .slice x.va x.vl.length x.vc]] W fun e w' => ∃ u, e = .returned u ∧ ∃ pa pn pc ec, u = .tuple #[.agg #[.slice pa pn pc], .int .i64 ec] ∧ InQ W.heap.size w' pa pn pc ec (cvs ls) c.v ∧ Below W.heap.size W w') := by
    show ∀ W, _
    intro W x hW hxv hxa
    refine (dagInsert_any ks ra _ rc x W HL.out ((hD1.below hA1).below hW) hxa (hT.below (hB1A.trans (hW.mono hB1A.size)))).mono ?_
    rintro e w' ⟨hI, hb'⟩
    rw [HS.out, hxv] at hI
    obtain ⟨pa, pn, pc, ec, he, hQ⟩ := hI.q
    exact ⟨_, he, pa, pn, pc, ec, rfl, hQ, hb'⟩
  have HCC : Hid (∀ W : World, Below W1.heap.size W1 W → Calls Tryd.prog 21 #[.agg #[.int .i64 c.au, .int .i64 c.rd, .slice c.ba c.bl.length c.bc, .slice c.pa c.pl.length c.pc, .slice c.va c.vl.length c.vc]] W fun e w' => ∃ u, e = .returned u ∧ ∃ x : Ct, u = .agg #[.int .i64 x.au, .int .i64 x.rd, .slice x.ba x.bl.length x.bc, .slice x.pa x.pl.length x.pc, .slice x.va x.vl.length x.vc] ∧ x.v = c.v ∧ CtAt w' x ∧ Below W.heap.size W w') := by
    show ∀ W, _
    intro W hW
    refine (certCopy_ct c W (hc.below (hB1A.trans (hW.mono hB1A.size)))).mono ?_
    rintro e w' ⟨x, he, h1, h2, _, h4⟩
    exact ⟨_, he, x, rfl, h1, h2, h4⟩
  have hAZ := (Below.refl W1.heap.size W1).alloc (Nat.le_refl _) (.cells #[.slice none 0 0] 24)
  have zZ := heap_keep (o := .cells #[.slice none 0 0] 24) z1
  have zcZ := cells_at zZ 0 _ rfl
  have rZ := heap_keep (o := .cells #[.slice none 0 0] 24) r1
  have nZ0 := cells_at rZ 0 _ rfl
  have nZ1 := cells_at rZ 1 _ rfl
  have nZ2 := cells_at rZ 2 _ rfl
  have nZ3 := cells_at rZ 3 _ rfl
  have nZ4 := cells_at rZ 4 _ rfl
  have oZ := heap_alloc_new W1 (.cells #[.slice none 0 0] 24)
  go_region_law (first
    | (refine step_calls rfl 20 _ _ rfl [.agg #[.slice ra ls.length rc], .agg #[.int .i64 x.au, .int .i64 x.rd, .slice x.ba x.bl.length x.bc, .slice x.pa x.pl.length x.pc, .slice x.va x.vl.length x.vc]] rfl HentI.out (fun u w9 => ∃ pa pn pc ec, u = .tuple #[.agg #[.slice pa pn pc], .int .i64 ec] ∧ InQ w2.heap.size w9 pa pn pc ec (cvs ls) c.v ∧ Below w2.heap.size w2 w9) (HIN.out w2 x hb2 hxv hxa) ?_; rintro u w3 ⟨pa, pn, pc, ec, rfl, hQ, hb3⟩; first | (have o3 := (hb3.block _ (lt_of_heap o2)).trans o2; have oc3 := cells_at o3 0 _ rfl; have of3 := frozen_at o3 0) | skip)
    | (refine step_calls rfl 20 _ _ rfl [.agg #[.slice ra ls.length rc], .agg #[.int .i64 x.au, .int .i64 x.rd, .slice x.ba x.bl.length x.bc, .slice x.pa x.pl.length x.pc, .slice x.va x.vl.length x.vc]] rfl HentI.out (fun u w9 => ∃ pa pn pc ec, u = .tuple #[.agg #[.slice pa pn pc], .int .i64 ec] ∧ InQ (w2.alloc (.cells #[.slice none 0 0] 24)).heap.size w9 pa pn pc ec (cvs ls) c.v ∧ Below (w2.alloc (.cells #[.slice none 0 0] 24)).heap.size (w2.alloc (.cells #[.slice none 0 0] 24)) w9) (HIN.out (w2.alloc (.cells #[.slice none 0 0] 24)) x (hb2.alloc hb2.size _) hxv (hxa.below ((Below.refl _ _).alloc (Nat.le_refl _) _))) ?_; rintro u w3 ⟨pa, pn, pc, ec, rfl, hQ, hb3⟩; have o3 := (hb3.block _ (lt_of_heap (heap_alloc_new w2 (.cells #[.slice none 0 0] 24)))).trans (heap_alloc_new w2 (.cells #[.slice none 0 0] 24)); have oc3 := cells_at o3 0 _ rfl; have of3 := frozen_at o3 0)
    | (refine step_calls rfl 21 _ _ rfl [.agg #[.int .i64 c.au, .int .i64 c.rd, .slice c.ba c.bl.length c.bc, .slice c.pa c.pl.length c.pc, .slice c.va c.vl.length c.vc]] rfl HentC.out (fun u w9 => ∃ x : Ct, u = .agg #[.int .i64 x.au, .int .i64 x.rd, .slice x.ba x.bl.length x.bc, .slice x.pa x.pl.length x.pc, .slice x.va x.vl.length x.vc] ∧ x.v = c.v ∧ CtAt w9 x ∧ Below W1.heap.size W1 w9) ((HCC.out W1.drew (Below.refl _ _).drew).mono (fun e w9 ⟨u, he, x, h0, h1, h2, h4⟩ => ⟨u, he, x, h0, h1, h2, below_drew h4⟩)) ?_; rintro u w2 ⟨x, rfl, hxv, hxa, hb2⟩; have zc2 := cells_at ((hb2.block _ (lt_of_heap z1)).trans z1) 0 _ rfl; have zc2Z := cells_at (heap_keep (o := .cells #[.slice none 0 0] 24) ((hb2.block _ (lt_of_heap z1)).trans z1)) 0 _ rfl)
    | (refine step_calls rfl 21 _ _ rfl [.agg #[.int .i64 c.au, .int .i64 c.rd, .slice c.ba c.bl.length c.bc, .slice c.pa c.pl.length c.pc, .slice c.va c.vl.length c.vc]] rfl HentC.out (fun u w9 => ∃ x : Ct, u = .agg #[.int .i64 x.au, .int .i64 x.rd, .slice x.ba x.bl.length x.bc, .slice x.pa x.pl.length x.pc, .slice x.va x.vl.length x.vc] ∧ x.v = c.v ∧ CtAt w9 x ∧ Below (W1.alloc (.cells #[.slice none 0 0] 24)).heap.size (W1.alloc (.cells #[.slice none 0 0] 24)) w9) ((HCC.out (W1.alloc (.cells #[.slice none 0 0] 24)).drew hAZ.drew).mono (fun e w9 ⟨u, he, x, h0, h1, h2, h4⟩ => ⟨u, he, x, h0, h1, h2, below_drew h4⟩)) ?_; rintro u w2 ⟨x, rfl, hxv, hxa, hb2Z⟩; have hb2 := hAZ.trans (hb2Z.mono hAZ.size); have o2 := (hb2Z.block _ (lt_of_heap oZ)).trans oZ; have zc2 := cells_at ((hb2Z.block _ (lt_of_heap zZ)).trans zZ) 0 _ rfl))
  all_goals
    have hb13 : Below W1.heap.size W1 w3 := by
      first
        | exact hb2.trans (hb3.mono hb2.size)
        | exact hb2.trans ((below_alloc hb3).mono hb2.size)
    first
      | (have oX := heap_setCell_same _ _ 0 _ _ (.slice pa pn pc) o3
         have hX := hb13.setCell (p := ⟨w2.heap.size, 0, none⟩) hb2.size (.slice pa pn pc)
         have hQX := hQ.far w2.heap.size 0 (.slice pa pn pc) (by rw [size_alloc]; omega)
         generalize w3.setCell ⟨w2.heap.size, 0, none⟩ (.slice pa pn pc) = X at oX hX hQX ⊢
         generalize w2.heap.size = B at oX ⊢
         have hOK : X = X := rfl)
      | (have oX := heap_setCell_same _ _ 0 _ _ (.slice pa pn pc) o3
         have hX := hb13.setCell (p := ⟨W1.heap.size, 0, none⟩) (Nat.le_refl _) (.slice pa pn pc)
         have hQX := hQ.far W1.heap.size 0 (.slice pa pn pc) (lt_of_heap o2)
         generalize w3.setCell ⟨W1.heap.size, 0, none⟩ (.slice pa pn pc) = X at oX hX hQX ⊢
         generalize hBe : W1.heap.size = B at oX ⊢
         have hOK : X = X := rfl)
      | (have oX := heap_alloc_new w3 (.cells #[.slice pa pn pc] 24)
         have hX := hb13.alloc hb13.size (.cells #[.slice pa pn pc] 24)
         have hQX := hQ.below ((Below.refl w3.heap.size w3).alloc (Nat.le_refl _) (.cells #[.slice pa pn pc] 24))
         generalize w3.alloc (.cells #[.slice pa pn pc] 24) = X at oX hX hQX ⊢
         generalize w3.heap.size = B at oX ⊢
         have hOK : X = X := rfl)
    clear hOK
    have x0 := (hX.block _ (lt_of_heap r0)).trans r0
    have x1 := (hX.block _ (lt_of_heap r1)).trans r1
    have xz := (hX.block _ (lt_of_heap z1)).trans z1
    have g0 := cells_at x0 0 _ rfl
    have m0 := cells_at x1 0 _ rfl
    have m1 := cells_at x1 1 _ rfl
    have m2 := cells_at x1 2 _ rfl
    have m3 := cells_at x1 3 _ rfl
    have m4 := cells_at x1 4 _ rfl
    have hBX := hB1A.trans (hX.mono hB1A.size)
    have HQX : Hid _ := hQX
    clear hQX hQ
    go_wp2_with fail
    refine (insertedIn_any ls sa cap c X (hd.below hBX) (hc.below hBX)).mono ?_
    rintro e w4 ⟨hI, hb4⟩
    obtain ⟨na, nn, nc, fc, he, hQ4⟩ := hI.q
    obtain ⟨h1, h2, us, ms, h3, hSU, hDU, hDM⟩ := InQ.same HQX.out hQ4 hb4
    have H3 : Hid (pn = ms.length) := h2.trans h3
    have he' : e = .returned (.tuple #[.agg #[.slice na pn nc], .int .i64 ec]) := by rw [he, h1, h2]
    clear hI he hQ4 HQX h1 h2 h3
    subst he'
    dsimp only
    clear g0 m0 m1 m2 m3 m4
    have hB4 := hBX.trans (hb4.mono hBX.size)
    have hA4 := (Below.refl w4.heap.size w4).alloc (Nat.le_refl _) (.cells #[.slice na pn nc] 24)
    have y4 := heap_alloc_new w4 (.cells #[.slice na pn nc] 24)
    have o4 := heap_keep (o := .cells #[.slice na pn nc] 24) ((hb4.block _ (lt_of_heap oX)).trans oX)
    have z4 := heap_keep (o := .cells #[.slice na pn nc] 24) ((hb4.block _ (lt_of_heap xz)).trans xz)
    have d4 := heap_keep (o := .cells #[.slice na pn nc] 24) ((hb4.block _ (lt_of_heap x0)).trans x0)
    have yc := cells_at y4 0 _ rfl
    have oc := cells_at o4 0 _ rfl
    go_wp2_with fail
    generalize w4.alloc (.cells #[.slice na pn nc] 24) = W4 at hA4 y4 o4 z4 d4 yc oc ⊢
    have hB4A := hB4.trans (hA4.mono hB4.size)
    have hDU4 := hDU.below hA4
    have hDM4 := hDM.below hA4
    have HC1 := sameCertsL_eq us ms pa na pc nc W4 hSU hDM4.small (fun y hy => (hDM4.each y hy).vle) hDU4.certs hDM4.certs (fun y hy => (hDU4.each y hy).ls) (fun y hy => (hDM4.each y hy).ls)
    rw [← H3.out] at HC1
    refine HC1.mono ?_
    rintro e w5 ⟨he, hb5⟩
    subst he
    dsimp only
    clear HC1 yc oc hSU
    have hB5 := hB4A.trans (hb5.mono hB4A.size)
    have z5 := (hb5.block _ (lt_of_heap z4)).trans z4
    have d5 := (hb5.block _ (lt_of_heap d4)).trans d4
    have zc5 := cells_at z5 0 _ rfl
    have dc5 := cells_at d5 0 _ rfl
    have hW15 : Below w1.heap.size w1 w5 := hA1.trans ((hX.trans ((hb4.trans ((hA4.trans (hb5.mono hA4.size)).mono hb4.size)).mono hX.size)).mono hA1.size)
    have hDK := hD1.below hW15
    have hdw := hd.below hB5
    have HC2 := sameCertsL_eq ks ls ra sa rc cap w5 HS.out hd.small (fun y hy => by have h8 := (hd.each y hy).nums.le; have h9 := (hd.each y hy).nums.reach; omega) hDK.certs hdw.certs (fun y hy => (hDK.each y hy).ls) (fun y hy => (hdw.each y hy).ls)
    go_wp2_with fail
    refine HC2.mono ?_
    rintro e w6 ⟨he, hb6⟩
    subst he
    dsimp only
    go_wp2_with fail
    go_ret
    exact ⟨rfl, hB5.trans (hb6.mono hB5.size)⟩
end Go.Proofs.YtgbomdikhidkoaaDoor

namespace Go.Proofs.YtgbomdikhidkoaaDoor.dagInserts
open Go.ChangeShapes Go.WideShapes Go.ChangeAt Go.RowKit

set_option maxRecDepth 100000 in
/-- What the walk gives, for every argument and every world that holds the tables. -/
theorem contract (H : Type) (enc : TypeId × Value → H) (W : World) (base : Nat) (args : Array Value) (ds gs : List (DataW H)) (before : List MemPlace)
    (hval : ∀ (j : Nat) t v, Tryd.f6.params[j]? = some t → args[j]? = some v → Value.okWide Tryd.prog W .any base t v)
    (hW : DataW.Whole enc Tryd.prog Tryd.f6.params.toList Rows.dagInsertsSpec.vars false W args.toList ds gs before) (hsz : (DataW.weightsEach Tryd.prog (Tryd.f6.params.toList ++ (OpenSpec.ofChange Rows.dagInsertsSpec).bare.plain.varTypes Tryd.prog) (ds ++ gs)).all (· ≤ reachBytes) = true) (hL : laidMetH Tryd.prog Rows.dagInsertsRow.laid W) :
    Calls Tryd.prog 6 args W fun e W' => ∃ v, e = .returned v ∧ Rows.dagInsertsSpec.post enc Tryd.prog Tryd.f6 false true false false W args v W' := by
  have hW' := hW
  obtain ⟨p, q, hA0, hV, rfl, hfz, hnd⟩ := hW
  have hA : DataW.TrodAll enc Tryd.prog W 0 (fun _ => true) true Tryd.f6.params.toList args.toList ds p := hA0
  rw [Tryd.params6] at hA hval hsz
  obtain ⟨v0, vs0, d0, ds0, p0, q0, hargs, rfl, rfl, h0, r0⟩ := trodAll_cons hA
  obtain ⟨v1, vs1, d1, ds1, p1, q1, rfl, rfl, rfl, h1, r1⟩ := trodAll_cons r0
  obtain ⟨rfl, rfl, rfl⟩ := trodAll_nil r1
  obtain rfl : args = #[v0, v1] := by cases args; simp_all
  obtain ⟨rfl, rfl⟩ := trodVars_none hV
  have k0 := h0
  have lt0 : ∀ x ∈ p0, x.block < W.heap.size := by obtain ⟨m, hm⟩ := k0; exact DataW.trod_lt m _ _ _ hm
  obtain ⟨sa0, cap0, ls0, rfl, q0_0⟩ := open_dag (hval 0 24 v0 rfl rfl) h0 (fit_each hsz (j := 0) rfl rfl)
  have k1 := h1
  have lt1 : ∀ x ∈ p1, x.block < W.heap.size := by obtain ⟨m, hm⟩ := k1; exact DataW.trod_lt m _ _ _ hm
  obtain ⟨c1, rfl, q1_0⟩ := open_certU (hval 1 35 v1 rfl rfl) h1 (fit_each hsz (j := 1) rfl rfl)
  clear hA0
  have hT : Tabs W := tabs_of_laid (by kernel_rfl) (by kernel_rfl) (by kernel_rfl) hL
  refine (dagInserts_walk sa0 cap0 ls0 c1 W q0_0 q1_0 hT).mono fun e W' ⟨he, bel⟩ => ?_
  subst he
  exact ⟨_, rfl, _, _, _, [], _, [], hW', trodAll_mk1 (shut_bool Tryd.underlying4 _), (trodAll_cons_mk (Below.trod laidOut (by kernel_rfl) (of_decide_eq_true (by kernel_rfl)) k0 bel lt0) (trodAll_cons_mk (Below.trod laidOut (by kernel_rfl) (of_decide_eq_true (by kernel_rfl)) k1 bel lt1) trodAll_mk0)), rfl, bel.frame _, fun h => by cases h⟩

set_option maxRecDepth 100000 in
theorem laid_met (os : Os) : laidMet Tryd.prog Rows.dagInsertsRow.laid ((layTabs (World.holding Tryd.prog os ⟨#[], #[], []⟩)).forCall (fun _ _ => 0) ⟨#[], #[.agg #[.slice none 0 0], .agg #[.int .i64 0, .int .i64 0, .slice none 0 0, .slice none 0 0, .slice none 0 0]], []⟩).memory :=
  laidMet_of_run' 8 (by kernel_rfl) (by kernel_rfl)
set_option maxRecDepth 100000 in
theorem reads (os : Os) {H : Type} (enc : TypeId × Value → H) : ∃ places, DataW.whole enc Tryd.prog ((layTabs (World.holding Tryd.prog os ⟨#[], #[], []⟩)).forCall (fun _ _ => 0) ⟨#[], #[.agg #[.slice none 0 0], .agg #[.int .i64 0, .int .i64 0, .slice none 0 0, .slice none 0 0, .slice none 0 0]], []⟩).memory Tryd.f6.params.toList Rows.dagInsertsSpec.vars false (#[.agg #[.slice none 0 0], .agg #[.int .i64 0, .int .i64 0, .slice none 0 0, .slice none 0 0, .slice none 0 0]] : Array Value).toList 8 = some ([.agg [.nil], .agg [.agg [.lit (.int .i64 0), .lit (.int .i64 0), .nil, .nil], .nil]], [], places) :=
  ⟨[], by kernel_rfl⟩

set_option maxRecDepth 100000 in
theorem lifted (os : Os) (started : os.Started) (H : Type) (enc : TypeId × Value → H) (F : Stop.Interp) :
    ReturnsInHanded {} Tryd.checked os 6 .any ((OpenSpec.ofChange Rows.dagInsertsSpec).preRow enc Tryd.prog Tryd.f6 Rows.dagInsertsRow.domain false Rows.dagInsertsRow.laid) (((OpenSpec.ofChange Rows.dagInsertsSpec).at F).post enc Tryd.prog Tryd.f6 false true false false) := by
  obtain ⟨places, hx⟩ := reads os enc
  refine returnsInHanded_of_row (C := Tryd.checked) (s := OpenSpec.ofChange Rows.dagInsertsSpec) own started (by kernel_rfl) Tryd.func6
    (witness_row_at (enc := enc) (C := Tryd.checked) false (layTabs (World.holding Tryd.prog os ⟨#[], #[], []⟩)) #[.agg #[.slice none 0 0], .agg #[.int .i64 0, .int .i64 0, .slice none 0 0, .slice none 0 0, .slice none 0 0]] rfl (by kernel_rfl) (by kernel_rfl) (by kernel_rfl)
      (OpenSpec.preRow_of_cond 8 hx (by kernel_rfl) (fun k hk => by cases hk) (by kernel_rfl) (laid_met os))) ?_
  intro W base args ds gs before hval hW _ _ hsz hL _ _
  exact contract H enc W base args ds gs before hval hW hsz hL

set_option maxRecDepth 100000 in
theorem said : Rows.DagInsertsSaid :=
  OpenClaim.holds_of_cond 6 Tryd.f6 rfl rfl rfl rfl rfl rfl rfl ⟨rfl, rfl, rfl, rfl, rfl⟩ rfl rfl rfl rfl rfl (by kernel_rfl) Tryd.func6 (by kernel_rfl)
    (of_decide_eq_true (by kernel_rfl)) (by unfold Func.isWrapper; first | (rw [if_pos (by decide +kernel)]; kernel_rfl) | (rw [if_neg (by decide +kernel)]; exact ⟨rfl, rfl⟩))
    (fun os started H enc _ F => by rw [OpenClaim.pre_eq_preRow]; exact lifted os started H enc F)

set_option maxRecDepth 100000 in
theorem plain (f : FuncId) (fn : Func) (hf : Tryd.pinned.checked.prog.funcNamed Rows.dagInsertsRow.func = some f) (hfn : Tryd.pinned.checked.prog.funcs[f]? = some fn) :
    false = Tryd.pinned.checked.prog.looks [] ∧ ∀ (j : Nat) t, fn.params[j]? = some t → Tryd.pinned.checked.prog.wantsStandIn t = false := by
  obtain rfl : f = 6 := Option.some.inj ((show Tryd.prog.funcNamed Rows.dagInsertsRow.func = some 6 by kernel_rfl).symm.trans hf) |>.symm
  obtain rfl : fn = Tryd.f6 := (Option.some.inj (Tryd.func6.symm.trans hfn)).symm
  refine ⟨by kernel_rfl, fun j t ht => ?_⟩
  rw [Tryd.params6] at ht
  have hm : t = 24 ∨ t = 35 := by simpa using Array.mem_of_getElem? ht
  rcases hm with rfl | rfl
  · exact (show Tryd.prog.wantsStandIn 24 = false by kernel_rfl)
  · exact (show Tryd.prog.wantsStandIn 35 = false by kernel_rfl)

set_option maxRecDepth 100000 in
/-- THE CARD. -/
theorem card : Rows.DagInsertsCardSaid :=
  Claim7.holds_tied_plain_at .later [] _ _ _ _ said (fun _ h => by cases h) (by kernel_rfl) (fun _ h => by cases h) dagInserts_row_tie rfl ⟨rfl, rfl⟩ (by kernel_rfl) rfl plain (by kernel_rfl)
end Go.Proofs.YtgbomdikhidkoaaDoor.dagInserts
namespace Go.Proofs.YtgbomdikhidkoaaDoor
set_option maxRecDepth 100000 in
theorem dagInserts_holds : Rows.DagInsertsCardSaid := dagInserts.card
#print axioms dagInserts_holds
end Go.Proofs.YtgbomdikhidkoaaDoor
