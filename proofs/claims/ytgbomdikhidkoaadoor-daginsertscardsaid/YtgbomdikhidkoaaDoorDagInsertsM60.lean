/- The document's InsertedIn, for every dag and certificate. -/
import Derived.Test.YtgbomdikhidkoaaDoorOwnL
import Derived.Test.YtgbomdikhidkoaaDoorSx
import Derived.RegionTactic
import Derived.Test.YtgbomdikhidkoaaDoorIntsL
import Derived.Test.YtgbomdikhidkoaaDoorCerts
import Derived.Test.YtgbomdikhidkoaaDoorDagInsertsM54
import Derived.Test.YtgbomdikhidkoaaDoorDagInsertsM0
import Derived.Test.YtgbomdikhidkoaaDoorDagInsertsM30
import Derived.Deep.RegionLaw
import Derived.Test.YtgbomdikhidkoaaDoorDagInsertsM18
namespace Go.Proofs.YtgbomdikhidkoaaDoor
open Go.RowKit

set_option maxRecDepth 100000 in
set_option maxHeartbeats 1000000 in
theorem sameListsL_eq (ps qs : List Part) (sa sb : Option Addr) (c d : Nat) (w : World) (hS : Same ps qs) (ha : ListAt w sa c ps) (hb : ListAt w sb d qs) :
    Calls Tryd.prog 19 #[.slice sa qs.length c, .slice sb qs.length d] w fun e w' => e = .returned (.bool true) ∧ Below w.heap.size w w' := by
  have hl := hS.length
  have hF : Hid (ps.length = qs.length) := hl
  have HS : Hid _ := hS
  have hsm := hb.small
  clear hl hS
  go_enter Tryd.func19, Tryd.ntmps19
  go_wp2_with fail
  go_loopw [5] (fun j wr => ∃ k : Nat, k ≤ qs.length ∧ j = .int .i64 k ∧ Below w.heap.size w wr) (fun j _ => qs.length - (intOf j).toNat)
  case atStart => exact ⟨0, Nat.zero_le _, rfl, Below.refl _ _⟩
  case round =>
    obtain ⟨k, hk, rfl, hbw⟩ := hrel
    by_cases hlt2 : k < qs.length
    · have hlt : k < ps.length := by have := hF.out; omega
      obtain ⟨ab, ao, rfl, hca⟩ : ∃ ab ao, sa = some ⟨ab, ao, none⟩ ∧ ∀ j (h : j < ps.length), w.cell? ⟨ab, ao + j, none⟩ = some (.slice (ps[j]).sa (ps[j]).bs.length (ps[j]).cap) := by
        rcases ha.parts.cells with h | h
        · subst h; simp at hlt
        · exact h
      obtain ⟨bb, bo, rfl, hcb⟩ : ∃ bb bo, sb = some ⟨bb, bo, none⟩ ∧ ∀ j (h : j < qs.length), w.cell? ⟨bb, bo + j, none⟩ = some (.slice (qs[j]).sa (qs[j]).bs.length (qs[j]).cap) := by
        rcases hb.parts.cells with h | h
        · subst h; simp at hlt2
        · exact h
      have ka := (hbw.cell (p := ⟨ab, ao + k, none⟩) (block_lt_of_cell (hca k hlt))).trans (hca k hlt)
      have kb := (hbw.cell (p := ⟨bb, bo + k, none⟩) (block_lt_of_cell (hcb k hlt2))).trans (hcb k hlt2)
      have hpa := ((ha.parts.each ps[k] (List.getElem_mem hlt)).below hbw).below (Below.refl _ _).drew
      have hpb := ((hb.parts.each qs[k] (List.getElem_mem hlt2)).below hbw).below (Below.refl _ _).drew
      have hpq : (ps[k]).bs = (qs[k]).bs := by
        have h1 : (ps.map (·.bs))[k]? = (qs.map (·.bs))[k]? := by rw [show ps.map (·.bs) = qs.map (·.bs) from HS.out]
        simpa [hlt, hlt2] using h1
      have hltI : (k : Int) < qs.length := by omega
      have h0 : (0 : Int) ≤ k := by omega
      clear hca hcb
      generalize ps[k] = p at *
      generalize qs[k] = q at *
      obtain ⟨pa, pc, pb⟩ := p
      obtain ⟨qa, qc, qb⟩ := q
      simp only at hpq ka kb hpa hpb
      subst hpq
      have t1 := run_text wr.drew pa pb.length pc pb rfl hpa
      have t2 := run_text wr.drew qa pb.length qc pb rfl hpb
      generalize bstr pb = S at *
      go_wp2_with fail
      go_region
      all_goals
        go_wp2_with fail
        go_roundw
        case rel =>
          have hR : ∃ k' : Nat, k' ≤ qs.length ∧ (Value.int .i64 ((k : Int) + 1)) = .int .i64 k' ∧ Below w.heap.size w wr.drew := ⟨k + 1, by omega, by go_num, hbw.drew⟩
          first | exact hR | ((repeat apply Exists.intro); exact ⟨hR, rfl⟩)
        case measure => simp [intOf]; omega
    · obtain rfl : k = qs.length := by omega
      have hltI : ¬ (qs.length : Int) < qs.length := by omega
      go_wp2_with fail
      go_ret
      exact ⟨rfl, hbw⟩
set_option maxRecDepth 100000 in
set_option maxHeartbeats 1000000 in
theorem sameHeaderL_eq (au rd : Int) (xa : Option Addr) (xc : Nat) (xl : List Part) (ya : Option Addr) (yc : Nat) (yl : List Part) (ba : Option Addr) (bc : Nat) (bl : List Part) (pa : Option Addr) (pc : Nat) (pl : List Part) (w : World) (s1 : Same xl bl) (s2 : Same yl pl) (h1 : ListAt w xa xc xl) (h2 : ListAt w ya yc yl) (h3 : ListAt w ba bc bl) (h4 : ListAt w pa pc pl) :
    Calls Tryd.prog 35 #[.agg #[.int .i64 au, .int .i64 rd, .slice xa bl.length xc, .slice ya pl.length yc], .agg #[.int .i64 au, .int .i64 rd, .slice ba bl.length bc, .slice pa pl.length pc]] w fun e w' => e = .returned (.bool true) ∧ Below w.heap.size w w' := by
  have hA : Below w.heap.size w ((w.alloc (.cells #[.int .i64 au, .int .i64 rd, .slice xa bl.length xc, .slice ya pl.length yc] 32)).alloc (.cells #[.int .i64 au, .int .i64 rd, .slice ba bl.length bc, .slice pa pl.length pc] 32)) := ((Below.refl _ _).alloc (Nat.le_refl _) _).alloc (by simp) _
  have hB : ∀ wx, Below w.heap.size w wx → _ := fun wx h => sameListsL_eq xl bl xa ba xc bc wx s1 (h1.below h) (h3.below h)
  have hP : ∀ wx, Below w.heap.size w wx → _ := fun wx h => sameListsL_eq yl pl ya pa yc pc wx s2 (h2.below h) (h4.below h)
  have HB : Hid _ := hB
  have HP : Hid _ := hP
  clear hB hP h1 h2 h3 h4 s1 s2
  go_enter Tryd.func35, Tryd.ntmps35
  go_wp2_with fail
  refine (HB.out _ hA).mono ?_
  rintro e w1 ⟨rfl, hb1⟩
  have r1 := row_new hb1
  have r0 := row_new (below_alloc hb1)
  rw [size_alloc] at r1
  replace hb1 := below_alloc (below_alloc hb1)
  have c3 : w1.cell? ⟨w.heap.size, 3, none⟩ = some (.slice ya pl.length yc) := cells_at r0 3 _ rfl
  have d3 : w1.cell? ⟨w.heap.size + 1, 3, none⟩ = some (.slice pa pl.length pc) := cells_at r1 3 _ rfl
  go_wp2_with fail
  refine (HP.out _ hb1).mono ?_
  rintro e w2 ⟨rfl, hb2⟩
  go_wp2_with fail
  go_ret
  exact ⟨rfl, hb1.trans (hb2.mono hb1.size)⟩
end Go.Proofs.YtgbomdikhidkoaaDoor

namespace Go.Proofs.YtgbomdikhidkoaaDoor
open Go.RowKit

set_option maxRecDepth 100000 in
set_option maxHeartbeats 1000000 in
theorem sameIntsL_eq (vl : List Int) (sa sb : Option Addr) (c d : Nat) (w : World) (hl : vl.length ≤ 9000000000000000000) (ha : IntsAt w sa vl) (hb : IntsAt w sb vl) :
    Calls Tryd.prog 36 #[.slice sa vl.length c, .slice sb vl.length d] w fun e w' => e = .returned (.bool true) ∧ Below w.heap.size w w' := by
  go_enter Tryd.func36, Tryd.ntmps36
  go_wp2_with fail
  go_loopw [5] (fun j wr => ∃ k : Nat, k ≤ vl.length ∧ j = .int .i64 k ∧ Below w.heap.size w wr) (fun j _ => vl.length - (intOf j).toNat)
  case atStart => exact ⟨0, Nat.zero_le _, rfl, Below.refl _ _⟩
  case round =>
    obtain ⟨k, hk, rfl, hbw⟩ := hrel
    by_cases hlt2 : k < vl.length
    · obtain ⟨ab, ao, rfl, hca⟩ : ∃ ab ao, sa = some ⟨ab, ao, none⟩ ∧ ∀ j, j < vl.length → wr.cell? ⟨ab, ao + j, none⟩ = some (.int .i64 (vl.getD j 0)) := by
        rcases (ha.below hbw).cells with h | h
        · subst h; simp at hlt2
        · exact h
      obtain ⟨bb, bo, rfl, hcb⟩ : ∃ bb bo, sb = some ⟨bb, bo, none⟩ ∧ ∀ j, j < vl.length → wr.cell? ⟨bb, bo + j, none⟩ = some (.int .i64 (vl.getD j 0)) := by
        rcases (hb.below hbw).cells with h | h
        · subst h; simp at hlt2
        · exact h
      have ka := hca k hlt2
      have kb := hcb k hlt2
      have hltI : (k : Int) < vl.length := by omega
      have h0 : (0 : Int) ≤ k := by omega
      clear hca hcb
      generalize vl.getD k 0 = x at *
      go_wp2_with fail
      go_region
      all_goals
        go_wp2_with fail
        go_roundw
        case rel =>
          have hR : ∃ k' : Nat, k' ≤ vl.length ∧ (Value.int .i64 ((k : Int) + 1)) = .int .i64 k' ∧ Below w.heap.size w wr.drew := ⟨k + 1, by omega, by go_num, hbw.drew⟩
          first | exact hR | ((repeat apply Exists.intro); exact ⟨hR, rfl⟩)
        case measure => simp [intOf]; omega
    · obtain rfl : k = vl.length := by omega
      have hltI : ¬ (vl.length : Int) < vl.length := by omega
      go_wp2_with fail
      go_ret
      exact ⟨rfl, hbw⟩
set_option maxRecDepth 100000 in
set_option maxHeartbeats 1000000 in
theorem sameCertR_eq (au rd : Int) (xa : Option Addr) (xc : Nat) (xl : List Part) (ya : Option Addr) (yc : Nat) (yl : List Part) (za : Option Addr) (zc : Nat) (zl : List Int) (ba : Option Addr) (bc : Nat) (bl : List Part) (pa : Option Addr) (pc : Nat) (pl : List Part) (va : Option Addr) (vc : Nat) (w : World) (S1 : Same xl bl) (S2 : Same yl pl) (hl : zl.length ≤ 9000000000000000000) (a1 : ListAt w xa xc xl) (a2 : ListAt w ya yc yl) (a3 : IntsAt w za zl) (b1 : ListAt w ba bc bl) (b2 : ListAt w pa pc pl) (b3 : IntsAt w va zl) :
    Calls Tryd.prog 15 #[.agg #[.int .i64 au, .int .i64 rd, .slice xa xl.length xc, .slice ya yl.length yc, .slice za zl.length zc], .agg #[.int .i64 au, .int .i64 rd, .slice ba bl.length bc, .slice pa pl.length pc, .slice va zl.length vc]] w fun e w' => e = .returned (.bool true) ∧ Below w.heap.size w w' := by
  rw [S1.length, S2.length]
  have hA : Below w.heap.size w ((w.alloc (.cells #[.int .i64 au, .int .i64 rd, .slice xa bl.length xc, .slice ya pl.length yc, .slice za zl.length zc] 35)).alloc (.cells #[.int .i64 au, .int .i64 rd, .slice ba bl.length bc, .slice pa pl.length pc, .slice va zl.length vc] 35)) := ((Below.refl _ _).alloc (Nat.le_refl _) _).alloc (by rw [size_alloc]; omega) _
  have q0 := heap_alloc2_old w (.cells #[.int .i64 au, .int .i64 rd, .slice xa bl.length xc, .slice ya pl.length yc, .slice za zl.length zc] 35) (.cells #[.int .i64 au, .int .i64 rd, .slice ba bl.length bc, .slice pa pl.length pc, .slice va zl.length vc] 35)
  have q1 : ((w.alloc (.cells #[.int .i64 au, .int .i64 rd, .slice xa bl.length xc, .slice ya pl.length yc, .slice za zl.length zc] 35)).alloc (.cells #[.int .i64 au, .int .i64 rd, .slice ba bl.length bc, .slice pa pl.length pc, .slice va zl.length vc] 35)).heap[w.heap.size + 1]? = some (.cells #[.int .i64 au, .int .i64 rd, .slice ba bl.length bc, .slice pa pl.length pc, .slice va zl.length vc] 35 (0, 0)) := by
    have := heap_alloc_new (w.alloc (.cells #[.int .i64 au, .int .i64 rd, .slice xa bl.length xc, .slice ya pl.length yc, .slice za zl.length zc] 35)) (.cells #[.int .i64 au, .int .i64 rd, .slice ba bl.length bc, .slice pa pl.length pc, .slice va zl.length vc] 35)
    rw [size_alloc] at this; exact this
  have HS1 : Hid _ := S1
  have HS2 : Hid _ := S2
  clear S1 S2
  go_enter Tryd.func15, Tryd.ntmps15
  go_wp2_with fail
  generalize (w.alloc (.cells #[.int .i64 au, .int .i64 rd, .slice xa bl.length xc, .slice ya pl.length yc, .slice za zl.length zc] 35)).alloc (.cells #[.int .i64 au, .int .i64 rd, .slice ba bl.length bc, .slice pa pl.length pc, .slice va zl.length vc] 35) = W0 at hA q0 q1 ⊢
  refine (sameHeaderL_eq au rd xa xc xl ya yc yl ba bc bl pa pc pl W0 HS1.out HS2.out (a1.below hA) (a2.below hA) (b1.below hA) (b2.below hA)).mono ?_
  rintro e w1 ⟨he, hb1⟩
  subst he
  dsimp only
  have r0 := (hb1.block _ (lt_of_heap q0)).trans q0
  have r1 := (hb1.block _ (lt_of_heap q1)).trans q1
  have k4 := cells_at r0 4 _ rfl
  have m4 := cells_at r1 4 _ rfl
  have hB1 := hA.trans (hb1.mono hA.size)
  go_wp2_with fail
  refine (sameIntsL_eq zl za va zc vc w1 hl (a3.below hB1) (b3.below hB1)).mono ?_
  rintro e w2 ⟨he, hb2⟩
  subst he
  dsimp only
  go_wp2_with fail
  go_ret
  exact ⟨rfl, hB1.trans (hb2.mono hB1.size)⟩
end Go.Proofs.YtgbomdikhidkoaaDoor

namespace Go.Proofs.YtgbomdikhidkoaaDoor
open Go.RowKit

/-- A certificate whose lists are read. -/
structure CtLs (w : World) (c : Ct) : Prop where
  lb : ListAt w c.ba c.bc c.bl
  lp : ListAt w c.pa c.pc c.pl
  ints : IntsAt w c.va c.vl
set_option maxRecDepth 100000 in
theorem CtLs.below {w w' : World} {c : Ct} (h : CtLs w c) (hb : Below w.heap.size w w') : CtLs w' c := ⟨h.lb.below hb, h.lp.below hb, h.ints.below hb⟩
set_option maxRecDepth 100000 in
theorem CtAt.ls {w : World} {c : Ct} (h : CtAt w c) : CtLs w c := ⟨h.hat.lb, h.hat.lp, h.ints⟩
set_option maxRecDepth 100000 in
set_option maxHeartbeats 1000000 in
theorem sameCertL_eq (c d : Ct) (w : World) (hv : c.v = d.v) (hl : d.vl.length ≤ 9000000000000000000) (hc : CtLs w c) (hd : CtLs w d) :
    Calls Tryd.prog 15 #[.agg #[.int .i64 c.au, .int .i64 c.rd, .slice c.ba c.bl.length c.bc, .slice c.pa c.pl.length c.pc, .slice c.va c.vl.length c.vc], .agg #[.int .i64 d.au, .int .i64 d.rd, .slice d.ba d.bl.length d.bc, .slice d.pa d.pl.length d.pc, .slice d.va d.vl.length d.vc]] w fun e w' => e = .returned (.bool true) ∧ Below w.heap.size w w' := by
  obtain ⟨au, rd, xa, xc, xl, ya, yc, yl, za, zc, zl⟩ := c
  obtain ⟨au', rd', ba, bc, bl, pa, pc, pl, va, vc, vl⟩ := d
  simp only [Ct.v, CV.mk.injEq] at hv
  obtain ⟨rfl, rfl, s1, s2, rfl⟩ := hv
  obtain ⟨a1, a2, a3⟩ := hc
  obtain ⟨b1, b2, b3⟩ := hd
  exact sameCertR_eq au rd xa xc xl ya yc yl za zc zl ba bc bl pa pc pl va vc w s1 s2 hl a1 a2 a3 b1 b2 b3
end Go.Proofs.YtgbomdikhidkoaaDoor

namespace Go.Proofs.YtgbomdikhidkoaaDoor
open Go.RowKit

/-- What Find answers. -/
def FndAt (w' : World) (e : Ending) (l : List CV) (k : List Int) : Prop :=
  (∃ ec : Int, e = .returned (.tuple #[.agg #[.int .i64 0, .int .i64 0, .slice none 0 0, .slice none 0 0, .slice none 0 0], .int .i64 ec]) ∧ ((dagF l = 12 ∧ ec = 12) ∨ (dagF l = 0 ∧ pOf l k = -1 ∧ ec = 8))) ∨ (dagF l = 0 ∧ 0 ≤ pOf l k ∧ ∃ c : Ct, e = .returned (.tuple #[.agg #[.int .i64 c.au, .int .i64 c.rd, .slice c.ba c.bl.length c.bc, .slice c.pa c.pl.length c.pc, .slice c.va c.vl.length c.vc], .int .i64 0]) ∧ c.v = cvAt l (pOf l k).toNat ∧ CtLs w' c ∧ c.vl.length ≤ 4)
set_option maxRecDepth 100000 in
theorem dagFind_any (ls : List Ct) (sa : Option Addr) (n cap : Nat) (bs : List Int) (ka : Option Addr) (kn kc : Nat) (w : World) (hn : n = ls.length) (hkn : kn = bs.length) (hd : DagAt w sa cap ls) (hk : SliceAt w ka kc bs) (hT : Tabs w) :
    Calls Tryd.prog 12 #[.agg #[.slice sa n cap], .slice ka kn kc] w fun e w' => FndAt w' e (cvs ls) bs ∧ Below w.heap.size w w' :=
  (dagFind_own ls sa n cap bs ka kn kc w hn hkn hd hk hT).mono (fun _ _ h => ⟨by
    rcases h.out with h1 | ⟨h1, h2, c, h3, h4, h5, _⟩
    · exact .inl h1
    · refine .inr ⟨h1, h2, c, h3, h4, h5.ls, ?_⟩
      have hb := pOf_bounds (cvs ls) bs
      have hf := dagF_f h1 (pOf (cvs ls) bs).toNat (by omega)
      rw [← h4] at hf
      exact (f_small hf).2.2.1, h.below⟩)
end Go.Proofs.YtgbomdikhidkoaaDoor

namespace Go.Proofs.YtgbomdikhidkoaaDoor
open Go.RowKit

set_option maxRecDepth 100000 in
set_option maxHeartbeats 1000000 in
theorem dagCopy_own (ls : List Ct) (sa : Option Addr) (n cap : Nat) (w : World) (hn : n = ls.length) (hd : DagRd w sa cap ls) :
    Calls Tryd.prog 10 #[.agg #[.slice sa n cap]] w fun e w' => ∃ v ks, e = .returned (.agg #[v]) ∧ cvs ks = cvs ls ∧ w'.ownsRow w.heap.size 35 5 v ls.length (ctv ks) ∧ ApartC w' w.heap.size v ks ∧ Below w.heap.size w w' := by
  subst hn
  obtain ⟨i, hi, hz0, hz1, hz2⟩ := info_parts infoCert
  have hreach := hd.reach
  have hA : Below w.heap.size w (((w.alloc (.cells #[.slice sa ls.length cap] 24)).alloc (.cells #[.slice none 0 0] 24)).alloc (.cells #[.slice none 0 0] 24)) := (((Below.refl _ _).alloc (Nat.le_refl _) _).alloc (by rw [size_alloc]; omega) _).alloc (by rw [size_alloc, size_alloc]; omega) _
  have r0 : (((w.alloc (.cells #[.slice sa ls.length cap] 24)).alloc (.cells #[.slice none 0 0] 24)).alloc (.cells #[.slice none 0 0] 24)).heap[w.heap.size]? = some (.cells #[.slice sa ls.length cap] 24 (0, 0)) := heap_keep (heap_keep (heap_alloc_new w _))
  have r1 : (((w.alloc (.cells #[.slice sa ls.length cap] 24)).alloc (.cells #[.slice none 0 0] 24)).alloc (.cells #[.slice none 0 0] 24)).heap[w.heap.size + 1]? = some (.cells #[.slice none 0 0] 24 (0, 0)) := heap_keep (by have := heap_alloc_new (w.alloc (.cells #[.slice sa ls.length cap] 24)) (.cells #[.slice none 0 0] 24); rw [size_alloc] at this; exact this)
  have r2 : (((w.alloc (.cells #[.slice sa ls.length cap] 24)).alloc (.cells #[.slice none 0 0] 24)).alloc (.cells #[.slice none 0 0] 24)).heap[w.heap.size + 1 + 1]? = some (.cells #[.slice none 0 0] 24 (0, 0)) := by
    have := heap_alloc_new ((w.alloc (.cells #[.slice sa ls.length cap] 24)).alloc (.cells #[.slice none 0 0] 24)) (.cells #[.slice none 0 0] 24)
    rw [size_alloc, size_alloc] at this; exact this
  have hz : (((w.alloc (.cells #[.slice sa ls.length cap] 24)).alloc (.cells #[.slice none 0 0] 24)).alloc (.cells #[.slice none 0 0] 24)).heap.size = w.heap.size + 3 := by rw [size_alloc, size_alloc, size_alloc]
  go_enter Tryd.func10, Tryd.ntmps10
  go_wp2_with fail
  generalize ((w.alloc (.cells #[.slice sa ls.length cap] 24)).alloc (.cells #[.slice none 0 0] 24)).alloc (.cells #[.slice none 0 0] 24) = W0 at hA r0 r1 r2 hz ⊢
  have HZ : Hid (W0.heap.size = w.heap.size + 3) := hz
  clear hz
  generalize hO : w.heap.size + 1 + 1 = O at r2 ⊢
  have HO : Hid (w.heap.size + 1 + 1 = O) := hO
  clear hO
  go_loopw [4] (fun j wr => ∃ (k : Nat) (v : Value) (ks : List Ct), k ≤ ls.length ∧ j = .int .i64 k ∧ cvs ks = (cvs ls).take k ∧ wr.heap[w.heap.size]? = some (.cells #[.slice sa ls.length cap] 24 (0, 0)) ∧ wr.heap[w.heap.size + 1]? = some (.cells #[.slice none 0 0] 24 (0, 0)) ∧ wr.heap[O]? = some (.cells #[v] 24 (0, 0)) ∧ wr.ownsRow W0.heap.size 35 5 v k (ctv ks) ∧ ApartC wr W0.heap.size v ks ∧ Below w.heap.size w wr ∧ W0.heap.size ≤ wr.heap.size) (fun j _ => ls.length - (intOf j).toNat)
  case atStart => exact ⟨0, _, [], Nat.zero_le _, rfl, rfl, r0, r1, r2, World.ownsRow_nil _ _ _ _, (fun p hp => by cases hp), hA, Nat.le_refl _⟩
  case round =>
    clear r0 r1 r2 hA
    obtain ⟨k, v, ks, hk, rfl, hS, s0, s1, s2, ho, hap, hb, hsz⟩ := hrel
    obtain ⟨ea, ec, hve⟩ := owns_shape ho
    subst hve
    have b0 : wr.cell? ⟨w.heap.size, 0, none⟩ = some (.slice sa ls.length cap) := cells_at s0 0 _ rfl
    have o0 : wr.cell? ⟨O, 0, none⟩ = some (.slice ea k ec) := cells_at s2 0 _ rfl
    have of0 := frozen_at s2 0
    have HS : Hid (cvs ks = (cvs ls).take k) := hS
    clear hS
    by_cases hlt : k < ls.length
    · obtain ⟨sb, so, rfl, c0, c1, c2, c3, c4⟩ := (hd.certs.below hb).at k hlt
      have hR := (hd.each (ls[k]) (List.getElem_mem hlt)).below hb
      have hst : Hid ((cvs ls).take (k + 1) = (cvs ls).take k ++ [(ls[k]).v]) := by
        show _ = _
        rw [List.take_succ_eq_append_getElem (by rw [cvs_length]; exact hlt)]
        simp [cvs]
      have hltI : (k : Int) < ls.length := by omega
      generalize ls[k] = s at *
      have hvr : s.vl.length * 8 ≤ 140737488355328 := by have := hR.nums.le; have := hR.nums.reach; omega
      have HD := certCopyU_any s.au s.rd s.ba s.bc s.bl s.pa s.pc s.pl s.va s.vc s.vl wr hR.rb hR.rp hR.nums.ints hvr
      have hvl : s.vl.length ≤ 9000000000000000000 := by omega
      clear hR hvr
      go_wp2_with fail
      refine HD.mono ?_
      rintro e w2 ⟨xa, xc, xs, ya, yc, ys, za, zc, he, hS1, hS2, hL1, hL2, hZ, hb2, hF1, hF2, hF3, hU1, hU2⟩
      subst he
      dsimp only
      clear HD
      have E1 := hS1.length
      have E2 := hS2.length
      have hct : CtAt w2 ⟨s.au, s.rd, xa, xc, xs, ya, yc, ys, za, zc, s.vl⟩ := ⟨⟨hL1, hL2, hU1, hU2⟩, hZ, hvl⟩
      have hin : ∀ b, CtIn ⟨s.au, s.rd, xa, xc, xs, ya, yc, ys, za, zc, s.vl⟩ b → wr.heap.size ≤ b := by
        rintro b (⟨so, e⟩ | ⟨so, e⟩ | ⟨p, hp, _, so, e⟩ | ⟨_, so, e⟩)
        · exact hF1.row b so e
        · exact hF2.row b so e
        · rcases List.mem_append.1 hp with hp | hp
          · exact hF1.each p hp b so e
          · exact hF2.each p hp b so e
        · exact hF3 b so e
      have HV : Hid ((⟨s.au, s.rd, xa, xc, xs, ya, yc, ys, za, zc, s.vl⟩ : Ct).v = s.v) := by
        show Ct.v _ = _
        simp only [Ct.v]
        rw [bss_same hS1, bss_same hS2]
      have HC : Hid ((⟨s.au, s.rd, xa, xc, xs, ya, yc, ys, za, zc, s.vl⟩ : Ct).cs = [.int .i64 s.au, .int .i64 s.rd, .slice xa s.bl.length xc, .slice ya s.pl.length yc, .slice za s.vl.length zc]) := by
        show Ct.cs _ = _
        simp only [Ct.cs]
        rw [E1, E2]
      generalize hcte : (⟨s.au, s.rd, xa, xc, xs, ya, yc, ys, za, zc, s.vl⟩ : Ct) = ct at hct hin HV HC
      clear hcte hS1 hS2 hL1 hL2 hZ hF1 hF2 hF3 hU1 hU2 E1 E2
      have hob := owns_keep ho hb2
      have hB2 := hb.trans (hb2.mono hb.size)
      have hlt2 : O < wr.heap.size := lt_of_heap s2
      have t0 := (hb2.block _ (lt_of_heap s0)).trans s0
      have t1 := (hb2.block _ (lt_of_heap s1)).trans s1
      have t2 := (hb2.block _ (lt_of_heap s2)).trans s2
      have q0 : w2.cell? ⟨O, 0, none⟩ = some (.slice ea k ec) := cells_at t2 0 _ rfl
      have qf := frozen_at t2 0
      clear c0 c1 c2 c3 c4 b0 o0 of0
      have hvb : (Value.slice ea k ec).ownBlock ≠ some O := fun e => by have := (ho.lt _ e).1; have := HZ.out; have := HO.out; omega
      have hvb1 : (Value.slice ea k ec).ownBlock ≠ some (w.heap.size + 1) := fun e => by have := (ho.lt _ e).1; have := HZ.out; omega
      have hvb0 : (Value.slice ea k ec).ownBlock ≠ some (w.heap.size) := fun e => by have := (ho.lt _ e).1; have := HZ.out; omega
      have hbase : W0.heap.size ≤ w2.heap.size := Nat.le_trans hsz hb2.size
      have hne2 : O ≠ w2.heap.size := by have := lt_of_heap t2; omega
      have t2A := heap_keep (o := .cells #[.int .i64 s.au, .int .i64 s.rd, .slice xa s.bl.length xc, .slice ya s.pl.length yc, .slice za s.vl.length zc] 35) t2
      have q0A := cells_at t2A 0 _ rfl
      have hA2 : Below w2.heap.size w2 (w2.alloc (.cells #[.int .i64 s.au, .int .i64 s.rd, .slice xa s.bl.length xc, .slice ya s.pl.length yc, .slice za s.vl.length zc] 35)) := (Below.refl _ _).alloc (Nat.le_refl _) _
      have hnew := cells_new (w2.alloc (.cells #[.int .i64 s.au, .int .i64 s.rd, .slice xa s.bl.length xc, .slice ya s.pl.length yc, .slice za s.vl.length zc] 35)) [.int .i64 s.au, .int .i64 s.rd, .slice xa s.bl.length xc, .slice ya s.pl.length yc, .slice za s.vl.length zc] 35
      rw [size_alloc] at hnew
      have hob2 := owns_keep hob hA2
      have hbA : W0.heap.size ≤ (w2.alloc (.cells #[.int .i64 s.au, .int .i64 s.rd, .slice xa s.bl.length xc, .slice ya s.pl.length yc, .slice za s.vl.length zc] 35)).heap.size := Nat.le_trans hbase hA2.size
      go_wp2_with (at_builtin; refine wpList_append_own_at _ rfl _ _ 22 rfl W0.heap.size 35 i (.agg #[.int .i64 0, .int .i64 0, .slice none 0 0, .slice none 0 0, .slice none 0 0]) 5 88 Tryd.underlying22 hi hz0 hz1 hz2 rfl (by decide) _ k _ rfl (World.ownsRow.alloc hob2 _) ⟨w2.heap.size + 1, 0, none⟩ 1 1 [.int .i64 s.au, .int .i64 s.rd, .slice xa s.bl.length xc, .slice ya s.pl.length yc, .slice za s.vl.length zc] rfl rfl hnew (by intro u hu; simp at hu; rcases hu with rfl | rfl | rfl | rfl | rfl <;> rfl) (by unfold maxLen; omega) (by omega) (le_alloc hbA _) ?_; intro v1 w3 ho3 hg3 _ hat; obtain ⟨fa, fc, hvf⟩ := owns_shape ho3; subst hvf; have u2 := Grew.row (Grew.of hg3 hat) (heap_keep t2A) hvb; have q3 := cells_at u2 0 _ rfl; have qf3 := frozen_at u2 0)
      have G := Grew.of hg3 hat
      have u0 := Grew.row G (heap_keep (heap_keep t0)) hvb0
      have u1 := Grew.row G (heap_keep (heap_keep t1)) hvb1
      have hB2A := hB2.trans (hA2.mono hB2.size)
      have hw0 : w.heap.size ≤ W0.heap.size := by have := HZ.out; omega
      have hOlt : O < W0.heap.size := by have := HZ.out; have := HO.out; omega
      have hOge : w.heap.size ≤ O := by have := HO.out; omega
      have hap3 := hap.more (c := ct) hsz ho (hb2.trans (hA2.mono hb2.size)) hin (hct.below hA2) G
      have hB4 := Below.grown (hB2A.alloc hB2A.size _) hg3 (le_alloc hB2A.size _) (fun q e => Nat.le_trans hw0 (hob.lt q e).1)
      go_roundw
      case rel =>
        have hR : ∃ (k' : Nat) (v' : Value) (ks' : List Ct), k' ≤ ls.length ∧ (Value.int .i64 ((k : Int) + 1)) = .int .i64 k' ∧ cvs ks' = (cvs ls).take k' ∧ (w3.setCell ⟨O, 0, none⟩ (.slice fa (k + 1) fc)).heap[w.heap.size]? = some (.cells #[.slice (some ⟨sb, so, none⟩) ls.length cap] 24 (0, 0)) ∧ (w3.setCell ⟨O, 0, none⟩ (.slice fa (k + 1) fc)).heap[w.heap.size + 1]? = some (.cells #[.slice none 0 0] 24 (0, 0)) ∧ (w3.setCell ⟨O, 0, none⟩ (.slice fa (k + 1) fc)).heap[O]? = some (.cells #[v'] 24 (0, 0)) ∧ (w3.setCell ⟨O, 0, none⟩ (.slice fa (k + 1) fc)).ownsRow W0.heap.size 35 5 v' k' (ctv ks') ∧ ApartC (w3.setCell ⟨O, 0, none⟩ (.slice fa (k + 1) fc)) W0.heap.size v' ks' ∧ Below w.heap.size w (w3.setCell ⟨O, 0, none⟩ (.slice fa (k + 1) fc)) ∧ W0.heap.size ≤ (w3.setCell ⟨O, 0, none⟩ (.slice fa (k + 1) fc)).heap.size :=
          ⟨k + 1, .slice fa (k + 1) fc, ks ++ [ct], by omega, by go_num, by rw [hst.out, ← HS.out]; simp [cvs, HV.out], heap_far u0 (by have := HO.out; omega), heap_far u1 (by have := HO.out; omega), by simpa using heap_setCell_same _ _ 0 _ _ (.slice fa (k + 1) fc) u2, owns_far (by rw [ctv_snoc, HC.out]; exact ho3) _ _ _ hOlt, hap3.setCell _ _ _ hOlt, hB4.setCell hOge _, by have := hg3.size; rw [size_alloc, size_alloc] at this; simp; omega⟩
        first | exact hR | ((repeat apply Exists.intro); exact ⟨hR, rfl⟩)
      case measure => simp [intOf]; omega
    · obtain rfl : k = ls.length := by omega
      have hS := HS.out
      rw [List.take_of_length_le (by rw [cvs_length]; exact Nat.le_refl _)] at hS
      clear HS
      have HS : Hid _ := hS
      clear hS
      have y0 := cells_at s1 0 _ rfl
      have yf := frozen_at s1 0
      have hw1 : w.heap.size + 1 < W0.heap.size := by have := HZ.out; omega
      have hoX := owns_far ho (w.heap.size + 1) 0 (.slice ea ls.length ec) hw1
      have hapX := hap.setCell (w.heap.size + 1) 0 (.slice ea ls.length ec) hw1
      have hw0 : w.heap.size ≤ W0.heap.size := by omega
      go_wp2_with fail
      refine bodyPost_ret (v := .agg #[.slice ea ls.length ec]) (by simp [results, Tryd.results10, go_sem, y0]) rfl ⟨.slice ea ls.length ec, ks, rfl, HS.out, ownsRow_base' hoX hw0, fun c hc => ⟨(hapX c hc).1, fun b hb => ⟨Nat.le_trans hw0 ((hapX c hc).2 b hb).1, ((hapX c hc).2 b hb).2⟩⟩, hb.setCell (Nat.le_succ _) _⟩
set_option maxRecDepth 100000 in
theorem dagCopy_any (ls : List Ct) (sa : Option Addr) (n cap : Nat) (w : World) (hn : n = ls.length) (hd : DagRd w sa cap ls) :
    Calls Tryd.prog 10 #[.agg #[.slice sa n cap]] w fun e w' => ∃ ra rc ks, e = .returned (.agg #[.slice ra ls.length rc]) ∧ cvs ks = cvs ls ∧ DagAt w' ra rc ks ∧ Below w.heap.size w w' := by
  have hs := hd.small
  refine (dagCopy_own ls sa n cap w hn hd).mono ?_
  rintro e w' ⟨v, ks, rfl, hS, ho, hap, hb⟩
  obtain ⟨ra, rc, rfl, _, hL, _⟩ := dag_of_owns ho hap
  exact ⟨ra, rc, ks, rfl, hS, hL hs, hb⟩
end Go.Proofs.YtgbomdikhidkoaaDoor

namespace Go.Proofs.YtgbomdikhidkoaaDoor
open Go.RowKit

set_option maxRecDepth 100000 in
theorem certCopy_ct (c : Ct) (w : World) (h : CtRd w c) :
    Calls Tryd.prog 21 #[.agg #[.int .i64 c.au, .int .i64 c.rd, .slice c.ba c.bl.length c.bc, .slice c.pa c.pl.length c.pc, .slice c.va c.vl.length c.vc]] w fun e w' => ∃ x : Ct, e = .returned (.agg #[.int .i64 x.au, .int .i64 x.rd, .slice x.ba x.bl.length x.bc, .slice x.pa x.pl.length x.pc, .slice x.va x.vl.length x.vc]) ∧ x.v = c.v ∧ CtAt w' x ∧ (∀ b, CtIn x b → w.heap.size ≤ b) ∧ Below w.heap.size w w' := by
  have hv1 := h.nums.le
  have hv2 := h.nums.reach
  refine (certCopyU_any c.au c.rd c.ba c.bc c.bl c.pa c.pc c.pl c.va c.vc c.vl w h.rb h.rp h.nums.ints (by omega)).mono ?_
  rintro e w' ⟨xa, xc, xs, ya, yc, ys, za, zc, rfl, hS1, hS2, hL1, hL2, hZ, hb, hF1, hF2, hF3, hU1, hU2⟩
  refine ⟨⟨c.au, c.rd, xa, xc, xs, ya, yc, ys, za, zc, c.vl⟩, by rw [hS1.length, hS2.length], ?_, ⟨⟨hL1, hL2, hU1, hU2⟩, hZ, ?_⟩, ?_, hb⟩
  · simp only [Ct.v]
    rw [bss_same hS1, bss_same hS2]
  · show c.vl.length ≤ 9000000000000000000
    omega
  · rintro b (⟨so, e⟩ | ⟨so, e⟩ | ⟨p, hp, _, so, e⟩ | ⟨_, so, e⟩)
    · exact hF1.row b so e
    · exact hF2.row b so e
    · rcases List.mem_append.1 hp with hp | hp
      · exact hF1.each p hp b so e
      · exact hF2.each p hp b so e
    · exact hF3 b so e
set_option maxRecDepth 100000 in
theorem DagAt.far {w : World} {ra : Option Addr} {rc : Nat} {ls : List Ct} (h : DagAt w ra rc ls) (b j : Nat) (x : Value) (hr : ∀ sb so, ra = Option.some (Addr.mk sb so Option.none) → sb ≠ b) (hc : ∀ c ∈ ls, ∀ q, CtIn c q → q ≠ b) : DagAt (w.setCell (Addr.mk b j Option.none) x) ra rc ls := by
  refine ⟨h.le, h.max, h.small, h.some, ⟨?_⟩, fun c hm => (h.each c hm).keep (by simp) (fun q hq => heap_setCell_other w _ q x (hc c hm q hq))⟩
  rcases h.certs.cells with h1 | ⟨sb, so, e, hcs⟩
  · exact .inl h1
  · have hne : b ≠ sb := fun h9 => hr sb so e h9.symm
    refine .inr ⟨sb, so, e, fun k hk => ?_⟩
    obtain ⟨a0, a1, a2, a3, a4⟩ := hcs k hk
    exact ⟨(World.cell?_setCell_far _ _ _ _ hne).trans a0, (World.cell?_setCell_far _ _ _ _ hne).trans a1, (World.cell?_setCell_far _ _ _ _ hne).trans a2, (World.cell?_setCell_far _ _ _ _ hne).trans a3, (World.cell?_setCell_far _ _ _ _ hne).trans a4⟩
set_option maxRecDepth 100000 in
set_option maxHeartbeats 2000000 in
theorem insertedIn_any (ls : List Ct) (sa : Option Addr) (cap : Nat) (c : Ct) (w : World) (hd : DagRd w sa cap ls) (hc : CtRd w c) :
    Calls Tryd.prog 22 #[.agg #[.slice sa ls.length cap], .agg #[.int .i64 c.au, .int .i64 c.rd, .slice c.ba c.bl.length c.bc, .slice c.pa c.pl.length c.pc, .slice c.va c.vl.length c.vc]] w fun e w' => InAt w.heap.size w' e (cvs ls) c.v ∧ Below w.heap.size w w' := by
  obtain ⟨i, hi, hz0, hz1, hz2⟩ := info_parts infoCert
  have hA : Below w.heap.size w (((w.alloc (.cells #[.slice sa ls.length cap] 24)).alloc (.cells #[.int .i64 c.au, .int .i64 c.rd, .slice c.ba c.bl.length c.bc, .slice c.pa c.pl.length c.pc, .slice c.va c.vl.length c.vc] 35)).alloc (.cells #[.slice none 0 0] 24)) := (((Below.refl _ _).alloc (Nat.le_refl _) _).alloc (by rw [size_alloc]; omega) _).alloc (by rw [size_alloc, size_alloc]; omega) _
  have q0 : (((w.alloc (.cells #[.slice sa ls.length cap] 24)).alloc (.cells #[.int .i64 c.au, .int .i64 c.rd, .slice c.ba c.bl.length c.bc, .slice c.pa c.pl.length c.pc, .slice c.va c.vl.length c.vc] 35)).alloc (.cells #[.slice none 0 0] 24)).heap[w.heap.size]? = some (.cells #[.slice sa ls.length cap] 24 (0, 0)) := heap_keep (heap_keep (heap_alloc_new w _))
  have q1 : (((w.alloc (.cells #[.slice sa ls.length cap] 24)).alloc (.cells #[.int .i64 c.au, .int .i64 c.rd, .slice c.ba c.bl.length c.bc, .slice c.pa c.pl.length c.pc, .slice c.va c.vl.length c.vc] 35)).alloc (.cells #[.slice none 0 0] 24)).heap[w.heap.size + 1]? = some (.cells #[.int .i64 c.au, .int .i64 c.rd, .slice c.ba c.bl.length c.bc, .slice c.pa c.pl.length c.pc, .slice c.va c.vl.length c.vc] 35 (0, 0)) := heap_keep (by have := heap_alloc_new (w.alloc (.cells #[.slice sa ls.length cap] 24)) (.cells #[.int .i64 c.au, .int .i64 c.rd, .slice c.ba c.bl.length c.bc, .slice c.pa c.pl.length c.pc, .slice c.va c.vl.length c.vc] 35); rw [size_alloc] at this; exact this)
  have q2 : (((w.alloc (.cells #[.slice sa ls.length cap] 24)).alloc (.cells #[.int .i64 c.au, .int .i64 c.rd, .slice c.ba c.bl.length c.bc, .slice c.pa c.pl.length c.pc, .slice c.va c.vl.length c.vc] 35)).alloc (.cells #[.slice none 0 0] 24)).heap[w.heap.size + 1 + 1]? = some (.cells #[.slice none 0 0] 24 (0, 0)) := by
    have := heap_alloc_new ((w.alloc (.cells #[.slice sa ls.length cap] 24)).alloc (.cells #[.int .i64 c.au, .int .i64 c.rd, .slice c.ba c.bl.length c.bc, .slice c.pa c.pl.length c.pc, .slice c.va c.vl.length c.vc] 35)) (.cells #[.slice none 0 0] 24)
    rw [size_alloc, size_alloc] at this; exact this
  go_enter Tryd.func22, Tryd.ntmps22
  go_wp2_with fail
  generalize ((w.alloc (.cells #[.slice sa ls.length cap] 24)).alloc (.cells #[.int .i64 c.au, .int .i64 c.rd, .slice c.ba c.bl.length c.bc, .slice c.pa c.pl.length c.pc, .slice c.va c.vl.length c.vc] 35)).alloc (.cells #[.slice none 0 0] 24) = W0 at hA q0 q1 q2 ⊢
  generalize hO : w.heap.size + 1 + 1 = O at q2 ⊢
  have HOg : w.heap.size ≤ O := by omega
  clear hO
  refine (dagFault_any ls sa _ cap W0 rfl (hd.below hA)).mono ?_
  rintro e w1 ⟨he, hb1⟩
  subst he
  dsimp only
  have hB1 := hA.trans (hb1.mono hA.size)
  have r0 := (hb1.block _ (lt_of_heap q0)).trans q0
  have r1 := (hb1.block _ (lt_of_heap q1)).trans q1
  have r2 := (hb1.block _ (lt_of_heap q2)).trans q2
  rcases dagF_or (cvs ls) with hF | hF
  · have HM : Hid (insE (cvs ls) c.v = if c.v.f ≠ 0 then c.v.f else if takF (cvs ls) c.v.au c.v.rd c.v.pl ≠ 0 then takF (cvs ls) c.v.au c.v.rd c.v.pl else if 400 ≤ (cvs ls).length then 6 else 0) := by
      show _ = _
      rw [insE, hF]; rfl
    have HAF : Hid (∀ c ∈ ls, c.v.f = 0) := all_f hF
    have hle := dag_le hF
    rw [hF]
    clear hF
    have e0 := cells_at r1 0 _ rfl
    have e1 := cells_at r1 1 _ rfl
    have e2 := cells_at r1 2 _ rfl
    have e3 := cells_at r1 3 _ rfl
    have e4 := cells_at r1 4 _ rfl
    have c1 := hc.below hB1
    have HCK := certFault_any c.au c.rd c.ba c.bc c.bl c.pa c.pc c.pl c.va c.vc c.vl w1 c1.rb.list c1.rp.list c1.nums.ints (by have := c1.nums.le; have := c1.nums.reach; omega)
    rw [Ct.f_v] at HCK
    go_wp2_with fail
    refine HCK.mono ?_
    rintro e w2 ⟨he, hb2⟩
    subst he
    dsimp only
    clear HCK e0 e1 e2 e3 e4 c1
    have hB2 := hB1.trans (hb2.mono hB1.size)
    have s0 := (hb2.block _ (lt_of_heap r0)).trans r0
    have s1 := (hb2.block _ (lt_of_heap r1)).trans r1
    have s2 := (hb2.block _ (lt_of_heap r2)).trans r2
    by_cases hx : c.v.f = 0
    · have HM2 : Hid (insE (cvs ls) c.v = if takF (cvs ls) c.au c.rd (bss c.pl) ≠ 0 then takF (cvs ls) c.au c.rd (bss c.pl) else if 400 ≤ (cvs ls).length then 6 else 0) := by
        show _ = _
        rw [HM.out, if_neg (fun h => h hx)]; rfl
      obtain ⟨y1, y2, y3, y4, y5, y6⟩ := headerF_ok (certF_head (vl := c.vl) (by rw [Ct.f_v]; exact hx))
      have HCO := certOf_any ls sa ls.length cap c.au c.rd w2 rfl (by omega) (hd.certs.below hB2)
      have HT : Hid (takF (cvs ls) c.au c.rd (bss c.pl) = if 0 ≤ cOf (cvs ls) c.au c.rd then 7 else parF (cvs ls) c.rd (bss c.pl)) := rfl
      have hcb := cOf_bounds (cvs ls) c.au c.rd
      rw [hx]
      clear hx y1 y3 y5 y6 HM
      have e0 := cells_at s1 0 _ rfl
      have e1 := cells_at s1 1 _ rfl
      have k0 := cells_at s0 0 _ rfl
      go_wp2_with fail
      refine HCO.mono ?_
      rintro e w2' ⟨he, hw⟩
      subst he hw
      dsimp only
      clear HCO
      have d0 := cells_at s2 0 _ rfl
      have f0 := frozen_at s2 0
      generalize takF (cvs ls) c.au c.rd (bss c.pl) = T at *
      generalize cOf (cvs ls) c.au c.rd = C at *
      by_cases hC : 0 ≤ C
      · have HM3 : Hid (insE (cvs ls) c.v = 7) := by
          show _ = _
          rw [HM2.out, HT.out, if_pos hC]; rfl
        clear HM2 HT
        go_wp2_with fail
        refine bodyPost_ret (v := .tuple #[.agg #[.slice none 0 0], .int .i64 7]) (by simp [results, Tryd.results22, go_sem, d0]) rfl ⟨InAt.err HM3.out (by decide), hB2.setCell HOg _⟩
      · have HM3 : Hid (insE (cvs ls) c.v = if parF (cvs ls) c.rd (bss c.pl) ≠ 0 then parF (cvs ls) c.rd (bss c.pl) else if 400 ≤ (cvs ls).length then 6 else 0) := by
          show _ = _
          rw [HM2.out, HT.out, if_neg hC]
        obtain rfl : C = -1 := by omega
        clear HM2 HT hcb
        have e2 := cells_at s1 2 _ rfl
        have e3 := cells_at s1 3 _ rfl
        have lk : w.heap.size < w2.heap.size := lt_of_heap s0
        have lc : w.heap.size + 1 < w2.heap.size := lt_of_heap s1
        have HDO := digestsOf_any ls sa ls.length cap w2.drew rfl hle (hd.certs.below hB2.drew) (fun x hx => (hd.each x hx).below hB2.drew) HAF.out
        have HPF : Hid (∀ (W : World) (ds : List Part) (ra : Option Addr) (rc : Nat), Below w.heap.size w W → bss ds = (cvs ls).map CV.d → ListAt W ra rc ds → Calls Tryd.prog 32 #[.slice sa ls.length cap, .slice ra ls.length rc, .agg #[.int .i64 c.au, .int .i64 c.rd, .slice c.ba c.bl.length c.bc, .slice c.pa c.pl.length c.pc]] W fun e w' => e = .returned (.int .i64 (parF (cvs ls) c.rd (bss c.pl))) ∧ Below W.heap.size W w') := by
          show ∀ W, _
          intro W ds ra rc hW hS hL
          exact parentsFault_any ls sa ls.length cap ds ra ls.length rc c.au c.rd c.ba _ c.bc c.pl c.pa _ c.pc W rfl rfl rfl hS (by omega) y4 y2 hL.parts (hd.certs.below hW) (hc.below hW).rp.list.parts
        generalize parF (cvs ls) c.rd (bss c.pl) = P at *
        go_wp2_with fail
        go_region_held3 (fun w' => w'.cell? ⟨w.heap.size, 0, none⟩ = some (.slice sa ls.length cap) ∧ w'.cell? ⟨w.heap.size + 1, 0, none⟩ = some (.int .i64 c.au) ∧ w'.cell? ⟨w.heap.size + 1, 1, none⟩ = some (.int .i64 c.rd) ∧ w'.cell? ⟨w.heap.size + 1, 2, none⟩ = some (.slice c.ba c.bl.length c.bc) ∧ w'.cell? ⟨w.heap.size + 1, 3, none⟩ = some (.slice c.pa c.pl.length c.pc)) (go_keep) (first | (go_at_call 32; refine (HPF.out w3 ds ra rc hB3 hDS hDL).mono ?_; rintro e w4 ⟨rfl, hb4⟩; have hC4 := hC3.trans (hb4.mono hC3.size); have z0 := (hC4.cell (p := ⟨w.heap.size, 0, none⟩) lk).trans k0; have z1 := (hC4.cell (p := ⟨w.heap.size + 1, 0, none⟩) lc).trans e0; have z2 := (hC4.cell (p := ⟨w.heap.size + 1, 1, none⟩) lc).trans e1; have z3 := (hC4.cell (p := ⟨w.heap.size + 1, 2, none⟩) lc).trans e2; have z4 := (hC4.cell (p := ⟨w.heap.size + 1, 3, none⟩) lc).trans e3) | (go_at_call 30; refine HDO.mono ?_; rintro e w3 ⟨ra, rc, ds, rfl, hDS, hDL, hb3⟩; have hC3 : Below w2.heap.size w2 w3 := below_drew hb3; have hB3 := hB2.trans (hC3.mono hB2.size); have x0 := (hC3.cell (p := ⟨w.heap.size, 0, none⟩) lk).trans k0; have x1 := (hC3.cell (p := ⟨w.heap.size + 1, 0, none⟩) lc).trans e0; have x2 := (hC3.cell (p := ⟨w.heap.size + 1, 1, none⟩) lc).trans e1; have x3 := (hC3.cell (p := ⟨w.heap.size + 1, 2, none⟩) lc).trans e2; have x4 := (hC3.cell (p := ⟨w.heap.size + 1, 3, none⟩) lc).trans e3))
        all_goals
          have hB4 := hB2.trans (hC4.mono hB2.size)
          clear hDS hDL HDO HPF
          have t0 := (hC4.block _ (lt_of_heap s0)).trans s0
          have t1 := (hC4.block _ (lt_of_heap s1)).trans s1
          have t2 := (hC4.block _ (lt_of_heap s2)).trans s2
          have td0 := cells_at t2 0 _ rfl
          have tf0 := frozen_at t2 0
          by_cases hP : P = 0
          · have HM4 : Hid (insE (cvs ls) c.v = if 400 ≤ (cvs ls).length then 6 else 0) := by
              show _ = _
              rw [HM3.out, if_neg (fun h => h hP)]
            subst hP
            clear HM3
            by_cases hz : 400 ≤ ls.length
            · have HM5 : Hid (insE (cvs ls) c.v = 6) := by
                show _ = _
                rw [HM4.out, cvs_length, if_pos hz]
              have hzI : (400 : Int) ≤ ls.length := by omega
              clear HM4
              go_wp2_with fail
              refine bodyPost_ret (v := .tuple #[.agg #[.slice none 0 0], .int .i64 6]) (by simp [results, Tryd.results22, go_sem, td0]) rfl ⟨InAt.err HM5.out (by decide), hB4.setCell HOg _⟩
            · have HM5 : Hid (insE (cvs ls) c.v = 0) := by
                show _ = _
                rw [HM4.out, cvs_length, if_neg hz]
              have hzI : ¬ (400 : Int) ≤ ls.length := by omega
              clear HM4
              have HDC := dagCopy_own ls sa _ cap w4 rfl (hd.below hB4)
              go_wp2_with fail
              refine HDC.mono ?_
              rintro e w5 ⟨v5, ks, he, hS5, ho5, hap5, hb5⟩
              obtain ⟨ea, ec, hve⟩ := owns_shape ho5
              subst hve
              subst he
              dsimp only
              clear HDC
              have hB5 := hB4.trans (hb5.mono hB4.size)
              have hA5 := (Below.refl w5.heap.size w5).alloc (Nat.le_refl _) (.cells #[.slice ea ls.length ec] 24)
              have b5 := heap_alloc_new w5 (.cells #[.slice ea ls.length ec] 24)
              have u1 := heap_keep (o := (.cells #[.slice ea ls.length ec] 24)) ((hb5.block _ (lt_of_heap t1)).trans t1)
              have u2 := heap_keep (o := (.cells #[.slice ea ls.length ec] 24)) ((hb5.block _ (lt_of_heap t2)).trans t2)
              have Hent2 : Hid _ := enters_of Tryd.func21 (by kernel_rfl) rfl
              have hvB : (Value.slice ea ls.length ec).ownBlock ≠ some w5.heap.size := fun e => by have := (ho5.lt _ e).2; omega
              have hOlt : O < w4.heap.size := lt_of_heap t2
              have hvO : (Value.slice ea ls.length ec).ownBlock ≠ some O := fun e => by have := (ho5.lt _ e).1; omega
              have n0 := cells_at u1 0 _ rfl
              have n1 := cells_at u1 1 _ rfl
              have n2 := cells_at u1 2 _ rfl
              have n3 := cells_at u1 3 _ rfl
              have n4 := cells_at u1 4 _ rfl
              have bc0 := cells_at b5 0 _ rfl
              have bf0 := frozen_at b5 0
              go_wp2_with fail
              generalize w5.alloc (.cells #[.slice ea ls.length ec] 24) = W5 at hA5 b5 u1 u2 n0 n1 n2 n3 n4 bc0 bf0 ⊢
              have hB5A := hB5.trans (hA5.mono hB5.size)
              have hBlt : w5.heap.size < W5.heap.size := lt_of_heap b5
              have ho5A := owns_keep ho5 hA5
              go_region_law (first
                | (refine step_calls rfl 21 _ _ rfl [.agg #[.int .i64 c.au, .int .i64 c.rd, .slice c.ba c.bl.length c.bc, .slice c.pa c.pl.length c.pc, .slice c.va c.vl.length c.vc]] rfl Hent2.out (fun u w9 => ∃ x : Ct, u = .agg #[.int .i64 x.au, .int .i64 x.rd, .slice x.ba x.bl.length x.bc, .slice x.pa x.pl.length x.pc, .slice x.va x.vl.length x.vc] ∧ x.v = c.v ∧ CtAt w9 x ∧ (∀ b, CtIn x b → W5.heap.size ≤ b) ∧ Below W5.heap.size W5 w9) ((certCopy_ct c W5.drew (hc.below hB5A.drew)).mono (fun e w9 ⟨x, he, h1, h2, h3, h4⟩ => ⟨_, he, x, rfl, h1, h2, h3, below_drew h4⟩)) ?_; rintro u w6 ⟨x, rfl, hxv, hxa, hxin, hb6⟩; have v2 := (hb6.block _ (lt_of_heap u2)).trans u2; have vb := (hb6.block _ (lt_of_heap b5)).trans b5; have vbc0 := cells_at vb 0 _ rfl; have vbf0 := frozen_at vb 0; have vbA := cells_at (heap_keep (o := .cells #[.int .i64 x.au, .int .i64 x.rd, .slice x.ba x.bl.length x.bc, .slice x.pa x.pl.length x.pc, .slice x.va x.vl.length x.vc] 35) vb) 0 _ rfl; have ho6 := owns_keep ho5A hb6; have hw6 : w4.heap.size ≤ w6.heap.size := Nat.le_trans (Nat.le_trans hb5.size hA5.size) hb6.size)
                | (refine step_append_at rfl _ _ 22 rfl w4.heap.size 35 i (.agg #[.int .i64 0, .int .i64 0, .slice none 0 0, .slice none 0 0, .slice none 0 0]) 5 88 Tryd.underlying22 hi hz0 hz1 hz2 rfl (by decide) (.slice ea ls.length ec) ls.length (ctv ks) rfl (World.ownsRow.alloc ho6 _) ⟨w6.heap.size, 0, none⟩ 1 1 [.int .i64 x.au, .int .i64 x.rd, .slice x.ba x.bl.length x.bc, .slice x.pa x.pl.length x.pc, .slice x.va x.vl.length x.vc] rfl rfl (cells_new _ _ _) (by intro u hu; simp at hu; rcases hu with rfl | rfl | rfl | rfl | rfl <;> rfl) (by unfold maxLen; omega) (by omega) (le_alloc hw6 _) ?_; intro v7 w7 ho7 G7; have x2 := G7.row (heap_keep v2) hvO; have xd0 := cells_at x2 0 _ rfl; have xf0 := frozen_at x2 0; have xb := G7.row (heap_keep vb) hvB; have xbc0 := cells_at xb 0 _ rfl; have xbf0 := frozen_at xb 0; obtain ⟨fa, fc, hvf⟩ := owns_shape ho7; subst hvf))
              all_goals
                have hapW : ApartC W5 w4.heap.size (.slice ea ls.length ec) ks := fun y hy => ⟨(hap5 y hy).1.below hA5, (hap5 y hy).2⟩
                have hap7 := hapW.more (c := x) (Nat.le_trans hb5.size hA5.size) ho5A hb6 hxin hxa G7
                have hB6 := hB5A.trans (hb6.mono hB5A.size)
                have hw4 : w.heap.size ≤ w4.heap.size := hB4.size
                have hB7 : Below w.heap.size w w7 := Below.grown (hB6.alloc hB6.size _) G7.grown (le_alloc hB6.size _) (fun q e => Nat.le_trans hw4 (ho5.lt q e).1)
                obtain ⟨ra', rc', hv, hl, hL, hfr⟩ := dag_of_owns (ls := ks ++ [x]) (by rw [ctv_snoc]; exact ho7) hap7
                cases hv
                have hLL := hL (by omega)
                have hrB : ∀ sb so, fa = some ⟨sb, so, none⟩ → sb ≠ w5.heap.size := fun sb so e h9 => by
                  rcases G7.fresh sb (by rw [e]; rfl) with g | g
                  · exact hvB (by rw [g, h9])
                  · rw [size_alloc] at g
                    have := hb6.size
                    omega
                have hrO : ∀ sb so, fa = some ⟨sb, so, none⟩ → sb ≠ O := fun sb so e h9 => by have := (hfr sb so e).1; omega
                have hcB : ∀ y ∈ ks ++ [x], ∀ q, CtIn y q → q ≠ w5.heap.size := fun y hy q hq h9 => by
                  rcases List.mem_append.1 hy with hy | hy
                  · have := (hap5 y hy).1.block_lt q hq; omega
                  · obtain rfl : y = x := by simpa using hy
                    have := hxin q hq; omega
                have hcO : ∀ y ∈ ks ++ [x], ∀ q, CtIn y q → q ≠ O := fun y hy q hq h9 => by have := ((hap7 y hy).2 q hq).1; omega
                have hLF := (hLL.far w5.heap.size 0 (.slice fa (ls.length + 1) fc) hrB hcB).far O 0 (.slice fa (ls.length + 1) fc) hrO hcO
                have HL : Hid (ls.length + 1 = (ks ++ [x]).length) := hl
                have HKS : Hid (cvs (ks ++ [x]) = cvs ls ++ [c.v]) := by
                  show _ = _
                  rw [← hS5, ← hxv]
                  simp [cvs]
                have hwb : w.heap.size ≤ w5.heap.size := hB5.size
                have hOB : O ≠ w5.heap.size := by have := hb5.size; omega
                have HR1 : Hid (∀ sb so, fa = some ⟨sb, so, none⟩ → w.heap.size ≤ sb) := by
                  show ∀ sb, _
                  exact fun sb so e => Nat.le_trans hw4 (hfr sb so e).1
                have HR2 : Hid (∀ k ∈ ks ++ [x], ∀ q, CtIn k q → w.heap.size ≤ q) := by
                  show ∀ k, _
                  exact fun k hk q hq => Nat.le_trans hw4 ((hap7 k hk).2 q hq).1
                clear hl hS5 hxv hxin hrB hrO hcB hcO hL hfr
                go_wp2_with fail
                refine bodyPost_ret (v := .tuple #[.agg #[.slice fa (ls.length + 1) fc], .int .i64 0]) (by simp [results, Tryd.results22, go_sem, xd0]) rfl ⟨.inr ⟨HM5.out, fa, fc, ks ++ [x], by rw [HL.out], HKS.out, hLF, HR1.out, HR2.out⟩, (hB7.setCell hwb _).setCell HOg _⟩
          · have HM4 : Hid (insE (cvs ls) c.v = P) := by
              show _ = _
              rw [HM3.out, if_pos hP]
            have HTN : Hid (P ≠ 0) := hP
            have hPn : (P == 0) = false := by simpa using hP
            have hPm : (P != 0) = true := by simpa using hP
            clear HM3
            go_wp2_with fail
            refine bodyPost_ret (v := .tuple #[.agg #[.slice none 0 0], .int .i64 P]) (by simp [results, Tryd.results22, go_sem, td0]) rfl ⟨InAt.err HM4.out HTN.out, hB4.setCell HOg _⟩
    · have HM2 : Hid (insE (cvs ls) c.v = c.v.f) := by
        show _ = _
        rw [HM.out, if_pos hx]
      have HTN : Hid (c.v.f ≠ 0) := hx
      have hxe : (c.v.f == 0) = false := by simpa using hx
      have hxn : (c.v.f != 0) = true := by simpa using hx
      have d0 := cells_at s2 0 _ rfl
      have f0 := frozen_at s2 0
      clear HM
      generalize c.v.f = x at *
      go_wp2_with fail
      refine bodyPost_ret (v := .tuple #[.agg #[.slice none 0 0], .int .i64 x]) (by simp [results, Tryd.results22, go_sem, d0]) rfl ⟨InAt.err HM2.out HTN.out, hB2.setCell HOg _⟩
  · have HM : Hid (insE (cvs ls) c.v = 12) := by
      show _ = _
      rw [insE, hF]; rfl
    rw [hF]
    clear hF
    have d0 := cells_at r2 0 _ rfl
    have f0 := frozen_at r2 0
    go_wp2_with fail
    refine bodyPost_ret (v := .tuple #[.agg #[.slice none 0 0], .int .i64 12]) (by simp [results, Tryd.results22, go_sem, d0]) rfl ⟨InAt.err HM.out (by decide), hB1.setCell HOg _⟩
end Go.Proofs.YtgbomdikhidkoaaDoor
