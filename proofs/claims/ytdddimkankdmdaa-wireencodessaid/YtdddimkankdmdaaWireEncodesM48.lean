/- sheaveslaw.sameMessage: of equal ones. -/
import Derived.Test.YtdddimkankdmdaaWireEncodesM0
import Derived.Test.YtdddimkankdmdaaWireEncodesM42
import Derived.Test.YtdddimkankdmdaaStrsAt
import Derived.Test.YtdddimkankdmdaaSx
import Derived.Deep.RegionHeld3
import Derived.Test.YtdddimkankdmdaaWireEncodesM18
import Derived.RegionTactic
import Derived.Test.YtdddimkankdmdaaIntsL
import Derived.Test.YtdddimkankdmdaaApp
import Derived.Deep.CutRange
import Derived.Deep.DeepCutAuto
namespace Go.Proofs.Ytdddimkankdmdaa
open Go.RowKit

set_option maxRecDepth 100000 in
theorem headerF_sameM {au rd : Int} {xl bl yl pl : List Part} (h1 : Same xl bl) (h2 : Same yl pl) : headerF au rd xl yl = headerF au rd bl pl := by
  rw [headerF, headerF, digF_same h1, digF_same h2, h1.length, h2.length]
set_option maxRecDepth 100000 in
theorem certF_sameM {au rd : Int} {xl bl yl pl : List Part} {vl : List Int} (h1 : Same xl bl) (h2 : Same yl pl) : certF au rd xl yl vl = certF au rd bl pl vl := by
  rw [certF, certF, headerF_sameM h1 h2]
/-- The same message elsewhere in memory. -/
def moved (m : Msg) (xa ya za ua va qa ra : Option Addr) (xc yc zc uc vc qc rc : Nat) : Msg := { m with bta := xa, btc := xc, hba := ya, hbc := yc, hpa := za, hpc := zc, sda := ua, sdc := uc, cba := va, cbc := vc, cpa := qa, cpc := qc, cva := ra, cvc := rc }
set_option maxRecDepth 100000 in
theorem moved_check (m : Msg) (xa ya za ua va qa ra : Option Addr) (xc yc zc uc vc qc rc : Nat) (e : Int) : checkF (moved m xa ya za ua va qa ra xc yc zc uc vc qc rc) e = checkF m e := by
  have h : msgEmpty (strip (moved m xa ya za ua va qa ra xc yc zc uc vc qc rc)) = msgEmpty (strip m) := by
    by_cases k1 : m.ki = 1
    · simp [strip, moved, msgEmpty, k1]
    by_cases k2 : m.ki = 2
    · simp [strip, moved, msgEmpty, k2]
    by_cases k3 : m.ki = 3
    · simp [strip, moved, msgEmpty, k3]
    by_cases k4 : m.ki = 4
    · simp [strip, moved, msgEmpty, k4]
    · simp [strip, moved, msgEmpty, k1, k2, k3, k4]
  rw [checkF, checkF, h]
  rfl
set_option maxRecDepth 100000 in
theorem moved_carried (m : Msg) (xa ya za ua va qa ra : Option Addr) (xc yc zc uc vc qc rc : Nat) (ss : List ByteArray) (yl zl xl ql bl pl cbl cpl : List Part) (vl : List Int) (h1 : Same yl bl) (h2 : Same zl pl) (h3 : Same xl cbl) (h4 : Same ql cpl) :
    carriedF (moved m xa ya za ua va qa ra xc yc zc uc vc qc rc) ss yl zl xl ql vl = carriedF m ss bl pl cbl cpl vl := by
  rw [carriedF, carriedF, headerF_sameM h1 h2, certF_sameM h3 h4]
  rfl
set_option maxRecDepth 100000 in
theorem MsgIn.toAt {w : World} {m : Msg} {ss : List ByteArray} {bl pl cbl cpl : List Part} {ds vl : List Int} (h : MsgIn w m ss bl pl cbl cpl ds vl) : MsgAt w m ss bl pl cbl cpl vl :=
  ⟨h.e1, h.e2, h.e3, h.e4, h.e5, h.e6, by have := h.txs.le; have := h.txs.reach; omega, by have := h.votr; omega, by have := h.e7; have := h.dig.le; have := h.digr; omega, h.txs.strs, h.bat.list, h.par.list, h.cbat.list, h.cpar.list, h.vot⟩
end Go.Proofs.Ytdddimkankdmdaa

namespace Go.Proofs.Ytdddimkankdmdaa
open Go.RowKit

set_option maxRecDepth 100000 in
set_option maxHeartbeats 1000000 in
theorem sameTextsL_eq (xs : List ByteArray) (sa sb : Option Addr) (n m c d : Nat) (w : World) (hn : n = xs.length) (hm : m = xs.length) (hl : n ≤ maxLen) (ha : StrsAt w sa xs) (hb : StrsAt w sb xs) :
    Calls Try.prog 40 #[.slice sa n c, .slice sb m d] w fun e w' => e = .returned (.bool true) ∧ Below w.heap.size w w' := by
  subst hn hm
  unfold maxLen at hl
  go_enter Try.func40, Try.ntmps40
  go_wp2_with fail
  go_loopw [5] (fun j wr => ∃ k : Nat, k ≤ xs.length ∧ j = .int .i64 k ∧ Below w.heap.size w wr) (fun j _ => xs.length - (intOf j).toNat)
  case atStart => exact ⟨0, Nat.zero_le _, rfl, Below.refl _ _⟩
  case round =>
    obtain ⟨k, hk, rfl, hbw⟩ := hrel
    by_cases hlt : k < xs.length
    · obtain ⟨ab, ao, rfl, hca⟩ : ∃ ab ao, sa = some ⟨ab, ao, none⟩ ∧ ∀ j, j < xs.length → w.cell? ⟨ab, ao + j, none⟩ = some (.string (xs.getD j ByteArray.empty)) := by
        rcases ha.cells with h | h
        · rw [h] at hlt; simp at hlt
        · exact h
      obtain ⟨bb, bo, rfl, hcb⟩ : ∃ bb bo, sb = some ⟨bb, bo, none⟩ ∧ ∀ j, j < xs.length → w.cell? ⟨bb, bo + j, none⟩ = some (.string (xs.getD j ByteArray.empty)) := by
        rcases hb.cells with h | h
        · rw [h] at hlt; simp at hlt
        · exact h
      have ka := (hbw.cell (p := ⟨ab, ao + k, none⟩) (block_lt_of_cell (hca k hlt))).trans (hca k hlt)
      have kb := (hbw.cell (p := ⟨bb, bo + k, none⟩) (block_lt_of_cell (hcb k hlt))).trans (hcb k hlt)
      have hltI : (k : Int) < xs.length := by omega
      have h0 : (0 : Int) ≤ k := by omega
      clear hca hcb
      generalize xs.getD k ByteArray.empty = x at *
      go_wp2_with fail
      go_region_held3 (fun w' => w'.cell? ⟨ab, ao + k, none⟩ = some (.string x) ∧ w'.cell? ⟨bb, bo + k, none⟩ = some (.string x)) (go_keep) (fail)
      all_goals
        go_wp2_with fail
        go_roundw
        case rel =>
          have hR : ∃ k' : Nat, k' ≤ xs.length ∧ (Value.int .i64 ((k : Int) + 1)) = .int .i64 k' ∧ Below w.heap.size w wr.drew := ⟨k + 1, by omega, by go_num, hbw.drew⟩
          first | exact hR | ((repeat apply Exists.intro); exact ⟨hR, rfl⟩)
        case measure => simp [intOf]; omega
    · obtain rfl : k = xs.length := by omega
      have hltI : ¬ (xs.length : Int) < xs.length := by omega
      go_wp2_with fail
      go_ret
      exact ⟨rfl, hbw⟩
set_option maxRecDepth 100000 in
set_option maxHeartbeats 400000 in
theorem sameBatchL_eq (au nu : Int) (xs : List ByteArray) (sa sb : Option Addr) (n m c d : Nat) (w : World) (hn : n = xs.length) (hm : m = xs.length) (hl : n ≤ maxLen) (ha : StrsAt w sa xs) (hb : StrsAt w sb xs) :
    Calls Try.prog 23 #[.agg #[.int .i64 au, .int .i64 nu, .slice sa n c], .agg #[.int .i64 au, .int .i64 nu, .slice sb m d]] w fun e w' => e = .returned (.bool true) ∧ Below w.heap.size w w' := by
  have hA : Below w.heap.size w ((w.alloc (.cells #[.int .i64 au, .int .i64 nu, .slice sa n c] 24)).alloc (.cells #[.int .i64 au, .int .i64 nu, .slice sb m d] 24)) := ((Below.refl _ _).alloc (Nat.le_refl _) _).alloc (by simp) _
  have hT := sameTextsL_eq xs sa sb n m c d _ hn hm hl (ha.below hA) (hb.below hA)
  clear hn hm hl
  go_enter Try.func23, Try.ntmps23
  go_wp2_with fail
  refine hT.mono ?_
  rintro e w1 ⟨he, hb1⟩
  subst he
  dsimp only
  go_wp2_with fail
  go_ret
  exact ⟨rfl, below_alloc (below_alloc hb1)⟩
end Go.Proofs.Ytdddimkankdmdaa

namespace Go.Proofs.Ytdddimkankdmdaa
open Go.RowKit

set_option maxRecDepth 100000 in
set_option maxHeartbeats 1000000 in
theorem sameListsL_eq (ps qs : List Part) (sa sb : Option Addr) (c d : Nat) (w : World) (hS : Same ps qs) (ha : ListAt w sa c ps) (hb : ListAt w sb d qs) :
    Calls Try.prog 41 #[.slice sa qs.length c, .slice sb qs.length d] w fun e w' => e = .returned (.bool true) ∧ Below w.heap.size w w' := by
  have hl := hS.length
  have hF : Hid (ps.length = qs.length) := hl
  have HS : Hid _ := hS
  have hsm := hb.small
  clear hl hS
  go_enter Try.func41, Try.ntmps41
  go_wp2_with fail
  go_loopw [5] (fun j wr => ∃ k : Nat, k ≤ qs.length ∧ j = .int .i64 k ∧ Below w.heap.size w wr) (fun j _ => qs.length - (intOf j).toNat)
  case atStart => exact ⟨0, Nat.zero_le _, rfl, Below.refl _ _⟩
  case round =>
    obtain ⟨k, hk, rfl, hbw⟩ := hrel
    by_cases hlt2 : k < qs.length
    · have hlt : k < ps.length := by have := hF.out; omega
      obtain ⟨ab, ao, rfl, hca⟩ : ∃ ab ao, sa = some ⟨ab, ao, none⟩ ∧ ∀ j (h : j < ps.length), w.cell? ⟨ab, ao + j, none⟩ = some (.slice (ps[j]).sa (ps[j]).bs.length (ps[j]).cap) := by
        rcases ha.parts.cells with h | h
        · subst h; simp at hlt
        · exact h
      obtain ⟨bb, bo, rfl, hcb⟩ : ∃ bb bo, sb = some ⟨bb, bo, none⟩ ∧ ∀ j (h : j < qs.length), w.cell? ⟨bb, bo + j, none⟩ = some (.slice (qs[j]).sa (qs[j]).bs.length (qs[j]).cap) := by
        rcases hb.parts.cells with h | h
        · subst h; simp at hlt2
        · exact h
      have ka := (hbw.cell (p := ⟨ab, ao + k, none⟩) (block_lt_of_cell (hca k hlt))).trans (hca k hlt)
      have kb := (hbw.cell (p := ⟨bb, bo + k, none⟩) (block_lt_of_cell (hcb k hlt2))).trans (hcb k hlt2)
      have hpa := ((ha.parts.each ps[k] (List.getElem_mem hlt)).below hbw).below (Below.refl _ _).drew
      have hpb := ((hb.parts.each qs[k] (List.getElem_mem hlt2)).below hbw).below (Below.refl _ _).drew
      have hpq : (ps[k]).bs = (qs[k]).bs := by
        have h1 : (ps.map (·.bs))[k]? = (qs.map (·.bs))[k]? := by rw [show ps.map (·.bs) = qs.map (·.bs) from HS.out]
        simpa [hlt, hlt2] using h1
      have hltI : (k : Int) < qs.length := by omega
      have h0 : (0 : Int) ≤ k := by omega
      clear hca hcb
      generalize ps[k] = p at *
      generalize qs[k] = q at *
      obtain ⟨pa, pc, pb⟩ := p
      obtain ⟨qa, qc, qb⟩ := q
      simp only at hpq ka kb hpa hpb
      subst hpq
      have t1 := run_text wr.drew pa pb.length pc pb rfl hpa
      have t2 := run_text wr.drew qa pb.length qc pb rfl hpb
      generalize bstr pb = S at *
      go_wp2_with fail
      go_region
      all_goals
        go_wp2_with fail
        go_roundw
        case rel =>
          have hR : ∃ k' : Nat, k' ≤ qs.length ∧ (Value.int .i64 ((k : Int) + 1)) = .int .i64 k' ∧ Below w.heap.size w wr.drew := ⟨k + 1, by omega, by go_num, hbw.drew⟩
          first | exact hR | ((repeat apply Exists.intro); exact ⟨hR, rfl⟩)
        case measure => simp [intOf]; omega
    · obtain rfl : k = qs.length := by omega
      have hltI : ¬ (qs.length : Int) < qs.length := by omega
      go_wp2_with fail
      go_ret
      exact ⟨rfl, hbw⟩
set_option maxRecDepth 100000 in
set_option maxHeartbeats 1000000 in
theorem sameHeaderL_eq (au rd : Int) (xa : Option Addr) (xc : Nat) (xl : List Part) (ya : Option Addr) (yc : Nat) (yl : List Part) (ba : Option Addr) (bc : Nat) (bl : List Part) (pa : Option Addr) (pc : Nat) (pl : List Part) (w : World) (s1 : Same xl bl) (s2 : Same yl pl) (h1 : ListAt w xa xc xl) (h2 : ListAt w ya yc yl) (h3 : ListAt w ba bc bl) (h4 : ListAt w pa pc pl) :
    Calls Try.prog 24 #[.agg #[.int .i64 au, .int .i64 rd, .slice xa bl.length xc, .slice ya pl.length yc], .agg #[.int .i64 au, .int .i64 rd, .slice ba bl.length bc, .slice pa pl.length pc]] w fun e w' => e = .returned (.bool true) ∧ Below w.heap.size w w' := by
  have hA : Below w.heap.size w ((w.alloc (.cells #[.int .i64 au, .int .i64 rd, .slice xa bl.length xc, .slice ya pl.length yc] 27)).alloc (.cells #[.int .i64 au, .int .i64 rd, .slice ba bl.length bc, .slice pa pl.length pc] 27)) := ((Below.refl _ _).alloc (Nat.le_refl _) _).alloc (by simp) _
  have hB : ∀ wx, Below w.heap.size w wx → _ := fun wx h => sameListsL_eq xl bl xa ba xc bc wx s1 (h1.below h) (h3.below h)
  have hP : ∀ wx, Below w.heap.size w wx → _ := fun wx h => sameListsL_eq yl pl ya pa yc pc wx s2 (h2.below h) (h4.below h)
  have HB : Hid _ := hB
  have HP : Hid _ := hP
  clear hB hP h1 h2 h3 h4 s1 s2
  go_enter Try.func24, Try.ntmps24
  go_wp2_with fail
  refine (HB.out _ hA).mono ?_
  rintro e w1 ⟨rfl, hb1⟩
  have r1 := row_new hb1
  have r0 := row_new (below_alloc hb1)
  rw [size_alloc] at r1
  replace hb1 := below_alloc (below_alloc hb1)
  have c3 : w1.cell? ⟨w.heap.size, 3, none⟩ = some (.slice ya pl.length yc) := cells_at r0 3 _ rfl
  have d3 : w1.cell? ⟨w.heap.size + 1, 3, none⟩ = some (.slice pa pl.length pc) := cells_at r1 3 _ rfl
  go_wp2_with fail
  refine (HP.out _ hb1).mono ?_
  rintro e w2 ⟨rfl, hb2⟩
  go_wp2_with fail
  go_ret
  exact ⟨rfl, hb1.trans (hb2.mono hb1.size)⟩
end Go.Proofs.Ytdddimkankdmdaa

namespace Go.Proofs.Ytdddimkankdmdaa
open Go.RowKit

set_option maxRecDepth 100000 in
set_option maxHeartbeats 1000000 in
theorem sameIntsL_eq (vl : List Int) (sa sb : Option Addr) (c d : Nat) (w : World) (hl : vl.length ≤ 9000000000000000000) (ha : IntsAt w sa vl) (hb : IntsAt w sb vl) :
    Calls Try.prog 42 #[.slice sa vl.length c, .slice sb vl.length d] w fun e w' => e = .returned (.bool true) ∧ Below w.heap.size w w' := by
  go_enter Try.func42, Try.ntmps42
  go_wp2_with fail
  go_loopw [5] (fun j wr => ∃ k : Nat, k ≤ vl.length ∧ j = .int .i64 k ∧ Below w.heap.size w wr) (fun j _ => vl.length - (intOf j).toNat)
  case atStart => exact ⟨0, Nat.zero_le _, rfl, Below.refl _ _⟩
  case round =>
    obtain ⟨k, hk, rfl, hbw⟩ := hrel
    by_cases hlt2 : k < vl.length
    · obtain ⟨ab, ao, rfl, hca⟩ : ∃ ab ao, sa = some ⟨ab, ao, none⟩ ∧ ∀ j, j < vl.length → wr.cell? ⟨ab, ao + j, none⟩ = some (.int .i64 (vl.getD j 0)) := by
        rcases (ha.below hbw).cells with h | h
        · subst h; simp at hlt2
        · exact h
      obtain ⟨bb, bo, rfl, hcb⟩ : ∃ bb bo, sb = some ⟨bb, bo, none⟩ ∧ ∀ j, j < vl.length → wr.cell? ⟨bb, bo + j, none⟩ = some (.int .i64 (vl.getD j 0)) := by
        rcases (hb.below hbw).cells with h | h
        · subst h; simp at hlt2
        · exact h
      have ka := hca k hlt2
      have kb := hcb k hlt2
      have hltI : (k : Int) < vl.length := by omega
      have h0 : (0 : Int) ≤ k := by omega
      clear hca hcb
      generalize vl.getD k 0 = x at *
      go_wp2_with fail
      go_region
      all_goals
        go_wp2_with fail
        go_roundw
        case rel =>
          have hR : ∃ k' : Nat, k' ≤ vl.length ∧ (Value.int .i64 ((k : Int) + 1)) = .int .i64 k' ∧ Below w.heap.size w wr.drew := ⟨k + 1, by omega, by go_num, hbw.drew⟩
          first | exact hR | ((repeat apply Exists.intro); exact ⟨hR, rfl⟩)
        case measure => simp [intOf]; omega
    · obtain rfl : k = vl.length := by omega
      have hltI : ¬ (vl.length : Int) < vl.length := by omega
      go_wp2_with fail
      go_ret
      exact ⟨rfl, hbw⟩
set_option maxRecDepth 100000 in
set_option maxHeartbeats 1000000 in
theorem sameCertR_eq (au rd : Int) (xa : Option Addr) (xc : Nat) (xl : List Part) (ya : Option Addr) (yc : Nat) (yl : List Part) (za : Option Addr) (zc : Nat) (zl : List Int) (ba : Option Addr) (bc : Nat) (bl : List Part) (pa : Option Addr) (pc : Nat) (pl : List Part) (va : Option Addr) (vc : Nat) (w : World) (S1 : Same xl bl) (S2 : Same yl pl) (hl : zl.length ≤ 9000000000000000000) (a1 : ListAt w xa xc xl) (a2 : ListAt w ya yc yl) (a3 : IntsAt w za zl) (b1 : ListAt w ba bc bl) (b2 : ListAt w pa pc pl) (b3 : IntsAt w va zl) :
    Calls Try.prog 26 #[.agg #[.int .i64 au, .int .i64 rd, .slice xa xl.length xc, .slice ya yl.length yc, .slice za zl.length zc], .agg #[.int .i64 au, .int .i64 rd, .slice ba bl.length bc, .slice pa pl.length pc, .slice va zl.length vc]] w fun e w' => e = .returned (.bool true) ∧ Below w.heap.size w w' := by
  rw [S1.length, S2.length]
  have hA : Below w.heap.size w ((w.alloc (.cells #[.int .i64 au, .int .i64 rd, .slice xa bl.length xc, .slice ya pl.length yc, .slice za zl.length zc] 33)).alloc (.cells #[.int .i64 au, .int .i64 rd, .slice ba bl.length bc, .slice pa pl.length pc, .slice va zl.length vc] 33)) := ((Below.refl _ _).alloc (Nat.le_refl _) _).alloc (by rw [size_alloc]; omega) _
  have q0 := heap_alloc2_old w (.cells #[.int .i64 au, .int .i64 rd, .slice xa bl.length xc, .slice ya pl.length yc, .slice za zl.length zc] 33) (.cells #[.int .i64 au, .int .i64 rd, .slice ba bl.length bc, .slice pa pl.length pc, .slice va zl.length vc] 33)
  have q1 : ((w.alloc (.cells #[.int .i64 au, .int .i64 rd, .slice xa bl.length xc, .slice ya pl.length yc, .slice za zl.length zc] 33)).alloc (.cells #[.int .i64 au, .int .i64 rd, .slice ba bl.length bc, .slice pa pl.length pc, .slice va zl.length vc] 33)).heap[w.heap.size + 1]? = some (.cells #[.int .i64 au, .int .i64 rd, .slice ba bl.length bc, .slice pa pl.length pc, .slice va zl.length vc] 33 (0, 0)) := by
    have := heap_alloc_new (w.alloc (.cells #[.int .i64 au, .int .i64 rd, .slice xa bl.length xc, .slice ya pl.length yc, .slice za zl.length zc] 33)) (.cells #[.int .i64 au, .int .i64 rd, .slice ba bl.length bc, .slice pa pl.length pc, .slice va zl.length vc] 33)
    rw [size_alloc] at this; exact this
  have HS1 : Hid _ := S1
  have HS2 : Hid _ := S2
  clear S1 S2
  go_enter Try.func26, Try.ntmps26
  go_wp2_with fail
  generalize (w.alloc (.cells #[.int .i64 au, .int .i64 rd, .slice xa bl.length xc, .slice ya pl.length yc, .slice za zl.length zc] 33)).alloc (.cells #[.int .i64 au, .int .i64 rd, .slice ba bl.length bc, .slice pa pl.length pc, .slice va zl.length vc] 33) = W0 at hA q0 q1 ⊢
  refine (sameHeaderL_eq au rd xa xc xl ya yc yl ba bc bl pa pc pl W0 HS1.out HS2.out (a1.below hA) (a2.below hA) (b1.below hA) (b2.below hA)).mono ?_
  rintro e w1 ⟨he, hb1⟩
  subst he
  dsimp only
  have r0 := (hb1.block _ (lt_of_heap q0)).trans q0
  have r1 := (hb1.block _ (lt_of_heap q1)).trans q1
  have k4 := cells_at r0 4 _ rfl
  have m4 := cells_at r1 4 _ rfl
  have hB1 := hA.trans (hb1.mono hA.size)
  go_wp2_with fail
  refine (sameIntsL_eq zl za va zc vc w1 hl (a3.below hB1) (b3.below hB1)).mono ?_
  rintro e w2 ⟨he, hb2⟩
  subst he
  dsimp only
  go_wp2_with fail
  go_ret
  exact ⟨rfl, hB1.trans (hb2.mono hB1.size)⟩
end Go.Proofs.Ytdddimkankdmdaa

namespace Go.Proofs.Ytdddimkankdmdaa
open Go.RowKit

set_option maxRecDepth 100000 in
set_option maxHeartbeats 1000000 in
theorem sameSlotL_eq (au rd : Int) (bs : List Int) (sa sb : Option Addr) (n m c d : Nat) (w : World) (hn : n = bs.length) (hm : m = bs.length) (ha : SliceAt w sa c bs) (hb : SliceAt w sb d bs) :
    Calls Try.prog 25 #[.agg #[.int .i64 au, .int .i64 rd, .slice sa n c], .agg #[.int .i64 au, .int .i64 rd, .slice sb m d]] w fun e w' => e = .returned (.bool true) ∧ Below w.heap.size w w' := by
  have hA : Below w.heap.size w ((w.alloc (.cells #[.int .i64 au, .int .i64 rd, .slice sa n c] 30)).alloc (.cells #[.int .i64 au, .int .i64 rd, .slice sb m d] 30)) := ((Below.refl _ _).alloc (Nat.le_refl _) _).alloc (by simp) _
  have h1 := run_text _ sa n c bs hn (ha.below hA)
  have h2 := run_text _ sb m d bs hm (hb.below hA)
  clear hn hm ha hb
  generalize bstr bs = A at *
  go_enter Try.func25, Try.ntmps25
  go_wp2_with fail
  go_ret
  exact ⟨by first | rfl | simp, hA⟩
end Go.Proofs.Ytdddimkankdmdaa

namespace Go.Proofs.Ytdddimkankdmdaa
open Go.RowKit

set_option maxRecDepth 100000 in
set_option maxHeartbeats 4000000 in
theorem sameMsg_eq (fr tt ki bau bnu hau hrd sau srd cau crd ro : Int) (a1 a2 a3 a4 a5 a6 a7 b1 b2 b3 b4 b5 b6 b7 : Option Addr) (c1 c2 c3 c4 c5 c6 c7 d1 d2 d3 d4 d5 d6 d7 : Nat) (ss : List ByteArray) (yl zl xl ql bl pl cbl cpl : List Part) (ds vl : List Int) (w : World)
    (s1 : Same yl bl) (s2 : Same zl pl) (s3 : Same xl cbl) (s4 : Same ql cpl) (hl1 : ss.length ≤ 9000000000000000000) (hl7 : vl.length ≤ 9000000000000000000)
    (h1 : StrsAt w a1 ss) (h2 : ListAt w a2 c2 yl) (h3 : ListAt w a3 c3 zl) (h4 : SliceAt w a4 c4 ds) (h5 : ListAt w a5 c5 xl) (h6 : ListAt w a6 c6 ql) (h7 : IntsAt w a7 vl)
    (k1 : StrsAt w b1 ss) (k2 : ListAt w b2 d2 bl) (k3 : ListAt w b3 d3 pl) (k4 : SliceAt w b4 d4 ds) (k5 : ListAt w b5 d5 cbl) (k6 : ListAt w b6 d6 cpl) (k7 : IntsAt w b7 vl) :
    Calls Try.prog 7 #[.agg #[.int .i64 fr, .int .i64 tt, .int .i64 ki, .int .i64 bau, .int .i64 bnu, .slice a1 ss.length c1, .int .i64 hau, .int .i64 hrd, .slice a2 bl.length c2, .slice a3 pl.length c3, .int .i64 sau, .int .i64 srd, .slice a4 ds.length c4, .int .i64 cau, .int .i64 crd, .slice a5 cbl.length c5, .slice a6 cpl.length c6, .slice a7 vl.length c7, .int .i64 ro], .agg #[.int .i64 fr, .int .i64 tt, .int .i64 ki, .int .i64 bau, .int .i64 bnu, .slice b1 ss.length d1, .int .i64 hau, .int .i64 hrd, .slice b2 bl.length d2, .slice b3 pl.length d3, .int .i64 sau, .int .i64 srd, .slice b4 ds.length d4, .int .i64 cau, .int .i64 crd, .slice b5 cbl.length d5, .slice b6 cpl.length d6, .slice b7 vl.length d7, .int .i64 ro]] w fun e w' => e = .returned (.bool true) ∧ Below w.heap.size w w' := by
  have hA : Below w.heap.size w ((w.alloc (.cells #[.int .i64 fr, .int .i64 tt, .int .i64 ki, .int .i64 bau, .int .i64 bnu, .slice a1 ss.length c1, .int .i64 hau, .int .i64 hrd, .slice a2 bl.length c2, .slice a3 pl.length c3, .int .i64 sau, .int .i64 srd, .slice a4 ds.length c4, .int .i64 cau, .int .i64 crd, .slice a5 cbl.length c5, .slice a6 cpl.length c6, .slice a7 vl.length c7, .int .i64 ro] 35)).alloc (.cells #[.int .i64 fr, .int .i64 tt, .int .i64 ki, .int .i64 bau, .int .i64 bnu, .slice b1 ss.length d1, .int .i64 hau, .int .i64 hrd, .slice b2 bl.length d2, .slice b3 pl.length d3, .int .i64 sau, .int .i64 srd, .slice b4 ds.length d4, .int .i64 cau, .int .i64 crd, .slice b5 cbl.length d5, .slice b6 cpl.length d6, .slice b7 vl.length d7, .int .i64 ro] 35)) := ((Below.refl _ _).alloc (Nat.le_refl _) _).alloc (by simp) _
  have r0 := heap_alloc2_old w (.cells #[.int .i64 fr, .int .i64 tt, .int .i64 ki, .int .i64 bau, .int .i64 bnu, .slice a1 ss.length c1, .int .i64 hau, .int .i64 hrd, .slice a2 bl.length c2, .slice a3 pl.length c3, .int .i64 sau, .int .i64 srd, .slice a4 ds.length c4, .int .i64 cau, .int .i64 crd, .slice a5 cbl.length c5, .slice a6 cpl.length c6, .slice a7 vl.length c7, .int .i64 ro] 35) (.cells #[.int .i64 fr, .int .i64 tt, .int .i64 ki, .int .i64 bau, .int .i64 bnu, .slice b1 ss.length d1, .int .i64 hau, .int .i64 hrd, .slice b2 bl.length d2, .slice b3 pl.length d3, .int .i64 sau, .int .i64 srd, .slice b4 ds.length d4, .int .i64 cau, .int .i64 crd, .slice b5 cbl.length d5, .slice b6 cpl.length d6, .slice b7 vl.length d7, .int .i64 ro] 35)
  have r1 := heap_alloc2_new w (.cells #[.int .i64 fr, .int .i64 tt, .int .i64 ki, .int .i64 bau, .int .i64 bnu, .slice a1 ss.length c1, .int .i64 hau, .int .i64 hrd, .slice a2 bl.length c2, .slice a3 pl.length c3, .int .i64 sau, .int .i64 srd, .slice a4 ds.length c4, .int .i64 cau, .int .i64 crd, .slice a5 cbl.length c5, .slice a6 cpl.length c6, .slice a7 vl.length c7, .int .i64 ro] 35) (.cells #[.int .i64 fr, .int .i64 tt, .int .i64 ki, .int .i64 bau, .int .i64 bnu, .slice b1 ss.length d1, .int .i64 hau, .int .i64 hrd, .slice b2 bl.length d2, .slice b3 pl.length d3, .int .i64 sau, .int .i64 srd, .slice b4 ds.length d4, .int .i64 cau, .int .i64 crd, .slice b5 cbl.length d5, .slice b6 cpl.length d6, .slice b7 vl.length d7, .int .i64 ro] 35)
  have H1 : Hid (∀ W : World, Below w.heap.size w W → Calls Try.prog 23 #[.agg #[.int .i64 bau, .int .i64 bnu, .slice a1 ss.length c1], .agg #[.int .i64 bau, .int .i64 bnu, .slice b1 ss.length d1]] W fun e w' => e = .returned (.bool true) ∧ Below W.heap.size W w') := by
    show ∀ _, _
    intro W hW
    exact sameBatchL_eq bau bnu ss a1 b1 _ _ c1 d1 W rfl rfl (by unfold maxLen; omega) (h1.below hW) (k1.below hW)
  have H2 : Hid (∀ W : World, Below w.heap.size w W → Calls Try.prog 24 #[.agg #[.int .i64 hau, .int .i64 hrd, .slice a2 bl.length c2, .slice a3 pl.length c3], .agg #[.int .i64 hau, .int .i64 hrd, .slice b2 bl.length d2, .slice b3 pl.length d3]] W fun e w' => e = .returned (.bool true) ∧ Below W.heap.size W w') := by
    show ∀ _, _
    intro W hW
    exact sameHeaderL_eq hau hrd a2 c2 yl a3 c3 zl b2 d2 bl b3 d3 pl W s1 s2 (h2.below hW) (h3.below hW) (k2.below hW) (k3.below hW)
  have H3 : Hid (∀ W : World, Below w.heap.size w W → Calls Try.prog 25 #[.agg #[.int .i64 sau, .int .i64 srd, .slice a4 ds.length c4], .agg #[.int .i64 sau, .int .i64 srd, .slice b4 ds.length d4]] W fun e w' => e = .returned (.bool true) ∧ Below W.heap.size W w') := by
    show ∀ _, _
    intro W hW
    exact sameSlotL_eq sau srd ds a4 b4 _ _ c4 d4 W rfl rfl (h4.below hW) (k4.below hW)
  have H4 : Hid (∀ W : World, Below w.heap.size w W → Calls Try.prog 26 #[.agg #[.int .i64 cau, .int .i64 crd, .slice a5 cbl.length c5, .slice a6 cpl.length c6, .slice a7 vl.length c7], .agg #[.int .i64 cau, .int .i64 crd, .slice b5 cbl.length d5, .slice b6 cpl.length d6, .slice b7 vl.length d7]] W fun e w' => e = .returned (.bool true) ∧ Below W.heap.size W w') := by
    show ∀ _, _
    intro W hW
    have := sameCertR_eq cau crd a5 c5 xl a6 c6 ql a7 c7 vl b5 d5 cbl b6 d6 cpl b7 d7 W s3 s4 hl7 (h5.below hW) (h6.below hW) (h7.below hW) (k5.below hW) (k6.below hW) (k7.below hW)
    rw [s3.length, s4.length] at this
    exact this
  clear s1 s2 s3 s4 hl1 hl7 h1 h2 h3 h4 h5 h6 h7 k1 k2 k3 k4 k5 k6 k7
  generalize ss.length = n1 at *
  generalize bl.length = n2 at *
  generalize pl.length = n3 at *
  generalize ds.length = n4 at *
  generalize cbl.length = n5 at *
  generalize cpl.length = n6 at *
  generalize vl.length = n7 at *
  go_enter Try.func7, Try.ntmps7
  go_upto_region 1 with fail
  generalize (w.alloc (.cells #[.int .i64 fr, .int .i64 tt, .int .i64 ki, .int .i64 bau, .int .i64 bnu, .slice a1 n1 c1, .int .i64 hau, .int .i64 hrd, .slice a2 n2 c2, .slice a3 n3 c3, .int .i64 sau, .int .i64 srd, .slice a4 n4 c4, .int .i64 cau, .int .i64 crd, .slice a5 n5 c5, .slice a6 n6 c6, .slice a7 n7 c7, .int .i64 ro] 35)).alloc (.cells #[.int .i64 fr, .int .i64 tt, .int .i64 ki, .int .i64 bau, .int .i64 bnu, .slice b1 n1 d1, .int .i64 hau, .int .i64 hrd, .slice b2 n2 d2, .slice b3 n3 d3, .int .i64 sau, .int .i64 srd, .slice b4 n4 d4, .int .i64 cau, .int .i64 crd, .slice b5 n5 d5, .slice b6 n6 d6, .slice b7 n7 d7, .int .i64 ro] 35) = W0 at hA r0 r1 ⊢
  have xp0 : W0.cell? ⟨w.heap.size, 0, none⟩ = some (.int .i64 fr) := cells_at r0 0 _ rfl
  have xp1 : W0.cell? ⟨w.heap.size, 1, none⟩ = some (.int .i64 tt) := cells_at r0 1 _ rfl
  have xp2 : W0.cell? ⟨w.heap.size, 2, none⟩ = some (.int .i64 ki) := cells_at r0 2 _ rfl
  have xp18 : W0.cell? ⟨w.heap.size, 18, none⟩ = some (.int .i64 ro) := cells_at r0 18 _ rfl
  have xp3 : W0.cell? ⟨w.heap.size, 3, none⟩ = some (.int .i64 bau) := cells_at r0 3 _ rfl
  have xp4 : W0.cell? ⟨w.heap.size, 4, none⟩ = some (.int .i64 bnu) := cells_at r0 4 _ rfl
  have xp5 : W0.cell? ⟨w.heap.size, 5, none⟩ = some (.slice a1 n1 c1) := cells_at r0 5 _ rfl
  have yp0 : W0.cell? ⟨w.heap.size + 1, 0, none⟩ = some (.int .i64 fr) := cells_at r1 0 _ rfl
  have yp1 : W0.cell? ⟨w.heap.size + 1, 1, none⟩ = some (.int .i64 tt) := cells_at r1 1 _ rfl
  have yp2 : W0.cell? ⟨w.heap.size + 1, 2, none⟩ = some (.int .i64 ki) := cells_at r1 2 _ rfl
  have yp18 : W0.cell? ⟨w.heap.size + 1, 18, none⟩ = some (.int .i64 ro) := cells_at r1 18 _ rfl
  have yp3 : W0.cell? ⟨w.heap.size + 1, 3, none⟩ = some (.int .i64 bau) := cells_at r1 3 _ rfl
  have yp4 : W0.cell? ⟨w.heap.size + 1, 4, none⟩ = some (.int .i64 bnu) := cells_at r1 4 _ rfl
  have yp5 : W0.cell? ⟨w.heap.size + 1, 5, none⟩ = some (.slice b1 n1 d1) := cells_at r1 5 _ rfl
  go_wp2_with fail
  refine (H1.out W0 hA).mono ?_
  rintro e w1 ⟨he, hb1⟩
  subst he
  dsimp only
  have hB1 := hA.trans (hb1.mono hA.size)
  have p0 := (hb1.block _ (lt_of_heap r0)).trans r0
  have p1 := (hb1.block _ (lt_of_heap r1)).trans r1
  clear r0 r1 xp0 xp1 xp2 xp18 xp3 xp4 xp5 yp0 yp1 yp2 yp18 yp3 yp4 yp5
  have xq26 : w1.cell? ⟨w.heap.size, 6, none⟩ = some (.int .i64 hau) := cells_at p0 6 _ rfl
  have xq27 : w1.cell? ⟨w.heap.size, 7, none⟩ = some (.int .i64 hrd) := cells_at p0 7 _ rfl
  have xq28 : w1.cell? ⟨w.heap.size, 8, none⟩ = some (.slice a2 n2 c2) := cells_at p0 8 _ rfl
  have xq29 : w1.cell? ⟨w.heap.size, 9, none⟩ = some (.slice a3 n3 c3) := cells_at p0 9 _ rfl
  have yq26 : w1.cell? ⟨w.heap.size + 1, 6, none⟩ = some (.int .i64 hau) := cells_at p1 6 _ rfl
  have yq27 : w1.cell? ⟨w.heap.size + 1, 7, none⟩ = some (.int .i64 hrd) := cells_at p1 7 _ rfl
  have yq28 : w1.cell? ⟨w.heap.size + 1, 8, none⟩ = some (.slice b2 n2 d2) := cells_at p1 8 _ rfl
  have yq29 : w1.cell? ⟨w.heap.size + 1, 9, none⟩ = some (.slice b3 n3 d3) := cells_at p1 9 _ rfl
  go_wp2_with fail
  refine (H2.out w1 hB1).mono ?_
  rintro e w2 ⟨he, hb2⟩
  subst he
  dsimp only
  have hB2 := hB1.trans (hb2.mono hB1.size)
  have p20 := (hb2.block _ (lt_of_heap p0)).trans p0
  have p21 := (hb2.block _ (lt_of_heap p1)).trans p1
  clear p0 p1 xq26 xq27 xq28 xq29 yq26 yq27 yq28 yq29
  have xq310 : w2.cell? ⟨w.heap.size, 10, none⟩ = some (.int .i64 sau) := cells_at p20 10 _ rfl
  have xq311 : w2.cell? ⟨w.heap.size, 11, none⟩ = some (.int .i64 srd) := cells_at p20 11 _ rfl
  have xq312 : w2.cell? ⟨w.heap.size, 12, none⟩ = some (.slice a4 n4 c4) := cells_at p20 12 _ rfl
  have yq310 : w2.cell? ⟨w.heap.size + 1, 10, none⟩ = some (.int .i64 sau) := cells_at p21 10 _ rfl
  have yq311 : w2.cell? ⟨w.heap.size + 1, 11, none⟩ = some (.int .i64 srd) := cells_at p21 11 _ rfl
  have yq312 : w2.cell? ⟨w.heap.size + 1, 12, none⟩ = some (.slice b4 n4 d4) := cells_at p21 12 _ rfl
  go_wp2_with fail
  refine (H3.out w2 hB2).mono ?_
  rintro e w3 ⟨he, hb3⟩
  subst he
  dsimp only
  have hB3 := hB2.trans (hb3.mono hB2.size)
  have p30 := (hb3.block _ (lt_of_heap p20)).trans p20
  have p31 := (hb3.block _ (lt_of_heap p21)).trans p21
  clear p20 p21 xq310 xq311 xq312 yq310 yq311 yq312
  have xq413 : w3.cell? ⟨w.heap.size, 13, none⟩ = some (.int .i64 cau) := cells_at p30 13 _ rfl
  have xq414 : w3.cell? ⟨w.heap.size, 14, none⟩ = some (.int .i64 crd) := cells_at p30 14 _ rfl
  have xq415 : w3.cell? ⟨w.heap.size, 15, none⟩ = some (.slice a5 n5 c5) := cells_at p30 15 _ rfl
  have xq416 : w3.cell? ⟨w.heap.size, 16, none⟩ = some (.slice a6 n6 c6) := cells_at p30 16 _ rfl
  have xq417 : w3.cell? ⟨w.heap.size, 17, none⟩ = some (.slice a7 n7 c7) := cells_at p30 17 _ rfl
  have yq413 : w3.cell? ⟨w.heap.size + 1, 13, none⟩ = some (.int .i64 cau) := cells_at p31 13 _ rfl
  have yq414 : w3.cell? ⟨w.heap.size + 1, 14, none⟩ = some (.int .i64 crd) := cells_at p31 14 _ rfl
  have yq415 : w3.cell? ⟨w.heap.size + 1, 15, none⟩ = some (.slice b5 n5 d5) := cells_at p31 15 _ rfl
  have yq416 : w3.cell? ⟨w.heap.size + 1, 16, none⟩ = some (.slice b6 n6 d6) := cells_at p31 16 _ rfl
  have yq417 : w3.cell? ⟨w.heap.size + 1, 17, none⟩ = some (.slice b7 n7 d7) := cells_at p31 17 _ rfl
  go_wp2_with fail
  refine (H4.out w3 hB3).mono ?_
  rintro e w4 ⟨he, hb4⟩
  subst he
  dsimp only
  have hB4 := hB3.trans (hb4.mono hB3.size)
  go_wp2_with fail
  go_ret
  exact ⟨rfl, hB4⟩
end Go.Proofs.Ytdddimkankdmdaa
