/- The law sheaveskeep.AppendFull answers true for every argument, and each argument reads behind the call as it read before: no condition but the form's own reach. -/
import Derived.Test.YtcmlmmlcebemgaaApp
import Derived.Test.YtcmlmmlcebemgaaAppendFullM36
import Derived.Test.YtcmlmmlcebemgaaAppendFullM30
import Derived.Test.YtcmlmmlcebemgaaPicked
import Derived.Test.YtcmlmmlcebemgaaPK
import Derived.Laws.Rows
import Derived.Test.YtcmlmmlcebemgaaAppendFullM18
import Derived.Test.YtcmlmmlcebemgaaRows
import Derived.Test.YtcmlmmlcebemgaaOpenB
import Derived.WalkKit
import Derived.ProofKit
import Derived.OpenShut
import Derived.Deep.DeepHandedRow
import Derived.SevenTiedAt
import Derived.Below
namespace Go.Proofs.Ytcmlmmlcebemgaa
open Go.RowKit

set_option maxRecDepth 100000 in
set_option maxHeartbeats 400000 in
theorem same_eq (bs : List Int) (sa sb : Option Addr) (n m c d : Nat) (w : World) (hn : n = bs.length) (hm : m = bs.length) (ha : SliceAt w sa c bs) (hb : SliceAt w sb d bs) :
    Calls Try.prog 21 #[.slice sa n c, .slice sb m d] w fun e w' => e = .returned (.bool true) ∧ w = w' := by
  have h1 := run_text w sa n c bs hn ha
  have h2 := run_text w sb m d bs hm hb
  clear hn hm ha hb
  go_enter Try.func21, Try.ntmps21
  go_wp2_with fail
  go_ret
  exact ⟨by simp, rfl⟩
end Go.Proofs.Ytcmlmmlcebemgaa

namespace Go.Proofs.Ytcmlmmlcebemgaa
open Go.RowKit

set_option maxRecDepth 100000 in
theorem recs_row {w w' : World} {e : Ending} {N : Nat} (h : RecsIs w w' e N) : ∃ (sa : Option Addr) (cap : Nat) (ms : List MV), e = .returned (.slice sa ms.length cap) ∧ ms.length = N ∧ MsRow w' sa ms ∧ (∀ x ∈ ms, MAt w' x ∧ IsRec x) ∧ Below w.heap.size w w' := by
  obtain ⟨v, ms, he, hl, ho, ha, hb⟩ := h.out
  obtain ⟨sa, cap, rfl, -, -, -, hr⟩ := msRow_of_owns ho
  exact ⟨sa, cap, ms, he, hl, hr, fun x hx => ⟨(ha x hx).1, (ha x hx).2.1⟩, hb⟩
set_option maxRecDepth 100000 in
theorem encode_rec (x : MV) (w : World) (hM : MAt w x) (hI : IsRec x) :
    Calls Try.prog 25 #[.agg #[.int .i64 x.m.fr, .int .i64 x.m.tt, .int .i64 x.m.ki, .int .i64 x.m.bau, .int .i64 x.m.bnu, .slice x.m.bta x.m.btn x.m.btc, .int .i64 x.m.hau, .int .i64 x.m.hrd, .slice x.m.hba x.m.hbn x.m.hbc, .slice x.m.hpa x.m.hpn x.m.hpc, .int .i64 x.m.sau, .int .i64 x.m.srd, .slice x.m.sda x.m.sdn x.m.sdc, .int .i64 x.m.cau, .int .i64 x.m.crd, .slice x.m.cba x.m.cbn x.m.cbc, .slice x.m.cpa x.m.cpn x.m.cpc, .slice x.m.cva x.m.cvn x.m.cvc, .int .i64 x.m.ro]] w fun e w' => ∃ v, e = .returned (.tuple #[v, .int .i64 0]) ∧ w'.ownsRow w.heap.size 5 1 v x.bytes.length (ub x.bytes) ∧ Below w.heap.size w w' := by
  have h := encode_any x.m x.ss x.bl x.pl x.cbl x.cpl x.ds x.vl w hM.at' hM.dig hM.dn
  have h0 : checkF x.m (carriedF x.m x.ss x.bl x.pl x.cbl x.cpl x.vl) = 0 := hI.check
  rw [h0] at h
  exact h
set_option maxRecDepth 100000 in
theorem sync_ok (bs : List Int) (sa : Option Addr) (n cap : Nat) (sy : Int) (w : World) (hn : n = bs.length) (hs : SliceAt w sa cap bs) (hl : bs.length ≤ 400000) (hy : 0 ≤ sy ∧ sy ≤ bs.length) :
    Calls Try.prog 16 #[.agg #[.slice sa n cap, .int .i64 sy]] w fun e w' => TapeIs w w' e bs bs.length 0 := by
  have h := tapeSync_any bs sa n cap sy w hn hs (by omega)
  have hk : tapeOk bs.length sy = true := tapeOk_iff.2 ⟨hl, hy.1, hy.2⟩
  rw [syncN, if_pos hk, syncF, if_pos hk, List.take_of_length_le (Nat.le_refl _)] at h
  exact h
set_option maxRecDepth 100000 in
theorem crash_ok (bs : List Int) (sa : Option Addr) (n cap : Nat) (sy keep : Int) (w : World) (hn : n = bs.length) (hs : SliceAt w sa cap bs) (hl : bs.length ≤ 400000) (hy : 0 ≤ sy ∧ sy ≤ bs.length) (hk : 0 ≤ keep ∧ keep ≤ 1000000) :
    Calls Try.prog 18 #[.agg #[.slice sa n cap, .int .i64 sy], .int .i64 keep] w fun e w' => TapeIs w w' e (bs.take (leftN bs.length sy keep)) (leftN bs.length sy keep) 0 := by
  have h := tapeCrash_any bs sa n cap sy keep w hn hs (by omega) (by omega) (by omega)
  have ht : tapeOk bs.length sy = true := tapeOk_iff.2 ⟨hl, hy.1, hy.2⟩
  rw [crashN, if_pos ⟨ht, hk.1⟩, crashF, if_pos ht, if_neg (by omega)] at h
  exact h
set_option maxRecDepth 100000 in
theorem crash_neg (bs : List Int) (sa : Option Addr) (n cap : Nat) (sy keep : Int) (w : World) (hn : n = bs.length) (hs : SliceAt w sa cap bs) (hl : bs.length ≤ 400000) (hy : 0 ≤ sy ∧ sy ≤ bs.length) (hk : keep < 0 ∧ -1000000 ≤ keep) :
    Calls Try.prog 18 #[.agg #[.slice sa n cap, .int .i64 sy], .int .i64 keep] w fun e w' => TapeIs w w' e [] 0 2 := by
  have h := tapeCrash_any bs sa n cap sy keep w hn hs (by omega) (by omega) (by omega)
  have ht : tapeOk bs.length sy = true := tapeOk_iff.2 ⟨hl, hy.1, hy.2⟩
  rw [crashN, if_neg (by omega), crashF, if_pos ht, if_pos hk.1] at h
  exact h
set_option maxRecDepth 100000 in
theorem tapeB_small {ms : List MV} {w : World} (h : ms.length ≤ 100) (hM : ∀ x ∈ ms, MAt w x ∧ IsRec x) : (tapeB ms).length ≤ 32500 := by
  have := tapeB_le ms (fun x hx => ((hM x hx).2.len (hM x hx).1.dn).2)
  omega
/-- A message that stands for none. -/
def noX : MV := ⟨⟨0, 0, 0, 0, 0, 0, 0, 0, 0, 0, 0, 0, none, none, none, none, none, none, none, 0, 0, 0, 0, 0, 0, 0, 0, 0, 0, 0, 0, 0, 0⟩, [], [], [], [], [], [], []⟩
end Go.Proofs.Ytcmlmmlcebemgaa

namespace Go.Proofs.Ytcmlmmlcebemgaa
open Go.RowKit

set_option maxRecDepth 100000 in
theorem wpList_load_row_w {ops : Array Oper} {rest : List Oper} {o : Oper} {a : Act} {w : World} {Q : Exit → Act → World → Prop} (hw : Region.wanted o (yielded ops a.tmps) = true) (ty : TypeId) (x : Operand) (ho : o.op = .load ty x)
    (g : Nat) (hx : a.eval x = .pointer (some ⟨g, 0, none⟩)) (t : TypeId) (cs : Array Value) (fr : Nat × Nat) (d : TypeDesc) (hg : w.heap[g]? = some (.cells cs t fr))
    (hu : Try.prog.underlying ty = some d) (hd : (match d with | .struct _ | .array _ _ => true | _ => false) = true) (hi : (Try.prog.info? ty).map (·.size) = some cs.size)
    (h : wpList Try.prog ops Q rest (a.put o.dst (.agg cs)) w) : wpList Try.prog ops Q (o :: rest) a w := by
  refine wpList_step fun K hK => ?_
  rw [if_pos hw]
  exact wp_load_row ty x ho g hx t cs fr d hg hu (by cases d <;> first | exact hd | rfl) hi (hK _ _ h)
set_option maxRecDepth 100000 in
/-- A struct that is loaded as a row: what the operation answers. -/
theorem run_load_row {o : Oper} {a : Act} {w : World} (ty : TypeId) (x : Operand) (ho : o.op = .load ty x)
    (g : Nat) (hx : a.eval x = .pointer (some ⟨g, 0, none⟩)) (t : TypeId) (cs : Array Value) (fr : Nat × Nat) (d : TypeDesc) (hg : w.heap[g]? = some (.cells cs t fr))
    (hu : Try.prog.underlying ty = some d) (hd : (match d with | .struct _ | .array _ _ => true | _ => false) = true) (hi : (Try.prog.info? ty).map (·.size) = some cs.size) :
    (execOp a.eval o).run Try.prog w = .ok (.value (.agg cs)) w := by
  unfold execOp
  simp only [ho, hx, Instr.loadAt, Instr.sureAddr, Sem.run_bind, Sem.run_pure, Result.andThen_ok, run_loadVar_row w g t ty cs fr d hg hu (by cases d <;> first | exact hd | rfl) hi]
end Go.Proofs.Ytcmlmmlcebemgaa

namespace Go.Proofs.Ytcmlmmlcebemgaa
open Go.RowKit

set_option maxRecDepth 100000 in
theorem made_zeros (K : Nat) (hK : K ≤ 500000) : ∃ (ZZ : Array Value) (zl : List Int), zl.length = K ∧ (∀ w : World, (Instr.makeSlice 26 (.int .i64 (K : Int)) (.int .i64 (K : Int))).run Try.prog w = .ok (.slice (some ⟨w.heap.size, 0, none⟩) K K) (w.alloc (.cells ZZ 5))) ∧ ∀ w : World, SliceAt (w.alloc (.cells ZZ 5)) (some ⟨w.heap.size, 0, none⟩) K zl := by
  obtain ⟨i, hi, hz0, hz1, hz2⟩ := info_parts infoU8
  refine ⟨madeCells (Value.int .u8 0).cells (K * 1), List.replicate K 0, by simp, fun w => ?_, fun w => ?_⟩
  · have h := run_make (P := Try.prog) w 26 5 i (.int .u8 0) Try.underlying26 hi hz0 .i64 .i64 (K : Int) (K : Int) (by omega) (Int.le_refl _) (by rw [hz2]; omega) (by omega)
    simpa [hz1] using h
  · have h := World.ownsRow_lit (base := w.heap.size) (e := 5) (size := 1) w (madeCells (Value.int .u8 0).cells (K * 1)) K (Nat.le_refl _) (by unfold maxLen; omega) (size_madeCells _ _)
    rw [zeros_made] at h
    exact (sliceAt_of_owns h).2
set_option maxRecDepth 100000 in
theorem full_append (x : MV) (bs : List Int) (sa : Option Addr) (n cap : Nat) (w : World) (hn : n = bs.length) (hs : SliceAt w sa cap bs) (hM : MAt w x) (hI : IsRec x) (hl : bs.length ≤ 400000) :
    Calls Try.prog 17 #[.agg #[.slice sa n cap, .int .i64 0], .agg #[.int .i64 x.m.fr, .int .i64 x.m.tt, .int .i64 x.m.ki, .int .i64 x.m.bau, .int .i64 x.m.bnu, .slice x.m.bta x.m.btn x.m.btc, .int .i64 x.m.hau, .int .i64 x.m.hrd, .slice x.m.hba x.m.hbn x.m.hbc, .slice x.m.hpa x.m.hpn x.m.hpc, .int .i64 x.m.sau, .int .i64 x.m.srd, .slice x.m.sda x.m.sdn x.m.sdc, .int .i64 x.m.cau, .int .i64 x.m.crd, .slice x.m.cba x.m.cbn x.m.cbc, .slice x.m.cpa x.m.cpn x.m.cpc, .slice x.m.cva x.m.cvn x.m.cvc, .int .i64 x.m.ro]] w fun e w' => ∃ xe xce, e = .returned (.tuple #[.agg #[.slice xe (if 400000 < bs.length + 2 + x.bytes.length then 0 else bs.length + 2 + x.bytes.length) xce, .int .i64 0], .int .i64 (if 400000 < bs.length + 2 + x.bytes.length then 6 else 0)]) ∧ Below w.heap.size w w' := by
  obtain ⟨hl1, hl2⟩ := hI.len hM.dn
  have hE : ∀ W : World, Below w.heap.size w W → Calls Try.prog 28 #[.agg #[.int .i64 x.m.fr, .int .i64 x.m.tt, .int .i64 x.m.ki, .int .i64 x.m.bau, .int .i64 x.m.bnu, .slice x.m.bta x.m.btn x.m.btc, .int .i64 x.m.hau, .int .i64 x.m.hrd, .slice x.m.hba x.m.hbn x.m.hbc, .slice x.m.hpa x.m.hpn x.m.hpc, .int .i64 x.m.sau, .int .i64 x.m.srd, .slice x.m.sda x.m.sdn x.m.sdc, .int .i64 x.m.cau, .int .i64 x.m.crd, .slice x.m.cba x.m.cbn x.m.cbc, .slice x.m.cpa x.m.cpn x.m.cpc, .slice x.m.cva x.m.cvn x.m.cvc, .int .i64 x.m.ro]] W fun e w' => ∃ v, e = .returned (.tuple #[v, .int .i64 0]) ∧ w'.ownsRow W.heap.size 5 1 v x.bytes.length (ub x.bytes) ∧ Below W.heap.size W w' := fun W hW => by
    have h := tEnc_any x.m x.ss x.bl x.pl x.cbl x.cpl x.ds x.vl W (hM.at'.below hW) (hM.dig.below hW) hM.dn
    have h0 : recF x.m (checkF x.m (carriedF x.m x.ss x.bl x.pl x.cbl x.cpl x.vl)) = 0 := hI.rec0
    rw [h0] at h
    exact h
  have h := tapeAppend_any x.m bs sa n cap 0 0 x.bytes w hn hs (by omega) (fun h => absurd rfl h) (fun _ => by omega) (by omega) hE
  have hF : appF bs.length 0 0 x.bytes.length = if 400000 < bs.length + 2 + x.bytes.length then 6 else 0 := by
    rw [appF, if_pos (tapeOk_iff.2 ⟨by omega, by omega, by omega⟩), if_neg (by simp)]
  have hS : appS 0 (appF bs.length 0 0 x.bytes.length) = 0 := by rw [appS]; split <;> rfl
  have hB : (appB bs (appF bs.length 0 0 x.bytes.length) x.bytes).length = if 400000 < bs.length + 2 + x.bytes.length then 0 else bs.length + 2 + x.bytes.length := by
    have hF' := hF
    by_cases h9 : 400000 < bs.length + 2 + x.bytes.length
    · rw [if_pos h9] at hF'
      rw [if_pos h9, appB, if_neg (by rw [hF']; decide)]
      rfl
    · rw [if_neg h9] at hF'
      rw [if_neg h9, appB, if_pos hF']
      simp; omega
  refine h.mono ?_
  rintro e w' ⟨xe, xce, he, -, -, hb⟩
  rw [hB, hS, hF] at he
  exact ⟨xe, xce, he, hb⟩
set_option maxRecDepth 100000 in
theorem sync_big (bs : List Int) (sa : Option Addr) (n cap : Nat) (sy : Int) (w : World) (hn : n = bs.length) (hs : SliceAt w sa cap bs) (hl : 400000 < bs.length) (hl2 : bs.length ≤ 500000) :
    Calls Try.prog 16 #[.agg #[.slice sa n cap, .int .i64 sy]] w fun e w' => TapeIs w w' e [] 0 12 := by
  have h := tapeSync_any bs sa n cap sy w hn hs (by omega)
  have hk : tapeOk bs.length sy = false := tapeOk_not (by omega)
  rw [syncN, if_neg (by simp [hk]), syncF, if_neg (by simp [hk])] at h
  exact h
set_option maxRecDepth 100000 in
set_option maxHeartbeats 4000000 in
theorem appendFull_walk (ki ra rb rc : Int) (sa : Option Addr) (cap : Nat) (ss : List ByteArray) (less : Int) (w : World) (h1 : I64 ki) (h2 : I64 ra) (h3 : I64 rb) (h4 : I64 rc) (h5 : TextsAt w sa cap ss) (hn1 : -9223372036854775808 ≤ less) (hn2 : less ≤ 9223372036854775807) :
    Calls Try.prog 9 #[.agg #[.int .i64 ki, .int .i64 ra, .int .i64 rb, .int .i64 rc, .slice sa ss.length cap], .int .i64 less] w fun e w' => e = .returned (.bool true) ∧ Below w.heap.size w w' := by
  obtain ⟨pn0, pn1⟩ := pk_bounds less 5 (by decide)
  have hA : Below w.heap.size w (w.alloc (.cells #[.int .i64 ki, .int .i64 ra, .int .i64 rb, .int .i64 rc, .slice sa ss.length cap] 56)) := (Below.refl _ _).alloc (Nat.le_refl _) _
  go_enter Try.func9, Try.ntmps9
  go_wp2_with fail
  generalize w.alloc (.cells #[.int .i64 ki, .int .i64 ra, .int .i64 rb, .int .i64 rc, .slice sa ss.length cap] 56) = W0 at hA ⊢
  refine (record_any ki ra rb rc sa cap ss W0 h1 h2 h3 h4 (h5.below hA)).mono ?_
  rintro e w1 ⟨x, he, hM, hI, -, hb1⟩
  subst he
  dsimp only
  have hB1 := hA.trans (hb1.mono hA.size)
  obtain ⟨hl1, hl2⟩ := hI.len hM.dn
  have qz := heap_alloc_new w1 (.cells #[.int .i64 0, .int .i64 0, .int .i64 0, .int .i64 0, .int .i64 0, .slice none 0 0, .int .i64 0, .int .i64 0, .slice none 0 0, .slice none 0 0, .int .i64 0, .int .i64 0, .slice none 0 0, .int .i64 0, .int .i64 0, .slice none 0 0, .slice none 0 0, .slice none 0 0, .int .i64 0] 47)
  have hA1 : Below w1.heap.size w1 ((w1.alloc (.cells #[.int .i64 0, .int .i64 0, .int .i64 0, .int .i64 0, .int .i64 0, .slice none 0 0, .int .i64 0, .int .i64 0, .slice none 0 0, .slice none 0 0, .int .i64 0, .int .i64 0, .slice none 0 0, .int .i64 0, .int .i64 0, .slice none 0 0, .slice none 0 0, .slice none 0 0, .int .i64 0] 47)).setRow w1.heap.size #[.int .i64 x.m.fr, .int .i64 x.m.tt, .int .i64 x.m.ki, .int .i64 x.m.bau, .int .i64 x.m.bnu, .slice x.m.bta x.m.btn x.m.btc, .int .i64 x.m.hau, .int .i64 x.m.hrd, .slice x.m.hba x.m.hbn x.m.hbc, .slice x.m.hpa x.m.hpn x.m.hpc, .int .i64 x.m.sau, .int .i64 x.m.srd, .slice x.m.sda x.m.sdn x.m.sdc, .int .i64 x.m.cau, .int .i64 x.m.crd, .slice x.m.cba x.m.cbn x.m.cbc, .slice x.m.cpa x.m.cpn x.m.cpc, .slice x.m.cva x.m.cvn x.m.cvc, .int .i64 x.m.ro]) := laid_row w1 #[.int .i64 0, .int .i64 0, .int .i64 0, .int .i64 0, .int .i64 0, .slice none 0 0, .int .i64 0, .int .i64 0, .slice none 0 0, .slice none 0 0, .int .i64 0, .int .i64 0, .slice none 0 0, .int .i64 0, .int .i64 0, .slice none 0 0, .slice none 0 0, .slice none 0 0, .int .i64 0] #[.int .i64 x.m.fr, .int .i64 x.m.tt, .int .i64 x.m.ki, .int .i64 x.m.bau, .int .i64 x.m.bnu, .slice x.m.bta x.m.btn x.m.btc, .int .i64 x.m.hau, .int .i64 x.m.hrd, .slice x.m.hba x.m.hbn x.m.hbc, .slice x.m.hpa x.m.hpn x.m.hpc, .int .i64 x.m.sau, .int .i64 x.m.srd, .slice x.m.sda x.m.sdn x.m.sdc, .int .i64 x.m.cau, .int .i64 x.m.crd, .slice x.m.cba x.m.cbn x.m.cbc, .slice x.m.cpa x.m.cpn x.m.cpc, .slice x.m.cva x.m.cvn x.m.cvc, .int .i64 x.m.ro] 47
  have qN := setRow_heap _ _ _ #[.int .i64 x.m.fr, .int .i64 x.m.tt, .int .i64 x.m.ki, .int .i64 x.m.bau, .int .i64 x.m.bnu, .slice x.m.bta x.m.btn x.m.btc, .int .i64 x.m.hau, .int .i64 x.m.hrd, .slice x.m.hba x.m.hbn x.m.hbc, .slice x.m.hpa x.m.hpn x.m.hpc, .int .i64 x.m.sau, .int .i64 x.m.srd, .slice x.m.sda x.m.sdn x.m.sdc, .int .i64 x.m.cau, .int .i64 x.m.crd, .slice x.m.cba x.m.cbn x.m.cbc, .slice x.m.cpa x.m.cpn x.m.cpc, .slice x.m.cva x.m.cvn x.m.cvc, .int .i64 x.m.ro] _ _ qz
  have HM : Hid (∀ W : World, Below w1.heap.size w1 W → MAt W x) := by show ∀ _, _; intro W hW; exact hM.below hW
  have HI : Hid (IsRec x) := hI
  clear hM hI
  go_wp2_with (first | refine wpList_store_row rfl 47 _ _ rfl w1.heap.size #[.int .i64 x.m.fr, .int .i64 x.m.tt, .int .i64 x.m.ki, .int .i64 x.m.bau, .int .i64 x.m.bnu, .slice x.m.bta x.m.btn x.m.btc, .int .i64 x.m.hau, .int .i64 x.m.hrd, .slice x.m.hba x.m.hbn x.m.hbc, .slice x.m.hpa x.m.hpn x.m.hpc, .int .i64 x.m.sau, .int .i64 x.m.srd, .slice x.m.sda x.m.sdn x.m.sdc, .int .i64 x.m.cau, .int .i64 x.m.crd, .slice x.m.cba x.m.cbn x.m.cbc, .slice x.m.cpa x.m.cpn x.m.cpc, .slice x.m.cva x.m.cvn x.m.cvc, .int .i64 x.m.ro] rfl rfl 47 _ qz sMsg' rfl (by simp [Value.oneCell']) ?_ | refine wpList_load_row rfl 47 _ rfl w1.heap.size rfl 47 #[.int .i64 x.m.fr, .int .i64 x.m.tt, .int .i64 x.m.ki, .int .i64 x.m.bau, .int .i64 x.m.bnu, .slice x.m.bta x.m.btn x.m.btc, .int .i64 x.m.hau, .int .i64 x.m.hrd, .slice x.m.hba x.m.hbn x.m.hbc, .slice x.m.hpa x.m.hpn x.m.hpc, .int .i64 x.m.sau, .int .i64 x.m.srd, .slice x.m.sda x.m.sdn x.m.sdc, .int .i64 x.m.cau, .int .i64 x.m.crd, .slice x.m.cba x.m.cbn x.m.cbc, .slice x.m.cpa x.m.cpn x.m.cpc, .slice x.m.cva x.m.cvn x.m.cvc, .int .i64 x.m.ro] (0, 0) _ qN Try.underlying47 rfl sMsg' ?_)
  generalize (w1.alloc (.cells #[.int .i64 0, .int .i64 0, .int .i64 0, .int .i64 0, .int .i64 0, .slice none 0 0, .int .i64 0, .int .i64 0, .slice none 0 0, .slice none 0 0, .int .i64 0, .int .i64 0, .slice none 0 0, .int .i64 0, .int .i64 0, .slice none 0 0, .slice none 0 0, .slice none 0 0, .int .i64 0] 47)).setRow w1.heap.size #[.int .i64 x.m.fr, .int .i64 x.m.tt, .int .i64 x.m.ki, .int .i64 x.m.bau, .int .i64 x.m.bnu, .slice x.m.bta x.m.btn x.m.btc, .int .i64 x.m.hau, .int .i64 x.m.hrd, .slice x.m.hba x.m.hbn x.m.hbc, .slice x.m.hpa x.m.hpn x.m.hpc, .int .i64 x.m.sau, .int .i64 x.m.srd, .slice x.m.sda x.m.sdn x.m.sdc, .int .i64 x.m.cau, .int .i64 x.m.crd, .slice x.m.cba x.m.cbn x.m.cbc, .slice x.m.cpa x.m.cpn x.m.cpc, .slice x.m.cva x.m.cvn x.m.cvc, .int .i64 x.m.ro] = W1 at hA1 qN ⊢
  refine (encode_rec x W1 (HM.out W1 hA1) HI.out).mono ?_
  rintro e w2 ⟨v2, he, ho2, hb2⟩
  subst he
  dsimp only
  clear qz
  obtain ⟨ea, ec, hv, -, -⟩ := owns_form ho2
  subst hv
  clear ho2
  have hA2 := hA1.trans (hb2.mono hA1.size)
  have hB2 := hB1.trans (hA2.mono hB1.size)
  have q2 := (hb2.block _ (lt_of_heap qN)).trans qN
  clear qN
  generalize w1.heap.size = MB at q2 ⊢
  have HFu : Hid (∀ (bs : List Int) (W : World) (za : Option Addr) (n c : Nat), Below w2.heap.size w2 W → SliceAt W za c bs → n = bs.length → bs.length ≤ 400000 → Calls Try.prog 17 #[.agg #[.slice za n c, .int .i64 0], .agg #[.int .i64 x.m.fr, .int .i64 x.m.tt, .int .i64 x.m.ki, .int .i64 x.m.bau, .int .i64 x.m.bnu, .slice x.m.bta x.m.btn x.m.btc, .int .i64 x.m.hau, .int .i64 x.m.hrd, .slice x.m.hba x.m.hbn x.m.hbc, .slice x.m.hpa x.m.hpn x.m.hpc, .int .i64 x.m.sau, .int .i64 x.m.srd, .slice x.m.sda x.m.sdn x.m.sdc, .int .i64 x.m.cau, .int .i64 x.m.crd, .slice x.m.cba x.m.cbn x.m.cbc, .slice x.m.cpa x.m.cpn x.m.cpc, .slice x.m.cva x.m.cvn x.m.cvc, .int .i64 x.m.ro]] W fun e w' => ∃ xe xce, e = .returned (.tuple #[.agg #[.slice xe (if 400000 < bs.length + 2 + x.bytes.length then 0 else bs.length + 2 + x.bytes.length) xce, .int .i64 0], .int .i64 (if 400000 < bs.length + 2 + x.bytes.length then 6 else 0)]) ∧ Below W.heap.size W w') := by
    show ∀ _, _
    intro bs W za n c hW hs hn hl
    exact full_append x bs za n c W hn hs (HM.out W (hA2.trans (hW.mono hA2.size))) HI.out hl
  generalize hLq : x.bytes.length = L at *
  clear hLq HM HI
  generalize hPq : pk less 5 = P5 at *
  have HPq : Hid (pk less 5 = P5) := hPq
  clear hPq
  obtain ⟨KN, hK⟩ : ∃ KN : Nat, (KN : Int) = 399998 - (L : Int) + P5 - 2 := ⟨(399998 - (L : Int) + P5 - 2).toNat, by omega⟩
  have HK : Hid ((KN : Int) = 399998 - (L : Int) + P5 - 2) := hK
  have hKb : KN ≤ 400000 := by omega
  obtain ⟨ZZ, zl, hzl, hmk, hzs⟩ := made_zeros KN (by omega)
  have HAp0 : Hid (∀ (W : World) (za : Option Addr), Below w2.heap.size w2 W → SliceAt W za KN zl → Calls Try.prog 17 #[.agg #[.slice za KN KN, .int .i64 0], .agg #[.int .i64 x.m.fr, .int .i64 x.m.tt, .int .i64 x.m.ki, .int .i64 x.m.bau, .int .i64 x.m.bnu, .slice x.m.bta x.m.btn x.m.btc, .int .i64 x.m.hau, .int .i64 x.m.hrd, .slice x.m.hba x.m.hbn x.m.hbc, .slice x.m.hpa x.m.hpn x.m.hpc, .int .i64 x.m.sau, .int .i64 x.m.srd, .slice x.m.sda x.m.sdn x.m.sdc, .int .i64 x.m.cau, .int .i64 x.m.crd, .slice x.m.cba x.m.cbn x.m.cbc, .slice x.m.cpa x.m.cpn x.m.cpc, .slice x.m.cva x.m.cvn x.m.cvc, .int .i64 x.m.ro]] W fun e w' => ∃ xe xce, e = .returned (.tuple #[.agg #[.slice xe (if 400000 < KN + 2 + L then 0 else KN + 2 + L) xce, .int .i64 0], .int .i64 (if 400000 < KN + 2 + L then 6 else 0)]) ∧ Below W.heap.size W w') := by
    show ∀ _, _
    intro W za hW hs
    have := HFu.out zl W za KN KN hW hs hzl.symm (by omega)
    rw [hzl] at this
    exact this
  have HAp : Hid (∃ (XL : Nat) (F : Int), (XL = if 400000 < KN + 2 + L then 0 else KN + 2 + L) ∧ (F = if 400000 < KN + 2 + L then 6 else 0) ∧ ∀ (W : World) (za : Option Addr), Below w2.heap.size w2 W → SliceAt W za KN zl → Calls Try.prog 17 #[.agg #[.slice za KN KN, .int .i64 0], .agg #[.int .i64 x.m.fr, .int .i64 x.m.tt, .int .i64 x.m.ki, .int .i64 x.m.bau, .int .i64 x.m.bnu, .slice x.m.bta x.m.btn x.m.btc, .int .i64 x.m.hau, .int .i64 x.m.hrd, .slice x.m.hba x.m.hbn x.m.hbc, .slice x.m.hpa x.m.hpn x.m.hpc, .int .i64 x.m.sau, .int .i64 x.m.srd, .slice x.m.sda x.m.sdn x.m.sdc, .int .i64 x.m.cau, .int .i64 x.m.crd, .slice x.m.cba x.m.cbn x.m.cbc, .slice x.m.cpa x.m.cpn x.m.cpc, .slice x.m.cva x.m.cvn x.m.cvc, .int .i64 x.m.ro]] W fun e w' => ∃ xe xce, e = .returned (.tuple #[.agg #[.slice xe XL xce, .int .i64 0], .int .i64 F]) ∧ Below W.heap.size W w') := ⟨_, _, rfl, rfl, HAp0.out⟩
  obtain ⟨XL, F, hXL, hFq, hAp⟩ := HAp.out
  have HX : Hid ((XL = if 400000 < KN + 2 + L then 0 else KN + 2 + L) ∧ (F = if 400000 < KN + 2 + L then 6 else 0)) := ⟨hXL, hFq⟩
  clear HAp HAp0 HFu hzl hXL hFq
  have HAp : Hid (∀ (W : World) (za : Option Addr), Below w2.heap.size w2 W → SliceAt W za KN zl → Calls Try.prog 17 #[.agg #[.slice za KN KN, .int .i64 0], .agg #[.int .i64 x.m.fr, .int .i64 x.m.tt, .int .i64 x.m.ki, .int .i64 x.m.bau, .int .i64 x.m.bnu, .slice x.m.bta x.m.btn x.m.btc, .int .i64 x.m.hau, .int .i64 x.m.hrd, .slice x.m.hba x.m.hbn x.m.hbc, .slice x.m.hpa x.m.hpn x.m.hpc, .int .i64 x.m.sau, .int .i64 x.m.srd, .slice x.m.sda x.m.sdn x.m.sdc, .int .i64 x.m.cau, .int .i64 x.m.crd, .slice x.m.cba x.m.cbn x.m.cbc, .slice x.m.cpa x.m.cpn x.m.cpc, .slice x.m.cva x.m.cvn x.m.cvc, .int .i64 x.m.ro]] W fun e w' => ∃ xe xce, e = .returned (.tuple #[.agg #[.slice xe XL xce, .int .i64 0], .int .i64 F]) ∧ Below W.heap.size W w') := hAp
  clear hAp
  have hn0 : IntKind.i64.wrap (399998 - (L : Int)) = 399998 - (L : Int) := by rw [IntKind.wrap_i64]; omega
  have hn1' : IntKind.i64.wrap (399998 - (L : Int) + P5) = 399998 - (L : Int) + P5 := by rw [IntKind.wrap_i64]; omega
  have hn2' : IntKind.i64.wrap (399998 - (L : Int) + P5 - 2) = (KN : Int) := by rw [IntKind.wrap_i64, HK.out]; omega
  have HPk : Hid (∀ W : World, Calls Try.prog 14 #[.int .i64 less, .int .i64 5] W fun e w' => e = .returned (.int .i64 P5) ∧ W = w') := by
    show ∀ _, _
    intro W
    rw [← HPq.out]
    exact picked_any less 5 W hn1 hn2 (by omega) (by omega)
  clear hK
  go_upto_region 5 with (go_at_call 14; refine (HPk.out _).mono ?_; rintro e w9 ⟨rfl, rfl⟩)
  go_cut [10, 11] (fun p q wx => ∃ bb xe xce, p = .pointer (some ⟨bb, 0, none⟩) ∧ q = .int .i64 F ∧ Below w2.heap.size w2 wx ∧ wx.heap[bb]? = some (.cells #[.slice xe XL xce, .int .i64 0] 28 (0, 0)))
  case first =>
    have hV0 : Below w2.heap.size w2 w2.drew := (Below.refl _ _).drew
    have qM0 : w2.drew.heap[MB]? = some (.cells #[.int .i64 x.m.fr, .int .i64 x.m.tt, .int .i64 x.m.ki, .int .i64 x.m.bau, .int .i64 x.m.bnu, .slice x.m.bta x.m.btn x.m.btc, .int .i64 x.m.hau, .int .i64 x.m.hrd, .slice x.m.hba x.m.hbn x.m.hbc, .slice x.m.hpa x.m.hpn x.m.hpc, .int .i64 x.m.sau, .int .i64 x.m.srd, .slice x.m.sda x.m.sdn x.m.sdc, .int .i64 x.m.cau, .int .i64 x.m.crd, .slice x.m.cba x.m.cbn x.m.cbc, .slice x.m.cpa x.m.cpn x.m.cpc, .slice x.m.cva x.m.cvn x.m.cvc, .int .i64 x.m.ro] 47 (0, 0)) := q2
    refine wp_region_held_drew (S := fun w' => w'.heap[MB]? = some (.cells #[.int .i64 x.m.fr, .int .i64 x.m.tt, .int .i64 x.m.ki, .int .i64 x.m.bau, .int .i64 x.m.bnu, .slice x.m.bta x.m.btn x.m.btc, .int .i64 x.m.hau, .int .i64 x.m.hrd, .slice x.m.hba x.m.hbn x.m.hbc, .slice x.m.hpa x.m.hpn x.m.hpc, .int .i64 x.m.sau, .int .i64 x.m.srd, .slice x.m.sda x.m.sdn x.m.sdc, .int .i64 x.m.cau, .int .i64 x.m.crd, .slice x.m.cba x.m.cbn x.m.cbc, .slice x.m.cpa x.m.cpn x.m.cpc, .slice x.m.cva x.m.cvn x.m.cvc, .int .i64 x.m.ro] 47 (0, 0))) (by kernel_rfl) qM0 (fun hHeld => ?_)
    generalize w2.drew = V0 at hV0 qM0 hHeld ⊢
    refine take_dst (i := 0) (d := 30) (v := .int .i64 (KN : Int)) rfl rfl (by kernel_rfl) (by kernel_rfl) (by kernel_rfl) (fun _ _ _ h => h) (Or.inl ⟨by rfl, ?_⟩) hHeld ?_
    · (intro w0 hSw; (try dsimp only at hSw); go_simp)
    simp only [Act.put, List.setIfInBounds_toArray, List.set_cons_zero, List.set_cons_succ]
    refine take_dst (i := 3) (d := 33) (v := .agg #[.int .i64 x.m.fr, .int .i64 x.m.tt, .int .i64 x.m.ki, .int .i64 x.m.bau, .int .i64 x.m.bnu, .slice x.m.bta x.m.btn x.m.btc, .int .i64 x.m.hau, .int .i64 x.m.hrd, .slice x.m.hba x.m.hbn x.m.hbc, .slice x.m.hpa x.m.hpn x.m.hpc, .int .i64 x.m.sau, .int .i64 x.m.srd, .slice x.m.sda x.m.sdn x.m.sdc, .int .i64 x.m.cau, .int .i64 x.m.crd, .slice x.m.cba x.m.cbn x.m.cbc, .slice x.m.cpa x.m.cpn x.m.cpc, .slice x.m.cva x.m.cvn x.m.cvc, .int .i64 x.m.ro]) rfl rfl (by kernel_rfl) (by kernel_rfl) (by kernel_rfl) (fun _ _ _ h => h) (Or.inl ⟨by rfl, ?_⟩) hHeld ?_
    · (intro w0 hSw; exact run_load_row 47 _ rfl MB rfl 47 #[.int .i64 x.m.fr, .int .i64 x.m.tt, .int .i64 x.m.ki, .int .i64 x.m.bau, .int .i64 x.m.bnu, .slice x.m.bta x.m.btn x.m.btc, .int .i64 x.m.hau, .int .i64 x.m.hrd, .slice x.m.hba x.m.hbn x.m.hbc, .slice x.m.hpa x.m.hpn x.m.hpc, .int .i64 x.m.sau, .int .i64 x.m.srd, .slice x.m.sda x.m.sdn x.m.sdc, .int .i64 x.m.cau, .int .i64 x.m.crd, .slice x.m.cba x.m.cbn x.m.cbc, .slice x.m.cpa x.m.cpn x.m.cpc, .slice x.m.cva x.m.cvn x.m.cvc, .int .i64 x.m.ro] (0, 0) _ hSw Try.underlying47 rfl sMsg')
    simp only [Act.put, List.setIfInBounds_toArray, List.set_cons_zero, List.set_cons_succ]
    refine wpAnyH_ready (rs := [1, 8]) (by kernel_rfl) (by simp) (AllReadyH.cons rfl (fun KK hK => ?_) (AllReadyH.cons rfl (fun KK hK => ?_) AllReadyH.nil))
    · skip
      have mk_1 := hmk V0
      refine step_run rfl 31 rfl (.slice (some ⟨V0.heap.size, 0, none⟩) KN KN) (V0.alloc (.cells ZZ 5)) (by go_simp) ?_
      clear mk_1
      have hA_1 : Below V0.heap.size V0 (V0.alloc (.cells ZZ 5)) := (Below.refl _ _).alloc (Nat.le_refl _) _
      have zs_1 := hzs V0
      have qM_2 := (hA_1.block _ (lt_of_heap qM0)).trans qM0
      have hB_2 := hV0.trans (hA_1.mono hV0.size)
      refine hK.out _ _ qM_2 (fun hHeld => ?_)
      simp only [Act.put, List.setIfInBounds_toArray, List.set_cons_zero, List.set_cons_succ]
      generalize V0.alloc (.cells ZZ 5) = V1 at hA_1 zs_1 qM_2 hB_2 hHeld ⊢
      clear hA_1
      generalize V0.heap.size = b1 at zs_1 ⊢
      refine take_dst (i := 2) (d := 32) (v := .agg #[.slice (some ⟨b1, 0, none⟩) KN KN, .int .i64 0]) rfl rfl (by kernel_rfl) (by kernel_rfl) (by kernel_rfl) (fun _ _ _ h => h) (Or.inl ⟨by rfl, ?_⟩) hHeld ?_
      · (intro w0 hSw; (try dsimp only at hSw); go_simp)
      simp only [Act.put, List.setIfInBounds_toArray, List.set_cons_zero, List.set_cons_succ]
      refine wpAnyH_ready (rs := [4, 8]) (by kernel_rfl) (by simp) (AllReadyH.cons rfl (fun KK hK => ?_) (AllReadyH.cons rfl (fun KK hK => ?_) AllReadyH.nil))
      · skip
        refine step_calls_dst rfl 34 rfl 17 [.tmp 32, .tmp 33] #[28, 47] rfl [.agg #[.slice (some ⟨b1, 0, none⟩) KN KN, .int .i64 0], .agg #[.int .i64 x.m.fr, .int .i64 x.m.tt, .int .i64 x.m.ki, .int .i64 x.m.bau, .int .i64 x.m.bnu, .slice x.m.bta x.m.btn x.m.btc, .int .i64 x.m.hau, .int .i64 x.m.hrd, .slice x.m.hba x.m.hbn x.m.hbc, .slice x.m.hpa x.m.hpn x.m.hpc, .int .i64 x.m.sau, .int .i64 x.m.srd, .slice x.m.sda x.m.sdn x.m.sdc, .int .i64 x.m.cau, .int .i64 x.m.crd, .slice x.m.cba x.m.cbn x.m.cbc, .slice x.m.cpa x.m.cpn x.m.cpc, .slice x.m.cva x.m.cvn x.m.cvc, .int .i64 x.m.ro]] rfl (enters_of Try.func17 (by kernel_rfl) rfl) (fun v w' => (∃ xe xce, v = .tuple #[.agg #[.slice xe XL xce, .int .i64 0], .int .i64 F]) ∧ Below V1.heap.size V1 w') ((HAp.out V1 (some ⟨b1, 0, none⟩) hB_2 zs_1).mono (fun e w2 h => by obtain ⟨xe, xce, he, h3⟩ := h; exact ⟨_, he, ⟨xe, xce, rfl⟩, h3⟩)) ?_
        rintro v V3 ⟨⟨xe, xce, rfl⟩, hb_3⟩
        have qM_4 := (hb_3.block _ (lt_of_heap qM_2)).trans qM_2
        have hB_4 := hB_2.trans (hb_3.mono hB_2.size)
        refine hK.out _ _ qM_4 (fun hHeld => ?_)
        simp only [Act.put, List.setIfInBounds_toArray, List.set_cons_zero, List.set_cons_succ]
        refine take_dst (i := 5) (d := 29) (v := .tuple #[.agg #[.slice xe XL xce, .int .i64 0], .int .i64 F]) rfl rfl (by kernel_rfl) (by kernel_rfl) (by kernel_rfl) (fun _ _ _ h => h) (Or.inl ⟨by rfl, ?_⟩) hHeld ?_
        · (intro w0 hSw; (try dsimp only at hSw); go_simp)
        simp only [Act.put, List.setIfInBounds_toArray, List.set_cons_zero, List.set_cons_succ]
        refine take_dst (i := 6) (d := 35) (v := .agg #[.slice xe XL xce, .int .i64 0]) rfl rfl (by kernel_rfl) (by kernel_rfl) (by kernel_rfl) (fun _ _ _ h => h) (Or.inl ⟨by rfl, ?_⟩) hHeld ?_
        · (intro w0 hSw; (try dsimp only at hSw); go_simp)
        simp only [Act.put, List.setIfInBounds_toArray, List.set_cons_zero, List.set_cons_succ]
        refine take_dst (i := 7) (d := 36) (v := .int .i64 F) rfl rfl (by kernel_rfl) (by kernel_rfl) (by kernel_rfl) (fun _ _ _ h => h) (Or.inl ⟨by rfl, ?_⟩) hHeld ?_
        · (intro w0 hSw; (try dsimp only at hSw); go_simp)
        simp only [Act.put, List.setIfInBounds_toArray, List.set_cons_zero, List.set_cons_succ]
        refine wpAnyH_ready (rs := [8]) (by kernel_rfl) (by simp) (AllReadyH.cons rfl (fun KK hK => ?_) AllReadyH.nil)
        refine step_run rfl 10 rfl (.pointer (some ⟨V3.heap.size, 0, none⟩)) (V3.alloc (.cells #[.slice none 0 0, .int .i64 0] 28)) (by go_simp) ?_
        have hA_5 : Below V3.heap.size V3 (V3.alloc (.cells #[.slice none 0 0, .int .i64 0] 28)) := (Below.refl _ _).alloc (Nat.le_refl _) _
        have qN_5 := heap_alloc_new V3 (.cells #[.slice none 0 0, .int .i64 0] 28)
        have hnM_5 := Nat.ne_of_lt (lt_of_heap qM_4)
        have hl_5 : w2.heap.size ≤ V3.heap.size := hB_4.size
        have qM_6 := (hA_5.block _ (lt_of_heap qM_4)).trans qM_4
        have hB_6 := hB_4.trans (hA_5.mono hB_4.size)
        refine hK.out _ _ qM_6 (fun hHeld => ?_)
        simp only [Act.put, List.setIfInBounds_toArray, List.set_cons_zero, List.set_cons_succ]
        generalize V3.alloc (.cells #[.slice none 0 0, .int .i64 0] 28) = V5 at hA_5 qN_5 qM_6 hB_6 hHeld ⊢
        clear hA_5
        generalize V3.heap.size = b5 at qN_5 hnM_5 hl_5 ⊢
        have z0_7 := cells_at qN_5 0 _ rfl
        have y0_7 := frozen_at qN_5 0
        have z1_7 := cells_at qN_5 1 _ rfl
        have y1_7 := frozen_at qN_5 1
        refine wpAnyH_ready (rs := [9]) (by kernel_rfl) (by simp) (AllReadyH.cons rfl (fun KK hK => ?_) AllReadyH.nil)
        refine step_store rfl rfl ((V5.setCell ⟨b5, 0, none⟩ (.slice xe XL xce)).setCell ⟨b5, 1, none⟩ (.int .i64 0)) (by go_simp) ?_
        have qB_7 : ((V5.setCell ⟨b5, 0, none⟩ (.slice xe XL xce)).setCell ⟨b5, 1, none⟩ (.int .i64 0)).heap[b5]? = some (.cells #[.slice xe XL xce, .int .i64 0] 28 (0, 0)) := by simpa using (heap_setCell_same _ _ 1 _ _ (.int .i64 0) (heap_setCell_same _ _ 0 _ _ (.slice xe XL xce) qN_5))
        have qM_7 := (heap_far (j := 1) (v := .int .i64 0) (heap_far (j := 0) (v := .slice xe XL xce) qM_6 hnM_5) hnM_5)
        have hB_7 := ((hB_6.setCell (p := ⟨b5, 0, none⟩) hl_5 (.slice xe XL xce)).setCell (p := ⟨b5, 1, none⟩) hl_5 (.int .i64 0))
        refine hK.out _ _ qM_7 (fun hHeld => ?_)
        generalize ((V5.setCell ⟨b5, 0, none⟩ (.slice xe XL xce)).setCell ⟨b5, 1, none⟩ (.int .i64 0)) = VE at qB_7 qM_7 hB_7 hHeld ⊢
        refine take_dst (i := 10) (d := 11) (v := .int .i64 F) rfl rfl (by kernel_rfl) (by kernel_rfl) (by kernel_rfl) (fun _ _ _ h => h) (Or.inl ⟨by rfl, ?_⟩) hHeld ?_
        · (intro w0 hSw; (try dsimp only at hSw); go_simp)
        simp only [Act.put, List.setIfInBounds_toArray, List.set_cons_zero, List.set_cons_succ]
        refine wpAnyH_done (by kernel_rfl) ?_ _
        go_wp2_with fail
        go_meet
        case rel => exact ⟨b5, xe, xce, rfl, rfl, hB_7, qB_7⟩
      · skip
        refine step_run rfl 10 rfl (.pointer (some ⟨V1.heap.size, 0, none⟩)) (V1.alloc (.cells #[.slice none 0 0, .int .i64 0] 28)) (by go_simp) ?_
        have hA_8 : Below V1.heap.size V1 (V1.alloc (.cells #[.slice none 0 0, .int .i64 0] 28)) := (Below.refl _ _).alloc (Nat.le_refl _) _
        have qN_8 := heap_alloc_new V1 (.cells #[.slice none 0 0, .int .i64 0] 28)
        have hnM_8 := Nat.ne_of_lt (lt_of_heap qM_2)
        have hl_8 : w2.heap.size ≤ V1.heap.size := hB_2.size
        have qM_9 := (hA_8.block _ (lt_of_heap qM_2)).trans qM_2
        have hB_9 := hB_2.trans (hA_8.mono hB_2.size)
        have hZ_9 := zs_1.below hA_8
        refine hK.out _ _ qM_9 (fun hHeld => ?_)
        simp only [Act.put, List.setIfInBounds_toArray, List.set_cons_zero, List.set_cons_succ]
        generalize V1.alloc (.cells #[.slice none 0 0, .int .i64 0] 28) = V8 at hA_8 qN_8 qM_9 hB_9 hZ_9 hHeld ⊢
        clear hA_8
        generalize V1.heap.size = b8 at qN_8 hnM_8 hl_8 ⊢
        refine wpAnyH_ready (rs := [4]) (by kernel_rfl) (by simp) (AllReadyH.cons rfl (fun KK hK => ?_) AllReadyH.nil)
        refine step_calls_dst rfl 34 rfl 17 [.tmp 32, .tmp 33] #[28, 47] rfl [.agg #[.slice (some ⟨b1, 0, none⟩) KN KN, .int .i64 0], .agg #[.int .i64 x.m.fr, .int .i64 x.m.tt, .int .i64 x.m.ki, .int .i64 x.m.bau, .int .i64 x.m.bnu, .slice x.m.bta x.m.btn x.m.btc, .int .i64 x.m.hau, .int .i64 x.m.hrd, .slice x.m.hba x.m.hbn x.m.hbc, .slice x.m.hpa x.m.hpn x.m.hpc, .int .i64 x.m.sau, .int .i64 x.m.srd, .slice x.m.sda x.m.sdn x.m.sdc, .int .i64 x.m.cau, .int .i64 x.m.crd, .slice x.m.cba x.m.cbn x.m.cbc, .slice x.m.cpa x.m.cpn x.m.cpc, .slice x.m.cva x.m.cvn x.m.cvc, .int .i64 x.m.ro]] rfl (enters_of Try.func17 (by kernel_rfl) rfl) (fun v w' => (∃ xe xce, v = .tuple #[.agg #[.slice xe XL xce, .int .i64 0], .int .i64 F]) ∧ Below V8.heap.size V8 w') ((HAp.out V8 (some ⟨b1, 0, none⟩) hB_9 hZ_9).mono (fun e w2 h => by obtain ⟨xe, xce, he, h3⟩ := h; exact ⟨_, he, ⟨xe, xce, rfl⟩, h3⟩)) ?_
        rintro v V10 ⟨⟨xe, xce, rfl⟩, hb_10⟩
        have qM_11 := (hb_10.block _ (lt_of_heap qM_9)).trans qM_9
        have qB_11 := (hb_10.block _ (lt_of_heap qN_8)).trans qN_8
        have hB_11 := hB_9.trans (hb_10.mono hB_9.size)
        refine hK.out _ _ qM_11 (fun hHeld => ?_)
        simp only [Act.put, List.setIfInBounds_toArray, List.set_cons_zero, List.set_cons_succ]
        refine take_dst (i := 5) (d := 29) (v := .tuple #[.agg #[.slice xe XL xce, .int .i64 0], .int .i64 F]) rfl rfl (by kernel_rfl) (by kernel_rfl) (by kernel_rfl) (fun _ _ _ h => h) (Or.inl ⟨by rfl, ?_⟩) hHeld ?_
        · (intro w0 hSw; (try dsimp only at hSw); go_simp)
        simp only [Act.put, List.setIfInBounds_toArray, List.set_cons_zero, List.set_cons_succ]
        refine take_dst (i := 6) (d := 35) (v := .agg #[.slice xe XL xce, .int .i64 0]) rfl rfl (by kernel_rfl) (by kernel_rfl) (by kernel_rfl) (fun _ _ _ h => h) (Or.inl ⟨by rfl, ?_⟩) hHeld ?_
        · (intro w0 hSw; (try dsimp only at hSw); go_simp)
        simp only [Act.put, List.setIfInBounds_toArray, List.set_cons_zero, List.set_cons_succ]
        refine take_dst (i := 7) (d := 36) (v := .int .i64 F) rfl rfl (by kernel_rfl) (by kernel_rfl) (by kernel_rfl) (fun _ _ _ h => h) (Or.inl ⟨by rfl, ?_⟩) hHeld ?_
        · (intro w0 hSw; (try dsimp only at hSw); go_simp)
        simp only [Act.put, List.setIfInBounds_toArray, List.set_cons_zero, List.set_cons_succ]
        have z0_12 := cells_at qB_11 0 _ rfl
        have y0_12 := frozen_at qB_11 0
        have z1_12 := cells_at qB_11 1 _ rfl
        have y1_12 := frozen_at qB_11 1
        refine wpAnyH_ready (rs := [9]) (by kernel_rfl) (by simp) (AllReadyH.cons rfl (fun KK hK => ?_) AllReadyH.nil)
        refine step_store rfl rfl ((V10.setCell ⟨b8, 0, none⟩ (.slice xe XL xce)).setCell ⟨b8, 1, none⟩ (.int .i64 0)) (by go_simp) ?_
        have qB_12 : ((V10.setCell ⟨b8, 0, none⟩ (.slice xe XL xce)).setCell ⟨b8, 1, none⟩ (.int .i64 0)).heap[b8]? = some (.cells #[.slice xe XL xce, .int .i64 0] 28 (0, 0)) := by simpa using (heap_setCell_same _ _ 1 _ _ (.int .i64 0) (heap_setCell_same _ _ 0 _ _ (.slice xe XL xce) qB_11))
        have qM_12 := (heap_far (j := 1) (v := .int .i64 0) (heap_far (j := 0) (v := .slice xe XL xce) qM_11 hnM_8) hnM_8)
        have hB_12 := ((hB_11.setCell (p := ⟨b8, 0, none⟩) hl_8 (.slice xe XL xce)).setCell (p := ⟨b8, 1, none⟩) hl_8 (.int .i64 0))
        refine hK.out _ _ qM_12 (fun hHeld => ?_)
        generalize ((V10.setCell ⟨b8, 0, none⟩ (.slice xe XL xce)).setCell ⟨b8, 1, none⟩ (.int .i64 0)) = VE at qB_12 qM_12 hB_12 hHeld ⊢
        refine take_dst (i := 10) (d := 11) (v := .int .i64 F) rfl rfl (by kernel_rfl) (by kernel_rfl) (by kernel_rfl) (fun _ _ _ h => h) (Or.inl ⟨by rfl, ?_⟩) hHeld ?_
        · (intro w0 hSw; (try dsimp only at hSw); go_simp)
        simp only [Act.put, List.setIfInBounds_toArray, List.set_cons_zero, List.set_cons_succ]
        refine wpAnyH_done (by kernel_rfl) ?_ _
        go_wp2_with fail
        go_meet
        case rel => exact ⟨b8, xe, xce, rfl, rfl, hB_12, qB_12⟩
    · skip
      refine step_run rfl 10 rfl (.pointer (some ⟨V0.heap.size, 0, none⟩)) (V0.alloc (.cells #[.slice none 0 0, .int .i64 0] 28)) (by go_simp) ?_
      have hA_13 : Below V0.heap.size V0 (V0.alloc (.cells #[.slice none 0 0, .int .i64 0] 28)) := (Below.refl _ _).alloc (Nat.le_refl _) _
      have qN_13 := heap_alloc_new V0 (.cells #[.slice none 0 0, .int .i64 0] 28)
      have hnM_13 := Nat.ne_of_lt (lt_of_heap qM0)
      have hl_13 : w2.heap.size ≤ V0.heap.size := hV0.size
      have qM_14 := (hA_13.block _ (lt_of_heap qM0)).trans qM0
      have hB_14 := hV0.trans (hA_13.mono hV0.size)
      refine hK.out _ _ qM_14 (fun hHeld => ?_)
      simp only [Act.put, List.setIfInBounds_toArray, List.set_cons_zero, List.set_cons_succ]
      generalize V0.alloc (.cells #[.slice none 0 0, .int .i64 0] 28) = V13 at hA_13 qN_13 qM_14 hB_14 hHeld ⊢
      clear hA_13
      generalize V0.heap.size = b13 at qN_13 hnM_13 hl_13 ⊢
      refine wpAnyH_ready (rs := [1]) (by kernel_rfl) (by simp) (AllReadyH.cons rfl (fun KK hK => ?_) AllReadyH.nil)
      have mk_15 := hmk V13
      refine step_run rfl 31 rfl (.slice (some ⟨V13.heap.size, 0, none⟩) KN KN) (V13.alloc (.cells ZZ 5)) (by go_simp) ?_
      clear mk_15
      have hA_15 : Below V13.heap.size V13 (V13.alloc (.cells ZZ 5)) := (Below.refl _ _).alloc (Nat.le_refl _) _
      have zs_15 := hzs V13
      have qM_16 := (hA_15.block _ (lt_of_heap qM_14)).trans qM_14
      have qB_16 := (hA_15.block _ (lt_of_heap qN_13)).trans qN_13
      have hB_16 := hB_14.trans (hA_15.mono hB_14.size)
      refine hK.out _ _ qM_16 (fun hHeld => ?_)
      simp only [Act.put, List.setIfInBounds_toArray, List.set_cons_zero, List.set_cons_succ]
      generalize V13.alloc (.cells ZZ 5) = V15 at hA_15 zs_15 qM_16 qB_16 hB_16 hHeld ⊢
      clear hA_15
      generalize V13.heap.size = b15 at zs_15 ⊢
      refine take_dst (i := 2) (d := 32) (v := .agg #[.slice (some ⟨b15, 0, none⟩) KN KN, .int .i64 0]) rfl rfl (by kernel_rfl) (by kernel_rfl) (by kernel_rfl) (fun _ _ _ h => h) (Or.inl ⟨by rfl, ?_⟩) hHeld ?_
      · (intro w0 hSw; (try dsimp only at hSw); go_simp)
      simp only [Act.put, List.setIfInBounds_toArray, List.set_cons_zero, List.set_cons_succ]
      refine wpAnyH_ready (rs := [4]) (by kernel_rfl) (by simp) (AllReadyH.cons rfl (fun KK hK => ?_) AllReadyH.nil)
      refine step_calls_dst rfl 34 rfl 17 [.tmp 32, .tmp 33] #[28, 47] rfl [.agg #[.slice (some ⟨b15, 0, none⟩) KN KN, .int .i64 0], .agg #[.int .i64 x.m.fr, .int .i64 x.m.tt, .int .i64 x.m.ki, .int .i64 x.m.bau, .int .i64 x.m.bnu, .slice x.m.bta x.m.btn x.m.btc, .int .i64 x.m.hau, .int .i64 x.m.hrd, .slice x.m.hba x.m.hbn x.m.hbc, .slice x.m.hpa x.m.hpn x.m.hpc, .int .i64 x.m.sau, .int .i64 x.m.srd, .slice x.m.sda x.m.sdn x.m.sdc, .int .i64 x.m.cau, .int .i64 x.m.crd, .slice x.m.cba x.m.cbn x.m.cbc, .slice x.m.cpa x.m.cpn x.m.cpc, .slice x.m.cva x.m.cvn x.m.cvc, .int .i64 x.m.ro]] rfl (enters_of Try.func17 (by kernel_rfl) rfl) (fun v w' => (∃ xe xce, v = .tuple #[.agg #[.slice xe XL xce, .int .i64 0], .int .i64 F]) ∧ Below V15.heap.size V15 w') ((HAp.out V15 (some ⟨b15, 0, none⟩) hB_16 zs_15).mono (fun e w2 h => by obtain ⟨xe, xce, he, h3⟩ := h; exact ⟨_, he, ⟨xe, xce, rfl⟩, h3⟩)) ?_
      rintro v V17 ⟨⟨xe, xce, rfl⟩, hb_17⟩
      have qM_18 := (hb_17.block _ (lt_of_heap qM_16)).trans qM_16
      have qB_18 := (hb_17.block _ (lt_of_heap qB_16)).trans qB_16
      have hB_18 := hB_16.trans (hb_17.mono hB_16.size)
      refine hK.out _ _ qM_18 (fun hHeld => ?_)
      simp only [Act.put, List.setIfInBounds_toArray, List.set_cons_zero, List.set_cons_succ]
      refine take_dst (i := 5) (d := 29) (v := .tuple #[.agg #[.slice xe XL xce, .int .i64 0], .int .i64 F]) rfl rfl (by kernel_rfl) (by kernel_rfl) (by kernel_rfl) (fun _ _ _ h => h) (Or.inl ⟨by rfl, ?_⟩) hHeld ?_
      · (intro w0 hSw; (try dsimp only at hSw); go_simp)
      simp only [Act.put, List.setIfInBounds_toArray, List.set_cons_zero, List.set_cons_succ]
      refine take_dst (i := 6) (d := 35) (v := .agg #[.slice xe XL xce, .int .i64 0]) rfl rfl (by kernel_rfl) (by kernel_rfl) (by kernel_rfl) (fun _ _ _ h => h) (Or.inl ⟨by rfl, ?_⟩) hHeld ?_
      · (intro w0 hSw; (try dsimp only at hSw); go_simp)
      simp only [Act.put, List.setIfInBounds_toArray, List.set_cons_zero, List.set_cons_succ]
      refine take_dst (i := 7) (d := 36) (v := .int .i64 F) rfl rfl (by kernel_rfl) (by kernel_rfl) (by kernel_rfl) (fun _ _ _ h => h) (Or.inl ⟨by rfl, ?_⟩) hHeld ?_
      · (intro w0 hSw; (try dsimp only at hSw); go_simp)
      simp only [Act.put, List.setIfInBounds_toArray, List.set_cons_zero, List.set_cons_succ]
      have z0_19 := cells_at qB_18 0 _ rfl
      have y0_19 := frozen_at qB_18 0
      have z1_19 := cells_at qB_18 1 _ rfl
      have y1_19 := frozen_at qB_18 1
      refine wpAnyH_ready (rs := [9]) (by kernel_rfl) (by simp) (AllReadyH.cons rfl (fun KK hK => ?_) AllReadyH.nil)
      refine step_store rfl rfl ((V17.setCell ⟨b13, 0, none⟩ (.slice xe XL xce)).setCell ⟨b13, 1, none⟩ (.int .i64 0)) (by go_simp) ?_
      have qB_19 : ((V17.setCell ⟨b13, 0, none⟩ (.slice xe XL xce)).setCell ⟨b13, 1, none⟩ (.int .i64 0)).heap[b13]? = some (.cells #[.slice xe XL xce, .int .i64 0] 28 (0, 0)) := by simpa using (heap_setCell_same _ _ 1 _ _ (.int .i64 0) (heap_setCell_same _ _ 0 _ _ (.slice xe XL xce) qB_18))
      have qM_19 := (heap_far (j := 1) (v := .int .i64 0) (heap_far (j := 0) (v := .slice xe XL xce) qM_18 hnM_13) hnM_13)
      have hB_19 := ((hB_18.setCell (p := ⟨b13, 0, none⟩) hl_13 (.slice xe XL xce)).setCell (p := ⟨b13, 1, none⟩) hl_13 (.int .i64 0))
      refine hK.out _ _ qM_19 (fun hHeld => ?_)
      generalize ((V17.setCell ⟨b13, 0, none⟩ (.slice xe XL xce)).setCell ⟨b13, 1, none⟩ (.int .i64 0)) = VE at qB_19 qM_19 hB_19 hHeld ⊢
      refine take_dst (i := 10) (d := 11) (v := .int .i64 F) rfl rfl (by kernel_rfl) (by kernel_rfl) (by kernel_rfl) (fun _ _ _ h => h) (Or.inl ⟨by rfl, ?_⟩) hHeld ?_
      · (intro w0 hSw; (try dsimp only at hSw); go_simp)
      simp only [Act.put, List.setIfInBounds_toArray, List.set_cons_zero, List.set_cons_succ]
      refine wpAnyH_done (by kernel_rfl) ?_ _
      go_wp2_with fail
      go_meet
      case rel => exact ⟨b13, xe, xce, rfl, rfl, hB_19, qB_19⟩
  case rest =>
    obtain ⟨bb, xe, xce, rfl, rfl, hbc, u2⟩ := hcut
    have hBc := hB2.trans (hbc.mono hB2.size)
    clear HAp HPk hmk hzs hn0 hn1' hn2'
    obtain ⟨ZB, zb, hzb, hmk2, hzs2⟩ := made_zeros 400001 (by decide)
    have hmk3 : ∀ w : World, (Instr.makeSlice 26 (.int .i64 400001) (.int .i64 400001)).run Try.prog w = .ok (.slice (some ⟨w.heap.size, 0, none⟩) 400001 400001) (w.alloc (.cells ZB 5)) := hmk2
    have hSb := sync_big zb (some ⟨wc.heap.size, 0, none⟩) 400001 400001 0 _ hzb.symm (hzs2 wc) (by omega) (by omega)
    have HSb : Hid _ := hSb
    have hAz : Below wc.heap.size wc (wc.alloc (.cells ZB 5)) := (Below.refl _ _).alloc (Nat.le_refl _) _
    have u3 := heap_keep (o := .cells ZB 5) u2
    clear hmk2 hzs2 hzb
    apply_assumption
    go_wp2_with fail
    clear HSb
    refine hSb.mono ?_
    rintro e w4 ⟨ga, gc, he, -, -, hb4⟩
    subst he
    dsimp only
    clear hSb hmk3
    have hBz := hBc.trans (hAz.mono hBc.size)
    have hB4 := hBz.trans (hb4.mono hBz.size)
    have u4 := heap_keep (o := .cells #[.slice ga 0 gc, .int .i64 0] 28) ((hb4.block _ (lt_of_heap u3)).trans u3)
    have hA4 : Below w4.heap.size w4 (w4.alloc (.cells #[.slice ga 0 gc, .int .i64 0] 28)) := (Below.refl _ _).alloc (Nat.le_refl _) _
    have hB4A := hB4.trans (hA4.mono hB4.size)
    have x0 := cells_at u4 0 _ rfl
    by_cases hp : 2 < P5
    · have hg : (399998 - (L : Int)) < (KN : Int) := by rw [HK.out]; omega
      have hbig : 400000 < KN + 2 + L := by have := HK.out; omega
      obtain ⟨hx1, hx2⟩ := HX.out
      rw [if_pos hbig] at hx1 hx2
      subst hx1 hx2
      clear hbig HX
      go_wp2_with fail
      go_ret
      exact ⟨rfl, hB4A⟩
    · have hg : ¬ (399998 - (L : Int)) < (KN : Int) := by rw [HK.out]; omega
      have hbig : ¬ 400000 < KN + 2 + L := by have := HK.out; omega
      obtain ⟨hx1, hx2⟩ := HX.out
      rw [if_neg hbig] at hx1 hx2
      subst hx1 hx2
      clear HX
      have hwk : IntKind.i64.wrap ((KN : Int) + 2) = (KN : Int) + 2 := by rw [IntKind.wrap_i64]; omega
      have hwl : IntKind.i64.wrap ((KN : Int) + 2 + (L : Int)) = (KN : Int) + 2 + (L : Int) := by rw [IntKind.wrap_i64]; omega
      clear hbig
      go_wp2_with fail
      go_ret
      exact ⟨by simp, hB4A⟩
end Go.Proofs.Ytcmlmmlcebemgaa

namespace Go.Proofs.Ytcmlmmlcebemgaa.appendFull
open Go.ChangeShapes Go.WideShapes Go.ChangeAt Go.RowKit

set_option maxRecDepth 100000 in
/-- What the walk gives, for every argument and every world. -/
theorem contract (H : Type) (enc : TypeId × Value → H) (W : World) (base : Nat) (args : Array Value) (ds gs : List (DataW H)) (before : List MemPlace)
    (hval : ∀ (j : Nat) t v, Try.f9.params[j]? = some t → args[j]? = some v → Value.okWide Try.prog W .any base t v)
    (hW : DataW.Whole enc Try.prog Try.f9.params.toList Rows.appendFullSpec.vars false W args.toList ds gs before) (hsz : (DataW.weightsEach Try.prog (Try.f9.params.toList ++ (OpenSpec.ofChange Rows.appendFullSpec).bare.plain.varTypes Try.prog) (ds ++ gs)).all (· ≤ reachBytes) = true) (_hL : laidMetH Try.prog Rows.appendFullRow.laid W) :
    Calls Try.prog 9 args W fun e W' => ∃ v, e = .returned v ∧ Rows.appendFullSpec.post enc Try.prog Try.f9 false true false false W args v W' := by
  have hW' := hW
  obtain ⟨p, q, hA0, hV, rfl, hfz, hnd⟩ := hW
  have hA : DataW.TrodAll enc Try.prog W 0 (fun _ => true) true Try.f9.params.toList args.toList ds p := hA0
  rw [Try.params9] at hA hval hsz
  obtain ⟨v0, vs0, d0, ds0, p0, q0, hargs, rfl, rfl, h0, r0⟩ := trodAll_cons hA
  obtain ⟨v1, vs1, d1, ds1, p1, q1, rfl, rfl, rfl, h1, r1⟩ := trodAll_cons r0
  obtain ⟨rfl, rfl, rfl⟩ := trodAll_nil r1
  obtain rfl : args = #[v0, v1] := by cases args; simp_all
  obtain ⟨rfl, rfl⟩ := trodVars_none hV
  have k0 := h0
  have lt0 : ∀ x ∈ p0, x.block < W.heap.size := by obtain ⟨m, hm⟩ := k0; exact DataW.trod_lt m _ _ _ hm
  obtain ⟨ki0, ra0, rb0, rc0, sa0, cap0, ss0, rfl, q0_0, q0_1, q0_2, q0_3, q0_4⟩ := open_raw (hval 0 56 v0 rfl rfl) h0 (fit_each hsz (j := 0) rfl rfl)
  obtain ⟨a1, rfl, rfl, rfl, w1⟩ := open_int Try.underlying3 (hval 1 3 v1 rfl rfl) h1
  obtain ⟨lo1, hi1⟩ := bounds_i64 w1
  clear hA0
  refine (appendFull_walk ki0 ra0 rb0 rc0 sa0 cap0 ss0 a1 W q0_0 q0_1 q0_2 q0_3 q0_4 lo1 hi1).mono fun e W' ⟨he, bel⟩ => ?_
  subst he
  exact ⟨_, rfl, _, _, _, [], _, [], hW', trodAll_mk1 (shut_bool Try.underlying4 _), (trodAll_cons_mk (Below.trod laidOut (by kernel_rfl) (of_decide_eq_true (by kernel_rfl)) k0 bel lt0) (trodAll_cons_mk (shut_int Try.underlying3 w1) trodAll_mk0)), rfl, bel.frame _, fun h => by cases h⟩

set_option maxRecDepth 100000 in
theorem laid_met (os : Os) : laidMet Try.prog Rows.appendFullRow.laid ((World.holding Try.prog os ⟨#[], #[], []⟩).forCall (fun _ _ => 0) ⟨#[], #[.agg #[.int .i64 0, .int .i64 0, .int .i64 0, .int .i64 0, .slice none 0 0], .int .i64 0], []⟩).memory :=
  laidMet_of_run' 8 (by kernel_rfl) (by kernel_rfl)
set_option maxRecDepth 100000 in
theorem reads (os : Os) {H : Type} (enc : TypeId × Value → H) : ∃ places, DataW.whole enc Try.prog ((World.holding Try.prog os ⟨#[], #[], []⟩).forCall (fun _ _ => 0) ⟨#[], #[.agg #[.int .i64 0, .int .i64 0, .int .i64 0, .int .i64 0, .slice none 0 0], .int .i64 0], []⟩).memory Try.f9.params.toList Rows.appendFullSpec.vars false (#[.agg #[.int .i64 0, .int .i64 0, .int .i64 0, .int .i64 0, .slice none 0 0], .int .i64 0] : Array Value).toList 8 = some ([.agg [.lit (.int .i64 0), .lit (.int .i64 0), .lit (.int .i64 0), .lit (.int .i64 0), .nil], .lit (.int .i64 0)], [], places) :=
  ⟨[], by kernel_rfl⟩

set_option maxRecDepth 100000 in
theorem lifted (os : Os) (started : os.Started) (H : Type) (enc : TypeId × Value → H) (F : Stop.Interp) :
    ReturnsInHanded {} Try.checked os 9 .any ((OpenSpec.ofChange Rows.appendFullSpec).preRow enc Try.prog Try.f9 Rows.appendFullRow.domain false Rows.appendFullRow.laid) (((OpenSpec.ofChange Rows.appendFullSpec).at F).post enc Try.prog Try.f9 false true false false) := by
  obtain ⟨places, hx⟩ := reads os enc
  refine returnsInHanded_of_row (C := Try.checked) (s := OpenSpec.ofChange Rows.appendFullSpec) own started (by kernel_rfl) Try.func9
    (witness_row_at (enc := enc) (C := Try.checked) false (World.holding Try.prog os ⟨#[], #[], []⟩) #[.agg #[.int .i64 0, .int .i64 0, .int .i64 0, .int .i64 0, .slice none 0 0], .int .i64 0] rfl (by kernel_rfl) (by kernel_rfl) (by kernel_rfl)
      (OpenSpec.preRow_of_cond 8 hx (by kernel_rfl) (fun k hk => by cases hk) (by kernel_rfl) (laid_met os))) ?_
  intro W base args ds gs before hval hW _ _ hsz hL _ _
  exact contract H enc W base args ds gs before hval hW hsz hL

set_option maxRecDepth 100000 in
theorem said : Rows.AppendFullSaid :=
  OpenClaim.holds_of_cond 9 Try.f9 rfl rfl rfl rfl rfl rfl rfl ⟨rfl, rfl, rfl, rfl, rfl⟩ rfl rfl rfl rfl rfl (by kernel_rfl) Try.func9 (by kernel_rfl)
    (of_decide_eq_true (by kernel_rfl)) (by unfold Func.isWrapper; first | (rw [if_pos (by decide +kernel)]; kernel_rfl) | (rw [if_neg (by decide +kernel)]; exact ⟨rfl, rfl⟩))
    (fun os started H enc _ F => by rw [OpenClaim.pre_eq_preRow]; exact lifted os started H enc F)

end Go.Proofs.Ytcmlmmlcebemgaa.appendFull
namespace Go.Proofs.Ytcmlmmlcebemgaa
set_option maxRecDepth 100000 in
theorem appendFull_holds : Rows.AppendFullSaid := appendFull.said
#print axioms appendFull_holds
end Go.Proofs.Ytcmlmmlcebemgaa
