/- Lists of raw things that are read, with their texts; the argument that is one. -/
import Derived.Test.YthpocgndgphedaaRecoverOddM48
import Derived.Test.YthpocgndgphedaaPK
import Derived.Laws.Rows
import Derived.Test.YthpocgndgphedaaTChk
import Derived.Test.YthpocgndgphedaaRecoverOddM36
import Derived.Deep.CutRange
import Derived.Deep.DeepCutAuto
import Derived.Test.YthpocgndgphedaaRecoverOddM24
import Derived.Test.YthpocgndgphedaaOpenB
import Derived.Test.YthpocgndgphedaaTextsAt
import Derived.Deep.Strs
import Derived.Deep.Slices
namespace Go.Proofs.Ythpocgndgphedaa
open Go.RowKit

set_option maxRecDepth 100000 in
theorem un_nx {n : Nat} {s : St} (h : (nx n s).2 = false) : s.1 = tT n s ++ (nx n s).1 ∧ (tT n s).length = n ∧ s.2 = false := by
  obtain ⟨l, sh⟩ := s
  have h' : tkS n l sh = false := h
  simp only [tkS, Bool.or_eq_false_iff, decide_eq_false_iff_not] at h'
  obtain ⟨rfl, hl⟩ := h'
  obtain ⟨a1, a2, a3⟩ := tk_ok (n := n) (l := l) (by omega)
  refine ⟨?_, ?_, rfl⟩
  · show l = tkT n l false ++ tkL n l false
    rw [a1, a2, List.take_append_drop]
  · show (tkT n l false).length = n
    rw [a1, List.length_take]; omega
set_option maxRecDepth 100000 in
theorem u8_nx {n : Nat} {s : St} (h : U8s s.1) : U8s (nx n s).1 := U8s.tkL h
set_option maxRecDepth 100000 in
theorem u8_tT {n : Nat} {s : St} (h : U8s s.1) : U8s (tT n s) := U8s.tkT h
set_option maxRecDepth 100000 in
theorem un_one {s : St} (h : (nx 1 s).2 = false) : s.1 = nB 1 s :: (nx 1 s).1 ∧ s.2 = false := by
  obtain ⟨h1, h2, h3⟩ := un_nx h
  refine ⟨?_, h3⟩
  match ht : tT 1 s, h2 with
  | [a], _ =>
    have hn : nB 1 s = a := by show numB (tT 1 s) = a; rw [ht]; simp [numB]
    rw [ht] at h1
    rw [hn]
    exact h1
set_option maxRecDepth 100000 in
theorem un_three {s : St} (hu : U8s s.1) (h : (nx 3 s).2 = false) : s.1 = rd3 (nB 3 s) ++ (nx 3 s).1 ∧ s.2 = false := by
  obtain ⟨h1, h2, h3⟩ := un_nx h
  have hu3 := u8_tT (n := 3) hu
  refine ⟨?_, h3⟩
  match ht : tT 3 s, h2 with
  | [a, b, c], _ =>
    rw [ht] at h1 hu3
    have ha := hu3 a (by simp)
    have hb := hu3 b (by simp)
    have hc := hu3 c (by simp)
    have hn : nB 3 s = 65536 * a + 256 * b + c := by
      show numB (tT 3 s) = _
      rw [ht]
      simp [numB]
      omega
    have e : rd3 (nB 3 s) = [a, b, c] := by
      rw [hn]
      simp only [rd3, List.cons.injEq, and_true]
      refine ⟨?_, ?_, ?_⟩ <;> omega
    rw [e]
    exact h1
set_option maxRecDepth 100000 in
theorem un_dg {s : St} (k : Nat) (h : (dgL s.1 s.2 k).2 = false) : s.1 = (dgD s.1 s.2 k).flatten ++ (dgL s.1 s.2 k).1 ∧ (dgD s.1 s.2 k).length = k ∧ s.2 = false := by
  induction k with
  | zero => exact ⟨rfl, rfl, h⟩
  | succ k ih =>
    have h1 : (nx 32 (dgL s.1 s.2 k)).2 = false := h
    obtain ⟨e1, _, e3⟩ := un_nx h1
    obtain ⟨i1, i2, i3⟩ := ih e3
    refine ⟨?_, ?_, i3⟩
    · show s.1 = (dgD s.1 s.2 k ++ [tT 32 (dgL s.1 s.2 k)]).flatten ++ (nx 32 (dgL s.1 s.2 k)).1
      rw [List.flatten_append, List.flatten_singleton, List.append_assoc, ← e1]
      exact i1
    · show (dgD s.1 s.2 k ++ [tkT 32 (dgL s.1 s.2 k).1 (dgL s.1 s.2 k).2]).length = k + 1
      rw [List.length_append, i2]; rfl
set_option maxRecDepth 100000 in
theorem un_dgs {s : St} (hu : U8s s.1) (h : (dgS s).2 = false) : s.1 = ((dgs s).length : Int) :: ((dgs s).flatten ++ (dgS s).1) ∧ s.2 = false := by
  obtain ⟨d1, d2, d3⟩ := un_dg (s := nx 1 s) (dN s.1 s.2) h
  obtain ⟨e1, e3⟩ := un_one d3
  refine ⟨?_, e3⟩
  have hb : 0 ≤ nB 1 s := by
    have := hu (nB 1 s) (by rw [e1]; simp)
    omega
  have hN : ((dgs s).length : Int) = nB 1 s := by
    have e : (dgs s).length = (nB 1 s).toNat := d2
    rw [e]; omega
  rw [hN]
  have e : (nx 1 s).1 = (dgs s).flatten ++ (dgS s).1 := d1
  rw [← e]
  exact e1
set_option maxRecDepth 100000 in
theorem u8_dgS {s : St} (hu : U8s s.1) (h : (dgS s).2 = false) : U8s (dgS s).1 := fun x hx => hu x (by rw [(un_dgs hu h).1]; simp [hx])
set_option maxRecDepth 100000 in
theorem un_nL {s : St} (k : Nat) (h : (nL s k).2 = false) : s.1 = nV s k ++ (nL s k).1 ∧ (nV s k).length = k ∧ s.2 = false := by
  induction k with
  | zero => exact ⟨rfl, rfl, h⟩
  | succ k ih =>
    have h1 : (nx 1 (nL s k)).2 = false := h
    obtain ⟨e1, e3⟩ := un_one h1
    obtain ⟨i1, i2, i3⟩ := ih e3
    refine ⟨?_, ?_, i3⟩
    · show s.1 = (nV s k ++ [nB 1 (nL s k)]) ++ (nx 1 (nL s k)).1
      rw [List.append_assoc, List.singleton_append, ← e1]
      exact i1
    · show (nV s k ++ [nB 1 (nL s k)]).length = k + 1
      rw [List.length_append, i2]; rfl
set_option maxRecDepth 100000 in
theorem tb_bstr {l : List Int} (h : U8s l) : tb (bstr l) = l := by
  rw [tb, bstr_data, List.map_map]
  conv => rhs; rw [← List.map_id l]
  refine List.map_congr_left fun x hx => ?_
  have := h x hx
  simp
  omega
set_option maxRecDepth 100000 in
theorem un_bL {s : St} (hu : U8s s.1) (k : Nat) (h : (bL s k).2 = false) : s.1 = txsB (bT s k) ++ (bL s k).1 ∧ (bT s k).length = k ∧ s.2 = false ∧ U8s (bL s k).1 := by
  induction k with
  | zero => exact ⟨rfl, rfl, h, hu⟩
  | succ k ih =>
    have h1 : (nx (nB 1 (bL s k)).toNat (nx 1 (bL s k))).2 = false := h
    obtain ⟨e1, e2, e3⟩ := un_nx h1
    obtain ⟨f1, f3⟩ := un_one e3
    obtain ⟨i1, i2, i3, i4⟩ := ih f3
    have hb : 0 ≤ nB 1 (bL s k) := by
      have := i4 (nB 1 (bL s k)) (by rw [f1]; simp)
      omega
    refine ⟨?_, ?_, i3, u8_nx (u8_nx i4)⟩
    · show s.1 = txsB (bT s k ++ [bstr (tT (nB 1 (bL s k)).toNat (nx 1 (bL s k)))]) ++ (nx (nB 1 (bL s k)).toNat (nx 1 (bL s k))).1
      rw [txsB_snoc, bstr_size, tb_bstr (u8_tT (u8_nx i4)), e2, List.append_assoc, List.cons_append, ← e1, Int.toNat_of_nonneg hb, ← f1]
      exact i1
    · show (bT s k ++ [bstr (tT (nB 1 (bL s k)).toNat (nx 1 (bL s k)))]).length = k + 1
      rw [List.length_append, i2]; rfl
set_option maxRecDepth 100000 in
theorem flat_c {qs : List Part} {l : List (List Int)} (h : qs.map (·.bs) = l) : digsB qs = (l.length : Int) :: l.flatten := by
  subst h
  rw [digsB, List.length_map]
  congr 1
  induction qs with
  | nil => rfl
  | cons p qs ih => simp [flatB, ih]
set_option maxRecDepth 100000 in
set_option maxHeartbeats 1000000 in
/-- No message has two forms. -/
theorem un_msg {y : MV} {bs : List Int} (hC : checkF y.m y.car = 0) (hu : U8s bs) (hS : mS (bs, false) = ([], false)) (hc : y.c = pM (bs, false)) : y.bytes = bs := by
  have hS2 : (mS (bs, false)).2 = false := by rw [hS]
  obtain ⟨s, hs⟩ : ∃ s : St, (bs, false) = s := ⟨_, rfl⟩
  have hb : bs = s.1 := by rw [← hs]
  rw [hs] at hS hS2 hc
  rw [hb] at hu ⊢
  clear hs hb
  have hB : y.bytes = y.m.ki :: y.m.fr :: y.m.tt :: bodyB y.m y.ss y.bl y.pl y.cbl y.cpl y.ds y.vl := rfl
  rw [hB]
  by_cases k1 : nB 1 s = 1
  · rw [pM, if_pos k1] at hc
    rw [mS, if_pos k1] at hS hS2
    simp only [MV.c, MC.mk.injEq] at hc
    obtain ⟨e1, e2, e3, e4, e5, e6, _⟩ := hc
    have hu' : U8s (nx 1 (bS3 (nx 1 (nx 1 (nx 1 s))))).1 := u8_nx (u8_nx (u8_nx (u8_nx (u8_nx (u8_nx hu)))))
    obtain ⟨a1, a2, a3, _⟩ := un_bL hu' _ hS2
    obtain ⟨b1, b3⟩ := un_one a3
    obtain ⟨c1, c3⟩ := un_three (s := nx 1 (nx 1 (nx 1 (nx 1 s)))) (u8_nx (u8_nx (u8_nx (u8_nx hu)))) b3
    obtain ⟨d1, d3⟩ := un_one c3
    obtain ⟨f1, f3⟩ := un_one d3
    obtain ⟨g1, g3⟩ := un_one f3
    obtain ⟨i1, i3⟩ := un_one g3
    have hb0 : 0 ≤ nB 1 (bS3 (nx 1 (nx 1 (nx 1 s)))) := by
      have := (show U8s (bS3 (nx 1 (nx 1 (nx 1 s)))).1 from u8_nx (u8_nx (u8_nx (u8_nx (u8_nx hu))))) (nB 1 (bS3 (nx 1 (nx 1 (nx 1 s))))) (by rw [b1]; simp)
      omega
    have hN : (y.ss.length : Int) = nB 1 (bS3 (nx 1 (nx 1 (nx 1 s)))) := by
      rw [e6, a2]
      show (((nB 1 (bS3 (nx 1 (nx 1 (nx 1 s))))).toNat : Nat) : Int) = _
      omega
    rw [bodyB1 (e3.trans k1), batchB, hN, e3, e1, e2, e4, e5, e6]
    rw [i1, g1, f1, d1, c1]
    have b1' : (nx 3 (nx 1 (nx 1 (nx 1 (nx 1 s))))).1 = nB 1 (bS3 (nx 1 (nx 1 (nx 1 s)))) :: (nx 1 (bS3 (nx 1 (nx 1 (nx 1 s))))).1 := b1
    rw [b1', a1, hS]
    simp
  · by_cases k2 : nB 1 s = 2
    · rw [pM, if_neg k1, if_pos k2] at hc
      rw [mS, if_neg k1, if_pos k2] at hS hS2
      simp only [MV.c, MC.mk.injEq] at hc
      obtain ⟨e1, e2, e3, _, _, _, e7, e8, e9, e10, _⟩ := hc
      have hu3 : U8s (nx 3 (nx 1 (nx 1 (nx 1 (nx 1 s))))).1 := u8_nx (u8_nx (u8_nx (u8_nx (u8_nx hu))))
      obtain ⟨x1, x3⟩ := un_dgs (fun z hz => by
        have h9 : (dgS (nx 3 (nx 1 (nx 1 (nx 1 (nx 1 s)))))).2 = false := (dgS_ext [] hS2).2
        exact u8_dgS hu3 h9 z hz) hS2
      obtain ⟨y1, y3⟩ := un_dgs hu3 x3
      obtain ⟨c1, c3⟩ := un_three (u8_nx (u8_nx (u8_nx (u8_nx hu)))) y3
      obtain ⟨d1, d3⟩ := un_one c3
      obtain ⟨f1, f3⟩ := un_one d3
      obtain ⟨g1, g3⟩ := un_one f3
      obtain ⟨i1, i3⟩ := un_one g3
      rw [bodyB2 (e3.trans k2), headB, flat_c e9, flat_c e10, e3, e1, e2, e7, e8]
      rw [i1, g1, f1, d1, c1, y1, x1, hS]
      simp
    · by_cases k3 : nB 1 s = 3
      · rw [pM, if_neg k1, if_neg k2, if_pos k3] at hc
        rw [mS, if_neg k1, if_neg k2, if_pos k3] at hS hS2
        simp only [MV.c, MC.mk.injEq] at hc
        obtain ⟨e1, e2, e3, _, _, _, _, _, _, _, e11, e12, e13, _⟩ := hc
        obtain ⟨x1, _, x3⟩ := un_nx hS2
        obtain ⟨c1, c3⟩ := un_three (u8_nx (u8_nx (u8_nx (u8_nx hu)))) x3
        obtain ⟨d1, d3⟩ := un_one c3
        obtain ⟨f1, f3⟩ := un_one d3
        obtain ⟨g1, g3⟩ := un_one f3
        obtain ⟨i1, i3⟩ := un_one g3
        rw [bodyB3 (e3.trans k3), e3, e1, e2, e11, e12, e13]
        rw [i1, g1, f1, d1, c1, x1, hS]
        simp
      · by_cases k4 : nB 1 s = 4
        · rw [pM, if_neg k1, if_neg k2, if_neg k3, if_pos k4] at hc
          rw [mS, if_neg k1, if_neg k2, if_neg k3, if_pos k4] at hS hS2
          simp only [MV.c, MC.mk.injEq] at hc
          obtain ⟨e1, e2, e3, _, _, _, _, _, _, _, _, _, _, e14, e15, e16, e17, e18, _⟩ := hc
          obtain ⟨a1, a2, a3⟩ := un_nL _ hS2
          obtain ⟨b1, b3⟩ := un_one a3
          have hu3 : U8s (nx 3 (nx 1 (nx 1 (nx 1 (nx 1 s))))).1 := u8_nx (u8_nx (u8_nx (u8_nx (u8_nx hu))))
          have b4 : (dgS (dgS (nx 3 (nx 1 (nx 1 (nx 1 (nx 1 s))))))).2 = false := b3
          have b5 : (dgS (nx 3 (nx 1 (nx 1 (nx 1 (nx 1 s)))))).2 = false := (dgS_ext [] b4).2
          have hu4 := u8_dgS hu3 b5
          have hu5 := u8_dgS hu4 b4
          obtain ⟨x1, x3⟩ := un_dgs hu4 b4
          obtain ⟨y1, y3⟩ := un_dgs hu3 x3
          obtain ⟨c1, c3⟩ := un_three (u8_nx (u8_nx (u8_nx (u8_nx hu)))) y3
          obtain ⟨d1, d3⟩ := un_one c3
          obtain ⟨f1, f3⟩ := un_one d3
          obtain ⟨g1, g3⟩ := un_one f3
          obtain ⟨i1, i3⟩ := un_one g3
          have b1' : (dgS (dgS (nx 3 (nx 1 (nx 1 (nx 1 (nx 1 s))))))).1 = nB 1 (hS4 (nx 1 (nx 1 (nx 1 s)))) :: (nx 1 (hS4 (nx 1 (nx 1 (nx 1 s))))).1 := b1
          have hb0 : 0 ≤ nB 1 (hS4 (nx 1 (nx 1 (nx 1 s)))) := by
            have := hu5 (nB 1 (hS4 (nx 1 (nx 1 (nx 1 s))))) (by rw [b1']; simp)
            omega
          have hN : (y.vl.length : Int) = nB 1 (hS4 (nx 1 (nx 1 (nx 1 s)))) := by
            rw [e18, a2]
            show (((nB 1 (hS4 (nx 1 (nx 1 (nx 1 s))))).toNat : Nat) : Int) = _
            omega
          rw [bodyB4 (e3.trans k4), certB, headB, flat_c e16, flat_c e17, hN, e3, e1, e2, e14, e15, e18]
          rw [i1, g1, f1, d1, c1, y1, x1, b1', a1, hS]
          simp
        · rw [pM, if_neg k1, if_neg k2, if_neg k3, if_neg k4] at hc
          rw [mS, if_neg k1, if_neg k2, if_neg k3, if_neg k4] at hS hS2
          simp only [MV.c, MC.mk.injEq] at hc
          obtain ⟨e1, e2, e3, _, _, _, _, _, _, _, _, _, _, _, _, _, _, _, e19⟩ := hc
          obtain ⟨c1, c3⟩ := un_three (u8_nx (u8_nx (u8_nx hu))) hS2
          obtain ⟨f1, f3⟩ := un_one c3
          obtain ⟨g1, g3⟩ := un_one f3
          obtain ⟨i1, i3⟩ := un_one g3
          have k5 : y.m.ki = 5 := by
            obtain ⟨_, _, h9, _⟩ := checkF_ok hC
            have h9' : carriedF y.m y.ss y.bl y.pl y.cbl y.cpl y.vl = 0 := h9
            have := carriedF_kind h9'
            omega
          rw [bodyB5 k5, e3, e1, e2, e19]
          rw [i1, g1, f1, c1, hS]
          simp
end Go.Proofs.Ythpocgndgphedaa

namespace Go.Proofs.Ythpocgndgphedaa
open Go.RowKit

set_option maxRecDepth 100000 in
theorem wpList_load_row_w {ops : Array Oper} {rest : List Oper} {o : Oper} {a : Act} {w : World} {Q : Exit → Act → World → Prop} (hw : Region.wanted o (yielded ops a.tmps) = true) (ty : TypeId) (x : Operand) (ho : o.op = .load ty x)
    (g : Nat) (hx : a.eval x = .pointer (some ⟨g, 0, none⟩)) (t : TypeId) (cs : Array Value) (fr : Nat × Nat) (d : TypeDesc) (hg : w.heap[g]? = some (.cells cs t fr))
    (hu : Try.prog.underlying ty = some d) (hd : (match d with | .struct _ | .array _ _ => true | _ => false) = true) (hi : (Try.prog.info? ty).map (·.size) = some cs.size)
    (h : wpList Try.prog ops Q rest (a.put o.dst (.agg cs)) w) : wpList Try.prog ops Q (o :: rest) a w := by
  refine wpList_step fun K hK => ?_
  rw [if_pos hw]
  exact wp_load_row ty x ho g hx t cs fr d hg hu (by cases d <;> first | exact hd | rfl) hi (hK _ _ h)
set_option maxRecDepth 100000 in
/-- A struct that is loaded as a row: what the operation answers. -/
theorem run_load_row {o : Oper} {a : Act} {w : World} (ty : TypeId) (x : Operand) (ho : o.op = .load ty x)
    (g : Nat) (hx : a.eval x = .pointer (some ⟨g, 0, none⟩)) (t : TypeId) (cs : Array Value) (fr : Nat × Nat) (d : TypeDesc) (hg : w.heap[g]? = some (.cells cs t fr))
    (hu : Try.prog.underlying ty = some d) (hd : (match d with | .struct _ | .array _ _ => true | _ => false) = true) (hi : (Try.prog.info? ty).map (·.size) = some cs.size) :
    (execOp a.eval o).run Try.prog w = .ok (.value (.agg cs)) w := by
  unfold execOp
  simp only [ho, hx, Instr.loadAt, Instr.sureAddr, Sem.run_bind, Sem.run_pure, Result.andThen_ok, run_loadVar_row w g t ty cs fr d hg hu (by cases d <;> first | exact hd | rfl) hi]
end Go.Proofs.Ythpocgndgphedaa

namespace Go.Proofs.Ythpocgndgphedaa
open Go.RowKit

set_option maxRecDepth 100000 in
theorem getD_memT {l : List Int} {k : Nat} (h : k < l.length) : l.getD k 0 ∈ l := by
  have e : l.getD k 0 = l[k] := by simp [List.getD, h]
  rw [e]
  exact List.getElem_mem h
/-- No record begins these bytes. -/
def noRec (bs : List Int) : Prop := ∀ (w0 : World) (x : MV) (r : List Int), MAt w0 x → IsRec x → bs ≠ x.onTape ++ r
set_option maxRecDepth 100000 in
theorem onTape_form {bs : List Int} {x : MV} {r : List Int} (h : bs = x.onTape ++ r) : bs.getD 0 0 = (x.bytes.length : Int) / 256 ∧ bs.getD 1 0 = (x.bytes.length : Int) % 256 ∧ bs.length = 2 + x.bytes.length + r.length ∧ (bs.drop 2).take x.bytes.length = x.bytes := by
  subst h
  refine ⟨rfl, rfl, by simp [MV.onTape]; omega, ?_⟩
  simp [MV.onTape]
set_option maxRecDepth 100000 in
theorem dec_fixT {w w' : World} {e : Ending} {bs : List Int} (h : DecIs w w' e bs) (hu : U8s bs) :
    (∃ F : Int, F ≠ 0 ∧ e = .returned (.tuple #[.agg #[.int .i64 0, .int .i64 0, .int .i64 0, .int .i64 0, .int .i64 0, .slice none 0 0, .int .i64 0, .int .i64 0, .slice none 0 0, .slice none 0 0, .int .i64 0, .int .i64 0, .slice none 0 0, .int .i64 0, .int .i64 0, .slice none 0 0, .slice none 0 0, .slice none 0 0, .int .i64 0], .int .i64 F])) ∨ ∃ y : MV, MAt w' y ∧ HasM (fun q => w.heap.size ≤ q) y ∧ checkF y.m y.car = 0 ∧ y.bytes = bs ∧ e = .returned (.tuple #[.agg #[.int .i64 y.m.fr, .int .i64 y.m.tt, .int .i64 y.m.ki, .int .i64 y.m.bau, .int .i64 y.m.bnu, .slice y.m.bta y.m.btn y.m.btc, .int .i64 y.m.hau, .int .i64 y.m.hrd, .slice y.m.hba y.m.hbn y.m.hbc, .slice y.m.hpa y.m.hpn y.m.hpc, .int .i64 y.m.sau, .int .i64 y.m.srd, .slice y.m.sda y.m.sdn y.m.sdc, .int .i64 y.m.cau, .int .i64 y.m.crd, .slice y.m.cba y.m.cbn y.m.cbc, .slice y.m.cpa y.m.cpn y.m.cpc, .slice y.m.cva y.m.cvn y.m.cvc, .int .i64 y.m.ro], .int .i64 0]) := by
  rcases h.out with ⟨h0, he⟩ | ⟨h0, y, hy, hA, hH, hx⟩
  · exact .inl ⟨_, h0, he⟩
  · rcases hx with ⟨hC, he⟩ | ⟨hC, he⟩
    · refine .inr ⟨y, hA, hH, hC, ?_, he⟩
      have hS : mS (bs, false) = ([], false) := by
        unfold readF at h0
        split at h0
        · cases h0
        · split at h0
          · cases h0
          · split at h0
            · cases h0
            · split at h0
              · cases h0
              · rename_i h9
                split at h0
                · cases h0
                · rename_i h8
                  refine Prod.ext ?_ ?_
                  · exact Decidable.not_not.1 h8
                  · exact eq_false_of_ne_true h9
      exact un_msg hC hu hS hy
    · exact .inl ⟨_, hC, he⟩
set_option maxRecDepth 100000 in
/-- Records of the same bytes say the same. -/
theorem same_c {w w0 : World} {x y : MV} (hx : MAt w x) (hy : MAt w0 y) (cx : checkF x.m x.car = 0) (cy : checkF y.m y.car = 0) (h : y.bytes = x.bytes) : y.c = x.c := by
  have px := (parse_back x [] hx (checkF_ok cx).2.2.1 (checkF_ok cx).2.2.2).1
  have py := (parse_back y [] hy (checkF_ok cy).2.2.1 (checkF_ok cy).2.2.2).1
  rw [← px, ← py, h]
set_option maxRecDepth 100000 in
theorem rec_of {y : MV} (cy : checkF y.m y.car = 0) (h : recF y.m 0 = 0) : IsRec y := by
  obtain ⟨_, _, h1, h2⟩ := checkF_ok cy
  rw [recF, if_neg (by simp)] at h
  split at h
  · cases h
  · rename_i h9
    exact ⟨h1, h2, by omega, by omega, by omega⟩
set_option maxRecDepth 100000 in
theorem recF_of {y : MV} (h : IsRec y) : recF y.m 0 = 0 := by
  rw [recF, if_neg (by simp), if_neg]
  rintro (h9 | h9 | h9)
  · exact h9 h.fr
  · exact h9 h.tt
  · exact h.ki h9
set_option maxRecDepth 100000 in
theorem recF_c {x y : MV} (h : y.c = x.c) : recF y.m 0 = recF x.m 0 := by
  simp only [MV.c, MC.mk.injEq] at h
  rw [recF, recF, h.1, h.2.1, h.2.2.1]
structure FirstIs (w w' : World) (e : Ending) (bs : List Int) : Prop where
  out : (e = .returned (.tuple #[.agg #[.int .i64 0, .int .i64 0, .int .i64 0, .int .i64 0, .int .i64 0, .slice none 0 0, .int .i64 0, .int .i64 0, .slice none 0 0, .slice none 0 0, .int .i64 0, .int .i64 0, .slice none 0 0, .int .i64 0, .int .i64 0, .slice none 0 0, .slice none 0 0, .slice none 0 0, .int .i64 0], .int .i64 0]) ∧ noRec bs) ∨ ∃ (y : MV) (r : List Int), bs = y.onTape ++ r ∧ MAt w' y ∧ HasM (fun q => w.heap.size ≤ q) y ∧ IsRec y ∧ e = .returned (.tuple #[.agg #[.int .i64 y.m.fr, .int .i64 y.m.tt, .int .i64 y.m.ki, .int .i64 y.m.bau, .int .i64 y.m.bnu, .slice y.m.bta y.m.btn y.m.btc, .int .i64 y.m.hau, .int .i64 y.m.hrd, .slice y.m.hba y.m.hbn y.m.hbc, .slice y.m.hpa y.m.hpn y.m.hpc, .int .i64 y.m.sau, .int .i64 y.m.srd, .slice y.m.sda y.m.sdn y.m.sdc, .int .i64 y.m.cau, .int .i64 y.m.crd, .slice y.m.cba y.m.cbn y.m.cbc, .slice y.m.cpa y.m.cpn y.m.cpc, .slice y.m.cva y.m.cvn y.m.cvc, .int .i64 y.m.ro], .int .i64 (y.onTape.length : Int)])
  below : Below w.heap.size w w'
set_option maxRecDepth 100000 in
set_option maxHeartbeats 1500000 in
theorem first_any (bs : List Int) (sa : Option Addr) (n cap : Nat) (w : World) (hn : n = bs.length) (hs : SliceAt w sa cap bs) (hu : U8s bs) (hl : bs.length ≤ 400000) :
    Calls Try.prog 23 #[.slice sa n cap] w fun e w' => FirstIs w w' e bs := by
  have hA : Below w.heap.size w (w.alloc (.cells #[.int .i64 0, .int .i64 0, .int .i64 0, .int .i64 0, .int .i64 0, .slice none 0 0, .int .i64 0, .int .i64 0, .slice none 0 0, .slice none 0 0, .int .i64 0, .int .i64 0, .slice none 0 0, .int .i64 0, .int .i64 0, .slice none 0 0, .slice none 0 0, .slice none 0 0, .int .i64 0] 47)) := (Below.refl _ _).alloc (Nat.le_refl _) _
  have q0 := heap_alloc_new w (.cells #[.int .i64 0, .int .i64 0, .int .i64 0, .int .i64 0, .int .i64 0, .slice none 0 0, .int .i64 0, .int .i64 0, .slice none 0 0, .slice none 0 0, .int .i64 0, .int .i64 0, .slice none 0 0, .int .i64 0, .int .i64 0, .slice none 0 0, .slice none 0 0, .slice none 0 0, .int .i64 0] 47)
  by_cases h2 : n < 2
  · have hNo : Hid (noRec bs) := by
      show noRec bs
      intro w0 x r _ _ e
      have := (onTape_form e).2.2.1
      omega
    have h2I : (n : Int) < 2 := by omega
    clear hs hu hn hl
    go_enter Try.func23, Try.ntmps23
    go_upto_region 2 with fail
    generalize w.alloc (.cells #[.int .i64 0, .int .i64 0, .int .i64 0, .int .i64 0, .int .i64 0, .slice none 0 0, .int .i64 0, .int .i64 0, .slice none 0 0, .slice none 0 0, .int .i64 0, .int .i64 0, .slice none 0 0, .int .i64 0, .int .i64 0, .slice none 0 0, .slice none 0 0, .slice none 0 0, .int .i64 0] 47) = W0 at hA q0 ⊢
    go_wp2_with (refine wpList_store_row rfl 47 _ _ rfl w.heap.size #[.int .i64 0, .int .i64 0, .int .i64 0, .int .i64 0, .int .i64 0, .slice none 0 0, .int .i64 0, .int .i64 0, .slice none 0 0, .slice none 0 0, .int .i64 0, .int .i64 0, .slice none 0 0, .int .i64 0, .int .i64 0, .slice none 0 0, .slice none 0 0, .slice none 0 0, .int .i64 0] rfl rfl 47 _ q0 sMsg' rfl (by simp [Value.oneCell']) ?_)
    exact bodyPost_ret (v := .tuple #[.agg #[.int .i64 0, .int .i64 0, .int .i64 0, .int .i64 0, .int .i64 0, .slice none 0 0, .int .i64 0, .int .i64 0, .slice none 0 0, .slice none 0 0, .int .i64 0, .int .i64 0, .slice none 0 0, .int .i64 0, .int .i64 0, .slice none 0 0, .slice none 0 0, .slice none 0 0, .int .i64 0], .int .i64 0]) (results_cell_slot (fn := Try.f23) (p := 2) (q := 3) (ty := 47) rfl _ _ w.heap.size 47 _ (0, 0) _ (.int .i64 0) ⟨rfl, rfl⟩ (setRow_heap _ _ _ _ _ _ q0) Try.underlying47 rfl sMsg') rfl ⟨.inl ⟨rfl, hNo.out⟩, (Upd.setRow q0).below hA hA.size (Nat.le_refl _)⟩
  · obtain ⟨b0, hb0⟩ : ∃ b, bs.getD 0 0 = b := ⟨_, rfl⟩
    obtain ⟨b1, hb1⟩ : ∃ b, bs.getD 1 0 = b := ⟨_, rfl⟩
    obtain ⟨sb, so, rfl, hc⟩ : ∃ sb so, sa = some ⟨sb, so, none⟩ ∧ ∀ j, j < bs.length → w.cell? ⟨sb, so + j, none⟩ = some (.int .u8 (bs.getD j 0)) := by
      rcases hs.bytes with h | h
      · subst h; simp at hn; omega
      · exact h
    have c0 := hc 0 (by omega)
    have c1 := hc 1 (by omega)
    rw [hb0] at c0
    rw [hb1] at c1
    have h2I : ¬ ((n : Int) < 2) := by omega
    have hi0 : (0 : Int) < n := by omega
    have hi1 : (1 : Int) < n := by omega
    go_enter Try.func23, Try.ntmps23
    go_upto_region 3 with fail
    have d0 : (w.alloc (.cells #[.int .i64 0, .int .i64 0, .int .i64 0, .int .i64 0, .int .i64 0, .slice none 0 0, .int .i64 0, .int .i64 0, .slice none 0 0, .slice none 0 0, .int .i64 0, .int .i64 0, .slice none 0 0, .int .i64 0, .int .i64 0, .slice none 0 0, .slice none 0 0, .slice none 0 0, .int .i64 0] 47)).cell? ⟨sb, so, none⟩ = some (.int .u8 b0) := (World.cell?_of_block (hA.block sb (block_lt_of_cell c0))).trans c0
    have d1 := (World.cell?_of_block (hA.block sb (block_lt_of_cell c1))).trans c1
    have hs0 := hs.below hA
    have hu0 := hu b0 (by rw [← hb0]; exact getD_memT (by omega))
    have hu1 := hu b1 (by rw [← hb1]; exact getD_memT (by omega))
    clear c0 c1 hc
    generalize w.alloc (.cells #[.int .i64 0, .int .i64 0, .int .i64 0, .int .i64 0, .int .i64 0, .slice none 0 0, .int .i64 0, .int .i64 0, .slice none 0 0, .slice none 0 0, .int .i64 0, .int .i64 0, .slice none 0 0, .int .i64 0, .int .i64 0, .slice none 0 0, .slice none 0 0, .slice none 0 0, .int .i64 0] 47) = W0 at hA q0 d0 d1 hs0 ⊢
    obtain ⟨L, hL⟩ : ∃ L : Nat, b0 * 256 + b1 = L := ⟨(b0 * 256 + b1).toNat, by omega⟩
    have hLE : 2 + b0 * 256 + b1 = ((2 + L : Nat) : Int) := by omega
    have HF : Hid (∀ (x : MV) (r : List Int), bs = x.onTape ++ r → x.bytes.length = L ∧ 2 + L ≤ n ∧ (bs.drop 2).take L = x.bytes) := by
      show ∀ _, _
      intro x r e
      obtain ⟨f1, f2, f3, f4⟩ := onTape_form e
      have hXL : x.bytes.length = L := by omega
      rw [hXL] at f4
      exact ⟨hXL, by omega, f4⟩
    obtain ⟨E, hE⟩ : ∃ E : Nat, 2 + L = E := ⟨_, rfl⟩
    rw [hE] at hLE
    have HLE : Hid _ := hLE
    have Hhs : Hid _ := hs
    have Hhu : Hid _ := hu
    have Hn : Hid _ := hn
    clear hLE hs hu hn
    go_cut [4] (fun v wx => v = .int .i64 (E : Int) ∧ Below w.heap.size w wx ∧ wx.heap[w.heap.size]? = some (.cells #[.int .i64 0, .int .i64 0, .int .i64 0, .int .i64 0, .int .i64 0, .slice none 0 0, .int .i64 0, .int .i64 0, .slice none 0 0, .slice none 0 0, .int .i64 0, .int .i64 0, .slice none 0 0, .int .i64 0, .int .i64 0, .slice none 0 0, .slice none 0 0, .slice none 0 0, .int .i64 0] 47 (0, 0)))
    case first =>
      go_region
      all_goals
        go_wp2_with fail
        go_meet
        case rel => exact ⟨by rw [← HLE.out], hA.drew, q0⟩
    case rest =>
      obtain ⟨rfl, hA2, q2⟩ := hcut
      clear hA q0 d0 d1 hs0
      have hs2 := Hhs.out.below hA2
      have hu := Hhu.out
      have hn := Hn.out
      generalize wc = W2 at hA2 q2 hs2 ⊢
      apply_assumption
      by_cases hEn : n < E
      · have hEI : (n : Int) < E := by omega
        have hNo : Hid (noRec bs) := by
          show noRec bs
          intro w0 x r _ _ e
          have := (HF.out x r e).2.1
          omega
        clear hu hs2
        go_wp2_with (refine wpList_store_row rfl 47 _ _ rfl w.heap.size #[.int .i64 0, .int .i64 0, .int .i64 0, .int .i64 0, .int .i64 0, .slice none 0 0, .int .i64 0, .int .i64 0, .slice none 0 0, .slice none 0 0, .int .i64 0, .int .i64 0, .slice none 0 0, .int .i64 0, .int .i64 0, .slice none 0 0, .slice none 0 0, .slice none 0 0, .int .i64 0] rfl rfl 47 _ q2 sMsg' rfl (by simp [Value.oneCell']) ?_)
        exact bodyPost_ret (v := .tuple #[.agg #[.int .i64 0, .int .i64 0, .int .i64 0, .int .i64 0, .int .i64 0, .slice none 0 0, .int .i64 0, .int .i64 0, .slice none 0 0, .slice none 0 0, .int .i64 0, .int .i64 0, .slice none 0 0, .int .i64 0, .int .i64 0, .slice none 0 0, .slice none 0 0, .slice none 0 0, .int .i64 0], .int .i64 0]) (results_cell_slot (fn := Try.f23) (p := 2) (q := 3) (ty := 47) rfl _ _ w.heap.size 47 _ (0, 0) _ (.int .i64 0) ⟨rfl, rfl⟩ (setRow_heap _ _ _ _ _ _ q2) Try.underlying47 rfl sMsg') rfl ⟨.inl ⟨rfl, hNo.out⟩, (Upd.setRow q2).below hA2 hA2.size (Nat.le_refl _)⟩
      · have hEI : ¬ ((n : Int) < E) := by omega
        have hcap := hs2.le
        have hcI : (E : Int) ≤ cap := by omega
        have h2E : (2 : Int) ≤ E := by omega
        have hC1 := (cut_slice (n := 2) hs2 (by omega)).takeR L L (by rw [List.length_drop]; omega) (Nat.le_refl _) (by omega) (fun e => by cases e)
        have hC2 : E = 2 → SliceAt W2 (some ⟨sb, so, none⟩) L ((bs.drop 2).take L) := by
          intro h
          have hL0 : L = 0 := by omega
          rw [hL0]
          exact hs2.takeR 0 0 (Nat.zero_le _) (Nat.le_refl _) (Nat.zero_le _) (fun e => by cases e)
        have hTl : ((bs.drop 2).take L).length = L := by rw [List.length_take, List.length_drop]; omega
        have hU2 : U8s ((bs.drop 2).take L) := fun z hz => hu z (List.mem_of_mem_drop (List.mem_of_mem_take hz))
        have hB : Hid (∀ y : MV, y.bytes = (bs.drop 2).take L → bs = y.onTape ++ bs.drop E ∧ (y.onTape.length : Int) = E) := by
          show ∀ _, _
          intro y hy
          have hyl : y.bytes.length = L := by rw [hy, hTl]
          have hb : bs = b0 :: b1 :: bs.drop 2 := by
            match bs, hb0, hb1, hn with
            | a :: b :: l, e1, e2, _ =>
              have e1' : a = b0 := e1
              have e2' : b = b1 := e2
              rw [e1', e2']; rfl
            | [], _, _, h9 => simp at h9; omega
            | [_], _, _, h9 => simp at h9; omega
          have hd : bs.drop E = (bs.drop 2).drop L := by rw [List.drop_drop]; congr 1; omega
          constructor
          · rw [MV.onTape, hyl, hd, hy, List.append_assoc, List.take_append_drop]
            rw [show (L : Int) / 256 = b0 by omega, show (L : Int) % 256 = b1 by omega]
            exact hb
          · rw [MV.onTape, List.length_append, hyl]
            simp
            omega
        have HD1 : Hid (Calls Try.prog 32 #[.slice (some ⟨sb, so + 2, none⟩) (E - 2) (E - 2)] W2 fun e w' => DecIs W2 w' e ((bs.drop 2).take L)) := by
          show Calls _ _ _ _ _
          rw [show E - 2 = L by omega]
          exact decode_any _ _ L L W2 hTl.symm hC1 hU2 (by omega)
        have HD2 : Hid (E = 2 → Calls Try.prog 32 #[.slice (some ⟨sb, so, none⟩) 0 0] W2 fun e w' => DecIs W2 w' e ((bs.drop 2).take L)) := fun h => by
          have h9 := decode_any _ _ L L W2 hTl.symm (hC2 h) hU2 (by omega)
          rw [show L = 0 by omega] at h9 ⊢
          exact h9
        have HU2 : Hid _ := hU2
        have HE : Hid _ := hE
        clear hTl hb0 hb1 hC1 hC2 hs2 hu hU2 hL hu0 hu1
        rcases (by omega : E = 2 ∨ 2 < E) with hE2 | hE2
        · subst hE2
          have HD : Hid _ := HD2.out rfl
          have hn2 : ¬ ((n : Int) < 2) := by omega
          have hc2 : (2 : Int) ≤ cap := by omega
          clear HD1 HD2 HE hEI hcI h2E hEn hcap hn hE
          go_upto_region 6 with fail
          go_cut [5, 6] (fun x v wx => ∃ A : Nat, x = .pointer (some ⟨A, 0, none⟩) ∧ Below w.heap.size w wx ∧ wx.heap[w.heap.size]? = some (.cells #[.int .i64 0, .int .i64 0, .int .i64 0, .int .i64 0, .int .i64 0, .slice none 0 0, .int .i64 0, .int .i64 0, .slice none 0 0, .slice none 0 0, .int .i64 0, .int .i64 0, .slice none 0 0, .int .i64 0, .int .i64 0, .slice none 0 0, .slice none 0 0, .slice none 0 0, .int .i64 0] 47 (0, 0)) ∧ ((∃ F : Int, F ≠ 0 ∧ v = .int .i64 F ∧ Hid (noRec bs)) ∨ ∃ y : MV, v = .int .i64 0 ∧ MAt wx y ∧ HasM (fun q => W2.heap.size ≤ q) y ∧ checkF y.m y.car = 0 ∧ y.bytes = (bs.drop 2).take L ∧ wx.heap[A]? = some (.cells #[.int .i64 y.m.fr, .int .i64 y.m.tt, .int .i64 y.m.ki, .int .i64 y.m.bau, .int .i64 y.m.bnu, .slice y.m.bta y.m.btn y.m.btc, .int .i64 y.m.hau, .int .i64 y.m.hrd, .slice y.m.hba y.m.hbn y.m.hbc, .slice y.m.hpa y.m.hpn y.m.hpc, .int .i64 y.m.sau, .int .i64 y.m.srd, .slice y.m.sda y.m.sdn y.m.sdc, .int .i64 y.m.cau, .int .i64 y.m.crd, .slice y.m.cba y.m.cbn y.m.cbc, .slice y.m.cpa y.m.cpn y.m.cpc, .slice y.m.cva y.m.cvn y.m.cvc, .int .i64 y.m.ro] 47 (0, 0))))
          case first =>
            clear hB
            go_wp2_with fail
            refine Calls.mono (HD.out) ?_
            all_goals
              intro e w3 hd3
              have hb3 := hd3.below
              have hB3 := hA2.trans (hb3.mono hA2.size)
              have z3 := (hb3.block _ (lt_of_heap q2)).trans q2
              have HX : Hid (∀ (w0 : World) (x : MV) (r : List Int), MAt w0 x → IsRec x → bs = x.onTape ++ r → (bs.drop 2).take L = x.bytes ∧ ∃ m : Msg, e = .returned (.tuple #[.agg #[.int .i64 m.fr, .int .i64 m.tt, .int .i64 m.ki, .int .i64 m.bau, .int .i64 m.bnu, .slice m.bta m.btn m.btc, .int .i64 m.hau, .int .i64 m.hrd, .slice m.hba m.hbn m.hbc, .slice m.hpa m.hpn m.hpc, .int .i64 m.sau, .int .i64 m.srd, .slice m.sda m.sdn m.sdc, .int .i64 m.cau, .int .i64 m.crd, .slice m.cba m.cbn m.cbc, .slice m.cpa m.cpn m.cpc, .slice m.cva m.cvn m.cvc, .int .i64 m.ro], .int .i64 0])) := by
                show ∀ _, _
                intro w0 x r h1 h2 h3
                have h4 := (HF.out x r h3).2.2
                rw [h4] at hd3
                obtain ⟨y, _, _, _, he, _⟩ := dec_back h1 h2.check hd3
                exact ⟨h4, y.m, he⟩
              rcases dec_fixT hd3 HU2.out with ⟨F, hF0, he⟩ | ⟨y, hY, hH, hC, hyb, he⟩
              · have hNo : Hid (noRec bs) := by
                  show noRec bs
                  intro w0 x r h1 h2 h3
                  obtain ⟨_, m, h4⟩ := HX.out w0 x r h1 h2 h3
                  rw [he] at h4
                  simp at h4
                  exact hF0 h4.2
                clear hd3 HX
                subst he
                dsimp only
                have qz := heap_alloc_new w3 (.cells #[.int .i64 0, .int .i64 0, .int .i64 0, .int .i64 0, .int .i64 0, .slice none 0 0, .int .i64 0, .int .i64 0, .slice none 0 0, .slice none 0 0, .int .i64 0, .int .i64 0, .slice none 0 0, .int .i64 0, .int .i64 0, .slice none 0 0, .slice none 0 0, .slice none 0 0, .int .i64 0] 47)
                have hA4 : Below w3.heap.size w3 ((w3.alloc (.cells #[.int .i64 0, .int .i64 0, .int .i64 0, .int .i64 0, .int .i64 0, .slice none 0 0, .int .i64 0, .int .i64 0, .slice none 0 0, .slice none 0 0, .int .i64 0, .int .i64 0, .slice none 0 0, .int .i64 0, .int .i64 0, .slice none 0 0, .slice none 0 0, .slice none 0 0, .int .i64 0] 47)).setRow w3.heap.size #[.int .i64 0, .int .i64 0, .int .i64 0, .int .i64 0, .int .i64 0, .slice none 0 0, .int .i64 0, .int .i64 0, .slice none 0 0, .slice none 0 0, .int .i64 0, .int .i64 0, .slice none 0 0, .int .i64 0, .int .i64 0, .slice none 0 0, .slice none 0 0, .slice none 0 0, .int .i64 0]) := laid_row w3 #[.int .i64 0, .int .i64 0, .int .i64 0, .int .i64 0, .int .i64 0, .slice none 0 0, .int .i64 0, .int .i64 0, .slice none 0 0, .slice none 0 0, .int .i64 0, .int .i64 0, .slice none 0 0, .int .i64 0, .int .i64 0, .slice none 0 0, .slice none 0 0, .slice none 0 0, .int .i64 0] #[.int .i64 0, .int .i64 0, .int .i64 0, .int .i64 0, .int .i64 0, .slice none 0 0, .int .i64 0, .int .i64 0, .slice none 0 0, .slice none 0 0, .int .i64 0, .int .i64 0, .slice none 0 0, .int .i64 0, .int .i64 0, .slice none 0 0, .slice none 0 0, .slice none 0 0, .int .i64 0] 47
                have q4 := setRow_heap _ _ _ #[.int .i64 0, .int .i64 0, .int .i64 0, .int .i64 0, .int .i64 0, .slice none 0 0, .int .i64 0, .int .i64 0, .slice none 0 0, .slice none 0 0, .int .i64 0, .int .i64 0, .slice none 0 0, .int .i64 0, .int .i64 0, .slice none 0 0, .slice none 0 0, .slice none 0 0, .int .i64 0] _ _ qz
                have z4 := (hA4.block _ (lt_of_heap z3)).trans z3
                have hB4 := hB3.trans (hA4.mono hB3.size)
                go_wp2_with (refine wpList_store_row rfl 47 _ _ rfl w3.heap.size #[.int .i64 0, .int .i64 0, .int .i64 0, .int .i64 0, .int .i64 0, .slice none 0 0, .int .i64 0, .int .i64 0, .slice none 0 0, .slice none 0 0, .int .i64 0, .int .i64 0, .slice none 0 0, .int .i64 0, .int .i64 0, .slice none 0 0, .slice none 0 0, .slice none 0 0, .int .i64 0] rfl rfl 47 _ qz sMsg' rfl (by simp [Value.oneCell']) ?_)
                go_meet
                case rel => exact ⟨w3.heap.size, rfl, hB4, z4, .inl ⟨F, hF0, rfl, hNo⟩⟩
              · clear hd3 HX
                subst he
                dsimp only
                have hY4 := hY
                have qz := heap_alloc_new w3 (.cells #[.int .i64 0, .int .i64 0, .int .i64 0, .int .i64 0, .int .i64 0, .slice none 0 0, .int .i64 0, .int .i64 0, .slice none 0 0, .slice none 0 0, .int .i64 0, .int .i64 0, .slice none 0 0, .int .i64 0, .int .i64 0, .slice none 0 0, .slice none 0 0, .slice none 0 0, .int .i64 0] 47)
                have hA4 : Below w3.heap.size w3 ((w3.alloc (.cells #[.int .i64 0, .int .i64 0, .int .i64 0, .int .i64 0, .int .i64 0, .slice none 0 0, .int .i64 0, .int .i64 0, .slice none 0 0, .slice none 0 0, .int .i64 0, .int .i64 0, .slice none 0 0, .int .i64 0, .int .i64 0, .slice none 0 0, .slice none 0 0, .slice none 0 0, .int .i64 0] 47)).setRow w3.heap.size #[.int .i64 y.m.fr, .int .i64 y.m.tt, .int .i64 y.m.ki, .int .i64 y.m.bau, .int .i64 y.m.bnu, .slice y.m.bta y.m.btn y.m.btc, .int .i64 y.m.hau, .int .i64 y.m.hrd, .slice y.m.hba y.m.hbn y.m.hbc, .slice y.m.hpa y.m.hpn y.m.hpc, .int .i64 y.m.sau, .int .i64 y.m.srd, .slice y.m.sda y.m.sdn y.m.sdc, .int .i64 y.m.cau, .int .i64 y.m.crd, .slice y.m.cba y.m.cbn y.m.cbc, .slice y.m.cpa y.m.cpn y.m.cpc, .slice y.m.cva y.m.cvn y.m.cvc, .int .i64 y.m.ro]) := laid_row w3 #[.int .i64 0, .int .i64 0, .int .i64 0, .int .i64 0, .int .i64 0, .slice none 0 0, .int .i64 0, .int .i64 0, .slice none 0 0, .slice none 0 0, .int .i64 0, .int .i64 0, .slice none 0 0, .int .i64 0, .int .i64 0, .slice none 0 0, .slice none 0 0, .slice none 0 0, .int .i64 0] #[.int .i64 y.m.fr, .int .i64 y.m.tt, .int .i64 y.m.ki, .int .i64 y.m.bau, .int .i64 y.m.bnu, .slice y.m.bta y.m.btn y.m.btc, .int .i64 y.m.hau, .int .i64 y.m.hrd, .slice y.m.hba y.m.hbn y.m.hbc, .slice y.m.hpa y.m.hpn y.m.hpc, .int .i64 y.m.sau, .int .i64 y.m.srd, .slice y.m.sda y.m.sdn y.m.sdc, .int .i64 y.m.cau, .int .i64 y.m.crd, .slice y.m.cba y.m.cbn y.m.cbc, .slice y.m.cpa y.m.cpn y.m.cpc, .slice y.m.cva y.m.cvn y.m.cvc, .int .i64 y.m.ro] 47
                have q4 := setRow_heap _ _ _ #[.int .i64 y.m.fr, .int .i64 y.m.tt, .int .i64 y.m.ki, .int .i64 y.m.bau, .int .i64 y.m.bnu, .slice y.m.bta y.m.btn y.m.btc, .int .i64 y.m.hau, .int .i64 y.m.hrd, .slice y.m.hba y.m.hbn y.m.hbc, .slice y.m.hpa y.m.hpn y.m.hpc, .int .i64 y.m.sau, .int .i64 y.m.srd, .slice y.m.sda y.m.sdn y.m.sdc, .int .i64 y.m.cau, .int .i64 y.m.crd, .slice y.m.cba y.m.cbn y.m.cbc, .slice y.m.cpa y.m.cpn y.m.cpc, .slice y.m.cva y.m.cvn y.m.cvc, .int .i64 y.m.ro] _ _ qz
                have z4 := (hA4.block _ (lt_of_heap z3)).trans z3
                have hB4 := hB3.trans (hA4.mono hB3.size)
                go_wp2_with (refine wpList_store_row rfl 47 _ _ rfl w3.heap.size #[.int .i64 y.m.fr, .int .i64 y.m.tt, .int .i64 y.m.ki, .int .i64 y.m.bau, .int .i64 y.m.bnu, .slice y.m.bta y.m.btn y.m.btc, .int .i64 y.m.hau, .int .i64 y.m.hrd, .slice y.m.hba y.m.hbn y.m.hbc, .slice y.m.hpa y.m.hpn y.m.hpc, .int .i64 y.m.sau, .int .i64 y.m.srd, .slice y.m.sda y.m.sdn y.m.sdc, .int .i64 y.m.cau, .int .i64 y.m.crd, .slice y.m.cba y.m.cbn y.m.cbc, .slice y.m.cpa y.m.cpn y.m.cpc, .slice y.m.cva y.m.cvn y.m.cvc, .int .i64 y.m.ro] rfl rfl 47 _ qz sMsg' rfl (by simp [Value.oneCell']) ?_)
                go_meet
                case rel => exact ⟨w3.heap.size, rfl, hB4, z4, .inr ⟨y, rfl, hY.below hA4, hH, hC, hyb, q4⟩⟩
          case rest =>
            obtain ⟨A, rfl, hB4, z4, h⟩ := hcut
            generalize wc = W4 at hB4 z4 h ⊢
            apply_assumption
            rcases h with ⟨F, hF0, rfl, hNo⟩ | ⟨y, rfl, hY4, hH, hC, hyb, q4⟩
            · have hFb : (F != 0) = true := by simp [hF0]
              clear hB
              go_wp2_with (refine wpList_store_row rfl 47 _ _ rfl w.heap.size #[.int .i64 0, .int .i64 0, .int .i64 0, .int .i64 0, .int .i64 0, .slice none 0 0, .int .i64 0, .int .i64 0, .slice none 0 0, .slice none 0 0, .int .i64 0, .int .i64 0, .slice none 0 0, .int .i64 0, .int .i64 0, .slice none 0 0, .slice none 0 0, .slice none 0 0, .int .i64 0] rfl rfl 47 _ z4 sMsg' rfl (by simp [Value.oneCell']) ?_)
              exact bodyPost_ret (v := .tuple #[.agg #[.int .i64 0, .int .i64 0, .int .i64 0, .int .i64 0, .int .i64 0, .slice none 0 0, .int .i64 0, .int .i64 0, .slice none 0 0, .slice none 0 0, .int .i64 0, .int .i64 0, .slice none 0 0, .int .i64 0, .int .i64 0, .slice none 0 0, .slice none 0 0, .slice none 0 0, .int .i64 0], .int .i64 0]) (results_cell_slot (fn := Try.f23) (p := 2) (q := 3) (ty := 47) rfl _ _ w.heap.size 47 _ (0, 0) _ (.int .i64 0) ⟨rfl, rfl⟩ (setRow_heap _ _ _ _ _ _ z4) Try.underlying47 rfl sMsg') rfl ⟨.inl ⟨rfl, hNo.out⟩, (Upd.setRow z4).below hB4 hB4.size (Nat.le_refl _)⟩
            · obtain ⟨hbB, hbE⟩ := hB.out y hyb
              have hCk := tapeCheck_any y.m y.ss y.bl y.pl y.cbl y.cpl y.vl W4 hY4.at'
              have hC' : checkF y.m (carriedF y.m y.ss y.bl y.pl y.cbl y.cpl y.vl) = 0 := hC
              rw [hC'] at hCk
              have HR : Hid (∀ (w0 : World) (x : MV) (r : List Int), MAt w0 x → IsRec x → bs = x.onTape ++ r → recF y.m 0 = 0) := by
                show ∀ _, _
                intro w0 x r h1 h2 h3
                have h4 := (HF.out x r h3).2.2
                rw [recF_c (same_c h1 hY4 h2.check hC (hyb.trans h4))]
                exact recF_of h2
              have HI : Hid (recF y.m 0 = 0 → IsRec y) := rec_of hC
              have HbB : Hid _ := hbB
              have HbE : Hid _ := hbE
              clear hbB hbE hyb hC hC' hB
              generalize recF y.m 0 = R at *
              go_wp2_with (refine wpList_load_row_w rfl 47 _ rfl A rfl 47 #[.int .i64 y.m.fr, .int .i64 y.m.tt, .int .i64 y.m.ki, .int .i64 y.m.bau, .int .i64 y.m.bnu, .slice y.m.bta y.m.btn y.m.btc, .int .i64 y.m.hau, .int .i64 y.m.hrd, .slice y.m.hba y.m.hbn y.m.hbc, .slice y.m.hpa y.m.hpn y.m.hpc, .int .i64 y.m.sau, .int .i64 y.m.srd, .slice y.m.sda y.m.sdn y.m.sdc, .int .i64 y.m.cau, .int .i64 y.m.crd, .slice y.m.cba y.m.cbn y.m.cbc, .slice y.m.cpa y.m.cpn y.m.cpc, .slice y.m.cva y.m.cvn y.m.cvc, .int .i64 y.m.ro] (0, 0) _ q4 Try.underlying47 rfl sMsg' ?_)
              refine hCk.mono ?_
              rintro e w5 ⟨he, hb5⟩
              clear hCk
              subst he
              dsimp only
              have hB5 := hB4.trans (hb5.mono hB4.size)
              have z5 := (hb5.block _ (lt_of_heap z4)).trans z4
              have q5 := (hb5.block _ (lt_of_heap q4)).trans q4
              have hY5 := hY4.below hb5
              by_cases hR : R = 0
              · have hI : Hid (IsRec y) := HI.out hR
                subst hR
                go_wp2_with (first | refine wpList_load_row rfl 47 _ rfl A rfl 47 #[.int .i64 y.m.fr, .int .i64 y.m.tt, .int .i64 y.m.ki, .int .i64 y.m.bau, .int .i64 y.m.bnu, .slice y.m.bta y.m.btn y.m.btc, .int .i64 y.m.hau, .int .i64 y.m.hrd, .slice y.m.hba y.m.hbn y.m.hbc, .slice y.m.hpa y.m.hpn y.m.hpc, .int .i64 y.m.sau, .int .i64 y.m.srd, .slice y.m.sda y.m.sdn y.m.sdc, .int .i64 y.m.cau, .int .i64 y.m.crd, .slice y.m.cba y.m.cbn y.m.cbc, .slice y.m.cpa y.m.cpn y.m.cpc, .slice y.m.cva y.m.cvn y.m.cvc, .int .i64 y.m.ro] (0, 0) _ q5 Try.underlying47 rfl sMsg' ?_ | refine wpList_store_row rfl 47 _ _ rfl w.heap.size #[.int .i64 y.m.fr, .int .i64 y.m.tt, .int .i64 y.m.ki, .int .i64 y.m.bau, .int .i64 y.m.bnu, .slice y.m.bta y.m.btn y.m.btc, .int .i64 y.m.hau, .int .i64 y.m.hrd, .slice y.m.hba y.m.hbn y.m.hbc, .slice y.m.hpa y.m.hpn y.m.hpc, .int .i64 y.m.sau, .int .i64 y.m.srd, .slice y.m.sda y.m.sdn y.m.sdc, .int .i64 y.m.cau, .int .i64 y.m.crd, .slice y.m.cba y.m.cbn y.m.cbc, .slice y.m.cpa y.m.cpn y.m.cpc, .slice y.m.cva y.m.cvn y.m.cvc, .int .i64 y.m.ro] rfl rfl 47 _ z5 sMsg' rfl (by simp [Value.oneCell']) ?_)
                exact bodyPost_ret (v := .tuple #[.agg #[.int .i64 y.m.fr, .int .i64 y.m.tt, .int .i64 y.m.ki, .int .i64 y.m.bau, .int .i64 y.m.bnu, .slice y.m.bta y.m.btn y.m.btc, .int .i64 y.m.hau, .int .i64 y.m.hrd, .slice y.m.hba y.m.hbn y.m.hbc, .slice y.m.hpa y.m.hpn y.m.hpc, .int .i64 y.m.sau, .int .i64 y.m.srd, .slice y.m.sda y.m.sdn y.m.sdc, .int .i64 y.m.cau, .int .i64 y.m.crd, .slice y.m.cba y.m.cbn y.m.cbc, .slice y.m.cpa y.m.cpn y.m.cpc, .slice y.m.cva y.m.cvn y.m.cvc, .int .i64 y.m.ro], .int .i64 ((2 : Nat) : Int)]) (results_cell_slot (fn := Try.f23) (p := 2) (q := 3) (ty := 47) rfl _ _ w.heap.size 47 _ (0, 0) _ (.int .i64 ((2 : Nat) : Int)) ⟨rfl, rfl⟩ (setRow_heap _ _ _ _ _ _ z5) Try.underlying47 rfl sMsg') rfl ⟨.inr ⟨y, bs.drop 2, HbB.out, hY5.setRow (B := W2.heap.size) hH (lt_of_heap q2), hH.mono (fun q hq => Nat.le_trans hA2.size hq), hI.out, by rw [HbE.out]⟩, (Upd.setRow z5).below hB5 hB5.size (Nat.le_refl _)⟩
              · have hNo : Hid (noRec bs) := by
                  show noRec bs
                  intro w0 x r h1 h2 h3
                  exact hR (HR.out w0 x r h1 h2 h3)
                have hRb : (R != 0) = true := by simp [hR]
                go_wp2_with (refine wpList_store_row rfl 47 _ _ rfl w.heap.size #[.int .i64 0, .int .i64 0, .int .i64 0, .int .i64 0, .int .i64 0, .slice none 0 0, .int .i64 0, .int .i64 0, .slice none 0 0, .slice none 0 0, .int .i64 0, .int .i64 0, .slice none 0 0, .int .i64 0, .int .i64 0, .slice none 0 0, .slice none 0 0, .slice none 0 0, .int .i64 0] rfl rfl 47 _ z5 sMsg' rfl (by simp [Value.oneCell']) ?_)
                exact bodyPost_ret (v := .tuple #[.agg #[.int .i64 0, .int .i64 0, .int .i64 0, .int .i64 0, .int .i64 0, .slice none 0 0, .int .i64 0, .int .i64 0, .slice none 0 0, .slice none 0 0, .int .i64 0, .int .i64 0, .slice none 0 0, .int .i64 0, .int .i64 0, .slice none 0 0, .slice none 0 0, .slice none 0 0, .int .i64 0], .int .i64 0]) (results_cell_slot (fn := Try.f23) (p := 2) (q := 3) (ty := 47) rfl _ _ w.heap.size 47 _ (0, 0) _ (.int .i64 0) ⟨rfl, rfl⟩ (setRow_heap _ _ _ _ _ _ z5) Try.underlying47 rfl sMsg') rfl ⟨.inl ⟨rfl, hNo.out⟩, (Upd.setRow z5).below hB5 hB5.size (Nat.le_refl _)⟩
        · have h3E : (2 : Int) < E := by omega
          have h4E : ¬ E = 2 := by omega
          clear hn hE
          go_upto_region 6 with fail
          go_cut [5, 6] (fun x v wx => ∃ A : Nat, x = .pointer (some ⟨A, 0, none⟩) ∧ Below w.heap.size w wx ∧ wx.heap[w.heap.size]? = some (.cells #[.int .i64 0, .int .i64 0, .int .i64 0, .int .i64 0, .int .i64 0, .slice none 0 0, .int .i64 0, .int .i64 0, .slice none 0 0, .slice none 0 0, .int .i64 0, .int .i64 0, .slice none 0 0, .int .i64 0, .int .i64 0, .slice none 0 0, .slice none 0 0, .slice none 0 0, .int .i64 0] 47 (0, 0)) ∧ ((∃ F : Int, F ≠ 0 ∧ v = .int .i64 F ∧ Hid (noRec bs)) ∨ ∃ y : MV, v = .int .i64 0 ∧ MAt wx y ∧ HasM (fun q => W2.heap.size ≤ q) y ∧ checkF y.m y.car = 0 ∧ y.bytes = (bs.drop 2).take L ∧ wx.heap[A]? = some (.cells #[.int .i64 y.m.fr, .int .i64 y.m.tt, .int .i64 y.m.ki, .int .i64 y.m.bau, .int .i64 y.m.bnu, .slice y.m.bta y.m.btn y.m.btc, .int .i64 y.m.hau, .int .i64 y.m.hrd, .slice y.m.hba y.m.hbn y.m.hbc, .slice y.m.hpa y.m.hpn y.m.hpc, .int .i64 y.m.sau, .int .i64 y.m.srd, .slice y.m.sda y.m.sdn y.m.sdc, .int .i64 y.m.cau, .int .i64 y.m.crd, .slice y.m.cba y.m.cbn y.m.cbc, .slice y.m.cpa y.m.cpn y.m.cpc, .slice y.m.cva y.m.cvn y.m.cvc, .int .i64 y.m.ro] 47 (0, 0))))
          case first =>
            clear hB
            go_wp2_with fail
            refine Calls.mono (HD1.out) ?_
            all_goals
              intro e w3 hd3
              have hb3 := hd3.below
              have hB3 := hA2.trans (hb3.mono hA2.size)
              have z3 := (hb3.block _ (lt_of_heap q2)).trans q2
              have HX : Hid (∀ (w0 : World) (x : MV) (r : List Int), MAt w0 x → IsRec x → bs = x.onTape ++ r → (bs.drop 2).take L = x.bytes ∧ ∃ m : Msg, e = .returned (.tuple #[.agg #[.int .i64 m.fr, .int .i64 m.tt, .int .i64 m.ki, .int .i64 m.bau, .int .i64 m.bnu, .slice m.bta m.btn m.btc, .int .i64 m.hau, .int .i64 m.hrd, .slice m.hba m.hbn m.hbc, .slice m.hpa m.hpn m.hpc, .int .i64 m.sau, .int .i64 m.srd, .slice m.sda m.sdn m.sdc, .int .i64 m.cau, .int .i64 m.crd, .slice m.cba m.cbn m.cbc, .slice m.cpa m.cpn m.cpc, .slice m.cva m.cvn m.cvc, .int .i64 m.ro], .int .i64 0])) := by
                show ∀ _, _
                intro w0 x r h1 h2 h3
                have h4 := (HF.out x r h3).2.2
                rw [h4] at hd3
                obtain ⟨y, _, _, _, he, _⟩ := dec_back h1 h2.check hd3
                exact ⟨h4, y.m, he⟩
              rcases dec_fixT hd3 HU2.out with ⟨F, hF0, he⟩ | ⟨y, hY, hH, hC, hyb, he⟩
              · have hNo : Hid (noRec bs) := by
                  show noRec bs
                  intro w0 x r h1 h2 h3
                  obtain ⟨_, m, h4⟩ := HX.out w0 x r h1 h2 h3
                  rw [he] at h4
                  simp at h4
                  exact hF0 h4.2
                clear hd3 HX
                subst he
                dsimp only
                have qz := heap_alloc_new w3 (.cells #[.int .i64 0, .int .i64 0, .int .i64 0, .int .i64 0, .int .i64 0, .slice none 0 0, .int .i64 0, .int .i64 0, .slice none 0 0, .slice none 0 0, .int .i64 0, .int .i64 0, .slice none 0 0, .int .i64 0, .int .i64 0, .slice none 0 0, .slice none 0 0, .slice none 0 0, .int .i64 0] 47)
                have hA4 : Below w3.heap.size w3 ((w3.alloc (.cells #[.int .i64 0, .int .i64 0, .int .i64 0, .int .i64 0, .int .i64 0, .slice none 0 0, .int .i64 0, .int .i64 0, .slice none 0 0, .slice none 0 0, .int .i64 0, .int .i64 0, .slice none 0 0, .int .i64 0, .int .i64 0, .slice none 0 0, .slice none 0 0, .slice none 0 0, .int .i64 0] 47)).setRow w3.heap.size #[.int .i64 0, .int .i64 0, .int .i64 0, .int .i64 0, .int .i64 0, .slice none 0 0, .int .i64 0, .int .i64 0, .slice none 0 0, .slice none 0 0, .int .i64 0, .int .i64 0, .slice none 0 0, .int .i64 0, .int .i64 0, .slice none 0 0, .slice none 0 0, .slice none 0 0, .int .i64 0]) := laid_row w3 #[.int .i64 0, .int .i64 0, .int .i64 0, .int .i64 0, .int .i64 0, .slice none 0 0, .int .i64 0, .int .i64 0, .slice none 0 0, .slice none 0 0, .int .i64 0, .int .i64 0, .slice none 0 0, .int .i64 0, .int .i64 0, .slice none 0 0, .slice none 0 0, .slice none 0 0, .int .i64 0] #[.int .i64 0, .int .i64 0, .int .i64 0, .int .i64 0, .int .i64 0, .slice none 0 0, .int .i64 0, .int .i64 0, .slice none 0 0, .slice none 0 0, .int .i64 0, .int .i64 0, .slice none 0 0, .int .i64 0, .int .i64 0, .slice none 0 0, .slice none 0 0, .slice none 0 0, .int .i64 0] 47
                have q4 := setRow_heap _ _ _ #[.int .i64 0, .int .i64 0, .int .i64 0, .int .i64 0, .int .i64 0, .slice none 0 0, .int .i64 0, .int .i64 0, .slice none 0 0, .slice none 0 0, .int .i64 0, .int .i64 0, .slice none 0 0, .int .i64 0, .int .i64 0, .slice none 0 0, .slice none 0 0, .slice none 0 0, .int .i64 0] _ _ qz
                have z4 := (hA4.block _ (lt_of_heap z3)).trans z3
                have hB4 := hB3.trans (hA4.mono hB3.size)
                go_wp2_with (refine wpList_store_row rfl 47 _ _ rfl w3.heap.size #[.int .i64 0, .int .i64 0, .int .i64 0, .int .i64 0, .int .i64 0, .slice none 0 0, .int .i64 0, .int .i64 0, .slice none 0 0, .slice none 0 0, .int .i64 0, .int .i64 0, .slice none 0 0, .int .i64 0, .int .i64 0, .slice none 0 0, .slice none 0 0, .slice none 0 0, .int .i64 0] rfl rfl 47 _ qz sMsg' rfl (by simp [Value.oneCell']) ?_)
                go_meet
                case rel => exact ⟨w3.heap.size, rfl, hB4, z4, .inl ⟨F, hF0, rfl, hNo⟩⟩
              · clear hd3 HX
                subst he
                dsimp only
                have hY4 := hY
                have qz := heap_alloc_new w3 (.cells #[.int .i64 0, .int .i64 0, .int .i64 0, .int .i64 0, .int .i64 0, .slice none 0 0, .int .i64 0, .int .i64 0, .slice none 0 0, .slice none 0 0, .int .i64 0, .int .i64 0, .slice none 0 0, .int .i64 0, .int .i64 0, .slice none 0 0, .slice none 0 0, .slice none 0 0, .int .i64 0] 47)
                have hA4 : Below w3.heap.size w3 ((w3.alloc (.cells #[.int .i64 0, .int .i64 0, .int .i64 0, .int .i64 0, .int .i64 0, .slice none 0 0, .int .i64 0, .int .i64 0, .slice none 0 0, .slice none 0 0, .int .i64 0, .int .i64 0, .slice none 0 0, .int .i64 0, .int .i64 0, .slice none 0 0, .slice none 0 0, .slice none 0 0, .int .i64 0] 47)).setRow w3.heap.size #[.int .i64 y.m.fr, .int .i64 y.m.tt, .int .i64 y.m.ki, .int .i64 y.m.bau, .int .i64 y.m.bnu, .slice y.m.bta y.m.btn y.m.btc, .int .i64 y.m.hau, .int .i64 y.m.hrd, .slice y.m.hba y.m.hbn y.m.hbc, .slice y.m.hpa y.m.hpn y.m.hpc, .int .i64 y.m.sau, .int .i64 y.m.srd, .slice y.m.sda y.m.sdn y.m.sdc, .int .i64 y.m.cau, .int .i64 y.m.crd, .slice y.m.cba y.m.cbn y.m.cbc, .slice y.m.cpa y.m.cpn y.m.cpc, .slice y.m.cva y.m.cvn y.m.cvc, .int .i64 y.m.ro]) := laid_row w3 #[.int .i64 0, .int .i64 0, .int .i64 0, .int .i64 0, .int .i64 0, .slice none 0 0, .int .i64 0, .int .i64 0, .slice none 0 0, .slice none 0 0, .int .i64 0, .int .i64 0, .slice none 0 0, .int .i64 0, .int .i64 0, .slice none 0 0, .slice none 0 0, .slice none 0 0, .int .i64 0] #[.int .i64 y.m.fr, .int .i64 y.m.tt, .int .i64 y.m.ki, .int .i64 y.m.bau, .int .i64 y.m.bnu, .slice y.m.bta y.m.btn y.m.btc, .int .i64 y.m.hau, .int .i64 y.m.hrd, .slice y.m.hba y.m.hbn y.m.hbc, .slice y.m.hpa y.m.hpn y.m.hpc, .int .i64 y.m.sau, .int .i64 y.m.srd, .slice y.m.sda y.m.sdn y.m.sdc, .int .i64 y.m.cau, .int .i64 y.m.crd, .slice y.m.cba y.m.cbn y.m.cbc, .slice y.m.cpa y.m.cpn y.m.cpc, .slice y.m.cva y.m.cvn y.m.cvc, .int .i64 y.m.ro] 47
                have q4 := setRow_heap _ _ _ #[.int .i64 y.m.fr, .int .i64 y.m.tt, .int .i64 y.m.ki, .int .i64 y.m.bau, .int .i64 y.m.bnu, .slice y.m.bta y.m.btn y.m.btc, .int .i64 y.m.hau, .int .i64 y.m.hrd, .slice y.m.hba y.m.hbn y.m.hbc, .slice y.m.hpa y.m.hpn y.m.hpc, .int .i64 y.m.sau, .int .i64 y.m.srd, .slice y.m.sda y.m.sdn y.m.sdc, .int .i64 y.m.cau, .int .i64 y.m.crd, .slice y.m.cba y.m.cbn y.m.cbc, .slice y.m.cpa y.m.cpn y.m.cpc, .slice y.m.cva y.m.cvn y.m.cvc, .int .i64 y.m.ro] _ _ qz
                have z4 := (hA4.block _ (lt_of_heap z3)).trans z3
                have hB4 := hB3.trans (hA4.mono hB3.size)
                go_wp2_with (refine wpList_store_row rfl 47 _ _ rfl w3.heap.size #[.int .i64 y.m.fr, .int .i64 y.m.tt, .int .i64 y.m.ki, .int .i64 y.m.bau, .int .i64 y.m.bnu, .slice y.m.bta y.m.btn y.m.btc, .int .i64 y.m.hau, .int .i64 y.m.hrd, .slice y.m.hba y.m.hbn y.m.hbc, .slice y.m.hpa y.m.hpn y.m.hpc, .int .i64 y.m.sau, .int .i64 y.m.srd, .slice y.m.sda y.m.sdn y.m.sdc, .int .i64 y.m.cau, .int .i64 y.m.crd, .slice y.m.cba y.m.cbn y.m.cbc, .slice y.m.cpa y.m.cpn y.m.cpc, .slice y.m.cva y.m.cvn y.m.cvc, .int .i64 y.m.ro] rfl rfl 47 _ qz sMsg' rfl (by simp [Value.oneCell']) ?_)
                go_meet
                case rel => exact ⟨w3.heap.size, rfl, hB4, z4, .inr ⟨y, rfl, hY.below hA4, hH, hC, hyb, q4⟩⟩
          case rest =>
            obtain ⟨A, rfl, hB4, z4, h⟩ := hcut
            generalize wc = W4 at hB4 z4 h ⊢
            apply_assumption
            rcases h with ⟨F, hF0, rfl, hNo⟩ | ⟨y, rfl, hY4, hH, hC, hyb, q4⟩
            · have hFb : (F != 0) = true := by simp [hF0]
              clear hB
              go_wp2_with (refine wpList_store_row rfl 47 _ _ rfl w.heap.size #[.int .i64 0, .int .i64 0, .int .i64 0, .int .i64 0, .int .i64 0, .slice none 0 0, .int .i64 0, .int .i64 0, .slice none 0 0, .slice none 0 0, .int .i64 0, .int .i64 0, .slice none 0 0, .int .i64 0, .int .i64 0, .slice none 0 0, .slice none 0 0, .slice none 0 0, .int .i64 0] rfl rfl 47 _ z4 sMsg' rfl (by simp [Value.oneCell']) ?_)
              exact bodyPost_ret (v := .tuple #[.agg #[.int .i64 0, .int .i64 0, .int .i64 0, .int .i64 0, .int .i64 0, .slice none 0 0, .int .i64 0, .int .i64 0, .slice none 0 0, .slice none 0 0, .int .i64 0, .int .i64 0, .slice none 0 0, .int .i64 0, .int .i64 0, .slice none 0 0, .slice none 0 0, .slice none 0 0, .int .i64 0], .int .i64 0]) (results_cell_slot (fn := Try.f23) (p := 2) (q := 3) (ty := 47) rfl _ _ w.heap.size 47 _ (0, 0) _ (.int .i64 0) ⟨rfl, rfl⟩ (setRow_heap _ _ _ _ _ _ z4) Try.underlying47 rfl sMsg') rfl ⟨.inl ⟨rfl, hNo.out⟩, (Upd.setRow z4).below hB4 hB4.size (Nat.le_refl _)⟩
            · obtain ⟨hbB, hbE⟩ := hB.out y hyb
              have hCk := tapeCheck_any y.m y.ss y.bl y.pl y.cbl y.cpl y.vl W4 hY4.at'
              have hC' : checkF y.m (carriedF y.m y.ss y.bl y.pl y.cbl y.cpl y.vl) = 0 := hC
              rw [hC'] at hCk
              have HR : Hid (∀ (w0 : World) (x : MV) (r : List Int), MAt w0 x → IsRec x → bs = x.onTape ++ r → recF y.m 0 = 0) := by
                show ∀ _, _
                intro w0 x r h1 h2 h3
                have h4 := (HF.out x r h3).2.2
                rw [recF_c (same_c h1 hY4 h2.check hC (hyb.trans h4))]
                exact recF_of h2
              have HI : Hid (recF y.m 0 = 0 → IsRec y) := rec_of hC
              have HbB : Hid _ := hbB
              have HbE : Hid _ := hbE
              clear hbB hbE hyb hC hC' hB
              generalize recF y.m 0 = R at *
              go_wp2_with (refine wpList_load_row_w rfl 47 _ rfl A rfl 47 #[.int .i64 y.m.fr, .int .i64 y.m.tt, .int .i64 y.m.ki, .int .i64 y.m.bau, .int .i64 y.m.bnu, .slice y.m.bta y.m.btn y.m.btc, .int .i64 y.m.hau, .int .i64 y.m.hrd, .slice y.m.hba y.m.hbn y.m.hbc, .slice y.m.hpa y.m.hpn y.m.hpc, .int .i64 y.m.sau, .int .i64 y.m.srd, .slice y.m.sda y.m.sdn y.m.sdc, .int .i64 y.m.cau, .int .i64 y.m.crd, .slice y.m.cba y.m.cbn y.m.cbc, .slice y.m.cpa y.m.cpn y.m.cpc, .slice y.m.cva y.m.cvn y.m.cvc, .int .i64 y.m.ro] (0, 0) _ q4 Try.underlying47 rfl sMsg' ?_)
              refine hCk.mono ?_
              rintro e w5 ⟨he, hb5⟩
              clear hCk
              subst he
              dsimp only
              have hB5 := hB4.trans (hb5.mono hB4.size)
              have z5 := (hb5.block _ (lt_of_heap z4)).trans z4
              have q5 := (hb5.block _ (lt_of_heap q4)).trans q4
              have hY5 := hY4.below hb5
              by_cases hR : R = 0
              · have hI : Hid (IsRec y) := HI.out hR
                subst hR
                go_wp2_with (first | refine wpList_load_row rfl 47 _ rfl A rfl 47 #[.int .i64 y.m.fr, .int .i64 y.m.tt, .int .i64 y.m.ki, .int .i64 y.m.bau, .int .i64 y.m.bnu, .slice y.m.bta y.m.btn y.m.btc, .int .i64 y.m.hau, .int .i64 y.m.hrd, .slice y.m.hba y.m.hbn y.m.hbc, .slice y.m.hpa y.m.hpn y.m.hpc, .int .i64 y.m.sau, .int .i64 y.m.srd, .slice y.m.sda y.m.sdn y.m.sdc, .int .i64 y.m.cau, .int .i64 y.m.crd, .slice y.m.cba y.m.cbn y.m.cbc, .slice y.m.cpa y.m.cpn y.m.cpc, .slice y.m.cva y.m.cvn y.m.cvc, .int .i64 y.m.ro] (0, 0) _ q5 Try.underlying47 rfl sMsg' ?_ | refine wpList_store_row rfl 47 _ _ rfl w.heap.size #[.int .i64 y.m.fr, .int .i64 y.m.tt, .int .i64 y.m.ki, .int .i64 y.m.bau, .int .i64 y.m.bnu, .slice y.m.bta y.m.btn y.m.btc, .int .i64 y.m.hau, .int .i64 y.m.hrd, .slice y.m.hba y.m.hbn y.m.hbc, .slice y.m.hpa y.m.hpn y.m.hpc, .int .i64 y.m.sau, .int .i64 y.m.srd, .slice y.m.sda y.m.sdn y.m.sdc, .int .i64 y.m.cau, .int .i64 y.m.crd, .slice y.m.cba y.m.cbn y.m.cbc, .slice y.m.cpa y.m.cpn y.m.cpc, .slice y.m.cva y.m.cvn y.m.cvc, .int .i64 y.m.ro] rfl rfl 47 _ z5 sMsg' rfl (by simp [Value.oneCell']) ?_)
                exact bodyPost_ret (v := .tuple #[.agg #[.int .i64 y.m.fr, .int .i64 y.m.tt, .int .i64 y.m.ki, .int .i64 y.m.bau, .int .i64 y.m.bnu, .slice y.m.bta y.m.btn y.m.btc, .int .i64 y.m.hau, .int .i64 y.m.hrd, .slice y.m.hba y.m.hbn y.m.hbc, .slice y.m.hpa y.m.hpn y.m.hpc, .int .i64 y.m.sau, .int .i64 y.m.srd, .slice y.m.sda y.m.sdn y.m.sdc, .int .i64 y.m.cau, .int .i64 y.m.crd, .slice y.m.cba y.m.cbn y.m.cbc, .slice y.m.cpa y.m.cpn y.m.cpc, .slice y.m.cva y.m.cvn y.m.cvc, .int .i64 y.m.ro], .int .i64 (E : Int)]) (results_cell_slot (fn := Try.f23) (p := 2) (q := 3) (ty := 47) rfl _ _ w.heap.size 47 _ (0, 0) _ (.int .i64 (E : Int)) ⟨rfl, rfl⟩ (setRow_heap _ _ _ _ _ _ z5) Try.underlying47 rfl sMsg') rfl ⟨.inr ⟨y, bs.drop E, HbB.out, hY5.setRow (B := W2.heap.size) hH (lt_of_heap q2), hH.mono (fun q hq => Nat.le_trans hA2.size hq), hI.out, by rw [HbE.out]⟩, (Upd.setRow z5).below hB5 hB5.size (Nat.le_refl _)⟩
              · have hNo : Hid (noRec bs) := by
                  show noRec bs
                  intro w0 x r h1 h2 h3
                  exact hR (HR.out w0 x r h1 h2 h3)
                have hRb : (R != 0) = true := by simp [hR]
                go_wp2_with (refine wpList_store_row rfl 47 _ _ rfl w.heap.size #[.int .i64 0, .int .i64 0, .int .i64 0, .int .i64 0, .int .i64 0, .slice none 0 0, .int .i64 0, .int .i64 0, .slice none 0 0, .slice none 0 0, .int .i64 0, .int .i64 0, .slice none 0 0, .int .i64 0, .int .i64 0, .slice none 0 0, .slice none 0 0, .slice none 0 0, .int .i64 0] rfl rfl 47 _ z5 sMsg' rfl (by simp [Value.oneCell']) ?_)
                exact bodyPost_ret (v := .tuple #[.agg #[.int .i64 0, .int .i64 0, .int .i64 0, .int .i64 0, .int .i64 0, .slice none 0 0, .int .i64 0, .int .i64 0, .slice none 0 0, .slice none 0 0, .int .i64 0, .int .i64 0, .slice none 0 0, .int .i64 0, .int .i64 0, .slice none 0 0, .slice none 0 0, .slice none 0 0, .int .i64 0], .int .i64 0]) (results_cell_slot (fn := Try.f23) (p := 2) (q := 3) (ty := 47) rfl _ _ w.heap.size 47 _ (0, 0) _ (.int .i64 0) ⟨rfl, rfl⟩ (setRow_heap _ _ _ _ _ _ z5) Try.underlying47 rfl sMsg') rfl ⟨.inl ⟨rfl, hNo.out⟩, (Upd.setRow z5).below hB5 hB5.size (Nat.le_refl _)⟩
end Go.Proofs.Ythpocgndgphedaa

namespace Go.Proofs.Ythpocgndgphedaa
open Go.RowKit

set_option maxRecDepth 100000 in
set_option maxHeartbeats 4000000 in
theorem record_anyU (ki ra rb rc : Int) (sa : Option Addr) (cap : Nat) (ss : List ByteArray) (w : World) (h1 : I64 ki) (h2 : I64 ra) (h3 : I64 rb) (h4 : I64 rc) (h5 : TextsAt w sa cap ss) :
    Calls Try.prog 18 #[.agg #[.int .i64 ki, .int .i64 ra, .int .i64 rb, .int .i64 rc, .slice sa ss.length cap]] w fun e w' => ∃ x : MV, e = .returned (.agg #[.int .i64 x.m.fr, .int .i64 x.m.tt, .int .i64 x.m.ki, .int .i64 x.m.bau, .int .i64 x.m.bnu, .slice x.m.bta x.m.btn x.m.btc, .int .i64 x.m.hau, .int .i64 x.m.hrd, .slice x.m.hba x.m.hbn x.m.hbc, .slice x.m.hpa x.m.hpn x.m.hpc, .int .i64 x.m.sau, .int .i64 x.m.srd, .slice x.m.sda x.m.sdn x.m.sdc, .int .i64 x.m.cau, .int .i64 x.m.crd, .slice x.m.cba x.m.cbn x.m.cbc, .slice x.m.cpa x.m.cpn x.m.cpc, .slice x.m.cva x.m.cvn x.m.cvc, .int .i64 x.m.ro]) ∧ MAt w' x ∧ IsRec x ∧ HasM (fun k => w.heap.size ≤ k) x ∧ Below w.heap.size w w' ∧ U8M x.bl x.pl x.cbl x.cpl x.ds := by
  have hA : Below w.heap.size w ((w.alloc (.cells #[.int .i64 ki, .int .i64 ra, .int .i64 rb, .int .i64 rc, .slice sa ss.length cap] 56)).alloc (.cells #[.int .i64 0, .int .i64 0, .int .i64 0, .int .i64 0, .int .i64 0, .slice none 0 0, .int .i64 0, .int .i64 0, .slice none 0 0, .slice none 0 0, .int .i64 0, .int .i64 0, .slice none 0 0, .int .i64 0, .int .i64 0, .slice none 0 0, .slice none 0 0, .slice none 0 0, .int .i64 0] 47)) := ((Below.refl _ _).alloc (Nat.le_refl _) _).alloc (by simp) _
  have q0 := heap_alloc2_old w (.cells #[.int .i64 ki, .int .i64 ra, .int .i64 rb, .int .i64 rc, .slice sa ss.length cap] 56) (.cells #[.int .i64 0, .int .i64 0, .int .i64 0, .int .i64 0, .int .i64 0, .slice none 0 0, .int .i64 0, .int .i64 0, .slice none 0 0, .slice none 0 0, .int .i64 0, .int .i64 0, .slice none 0 0, .int .i64 0, .int .i64 0, .slice none 0 0, .slice none 0 0, .slice none 0 0, .int .i64 0] 47)
  have q1 := heap_alloc2_new w (.cells #[.int .i64 ki, .int .i64 ra, .int .i64 rb, .int .i64 rc, .slice sa ss.length cap] 56) (.cells #[.int .i64 0, .int .i64 0, .int .i64 0, .int .i64 0, .int .i64 0, .slice none 0 0, .int .i64 0, .int .i64 0, .slice none 0 0, .slice none 0 0, .int .i64 0, .int .i64 0, .slice none 0 0, .int .i64 0, .int .i64 0, .slice none 0 0, .slice none 0 0, .slice none 0 0, .int .i64 0] 47)
  have hsz : ((w.alloc (.cells #[.int .i64 ki, .int .i64 ra, .int .i64 rb, .int .i64 rc, .slice sa ss.length cap] 56)).alloc (.cells #[.int .i64 0, .int .i64 0, .int .i64 0, .int .i64 0, .int .i64 0, .slice none 0 0, .int .i64 0, .int .i64 0, .slice none 0 0, .slice none 0 0, .int .i64 0, .int .i64 0, .slice none 0 0, .int .i64 0, .int .i64 0, .slice none 0 0, .slice none 0 0, .slice none 0 0, .int .i64 0] 47)).heap.size = w.heap.size + 2 := by simp
  go_enter Try.func18, Try.ntmps18
  go_wp2_with fail
  generalize (w.alloc (.cells #[.int .i64 ki, .int .i64 ra, .int .i64 rb, .int .i64 rc, .slice sa ss.length cap] 56)).alloc (.cells #[.int .i64 0, .int .i64 0, .int .i64 0, .int .i64 0, .int .i64 0, .slice none 0 0, .int .i64 0, .int .i64 0, .slice none 0 0, .slice none 0 0, .int .i64 0, .int .i64 0, .slice none 0 0, .int .i64 0, .int .i64 0, .slice none 0 0, .slice none 0 0, .slice none 0 0, .int .i64 0] 47) = W0 at hA q0 q1 hsz ⊢
  refine (message_rawU ki ra rb rc sa cap ss W0 h1 h2 h3 h4 (h5.below hA)).mono ?_
  rintro e w1 ⟨m, ss1, bl, pl, cbl, cpl, vl, he, H, -, -, hcar, hemp, hb1, hki, -, -, -, -, -, ds, hd, hdn, hnew, hu8⟩
  subst he
  dsimp only
  obtain ⟨x, hx⟩ : ∃ x : MV, x = ⟨m, ss1, bl, pl, cbl, cpl, ds, vl⟩ := ⟨_, rfl⟩
  have HU : Hid (U8M x.bl x.pl x.cbl x.cpl x.ds) := by show U8M _ _ _ _ _; subst hx; exact hu8
  clear hu8
  have hM : MAt w1 x := by subst hx; exact ⟨H, hd, hdn⟩
  have hC : x.car = 0 := by subst hx; exact hcar
  have hG : HasM (fun k => W0.heap.size ≤ k) x := by subst hx; exact NewM.has (x := ⟨_, ss1, bl, pl, cbl, cpl, ds, vl⟩) hnew
  obtain rfl : m = x.m := by rw [hx]
  have hG1 : HasM (fun k => w.heap.size + 2 ≤ k ∧ k ≠ w1.heap.size) x := (hG.lt hM).mono (fun k hk => by have := hk.1; have := hk.2; constructor <;> omega)
  have HE : Hid (msgEmpty (strip x.m) = true) := hemp
  have HX : Hid (MAt w1 x ∧ x.car = 0 ∧ HasM (fun k => w.heap.size + 2 ≤ k ∧ k ≠ w1.heap.size) x) := ⟨hM, hC, hG1⟩
  clear hemp hM hC hG hG1 hcar H hd hdn hnew hx
  have hB1 := hA.trans (hb1.mono hA.size)
  have p0 := (hb1.block _ (lt_of_heap q0)).trans q0
  have p1 := (hb1.block _ (lt_of_heap q1)).trans q1
  have hlt1 : w.heap.size + 1 < w1.heap.size := lt_of_heap p1
  have qz := heap_alloc_new w1 (.cells #[.int .i64 0, .int .i64 0, .int .i64 0, .int .i64 0, .int .i64 0, .slice none 0 0, .int .i64 0, .int .i64 0, .slice none 0 0, .slice none 0 0, .int .i64 0, .int .i64 0, .slice none 0 0, .int .i64 0, .int .i64 0, .slice none 0 0, .slice none 0 0, .slice none 0 0, .int .i64 0] 47)
  have hA1 : Below w1.heap.size w1 ((w1.alloc (.cells #[.int .i64 0, .int .i64 0, .int .i64 0, .int .i64 0, .int .i64 0, .slice none 0 0, .int .i64 0, .int .i64 0, .slice none 0 0, .slice none 0 0, .int .i64 0, .int .i64 0, .slice none 0 0, .int .i64 0, .int .i64 0, .slice none 0 0, .slice none 0 0, .slice none 0 0, .int .i64 0] 47)).setRow w1.heap.size #[.int .i64 x.m.fr, .int .i64 x.m.tt, .int .i64 x.m.ki, .int .i64 x.m.bau, .int .i64 x.m.bnu, .slice x.m.bta x.m.btn x.m.btc, .int .i64 x.m.hau, .int .i64 x.m.hrd, .slice x.m.hba x.m.hbn x.m.hbc, .slice x.m.hpa x.m.hpn x.m.hpc, .int .i64 x.m.sau, .int .i64 x.m.srd, .slice x.m.sda x.m.sdn x.m.sdc, .int .i64 x.m.cau, .int .i64 x.m.crd, .slice x.m.cba x.m.cbn x.m.cbc, .slice x.m.cpa x.m.cpn x.m.cpc, .slice x.m.cva x.m.cvn x.m.cvc, .int .i64 x.m.ro]) := laid_row w1 #[.int .i64 0, .int .i64 0, .int .i64 0, .int .i64 0, .int .i64 0, .slice none 0 0, .int .i64 0, .int .i64 0, .slice none 0 0, .slice none 0 0, .int .i64 0, .int .i64 0, .slice none 0 0, .int .i64 0, .int .i64 0, .slice none 0 0, .slice none 0 0, .slice none 0 0, .int .i64 0] #[.int .i64 x.m.fr, .int .i64 x.m.tt, .int .i64 x.m.ki, .int .i64 x.m.bau, .int .i64 x.m.bnu, .slice x.m.bta x.m.btn x.m.btc, .int .i64 x.m.hau, .int .i64 x.m.hrd, .slice x.m.hba x.m.hbn x.m.hbc, .slice x.m.hpa x.m.hpn x.m.hpc, .int .i64 x.m.sau, .int .i64 x.m.srd, .slice x.m.sda x.m.sdn x.m.sdc, .int .i64 x.m.cau, .int .i64 x.m.crd, .slice x.m.cba x.m.cbn x.m.cbc, .slice x.m.cpa x.m.cpn x.m.cpc, .slice x.m.cva x.m.cvn x.m.cvc, .int .i64 x.m.ro] 47
  have qN := setRow_heap _ _ _ #[.int .i64 x.m.fr, .int .i64 x.m.tt, .int .i64 x.m.ki, .int .i64 x.m.bau, .int .i64 x.m.bnu, .slice x.m.bta x.m.btn x.m.btc, .int .i64 x.m.hau, .int .i64 x.m.hrd, .slice x.m.hba x.m.hbn x.m.hbc, .slice x.m.hpa x.m.hpn x.m.hpc, .int .i64 x.m.sau, .int .i64 x.m.srd, .slice x.m.sda x.m.sdn x.m.sdc, .int .i64 x.m.cau, .int .i64 x.m.crd, .slice x.m.cba x.m.cbn x.m.cbc, .slice x.m.cpa x.m.cpn x.m.cpc, .slice x.m.cva x.m.cvn x.m.cvc, .int .i64 x.m.ro] _ _ qz
  go_upto_region 2 with (refine wpList_store_row rfl 47 _ _ rfl w1.heap.size #[.int .i64 x.m.fr, .int .i64 x.m.tt, .int .i64 x.m.ki, .int .i64 x.m.bau, .int .i64 x.m.bnu, .slice x.m.bta x.m.btn x.m.btc, .int .i64 x.m.hau, .int .i64 x.m.hrd, .slice x.m.hba x.m.hbn x.m.hbc, .slice x.m.hpa x.m.hpn x.m.hpc, .int .i64 x.m.sau, .int .i64 x.m.srd, .slice x.m.sda x.m.sdn x.m.sdc, .int .i64 x.m.cau, .int .i64 x.m.crd, .slice x.m.cba x.m.cbn x.m.cbc, .slice x.m.cpa x.m.cpn x.m.cpc, .slice x.m.cva x.m.cvn x.m.cvc, .int .i64 x.m.ro] rfl rfl 47 _ qz sMsg' rfl (by simp [Value.oneCell']) ?_)
  have p0A := (hA1.block _ (lt_of_heap p0)).trans p0
  have p1A := (hA1.block _ (lt_of_heap p1)).trans p1
  have hszA : w1.heap.size < ((w1.alloc (.cells #[.int .i64 0, .int .i64 0, .int .i64 0, .int .i64 0, .int .i64 0, .slice none 0 0, .int .i64 0, .int .i64 0, .slice none 0 0, .slice none 0 0, .int .i64 0, .int .i64 0, .slice none 0 0, .int .i64 0, .int .i64 0, .slice none 0 0, .slice none 0 0, .slice none 0 0, .int .i64 0] 47)).setRow w1.heap.size #[.int .i64 x.m.fr, .int .i64 x.m.tt, .int .i64 x.m.ki, .int .i64 x.m.bau, .int .i64 x.m.bnu, .slice x.m.bta x.m.btn x.m.btc, .int .i64 x.m.hau, .int .i64 x.m.hrd, .slice x.m.hba x.m.hbn x.m.hbc, .slice x.m.hpa x.m.hpn x.m.hpc, .int .i64 x.m.sau, .int .i64 x.m.srd, .slice x.m.sda x.m.sdn x.m.sdc, .int .i64 x.m.cau, .int .i64 x.m.crd, .slice x.m.cba x.m.cbn x.m.cbc, .slice x.m.cpa x.m.cpn x.m.cpc, .slice x.m.cva x.m.cvn x.m.cvc, .int .i64 x.m.ro]).heap.size := lt_of_heap qN
  generalize (w1.alloc (.cells #[.int .i64 0, .int .i64 0, .int .i64 0, .int .i64 0, .int .i64 0, .slice none 0 0, .int .i64 0, .int .i64 0, .slice none 0 0, .slice none 0 0, .int .i64 0, .int .i64 0, .slice none 0 0, .int .i64 0, .int .i64 0, .slice none 0 0, .slice none 0 0, .slice none 0 0, .int .i64 0] 47)).setRow w1.heap.size #[.int .i64 x.m.fr, .int .i64 x.m.tt, .int .i64 x.m.ki, .int .i64 x.m.bau, .int .i64 x.m.bnu, .slice x.m.bta x.m.btn x.m.btc, .int .i64 x.m.hau, .int .i64 x.m.hrd, .slice x.m.hba x.m.hbn x.m.hbc, .slice x.m.hpa x.m.hpn x.m.hpc, .int .i64 x.m.sau, .int .i64 x.m.srd, .slice x.m.sda x.m.sdn x.m.sdc, .int .i64 x.m.cau, .int .i64 x.m.crd, .slice x.m.cba x.m.cbn x.m.cbc, .slice x.m.cpa x.m.cpn x.m.cpc, .slice x.m.cva x.m.cvn x.m.cvc, .int .i64 x.m.ro] = W1 at hA1 qN p0A p1A hszA ⊢
  have hB1A := hB1.trans (hA1.mono hB1.size)
  have hMA : Hid (MAt W1 x) := HX.out.1.below hA1
  generalize hbq : w1.heap.size = b at *
  clear qz p0 p1
  have k2 : W1.cell? ⟨b, 2, none⟩ = some (.int .i64 x.m.ki) := cells_at qN 2 _ rfl
  by_cases h5k : x.m.ki = 5
  · have H5 : Hid (x.m.ki = 5) := h5k
    have d1 : W1.cell? ⟨w.heap.size, 1, none⟩ = some (.int .i64 ra) := cells_at p0A 1 _ rfl
    have d2 : W1.cell? ⟨w.heap.size, 2, none⟩ = some (.int .i64 rb) := cells_at p0A 2 _ rfl
    have d4 : W1.cell? ⟨w.heap.size, 4, none⟩ = some (.slice sa ss.length cap) := cells_at p0A 4 _ rfl
    have hbe : (x.m.ki == 5) = true := by simp [h5k]
    clear h5k
    go_wp2_with fail
    refine (message_rawU 0 ra rb 0 sa cap ss W1 (by constructor <;> omega) h2 h3 (by constructor <;> omega) (h5.below hB1A)).mono ?_
    rintro e w2 ⟨m2, ss2, bl2, pl2, cbl2, cpl2, vl2, he, H2, -, -, hcar2, hemp2, hb2, hki2, -, -, -, -, -, ds2, hd2, hdn2, hnew2, hu82⟩
    subst he
    dsimp only
    obtain ⟨y, hy⟩ : ∃ y : MV, y = ⟨m2, ss2, bl2, pl2, cbl2, cpl2, ds2, vl2⟩ := ⟨_, rfl⟩
    have HU2 : Hid (U8M y.bl y.pl y.cbl y.cpl y.ds) := by show U8M _ _ _ _ _; subst hy; exact hu82
    clear hu82
    have hM2 : MAt w2 y := by subst hy; exact ⟨H2, hd2, hdn2⟩
    have hC2 : Hid (y.car = 0) := by subst hy; exact hcar2
    have hG2 : HasM (fun k => W1.heap.size ≤ k) y := by subst hy; exact NewM.has (x := ⟨_, ss2, bl2, pl2, cbl2, cpl2, ds2, vl2⟩) hnew2
    obtain rfl : m2 = y.m := by rw [hy]
    have HE2 : Hid (msgEmpty (strip y.m) = true) := hemp2
    have HK2 : Hid (y.m.ki ≠ 5) := by show _ ≠ _; rw [hki2]; decide
    have HM2 : Hid (MAt (w2.setRow b #[.int .i64 y.m.fr, .int .i64 y.m.tt, .int .i64 y.m.ki, .int .i64 y.m.bau, .int .i64 y.m.bnu, .slice y.m.bta y.m.btn y.m.btc, .int .i64 y.m.hau, .int .i64 y.m.hrd, .slice y.m.hba y.m.hbn y.m.hbc, .slice y.m.hpa y.m.hpn y.m.hpc, .int .i64 y.m.sau, .int .i64 y.m.srd, .slice y.m.sda y.m.sdn y.m.sdc, .int .i64 y.m.cau, .int .i64 y.m.crd, .slice y.m.cba y.m.cbn y.m.cbc, .slice y.m.cpa y.m.cpn y.m.cpc, .slice y.m.cva y.m.cvn y.m.cvc, .int .i64 y.m.ro]) y) := hM2.setRow hG2 hszA
    have HG2 : Hid (HasM (fun k => w.heap.size + 2 ≤ k ∧ k ≠ b) y) := hG2.mono (fun k hk => by constructor <;> omega)
    clear hemp2 hM2 hG2 hcar2 H2 hd2 hdn2 hnew2 hy hki2
    have hB2 := hB1A.trans (hb2.mono hB1A.size)
    have s1 := (hb2.block _ (lt_of_heap p1A)).trans p1A
    have sN := (hb2.block _ (lt_of_heap qN)).trans qN
    have tN := setRow_heap _ _ _ #[.int .i64 y.m.fr, .int .i64 y.m.tt, .int .i64 y.m.ki, .int .i64 y.m.bau, .int .i64 y.m.bnu, .slice y.m.bta y.m.btn y.m.btc, .int .i64 y.m.hau, .int .i64 y.m.hrd, .slice y.m.hba y.m.hbn y.m.hbc, .slice y.m.hpa y.m.hpn y.m.hpc, .int .i64 y.m.sau, .int .i64 y.m.srd, .slice y.m.sda y.m.sdn y.m.sdc, .int .i64 y.m.cau, .int .i64 y.m.crd, .slice y.m.cba y.m.cbn y.m.cbc, .slice y.m.cpa y.m.cpn y.m.cpc, .slice y.m.cva y.m.cvn y.m.cvc, .int .i64 y.m.ro] _ _ sN
    have t1 := (setRow_other w2 b (w.heap.size + 1) #[.int .i64 y.m.fr, .int .i64 y.m.tt, .int .i64 y.m.ki, .int .i64 y.m.bau, .int .i64 y.m.bnu, .slice y.m.bta y.m.btn y.m.btc, .int .i64 y.m.hau, .int .i64 y.m.hrd, .slice y.m.hba y.m.hbn y.m.hbc, .slice y.m.hpa y.m.hpn y.m.hpc, .int .i64 y.m.sau, .int .i64 y.m.srd, .slice y.m.sda y.m.sdn y.m.sdc, .int .i64 y.m.cau, .int .i64 y.m.crd, .slice y.m.cba y.m.cbn y.m.cbc, .slice y.m.cpa y.m.cpn y.m.cpc, .slice y.m.cva y.m.cvn y.m.cvc, .int .i64 y.m.ro] (by omega)).trans s1
    have hB2A := (Upd.setRow (cs := #[.int .i64 y.m.fr, .int .i64 y.m.tt, .int .i64 y.m.ki, .int .i64 y.m.bau, .int .i64 y.m.bnu, .slice y.m.bta y.m.btn y.m.btc, .int .i64 y.m.hau, .int .i64 y.m.hrd, .slice y.m.hba y.m.hbn y.m.hbc, .slice y.m.hpa y.m.hpn y.m.hpc, .int .i64 y.m.sau, .int .i64 y.m.srd, .slice y.m.sda y.m.sdn y.m.sdc, .int .i64 y.m.cau, .int .i64 y.m.crd, .slice y.m.cba y.m.cbn y.m.cbc, .slice y.m.cpa y.m.cpn y.m.cpc, .slice y.m.cva y.m.cvn y.m.cvc, .int .i64 y.m.ro]) sN).below hB2 hB2.size (by omega)
    go_upto_region 4 with (refine wpList_store_row rfl 47 _ _ rfl b #[.int .i64 y.m.fr, .int .i64 y.m.tt, .int .i64 y.m.ki, .int .i64 y.m.bau, .int .i64 y.m.bnu, .slice y.m.bta y.m.btn y.m.btc, .int .i64 y.m.hau, .int .i64 y.m.hrd, .slice y.m.hba y.m.hbn y.m.hbc, .slice y.m.hpa y.m.hpn y.m.hpc, .int .i64 y.m.sau, .int .i64 y.m.srd, .slice y.m.sda y.m.sdn y.m.sdc, .int .i64 y.m.cau, .int .i64 y.m.crd, .slice y.m.cba y.m.cbn y.m.cbc, .slice y.m.cpa y.m.cpn y.m.cpc, .slice y.m.cva y.m.cvn y.m.cvc, .int .i64 y.m.ro] rfl rfl 47 _ sN sMsg' rfl (by simp [Value.oneCell']) ?_)
    generalize w2.setRow b #[.int .i64 y.m.fr, .int .i64 y.m.tt, .int .i64 y.m.ki, .int .i64 y.m.bau, .int .i64 y.m.bnu, .slice y.m.bta y.m.btn y.m.btc, .int .i64 y.m.hau, .int .i64 y.m.hrd, .slice y.m.hba y.m.hbn y.m.hbc, .slice y.m.hpa y.m.hpn y.m.hpc, .int .i64 y.m.sau, .int .i64 y.m.srd, .slice y.m.sda y.m.sdn y.m.sdc, .int .i64 y.m.cau, .int .i64 y.m.crd, .slice y.m.cba y.m.cbn y.m.cbc, .slice y.m.cpa y.m.cpn y.m.cpc, .slice y.m.cva y.m.cvn y.m.cvc, .int .i64 y.m.ro] = W2 at tN t1 hB2A HM2 ⊢
    clear k2 d1 d2 d4
    have e0 : W2.cell? ⟨b, 0, none⟩ = some (.int .i64 y.m.fr) := cells_at tN 0 _ rfl
    have e1 : W2.cell? ⟨b, 1, none⟩ = some (.int .i64 y.m.tt) := cells_at tN 1 _ rfl
    have f0 := frozen_at tN 0
    have f1 := frozen_at tN 1
    have hbb : w.heap.size ≤ b := by omega
    have qF : ((W2.setCell ⟨b, 0, none⟩ (.int .i64 0)).setCell ⟨b, 1, none⟩ (.int .i64 0)).heap[b]? = some (.cells #[.int .i64 0, .int .i64 0, .int .i64 y.m.ki, .int .i64 y.m.bau, .int .i64 y.m.bnu, .slice y.m.bta y.m.btn y.m.btc, .int .i64 y.m.hau, .int .i64 y.m.hrd, .slice y.m.hba y.m.hbn y.m.hbc, .slice y.m.hpa y.m.hpn y.m.hpc, .int .i64 y.m.sau, .int .i64 y.m.srd, .slice y.m.sda y.m.sdn y.m.sdc, .int .i64 y.m.cau, .int .i64 y.m.crd, .slice y.m.cba y.m.cbn y.m.cbc, .slice y.m.cpa y.m.cpn y.m.cpc, .slice y.m.cva y.m.cvn y.m.cvc, .int .i64 y.m.ro] 47 (0, 0)) := by simpa using heap_setCell_same _ _ 1 _ _ (.int .i64 0) (heap_setCell_same _ _ 0 _ _ (.int .i64 0) tN)
    have q1F := heap_far (j := 1) (v := .int .i64 0) (heap_far (j := 0) (v := .int .i64 0) t1 (show w.heap.size + 1 ≠ b by omega)) (show w.heap.size + 1 ≠ b by omega)
    have hBF := (hB2A.setCell (p := ⟨b, 0, none⟩) hbb (.int .i64 0)).setCell (p := ⟨b, 1, none⟩) hbb (.int .i64 0)
    go_wp2_with (first | refine wpList_load_row rfl 47 _ rfl b rfl 47 _ (0, 0) _ qF Try.underlying47 rfl sMsg' ?_ | refine wpList_store_row rfl 47 _ _ rfl (w.heap.size + 1) #[.int .i64 0, .int .i64 0, .int .i64 y.m.ki, .int .i64 y.m.bau, .int .i64 y.m.bnu, .slice y.m.bta y.m.btn y.m.btc, .int .i64 y.m.hau, .int .i64 y.m.hrd, .slice y.m.hba y.m.hbn y.m.hbc, .slice y.m.hpa y.m.hpn y.m.hpc, .int .i64 y.m.sau, .int .i64 y.m.srd, .slice y.m.sda y.m.sdn y.m.sdc, .int .i64 y.m.cau, .int .i64 y.m.crd, .slice y.m.cba y.m.cbn y.m.cbc, .slice y.m.cpa y.m.cpn y.m.cpc, .slice y.m.cva y.m.cvn y.m.cvc, .int .i64 y.m.ro] rfl rfl 47 _ q1F sMsg' rfl (by simp [Value.oneCell']) ?_)
    refine bodyPost_ret (v := .agg #[.int .i64 0, .int .i64 0, .int .i64 y.m.ki, .int .i64 y.m.bau, .int .i64 y.m.bnu, .slice y.m.bta y.m.btn y.m.btc, .int .i64 y.m.hau, .int .i64 y.m.hrd, .slice y.m.hba y.m.hbn y.m.hbc, .slice y.m.hpa y.m.hpn y.m.hpc, .int .i64 y.m.sau, .int .i64 y.m.srd, .slice y.m.sda y.m.sdn y.m.sdc, .int .i64 y.m.cau, .int .i64 y.m.crd, .slice y.m.cba y.m.cbn y.m.cbc, .slice y.m.cpa y.m.cpn y.m.cpc, .slice y.m.cva y.m.cvn y.m.cvc, .int .i64 y.m.ro]) (results_cell_row (fn := Try.f18) (p := 2) (ty := 47) rfl _ _ (w.heap.size + 1) 47 _ (0, 0) _ rfl (setRow_heap _ _ _ _ _ _ q1F) Try.underlying47 rfl sMsg') rfl ⟨y.bare, rfl, ?_, MV.bare_rec hC2.out HE2.out HK2.out, MV.bare_has (HG2.out.mono (fun k hk => by omega)), (Upd.setRow q1F).below hBF hBF.size (by omega), HU2.out⟩
    refine MV.bare_at (HM2.out.stays (G := fun k => w.heap.size + 2 ≤ k ∧ k ≠ b) (fun k hk => ?_) HG2.out)
    exact (setRow_other _ (w.heap.size + 1) k _ (by omega)).trans ((heap_setCell_other _ ⟨b, 1, none⟩ k _ hk.2).trans (heap_setCell_other _ ⟨b, 0, none⟩ k _ hk.2))
  · have H5 : Hid (x.m.ki ≠ 5) := h5k
    have hbe : (x.m.ki == 5) = false := by simp [h5k]
    clear h5k
    go_upto_region 4 with fail
    clear k2
    have e0 : W1.cell? ⟨b, 0, none⟩ = some (.int .i64 x.m.fr) := cells_at qN 0 _ rfl
    have e1 : W1.cell? ⟨b, 1, none⟩ = some (.int .i64 x.m.tt) := cells_at qN 1 _ rfl
    have f0 := frozen_at qN 0
    have f1 := frozen_at qN 1
    have hbb : w.heap.size ≤ b := by omega
    have qF : ((W1.setCell ⟨b, 0, none⟩ (.int .i64 0)).setCell ⟨b, 1, none⟩ (.int .i64 0)).heap[b]? = some (.cells #[.int .i64 0, .int .i64 0, .int .i64 x.m.ki, .int .i64 x.m.bau, .int .i64 x.m.bnu, .slice x.m.bta x.m.btn x.m.btc, .int .i64 x.m.hau, .int .i64 x.m.hrd, .slice x.m.hba x.m.hbn x.m.hbc, .slice x.m.hpa x.m.hpn x.m.hpc, .int .i64 x.m.sau, .int .i64 x.m.srd, .slice x.m.sda x.m.sdn x.m.sdc, .int .i64 x.m.cau, .int .i64 x.m.crd, .slice x.m.cba x.m.cbn x.m.cbc, .slice x.m.cpa x.m.cpn x.m.cpc, .slice x.m.cva x.m.cvn x.m.cvc, .int .i64 x.m.ro] 47 (0, 0)) := by simpa using heap_setCell_same _ _ 1 _ _ (.int .i64 0) (heap_setCell_same _ _ 0 _ _ (.int .i64 0) qN)
    have q1F := heap_far (j := 1) (v := .int .i64 0) (heap_far (j := 0) (v := .int .i64 0) p1A (show w.heap.size + 1 ≠ b by omega)) (show w.heap.size + 1 ≠ b by omega)
    have hBF := (hB1A.setCell (p := ⟨b, 0, none⟩) hbb (.int .i64 0)).setCell (p := ⟨b, 1, none⟩) hbb (.int .i64 0)
    go_wp2_with (first | refine wpList_load_row rfl 47 _ rfl b rfl 47 _ (0, 0) _ qF Try.underlying47 rfl sMsg' ?_ | refine wpList_store_row rfl 47 _ _ rfl (w.heap.size + 1) #[.int .i64 0, .int .i64 0, .int .i64 x.m.ki, .int .i64 x.m.bau, .int .i64 x.m.bnu, .slice x.m.bta x.m.btn x.m.btc, .int .i64 x.m.hau, .int .i64 x.m.hrd, .slice x.m.hba x.m.hbn x.m.hbc, .slice x.m.hpa x.m.hpn x.m.hpc, .int .i64 x.m.sau, .int .i64 x.m.srd, .slice x.m.sda x.m.sdn x.m.sdc, .int .i64 x.m.cau, .int .i64 x.m.crd, .slice x.m.cba x.m.cbn x.m.cbc, .slice x.m.cpa x.m.cpn x.m.cpc, .slice x.m.cva x.m.cvn x.m.cvc, .int .i64 x.m.ro] rfl rfl 47 _ q1F sMsg' rfl (by simp [Value.oneCell']) ?_)
    refine bodyPost_ret (v := .agg #[.int .i64 0, .int .i64 0, .int .i64 x.m.ki, .int .i64 x.m.bau, .int .i64 x.m.bnu, .slice x.m.bta x.m.btn x.m.btc, .int .i64 x.m.hau, .int .i64 x.m.hrd, .slice x.m.hba x.m.hbn x.m.hbc, .slice x.m.hpa x.m.hpn x.m.hpc, .int .i64 x.m.sau, .int .i64 x.m.srd, .slice x.m.sda x.m.sdn x.m.sdc, .int .i64 x.m.cau, .int .i64 x.m.crd, .slice x.m.cba x.m.cbn x.m.cbc, .slice x.m.cpa x.m.cpn x.m.cpc, .slice x.m.cva x.m.cvn x.m.cvc, .int .i64 x.m.ro]) (results_cell_row (fn := Try.f18) (p := 2) (ty := 47) rfl _ _ (w.heap.size + 1) 47 _ (0, 0) _ rfl (setRow_heap _ _ _ _ _ _ q1F) Try.underlying47 rfl sMsg') rfl ⟨x.bare, rfl, ?_, MV.bare_rec HX.out.2.1 HE.out H5.out, MV.bare_has (HX.out.2.2.mono (fun k hk => by omega)), (Upd.setRow q1F).below hBF hBF.size (by omega), HU.out⟩
    refine MV.bare_at (hMA.out.stays (G := fun k => w.heap.size + 2 ≤ k ∧ k ≠ b) (fun k hk => ?_) HX.out.2.2)
    exact (setRow_other _ (w.heap.size + 1) k _ (by omega)).trans ((heap_setCell_other _ ⟨b, 1, none⟩ k _ hk.2).trans (heap_setCell_other _ ⟨b, 0, none⟩ k _ hk.2))
set_option maxRecDepth 100000 in
theorem record_any (ki ra rb rc : Int) (sa : Option Addr) (cap : Nat) (ss : List ByteArray) (w : World) (h1 : I64 ki) (h2 : I64 ra) (h3 : I64 rb) (h4 : I64 rc) (h5 : TextsAt w sa cap ss) :
    Calls Try.prog 18 #[.agg #[.int .i64 ki, .int .i64 ra, .int .i64 rb, .int .i64 rc, .slice sa ss.length cap]] w fun e w' => ∃ x : MV, e = .returned (.agg #[.int .i64 x.m.fr, .int .i64 x.m.tt, .int .i64 x.m.ki, .int .i64 x.m.bau, .int .i64 x.m.bnu, .slice x.m.bta x.m.btn x.m.btc, .int .i64 x.m.hau, .int .i64 x.m.hrd, .slice x.m.hba x.m.hbn x.m.hbc, .slice x.m.hpa x.m.hpn x.m.hpc, .int .i64 x.m.sau, .int .i64 x.m.srd, .slice x.m.sda x.m.sdn x.m.sdc, .int .i64 x.m.cau, .int .i64 x.m.crd, .slice x.m.cba x.m.cbn x.m.cbc, .slice x.m.cpa x.m.cpn x.m.cpc, .slice x.m.cva x.m.cvn x.m.cvc, .int .i64 x.m.ro]) ∧ MAt w' x ∧ IsRec x ∧ HasM (fun k => w.heap.size ≤ k) x ∧ Below w.heap.size w w' := by
  refine (record_anyU ki ra rb rc sa cap ss w h1 h2 h3 h4 h5).mono ?_
  rintro e w' ⟨x, he, hM, hI, hG, hb, -⟩
  exact ⟨x, he, hM, hI, hG, hb⟩
end Go.Proofs.Ythpocgndgphedaa

namespace Go.Proofs.Ythpocgndgphedaa
open Go.ChangeShapes Go.WideShapes Go.ChangeAt Go.RowKit Go.Deep

set_option maxRecDepth 100000 in
theorem cRaw : Try.prog.cellsOf 56 = 5 := by kernel_rfl
set_option maxRecDepth 100000 in
theorem cIntR : Try.prog.cellsOf 3 = 1 := by kernel_rfl
set_option maxRecDepth 100000 in
theorem cStrsR : Try.prog.cellsOf 35 = 1 := by kernel_rfl
set_option maxRecDepth 100000 in
theorem open_raw {H : Type} {enc : TypeId × Value → H} {W : World} {base : Nat} {v : Value} {d : DataW H} {p : List MemPlace}
    (hv : Value.okWide Try.prog W .any base 56 v) (h : DataW.Trod enc Try.prog W 0 (fun _ => true) true 56 v d p) (hfit : ∀ n ∈ d.weights Try.prog 56, n ≤ reachBytes) :
    ∃ ki ra rb rc sa cap ss, v = .agg #[.int .i64 ki, .int .i64 ra, .int .i64 rb, .int .i64 rc, .slice sa (List.length ss) cap] ∧ I64 ki ∧ I64 ra ∧ I64 rb ∧ I64 rc ∧ TextsAt W sa cap ss := by
  obtain ⟨cs, rfl, _⟩ := okWide_struct Try.underlying56 hv
  obtain ⟨fuel, hf⟩ := h
  obtain ⟨xs, n, _, hx, hl, hlen, hg⟩ := DataW.trod_struct Try.underlying56 hf
  rw [cRaw] at hl
  match xs, hlen with
  | [y0, y1, y2, y3, y4], _ =>
  have h0 := hg 0 _ rfl
  have h1 := hg 1 _ rfl
  have h2 := hg 2 _ rfl
  have h3 := hg 3 _ rfl
  have h4 := hg 4 _ rfl
  simp only [Prod.mk.injEq] at hx
  obtain ⟨rfl, rfl⟩ := hx
  obtain ⟨l⟩ := cs
  match l, hl with
  | [c0, c1, c2, c3, c4], _ =>
  obtain ⟨a0, e0, rfl, w0⟩ := DataW.trod_int Try.underlying3 h0
  obtain ⟨a1, e1, rfl, w1⟩ := DataW.trod_int Try.underlying3 h1
  obtain ⟨a2, e2, rfl, w2⟩ := DataW.trod_int Try.underlying3 h2
  obtain ⟨a3, e3, rfl, w3⟩ := DataW.trod_int Try.underlying3 h3
  obtain ⟨sa, cap, ss, e4, hs⟩ := open_texts_cells h4 (fun n hn => hfit n (by simp [DataW.weights, DataW.weightsEach, Try.underlying56, hn]))
  simp [cIntR, cStrsR, Value.cells] at e0 e1 e2 e3 e4
  subst e0 e1 e2 e3 e4
  exact ⟨a0, a1, a2, a3, sa, cap, ss, rfl, bounds_i64 w0, bounds_i64 w1, bounds_i64 w2, bounds_i64 w3, hs⟩
end Go.Proofs.Ythpocgndgphedaa

namespace Go.Proofs.Ythpocgndgphedaa
open Go.ChangeShapes Go.WideShapes Go.ChangeAt Go.RowKit Go.Deep

/-- A raw thing: its numbers; where its texts lie. -/
structure Rt where
  ki : Int
  a : Int
  b : Int
  c : Int
  sa : Option Addr
  cap : Nat
  ss : List ByteArray
structure RawTs (w : World) (sa : Option Addr) (rs : List Rt) : Prop where
  cells : rs = [] ∨ ∃ sb so, sa = some ⟨sb, so, none⟩ ∧ ∀ j (h : j < rs.length), w.cell? ⟨sb, so + j * 5, none⟩ = some (.int .i64 (rs[j]).ki) ∧ w.cell? ⟨sb, so + j * 5 + 1, none⟩ = some (.int .i64 (rs[j]).a) ∧ w.cell? ⟨sb, so + j * 5 + 2, none⟩ = some (.int .i64 (rs[j]).b) ∧ w.cell? ⟨sb, so + j * 5 + 3, none⟩ = some (.int .i64 (rs[j]).c) ∧ w.cell? ⟨sb, so + j * 5 + 4, none⟩ = some (.slice (rs[j]).sa (rs[j]).ss.length (rs[j]).cap)
  each : ∀ r ∈ rs, I64 r.ki ∧ I64 r.a ∧ I64 r.b ∧ I64 r.c ∧ TextsAt w r.sa r.cap r.ss
  small : rs.length ≤ 3000000000000000000
set_option maxRecDepth 100000 in
theorem RawTs.below {w w' : World} {sa : Option Addr} {rs : List Rt} (h : RawTs w sa rs) (hb : Below w.heap.size w w') : RawTs w' sa rs := by
  refine ⟨?_, fun r hr => ⟨(h.each r hr).1, (h.each r hr).2.1, (h.each r hr).2.2.1, (h.each r hr).2.2.2.1, (h.each r hr).2.2.2.2.below hb⟩, h.small⟩
  rcases h.cells with h | ⟨sb, so, rfl, hc⟩
  · exact .inl h
  · refine .inr ⟨sb, so, rfl, fun j hj => ?_⟩
    obtain ⟨h0, h1, h2, h3, h4⟩ := hc j hj
    have hlt : sb < w.heap.size := block_lt_of_cell h0
    exact ⟨(hb.cell (p := ⟨sb, so + j * 5, none⟩) hlt).trans h0, (hb.cell (p := ⟨sb, so + j * 5 + 1, none⟩) hlt).trans h1, (hb.cell (p := ⟨sb, so + j * 5 + 2, none⟩) hlt).trans h2, (hb.cell (p := ⟨sb, so + j * 5 + 3, none⟩) hlt).trans h3, (hb.cell (p := ⟨sb, so + j * 5 + 4, none⟩) hlt).trans h4⟩
set_option maxRecDepth 100000 in
theorem open_rawt_cells {H : Type} {enc : TypeId × Value → H} {W : World} {fuel : Nat} {cs : List Value} {x : DataW H × List MemPlace}
    (hf : DataW.trod enc Try.prog W 0 (fun _ => true) true fuel 56 cs = some x) (hfit : ∀ n ∈ x.1.weights Try.prog 56, n ≤ reachBytes) :
    ∃ r : Rt, cs = [.int .i64 r.ki, .int .i64 r.a, .int .i64 r.b, .int .i64 r.c, .slice r.sa r.ss.length r.cap] ∧ I64 r.ki ∧ I64 r.a ∧ I64 r.b ∧ I64 r.c ∧ TextsAt W r.sa r.cap r.ss := by
  obtain ⟨xs, n, _, rfl, hl, hlen, hg⟩ := DataW.trod_struct Try.underlying56 hf
  rw [cRaw] at hl
  match xs, hlen with
  | [y0, y1, y2, y3, y4], _ =>
  have h0 := hg 0 _ rfl
  have h1 := hg 1 _ rfl
  have h2 := hg 2 _ rfl
  have h3 := hg 3 _ rfl
  have h4 := hg 4 _ rfl
  match cs, hl with
  | [c0, c1, c2, c3, c4], _ =>
  obtain ⟨a0, e0, rfl, w0⟩ := DataW.trod_int Try.underlying3 h0
  obtain ⟨a1, e1, rfl, w1⟩ := DataW.trod_int Try.underlying3 h1
  obtain ⟨a2, e2, rfl, w2⟩ := DataW.trod_int Try.underlying3 h2
  obtain ⟨a3, e3, rfl, w3⟩ := DataW.trod_int Try.underlying3 h3
  obtain ⟨sa, cap, ss, e4, hT⟩ := open_texts_cells h4 (fun n hn => hfit n (by simp [DataW.weights, DataW.weightsEach, Try.underlying56, hn]))
  simp [cIntR, cStrsR] at e0 e1 e2 e3 e4
  subst e0 e1 e2 e3 e4
  exact ⟨⟨a0, a1, a2, a3, sa, cap, ss⟩, rfl, bounds_i64 w0, bounds_i64 w1, bounds_i64 w2, bounds_i64 w3, hT⟩
set_option maxRecDepth 100000 in
theorem weightsAll_memT {H : Type} (e : TypeId) (l : List (DataW H)) (d : DataW H) (hd : d ∈ l) : ∀ n ∈ d.weights Try.prog e, n ∈ DataW.weightsAll Try.prog e l := by
  induction l with
  | nil => cases hd
  | cons x r ih =>
    intro n hn
    rw [DataW.weightsAll]
    rcases List.mem_cons.1 hd with rfl | h
    · exact List.mem_append_left _ hn
    · exact List.mem_append_right _ (ih h n hn)
set_option maxRecDepth 100000 in
theorem bRawT : Try.prog.bytesOf 56 = 56 := by kernel_rfl
set_option maxRecDepth 100000 in
theorem open_rawts {H : Type} {enc : TypeId × Value → H} {W : World} {base : Nat} {v : Value} {d : DataW H} {p : List MemPlace}
    (hv : Value.okWide Try.prog W .any base 22 v) (h : DataW.Trod enc Try.prog W 0 (fun _ => true) true 22 v d p) (hfit : ∀ n ∈ d.weights Try.prog 22, n ≤ reachBytes) :
    ∃ sa cap rs, v = .slice sa (List.length rs) cap ∧ RawTs W sa rs ∧ rs.length ≤ cap := by
  obtain ⟨a0, len0, cap0, rfl⟩ := okWide_slice Try.underlying22 hv
  obtain ⟨fuel, hf⟩ := h
  rcases open_slice Try.underlying22 hf with ⟨he, _⟩ | ⟨a, len, cap, m, n, D, Pl, he, _, hl, hm, hmm, hd, hx⟩
  · simp [Value.cells] at he
    obtain ⟨rfl, rfl, rfl⟩ := he
    exact ⟨none, 0, [], rfl, ⟨.inl rfl, (fun p hp => by cases hp), by decide⟩, Nat.le_refl _⟩
  · simp [Value.cells] at he
    obtain ⟨rfl, rfl, rfl⟩ := he
    simp only [Prod.mk.injEq] at hd
    obtain ⟨rfl, rfl⟩ := hd
    simp only [if_true] at hmm
    subst hmm
    rw [cRaw] at hx
    have hw := hfit ((((List.range len0).map D).length + ((List.range (m - len0)).map fun j => D (len0 + j)).length) * Try.prog.bytesOf 56) (by simp [DataW.weights, Try.underlying22])
    rw [bRawT] at hw
    simp [reachBytes] at hw
    have each : ∀ i, i < len0 → ∃ r : Rt, (W.cell? (a.add (i * 5)) = some (.int .i64 r.ki) ∧ W.cell? (a.add (i * 5 + 1)) = some (.int .i64 r.a) ∧ W.cell? (a.add (i * 5 + 2)) = some (.int .i64 r.b) ∧ W.cell? (a.add (i * 5 + 3)) = some (.int .i64 r.c) ∧ W.cell? (a.add (i * 5 + 4)) = some (.slice r.sa r.ss.length r.cap)) ∧ (I64 r.ki ∧ I64 r.a ∧ I64 r.b ∧ I64 r.c ∧ TextsAt W r.sa r.cap r.ss) := fun i hi => by
      obtain ⟨cs', h1, h2⟩ := hx i (by omega)
      have hfi : ∀ n ∈ (D i).weights Try.prog 56, n ≤ reachBytes := fun n hn => hfit n (by
        have := weightsAll_memT 56 ((List.range len0).map D) (D i) (List.mem_map.2 ⟨i, List.mem_range.2 hi, rfl⟩) n hn
        simp only [DataW.weights, Try.underlying22]
        exact List.mem_cons_of_mem _ (List.mem_append_left _ this))
      obtain ⟨r, rfl, ii⟩ := open_rawt_cells h2 hfi
      obtain ⟨_, _, hcell⟩ := World.cells?_some h1
      have e0 := hcell 0 (by omega)
      have e1 := hcell 1 (by omega)
      have e2 := hcell 2 (by omega)
      have e3 := hcell 3 (by omega)
      have e4 := hcell 4 (by omega)
      rw [add_add] at e0 e1 e2 e3 e4
      exact ⟨r, ⟨by simpa using e0, by simpa using e1, by simpa using e2, by simpa using e3, by simpa using e4⟩, ii⟩
    obtain ⟨P, hP⟩ := @choose_lt Rt ⟨⟨0, 0, 0, 0, none, 0, []⟩⟩ len0 _ each
    have ha : 0 < len0 → ∃ b off, a = ⟨b, off, none⟩ := fun hi => by
      have h9 := (hP 0 hi).1.1
      cases a with
      | mk b off spot =>
        cases spot with
        | none => exact ⟨b, off, rfl⟩
        | some s => simp [World.cell?, Addr.add] at h9; split at h9 <;> cases h9
    refine ⟨some a, m, (List.range len0).map P, by simp, ⟨?_, ?_, by simp; omega⟩, by simpa using hl⟩
    · rcases Nat.eq_zero_or_pos len0 with h0 | h0
      · subst h0; exact .inl rfl
      · right
        obtain ⟨b, off, rfl⟩ := ha h0
        refine ⟨b, off, rfl, fun j hj => ?_⟩
        have hj' : j < len0 := by simpa using hj
        obtain ⟨e0, e1, e2, e3, e4⟩ := (hP j hj').1
        rw [add_off] at e0 e1 e2 e3 e4
        simp only [List.getElem_map, List.getElem_range]
        exact ⟨e0, by rw [Nat.add_assoc]; exact e1, by rw [Nat.add_assoc]; exact e2, by rw [Nat.add_assoc]; exact e3, by rw [Nat.add_assoc]; exact e4⟩
    · intro p hp
      simp at hp
      obtain ⟨j, hj, rfl⟩ := hp
      exact (hP j hj).2
end Go.Proofs.Ythpocgndgphedaa
