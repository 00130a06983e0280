/- lines.readAct: for every line. -/
import Derived.Test.YtnpkpkknbflacaaDoorLnR3
import Derived.Test.YtnpkpkknbflacaaDoorLnSh
import Derived.Test.YtnpkpkknbflacaaDoorResC
import Derived.BigRegion
import Derived.Deep.CutRange
import Derived.Deep.CutBlock
import Derived.Deep.DeepCutAuto
namespace Go.Proofs.YtnpkpkknbflacaaDoor
open Go.RowKit

/-- How far a line is read: what is left, and whether there is more; what was read, and whether it was right. -/
structure St where
  r : List UInt8
  m : Bool
  n : Int
  p : Int
  t : List UInt8
  b0 : Bool
  b1 : Bool
  b2 : Bool
def st1 (k : Int) (s : St) : St := if hN k = true ∧ s.m = true then ⟨afC 32 s.r, hasC 32 s.r, numA (bfC 32 s.r), s.p, s.t, numB (bfC 32 s.r), s.b1, s.b2⟩ else s
def st2 (k : Int) (s : St) : St := if hP k = true ∧ s.m = true then ⟨afC 32 s.r, hasC 32 s.r, s.n, numA (bfC 32 s.r), s.t, s.b0, numB (bfC 32 s.r), s.b2⟩ else s
def st3 (k : Int) (s : St) : St := if hT k = true ∧ s.m = true then ⟨afC 32 s.r, hasC 32 s.r, s.n, s.p, txtA (bfC 32 s.r), s.b0, s.b1, txtB (bfC 32 s.r)⟩ else s
def stJ (k : Int) (l : List UInt8) : Nat → St
  | 0 => ⟨afC 32 l, hasC 32 l, 0, 0, [], false, false, false⟩
  | 1 => st1 k ⟨afC 32 l, hasC 32 l, 0, 0, [], false, false, false⟩
  | 2 => st2 k (st1 k ⟨afC 32 l, hasC 32 l, 0, 0, [], false, false, false⟩)
  | _ => st3 k (st2 k (st1 k ⟨afC 32 l, hasC 32 l, 0, 0, [], false, false, false⟩))
set_option maxRecDepth 100000 in
theorem stJ1 (k : Int) (l : List UInt8) : stJ k l 1 = st1 k (stJ k l 0) := rfl
set_option maxRecDepth 100000 in
theorem stJ2 (k : Int) (l : List UInt8) : stJ k l 2 = st2 k (stJ k l 1) := rfl
set_option maxRecDepth 100000 in
theorem stJ3 (k : Int) (l : List UInt8) : stJ k l 3 = st3 k (stJ k l 2) := rfl
set_option maxRecDepth 100000 in
theorem bfC_le (c : UInt8) (l : List UInt8) : (bfC c l).length ≤ l.length := (List.takeWhile_prefix _).length_le
set_option maxRecDepth 100000 in
theorem afC_le (c : UInt8) (l : List UInt8) : (afC c l).length ≤ l.length := by
  unfold afC
  rw [List.length_drop]
  have := (List.dropWhile_suffix (p := fun b => b != c) (l := l)).length_le
  omega
set_option maxRecDepth 100000 in
theorem stJ_le (k : Int) (l : List UInt8) : ∀ j, (stJ k l j).r.length ≤ l.length := by
  have h0 : (stJ k l 0).r.length ≤ l.length := afC_le 32 l
  have h1 : (stJ k l 1).r.length ≤ l.length := by
    rw [stJ1, st1]
    split
    · exact Nat.le_trans (afC_le _ _) h0
    · exact h0
  have h2 : (stJ k l 2).r.length ≤ l.length := by
    rw [stJ2, st2]
    split
    · exact Nat.le_trans (afC_le _ _) h1
    · exact h1
  have h3 : (stJ k l 3).r.length ≤ l.length := by
    rw [stJ3, st3]
    split
    · exact Nat.le_trans (afC_le _ _) h2
    · exact h2
  intro j
  match j with
  | 0 => exact h0
  | 1 => exact h1
  | 2 => exact h2
  | n + 3 => exact h3
/-- Is the line in form? -/
def rdB (l : List UInt8) : Bool := decide (kindL (bfC 32 l) ≠ 0) && ((stJ (kindL (bfC 32 l)) l 3).b0 == hN (kindL (bfC 32 l)) && (stJ (kindL (bfC 32 l)) l 3).b1 == hP (kindL (bfC 32 l)) && (stJ (kindL (bfC 32 l)) l 3).b2 == hT (kindL (bfC 32 l))) && !(stJ (kindL (bfC 32 l)) l 3).m
/-- The act that it tells. -/
def rdV (l : List UInt8) : AV := ⟨kindL (bfC 32 l), (stJ (kindL (bfC 32 l)) l 3).n, (stJ (kindL (bfC 32 l)) l 3).p, ⟨(stJ (kindL (bfC 32 l)) l 3).t.toArray⟩⟩
set_option maxRecDepth 100000 in
theorem eq3 (a0 a1 a2 b0 b1 b2 : Bool) (w : World) : (binOp .eql 67 (.agg #[.bool a0, .bool a1, .bool a2]) (.agg #[.bool b0, .bool b1, .bool b2])).run Tryd.prog w = .ok (.bool (a0 == b0 && a1 == b1 && a2 == b2)) w := by
  cases a0 <;> cases a1 <;> cases a2 <;> cases b0 <;> cases b1 <;> cases b2 <;> kernel_rfl
set_option maxRecDepth 100000 in
theorem Upd.keep {b c : Nat} {o x : Obj} {w w' : World} (h : Upd b o w w') (hx : w.heap[c]? = some x) (hne : c ≠ b) : w'.heap[c]? = some x := (h.block c (lt_of_heap hx) hne).trans hx
set_option maxRecDepth 100000 in
theorem Upd.low {b B : Nat} {o : Obj} {a w w' : World} (k : Upd b o w w') (h : Below B a w) (hB : B ≤ w.heap.size) (hb : B ≤ b) : Below B a w' := k.below h hB hb
set_option maxRecDepth 100000 in
set_option maxHeartbeats 8000000 in
theorem readAct_any (s : ByteArray) (w : World) (hs : s.size ≤ 140737488355328) (hT : LTabs w) :
    Calls Tryd.prog 29 #[.string s] w fun e w' => (∃ a : AV, e = .returned (.tuple #[.agg #[.int .i64 a.k, .int .i64 a.n, .int .i64 a.p, .string a.t], .bool (rdB s.data.toList)]) ∧ (rdB s.data.toList = true → a = rdV s.data.toList)) ∧ Below w.heap.size w w' := by
  have hlen : s.data.toList.length = s.size := Array.length_toList
  have hmx : ∀ l : List UInt8, l.length ≤ s.size → (⟨l.toArray⟩ : ByteArray).size ≤ maxLen := fun l h => by rw [mk_size]; unfold maxLen; omega
  have hZ : Below w.heap.size w (w.alloc (.cells #[.int .i64 0, .int .i64 0, .int .i64 0, .string ⟨#[]⟩] 30)) := (Below.refl _ _).alloc (Nat.le_refl _) _
  have qZ := heap_alloc_new w (.cells #[.int .i64 0, .int .i64 0, .int .i64 0, .string ⟨#[]⟩] 30)
  have HC := cut_any s 32 (w.alloc (.cells #[.int .i64 0, .int .i64 0, .int .i64 0, .string ⟨#[]⟩] 30)) (by unfold maxLen; omega)
  generalize hl : s.data.toList = l at *
  clear hl
  go_enter Tryd.func29, Tryd.ntmps29
  go_wp2_with fail
  refine HC.mono ?_
  rintro e w1 ⟨he, hb1⟩
  subst he
  dsimp only
  have hB1 := hZ.trans (hb1.mono hZ.size)
  have q1 := (hb1.block _ (lt_of_heap qZ)).trans qZ
  clear HC hb1 hZ qZ
  have HK := kindOf_any ⟨(bfC 32 l).toArray⟩ w1 (hT.below hB1).k
  rw [mk_list] at HK
  have hkb := kindL_bounds (bfC 32 l)
  have Hrd : Hid (rdB l = (decide (kindL (bfC 32 l) ≠ 0) && ((stJ (kindL (bfC 32 l)) l 3).b0 == hN (kindL (bfC 32 l)) && (stJ (kindL (bfC 32 l)) l 3).b1 == hP (kindL (bfC 32 l)) && (stJ (kindL (bfC 32 l)) l 3).b2 == Go.Proofs.YtnpkpkknbflacaaDoor.hT (kindL (bfC 32 l))) && !(stJ (kindL (bfC 32 l)) l 3).m)) := rfl
  have HrV : Hid (rdV l = ⟨kindL (bfC 32 l), (stJ (kindL (bfC 32 l)) l 3).n, (stJ (kindL (bfC 32 l)) l 3).p, ⟨(stJ (kindL (bfC 32 l)) l 3).t.toArray⟩⟩) := rfl
  have hLe := stJ_le (kindL (bfC 32 l)) l
  have HS0 : Hid (stJ (kindL (bfC 32 l)) l 0 = ⟨afC 32 l, hasC 32 l, 0, 0, [], false, false, false⟩) := rfl
  have HS1 := stJ1 (kindL (bfC 32 l)) l
  have HS2 := stJ2 (kindL (bfC 32 l)) l
  have HS3 := stJ3 (kindL (bfC 32 l)) l
  generalize hkk : kindL (bfC 32 l) = k at *
  have Hkk : Hid _ := hkk
  clear hkk
  generalize stJ k l = sj at *
  go_wp2_with fail
  refine HK.mono ?_
  rintro e w2 ⟨he, rfl⟩
  subst he
  dsimp only
  clear HK
  have hwz := hB1.size
  have hZlt := lt_of_heap q1
  by_cases hk0 : k = 0
  · have hR : Hid (rdB l = false) := by show _ = _; rw [Hrd.out, hk0]; simp
    subst hk0
    have qZ2 : (w1.alloc (.cells #[.int .i64 0, .int .i64 0, .int .i64 0, .string ⟨#[]⟩] 30)).heap[w.heap.size]? = some (.cells #[.int .i64 0, .int .i64 0, .int .i64 0, .string ⟨#[]⟩] 30 (0, 0)) := heap_keep q1
    have hB2 := hB1.alloc hB1.size (.cells #[.int .i64 0, .int .i64 0, .int .i64 0, .string ⟨#[]⟩] 30)
    go_upto_region 4 with fail
    generalize w1.alloc (.cells #[.int .i64 0, .int .i64 0, .int .i64 0, .string ⟨#[]⟩] 30) = W2 at *
    go_wp2_with (refine wpList_store_row rfl 30 _ _ rfl w.heap.size #[.int .i64 0, .int .i64 0, .int .i64 0, .string ⟨#[]⟩] rfl rfl 30 _ qZ2 sAct rfl (by simp [Value.oneCell']) ?_)
    refine bodyPost_ret (v := .tuple #[.agg #[.int .i64 0, .int .i64 0, .int .i64 0, .string ⟨#[]⟩], .bool false]) (results_two (fn := Tryd.f29) (p := 2) (q := 3) (ty := 30) rfl _ _ w.heap.size 30 _ (0, 0) _ (.bool false) ⟨rfl, rfl⟩ (setRow_heap _ _ _ _ _ _ qZ2) Tryd.underlying30 rfl sAct) rfl ⟨⟨⟨0, 0, 0, ⟨#[]⟩⟩, by rw [hR.out], fun h => by rw [hR.out] at h; cases h⟩, (Upd.setRow qZ2).below hB2 hB2.size (Nat.le_refl _)⟩
  · have hk1 : 1 ≤ k ∧ k ≤ 10 := by omega
    obtain ⟨kn, rfl⟩ : ∃ kn : Nat, k = kn := ⟨k.toNat, by omega⟩
    have hkn : 1 ≤ kn := by omega
    have hkn2 : kn ≤ 10 := by omega
    have hk0b : ((kn : Int) == 0) = false := by rw [beq_eq_false_iff_ne]; exact hk0
    have hK1 := (hT.below hB1).k.alloc (.cells #[.int .i64 kn, .int .i64 0, .int .i64 0, .string ⟨#[]⟩] 30)
    have c1 := hK1.node kn hkn hkn2
    have c2 := hK1.pick kn hkn hkn2
    have c3 := hK1.text kn hkn hkn2
    have hKlt := hT.k.lt
    rw [st1] at HS1
    rw [st2] at HS2
    rw [st3] at HS3
    generalize hN kn = h0 at *
    generalize hP kn = h1 at *
    generalize Go.Proofs.YtnpkpkknbflacaaDoor.hT kn = h2 at *
    have HS1' : Hid _ := HS1
    have HS2' : Hid _ := HS2
    have HS3' : Hid _ := HS3
    clear HS1 HS2 HS3
    have qZ3 : (((w1.alloc (.cells #[.int .i64 kn, .int .i64 0, .int .i64 0, .string ⟨#[]⟩] 30)).alloc (.cells #[.bool h0, .bool h1, .bool h2] 67)).alloc (.cells #[.bool false, .bool false, .bool false] 67)).heap[w.heap.size]? = some (.cells #[.int .i64 0, .int .i64 0, .int .i64 0, .string ⟨#[]⟩] 30 (0, 0)) := heap_keep (heap_keep (heap_keep q1))
    have qA3 : (((w1.alloc (.cells #[.int .i64 kn, .int .i64 0, .int .i64 0, .string ⟨#[]⟩] 30)).alloc (.cells #[.bool h0, .bool h1, .bool h2] 67)).alloc (.cells #[.bool false, .bool false, .bool false] 67)).heap[w1.heap.size]? = some (.cells #[.int .i64 kn, .int .i64 (sj 0).n, .int .i64 (sj 0).p, .string ⟨(sj 0).t.toArray⟩] 30 (0, 0)) := by rw [HS0.out]; exact heap_keep (heap_keep (heap_alloc_new w1 _))
    have qH3 : (((w1.alloc (.cells #[.int .i64 kn, .int .i64 0, .int .i64 0, .string ⟨#[]⟩] 30)).alloc (.cells #[.bool h0, .bool h1, .bool h2] 67)).alloc (.cells #[.bool false, .bool false, .bool false] 67)).heap[w1.heap.size + 1]? = some (.cells #[.bool h0, .bool h1, .bool h2] 67 (0, 0)) := heap_keep (heap_new_at _ _ _ (by simp))
    have qG3 : (((w1.alloc (.cells #[.int .i64 kn, .int .i64 0, .int .i64 0, .string ⟨#[]⟩] 30)).alloc (.cells #[.bool h0, .bool h1, .bool h2] 67)).alloc (.cells #[.bool false, .bool false, .bool false] 67)).heap[w1.heap.size + 1 + 1]? = some (.cells #[.bool (sj 0).b0, .bool (sj 0).b1, .bool (sj 0).b2] 67 (0, 0)) := by rw [HS0.out]; exact heap_new_at _ _ _ (by simp)
    have hB3 : Below w.heap.size w (((w1.alloc (.cells #[.int .i64 kn, .int .i64 0, .int .i64 0, .string ⟨#[]⟩] 30)).alloc (.cells #[.bool h0, .bool h1, .bool h2] 67)).alloc (.cells #[.bool false, .bool false, .bool false] 67)) := ((hB1.alloc hB1.size _).alloc (by simp; omega) _).alloc (by simp; omega) _
    have d1 : w.heap.size ≤ w1.heap.size := hwz
    have hAZ : w1.heap.size ≠ w.heap.size := by omega
    go_wp2_with fail
    clear c1 c2 c3 hK1 hKlt hZlt q1 hB1
    generalize hW : (((w1.alloc (.cells #[.int .i64 kn, .int .i64 0, .int .i64 0, .string ⟨#[]⟩] 30)).alloc (.cells #[.bool h0, .bool h1, .bool h2] 67)).alloc (.cells #[.bool false, .bool false, .bool false] 67)) = W3 at *
    clear hW
    have nAH : w1.heap.size ≠ w1.heap.size + 1 := by omega
    have nAG : w1.heap.size ≠ w1.heap.size + 1 + 1 := by omega
    have nHG : w1.heap.size + 1 ≠ w1.heap.size + 1 + 1 := by omega
    have nZH : w.heap.size ≠ w1.heap.size + 1 := by omega
    have nZG : w.heap.size ≠ w1.heap.size + 1 + 1 := by omega
    have bA : w.heap.size ≤ w1.heap.size := hwz
    have bG : w.heap.size ≤ w1.heap.size + 1 + 1 := by omega
    generalize hPG : w1.heap.size + 1 + 1 = PG at *
    generalize hPH : w1.heap.size + 1 = PH at *
    generalize hPA : w1.heap.size = PA at *
    clear hPG hPH hPA hwz d1
    have HR0 : Hid ((sj 0).r = afC 32 l ∧ (sj 0).m = hasC 32 l) := by show _ ∧ _; rw [HS0.out]; exact ⟨rfl, rfl⟩
    go_loopw [30, 5, 6] (fun i r m wr => ∃ j : Nat, j ≤ 3 ∧ i = .int .i64 j ∧ r = .string ⟨(sj j).r.toArray⟩ ∧ m = .bool (sj j).m ∧ Below w.heap.size w wr ∧ wr.heap[w.heap.size]? = some (.cells #[.int .i64 0, .int .i64 0, .int .i64 0, .string ⟨#[]⟩] 30 (0, 0)) ∧ wr.heap[PA]? = some (.cells #[.int .i64 kn, .int .i64 (sj j).n, .int .i64 (sj j).p, .string ⟨(sj j).t.toArray⟩] 30 (0, 0)) ∧ wr.heap[PH]? = some (.cells #[.bool h0, .bool h1, .bool h2] 67 (0, 0)) ∧ wr.heap[PG]? = some (.cells #[.bool (sj j).b0, .bool (sj j).b1, .bool (sj j).b2] 67 (0, 0))) (fun i _ _ _ => 3 - (intOf i).toNat)
    case atStart => exact ⟨0, by omega, rfl, by rw [HR0.out.1], by rw [HR0.out.2], hB3, qZ3, qA3, qH3, qG3⟩
    case round =>
      clear qZ3 qA3 qH3 qG3 hB3
      obtain ⟨j, hj, rfl, rfl, rfl, hb, qZ, qA, qH, qG⟩ := hrel
      have hLj := hLe j
      have g0 := cells_at qG 0 _ rfl
      have g1 := cells_at qG 1 _ rfl
      have g2 := cells_at qG 2 _ rfl
      have f0 := cells_at qH 0 _ rfl
      have f1 := cells_at qH 1 _ rfl
      have f2 := cells_at qH 2 _ rfl
      obtain rfl | rfl | rfl | rfl : j = 0 ∨ j = 1 ∨ j = 2 ∨ j = 3 := by omega
      · by_cases hon : h0 = true ∧ (sj 0).m = true
        · obtain ⟨ho1, ho2⟩ := hon
          have HN : Hid (sj 1 = ⟨afC 32 (sj 0).r, hasC 32 (sj 0).r, numA (bfC 32 (sj 0).r), (sj 0).p, (sj 0).t, numB (bfC 32 (sj 0).r), (sj 0).b1, (sj 0).b2⟩) := by show _ = _; rw [HS1'.out, if_pos ⟨ho1, ho2⟩]
          rw [ho1] at qH f0
          rw [ho2]
          have HCt := cut_any ⟨(sj 0).r.toArray⟩ 32 wr (hmx _ (by rw [← hlen]; exact hLj))
          rw [mk_list] at HCt
          have hbs : (⟨(bfC 32 (sj 0).r).toArray⟩ : ByteArray).size ≤ 140737488355328 := by rw [mk_size]; have := bfC_le 32 (sj 0).r; omega
          go_wp2_with fail
          refine HCt.mono ?_
          rintro e w4 ⟨he, hb4⟩
          subst he
          dsimp only
          have hT5 := hT.below (hb.trans (hb4.mono hb.size))
          have qA4 := (hb4.block _ (lt_of_heap qA)).trans qA
          have qZ4 := (hb4.block _ (lt_of_heap qZ)).trans qZ
          have qH4 := (hb4.block _ (lt_of_heap qH)).trans qH
          have qG4 := (hb4.block _ (lt_of_heap qG)).trans qG
          have hB4 := hb.trans (hb4.mono hb.size)
          have HP := readPart0 PA kn (sj 0).n (sj 0).p ⟨(sj 0).t.toArray⟩ ⟨(bfC 32 (sj 0).r).toArray⟩ w4 hbs qA4 hT5
          rw [mk_list] at HP
          clear HCt g0 g1 g2 f0 f1 f2
          go_wp2_with fail
          refine HP.mono ?_
          rintro e w5 ⟨he, hU⟩
          subst he
          dsimp only
          have qG5 := hU.keep qG4 nAG.symm
          have x0 := cells_at qG5 0 _ rfl
          have x1 := cells_at qG5 1 _ rfl
          have x2 := cells_at qG5 2 _ rfl
          have y0 := frozen_at qG5 0
          have hU2 := (Upd.refl qG5).setCell 0 (.bool (numB (bfC 32 (sj 0).r)))
          have qA5 := hU.here
          have qH5 := hU.keep qH4 nAH.symm
          have qZ5 := hU.keep qZ4 hAZ.symm
          have hB5 := hU.low hB4 hB4.size bA
          clear HP
          go_wp2_with fail
          go_roundw
          case rel =>
            refine ⟨1, by omega, by go_num, by rw [HN.out], by rw [HN.out], hU2.low hB5 hB5.size bG, hU2.keep qZ5 nZG, ?_, ?_, ?_⟩
            · rw [HN.out]; exact hU2.keep qA5 nAG
            · rw [ho1]; exact hU2.keep qH5 nHG
            · rw [HN.out]; exact hU2.here
          case measure => simp [intOf]
        · have HN : Hid (sj 1 = sj 0) := by show _ = _; rw [HS1'.out, if_neg hon]
          have hcc : h0 = false ∨ (h0 = true ∧ (sj 0).m = false) := by
            cases hh : h0
            · exact .inl rfl
            · refine .inr ⟨rfl, ?_⟩
              cases hmm : (sj 0).m
              · rfl
              · exact absurd ⟨hh, hmm⟩ hon
          clear hon
          rcases hcc with ho1 | ⟨ho1, ho2⟩
          · rw [ho1] at f0
            go_wp2_with fail
            go_roundw
            case rel => exact ⟨1, by omega, by go_num, by rw [HN.out], by rw [HN.out], hb, qZ, by rw [HN.out]; exact qA, qH, by rw [HN.out]; exact qG⟩
            case measure => simp [intOf]
          · rw [ho1] at f0
            rw [ho2]
            go_wp2_with fail
            go_roundw
            case rel => exact ⟨1, by omega, by go_num, by rw [HN.out], by rw [HN.out, ho2], hb, qZ, by rw [HN.out]; exact qA, qH, by rw [HN.out]; exact qG⟩
            case measure => simp [intOf]
      · by_cases hon : h1 = true ∧ (sj 1).m = true
        · obtain ⟨ho1, ho2⟩ := hon
          have HN : Hid (sj 2 = ⟨afC 32 (sj 1).r, hasC 32 (sj 1).r, (sj 1).n, numA (bfC 32 (sj 1).r), (sj 1).t, (sj 1).b0, numB (bfC 32 (sj 1).r), (sj 1).b2⟩) := by show _ = _; rw [HS2'.out, if_pos ⟨ho1, ho2⟩]
          rw [ho1] at qH f1
          rw [ho2]
          have HCt := cut_any ⟨(sj 1).r.toArray⟩ 32 wr (hmx _ (by rw [← hlen]; exact hLj))
          rw [mk_list] at HCt
          have hbs : (⟨(bfC 32 (sj 1).r).toArray⟩ : ByteArray).size ≤ 140737488355328 := by rw [mk_size]; have := bfC_le 32 (sj 1).r; omega
          go_wp2_with fail
          refine HCt.mono ?_
          rintro e w4 ⟨he, hb4⟩
          subst he
          dsimp only
          have hT5 := hT.below (hb.trans (hb4.mono hb.size))
          have qA4 := (hb4.block _ (lt_of_heap qA)).trans qA
          have qZ4 := (hb4.block _ (lt_of_heap qZ)).trans qZ
          have qH4 := (hb4.block _ (lt_of_heap qH)).trans qH
          have qG4 := (hb4.block _ (lt_of_heap qG)).trans qG
          have hB4 := hb.trans (hb4.mono hb.size)
          have HP := readPart1 PA kn (sj 1).n (sj 1).p ⟨(sj 1).t.toArray⟩ ⟨(bfC 32 (sj 1).r).toArray⟩ w4 hbs qA4 hT5
          rw [mk_list] at HP
          clear HCt g0 g1 g2 f0 f1 f2
          go_wp2_with fail
          refine HP.mono ?_
          rintro e w5 ⟨he, hU⟩
          subst he
          dsimp only
          have qG5 := hU.keep qG4 nAG.symm
          have x0 := cells_at qG5 0 _ rfl
          have x1 := cells_at qG5 1 _ rfl
          have x2 := cells_at qG5 2 _ rfl
          have y0 := frozen_at qG5 1
          have hU2 := (Upd.refl qG5).setCell 1 (.bool (numB (bfC 32 (sj 1).r)))
          have qA5 := hU.here
          have qH5 := hU.keep qH4 nAH.symm
          have qZ5 := hU.keep qZ4 hAZ.symm
          have hB5 := hU.low hB4 hB4.size bA
          clear HP
          go_wp2_with fail
          go_roundw
          case rel =>
            refine ⟨2, by omega, by go_num, by rw [HN.out], by rw [HN.out], hU2.low hB5 hB5.size bG, hU2.keep qZ5 nZG, ?_, ?_, ?_⟩
            · rw [HN.out]; exact hU2.keep qA5 nAG
            · rw [ho1]; exact hU2.keep qH5 nHG
            · rw [HN.out]; exact hU2.here
          case measure => simp [intOf]
        · have HN : Hid (sj 2 = sj 1) := by show _ = _; rw [HS2'.out, if_neg hon]
          have hcc : h1 = false ∨ (h1 = true ∧ (sj 1).m = false) := by
            cases hh : h1
            · exact .inl rfl
            · refine .inr ⟨rfl, ?_⟩
              cases hmm : (sj 1).m
              · rfl
              · exact absurd ⟨hh, hmm⟩ hon
          clear hon
          rcases hcc with ho1 | ⟨ho1, ho2⟩
          · rw [ho1] at f1
            go_wp2_with fail
            go_roundw
            case rel => exact ⟨2, by omega, by go_num, by rw [HN.out], by rw [HN.out], hb, qZ, by rw [HN.out]; exact qA, qH, by rw [HN.out]; exact qG⟩
            case measure => simp [intOf]
          · rw [ho1] at f1
            rw [ho2]
            go_wp2_with fail
            go_roundw
            case rel => exact ⟨2, by omega, by go_num, by rw [HN.out], by rw [HN.out, ho2], hb, qZ, by rw [HN.out]; exact qA, qH, by rw [HN.out]; exact qG⟩
            case measure => simp [intOf]
      · by_cases hon : h2 = true ∧ (sj 2).m = true
        · obtain ⟨ho1, ho2⟩ := hon
          have HN : Hid (sj 3 = ⟨afC 32 (sj 2).r, hasC 32 (sj 2).r, (sj 2).n, (sj 2).p, txtA (bfC 32 (sj 2).r), (sj 2).b0, (sj 2).b1, txtB (bfC 32 (sj 2).r)⟩) := by show _ = _; rw [HS3'.out, if_pos ⟨ho1, ho2⟩]
          rw [ho1] at qH f2
          rw [ho2]
          have HCt := cut_any ⟨(sj 2).r.toArray⟩ 32 wr (hmx _ (by rw [← hlen]; exact hLj))
          rw [mk_list] at HCt
          have hbs : (⟨(bfC 32 (sj 2).r).toArray⟩ : ByteArray).size ≤ 140737488355328 := by rw [mk_size]; have := bfC_le 32 (sj 2).r; omega
          go_wp2_with fail
          refine HCt.mono ?_
          rintro e w4 ⟨he, hb4⟩
          subst he
          dsimp only
          have hT5 := hT.below (hb.trans (hb4.mono hb.size))
          have qA4 := (hb4.block _ (lt_of_heap qA)).trans qA
          have qZ4 := (hb4.block _ (lt_of_heap qZ)).trans qZ
          have qH4 := (hb4.block _ (lt_of_heap qH)).trans qH
          have qG4 := (hb4.block _ (lt_of_heap qG)).trans qG
          have hB4 := hb.trans (hb4.mono hb.size)
          have HP := readPart2 PA kn (sj 2).n (sj 2).p ⟨(sj 2).t.toArray⟩ ⟨(bfC 32 (sj 2).r).toArray⟩ w4 hbs qA4
          rw [mk_list] at HP
          clear HCt g0 g1 g2 f0 f1 f2
          go_wp2_with fail
          refine HP.mono ?_
          rintro e w5 ⟨he, hU⟩
          subst he
          dsimp only
          have qG5 := hU.keep qG4 nAG.symm
          have x0 := cells_at qG5 0 _ rfl
          have x1 := cells_at qG5 1 _ rfl
          have x2 := cells_at qG5 2 _ rfl
          have y0 := frozen_at qG5 2
          have hU2 := (Upd.refl qG5).setCell 2 (.bool (txtB (bfC 32 (sj 2).r)))
          have qA5 := hU.here
          have qH5 := hU.keep qH4 nAH.symm
          have qZ5 := hU.keep qZ4 hAZ.symm
          have hB5 := hU.low hB4 hB4.size bA
          clear HP
          go_wp2_with fail
          go_roundw
          case rel =>
            refine ⟨3, by omega, by go_num, by rw [HN.out], by rw [HN.out], hU2.low hB5 hB5.size bG, hU2.keep qZ5 nZG, ?_, ?_, ?_⟩
            · rw [HN.out]; exact hU2.keep qA5 nAG
            · rw [ho1]; exact hU2.keep qH5 nHG
            · rw [HN.out]; exact hU2.here
          case measure => simp [intOf]
        · have HN : Hid (sj 3 = sj 2) := by show _ = _; rw [HS3'.out, if_neg hon]
          have hcc : h2 = false ∨ (h2 = true ∧ (sj 2).m = false) := by
            cases hh : h2
            · exact .inl rfl
            · refine .inr ⟨rfl, ?_⟩
              cases hmm : (sj 2).m
              · rfl
              · exact absurd ⟨hh, hmm⟩ hon
          clear hon
          rcases hcc with ho1 | ⟨ho1, ho2⟩
          · rw [ho1] at f2
            go_wp2_with fail
            go_roundw
            case rel => exact ⟨3, by omega, by go_num, by rw [HN.out], by rw [HN.out], hb, qZ, by rw [HN.out]; exact qA, qH, by rw [HN.out]; exact qG⟩
            case measure => simp [intOf]
          · rw [ho1] at f2
            rw [ho2]
            go_wp2_with fail
            go_roundw
            case rel => exact ⟨3, by omega, by go_num, by rw [HN.out], by rw [HN.out, ho2], hb, qZ, by rw [HN.out]; exact qA, qH, by rw [HN.out]; exact qG⟩
            case measure => simp [intOf]
      · have a0 := cells_at qA 0 _ rfl
        have a1 := cells_at qA 1 _ rfl
        have a2 := cells_at qA 2 _ rfl
        have a3 := cells_at qA 3 _ rfl
        have z0 := cells_at qZ 0 _ rfl
        have z1 := cells_at qZ 1 _ rfl
        have z2 := cells_at qZ 2 _ rfl
        have z3 := cells_at qZ 3 _ rfl
        have zf0 := frozen_at qZ 0
        have zf1 := frozen_at qZ 1
        have zf2 := frozen_at qZ 2
        have zf3 := frozen_at qZ 3
        have hE := eq3 (sj 3).b0 (sj 3).b1 (sj 3).b2 h0 h1 h2
        have Hrd2 : Hid (rdB l = (((sj 3).b0 == h0 && (sj 3).b1 == h1 && (sj 3).b2 == h2) && !(sj 3).m)) := by
          show _ = _
          rw [Hrd.out, decide_eq_true (show (kn : Int) ≠ 0 by omega), Bool.true_and]
        clear Hrd
        generalize ((sj 3).b0 == h0 && (sj 3).b1 == h1 && (sj 3).b2 == h2) = E at *
        generalize (sj 3).b0 = x0 at *
        generalize (sj 3).b1 = x1 at *
        generalize (sj 3).b2 = x2 at *
        generalize (sj 3).m = mm at *
        generalize (sj 3).n = nn at *
        generalize (sj 3).p = pp at *
        generalize (sj 3).r = rr at *
        generalize (⟨(sj 3).t.toArray⟩ : ByteArray) = tt at *
        clear HS1' HS2' HS3' HS0 HR0 hLj hLe
        have hUU := (((((Upd.refl qZ).setCell 0 (.int .i64 kn)).setCell 1 (.int .i64 nn)).setCell 2 (.int .i64 pp)).setCell 3 (.string tt)).drew
        have hBU := hUU.low hb hb.size (Nat.le_refl _)
        cases E
        · go_wp2_with fail
          go_region
          all_goals
            go_wp2_with fail
            refine bodyPost_ret (v := .tuple #[.agg #[.int .i64 kn, .int .i64 nn, .int .i64 pp, .string tt], .bool false]) (results_two (fn := Tryd.f29) (p := 2) (q := 3) (ty := 30) rfl _ _ w.heap.size 30 _ (0, 0) _ (.bool false) ⟨rfl, rfl⟩ hUU.here Tryd.underlying30 rfl sAct) rfl ⟨⟨⟨kn, nn, pp, tt⟩, by rw [Hrd2.out]; simp, fun _ => HrV.out.symm⟩, hBU⟩
        · go_wp2_with fail
          go_region
          all_goals
            go_wp2_with fail
            refine bodyPost_ret (v := .tuple #[.agg #[.int .i64 kn, .int .i64 nn, .int .i64 pp, .string tt], .bool (!mm)]) (results_two (fn := Tryd.f29) (p := 2) (q := 3) (ty := 30) rfl _ _ w.heap.size 30 _ (0, 0) _ (.bool (!mm)) ⟨rfl, rfl⟩ hUU.here Tryd.underlying30 rfl sAct) rfl ⟨⟨⟨kn, nn, pp, tt⟩, by rw [Hrd2.out]; simp, fun _ => HrV.out.symm⟩, hBU⟩
end Go.Proofs.YtnpkpkknbflacaaDoor
