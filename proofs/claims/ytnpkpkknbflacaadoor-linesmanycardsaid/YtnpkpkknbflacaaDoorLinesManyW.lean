/- LinesMany answers true for every argument. -/
import Derived.Test.YtnpkpkknbflacaaDoorLnM2
import Derived.Test.YtnpkpkknbflacaaDoorLinesJoinW
import Derived.Deep.CutRange
import Derived.Deep.CutBlock
import Derived.Deep.DeepCutAuto
namespace Go.Proofs.YtnpkpkknbflacaaDoor
open Go.RowKit

def Fl : AV := ⟨10, 0, 0, ⟨#[]⟩⟩
set_option maxRecDepth 100000 in
theorem fl_ok : Fl.e = 0 := ok_of 10 0 0 ⟨#[]⟩ (by omega) (by omega) (by omega) (by decide) (fun _ => rfl) (fun _ => rfl) (fun _ => rfl)
def flowT (m : Nat) : List UInt8 := (List.replicate m Fl).flatMap AV.line
set_option maxRecDepth 100000 in
theorem fl_line : Fl.line = [102, 108, 111, 119, 10] := by rfl
set_option maxRecDepth 100000 in
theorem flowT_succ (m : Nat) : flowT (m + 1) = flowT m ++ [102, 108, 111, 119, 10] := by
  unfold flowT
  rw [List.replicate_succ', List.flatMap_append]
  simp [fl_line]
set_option maxRecDepth 100000 in
theorem flowT_add (a b : Nat) : flowT (a + b) = flowT a ++ flowT b := by
  induction b with
  | zero => simp [flowT]
  | succ b ih => rw [← Nat.add_assoc, flowT_succ, flowT_succ, ih, List.append_assoc]
set_option maxRecDepth 100000 in
theorem flowT_len (m : Nat) : (flowT m).length = 5 * m := by
  induction m with
  | zero => rfl
  | succ m ih => rw [flowT_succ, List.length_append, ih]; simp; omega
set_option maxRecDepth 100000 in
theorem fl_all (m : Nat) : ∀ a ∈ List.replicate m Fl, a.e = 0 := fun a ha => by rw [(List.mem_replicate.1 ha).2]; exact fl_ok
set_option maxRecDepth 100000 in
theorem flow_show (m : Nat) : (m ≤ 3000 → showE (List.replicate m Fl) = 0 ∧ showP (List.replicate m Fl) = 0 ∧ showT (List.replicate m Fl) = flowT m) ∧ (3000 < m → showE (List.replicate m Fl) = 1 ∧ showP (List.replicate m Fl) = 0 ∧ showT (List.replicate m Fl) = []) := by
  constructor
  · intro h
    exact show_ok _ (fl_all m) (by simpa using h)
  · intro h
    refine ⟨?_, ?_, ?_⟩
    · rw [showE, if_pos (by simpa using h)]
    · rw [showP, if_pos (by simpa using h)]
    · rw [showT, if_pos (by simpa using h)]
set_option maxRecDepth 100000 in
theorem flow_read (m : Nat) : (m ≤ 3000 → readE (flowT m) = 0 ∧ readP (flowT m) = 0 ∧ readAs (flowT m) = List.replicate m Fl) ∧ (3000 < m → readE (flowT m) = 1 ∧ readP (flowT m) = 3000 ∧ readAs (flowT m) = []) := by
  constructor
  · intro h
    exact read_line _ (fl_all m) (by simpa using h)
  · intro h
    obtain ⟨d, rfl⟩ : ∃ d, m = 3000 + (d + 1) := ⟨m - 3001, by omega⟩
    obtain ⟨f', g1, g2⟩ := rdAll_line (List.replicate 3000 Fl) ((flowT (3000 + (d + 1))).length + 1) 0 (flowT (d + 1)) (fl_all 3000) (by
      rw [List.length_append]
      show (flowT 3000).length + _ < _
      rw [flowT_len, flowT_len, flowT_len]
      omega) (by simp)
    obtain ⟨f, rfl⟩ : ∃ f, f' = f + 1 := ⟨f' - 1, by omega⟩
    have hne : flowT (d + 1) ≠ [] := by
      intro e
      have := congrArg List.length e
      rw [flowT_len] at this
      simp at this
    have e1 : rdAll (f + 1) (0 + (List.replicate 3000 Fl).length) (flowT (d + 1)) = ([], 1) := by
      rw [rdAll, if_neg hne, List.length_replicate]
      have hn : nextE (0 + 3000) (bfC 10 (flowT (d + 1))) (hasC 10 (flowT (d + 1))) = 1 := by rw [nextE, if_pos (by omega)]
      rw [hn, if_pos (by decide)]
    rw [e1] at g2
    have e2 : readR (flowT (3000 + (d + 1))) = (List.replicate 3000 Fl, 1) := by
      show rdAll _ 0 _ = _
      rw [flowT_add] at g2 ⊢
      rw [show flowT 3000 = (List.replicate 3000 Fl).flatMap AV.line from rfl]
      exact g2.trans (by rw [List.append_nil])
    unfold readE readP readAs
    rw [e2]
    refine ⟨rfl, ?_, ?_⟩
    · rw [if_neg (by decide), List.length_replicate]; rfl
    · rw [if_neg (by decide)]
/-- Acts of which so many are filled in. -/
def fillA (k j : Nat) : List AV := List.replicate j Fl ++ List.replicate (k - j) ⟨0, 0, 0, ⟨#[]⟩⟩
set_option maxRecDepth 100000 in
theorem fill_len (k j : Nat) (h : j ≤ k) : (fillA k j).length = k := by simp [fillA]; omega
set_option maxRecDepth 100000 in
theorem fill_split (k j : Nat) (h : j < k) : fillA k j = List.replicate j Fl ++ (⟨0, 0, 0, ⟨#[]⟩⟩ : AV) :: List.replicate (k - j - 1) ⟨0, 0, 0, ⟨#[]⟩⟩ ∧ fillA k (j + 1) = List.replicate j Fl ++ Fl :: List.replicate (k - j - 1) ⟨0, 0, 0, ⟨#[]⟩⟩ := by
  constructor
  · rw [fillA]
    obtain ⟨d, hd⟩ : ∃ d, k - j = d + 1 := ⟨k - j - 1, by omega⟩
    rw [hd, List.replicate_succ]
    simp
  · rw [fillA, List.replicate_succ', show k - (j + 1) = k - j - 1 by omega]
    simp
set_option maxRecDepth 100000 in
theorem fill_cell (k j : Nat) (h : j < k) : (avs (fillA k j)).toArray[j * 4]? = some (.int .i64 0) := by
  rw [(fill_split k j h).1, avs_append]
  have hl : (avs (List.replicate j Fl)).length = j * 4 := by rw [avs_length, List.length_replicate]; omega
  rw [List.getElem?_toArray, List.getElem?_append_right (by omega), hl, Nat.sub_self]
  rfl
set_option maxRecDepth 100000 in
theorem fill_set (k j : Nat) (h : j < k) : (avs (fillA k j)).toArray.setIfInBounds (j * 4) (.int .i64 10) = (avs (fillA k (j + 1))).toArray := by
  rw [(fill_split k j h).1, (fill_split k j h).2, avs_append, avs_append]
  have hl : (avs (List.replicate j Fl)).length = j * 4 := by rw [avs_length, List.length_replicate]; omega
  rw [List.setIfInBounds_toArray, List.set_append_right _ _ (by omega), hl, Nat.sub_self]
  rfl
set_option maxRecDepth 100000 in
theorem fill_zero (k : Nat) : (madeCells (Value.agg #[.int .i64 0, .int .i64 0, .int .i64 0, .string ⟨#[]⟩]).cells (k * 4)) = (avs (fillA k 0)).toArray := by
  have hl : (fillA k 0).length = k := fill_len k 0 (Nat.zero_le _)
  have hcs : (Value.agg #[.int .i64 0, .int .i64 0, .int .i64 0, .string ⟨#[]⟩]).cells = #[.int .i64 0, .int .i64 0, .int .i64 0, .string ⟨#[]⟩] := rfl
  rw [hcs]
  apply Array.ext_getElem?
  intro i
  by_cases hi : i < k * 4
  · have e1 : (madeCells #[.int .i64 0, .int .i64 0, .int .i64 0, .string ⟨#[]⟩] (k * 4))[i]? = some ((#[.int .i64 0, .int .i64 0, .int .i64 0, .string ⟨#[]⟩] : Array Value)[i % 4]!) := by
      simp [madeCells, hi]
    have hd : (fillA k 0).getD (i / 4) .z = ⟨0, 0, 0, ⟨#[]⟩⟩ := by
      have : i / 4 < k := by omega
      simp [fillA, List.getD, this]
    have e2 := avs_get (fillA k 0) (i / 4) (i % 4) (by rw [hl]; omega) (by omega)
    rw [show i / 4 * 4 + i % 4 = i by omega, hd] at e2
    rw [e1, List.getElem?_toArray, e2]
    have hr : i % 4 = 0 ∨ i % 4 = 1 ∨ i % 4 = 2 ∨ i % 4 = 3 := by omega
    rcases hr with h | h | h | h <;> rw [h] <;> rfl
  · rw [Array.getElem?_eq_none (by rw [size_madeCells]; omega), List.getElem?_toArray, List.getElem?_eq_none (by rw [avs_length, hl]; omega)]
set_option maxRecDepth 100000 in
theorem acts_of_row {w : World} {g : Nat} {l : List AV} (h : w.heap[g]? = some (.cells (avs l).toArray 30 (0, 0))) (ht : ∀ a ∈ l, a.t.size ≤ maxLen) : ActsAt w (some ⟨g, 0, none⟩) l := by
  refine ⟨.inr ⟨g, 0, rfl, fun j hj => ?_⟩, ht⟩
  have e : ∀ i, i < 4 → w.cell? ⟨g, j * 4 + i, none⟩ = (l.getD j .z).cs[i]? := fun i hi => by
    rw [cell_of_row w g (j * 4 + i) _ _ _ h, List.getElem?_toArray, avs_get l j i hj hi]
  simp only [Nat.zero_add]
  exact ⟨e 0 (by omega), e 1 (by omega), e 2 (by omega), e 3 (by omega)⟩
set_option maxRecDepth 100000 in
theorem str_cat (a b : List UInt8) : ((⟨a.toArray⟩ : ByteArray) ++ (⟨b.toArray⟩ : ByteArray)) = ⟨(a ++ b).toArray⟩ := by
  apply ba_ext
  rw [ByteArray.toList_eq, ByteArray.toList_eq, ByteArray.data_append]
  simp
set_option maxRecDepth 100000 in
theorem flow_cat (m : Nat) : ((⟨(flowT m).toArray⟩ : ByteArray) ++ (⟨#[102, 108, 111, 119, 10]⟩ : ByteArray)) = ⟨(flowT (m + 1)).toArray⟩ := by
  rw [flowT_succ]
  exact str_cat (flowT m) [102, 108, 111, 119, 10]
set_option maxRecDepth 100000 in
theorem fill_all (k : Nat) : fillA k k = List.replicate k Fl := by rw [fillA, Nat.sub_self]; simp
set_option maxRecDepth 100000 in
set_option maxHeartbeats 4000000 in
theorem linesMany_walk (n : Int) (w : World) (hn0 : -9223372036854775808 ≤ n) (hn1 : n ≤ 9223372036854775807) (hT : LTabs w) :
    Calls Tryd.prog 9 #[.int .i64 n] w fun e w' => e = .returned (.bool true) ∧ Below w.heap.size w w' := by
  obtain ⟨m0, m1⟩ := pk_bounds n 5 (by omega)
  have HP := fun w => picked_any n 5 w hn0 hn1 (by omega) (by omega)
  generalize pk n 5 = x at *
  obtain ⟨k, hk⟩ : ∃ k : Nat, 2998 + x = k := ⟨(2998 + x).toNat, by omega⟩
  have hk0 : 2998 ≤ k := by omega
  have hk1 : k ≤ 3002 := by omega
  obtain ⟨i, hi, hz0, hz1, hz2⟩ := info_parts infoA
  have hmk : ∀ w : World, (Instr.makeSlice 22 (.int .i64 (k : Int)) (.int .i64 (k : Int))).run Tryd.prog w = .ok (.slice (some ⟨w.heap.size, 0, none⟩) k k) (w.alloc (.cells (avs (fillA k 0)).toArray 30)) := by
    intro w
    have h := run_make (P := Tryd.prog) w 22 30 i _ Tryd.underlying22 hi hz0 .i64 .i64 (k : Int) (k : Int) (by omega) (Int.le_refl _) (by rw [hz2]; omega) (by omega)
    rw [← fill_zero]
    simpa [hz1] using h
  have hm := hmk w
  clear hmk
  go_enter Tryd.func9, Tryd.ntmps9
  go_wp2_with fail
  refine (HP _).mono ?_
  rintro e w1 ⟨he, rfl⟩
  subst he
  dsimp only
  have hB0 : Below w.heap.size w (w.alloc (.cells (avs (fillA k 0)).toArray 30)) := (Below.refl _ _).alloc (Nat.le_refl _) _
  have q0 := heap_alloc_new w (.cells (avs (fillA k 0)).toArray 30)
  have Hk : Hid (2998 + x = (k : Int)) := hk
  go_upto_block 0 with fail
  clear hm
  generalize w.alloc (.cells (avs (fillA k 0)).toArray 30) = W0 at *
  go_cut [5] (fun _ wc => Below w.heap.size w wc ∧ wc.heap[w.heap.size]? = some (.cells (avs (fillA k k)).toArray 30 (0, 0)))
  case first =>
    go_wp2_with fail
    go_loopw [5] (fun i wr => ∃ j : Nat, j ≤ k ∧ i = .int .i64 j ∧ Below w.heap.size w wr ∧ wr.heap[w.heap.size]? = some (.cells (avs (fillA k j)).toArray 30 (0, 0))) (fun i _ => k - (intOf i).toNat)
    case atStart => exact ⟨0, Nat.zero_le _, rfl, hB0, q0⟩
    case round =>
      obtain ⟨j, hj, rfl, hb, q⟩ := hrel
      by_cases hlt : j < k
      · have hltI : (j : Int) < k := by omega
        have c := cells_at q (j * 4) _ (fill_cell k j hlt)
        have f := frozen_at q (j * 4)
        have hU := (Upd.refl q).setCell (j * 4) (.int .i64 10)
        rw [fill_set k j hlt] at hU
        go_wp2_with fail
        go_roundw
        case rel => exact ⟨j + 1, by omega, by go_num, hU.below hb hb.size (Nat.le_refl _), hU.here⟩
        case measure => simp [intOf]; omega
      · obtain rfl : j = k := by omega
        go_wp2_with fail
        go_meet
        case rel => exact ⟨hb, q⟩
  case rest =>
    obtain ⟨hB1, q1⟩ := hcut
    rw [fill_all] at q1
    have HS := show_any (List.replicate k Fl) (some ⟨w.heap.size, 0, none⟩) k k wc (by simp) (by unfold maxLen; omega) (acts_of_row q1 (ok_text (fl_all k))) (hT.below hB1).s
    obtain ⟨fs1, fs2⟩ := flow_show k
    have HF1 : Hid _ := fs1
    have HF2 : Hid _ := fs2
    clear fs1 fs2
    generalize showE (List.replicate k Fl) = SE at *
    generalize showP (List.replicate k Fl) = SP at *
    generalize showT (List.replicate k Fl) = ST at *
    clear hB0 q0 hk
    go_wp2_with fail
    refine HS.mono ?_
    rintro e w2 ⟨he, hb2⟩
    subst he
    dsimp only
    clear HS
    have hB2 := hB1.trans (hb2.mono hB1.size)
    go_wp2_with fail
    go_loop [10, 9] (fun i t => ∃ j : Nat, j ≤ 10 ∧ i = .int .i64 j ∧ t = .string ⟨(flowT j).toArray⟩) (fun i _ => 10 - (intOf i).toNat)
    case atStart => exact ⟨0, Nat.zero_le _, rfl, rfl⟩
    case round =>
      obtain ⟨j, hj, rfl, rfl⟩ := hrel
      by_cases hlt : j < 10
      · have hltI : (j : Int) < 10 := by omega
        have hl := flowT_len j
        have hfit : ¬ 9223372036854775807 < (flowT j).length + 5 := by omega
        clear hl
        have Hcat : Hid _ := flow_cat j
        generalize flowT j = X at *
        go_wp2_with fail
        go_round
        case rel => exact ⟨j + 1, by omega, by go_num, by rw [← Hcat.out]⟩
        case measure => simp [intOf]; omega
      · obtain rfl : j = 10 := by omega
        go_wp2_with fail
        go_loop [9] (fun t => ∃ m : Nat, m ≤ k ∧ t = .string ⟨(flowT m).toArray⟩) (fun t => 5 * k - strSz t)
        case atStart => exact ⟨10, by omega, rfl⟩
        case round =>
          obtain ⟨m, hm, rfl⟩ := hrel
          have hlm := flowT_len m
          have hl10 := flowT_len 10
          by_cases hlt2 : m + 10 < k
          · have hltI : ((flowT m).length : Int) < 5 * ((k : Int) - 10) := by omega
            have hfit : ¬ 9223372036854775807 < (flowT m).length + (flowT 10).length := by omega
            have Hcat : Hid _ := str_cat (flowT m) (flowT 10)
            rw [← flowT_add] at Hcat
            have Hl : Hid _ := hlm
            have Hl2 : Hid _ := hl10
            clear hlm hl10
            generalize flowT m = X at *
            generalize flowT 10 = T at *
            go_wp2_with fail
            go_round
            case rel => exact ⟨m + 10, by omega, by rw [← Hcat.out]⟩
            case measure =>
              have := Hl.out
              have := Hl2.out
              show 5 * k - strSz (.string ((⟨X.toArray⟩ : ByteArray) ++ (⟨T.toArray⟩ : ByteArray))) < 5 * k - strSz (.string (⟨X.toArray⟩ : ByteArray))
              simp only [strSz, ByteArray.size_append, mk_size]; omega
          · have hltI : ¬ ((flowT m).length : Int) < 5 * ((k : Int) - 10) := by omega
            clear hlm hl10 hlt2
            go_wp2_with fail
            clear hltI
            go_loop [9] (fun t => ∃ m : Nat, m ≤ k ∧ t = .string ⟨(flowT m).toArray⟩) (fun t => 5 * k - strSz t)
            case atStart => exact ⟨m, hm, rfl⟩
            case round =>
              obtain ⟨a, ha, rfl⟩ := hrel
              have hlm := flowT_len a
              by_cases hlt2 : a < k
              · have hltI : ((flowT a).length : Int) < 5 * (k : Int) := by omega
                have hfit : ¬ 9223372036854775807 < (flowT a).length + 5 := by omega
                have Hcat : Hid _ := flow_cat a
                have Hl : Hid _ := hlm
                clear hlm
                generalize flowT a = X at *
                go_wp2_with fail
                go_round
                case rel => exact ⟨a + 1, by omega, by rw [← Hcat.out]⟩
                case measure =>
                  have := Hl.out
                  show 5 * k - strSz (.string ((⟨X.toArray⟩ : ByteArray) ++ (⟨#[102, 108, 111, 119, 10]⟩ : ByteArray))) < 5 * k - strSz (.string (⟨X.toArray⟩ : ByteArray))
                  simp only [strSz, ByteArray.size_append, mk_size, List.length_cons, List.length_nil]
                  omega
              · obtain rfl : k = a := by omega
                clear hlm ha hm hlt hj hlt2
                obtain ⟨fr1, fr2⟩ := flow_read k
                have HR := read_any ⟨(flowT k).toArray⟩ w2 (by rw [mk_size, flowT_len]; omega) (hT.below hB2)
                rw [show (⟨(flowT k).toArray⟩ : ByteArray).data.toList = flowT k by simp] at HR
                have hcc : k ≤ 3000 ∨ 3000 < k := by omega
                have hl := flowT_len k
                have hltI : ¬ ((flowT k).length : Int) < 5 * (k : Int) := by omega
                clear hl
                rcases hcc with hc | hc
                · obtain ⟨rfl, rfl, rfl⟩ := HF1.out hc
                  obtain ⟨r1, r2, r3⟩ := fr1 hc
                  have HR' : Calls Tryd.prog 13 #[.string ⟨(flowT k).toArray⟩] w2 fun e w' => ∃ p c, e = .returned (.tuple #[.slice p k c, .int .i64 0, .int .i64 0]) ∧ Below w2.heap.size w2 w' := by
                    refine HR.mono ?_
                    rintro e w' ⟨⟨v, he, ho⟩, hb⟩
                    rw [r1, r2] at he
                    rw [r3] at ho
                    obtain ⟨sa, cp, hv, _⟩ := acts_of_owns ho (ok_text (fl_all k))
                    rw [List.length_replicate] at hv
                    subst hv
                    exact ⟨sa, cp, he, hb⟩
                  clear fr1 fr2 HR r1 r2 r3 HF1 HF2
                  have hcI : ¬ (3000 : Int) < k := by omega
                  generalize flowT k = X at *
                  go_wp2_with fail
                  refine HR'.mono ?_
                  rintro e w3 ⟨sa, cp, he, hb3⟩
                  subst he
                  dsimp only
                  clear HR'
                  have hB3 := hB2.trans (hb3.mono hB2.size)
                  go_wp2_with fail
                  go_ret
                  exact ⟨rfl, hB3⟩
                · obtain ⟨rfl, rfl, rfl⟩ := HF2.out hc
                  obtain ⟨r1, r2, r3⟩ := fr2 hc
                  have HR' : Calls Tryd.prog 13 #[.string ⟨(flowT k).toArray⟩] w2 fun e w' => ∃ v, e = .returned (.tuple #[v, .int .i64 3000, .int .i64 1]) ∧ Below w2.heap.size w2 w' := by
                    refine HR.mono ?_
                    rintro e w' ⟨⟨v, he, ho⟩, hb⟩
                    rw [r1, r2] at he
                    exact ⟨v, he, hb⟩
                  clear fr1 fr2 HR r1 r2 r3 HF1 HF2
                  have hcI : (3000 : Int) < k := by omega
                  generalize flowT k = X at *
                  go_wp2_with fail
                  refine HR'.mono ?_
                  rintro e w3 ⟨v, he, hb3⟩
                  subst he
                  dsimp only
                  clear HR'
                  have hB3 := hB2.trans (hb3.mono hB2.size)
                  go_wp2_with fail
                  go_ret
                  exact ⟨rfl, hB3⟩
end Go.Proofs.YtnpkpkknbflacaaDoor
