/- The document's ActsOf. -/
import Derived.Test.YtnpkpkknbflacaaDoorLrF
namespace Go.Proofs.YtnpkpkknbflacaaDoor
open Go.RowKit

set_option maxRecDepth 100000 in
theorem bfC_noC (c : UInt8) (l : List UInt8) : noC c (bfC c l) := by
  unfold bfC
  induction l with
  | nil => intro b hb; simp at hb
  | cons a l ih =>
    rw [List.takeWhile_cons]
    by_cases h : (a != c) = true
    · rw [if_pos h]
      intro b hb
      rcases List.mem_cons.1 hb with rfl | hb
      · simpa using h
      · exact ih b hb
    · rw [if_neg h]
      intro b hb
      cases hb
set_option maxRecDepth 100000 in
theorem cut_len (c : UInt8) (l : List UInt8) : l.length = (bfC c l).length + (if hasC c l = true then 1 + (afC c l).length else 0) := by
  have := congrArg List.length (cut_join c l)
  rw [List.length_append] at this
  split at this
  · rename_i h; rw [if_pos h, this, List.length_cons]; omega
  · rename_i h; rw [if_neg h, this]; rfl
set_option maxRecDepth 100000 in
theorem cut_take (c : UInt8) (l : List UInt8) : l.take (bfC c l).length = bfC c l := by
  have h := cut_join c l
  generalize bfC c l = x at *
  rw [h, List.take_left]
set_option maxRecDepth 100000 in
theorem cut_drop (c : UInt8) (l : List UInt8) (hh : hasC c l = true) : l.drop ((bfC c l).length + 1) = afC c l := by
  have h := cut_join c l
  rw [if_pos hh] at h
  generalize bfC c l = x at *
  generalize afC c l = y at *
  rw [h, ← List.drop_drop, List.drop_left]
  rfl
set_option maxRecDepth 100000 in
theorem cut_get (c : UInt8) (l : List UInt8) (hh : hasC c l = true) : l[(bfC c l).length]? = some c := by
  have h := cut_join c l
  rw [if_pos hh] at h
  generalize bfC c l = x at *
  generalize afC c l = y at *
  rw [h, List.getElem?_append_right (Nat.le_refl _), Nat.sub_self]
  rfl
set_option maxRecDepth 100000 in
theorem cut_before (c : UInt8) (l : List UInt8) (j : Nat) (hj : j < (bfC c l).length) (b : UInt8) (hb : l[j]? = some b) : b ≠ c := by
  have h := cut_join c l
  have hn := bfC_noC c l
  generalize bfC c l = x at *
  rw [h, List.getElem?_append_left hj] at hb
  exact hn b (List.mem_of_getElem? hb)
set_option maxRecDepth 100000 in
theorem e_cap (k n p : Int) (t : Nat) : actF k (cap n) (cap p) t = actF k n p t := by
  by_cases hn : n ≤ 1000000
  · have e1 : cap n = n := if_pos hn
    by_cases hp : p ≤ 1000000
    · have e2 : cap p = p := if_pos hp
      rw [e1, e2]
    · have e2 : cap p = 1000000 := if_neg hp
      rw [e1, e2]
      unfold actF
      by_cases g : k < 1 ∨ 10 < k
      · rw [if_pos g, if_pos g]
      · rw [if_neg g, if_neg g]
        by_cases g2 : n < 0 ∨ 4 ≤ n
        · rw [if_pos g2, if_pos g2]
        · rw [if_neg g2, if_neg g2, if_pos (by omega), if_pos (by omega)]
  · have e1 : cap n = 1000000 := if_neg hn
    rw [e1]
    unfold actF
    by_cases g : k < 1 ∨ 10 < k
    · rw [if_pos g, if_pos g]
    · rw [if_neg g, if_neg g, if_pos (by omega), if_pos (by omega)]
set_option maxRecDepth 100000 in
theorem cap_small {k n p : Int} {t : Nat} (h : actF k n p t = 0) : cap n = n ∧ cap p = p := by
  unfold actF at h
  split at h
  · cases h
  · split at h
    · cases h
    · split at h
      · cases h
      · exact ⟨if_pos (by omega), if_pos (by omega)⟩
set_option maxRecDepth 100000 in
/-- What a line that was read has: nothing that its kind has not. -/
theorem rdV_plain (l : List UInt8) (h : rdB l = true) : (1 ≤ (rdV l).k ∧ (rdV l).k ≤ 10) ∧ (hN (rdV l).k = false → (rdV l).n = 0) ∧ (hP (rdV l).k = false → (rdV l).p = 0) ∧ (hT (rdV l).k = false → (rdV l).t = ⟨#[]⟩) := by
  have hk : (rdV l).k = kindL (bfC 32 l) := rfl
  have hk0 : kindL (bfC 32 l) ≠ 0 := by
    intro e
    rw [rdB] at h
    simp [e] at h
  obtain ⟨_, h3⟩ := line_all l hk0
  obtain ⟨g1, g2, g3⟩ := h3 h
  rw [hk]
  have c0 : ∀ x, cap x = 0 → x = 0 := by intro x hx; unfold cap at hx; split at hx <;> omega
  refine ⟨?_, fun e => ?_, fun e => ?_, fun e => ?_⟩
  · rcases kindL_bounds (bfC 32 l) with g | g
    · exact absurd g hk0
    · exact ⟨g.1, g.2.1⟩
  · rw [e] at g1; exact c0 _ (by rw [← g1]; rfl)
  · rw [e] at g2; exact c0 _ (by rw [← g2]; rfl)
  · rw [e] at g3; rw [g3]; rfl
set_option maxRecDepth 100000 in
set_option maxHeartbeats 4000000 in
theorem actsOf_any (s : ByteArray) (w : World) (hs : s.size ≤ 1048576) :
    Calls Tryd.prog 14 #[.string s] w fun e w' => IsRead w w' e s.data.toList := by
  have hlen : s.data.toList.length = s.size := Array.length_toList
  go_enter Tryd.func14, Tryd.ntmps14
  go_wp2_with fail
  go_loopw [6, 7, 5] (fun x y v wr => ∃ (k f g : Nat) (ac : List AV), k ≤ 3000 ∧ x = .int .i64 f ∧ y = .int .i64 k ∧ f ≤ s.size ∧ s.size - f < g ∧ Hid (ac.length = k) ∧ Below w.heap.size w wr ∧ wr.ownsRow w.heap.size 30 4 v k (avs ac) ∧ Hid (readR s.data.toList = (ac ++ (rdAll g k (s.data.toList.drop f)).1, (rdAll g k (s.data.toList.drop f)).2))) (fun x _ _ _ => s.size - (intOf x).toNat)
  case atStart => exact ⟨0, 0, s.size + 1, [], by omega, rfl, rfl, by omega, by omega, rfl, Below.refl _ _, World.ownsRow_nil _ _ _ _, by show _ = _; simp [readR]⟩
  case round =>
    obtain ⟨k, f, g, ac, hk, rfl, rfl, hf, hg, hal, hb, ho, hR⟩ := hrel
    by_cases hlt : f < s.size
    · have hltI : (f : Int) < s.size := by omega
      obtain ⟨g', rfl⟩ : ∃ g', g = g' + 1 := ⟨g - 1, by omega⟩
      have hne : ¬ s.data.toList.drop f = [] := by
        intro e
        have := congrArg List.length e
        rw [List.length_drop, hlen] at this
        simp at this
        omega
      have hstep : Hid (rdAll (g' + 1) k (s.data.toList.drop f) = if nextE k (bfC 10 (s.data.toList.drop f)) (hasC 10 (s.data.toList.drop f)) ≠ 0 then ([], nextE k (bfC 10 (s.data.toList.drop f)) (hasC 10 (s.data.toList.drop f))) else (rdV (bfC 10 (s.data.toList.drop f)) :: (rdAll g' (k + 1) (afC 10 (s.data.toList.drop f))).1, (rdAll g' (k + 1) (afC 10 (s.data.toList.drop f))).2)) := by show _ = _; rw [rdAll, if_neg hne]
      clear hne
      have hL := cut_len 10 (s.data.toList.drop f)
      rw [List.length_drop, hlen] at hL
      have hTk := cut_take 10 (s.data.toList.drop f)
      have hDr := cut_drop 10 (s.data.toList.drop f)
      have hGt := cut_get 10 (s.data.toList.drop f)
      have hBf := cut_before 10 (s.data.toList.drop f)
      rw [List.drop_drop] at hDr
      simp only [List.getElem?_drop] at hGt hBf
      generalize hX : bfC 10 (s.data.toList.drop f) = X at *
      generalize afC 10 (s.data.toList.drop f) = Y at *
      generalize hasC 10 (s.data.toList.drop f) = b at *
      obtain ⟨E, hE⟩ : ∃ E, E = f + X.length := ⟨_, rfl⟩
      have hEx : s.extract f E = ba X := by
        rw [ext_mid, hE, Nat.add_sub_cancel_left, hTk]
      rw [show f + (X.length + 1) = E + 1 by omega] at hDr
      rw [← hE] at hGt
      have hEle : E ≤ s.size := by omega
      have hfE : f ≤ E := by omega
      have hXl : X.length ≤ s.size := by omega
      have HIn : Hid (∀ e (h : e < s.size), f ≤ e → e < E → s[e] ≠ 10) := fun e h h1 h2 => by
        have h3 := hBf (e - f) (by omega) s[e] (by rw [show f + (e - f) = e by omega, List.getElem?_eq_getElem (by rw [hlen]; exact h)]; rfl)
        exact h3
      have HAt : Hid (b = true → ∃ h : E < s.size, s[E] = 10) := fun h => by
        have h1 := hGt h
        have h2 : E < s.data.toList.length := by
          rcases Nat.lt_or_ge E s.data.toList.length with g | g
          · exact g
          · rw [List.getElem?_eq_none g] at h1; cases h1
        rw [List.getElem?_eq_getElem h2] at h1
        rw [hlen] at h2
        exact ⟨h2, Option.some.inj h1⟩
      have HNo : Hid (b = false → E = s.size) := fun h => by rw [h] at hL; simp at hL; omega
      have HDr : Hid _ := hDr
      clear hL hTk hDr hGt hBf hX hE hlen
      go_upto_block 2 with fail
      go_cut [8] from 12 to 61 (fun v wx => v = .int .i64 E ∧ wx = wr)
      case first =>
        go_wp2_with fail
        go_loop [8] (fun v => ∃ e : Nat, f ≤ e ∧ e ≤ E ∧ v = .int .i64 e) (fun v => s.size - (intOf v).toNat)
        case atStart => exact ⟨f, by omega, hfE, rfl⟩
        case round =>
          obtain ⟨e, h1, h2, rfl⟩ := hrel
          by_cases he : e < E
          · have hes : e < s.size := by omega
            have hesI : (e : Int) < s.size := by omega
            have hix : ∀ w : World, (Instr.index 9 (.string s) (.int .i64 (e : Int))).run Tryd.prog w = .ok (.int .u8 (s[e].toNat : Int)) w := by
              intro w
              have e' : s[e]? = some s[e] := getElem?_pos s e hes
              simp [Instr.index, asIntOf, e']
            have hcb : ((s[e].toNat : Int) == 10) = false := by
              rw [beq_eq_false_iff_ne]
              intro x
              exact HIn.out e hes h1 he (UInt8.toNat_inj.1 (by have : (10 : UInt8).toNat = 10 := rfl; omega))
            have hcn : ((s[e].toNat : Int) != 10) = true := by rw [bne, hcb]; rfl
            generalize (s[e].toNat : Int) = c at *
            go_wp2_with fail
            go_round
            case rel => exact ⟨e + 1, by omega, by omega, by go_num⟩
            case measure => simp [intOf]; omega
          · obtain rfl : E = e := by omega
            cases b
            · have hes : E = s.size := HNo.out rfl
              have hesI : ¬ (E : Int) < s.size := by omega
              have Hes : Hid _ := hes
              clear hes
              go_wp2_with fail
              go_meet
              case rel => exact ⟨rfl, rfl⟩
            · obtain ⟨hes, hv⟩ := HAt.out rfl
              have hesI : (E : Int) < s.size := by omega
              have hix : ∀ w : World, (Instr.index 9 (.string s) (.int .i64 (E : Int))).run Tryd.prog w = .ok (.int .u8 10) w := by
                intro w
                have e' : s[E]? = some s[E] := getElem?_pos s E hes
                simp [Instr.index, asIntOf, e', hv]
              have hcb : ((s[E].toNat : Int) == 10) = true := by rw [hv]; rfl
              have hcn : ((s[E].toNat : Int) != 10) = false := by rw [bne, hcb]; rfl
              have hcv : (s[E].toNat : Int) = 10 := by rw [hv]; rfl
              clear hv
              go_wp2_with fail
              go_meet
              case rel => exact ⟨rfl, rfl⟩
      case rest =>
        obtain ⟨rfl, hwc⟩ := hcut
        obtain rfl : wr = _ := hwc.symm
        clear hwc HIn
        have hbad : ∀ e : Int, e ≠ 0 → nextE k X b = e → Hid (readE s.data.toList = e ∧ readP s.data.toList = k ∧ readAs s.data.toList = []) := by
          intro e he0 he
          show _ ∧ _ ∧ _
          have hR' := hR.out
          rw [hstep.out, he, if_pos he0] at hR'
          simp at hR'
          unfold readE readP readAs
          rw [hR']
          simp [he0, hal.out]
        apply_assumption
        by_cases hk3 : k = 3000
        · have hkI : ((k : Int) == 3000) = true := by simp; omega
          have h1 : Hid (readE s.data.toList = 1 ∧ readP s.data.toList = k ∧ readAs s.data.toList = []) := hbad _ (by decide) (by show nextE _ _ _ = _; unfold nextE; rw [if_pos (by omega)])
          have ho9 : Hid (wr.ownsRow w.heap.size 30 4 (.slice none 0 0) (readAs s.data.toList).length (avs (readAs s.data.toList))) := by
            show World.ownsRow _ _ _ _ _ _ _
            rw [h1.out.2.2]
            exact World.ownsRow_nil _ _ _ _
          clear hk3
          go_wp2_with fail
          go_ret3
          exact ⟨⟨_, by rw [h1.out.1, h1.out.2.1]; rfl, ho9.out⟩, hb⟩
        have hkI : ((k : Int) == 3000) = false := by rw [beq_eq_false_iff_ne]; omega
        have hk4 : ¬ 3000 ≤ k := by omega
        cases b
        · have hes : E = s.size := HNo.out rfl
          have hesI : ((E : Int) == s.size) = true := by simp [hes]
          have h1 : Hid (readE s.data.toList = 4 ∧ readP s.data.toList = k ∧ readAs s.data.toList = []) := hbad _ (by decide) (by show nextE _ _ _ = _; unfold nextE; rw [if_neg hk4, if_pos rfl])
          have ho9 : Hid (wr.ownsRow w.heap.size 30 4 (.slice none 0 0) (readAs s.data.toList).length (avs (readAs s.data.toList))) := by
            show World.ownsRow _ _ _ _ _ _ _
            rw [h1.out.2.2]
            exact World.ownsRow_nil _ _ _ _
          clear hes
          go_wp2_with fail
          go_ret3
          exact ⟨⟨_, by rw [h1.out.1, h1.out.2.1]; rfl, ho9.out⟩, hb⟩
        obtain ⟨hes, _⟩ := HAt.out rfl
        have hesI : ((E : Int) == s.size) = false := by rw [beq_eq_false_iff_ne]; omega
        have LA := lineAct_any (ba X) wr (by rw [ba_size]; omega)
        rw [ba_list2, ← hEx] at LA
        have hPl := rdV_plain X
        have hDrop : s.data.toList.drop (E + 1) = Y := HDr.out rfl
        have HDrop : Hid _ := hDrop
        clear hDrop hEx HAt HNo HDr
        go_wp2_with fail
        refine LA.mono ?_
        rintro e w1 ⟨⟨ak, an, ap, at', he, hav⟩, hb1⟩
        subst he
        dsimp only
        have hB1 := hb.trans (hb1.mono hb.size)
        have ho1 := owns_keep ho hb1
        clear LA
        generalize hrb : rdB X = rb at *
        cases rb
        · have hB2 : Below w.heap.size w (w1.alloc (.cells #[.int .i64 ak, .int .i64 an, .int .i64 ap, .string at'] 30)) := hB1.alloc hB1.size _
          have h1 : Hid (readE s.data.toList = 4 ∧ readP s.data.toList = k ∧ readAs s.data.toList = []) := hbad _ (by decide) (by show nextE _ _ _ = _; unfold nextE; rw [if_neg hk4, if_neg (by decide), hrb, if_pos rfl])
          have ho9 : Hid ((w1.alloc (.cells #[.int .i64 ak, .int .i64 an, .int .i64 ap, .string at'] 30)).ownsRow w.heap.size 30 4 (.slice none 0 0) (readAs s.data.toList).length (avs (readAs s.data.toList))) := by
            show World.ownsRow _ _ _ _ _ _ _
            rw [h1.out.2.2]
            exact World.ownsRow_nil _ _ _ _
          clear hrb hav hPl
          go_wp2_with fail
          go_ret3
          exact ⟨⟨_, by rw [h1.out.1, h1.out.2.1]; rfl, ho9.out⟩, hB2⟩
        obtain ⟨e1, e2, e3, e4⟩ := hav rfl
        obtain ⟨g1, g2, g3, g4⟩ := hPl rfl
        have FA := fun W => actFault_any ak an ap at' W (by rw [e1]; exact g1) (by rw [e1, e2]; intro h; rw [g2 h]; rfl) (by rw [e1, e3]; intro h; rw [g3 h]; rfl) (by rw [e1, e4]; exact g4)
        have hEc : actF ak an ap at'.size = (rdV X).e := by rw [e1, e2, e3, e4, e_cap]; rfl
        rw [hEc] at FA
        have hEq : Hid ((rdV X).e = 0 → (⟨ak, an, ap, at'⟩ : AV) = rdV X) := fun h => by
          obtain ⟨c1, c2⟩ := cap_small (h : actF (rdV X).k (rdV X).n (rdV X).p (rdV X).t.size = 0)
          rw [e1, e2, e3, e4, c1, c2]
        have hnx : nextE k X true = (rdV X).e := by unfold nextE; rw [if_neg hk4, if_neg (by decide), hrb, if_neg (by decide)]
        have hbad2 := fun h => hbad (rdV X).e h hnx
        have hgood : Hid ((rdV X).e = 0 → readR s.data.toList = ((ac ++ [rdV X]) ++ (rdAll g' (k + 1) Y).1, (rdAll g' (k + 1) Y).2)) := fun h => by
          rw [hR.out, hstep.out, hnx, if_neg (by simp [h])]
          simp
        clear hbad hPl hav e1 e2 e3 e4 g1 g2 g3 g4 hEc hR hstep hnx hrb
        have hB2 : Below w.heap.size w (w1.alloc (.cells #[.int .i64 ak, .int .i64 an, .int .i64 ap, .string at'] 30)) := hB1.alloc hB1.size _
        have ho2 := ho1.alloc (.cells #[.int .i64 ak, .int .i64 an, .int .i64 ap, .string at'] 30)
        have q1 := heap_alloc_new w1 (.cells #[.int .i64 ak, .int .i64 an, .int .i64 ap, .string at'] 30)
        go_wp2_with fail
        refine (FA _).mono ?_
        rintro e w2 ⟨he, hb2⟩
        subst he
        dsimp only
        have hB3 := hB2.trans (hb2.mono hB2.size)
        have ho3 := owns_keep ho2 hb2
        have q2 := (hb2.block _ (lt_of_heap q1)).trans q1
        clear FA q1
        have c0 := cells_at q2 0 _ rfl
        have c1 := cells_at q2 1 _ rfl
        have c2 := cells_at q2 2 _ rfl
        have c3 := cells_at q2 3 _ rfl
        by_cases hE0 : (rdV X).e = 0
        · have hG := hgood.out hE0
          rw [← hEq.out hE0] at hG
          have HG : Hid _ := hG
          rw [hE0]
          clear hG hgood hbad2 hEq
          have q3 := heap_alloc_new w2 (.cells (⟨ak, an, ap, at'⟩ : AV).cs.toArray 30)
          go_wp2_with (at_builtin; refine wpList_append_act rfl _ _ rfl w.heap.size _ k ac rfl (ho3.alloc _) w2.heap.size ⟨ak, an, ap, at'⟩ rfl q3 (by omega) (le_alloc hB3.size _) ?_)
          intro v' w3 ho4 hg4
          go_wp2_with fail
          go_roundw
          case rel =>
            refine ⟨k + 1, E + 1, g', ac ++ [⟨ak, an, ap, at'⟩], by omega, by go_num, by go_num, by omega, by omega, by show _ = _; rw [List.length_append, hal.out]; rfl, ?_, ho4, by rw [HDrop.out]; exact HG⟩
            exact (hB3.alloc hB3.size _).trans (hg4.below (le_alloc hB3.size _) (fun q e => (ho3.lt q e).1))
          case measure => simp [intOf]; omega
        · have h1 := hbad2 hE0
          have hEb : ((rdV X).e != 0) = true := by simp [hE0]
          have ho9 : Hid (w2.ownsRow w.heap.size 30 4 (.slice none 0 0) (readAs s.data.toList).length (avs (readAs s.data.toList))) := by
            show World.ownsRow _ _ _ _ _ _ _
            rw [h1.out.2.2]
            exact World.ownsRow_nil _ _ _ _
          clear hgood hbad2 hEq
          generalize (rdV X).e = ev at *
          go_wp2_with fail
          go_ret3
          exact ⟨⟨_, by rw [h1.out.1, h1.out.2.1]; rfl, ho9.out⟩, hB3⟩
    · obtain rfl : f = s.size := by omega
      have h1 : Hid (readE s.data.toList = 0 ∧ readP s.data.toList = 0 ∧ readAs s.data.toList = ac) := by
        show _ ∧ _ ∧ _
        have e : rdAll g k (s.data.toList.drop s.size) = ([], 0) := by
          rw [List.drop_of_length_le (by rw [hlen]; omega)]
          cases g <;> simp [rdAll]
        have hR' := hR.out
        rw [e] at hR'
        simp at hR'
        unfold readE readP readAs
        rw [hR']
        simp
      have ho2 : Hid (wr.ownsRow w.heap.size 30 4 u5 (readAs s.data.toList).length (avs (readAs s.data.toList))) := by
        show World.ownsRow _ _ _ _ _ _ _
        rw [h1.out.2.2, hal.out]
        exact ho
      go_wp2_with fail
      go_ret3
      exact ⟨⟨_, by rw [h1.out.1, h1.out.2.1]; rfl, ho2.out⟩, hb⟩
end Go.Proofs.YtnpkpkknbflacaaDoor
