/- lines.Read: for every text. -/
import Derived.Test.YtnpkpkknbflacaaDoorLnR5
import Derived.Test.YtnpkpkknbflacaaDoorLnL
namespace Go.Proofs.YtnpkpkknbflacaaDoor
open Go.RowKit

/-- P9.3: the acts of lines, and the error of the first line that is wrong. -/
def rdAll : Nat → Nat → List UInt8 → List AV × Int
  | 0, _, _ => ([], 0)
  | f + 1, k, l => if l = [] then ([], 0) else if nextE k (bfC 10 l) (hasC 10 l) ≠ 0 then ([], nextE k (bfC 10 l) (hasC 10 l)) else (rdV (bfC 10 l) :: (rdAll f (k + 1) (afC 10 l)).1, (rdAll f (k + 1) (afC 10 l)).2)
def readR (l : List UInt8) : List AV × Int := rdAll (l.length + 1) 0 l
def readAs (l : List UInt8) : List AV := if (readR l).2 = 0 then (readR l).1 else []
def readP (l : List UInt8) : Int := if (readR l).2 = 0 then 0 else ((readR l).1.length : Int)
def readE (l : List UInt8) : Int := (readR l).2
set_option maxRecDepth 100000 in
theorem afC_lt {c : UInt8} {l : List UInt8} (h : hasC c l = true) : (afC c l).length < l.length := by
  rcases cut_cases c l with ⟨_, h2, _⟩ | ⟨o, _, h2, _, _, h5⟩
  · rw [h2] at h; cases h
  · rw [h5, List.length_drop]; omega
set_option maxRecDepth 100000 in
theorem next_has {k : Nat} {l : List UInt8} {b : Bool} (h : nextE k l b = 0) : k < 3000 ∧ b = true ∧ rdB l = true ∧ (rdV l).e = 0 := by
  unfold nextE at h
  split at h
  · cases h
  · split at h
    · cases h
    · rename_i h1 h2
      split at h
      · cases h
      · rename_i h3
        exact ⟨by omega, eq_true_of_ne_false h2, eq_true_of_ne_false h3, h⟩
def strSz : Value → Nat
  | .string b => b.size
  | _ => 0
/-- What Read leaves. -/
structure IsRead (w w' : World) (e : Ending) (l : List UInt8) : Prop where
  out : ∃ v, e = .returned (.tuple #[v, .int .i64 (readP l), .int .i64 (readE l)]) ∧ w'.ownsRow w.heap.size 30 4 v (readAs l).length (avs (readAs l))
  below : Below w.heap.size w w'
set_option maxRecDepth 100000 in
set_option maxHeartbeats 4000000 in
theorem read_any (s : ByteArray) (w : World) (hs : s.size ≤ 140737488355328) (hT : LTabs w) :
    Calls Tryd.prog 13 #[.string s] w fun e w' => IsRead w w' e s.data.toList := by
  have hlen : s.data.toList.length = s.size := Array.length_toList
  go_enter Tryd.func13, Tryd.ntmps13
  go_wp2_with fail
  go_loopw [0, 5] (fun x v wr => ∃ (k f : Nat) (r : List UInt8) (ac : List AV), k ≤ 3000 ∧ x = .string ⟨r.toArray⟩ ∧ r.length ≤ s.size ∧ r.length < f ∧ Hid (ac.length = k) ∧ Below w.heap.size w wr ∧ wr.ownsRow w.heap.size 30 4 v k (avs ac) ∧ Hid (readR s.data.toList = (ac ++ (rdAll f k r).1, (rdAll f k r).2))) (fun x _ _ => strSz x)
  case atStart => exact ⟨0, s.data.toList.length + 1, s.data.toList, [], by omega, by simp, by omega, by omega, rfl, Below.refl _ _, World.ownsRow_nil _ _ _ _, by show _ = _; simp [readR]⟩
  case round =>
    obtain ⟨k, f, r, ac, hk, rfl, hrl, hrf, hal, hb, ho, hR⟩ := hrel
    by_cases hr : r = []
    · subst hr
      have h1 : Hid (readE s.data.toList = 0 ∧ readP s.data.toList = 0 ∧ readAs s.data.toList = ac) := by
        show _ ∧ _ ∧ _
        have e : rdAll f k [] = ([], 0) := by cases f <;> simp [rdAll]
        have hR' := hR.out
        rw [e] at hR'
        simp at hR'
        unfold readE readP readAs
        rw [hR']
        simp
      have ho2 : Hid (wr.ownsRow w.heap.size 30 4 u5 (readAs s.data.toList).length (avs (readAs s.data.toList))) := by
        show World.ownsRow _ _ _ _ _ _ _
        rw [h1.out.2.2, hal.out]
        exact ho
      go_wp2_with fail
      go_ret3
      exact ⟨⟨_, by rw [h1.out.1, h1.out.2.1]; rfl, ho2.out⟩, hb⟩
    · obtain ⟨f', rfl⟩ : ∃ f', f = f' + 1 := ⟨f - 1, by omega⟩
      have hne : r.isEmpty = false := by
        cases r with
        | nil => exact absurd rfl hr
        | cons a r => rfl
      have hstep : Hid (rdAll (f' + 1) k r = if nextE k (bfC 10 r) (hasC 10 r) ≠ 0 then ([], nextE k (bfC 10 r) (hasC 10 r)) else (rdV (bfC 10 r) :: (rdAll f' (k + 1) (afC 10 r)).1, (rdAll f' (k + 1) (afC 10 r)).2)) := by show _ = _; rw [rdAll, if_neg hr]
      have HC := cut_any ⟨r.toArray⟩ 10 wr (by rw [mk_size]; unfold maxLen; omega)
      rw [mk_list] at HC
      have hbl := bfC_le 10 r
      have hal2 := afC_le 10 r
      have hhs : Hid (hasC 10 r = true → (afC 10 r).length < r.length) := afC_lt
      clear hr
      obtain ⟨sa, cap, hv, hn, hm⟩ : ∃ sa cap, u5 = .slice sa k cap ∧ k = ac.length ∧ k ≤ 3000 := by
        rcases ho.2 with ⟨rfl, hn⟩ | ⟨g, cap, cur, rfl, _⟩
        · subst hn; exact ⟨none, 0, rfl, hal.out.symm, hk⟩
        · exact ⟨_, cap, rfl, hal.out.symm, hk⟩
      clear hn hm
      subst hv
      generalize bfC 10 r = X at *
      generalize afC 10 r = Y at *
      generalize hasC 10 r = b at *
      go_wp2_with fail
      refine HC.mono ?_
      rintro e w1 ⟨he, hb1⟩
      subst he
      dsimp only
      have hB1 := hb.trans (hb1.mono hb.size)
      have HX := readNext_any k ⟨X.toArray⟩ b w1 (by omega) (by rw [mk_size]; omega) (hT.below hB1)
      rw [mk_list] at HX
      have ho1 := owns_keep ho hb1
      clear HC
      go_wp2_with fail
      refine HX.mono ?_
      rintro e w2 ⟨⟨a, he, hav⟩, hb2⟩
      subst he
      dsimp only
      have hB2 := hB1.trans (hb2.mono hB1.size)
      have ho2 := owns_keep ho1 hb2
      have hnx : Hid (nextE k X b = 0 → k < 3000 ∧ b = true ∧ rdB X = true ∧ (rdV X).e = 0) := next_has
      generalize nextE k X b = E at *
      clear HX
      by_cases hE : E = 0
      · obtain ⟨n1, n2, _, _⟩ := hnx.out hE
        have hR2 : Hid (readR s.data.toList = ((ac ++ [a]) ++ (rdAll f' (k + 1) Y).1, (rdAll f' (k + 1) Y).2)) := by
          show _ = _
          rw [hR.out, hstep.out, if_neg (by simp [hE]), ← hav hE]
          simp
        have hYl := hhs.out n2
        subst hE
        clear hR hstep hav hnx
        have hB3 := hB2.alloc hB2.size (.cells #[.int .i64 a.k, .int .i64 a.n, .int .i64 a.p, .string a.t] 30)
        have q1 : ((w2.alloc (.cells #[.int .i64 a.k, .int .i64 a.n, .int .i64 a.p, .string a.t] 30)).alloc (.cells #[.int .i64 a.k, .int .i64 a.n, .int .i64 a.p, .string a.t] 30)).heap[w2.heap.size + 1]? = some (.cells a.cs.toArray 30 (0, 0)) := heap_new_at _ _ _ (by simp)
        go_wp2_with (at_builtin; refine wpList_append_act rfl _ _ rfl w.heap.size _ k ac rfl ((ho2.alloc _).alloc _) (w2.heap.size + 1) a rfl q1 (by omega) (by have := hB2.size; simp; omega) ?_)
        intro v' w3 ho3 hg3
        go_wp2_with fail
        go_roundw
        case rel =>
          refine ⟨k + 1, f', Y, ac ++ [a], by omega, rfl, by omega, by omega, by show _ = _; rw [List.length_append, hal.out]; rfl, ?_, ho3, hR2⟩
          exact (hB3.alloc (by have := hB2.size; simp; omega) _).trans (hg3.below (by have := hB2.size; simp; omega) (fun q e => (ho2.lt q e).1))
        case measure =>
          simp only [strSz, mk_size]
          exact hYl
      · have hEb : (E != 0) = true := by simp [hE]
        have h1 : Hid (readE s.data.toList = E ∧ readP s.data.toList = k ∧ readAs s.data.toList = []) := by
          show _ ∧ _ ∧ _
          have hR' := hR.out
          rw [hstep.out, if_pos hE] at hR'
          simp at hR'
          unfold readE readP readAs
          rw [hR']
          simp [hE, hal.out]
        have ho9 : Hid (w2.ownsRow w.heap.size 30 4 (.slice none 0 0) (readAs s.data.toList).length (avs (readAs s.data.toList))) := by
          show World.ownsRow _ _ _ _ _ _ _
          rw [h1.out.2.2]
          exact World.ownsRow_nil _ _ _ _
        have hA9 : Below w.heap.size w (w2.alloc (.cells #[.int .i64 a.k, .int .i64 a.n, .int .i64 a.p, .string a.t] 30)) := hB2.alloc hB2.size _
        have Ho : Hid ((w2.alloc (.cells #[.int .i64 a.k, .int .i64 a.n, .int .i64 a.p, .string a.t] 30)).ownsRow w.heap.size 30 4 (.slice none 0 0) (readAs s.data.toList).length (avs (readAs s.data.toList))) := owns_keep ho9.out ((Below.refl w2.heap.size w2).alloc (Nat.le_refl _) (.cells #[.int .i64 a.k, .int .i64 a.n, .int .i64 a.p, .string a.t] 30))
        clear hR hstep hav hnx
        go_wp2_with fail
        go_ret3
        exact ⟨⟨_, by rw [h1.out.1, h1.out.2.1]; rfl, Ho.out⟩, hA9⟩
end Go.Proofs.YtnpkpkknbflacaaDoor
