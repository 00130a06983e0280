/- sheaveskeep.sameTexts, for every argument. -/
import Derived.Test.YtlpaghkofljnfaaDoorCastOnceM6
import Derived.Test.YtlpaghkofljnfaaDoorHOff
import Derived.Test.YtlpaghkofljnfaaDoorApp
import Derived.Test.YtlpaghkofljnfaaDoorSx
import Derived.Test.YtlpaghkofljnfaaDoorCastOnceM0
import Derived.Deep.RegionHeld3
namespace Go.Proofs.YtlpaghkofljnfaaDoor
open Go.RowKit

set_option maxRecDepth 100000 in
theorem tabTo_prefix (rs : List Rw) (k m : Nat) (h : k ≤ m) : ∃ e, tabTo rs m = tabTo rs k ++ e := by
  induction m with
  | zero => obtain rfl : k = 0 := by omega
            exact ⟨[], by simp⟩
  | succ m ih =>
    rcases Nat.lt_or_ge k (m + 1) with g | g
    · obtain ⟨e, he⟩ := ih (by omega)
      rw [tabTo]
      rcases stepT_or (tabTo rs m) (slotR (rwAt rs m)) with h1 | ⟨h1, _, _⟩
      · rw [h1]; exact ⟨e, he⟩
      · rw [h1, he]; exact ⟨e ++ [slotR (rwAt rs m)], by rw [List.append_assoc]⟩
    · obtain rfl : k = m + 1 := by omega
      exact ⟨[], by simp⟩
set_option maxRecDepth 100000 in
theorem findTo_has {l : List SV} {au rd : Int} {k m : Nat} (h : findTo l au rd k = some m) : m < k ∧ hit l au rd m = true ∧ ∀ j, j < m → hit l au rd j = false := by
  induction k with
  | zero => cases h
  | succ k ih =>
    rw [findTo] at h
    cases h1 : findTo l au rd k with
    | some n =>
      rw [h1] at h
      obtain rfl : n = m := by simpa using h
      obtain ⟨a, b, c⟩ := ih h1
      exact ⟨by omega, b, c⟩
    | none =>
      rw [h1] at h
      cases h2 : hit l au rd k with
      | false => rw [h2] at h; simp at h
      | true =>
        rw [h2] at h
        obtain rfl : k = m := by simpa using h
        exact ⟨by omega, h2, findTo_no h1⟩
/-- Are two raw things of one author and round? -/
def keyEq (r s : Rw) : Bool := decide (pk r.a 4 = pk s.a 4 ∧ 1 + pk r.b 9 = 1 + pk s.b 9)
def fstTo (rs : List Rw) (r : Rw) : Nat → Bool
  | 0 => true
  | k + 1 => fstTo rs r k && !keyEq (rwAt rs k) r
set_option maxRecDepth 100000 in
theorem fstTo_true {rs : List Rw} {r : Rw} {k : Nat} (h : fstTo rs r k = true) : ∀ j, j < k → keyEq (rwAt rs j) r = false := by
  induction k with
  | zero => intro j hj; omega
  | succ k ih =>
    rw [fstTo, Bool.and_eq_true] at h
    intro j hj
    rcases Nat.lt_or_ge j k with g | g
    · exact ih h.1 j g
    · obtain rfl : j = k := by omega
      simpa using h.2
set_option maxRecDepth 100000 in
theorem fstTo_false {rs : List Rw} {r : Rw} {k : Nat} (h : fstTo rs r k = false) : ∃ j, j < k ∧ keyEq (rwAt rs j) r = true := by
  induction k with
  | zero => cases h
  | succ k ih =>
    rw [fstTo, Bool.and_eq_false_iff] at h
    rcases h with h | h
    · obtain ⟨j, hj, e⟩ := ih h
      exact ⟨j, by omega, e⟩
    · exact ⟨k, by omega, by simpa using h⟩
set_option maxRecDepth 100000 in
theorem hit_mem {l : List SV} {au rd : Int} {s : SV} (hs : s ∈ l) (h : s.1 = au ∧ s.2.1 = rd) : ∃ p, p < l.length ∧ hit l au rd p = true := by
  obtain ⟨p, hp, rfl⟩ := List.getElem_of_mem hs
  exact ⟨p, hp, by rw [hit]; simp only [svAt, List.getD, hp, List.getElem?_eq_getElem, Option.getD_some]; exact decide_eq_true h⟩
set_option maxRecDepth 100000 in
theorem tabTo_keys (rs : List Rw) (k j : Nat) (hj : j < k) (hk : k ≤ 30) : ∃ p, p < (tabTo rs k).length ∧ hit (tabTo rs k) (pk (rwAt rs j).a 4) (1 + pk (rwAt rs j).b 9) p = true := by
  obtain ⟨e, he⟩ := tabTo_prefix rs (j + 1) k hj
  have h1 : ∃ p, p < (tabTo rs (j + 1)).length ∧ hit (tabTo rs (j + 1)) (pk (rwAt rs j).a 4) (1 + pk (rwAt rs j).b 9) p = true := by
    rw [tabTo]
    rcases castF_vals (tabTo rs j) (slotR (rwAt rs j)) with ⟨h, m, hm⟩ | h | h | ⟨h, h2, h3⟩
    · rw [stepT, h]
      simp only [if_true]
      obtain ⟨a, b, _⟩ := findTo_has hm
      exact ⟨m, a, b⟩
    · have hst : stepT (tabTo rs j) (slotR (rwAt rs j)) = tabTo rs j := by rw [stepT, h]; simp
      rw [hst]
      cases hf : findTo (tabTo rs j) (slotR (rwAt rs j)).1 (slotR (rwAt rs j)).2.1 (tabTo rs j).length with
      | none =>
        by_cases hl : 400 ≤ (tabTo rs j).length
        · rw [castF_full hf hl] at h; simp at h
        · rw [castF_new hf hl] at h; simp at h
      | some m =>
        obtain ⟨a, b, _⟩ := findTo_has hf
        exact ⟨m, a, b⟩
    · have hst : stepT (tabTo rs j) (slotR (rwAt rs j)) = tabTo rs j := by rw [stepT, h]; simp
      rw [hst]
      exfalso
      have hle := (tabTo_ok rs j).le
      cases hf : findTo (tabTo rs j) (slotR (rwAt rs j)).1 (slotR (rwAt rs j)).2.1 (tabTo rs j).length with
      | none =>
        by_cases hl : 400 ≤ (tabTo rs j).length
        · omega
        · rw [castF_new hf hl] at h; simp at h
      | some m =>
        by_cases q : txL (svAt (tabTo rs j) m).2.2 = txL (slotR (rwAt rs j)).2.2
        · rw [castF_same hf q] at h; simp at h
        · rw [castF_twice hf q] at h; simp at h
    · rw [stepT, h]
      simp only [if_true]
      exact hit_mem (List.mem_append_right _ (List.mem_singleton.2 rfl)) ⟨rfl, rfl⟩
  obtain ⟨p, hp, hh⟩ := h1
  rw [he]
  exact ⟨p, by simp; omega, by rw [hit_append _ e _ _ p hp]; exact hh⟩
set_option maxRecDepth 100000 in
/-- The first one of its author and round stands behind all that were there. -/
theorem tabTo_first {rs : List Rw} {k : Nat} (hk : k < 30) (h : fstTo rs (rwAt rs k) k = true) : findTo (tabTo rs k) (slotR (rwAt rs k)).1 (slotR (rwAt rs k)).2.1 (tabTo rs k).length = none ∧ tabTo rs (k + 1) = tabTo rs k ++ [slotR (rwAt rs k)] := by
  have hle := (tabTo_ok rs k).le
  have hn : findTo (tabTo rs k) (slotR (rwAt rs k)).1 (slotR (rwAt rs k)).2.1 (tabTo rs k).length = none := by
    refine findTo_none fun j hj => ?_
    have hm : svAt (tabTo rs k) j ∈ tabTo rs k := by
      have e : svAt (tabTo rs k) j = (tabTo rs k)[j] := by simp [svAt, hj]
      rw [e]; exact List.getElem_mem hj
    obtain ⟨i, hi, e⟩ := (tabTo_ok rs k).from_ _ hm
    have hq := fstTo_true h i hi
    rw [hit, e]
    exact hq
  refine ⟨hn, ?_⟩
  rw [tabTo, stepT, castF_new hn (by omega)]
  simp
set_option maxRecDepth 100000 in
theorem tabTo_later {rs : List Rw} {k : Nat} (hk : k < 30) (h : fstTo rs (rwAt rs k) k = false) : tabTo rs (k + 1) = tabTo rs k := by
  obtain ⟨j, hj, e⟩ := fstTo_false h
  obtain ⟨p, hp, hh⟩ := tabTo_keys rs k j hj (by omega)
  have hke : pk (rwAt rs j).a 4 = pk (rwAt rs k).a 4 ∧ 1 + pk (rwAt rs j).b 9 = 1 + pk (rwAt rs k).b 9 := of_decide_eq_true e
  rw [hke.1, hke.2] at hh
  rw [tabTo]
  rcases stepT_or (tabTo rs k) (slotR (rwAt rs k)) with h1 | ⟨_, h2, _⟩
  · exact h1
  · have := findTo_no h2 p hp
    rw [show hit (tabTo rs k) (slotR (rwAt rs k)).1 (slotR (rwAt rs k)).2.1 p = true from hh] at this
    cases this
set_option maxRecDepth 100000 in
/-- What is voted for. -/
theorem voted_first {rs : List Rw} {k n : Nat} (hk : k < 30) (hkn : k < n) (h : fstTo rs (rwAt rs k) k = true) : VotedIs (tabTo rs n) (pk (rwAt rs k).a 4) (1 + pk (rwAt rs k).b 9) 0 (rDig (rwAt rs k)) := by
  obtain ⟨hn, hs⟩ := tabTo_first hk h
  obtain ⟨e, he⟩ := tabTo_prefix rs (k + 1) n hkn
  rw [hs, List.append_assoc] at he
  have hat : svAt (tabTo rs n) (tabTo rs k).length = slotR (rwAt rs k) := by rw [he]; simp [svAt, List.getD]
  refine voted_was (tabTo_ok rs n).ok (tabTo rs k).length (by rw [he]; simp) ?_ (fun j hj => ?_) rfl (by rw [hat]; rfl)
  · rw [hit, hat]; exact decide_eq_true ⟨rfl, rfl⟩
  · rw [he, hit_append _ _ _ _ j hj]; exact findTo_no hn j hj
end Go.Proofs.YtlpaghkofljnfaaDoor

namespace Go.Proofs.YtlpaghkofljnfaaDoor
open Go.RowKit

set_option maxRecDepth 100000 in
theorem voted_at {l : List SV} {au rd f : Int} {was : List Int} {m : Nat} (h : VotedIs l au rd f was) (hF : tabF l = 0) (hm : m < l.length) (h1 : hit l au rd m = true) (h2 : ∀ j, j < m → hit l au rd j = false) : f = 0 ∧ was = (svAt l m).2.2 := by
  rcases h with ⟨g, _⟩ | ⟨_, g, _⟩ | ⟨k, _, hk, g1, g2, g3, g4⟩
  · rw [hF] at g; cases g
  · rw [g m hm] at h1; cases h1
  · refine ⟨g3, ?_⟩
    rcases Nat.lt_trichotomy k m with q | q | q
    · rw [h2 k q] at g1; cases g1
    · rw [g4, q]
    · rw [g2 m q] at h1; cases h1
set_option maxRecDepth 100000 in
theorem voted_none' {l : List SV} {au rd f : Int} {was : List Int} (h : VotedIs l au rd f was) (hF : tabF l = 0) (hn : ∀ j, j < l.length → hit l au rd j = false) : f = 8 := by
  rcases h with ⟨g, _⟩ | ⟨_, _, g, _⟩ | ⟨k, _, hk, g1, _⟩
  · rw [hF] at g; cases g
  · exact g
  · rw [hn k hk] at g1; cases g1
/-- What holds once a vote is cast: of the table u behind it. -/
structure CastU (l u : List SV) (s : SV) : Prop where
  ok : tabF u = 0
  len : u.length ≤ 31
  pre : ∃ e, u = l ++ e
  again : castF u s = (u, 0)
  now : ∀ f was, VotedIs u s.1 s.2.1 f was → f = 0 ∧ txL was = txL s.2.2
  other : ∀ o : SV, o.1 = s.1 → o.2.1 = s.2.1 → castF u o = if txL s.2.2 = txL o.2.2 then (u, 0) else ([], 7)
  was : (u.length = l.length ∧ ∀ f was, VotedIs l s.1 s.2.1 f was → f = 0 ∧ txL was = txL s.2.2) ∨ (u.length = l.length + 1 ∧ ∀ f was, VotedIs l s.1 s.2.1 f was → f = 8)
set_option maxRecDepth 100000 in
theorem castU_of {l u : List SV} {s : SV} {m : Nat} (hF : tabF u = 0) (hl : u.length ≤ 31) (hp : ∃ e, u = l ++ e) (hm : m < u.length) (h1 : hit u s.1 s.2.1 m = true) (h2 : ∀ j, j < m → hit u s.1 s.2.1 j = false) (hd : txL (svAt u m).2.2 = txL s.2.2)
    (hw : (u.length = l.length ∧ ∀ f was, VotedIs l s.1 s.2.1 f was → f = 0 ∧ txL was = txL s.2.2) ∨ (u.length = l.length + 1 ∧ ∀ f was, VotedIs l s.1 s.2.1 f was → f = 8)) : CastU l u s := by
  have hf : findTo u s.1 s.2.1 u.length = some m := findTo_some hm h1 h2
  refine ⟨hF, hl, hp, castF_same hf hd, fun f was h => ?_, fun o e1 e2 => ?_, hw⟩
  · obtain ⟨g1, g2⟩ := voted_at h hF hm h1 h2
    exact ⟨g1, by rw [g2]; exact hd⟩
  · have hfo : findTo u o.1 o.2.1 u.length = some m := by rw [e1, e2]; exact hf
    by_cases h : txL s.2.2 = txL o.2.2
    · rw [if_pos h]; exact castF_same hfo (hd.trans h)
    · rw [if_neg h]; exact castF_twice hfo (fun g => h (hd.symm.trans g))
set_option maxRecDepth 100000 in
theorem cast_split {l : List SV} (s : SV) (hF : tabF l = 0) (hl : l.length ≤ 30) (hs : slotF s.1 s.2.1 s.2.2.length = 0) :
    (castF l s = ([], 7) ∧ ∀ f was, VotedIs l s.1 s.2.1 f was → f = 0 ∧ txL was ≠ txL s.2.2) ∨ ∃ u, castF l s = (u, 0) ∧ CastU l u s := by
  cases hf : findTo l s.1 s.2.1 l.length with
  | some m =>
    obtain ⟨hm, h1, h2⟩ := findTo_has hf
    by_cases hd : txL (svAt l m).2.2 = txL s.2.2
    · exact .inr ⟨l, castF_same hf hd, castU_of hF (by omega) ⟨[], by simp⟩ hm h1 h2 hd (.inl ⟨rfl, fun f was h => by
        obtain ⟨g1, g2⟩ := voted_at h hF hm h1 h2
        exact ⟨g1, by rw [g2]; exact hd⟩⟩)⟩
    · exact .inl ⟨castF_twice hf hd, fun f was h => by
        obtain ⟨g1, g2⟩ := voted_at h hF hm h1 h2
        exact ⟨g1, by rw [g2]; exact hd⟩⟩
  | none =>
    have hno := findTo_no hf
    have hsv : svAt (l ++ [s]) l.length = s := by simp [svAt]
    refine .inr ⟨l ++ [s], castF_new hf (by omega), castU_of (m := l.length) (tabF_snoc hF (by omega) hs hf) (by simp; omega) ⟨[s], rfl⟩ (by simp) ?_ (fun j hj => ?_) (by rw [hsv]) (.inr ⟨by simp, fun f was h => voted_none' h hF hno⟩)⟩
    · rw [hit, hsv]; simp
    · rw [hit_append l [s] _ _ j hj]; exact hno j hj
set_option maxRecDepth 100000 in
theorem tabR_ok (rs : List Rw) : tabF (tabR rs) = 0 ∧ (tabR rs).length ≤ 30 := by
  have h := tabTo_ok rs (min rs.length 30)
  exact ⟨h.ok, Nat.le_trans h.le (Nat.min_le_right _ _)⟩
set_option maxRecDepth 100000 in
theorem same_any2 (xs ys : List Int) (sa sb : Option Addr) (n m c d : Nat) (w : World) (hn : n = xs.length) (hm : m = ys.length) (ha : SliceAt w sa c xs) (hb : SliceAt w sb d ys) :
    Calls Tryd.prog 12 #[.slice sa n c, .slice sb m d] w fun e w' => e = .returned (.bool (decide (txL xs = txL ys))) ∧ w = w' := by
  have h1 := run_text w sa n c xs hn ha
  have h2 := run_text w sb m d ys hm hb
  have hF : Hid (((bstr xs).toList == (bstr ys).toList) = decide (txL xs = txL ys)) := by
    show _ = _
    rw [txL, txL]
    by_cases h : (bstr xs).toList = (bstr ys).toList
    · rw [decide_eq_true h, h]; simp
    · rw [decide_eq_false h]; simpa using h
  clear hn hm ha hb
  generalize decide (txL xs = txL ys) = D at *
  generalize bstr xs = A at *
  generalize bstr ys = B at *
  go_enter Tryd.func12, Tryd.ntmps12
  go_wp2_with fail
  go_ret
  exact ⟨ret_bool (by rw [← hF.out]), rfl⟩
end Go.Proofs.YtlpaghkofljnfaaDoor

namespace Go.Proofs.YtlpaghkofljnfaaDoor
open Go.RowKit

set_option maxRecDepth 100000 in
theorem digU8To (s : List Int) (k : Nat) : ∀ x ∈ digTo s k, 0 ≤ x ∧ x ≤ 255 := by
  induction k with
  | zero => intro x hx; cases hx
  | succ k ih =>
    intro x hx
    rw [digTo] at hx
    rcases List.mem_append.1 hx with h | h
    · exact ih x h
    · simp at h
      omega
set_option maxRecDepth 100000 in
theorem digU8 (au rd : Int) (bl pl : List Part) : ∀ x ∈ hDig au rd bl pl, 0 ≤ x ∧ x ≤ 255 := digU8To _ _
end Go.Proofs.YtlpaghkofljnfaaDoor

namespace Go.Proofs.YtlpaghkofljnfaaDoor
open Go.RowKit

/-- The digest of the header that has other batches. -/
def oDig (r : Rw) (nn : Int) : List Int := hDig (pk r.a 4) (1 + pk r.b 9) (mkP [someL nn 200]) (mkP (hPars r.a r.b r.c))
/-- Its batches. -/
def oBl (NB : Nat) (nn : Int) : List Part := [⟨some ⟨NB, 0, none⟩, 32, someL nn 200⟩]
set_option maxRecDepth 100000 in
theorem oDig_length (r : Rw) (nn : Int) : (oDig r nn).length = 32 := hDig_length _ _ _ _
set_option maxRecDepth 100000 in
theorem headerF_swap {au rd : Int} {bl bl' pl : List Part} (h : headerF au rd bl pl = 0) (h3 : bl'.length ≤ 3) (hd : digF bl' = 0) : headerF au rd bl' pl = 0 := by
  obtain ⟨y1, y2, y3, y4, _, _⟩ := headerF_ok h
  rw [headerF, if_neg (by omega), if_neg (by omega)] at h
  rw [headerF, if_neg (by omega), if_neg (by omega), if_neg (by rw [hd]; decide)]
  by_cases q : digF bl = 0
  · rw [if_neg (by rw [q]; decide)] at h; exact h
  · rw [if_pos q] at h; exact absurd h q
set_option maxRecDepth 100000 in
theorem oBl_ok {au rd : Int} {bl pl : List Part} (NB : Nat) (nn : Int) (h : headerF au rd bl pl = 0) : headerF au rd (oBl NB nn) pl = 0 :=
  headerF_swap h (by simp [oBl]) (digF_some (oBl NB nn) nn 200 1 (by decide) (by simp [oBl]))
set_option maxRecDepth 100000 in
theorem oDig_of (r : Rw) (NB : Nat) (nn : Int) (pl : List Part) (hp : pl.map (·.bs) = hPars r.a r.b r.c) : hDig (pk r.a 4) (1 + pk r.b 9) (oBl NB nn) pl = oDig r nn := by
  rw [oDig, hDig, hDig, headB_sameH (mkP_same (oBl NB nn) [someL nn 200] (by simp [oBl])) (mkP_same pl _ hp)]
set_option maxRecDepth 100000 in
theorem castAll_or {u : List SV} {s : SV} {au rd : Int} {D O : List Int} {bl pl : List Part} (hu : tabF u = 0) (hok : headerF au rd bl pl = 0) (hod : hDig au rd bl pl = O) (ho : ∀ o : SV, o.1 = s.1 → o.2.1 = s.2.1 → castF u o = if txL s.2.2 = txL o.2.2 then (u, 0) else ([], 7)) (s1 : s.1 = au) (s2 : s.2.1 = rd) (s3 : s.2.2 = D) :
    castAll u au rd bl pl = if txL D = txL O then (u, (au, rd, O), 0) else ([], (0, 0, []), 7) := by
  have h := ho (au, rd, O) s1.symm s2.symm
  rw [s3] at h
  clear ho s1 s2 s3
  rw [castAll, if_neg (by rw [hu]; decide), if_neg (by rw [hok]; decide), hod]
  clear hu hok hod
  by_cases q : txL D = txL O
  · rw [if_pos q] at h ⊢
    rw [h, if_neg (by simp)]
  · rw [if_neg q] at h ⊢
    rw [h, if_pos (by simp)]
set_option maxRecDepth 100000 in
theorem castAll_oth {l u : List SV} (r : Rw) (NB : Nat) (nn : Int) (bl pl : List Part) (CU : CastU l u (slotR r)) (h : headerF (pk r.a 4) (1 + pk r.b 9) bl pl = 0) (hp : pl.map (·.bs) = hPars r.a r.b r.c) :
    castAll u (pk r.a 4) (1 + pk r.b 9) (oBl NB nn) pl = if txL (rDig r) = txL (oDig r nn) then (u, (pk r.a 4, 1 + pk r.b 9, oDig r nn), 0) else ([], (0, 0, []), 7) := by
  have hod := oDig_of r NB nn pl hp
  have hok := oBl_ok NB nn h
  obtain ⟨s1, s2, s3⟩ : (slotR r).1 = pk r.a 4 ∧ (slotR r).2.1 = 1 + pk r.b 9 ∧ (slotR r).2.2 = rDig r := by rw [slotR]; exact ⟨rfl, rfl, rfl⟩
  exact castAll_or CU.ok hok hod CU.other s1 s2 s3
set_option maxRecDepth 100000 in
theorem dig_one {r : Rw} {nn : Int} (h : txL (rDig r) = txL (oDig r nn)) : rDig r = oDig r nn := by
  unfold txL at h
  exact bstr_inj (digU8 _ _ _ _) (digU8 _ _ _ _) (ba_ext h)
/-- The header once its batches are other ones. -/
structure OthAt (w9 X : World) (OB NB SZ : Nat) (au rd : Int) (nn : Int) (pa : Option Addr) (pc : Nat) (pl : List Part) : Prop where
  keep : Below w9.heap.size w9 X
  box : X.heap[OB]? = some (.cells #[.int .i64 au, .int .i64 rd, .slice (some ⟨SZ, 0, none⟩) 1 1, .slice pa pl.length pc] 31 (0, 0))
  hat : HAt X (some ⟨SZ, 0, none⟩) 1 (oBl NB nn) pa pc pl
set_option maxRecDepth 100000 in
theorem oth_at {w9 w10 : World} {OB NB : Nat} {au rd nn : Int} {ba pa : Option Addr} {bc pc n : Nat} {bl pl : List Part} (hO : w9.heap.size ≤ OB) (hN : OB < NB) (hb : Below w9.heap.size w9 w10) (hH : HAt w9 ba bc bl pa pc pl)
    (qO : w10.heap[OB]? = some (.cells #[.int .i64 au, .int .i64 rd, .slice ba n bc, .slice pa pl.length pc] 31 (0, 0))) (hs : SliceAt w10 (some ⟨NB, 0, none⟩) 32 (someL nn 200)) :
    OthAt w9 ((w10.setCell ⟨OB, 2, none⟩ (.slice (some ⟨w10.heap.size, 0, none⟩) 1 1)).alloc (.cells #[.slice (some ⟨NB, 0, none⟩) 32 32] 33)) OB NB w10.heap.size au rd nn pa pc pl := by
  have hk : Below w9.heap.size w9 (w10.setCell ⟨OB, 2, none⟩ (.slice (some ⟨w10.heap.size, 0, none⟩) 1 1)) := hb.setCell (p := ⟨OB, 2, none⟩) hO _
  have h1 : (w10.setCell ⟨OB, 2, none⟩ (.slice (some ⟨w10.heap.size, 0, none⟩) 1 1)).heap[OB]? = some (.cells #[.int .i64 au, .int .i64 rd, .slice (some ⟨w10.heap.size, 0, none⟩) 1 1, .slice pa pl.length pc] 31 (0, 0)) := by
    simpa using heap_setCell_same _ _ 2 _ _ (.slice (some ⟨w10.heap.size, 0, none⟩) 1 1) qO
  have h2 : SliceAt (w10.setCell ⟨OB, 2, none⟩ (.slice (some ⟨w10.heap.size, 0, none⟩) 1 1)) (some ⟨NB, 0, none⟩) 32 (someL nn 200) := slice_far (B := NB) hs (fun sb so e => by cases e; exact Nat.le_refl _) OB 2 _ hN
  have hz : (w10.setCell ⟨OB, 2, none⟩ (.slice (some ⟨w10.heap.size, 0, none⟩) 1 1)).heap.size = w10.heap.size := by simp
  generalize w10.setCell ⟨OB, 2, none⟩ (.slice (some ⟨w10.heap.size, 0, none⟩) 1 1) = Y at hk h1 h2 hz ⊢
  have hA := (Below.refl Y.heap.size Y).alloc (Nat.le_refl _) (.cells #[.slice (some ⟨NB, 0, none⟩) 32 32] 33)
  have qL := heap_alloc_new Y (.cells #[.slice (some ⟨NB, 0, none⟩) 32 32] 33)
  have hX := hk.trans (hA.mono hk.size)
  rw [hz] at qL
  refine ⟨hX, (hA.block _ (lt_of_heap h1)).trans h1, ⟨⟨by simp [oBl], by decide, by simp [oBl], .inr ⟨_, _, rfl⟩, ⟨.inr ⟨_, _, rfl, fun j hj => ?_⟩, fun p hp => ?_⟩⟩, hH.lp.below hX, fun sb so e => ?_, fun sb so e => ?_⟩⟩
  · have hj0 : j = 0 := by simp [oBl] at hj; exact hj
    subst hj0
    have := cells_at qL 0 _ rfl
    simpa [oBl, someL_length] using this
  · have : p = ⟨some ⟨NB, 0, none⟩, 32, someL nn 200⟩ := by simpa [oBl] using hp
    subst this
    exact h2.below hA
  · cases e
    exact lt_of_heap qL
  · exact Nat.lt_of_lt_of_le (hH.rp sb so e) hX.size
set_option maxRecDepth 100000 in
/-- Batches of a raw header are never that one. -/
theorem oBl_new (c nn : Int) : hBats c ≠ [someL nn 200] := by
  intro h
  rw [hBats] at h
  have h2 := congrArg List.length h
  simp at h2
  rw [h2] at h
  simp at h
  have h1 := congrArg (fun l => l[1]?) h
  simp [someL] at h1
end Go.Proofs.YtlpaghkofljnfaaDoor

namespace Go.Proofs.YtlpaghkofljnfaaDoor
open Go.RowKit

set_option maxRecDepth 100000 in
theorem header_hat (r : Rw) (w : World) (h : I64 r.a ∧ I64 r.b ∧ I64 r.c) :
    Calls Tryd.prog 7 #[.agg #[.int .i64 r.ki, .int .i64 r.a, .int .i64 r.b, .int .i64 r.c, .slice r.sa r.n r.cap]] w fun e w' => ∃ ba bc bl pa pc pl, e = .returned (.agg #[.int .i64 (pk r.a 4), .int .i64 (1 + pk r.b 9), .slice ba (List.length bl) bc, .slice pa (List.length pl) pc]) ∧ HAt w' ba bc bl pa pc pl ∧ bl.map (·.bs) = hBats r.c ∧ pl.map (·.bs) = hPars r.a r.b r.c ∧ Below w.heap.size w w' ∧ Fresh w.heap.size ba bl ∧ Fresh w.heap.size pa pl := by
  refine (header_raw2 r.ki r.a r.b r.c r.sa r.n r.cap w h.1 h.2.1 h.2.2).mono ?_
  rintro e w' ⟨ba, bc, bl, pa, pc, pl, he, a1, a2, a3, a4, a5, a6, a7, a8, a9⟩
  exact ⟨ba, bc, bl, pa, pc, pl, he, ⟨a1, a2, fun sb so e => (a3.1 sb so e).1, fun sb so e => (a4.1 sb so e).1⟩, a5, a6, a7, a8, a9⟩
set_option maxRecDepth 100000 in
set_option maxHeartbeats 2000000 in
theorem table_any (rs : List Rw) (sa : Option Addr) (n cap : Nat) (w : World) (hn : n = rs.length) (hr : RawsAt w sa rs) (hT : Tabs w) :
    Calls Tryd.prog 6 #[.slice sa n cap] w fun e w' => ∃ ra rc ks, e = .returned (.slice ra (List.length ks) rc) ∧ vs ks = tabR rs ∧ TabAt w' ra rc ks ∧ Below w.heap.size w w' := by
  subst hn
  have hsm := hr.small
  go_enter Tryd.func6, Tryd.ntmps6
  go_wp2_with fail
  go_loopw [4, 3] (fun j v wr => ∃ (k : Nat) (ks : List Sl) (ra : Option Addr) (rc : Nat), k ≤ rs.length ∧ k ≤ 30 ∧ j = .int .i64 k ∧ v = .slice ra ks.length rc ∧ vs ks = tabTo rs k ∧ TabAt wr ra rc ks ∧ Below w.heap.size w wr) (fun j _ _ => rs.length - (intOf j).toNat)
  case atStart => exact ⟨0, [], none, 0, Nat.zero_le _, by omega, rfl, rfl, rfl, tab_nil _, Below.refl _ _⟩
  case round =>
    obtain ⟨k, ks, ra, rc, hk, hk30, rfl, rfl, hv, ht, hb⟩ := hrel
    by_cases hlt : k < rs.length
    · by_cases h30 : k < 30
      · have hpw := hr.below hb
        obtain ⟨sb, so, rfl, hc⟩ : ∃ sb so, sa = some ⟨sb, so, none⟩ ∧ ∀ j (h : j < rs.length), wr.cell? ⟨sb, so + j * 5, none⟩ = some (.int .i64 (rs[j]).ki) ∧ wr.cell? ⟨sb, so + j * 5 + 1, none⟩ = some (.int .i64 (rs[j]).a) ∧ wr.cell? ⟨sb, so + j * 5 + 2, none⟩ = some (.int .i64 (rs[j]).b) ∧ wr.cell? ⟨sb, so + j * 5 + 3, none⟩ = some (.int .i64 (rs[j]).c) ∧ wr.cell? ⟨sb, so + j * 5 + 4, none⟩ = some (.slice (rs[j]).sa (rs[j]).n (rs[j]).cap) := by
          rcases hpw.cells with h | h
          · rw [h] at hlt; simp at hlt
          · exact h
        obtain ⟨c0, c1, c2, c3, c4⟩ := hc k hlt
        have hi := hr.each (rs[k]) (List.getElem_mem hlt)
        have hltI : (k : Int) < rs.length := by omega
        have h30I : (k : Int) < 30 := by omega
        have HX : Hid (tabTo rs (k + 1) = stepT (tabTo rs k) (slotR (rs[k]))) := by
          show _ = _
          rw [tabTo, rwAt_get rs k hlt]
        have h0 : tabF (vs ks) = 0 := by rw [hv]; exact (tabTo_ok rs k).ok
        have H0 : Hid (tabF (vs ks) = 0) := h0
        clear hc hpw h0
        generalize rs[k] = r at *
        have HH : Hid (I64 r.a ∧ I64 r.b ∧ I64 r.c) := hi
        clear hi
        go_wp2_with fail
        refine (header_hat r wr HH.out).mono ?_
        rintro e w1 ⟨ba, bc, bl, pa, pc, pl, he, hH, hbl, hpl, hb1, _, _⟩
        subst he
        dsimp only
        have hB1 := hb.trans (hb1.mono hb.size)
        have hA := castAll_raw (l := vs ks) r bl pl H0.out hbl hpl
        have HC := cast_any ks ra rc (pk r.a 4) (1 + pk r.b 9) ba bc bl pa pc pl w1 (ht.below hb1) hH (hT.below hB1)
        rw [hA] at HC
        clear hA hbl hpl
        generalize pk r.a 4 = PA at *
        generalize 1 + pk r.b 9 = PB at *
        go_wp2_with fail
        refine HC.mono ?_
        rintro e w2 ⟨xa, xc, xs, da, dc, au', rd', ds, er, he, hR, hT2, _, _, _, hb2⟩
        subst he
        dsimp only
        have hB2 := hB1.trans (hb2.mono hB1.size)
        have hA2 : Below w2.heap.size w2 (w2.alloc (.cells #[.int .i64 au', .int .i64 rd', .slice da ds.length dc] 39)) := (Below.refl _ _).alloc (Nat.le_refl _) _
        have hB3 := hB2.trans (hA2.mono hB2.size)
        by_cases hz : (castF (vs ks) (slotR r)).2 = 0
        · rw [if_neg (by simp [hz])] at hR
          simp only [Prod.mk.injEq] at hR
          obtain ⟨hx, _, rfl⟩ := hR
          have hstep : Hid (vs xs = tabTo rs (k + 1)) := by
            show _ = _
            rw [HX.out, stepT, ← hv, if_pos hz, hx]
          clear hx hz HC
          go_wp2_with fail
          go_roundw
          case rel =>
            have hR : ∃ (k' : Nat) (ks' : List Sl) (ra' : Option Addr) (rc' : Nat), k' ≤ rs.length ∧ k' ≤ 30 ∧ (Value.int .i64 ((k : Int) + 1)) = .int .i64 k' ∧ Value.slice xa xs.length xc = .slice ra' ks'.length rc' ∧ vs ks' = tabTo rs k' ∧ TabAt (w2.alloc (.cells #[.int .i64 au', .int .i64 rd', .slice da ds.length dc] 39)) ra' rc' ks' ∧ Below w.heap.size w (w2.alloc (.cells #[.int .i64 au', .int .i64 rd', .slice da ds.length dc] 39)) :=
              ⟨k + 1, xs, xa, xc, by omega, by omega, by go_num, rfl, hstep.out, hT2.below hA2, hB3⟩
            first | exact hR | ((repeat apply Exists.intro); exact ⟨hR, rfl⟩)
          case measure => simp [intOf]; omega
        · rw [if_pos (by simp [hz])] at hR
          simp only [Prod.mk.injEq] at hR
          obtain ⟨hq1, hq2, rfl⟩ := hR
          clear hq1 hq2
          have hstep : Hid (vs ks = tabTo rs (k + 1)) := by
            show _ = _
            rw [HX.out, stepT, ← hv, if_neg hz]
          have hT3 := ((ht.below hb1).below hb2).below hA2
          generalize (castF (vs ks) (slotR r)).2 = er at *
          clear HC
          go_wp2_with fail
          go_roundw
          case rel =>
            have hR : ∃ (k' : Nat) (ks' : List Sl) (ra' : Option Addr) (rc' : Nat), k' ≤ rs.length ∧ k' ≤ 30 ∧ (Value.int .i64 ((k : Int) + 1)) = .int .i64 k' ∧ Value.slice ra ks.length rc = .slice ra' ks'.length rc' ∧ vs ks' = tabTo rs k' ∧ TabAt (w2.alloc (.cells #[.int .i64 au', .int .i64 rd', .slice da ds.length dc] 39)) ra' rc' ks' ∧ Below w.heap.size w (w2.alloc (.cells #[.int .i64 au', .int .i64 rd', .slice da ds.length dc] 39)) :=
              ⟨k + 1, ks, ra, rc, by omega, by omega, by go_num, rfl, hstep.out, hT3, hB3⟩
            first | exact hR | ((repeat apply Exists.intro); exact ⟨hR, rfl⟩)
          case measure => simp [intOf]; omega
      · obtain rfl : k = 30 := by omega
        have hltI : ((30 : Nat) : Int) < rs.length := by omega
        have hltJ : (30 : Int) < rs.length := by omega
        have hE : Hid (vs ks = tabR rs) := by
          show _ = _
          rw [hv, tabR, Nat.min_eq_right (by omega)]
        go_wp2_with fail
        go_ret
        exact ⟨ra, rc, ks, rfl, hE.out, ht, hb⟩
    · obtain rfl : k = rs.length := by omega
      have hE : Hid (vs ks = tabR rs) := by
        show _ = _
        rw [hv, tabR, Nat.min_eq_left hk30]
      go_wp2_with fail
      go_ret
      exact ⟨ra, rc, ks, rfl, hE.out, ht, hb⟩
end Go.Proofs.YtlpaghkofljnfaaDoor

namespace Go.Proofs.YtlpaghkofljnfaaDoor
open Go.RowKit

set_option maxRecDepth 100000 in
set_option maxHeartbeats 1000000 in
theorem sameTexts_any (xs ys : List ByteArray) (sa sb : Option Addr) (n m c d : Nat) (w : World) (hn : n = xs.length) (hm : m = ys.length) (hx : n ≤ 1000) (hy : m ≤ 1000) (ha : StrsAt w sa xs) (hb : StrsAt w sb ys) :
    Calls Tryd.prog 44 #[.slice sa n c, .slice sb m d] w fun e w' => e = .returned (.bool (decide (xs = ys))) ∧ Below w.heap.size w w' := by
  subst hn hm
  by_cases hl : xs.length = ys.length
  · have hF : Hid (xs.length = ys.length) := hl
    rw [← hl]
    go_enter Tryd.func44, Tryd.ntmps44
    go_wp2_with fail
    go_loopw [5] (fun j wr => ∃ k : Nat, k ≤ xs.length ∧ j = .int .i64 k ∧ Hid (xs.take k = ys.take k) ∧ Below w.heap.size w wr) (fun j _ => xs.length - (intOf j).toNat)
    case atStart => exact ⟨0, Nat.zero_le _, rfl, by show _ = _; simp, Below.refl _ _⟩
    case round =>
      obtain ⟨k, hk, rfl, hst, hbw⟩ := hrel
      by_cases hlt : k < xs.length
      · obtain ⟨ab, ao, rfl, hca⟩ : ∃ ab ao, sa = some ⟨ab, ao, none⟩ ∧ ∀ j, j < xs.length → w.cell? ⟨ab, ao + j, none⟩ = some (.string (xs.getD j ByteArray.empty)) := by
          rcases ha.cells with h | h
          · rw [h] at hlt; simp at hlt
          · exact h
        obtain ⟨bb, bo, rfl, hcb⟩ : ∃ bb bo, sb = some ⟨bb, bo, none⟩ ∧ ∀ j, j < ys.length → w.cell? ⟨bb, bo + j, none⟩ = some (.string (ys.getD j ByteArray.empty)) := by
          rcases hb.cells with h | h
          · have := hF.out; rw [h] at this; simp at this; simp [this] at hlt
          · exact h
        have hlt2 : k < ys.length := by have := hF.out; omega
        have ka := (hbw.cell (p := ⟨ab, ao + k, none⟩) (block_lt_of_cell (hca k hlt))).trans (hca k hlt)
        have kb := (hbw.cell (p := ⟨bb, bo + k, none⟩) (block_lt_of_cell (hcb k hlt2))).trans (hcb k hlt2)
        have hltI : (k : Int) < xs.length := by omega
        have h0 : (0 : Int) ≤ k := by omega
        clear hca hcb
        have hsx : Hid (xs.take (k + 1) = xs.take k ++ [xs.getD k ByteArray.empty]) := by show _ = _; rw [List.take_succ_eq_append_getElem hlt]; simp [List.getD, hlt]
        have hsy : Hid (ys.take (k + 1) = ys.take k ++ [ys.getD k ByteArray.empty]) := by show _ = _; rw [List.take_succ_eq_append_getElem hlt2]; simp [List.getD, hlt2]
        generalize xs.getD k ByteArray.empty = x at ka hsx
        generalize ys.getD k ByteArray.empty = y at kb hsy
        by_cases he : x.toList = y.toList
        · have hxy : Hid (x = y) := ba_ext he
          have heb : (x.toList == y.toList) = true := by simp [he]
          clear he
          go_wp2_with fail
          go_region_held3 (fun w' => w'.cell? ⟨ab, ao + k, none⟩ = some (.string x) ∧ w'.cell? ⟨bb, bo + k, none⟩ = some (.string y)) (go_keep) (fail)
          all_goals
            go_wp2_with fail
            go_roundw
            case rel =>
              have hR : ∃ k' : Nat, k' ≤ xs.length ∧ (Value.int .i64 ((k : Int) + 1)) = .int .i64 k' ∧ Hid (xs.take k' = ys.take k') ∧ Below w.heap.size w wr.drew := ⟨k + 1, by omega, by go_num, by show _ = _; rw [hsx.out, hsy.out, hst.out, hxy.out], hbw.drew⟩
              first | exact hR | ((repeat apply Exists.intro); exact ⟨hR, rfl⟩)
            case measure => simp [intOf]; omega
        · have hxy : Hid (¬ x = y) := fun e => he (by rw [e])
          have heb : (x.toList == y.toList) = false := by simp [he]
          clear he
          go_wp2_with fail
          go_region_held3 (fun w' => w'.cell? ⟨ab, ao + k, none⟩ = some (.string x) ∧ w'.cell? ⟨bb, bo + k, none⟩ = some (.string y)) (go_keep) (fail)
          all_goals
            go_wp2_with fail
            go_ret
            refine ⟨ret_bool (decide_eq_false fun e => hxy.out ?_).symm, hbw.drew⟩
            have h1 := hsx.out
            have h2 := hsy.out
            rw [e, h2] at h1
            have h3 := List.append_cancel_left h1
            simp only [List.cons.injEq, and_true] at h3
            first | exact h3 | exact h3.symm
      · obtain rfl : k = xs.length := by omega
        have hltI : ¬ (xs.length : Int) < xs.length := by omega
        have heq : Hid (xs = ys) := by
          have h1 := hst.out
          rw [List.take_of_length_le (Nat.le_refl _), List.take_of_length_le (by have := hF.out; omega)] at h1
          exact h1
        go_wp2_with fail
        go_ret
        exact ⟨ret_bool (decide_eq_true heq.out).symm, hbw⟩
  · have hlI : ¬ (xs.length : Int) = ys.length := by omega
    have hF : Hid (¬ xs = ys) := fun e => hl (by rw [e])
    have hlb : ((xs.length : Int) == (ys.length : Int)) = false := beq_eq_false_iff_ne.2 hlI
    go_enter Tryd.func44, Tryd.ntmps44
    go_wp2_with fail
    go_ret
    exact ⟨ret_bool (decide_eq_false hF.out).symm, Below.refl _ _⟩
end Go.Proofs.YtlpaghkofljnfaaDoor
