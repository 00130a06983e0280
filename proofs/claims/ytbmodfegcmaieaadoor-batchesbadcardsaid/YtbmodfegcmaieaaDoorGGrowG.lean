/- Dags of raw numbers that begin with a certificate: what all of them have. -/
import Derived.Test.YtbmodfegcmaieaaDoorGIntsL
import Derived.Test.YtbmodfegcmaieaaDoorGCtFar
import Derived.Test.YtbmodfegcmaieaaDoorGBstr
namespace Go.Proofs.YtbmodfegcmaieaaDoor
open Go.RowKit

set_option maxRecDepth 100000 in
theorem digU8To (s : List Int) (k : Nat) : ∀ x ∈ digTo s k, 0 ≤ x ∧ x ≤ 255 := by
  induction k with
  | zero => intro x hx; cases hx
  | succ k ih =>
    intro x hx
    rw [digTo] at hx
    rcases List.mem_append.1 hx with h | h
    · exact ih x h
    · simp at h
      omega
set_option maxRecDepth 100000 in
theorem digU8 (au rd : Int) (bl pl : List Part) : ∀ x ∈ hDig au rd bl pl, 0 ≤ x ∧ x ≤ 255 := digU8To _ _
end Go.Proofs.YtbmodfegcmaieaaDoor

namespace Go.Proofs.YtbmodfegcmaieaaDoor
open Go.RowKit

set_option maxRecDepth 100000 in
theorem cvAt_mem {l : List CV} {j : Nat} (h : j < l.length) : cvAt l j ∈ l := by
  have e : cvAt l j = l[j] := by simp [cvAt, h]
  rw [e]; exact List.getElem_mem h
set_option maxRecDepth 100000 in
theorem CV.d_u8 (c : CV) : ∀ x ∈ c.d, 0 ≤ x ∧ x ≤ 255 := digU8 _ _ _ _
set_option maxRecDepth 100000 in
theorem cOf_at {l : List CV} {j : Nat} (hj : j < l.length) : 0 ≤ cOf l (cvAt l j).au (cvAt l j).rd := by
  rcases Int.lt_or_le (cOf l (cvAt l j).au (cvAt l j).rd) 0 with h | h
  · have := fidx_no _ _ h j hj
    simp [cHit] at this
  · exact h
set_option maxRecDepth 100000 in
theorem parTo_zero {l : List CV} {rd : Int} {pl : List (List Int)} {m : Nat} (h : parTo l rd pl m = 0) : ∀ k, k < m → parAt l rd (pl.getD k []) = 0 := by
  induction m with
  | zero => intro k hk; omega
  | succ m ih =>
    rw [parTo] at h
    split at h
    · cases h
    · split at h
      · rename_i h2
        intro k hk
        rcases Nat.lt_or_ge k m with g | g
        · exact ih h k g
        · obtain rfl : k = m := by omega
          exact h2
      · rename_i h2
        exact absurd h h2
set_option maxRecDepth 100000 in
theorem parTo_all {l : List CV} {rd : Int} {pl : List (List Int)} {m : Nat} (h : ∀ k, k < m → parAt l rd (pl.getD k []) = 0) : parTo l rd pl m = 0 ∧ misTo l pl m = [] := by
  induction m with
  | zero => exact ⟨rfl, rfl⟩
  | succ m ih =>
    obtain ⟨i1, i2⟩ := ih (fun k hk => h k (by omega))
    have hm := h m (by omega)
    refine ⟨?_, ?_⟩
    · rw [parTo, i1, if_neg (by decide), if_pos hm]
    · have hp : ¬ pOf l (pl.getD m []) < 0 := by
        intro g
        rw [parAt, if_pos g] at hm
        cases hm
      rw [misTo, if_neg hp, i2]
set_option maxRecDepth 100000 in
theorem parAt_ok {l : List CV} {rd : Int} {d : List Int} (h : parAt l rd d = 0) : 0 ≤ pOf l d ∧ (cvAt l (pOf l d).toNat).rd = rd - 1 := by
  rw [parAt] at h
  split at h
  · cases h
  · split at h
    · cases h
    · rename_i h1 h2
      refine ⟨by omega, by simpa using h2⟩
set_option maxRecDepth 100000 in
theorem parAt_of {l : List CV} {rd : Int} {d : List Int} (h : 0 ≤ pOf l d) (h2 : (cvAt l (pOf l d).toNat).rd = rd - 1) : parAt l rd d = 0 := by
  rw [parAt, if_neg (by omega), if_neg (fun g => g h2)]
set_option maxRecDepth 100000 in
theorem pOf_take {l : List CV} {i : Nat} (hi : i ≤ l.length) {d : List Int} (h : 0 ≤ pOf (l.take i) d) : pOf l d = pOf (l.take i) d := by
  have hl : (l.take i).length = i := by rw [List.length_take]; omega
  have e : pOf (l.take i) d = fidx (dHit l d) i := by
    rw [pOf, hl]
    exact fidx_congr _ _ _ (fun j hj => by rw [dHit, dHit, cvAt_take l i j hj])
  rw [e] at h ⊢
  exact fidx_stay _ _ _ h hi
set_option maxRecDepth 100000 in
/-- The parents of a dag's certificate stand ahead of it, and are of the round ahead. -/
theorem dag_parent {l : List CV} (h : dagF l = 0) {i : Nat} (hi : i < l.length) {k : Nat} (hk : k < (cvAt l i).pl.length) :
    0 ≤ pOf (l.take i) ((cvAt l i).pl.getD k []) ∧ (cvAt l (pOf (l.take i) ((cvAt l i).pl.getD k [])).toNat).rd = (cvAt l i).rd - 1 := by
  have hb := (dagF_zero h).2 i hi
  simp only [badC, Bool.or_eq_false_iff, decide_eq_false_iff_not, ne_eq, Decidable.not_not] at hb
  have h2 := hb.2
  rw [takF] at h2
  split at h2
  · cases h2
  · obtain ⟨h3, h4⟩ := parAt_ok (parTo_zero h2 k hk)
    refine ⟨h3, ?_⟩
    have hl : (l.take i).length = i := by rw [List.length_take]; omega
    have hb := pOf_bounds (l.take i) ((cvAt l i).pl.getD k [])
    rw [cvAt_take l i _ (by omega)] at h4
    exact h4
set_option maxRecDepth 100000 in
theorem dag_none_missing {l : List CV} (h : dagF l = 0) {i : Nat} (hi : i < l.length) : parF l (cvAt l i).rd (cvAt l i).pl = 0 ∧ misF l (cvAt l i).pl = [] := by
  refine parTo_all (fun k hk => ?_)
  obtain ⟨h1, h2⟩ := dag_parent h hi hk
  have e := pOf_take (Nat.le_of_lt hi) h1
  exact parAt_of (by rw [e]; exact h1) (by rw [e]; exact h2)
set_option maxRecDepth 100000 in
theorem pOf_self {l : List CV} {i : Nat} (hi : i < l.length) : 0 ≤ pOf l (cvAt l i).d ∧ (pOf l (cvAt l i).d).toNat ≤ i ∧ txL (cvAt l (pOf l (cvAt l i).d).toNat).d = txL (cvAt l i).d := by
  have h0 : 0 ≤ pOf l (cvAt l i).d := by
    rcases Int.lt_or_le (pOf l (cvAt l i).d) 0 with h | h
    · have := fidx_no _ _ h i hi
      simp [dHit] at this
    · exact h
  have hy := fidx_yes (dHit l (cvAt l i).d) l.length h0
  refine ⟨h0, ?_, of_decide_eq_true hy⟩
  rcases Nat.lt_or_ge i (pOf l (cvAt l i).d).toNat with g | g
  · have hs : fidx (dHit l (cvAt l i).d) (i + 1) = pOf l (cvAt l i).d ∨ fidx (dHit l (cvAt l i).d) (i + 1) < 0 := by
      rcases Int.lt_or_le (fidx (dHit l (cvAt l i).d) (i + 1)) 0 with q | q
      · exact .inr q
      · exact .inl (fidx_stay _ _ _ q hi).symm
    rcases hs with q | q
    · have := (fidx_ge (dHit l (cvAt l i).d) (i + 1)).2
      omega
    · have := fidx_no _ _ q i (by omega)
      simp [dHit] at this
  · exact g
set_option maxRecDepth 100000 in
theorem txL_inj {xs ys : List Int} (hx : ∀ x ∈ xs, 0 ≤ x ∧ x ≤ 255) (hy : ∀ x ∈ ys, 0 ≤ x ∧ x ≤ 255) (h : txL xs = txL ys) : xs = ys := by
  exact bstr_inj hx hy (ba_ext h)
end Go.Proofs.YtbmodfegcmaieaaDoor

namespace Go.Proofs.YtbmodfegcmaieaaDoor
open Go.RowKit

/-- The step that every grown dag begins with. -/
def s0 : Stp := ⟨0, 0, 1⟩
set_option maxRecDepth 100000 in
theorem first_in (d : List Int) (hd : d.length = 32) : insE [] ⟨0, 1, [d], [], [0, 1, 2]⟩ = 0 := by
  have hdf : digF (pz [d]) = 0 := by
    show digTo1 _ 1 = 0
    have e : digAt (pz [d]) 0 = 0 := by
      rw [digAt, if_neg, if_neg]
      · simp [twice]
      · simp [pz, partAt, hd]
    rw [digTo1, digTo1, if_neg (by decide)]
    exact e
  have hh : headerF 0 1 (pz [d]) (pz []) = 0 := by
    rw [headerF, if_neg (by decide), if_neg (by simp [pz]), if_neg (by rw [hdf]; decide), if_neg (by decide)]
    rfl
  have hc : CV.f ⟨0, 1, [d], [], [0, 1, 2]⟩ = 0 := by
    show certF 0 1 (pz [d]) (pz []) [0, 1, 2] = 0
    rw [certF, if_neg (by rw [hh]; decide)]
    decide
  rw [insE, if_neg (by decide), if_neg (by rw [hc]; decide)]
  rfl
set_option maxRecDepth 100000 in
/-- The first step is always inserted. -/
theorem grown_some {l : List Stp} {k : Nat} {c : List CV} (hk : 0 < k) (h : GrownTo (s0 :: l) k c) : 0 < c.length := by
  have h1 : ∀ m c, GrownTo (s0 :: l) (m + 1) c → 0 < c.length := by
    intro m
    induction m with
    | zero =>
      rintro c ⟨c0, rfl, rd, hn, rfl⟩
      have hrd : rd = 1 := hn.one ⟨by decide, fun k a b => by omega, by decide⟩
      subst hrd
      have e : insE [] (sC (sAt (s0 :: l) 0) 0 [] 1) = 0 := by
        show insE [] (sC s0 0 [] 1) = 0
        have h32 : ((sBs s0 0 (sN s0)).map BV.d).map List.length = [32] := by
          show [(BV.d _).length] = _
          rw [BV.d, tagD_length]
        have hsc : sC s0 0 [] 1 = ⟨0, 1, (sBs s0 0 (sN s0)).map BV.d, [], [0, 1, 2]⟩ := rfl
        rw [hsc]
        generalize (sBs s0 0 (sN s0)).map BV.d = x at h32
        cases x with
        | nil => simp at h32
        | cons d r =>
          cases r with
          | nil => exact first_in d (by simpa using h32)
          | cons _ _ => simp at h32
      rw [if_pos e]; simp
    | succ m ih =>
      rintro c ⟨c0, hc, rd, hn, rfl⟩
      have := ih c0 hc
      split
      · simp
      · exact this
  obtain ⟨m, rfl⟩ : ∃ m, k = m + 1 := ⟨k - 1, by omega⟩
  exact h1 m c h
set_option maxRecDepth 100000 in
theorem sRd_le (s : Stp) (rd : Int) : sRd s rd ≤ rd := by unfold sRd; split <;> omega
set_option maxRecDepth 100000 in
/-- No round is behind the number of steps. -/
theorem GrownTo.rounds {l : List Stp} {k : Nat} {c : List CV} (h : GrownTo l k c) : ∀ x ∈ c, x.rd ≤ k :=
  (GrownTo.keep (fun k c => ∀ x ∈ c, x.rd ≤ (k : Int)) (fun x hx => by cases hx) (fun k c rd hp _ hn => by
    refine ⟨fun _ x hx => ?_, fun _ x hx => by have := hp x hx; omega⟩
    rcases List.mem_append.1 hx with hx | hx
    · have := hp x hx; omega
    · obtain rfl : x = _ := by simpa using hx
      show sRd _ rd ≤ _
      have h1 := sRd_le (sAt l k) rd
      rcases Int.lt_or_le 1 rd with g | g
      · have h3 := hn.2.1 (rd - 1) (by omega) (by omega)
        obtain ⟨j, hj, e⟩ := dgTo_some c (rd - 1) 4 (by rw [dgF] at h3; omega)
        have := hp _ (cvAt_mem hj)
        omega
      · omega) h).1
set_option maxRecDepth 100000 in
theorem GrownTo.voters {l : List Stp} {k : Nat} {c : List CV} (h : GrownTo l k c) : ∀ x ∈ c, x.vl = [0, 1, 2] :=
  (GrownTo.keep (fun _ c => ∀ x ∈ c, x.vl = [0, 1, 2]) (fun x hx => by cases hx) (fun k c rd hp _ _ => by
    refine ⟨fun _ x hx => ?_, fun _ => hp⟩
    rcases List.mem_append.1 hx with hx | hx
    · exact hp x hx
    · obtain rfl : x = _ := by simpa using hx
      rfl) h).1
/-- The lists of a certificate have bytes. -/
def U8C (c : CV) : Prop := (∀ d ∈ c.bl, ∀ x ∈ d, 0 ≤ x ∧ x ≤ 255) ∧ ∀ d ∈ c.pl, ∀ x ∈ d, 0 ≤ x ∧ x ≤ 255
set_option maxRecDepth 100000 in
theorem tagU8 (t : Int) (bs : List Int) : ∀ x ∈ tagD t bs, 0 ≤ x ∧ x ≤ 255 := digU8To _ _
set_option maxRecDepth 100000 in
theorem dgTo_u8 (c : List CV) (rd : Int) (n : Nat) : ∀ d ∈ dgTo c rd n, ∀ x ∈ d, 0 ≤ x ∧ x ≤ 255 := by
  induction n with
  | zero => intro d hd; cases hd
  | succ n ih =>
    intro d hd
    rw [dgTo] at hd
    split at hd
    · rcases List.mem_append.1 hd with hd | hd
      · exact ih d hd
      · obtain rfl : d = _ := by simpa using hd
        exact CV.d_u8 _
    · exact ih d hd
set_option maxRecDepth 100000 in
theorem sPl_u8 (s : Stp) (c : List CV) (hr : Int) : ∀ d ∈ sPl s c hr, ∀ x ∈ d, 0 ≤ x ∧ x ≤ 255 := by
  intro d hd
  rw [sPl] at hd
  split at hd
  · split at hd
    · exact dgTo_u8 c _ 4 d (List.mem_of_mem_drop hd)
    · exact dgTo_u8 c _ 4 d hd
  · cases hd
set_option maxRecDepth 100000 in
theorem GrownTo.u8 {l : List Stp} {k : Nat} {c : List CV} (h : GrownTo l k c) : ∀ x ∈ c, U8C x :=
  (GrownTo.keep (fun _ c => ∀ x ∈ c, U8C x) (fun x hx => by cases hx) (fun k c rd hp _ _ => by
    refine ⟨fun _ x hx => ?_, fun _ => hp⟩
    rcases List.mem_append.1 hx with hx | hx
    · exact hp x hx
    · obtain rfl : x = _ := by simpa using hx
      refine ⟨fun d hd => ?_, sPl_u8 _ _ _⟩
      obtain ⟨b, _, rfl⟩ := List.mem_map.1 hd
      exact tagU8 _ _) h).1
end Go.Proofs.YtbmodfegcmaieaaDoor
