/- ballot.Voted, for every table. -/
import Derived.Test.YtjhiemafaocjdaaCTab
import Derived.Test.YtjhiemafaocjdaaSCopy
import Derived.Test.YtjhiemafaocjdaaClone
namespace Go.Proofs.Ytjhiemafaocjdaa
open Go.RowKit

/-- P4.2 -/
def VotedIs (l : List SV) (au rd : Int) (e : Int) (bs : List Int) : Prop :=
  (tabF l = 12 ∧ e = 12 ∧ bs = []) ∨ (tabF l = 0 ∧ (∀ j, j < l.length → hit l au rd j = false) ∧ e = 8 ∧ bs = []) ∨ ∃ m : Nat, tabF l = 0 ∧ m < l.length ∧ hit l au rd m = true ∧ (∀ j, j < m → hit l au rd j = false) ∧ e = 0 ∧ bs = (svAt l m).2.2
set_option maxRecDepth 100000 in
theorem voted_bad {l : List SV} {au rd e : Int} {bs : List Int} (h : tabF l = 12) (he : e = 12) (hb : bs = []) : VotedIs l au rd e bs := .inl ⟨h, he, hb⟩
set_option maxRecDepth 100000 in
theorem voted_not {l : List SV} {au rd e : Int} {bs : List Int} (h : tabF l = 0) (hn : ∀ j, j < l.length → hit l au rd j = false) (he : e = 8) (hb : bs = []) : VotedIs l au rd e bs := .inr (.inl ⟨h, hn, he, hb⟩)
set_option maxRecDepth 100000 in
theorem voted_was {l : List SV} {au rd e : Int} {bs : List Int} (h : tabF l = 0) (m : Nat) (hm : m < l.length) (h1 : hit l au rd m = true) (h2 : ∀ j, j < m → hit l au rd j = false) (he : e = 0) (hb : bs = (svAt l m).2.2) : VotedIs l au rd e bs := .inr (.inr ⟨m, h, hm, h1, h2, he, hb⟩)
set_option maxRecDepth 100000 in
theorem VotedIs.one {l : List SV} {au rd e f : Int} {bs cs : List Int} (h : VotedIs l au rd e bs) (g : VotedIs l au rd f cs) : e = f ∧ bs = cs := by
  rcases h with ⟨h, he, hb⟩ | ⟨h, hn, he, hb⟩ | ⟨m, h, hm, h1, h2, he, hb⟩
  · rcases g with ⟨g, ge, gb⟩ | ⟨g, _, _, _⟩ | ⟨m, g, _, _, _, _, _⟩
    · exact ⟨by rw [he, ge], by rw [hb, gb]⟩
    · rw [h] at g; cases g
    · rw [h] at g; cases g
  · rcases g with ⟨g, ge, gb⟩ | ⟨g, _, ge, gb⟩ | ⟨m, g, hm, h1, _, _, _⟩
    · rw [h] at g; cases g
    · exact ⟨by rw [he, ge], by rw [hb, gb]⟩
    · rw [hn m hm] at h1; cases h1
  · rcases g with ⟨g, ge, gb⟩ | ⟨g, hn, _, _⟩ | ⟨n, g, gn, g1, g2, ge, gb⟩
    · rw [h] at g; cases g
    · rw [hn m hm] at h1; cases h1
    · obtain rfl : m = n := by
        rcases Nat.lt_trichotomy m n with q | q | q
        · rw [g2 m q] at h1; cases h1
        · exact q
        · rw [h2 n q] at g1; cases g1
      exact ⟨by rw [he, ge], by rw [hb, gb]⟩
set_option maxRecDepth 100000 in
theorem tab_len32 {l : List SV} (h : tabF l = 0) (m : Nat) (hm : m < l.length) : (svAt l m).2.2.length = 32 := by
  have hb := (tabF_zero h).2 m hm
  simp only [badAt, Bool.or_eq_false_iff] at hb
  have h1 := hb.1
  simp only [ne_eq, decide_eq_false_iff_not, Decidable.not_not] at h1
  unfold slotF at h1
  split at h1
  · cases h1
  · split at h1
    · cases h1
    · rename_i g; omega
set_option maxRecDepth 100000 in
set_option maxHeartbeats 1000000 in
theorem voted_any (ls : List Sl) (sa : Option Addr) (n cap : Nat) (au rd : Int) (w : World) (hn : n = ls.length) (ht : TabAt w sa cap ls) :
    Calls Try.prog 4 #[.slice sa n cap, .int .i64 au, .int .i64 rd] w fun e w' => ∃ ra rc bs er, e = .returned (.tuple #[.slice ra (List.length bs) rc, .int .i64 er]) ∧ VotedIs (vs ls) au rd er bs ∧ SliceAt w' ra rc bs ∧ (∀ sb so, ra = some ⟨sb, so, none⟩ → w.heap.size ≤ sb ∧ sb < w'.heap.size) ∧ Below w.heap.size w w' := by
  subst hn
  have hle := ht.le
  have hmx := ht.max
  rcases tabF_or (vs ls) with h0 | h0
  · go_enter Try.func4, Try.ntmps4
    go_wp2_with fail
    refine (checkTab_any ls sa _ cap w rfl ht).mono ?_
    rintro e w1 ⟨he, hb1⟩
    rw [h0] at he
    subst he
    dsimp only
    go_wp2_with fail
    refine (find_any ls sa _ cap au rd w1 (Nat.le_refl _) ht.small (ht.slots.below hb1)).mono ?_
    rintro e w2 ⟨r, he, hF, hb2⟩
    subst he
    dsimp only
    have hB2 := hb1.trans (hb2.mono hb1.size)
    rcases hF with ⟨m, hm, rfl, h1, h2⟩ | ⟨rfl, h2⟩
    · have hpw := ht.slots.below hB2
      obtain ⟨sb, so, rfl, hc⟩ : ∃ sb so, sa = some ⟨sb, so, none⟩ ∧ ∀ j (h : j < ls.length), w2.cell? ⟨sb, so + j * 3, none⟩ = some (.int .i64 (ls[j]).au) ∧ w2.cell? ⟨sb, so + j * 3 + 1, none⟩ = some (.int .i64 (ls[j]).rd) ∧ w2.cell? ⟨sb, so + j * 3 + 2, none⟩ = some (.slice (ls[j]).p.sa (ls[j]).p.bs.length (ls[j]).p.cap) := by
        rcases hpw.cells with h | h
        · rw [h] at hm; simp at hm
        · exact h
      obtain ⟨c0, c1, c2⟩ := hc m hm
      have hx := hpw.each (ls[m]) (List.getElem_mem hm)
      have h32 := tab_len32 h0 m (by rw [vs_length]; exact hm)
      have hV : Hid (VotedIs (vs ls) au rd 0 (ls[m]).p.bs) := by
        show VotedIs _ _ _ _ _
        exact voted_was h0 m (by rw [vs_length]; exact hm) h1 h2 rfl (by rw [svAt_get ls m hm]; rfl)
      rw [svAt_get ls m hm] at h32
      have h32' : (ls[m]).p.bs.length ≤ 140737488355328 := by
        have : (ls[m]).p.bs.length = 32 := h32
        omega
      have hltI : (m : Int) < ls.length := by omega
      clear hc h1 h2 h32 hpw
      generalize ls[m] = s at *
      go_wp2_with fail
      refine (clone_any s.p.bs s.p.sa _ s.p.cap w2 rfl hx h32').mono ?_
      rintro e w3 ⟨ra, rc, he, hs3, hrow, hb3⟩
      subst he
      dsimp only
      go_wp2_with fail
      go_ret2
      exact ⟨ra, rc, s.p.bs, 0, rfl, hV.out, hs3, (fun sb so e => by have := hrow sb so e; have := hB2.size; omega), hB2.trans (hb3.mono hB2.size)⟩
    · have hV : Hid (VotedIs (vs ls) au rd 8 []) := by
        show VotedIs _ _ _ _ _
        exact voted_not h0 (fun j hj => h2 j (by rw [vs_length] at hj; exact hj)) rfl rfl
      clear h2
      go_wp2_with fail
      go_ret2
      exact ⟨none, 0, [], 8, rfl, hV.out, nilSlice _, (fun _ _ e => by cases e), hB2⟩
  · go_enter Try.func4, Try.ntmps4
    go_wp2_with fail
    refine (checkTab_any ls sa _ cap w rfl ht).mono ?_
    rintro e w1 ⟨he, hb1⟩
    rw [h0] at he
    subst he
    dsimp only
    go_wp2_with fail
    go_ret2
    exact ⟨none, 0, [], 12, rfl, voted_bad h0 rfl rfl, nilSlice _, (fun _ _ e => by cases e), hb1⟩
end Go.Proofs.Ytjhiemafaocjdaa
