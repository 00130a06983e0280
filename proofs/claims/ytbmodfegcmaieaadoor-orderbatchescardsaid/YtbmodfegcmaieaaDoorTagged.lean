/- blake.fits and blake.Tagged: for every tag and every list of parts: more than 4000 bytes, the lengths and the tag among them, are refused with ErrSize; else the digest of the tag and of each part behind its length. -/
import Derived.Test.YtbmodfegcmaieaaDoorApp
import Derived.Test.YtbmodfegcmaieaaDoorLib
import Derived.Test.YtbmodfegcmaieaaDoorParts
namespace Go.Proofs.YtbmodfegcmaieaaDoor
open Go.RowKit

/-- How many bytes the first k parts take, their lengths with them. -/
def psz (ps : List Part) : Nat → Nat
  | 0 => 0
  | k + 1 => psz ps k + (2 + (ps.getD k ⟨none, 0, []⟩).bs.length)
set_option maxRecDepth 100000 in
theorem psz_mono (ps : List Part) (j k : Nat) (h : j ≤ k) : psz ps j ≤ psz ps k := by
  induction k with
  | zero => obtain rfl : j = 0 := by omega
            exact Nat.le_refl _
  | succ k ih =>
    rcases Nat.lt_or_ge j (k + 1) with g | g
    · exact Nat.le_trans (ih (by omega)) (by simp [psz])
    · obtain rfl : j = k + 1 := by omega
      exact Nat.le_refl _

set_option maxRecDepth 100000 in
set_option maxHeartbeats 1000000 in
theorem fits_yes (ps : List Part) (sa : Option Addr) (n cap : Nat) (w : World) (hn : n = ps.length) (hp : PartsAt w sa ps) (hs : 1 + psz ps ps.length ≤ 4000) :
    Calls Tryd.prog 83 #[.slice sa n cap] w fun e w' => e = .returned (.bool true) ∧ w = w' := by
  subst hn
  have hlen : ps.length ≤ 2000 := by
    have : ∀ k, 2 * k ≤ psz ps k := by
      intro k
      induction k with
      | zero => exact Nat.le_refl _
      | succ k ih => simp [psz]; omega
    have := this ps.length
    omega
  go_enter Tryd.func83, Tryd.ntmps83
  go_wp2_with fail
  go_loop [8, 3] (fun i r => ∃ k : Nat, k ≤ ps.length ∧ i = .int .i64 k ∧ r = .int .i64 (3999 - (psz ps k : Int))) (fun i _ => ps.length - (intOf i).toNat)
  case atStart => exact ⟨0, Nat.zero_le _, rfl, rfl⟩
  case round =>
    obtain ⟨k, hk, rfl, rfl⟩ := hrel
    by_cases hlt : k < ps.length
    · rcases hp.cells with hc | ⟨sb, so, rfl, hc⟩
      · subst hc; simp at hlt
      have ck := hc k hlt
      have h1 := psz_mono ps (k + 1) ps.length hlt
      have h2 : Hid (psz ps (k + 1) = psz ps k + (2 + (ps[k]).bs.length)) := by show _ = _; simp [psz, hlt]
      have h3 : psz ps k + (2 + (ps[k]).bs.length) ≤ 3999 := by have := h2.out; omega
      generalize (ps[k]).bs.length = m at ck h2 h3
      generalize (ps[k]).sa = pa at ck
      generalize (ps[k]).cap = pc at ck
      clear h1 hc hp
      generalize psz ps k = z at *
      have h4 : ¬ ((3999 : Int) - z - 2 < m) := by omega
      go_wp2_with fail
      go_round
      case rel => exact ⟨k + 1, by omega, by go_num, by rw [h2.out]; go_num⟩
      case measure => simp [intOf]; omega
    · go_wp2_with fail
      go_ret
      exact ⟨rfl, rfl⟩

set_option maxRecDepth 100000 in
set_option maxHeartbeats 1000000 in
theorem fits_no (ps : List Part) (sa : Option Addr) (n cap : Nat) (w : World) (hn : n = ps.length) (hm : n ≤ maxLen) (hp : PartsAt w sa ps) (hs : 4000 < 1 + psz ps ps.length) :
    Calls Tryd.prog 83 #[.slice sa n cap] w fun e w' => e = .returned (.bool false) ∧ w = w' := by
  subst hn
  unfold maxLen at hm
  go_enter Tryd.func83, Tryd.ntmps83
  go_wp2_with fail
  go_loop [8, 3] (fun i r => ∃ k : Nat, k ≤ ps.length ∧ psz ps k ≤ 3999 ∧ i = .int .i64 k ∧ r = .int .i64 (3999 - (psz ps k : Int))) (fun i _ => ps.length - (intOf i).toNat)
  case atStart => exact ⟨0, Nat.zero_le _, Nat.zero_le _, rfl, rfl⟩
  case round =>
    obtain ⟨k, hk, hz, rfl, rfl⟩ := hrel
    by_cases hlt : k < ps.length
    · rcases hp.cells with hc | ⟨sb, so, rfl, hc⟩
      · subst hc; simp at hlt
      have ck := hc k hlt
      have h2 : Hid (psz ps (k + 1) = psz ps k + (2 + (ps[k]).bs.length)) := by show _ = _; simp [psz, hlt]
      have hx := hp.each (ps[k]) (List.getElem_mem hlt)
      have hm2 : (ps[k]).bs.length ≤ 9223372036854775807 := Nat.le_trans hx.le hx.max
      clear hx
      generalize (ps[k]).bs.length = m at ck h2 hm2
      generalize (ps[k]).sa = pa at ck
      generalize (ps[k]).cap = pc at ck
      clear hc hp
      have hzk : Hid (psz ps k ≤ 3999) := hz
      generalize psz ps k = z at *
      by_cases h4 : (3999 : Int) - z - 2 < m
      · go_wp2_with fail
        go_ret
        exact ⟨rfl, rfl⟩
      · go_wp2_with fail
        go_round
        case rel => exact ⟨k + 1, by omega, by rw [h2.out]; omega, by go_num, by rw [h2.out]; go_num⟩
        case measure => simp [intOf]; omega
    · obtain rfl : k = ps.length := by omega
      omega
set_option maxRecDepth 100000 in
theorem ub_app {w : World} {base n : Nat} {v : Value} {bs cs : List Int} (h : w.ownsRow base 5 1 v n (ub bs ++ cs.map (Value.int .u8))) : w.ownsRow base 5 1 v n (ub (bs ++ cs)) := by
  simpa [ub] using h
/-- P1.5: the tag, and each part behind its length. -/
def tagTo (tag : Int) (ps : List Part) : Nat → List Int
  | 0 => [tag]
  | k + 1 => tagTo tag ps k ++ [((ps.getD k ⟨none, 0, []⟩).bs.length : Int) / 256 % 256, ((ps.getD k ⟨none, 0, []⟩).bs.length : Int) % 256] ++ (ps.getD k ⟨none, 0, []⟩).bs
set_option maxRecDepth 100000 in
theorem tagTo_length (tag : Int) (ps : List Part) (k : Nat) : (tagTo tag ps k).length = 1 + psz ps k := by
  induction k with
  | zero => rfl
  | succ k ih => simp [tagTo, psz, ih]; omega

set_option maxRecDepth 100000 in
set_option maxHeartbeats 400000 in
theorem tagged_big (tag : Int) (ps : List Part) (sa : Option Addr) (n cap : Nat) (w : World) (hn : n = ps.length) (hm : n ≤ maxLen) (hp : PartsAt w sa ps) (hs : 4000 < 1 + psz ps ps.length) :
    Calls Tryd.prog 61 #[.int .u8 tag, .slice sa n cap] w fun e w' => e = .returned (.tuple #[.slice none 0 0, .int .i64 1]) ∧ w = w' := by
  subst hn
  go_enter Tryd.func61, Tryd.ntmps61
  go_wp2_with fail
  refine (fits_no ps sa _ cap w rfl hm hp hs).mono ?_
  rintro e w' ⟨rfl, rfl⟩
  go_wp2_with fail
  go_ret2
  exact ⟨rfl, rfl⟩

set_option maxRecDepth 100000 in
set_option maxHeartbeats 1000000 in
theorem tagged_ok (tag : Int) (ps : List Part) (sa : Option Addr) (n cap : Nat) (w : World) (hn : n = ps.length) (hp : PartsAt w sa ps) (hs : 1 + psz ps ps.length ≤ 4000) (hT : Tabs w) :
    Calls Tryd.prog 61 #[.int .u8 tag, .slice sa n cap] w fun e w' => ∃ b, e = .returned (.tuple #[.slice (some ⟨b, 0, none⟩) 32 32, .int .i64 0]) ∧ w.heap.size ≤ b ∧ Below w.heap.size w w' ∧ SliceAt w' (some ⟨b, 0, none⟩) 32 (sumL (tagTo tag ps ps.length)) := by
  subst hn
  have hlen : ps.length ≤ 2000 := by
    have : ∀ k, 2 * k ≤ psz ps k := by
      intro k
      induction k with
      | zero => exact Nat.le_refl _
      | succ k ih => simp [psz]; omega
    have := this ps.length
    omega
  obtain ⟨i, hi, hz0, hz1, hz2⟩ := info_parts infoU8
  have hown0 : (w.alloc (.cells #[.int .u8 tag] 5)).ownsRow w.heap.size 5 1 (.slice (some ⟨w.heap.size, 0, none⟩) 1 1) 1 (ub (tagTo tag ps 0)) :=
    World.ownsRow_lit w #[.int .u8 tag] 1 (Nat.le_refl _) (by decide) rfl
  go_enter Tryd.func61, Tryd.ntmps61
  go_wp2_with fail
  refine (fits_yes ps sa _ cap w rfl hp hs).mono ?_
  rintro e w' ⟨rfl, rfl⟩
  go_wp2_with fail
  go_loopw [16, 6] (fun j v wr => ∃ k : Nat, k ≤ ps.length ∧ j = .int .i64 k ∧ Below w.heap.size w wr ∧ wr.ownsRow w.heap.size 5 1 v (1 + psz ps k) (ub (tagTo tag ps k))) (fun j _ _ => ps.length - (intOf j).toNat)
  case atStart => exact ⟨0, Nat.zero_le _, rfl, (Below.refl _ _).alloc (Nat.le_refl _) _, hown0⟩
  case round =>
    obtain ⟨k, hk, rfl, hb, ho⟩ := hrel
    by_cases hlt : k < ps.length
    · have hp' := hp.below hb
      rcases hp'.cells with hc | ⟨sb, so, rfl, hc⟩
      · subst hc; simp at hlt
      have ck := hc k hlt
      have h1 := psz_mono ps (k + 1) ps.length hlt
      have h2 : Hid (psz ps (k + 1) = psz ps k + (2 + (ps[k]).bs.length)) := by show _ = _; simp [psz, hlt]
      have h3 : psz ps k + (2 + (ps[k]).bs.length) ≤ 3999 := by have := h2.out; omega
      have hq : ((ps[k]).bs.length : Int) / 256 % 256 = ((ps[k]).bs.length : Int) / 256 := by omega
      have ht : Hid (tagTo tag ps (k + 1) = tagTo tag ps k ++ [((ps[k]).bs.length : Int) / 256, ((ps[k]).bs.length : Int) % 256] ++ (ps[k]).bs) := by
        show _ = _
        rw [← hq]
        simp [tagTo, hlt]
      have hpk := hp.each (ps[k]) (List.getElem_mem hlt)
      have hm : Hid ((ps[k]).bs.length = (ps[k]).bs.length) := rfl
      clear h1 hc hp' hp hq
      generalize ps[k] = p at *
      obtain ⟨pa, pc, bs⟩ := p
      simp only at ck h2 h3 ht hpk
      clear hm
      have tok : True := trivial
      go_wp2_with (first | (at_builtin; have _t := tok; refine wpList_append_own _ rfl _ _ 46 rfl w.heap.size 5 i (.int .u8 0) 1 1 Tryd.underlying46 hi hz0 hz1 hz2 rfl (by decide) _ (1 + psz ps k) _ rfl (ho.alloc _) ⟨wr.heap.size, 0, none⟩ 2 2 [.int .u8 ((bs.length : Int) / 256), .int .u8 ((bs.length : Int) % 256)] rfl rfl (cells_new _ _ _) (u8_one [_, _]) (by unfold maxLen; omega) (by omega) (le_alloc hb.size _) ?_; clear tok; intro v1 w1 ho1 hg1 _) | (at_builtin; refine wpList_append_part rfl _ _ rfl w.heap.size _ _ (tagTo tag ps k ++ [(bs.length : Int) / 256, (bs.length : Int) % 256]) rfl (ub_app ho1) pa bs.length pc bs rfl rfl (hpk.below (Below.grown (hb.alloc hb.size _) hg1 (le_alloc hb.size _) (fun q e => (ho.lt q e).1))) (by omega) (Nat.le_trans (le_alloc hb.size _) hg1.size) ?_; intro v2 w2 ho2 hg2))
      have hb1 := Below.grown (hb.alloc hb.size _) hg1 (le_alloc hb.size _) (fun q e => (ho.lt q e).1)
      have hb2 := Below.grown hb1 hg2 hb1.size (fun q e => (ho1.lt q e).1)
      go_roundw
      case rel =>
        refine ⟨k + 1, by omega, by go_num, hb2, ?_⟩
        rw [ht.out, h2.out, show 1 + (psz ps k + (2 + bs.length)) = 1 + psz ps k + 2 + bs.length by omega]
        exact ho2
      case measure => simp [intOf]; omega
    · obtain rfl : k = ps.length := by omega
      obtain ⟨sa', cap', hv, hl', hsl⟩ := owns_form ho
      subst hv
      have HL : Hid (1 + psz ps ps.length = (tagTo tag ps ps.length).length) := hl'
      clear hl'
      go_wp2_with fail
      refine (sum_ok (tagTo tag ps ps.length) sa' _ cap' wr HL.out (by rw [tagTo_length]; exact hs) hsl (hT.below hb)).mono ?_
      rintro e w2 ⟨b, rfl, hle, hb2, hr⟩
      go_wp2_with fail
      go_ret2
      exact ⟨b, rfl, Nat.le_trans hb.size hle, hb.trans (hb2.mono hb.size), hr⟩
end Go.Proofs.YtbmodfegcmaieaaDoor
