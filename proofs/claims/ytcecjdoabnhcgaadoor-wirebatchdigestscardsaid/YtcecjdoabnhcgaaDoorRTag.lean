/- The document's answer, package sheavesref: TaggedOf, for every tag and every list of parts. -/
import Derived.Test.YtcecjdoabnhcgaaDoorTagged
import Derived.Test.YtcecjdoabnhcgaaDoorRDig
import Derived.Test.YtcecjdoabnhcgaaDoorJoined
import Derived.Test.YtcecjdoabnhcgaaDoorOwnL
namespace Go.Proofs.YtcecjdoabnhcgaaDoor
open Go.RowKit

set_option maxRecDepth 100000 in
theorem psz_le (ps : List Part) (k : Nat) (hk : k ≤ ps.length) : psz ps k ≤ psz ps ps.length := psz_mono ps k ps.length hk
set_option maxRecDepth 100000 in
theorem psz_two (ps : List Part) (k : Nat) : 2 * k ≤ psz ps k := by
  induction k with
  | zero => exact Nat.le_refl _
  | succ k ih => simp [psz]; omega
set_option maxRecDepth 100000 in
theorem getD_bs {ps qs : List Part} (h : Same ps qs) (k : Nat) : (ps.getD k ⟨none, 0, []⟩).bs = (qs.getD k ⟨none, 0, []⟩).bs := by
  have hk : (ps.map (·.bs))[k]? = (qs.map (·.bs))[k]? := by rw [h]
  simp only [List.getElem?_map] at hk
  simp only [List.getD]
  cases h1 : ps[k]? <;> cases h2 : qs[k]? <;> simp_all
set_option maxRecDepth 100000 in
theorem psz_same {ps qs : List Part} (h : Same ps qs) (k : Nat) : psz ps k = psz qs k := by
  induction k with
  | zero => rfl
  | succ k ih => rw [psz, psz, ih, getD_bs h]
set_option maxRecDepth 100000 in
theorem tagTo_same (tag : Int) {ps qs : List Part} (h : Same ps qs) (k : Nat) : tagTo tag ps k = tagTo tag qs k := by
  induction k with
  | zero => rfl
  | succ k ih => rw [tagTo, tagTo, ih, getD_bs h]
set_option maxRecDepth 100000 in
theorem tagTo_u8 (tag : Int) (ps : List Part) (ht : 0 ≤ tag ∧ tag ≤ 255) (hu : ∀ p ∈ ps, AllU8 p.bs) (k : Nat) (hk : k ≤ ps.length) : AllU8 (tagTo tag ps k) := by
  induction k with
  | zero => intro x hx; simp [tagTo] at hx; subst hx; exact ht
  | succ k ih =>
    have hlt : k < ps.length := by omega
    have hp : ps.getD k ⟨none, 0, []⟩ = ps[k] := by simp [hlt]
    intro x hx
    rw [tagTo, hp] at hx
    rcases List.mem_append.1 hx with hx | hx
    · rcases List.mem_append.1 hx with hx | hx
      · exact ih (by omega) x hx
      · simp at hx
        omega
    · exact hu _ (List.getElem_mem hlt) x hx

set_option maxRecDepth 100000 in
set_option maxHeartbeats 2000000 in
theorem taggedOf_any (tag : Int) (ps : List Part) (sa : Option Addr) (n cap : Nat) (w : World) (ht : 0 ≤ tag ∧ tag ≤ 255) (hn : n = ps.length) (hm : n ≤ 9000000000000000000) (hp : PartsAt w sa ps) (hu : ∀ p ∈ ps, AllU8 p.bs) :
    Calls Tryd.prog 47 #[.int .u8 tag, .slice sa n cap] w fun e w' => Below w.heap.size w w' ∧ ((4000 < 1 + psz ps ps.length ∧ e = .returned (.tuple #[.slice none 0 0, .int .i64 1])) ∨ (1 + psz ps ps.length ≤ 4000 ∧ ∃ g c, e = .returned (.tuple #[.slice (some ⟨g, 0, none⟩) 32 c, .int .i64 0]) ∧ SliceAt w' (some ⟨g, 0, none⟩) c (sumL (tagTo tag ps ps.length)))) := by
  subst hn
  obtain ⟨i, hi, hz0, hz1, hz2⟩ := info_parts infoU8
  have hlit := World.ownsRow_lit (base := w.heap.size) (e := 5) (size := 1) w (ub [tag]).toArray 1 (Nat.le_refl _) (by decide) rfl
  go_enter Tryd.func47, Tryd.ntmps47
  go_wp2_with fail
  go_loopw [7, 6] (fun j v wr => ∃ k : Nat, k ≤ ps.length ∧ j = .int .i64 k ∧ 1 + psz ps k ≤ 4000 ∧ Below w.heap.size w wr ∧ wr.ownsRow w.heap.size 5 1 v (1 + psz ps k) (ub (tagTo tag ps k))) (fun j _ _ => ps.length - (intOf j).toNat)
  case atStart => exact ⟨0, Nat.zero_le _, rfl, by simp [psz], (Below.refl _ _).alloc (Nat.le_refl _) _, hlit⟩
  case round =>
    clear hlit
    obtain ⟨k, hk, rfl, hz, hb, ho⟩ := hrel
    obtain ⟨xa, xc, hv, hxl, hxs⟩ := owns_form ho
    subst hv
    by_cases hlt : k < ps.length
    · have hpw := hp.below hb
      obtain ⟨sb, so, rfl, hc⟩ : ∃ sb so, sa = some ⟨sb, so, none⟩ ∧ ∀ j (h : j < ps.length), wr.cell? ⟨sb, so + j, none⟩ = some (.slice (ps[j]).sa (ps[j]).bs.length (ps[j]).cap) := by
        rcases hpw.cells with h | h
        · rw [h] at hlt; simp at hlt
        · exact h
      have ck := hc k hlt
      have hx := hpw.each (ps[k]) (List.getElem_mem hlt)
      have hxw := hp.each (ps[k]) (List.getElem_mem hlt)
      have hsb : sb < w.heap.size := by
        rcases hp.cells with h | ⟨sb', so', e, h⟩
        · rw [h] at hlt; simp at hlt
        · cases e; exact block_lt_of_cell (h k hlt)
      have hg : ps.getD k ⟨none, 0, []⟩ = ps[k] := by simp [hlt]
      have h2 : Hid (psz ps (k + 1) = psz ps k + (2 + (ps[k]).bs.length)) := by show _ = _; rw [psz, hg]
      have h3 : Hid (tagTo tag ps (k + 1) = tagTo tag ps k ++ [((ps[k]).bs.length : Int) / 256 % 256, ((ps[k]).bs.length : Int) % 256] ++ (ps[k]).bs) := by show _ = _; rw [tagTo, hg]
      have h4 := psz_le ps (k + 1) hlt
      rw [h2.out] at h4
      have hltI : (k : Int) < ps.length := by omega
      have hxm : (ps[k]).bs.length ≤ 9223372036854775807 := Nat.le_trans hx.le hx.max
      clear hc hg hxl
      generalize ps[k] = p at *
      have Hs : Hid (SliceAt wr xa xc (tagTo tag ps k)) := hxs
      clear hxs
      generalize hZ : psz ps ps.length = Z at *
      have hlT := tagTo_length tag ps k
      generalize tagTo tag ps k = T at *
      generalize psz ps k = z at *
      by_cases hA : 4000 < p.bs.length
      · have hAI : (4000 : Int) < p.bs.length := by omega
        have hbig : Hid (4000 < 1 + Z) := by show _ < _; omega
        clear h2 h3
        go_wp2_with fail
        go_ret2
        exact ⟨hb, .inl ⟨by first | exact hbig.out | (rw [hZ]; exact hbig.out), rfl⟩⟩
      · have hAI : ¬ (4000 : Int) < p.bs.length := by omega
        by_cases hB : 4000 < 1 + z + 2 + p.bs.length
        · have hBI : (4000 : Int) < (1 + z : Nat) + 2 + (p.bs.length : Int) := by omega
          have hbig : Hid (4000 < 1 + Z) := by show _ < _; omega
          clear h2 h3
          go_wp2_with fail
          go_ret2
          exact ⟨hb, .inl ⟨by first | exact hbig.out | (rw [hZ]; exact hbig.out), rfl⟩⟩
        · have hBI : ¬ (4000 : Int) < (1 + z : Nat) + 2 + (p.bs.length : Int) := by omega
          go_wp2_with (at_builtin; refine wpList_append_own _ rfl _ _ 25 rfl w.heap.size 5 i (.int .u8 0) 1 1 Tryd.underlying25 hi hz0 hz1 hz2 rfl (by decide) _ (1 + z) _ rfl (World.ownsRow.alloc ho _) ⟨wr.heap.size, 0, none⟩ 2 2 [.int .u8 ((p.bs.length : Int) / 256), .int .u8 ((p.bs.length : Int) % 256)] rfl rfl (cells_new _ _ _) (u8_one [_, _]) (by unfold maxLen; omega) (by omega) (le_alloc hb.size _) ?_; intro v1 w2 ho1 hg1 _; have hbr := Below.grown ((Below.refl w.heap.size wr).alloc hb.size _) hg1 (le_alloc hb.size _) (fun q e => (ho.lt q e).1); have ck2 := (hbr.cell (p := ⟨sb, so + k, none⟩) hsb).trans ck)
          have hb2 := hb.trans hbr
          have ho1' : w2.ownsRow w.heap.size 5 1 v1 (1 + z + 2) (ub (T ++ [(p.bs.length : Int) / 256, (p.bs.length : Int) % 256])) := by simpa [ub] using ho1
          obtain ⟨ya, yc, hv, hyl, hy⟩ := owns_form ho1'
          subst hv
          have e1 : (p.bs.length : Int) / 256 % 256 = (p.bs.length : Int) / 256 := by omega
          refine (joined_any (T ++ [(p.bs.length : Int) / 256, (p.bs.length : Int) % 256]) p.bs ya p.sa _ _ yc p.cap w2 hyl rfl hy (hxw.below hb2) (by simp; omega)).mono ?_
          rintro e w3 ⟨v3, he, ho3, hb3⟩
          subst he
          dsimp only
          have hlen : (T ++ [(p.bs.length : Int) / 256, (p.bs.length : Int) % 256]).length + p.bs.length = 1 + psz ps (k + 1) := by rw [h2.out]; simp; omega
          rw [hlen] at ho3
          go_wp2_with fail
          go_roundw
          case rel =>
            have hR : ∃ k' : Nat, k' ≤ ps.length ∧ (Value.int .i64 ((k : Int) + 1)) = .int .i64 k' ∧ 1 + psz ps k' ≤ 4000 ∧ Below w.heap.size w w3 ∧ w3.ownsRow w.heap.size 5 1 v3 (1 + psz ps k') (ub (tagTo tag ps k')) :=
              ⟨k + 1, by omega, by go_num, by rw [h2.out]; omega, hb2.trans (hb3.mono hb2.size), by rw [h3.out, e1]; exact ownsRow_base' ho3 hb2.size⟩
            first | exact hR | ((repeat apply Exists.intro); exact ⟨hR, rfl⟩)
          case measure => simp [intOf]; omega
    · obtain rfl : k = ps.length := by omega
      have hu8 := tagTo_u8 tag ps ht hu ps.length (Nat.le_refl _)
      have hl4 : (tagTo tag ps ps.length).length ≤ 4000 := by omega
      go_wp2_with fail
      refine (digested_any (tagTo tag ps ps.length) xa _ xc wr (by first | rfl | exact hxl) hl4 hxs hu8).mono ?_
      rintro e w3 ⟨g, c, he, hb3, ho3⟩
      subst he
      dsimp only
      go_wp2_with fail
      go_ret2
      exact ⟨hb.trans (hb3.mono hb.size), .inr ⟨hz, g, c, rfl, (sliceAt_of_owns ho3).2⟩⟩
end Go.Proofs.YtcecjdoabnhcgaaDoor
