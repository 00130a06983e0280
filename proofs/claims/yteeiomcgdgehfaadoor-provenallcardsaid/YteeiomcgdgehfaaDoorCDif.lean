/- seal.allDiffer, for all signs. -/
import Derived.Test.YteeiomcgdgehfaaDoorCSort
namespace Go.Proofs.YteeiomcgdgehfaaDoor
open Go.RowKit

set_option maxRecDepth 100000 in
theorem lin_even {a b : GV} (h1 : ¬ cmpG b a < 0) (h2 : ¬ cmpG a b < 0) : cmpG a b = 0 := by
  rcases Int.lt_trichotomy (cmpG a b) 0 with h | h | h
  · exact absurd h h2
  · exact h
  · exact absurd (lin_cmpK.pos _ _ h) h1
/-- No later one is less than an earlier one. -/
def Rising (ks : List Sg) : Prop := ∀ i j (hi : i < j) (hj : j < ks.length), ¬ cmpG (ks[j]).v (ks[i]).v < 0
set_option maxRecDepth 100000 in
theorem sorted_nodup {ks : List Sg} (hs : Rising ks) (h : ∀ m (hm : m + 1 < ks.length), cmpG (ks[m]).v (ks[m + 1]).v ≠ 0) : (gvs ks).Nodup := by
  rw [List.nodup_iff_pairwise_ne, List.pairwise_iff_getElem]
  intro i j hi hj hij e
  rw [gvs_length] at hi hj
  simp only [gvs, List.getElem_map] at e
  refine h i (by omega) (lin_even (hs i (i + 1) (by omega) (by omega)) ?_)
  rcases Nat.lt_or_ge (i + 1) j with g | g
  · rw [e]; exact hs (i + 1) j g hj
  · obtain rfl : j = i + 1 := by omega
    rw [e, show cmpG (ks[i + 1]).v (ks[i + 1]).v = 0 from lin_cmpK.refl _]; decide
set_option maxRecDepth 100000 in
theorem even_twice {ks : List Sg} (hu : ∀ s ∈ ks, AllU8 s.p.bs) (m : Nat) (hm : m + 1 < ks.length) (h : cmpG (ks[m]).v (ks[m + 1]).v = 0) : ¬ (gvs ks).Nodup := by
  rw [List.nodup_iff_pairwise_ne, List.pairwise_iff_getElem]
  intro k
  refine k m (m + 1) (by rw [gvs_length]; omega) (by rw [gvs_length]; omega) (by omega) ?_
  simp only [gvs, List.getElem_map]
  exact (cmpG_zero (hu _ (List.getElem_mem _)) (hu _ (List.getElem_mem _))).1 h
set_option maxRecDepth 100000 in
theorem perm_nodup {ks ls : List Sg} (h : ks.Perm ls) : (gvs ks).Nodup ↔ (gvs ls).Nodup := (h.map Sg.v).nodup_iff

set_option maxRecDepth 100000 in
set_option maxHeartbeats 4000000 in
theorem allDiffer_any (ls : List Sg) (sa : Option Addr) (n cap : Nat) (w : World) (hn : n = ls.length) (hl : ls.length ≤ 2932031007400) (hp : SignsAt w sa ls) :
    Calls Tryd.prog 52 #[.slice sa n cap] w fun e w' => e = .returned (.bool (decide (gvs ls).Nodup)) ∧ Below w.heap.size w w' := by
  subst hn
  have HE : Hid (∀ s ∈ ls, SliceAt w s.p.sa s.p.cap s.p.bs ∧ AllU8 s.p.bs) := hp.each
  go_enter Tryd.func52, Tryd.ntmps52
  go_wp2_with fail
  refine (cloneSigns_any ls sa _ cap w rfl hl hp).mono ?_
  rintro e w1 ⟨v, he, ho, hb1⟩
  subst he
  dsimp only
  have hQ : ∃ ra rc, v = .slice ra ls.length rc ∧ Calls Tryd.prog 71 #[.slice ra ls.length rc, .func (.func 37) #[] #[]] w1 fun e w' => e = .returned (.tuple #[]) ∧ ∃ ks : List Sg, ks.Perm ls ∧ Rising ks ∧ SignsAt w' ra ks ∧ Below w.heap.size w w' := by
    rcases ho.2 with ⟨rfl, hz⟩ | ⟨g, c2, cur, rfl, hr⟩
    · have hb : ls = [] := List.eq_nil_of_length_eq_zero hz
      subst hb
      refine ⟨none, 0, rfl, (sortE_any none 0 _ w1).mono ?_⟩
      rintro e w' ⟨rfl, rfl⟩
      exact ⟨rfl, [], .nil, fun i j _ hj => by simp at hj, ⟨.inl rfl, fun s hs => by cases hs⟩, hb1⟩
    · by_cases hb : ls = []
      · subst hb
        refine ⟨_, c2, rfl, (sortE_any _ c2 _ w1).mono ?_⟩
        rintro e w' ⟨rfl, rfl⟩
        exact ⟨rfl, [], .nil, fun i j _ hj => by simp at hj, ⟨.inl rfl, fun s hs => by cases hs⟩, hb1⟩
      · exact ⟨_, c2, rfl, sortSigns_any ls g c2 w w1 hb1 hl hb ho HE.out⟩
  obtain ⟨ra, rc, rfl, HS⟩ := hQ
  clear ho hp
  go_wp2_with fail
  refine HS.mono ?_
  rintro e w2 ⟨he, ks, hperm, hso, hks, hb2⟩
  subst he
  dsimp only
  have hlen : ks.length = ls.length := hperm.length_eq
  have HP : Hid ((gvs ks).Nodup ↔ (gvs ls).Nodup) := perm_nodup hperm
  have HSO : Hid (Rising ks) := hso
  have hl2 : ks.length ≤ 2932031007400 := by rw [hlen]; exact hl
  rw [← hlen]
  clear HS hperm hso hlen HE hb1 hl
  go_wp2_with fail
  go_loopw [4] (fun i wr => ∃ m : Nat, (m + 1 ≤ ks.length ∨ m = 0) ∧ i = .int .i64 ((m : Int) + 1) ∧ (∀ j (hj : j < m) (hj2 : j + 1 < ks.length), cmpG (ks[j]).v (ks[j + 1]).v ≠ 0) ∧ Below w2.heap.size w2 wr) (fun i _ => ks.length + 1 - (intOf i).toNat)
  case atStart => exact ⟨0, .inr rfl, by simp, (fun j hj => by omega), Below.refl _ _⟩
  case round =>
    obtain ⟨m, hm, rfl, hno, hb⟩ := hrel
    by_cases hlt : m + 1 < ks.length
    · have hpw := hks.below hb
      obtain ⟨sb, so, rfl, hc⟩ : ∃ sb so, ra = some ⟨sb, so, none⟩ ∧ ∀ j (h : j < ks.length), wr.cell? ⟨sb, so + j * 4, none⟩ = some (.int .i64 (ks[j]).nd) ∧ wr.cell? ⟨sb, so + j * 4 + 1, none⟩ = some (.int .i64 (ks[j]).au) ∧ wr.cell? ⟨sb, so + j * 4 + 2, none⟩ = some (.int .i64 (ks[j]).rd) ∧ wr.cell? ⟨sb, so + j * 4 + 3, none⟩ = some (.slice (ks[j]).p.sa (ks[j]).p.bs.length (ks[j]).p.cap) := by
        rcases hpw.cells with h | h
        · rw [h] at hlt; simp at hlt
        · exact h
      obtain ⟨c0, c1, c2, c3⟩ := hc m (by omega)
      obtain ⟨d0, d1, d2, d3⟩ := hc (m + 1) hlt
      have hx := (hpw.each (ks[m]) (List.getElem_mem (by omega))).1
      have hy := (hpw.each (ks[m + 1]) (List.getElem_mem hlt)).1
      have HT : Hid (cmpG (ks[m]).v (ks[m + 1]).v = 0 → (decide (gvs ls).Nodup) = false) := by
        show _ → _
        intro h
        rw [decide_eq_false_iff_not, ← HP.out]
        exact even_twice (fun s hs => (hks.each s hs).2) m hlt h
      have HN : Hid (cmpG (ks[m]).v (ks[m + 1]).v ≠ 0 → ∀ j (hj : j < m + 1) (hj2 : j + 1 < ks.length), cmpG (ks[j]).v (ks[j + 1]).v ≠ 0) := by
        show _ → _
        intro h j hj hj2
        rcases Nat.lt_or_ge j m with g | g
        · exact hno j g hj2
        · obtain rfl : j = m := by omega
          exact h
      have hblt := block_lt_of_cell c0
      have hltI : (m : Int) + 1 < ks.length := by omega
      have hltJ : (m : Int) < ks.length := by omega
      have hwr : IntKind.i64.wrap ((m : Int) + 1 - 1) = m := by rw [IntKind.wrap_i64]; omega
      have hwr2 : IntKind.i64.wrap (m : Int) = m := by rw [IntKind.wrap_i64]; omega
      have hpos : ¬ (m : Int) + 1 < 0 := by omega
      have HC := compare_any (ks[m]) (ks[m + 1]) wr.drew (hx.below (Below.refl _ _).drew) (hy.below (Below.refl _ _).drew)
      clear hc hno hpw hx hy
      generalize ks[m] = s at *
      generalize ks[m + 1] = t at *
      generalize hr : cmpG s.v t.v = r at HC
      have HR : Hid (cmpG s.v t.v = r) := hr
      clear hr
      go_wp2_with fail
      refine wp_region_held_drew (S := (fun w' => w'.cell? ⟨sb, so + m * 4, none⟩ = some (.int .i64 s.nd) ∧ w'.cell? ⟨sb, so + m * 4 + 1, none⟩ = some (.int .i64 s.au) ∧ w'.cell? ⟨sb, so + m * 4 + 2, none⟩ = some (.int .i64 s.rd) ∧ w'.cell? ⟨sb, so + m * 4 + 3, none⟩ = some (.slice s.p.sa s.p.bs.length s.p.cap) ∧ w'.cell? ⟨sb, so + (m + 1) * 4, none⟩ = some (.int .i64 t.nd) ∧ w'.cell? ⟨sb, so + (m + 1) * 4 + 1, none⟩ = some (.int .i64 t.au) ∧ w'.cell? ⟨sb, so + (m + 1) * 4 + 2, none⟩ = some (.int .i64 t.rd) ∧ w'.cell? ⟨sb, so + (m + 1) * 4 + 3, none⟩ = some (.slice t.p.sa t.p.bs.length t.p.cap))) (by kernel_rfl) ⟨c0, c1, c2, c3, d0, d1, d2, d3⟩ (fun hHeld => ?_)
      refine take_dst (i := 0) (d := 15) (v := .slice (some ⟨sb, so, none⟩) ks.length rc) rfl rfl (by kernel_rfl) (by kernel_rfl) (by kernel_rfl) (fun _ _ _ h => h) (Or.inl ⟨by rfl, ?_⟩) hHeld ?_
      · (intro w0 hSw; (try dsimp only at hSw); go_simp)
      simp only [Act.put, List.setIfInBounds_toArray, List.set_cons_zero, List.set_cons_succ]
      refine take_dst (i := 1) (d := 16) (v := .int .i64 ((m : Int) + 1)) rfl rfl (by kernel_rfl) (by kernel_rfl) (by kernel_rfl) (fun _ _ _ h => h) (Or.inl ⟨by rfl, ?_⟩) hHeld ?_
      · (intro w0 hSw; (try dsimp only at hSw); go_simp)
      simp only [Act.put, List.setIfInBounds_toArray, List.set_cons_zero, List.set_cons_succ]
      refine take_dst (i := 2) (d := 17) (v := .int .i64 m) rfl rfl (by kernel_rfl) (by kernel_rfl) (by kernel_rfl) (fun _ _ _ h => h) (Or.inl ⟨by rfl, ?_⟩) hHeld ?_
      · (intro w0 hSw; (try dsimp only at hSw); go_simp)
      simp only [Act.put, List.setIfInBounds_toArray, List.set_cons_zero, List.set_cons_succ]
      refine take_dst (i := 3) (d := 18) (v := .pointer (some ⟨sb, so + m * 4, none⟩)) rfl rfl (by kernel_rfl) (by kernel_rfl) (by kernel_rfl) (fun _ _ _ h => h) (Or.inl ⟨by rfl, ?_⟩) hHeld ?_
      · (intro w0 hSw; (try dsimp only at hSw); go_simp)
      simp only [Act.put, List.setIfInBounds_toArray, List.set_cons_zero, List.set_cons_succ]
      refine take_dst (i := 4) (d := 19) (v := .agg #[.int .i64 s.nd, .int .i64 s.au, .int .i64 s.rd, .slice s.p.sa s.p.bs.length s.p.cap]) rfl rfl (by kernel_rfl) (by kernel_rfl) (by kernel_rfl) (fun _ _ _ h => h) (Or.inl ⟨by rfl, ?_⟩) hHeld ?_
      · (intro w0 hSw; (try dsimp only at hSw); go_simp)
      simp only [Act.put, List.setIfInBounds_toArray, List.set_cons_zero, List.set_cons_succ]
      refine take_dst (i := 5) (d := 20) (v := .slice (some ⟨sb, so, none⟩) ks.length rc) rfl rfl (by kernel_rfl) (by kernel_rfl) (by kernel_rfl) (fun _ _ _ h => h) (Or.inl ⟨by rfl, ?_⟩) hHeld ?_
      · (intro w0 hSw; (try dsimp only at hSw); go_simp)
      simp only [Act.put, List.setIfInBounds_toArray, List.set_cons_zero, List.set_cons_succ]
      refine take_dst (i := 6) (d := 21) (v := .int .i64 ((m : Int) + 1)) rfl rfl (by kernel_rfl) (by kernel_rfl) (by kernel_rfl) (fun _ _ _ h => h) (Or.inl ⟨by rfl, ?_⟩) hHeld ?_
      · (intro w0 hSw; (try dsimp only at hSw); go_simp)
      simp only [Act.put, List.setIfInBounds_toArray, List.set_cons_zero, List.set_cons_succ]
      refine take_dst (i := 7) (d := 22) (v := .pointer (some ⟨sb, so + (m + 1) * 4, none⟩)) rfl rfl (by kernel_rfl) (by kernel_rfl) (by kernel_rfl) (fun _ _ _ h => h) (Or.inl ⟨by rfl, ?_⟩) hHeld ?_
      · (intro w0 hSw; (try dsimp only at hSw); go_simp)
      simp only [Act.put, List.setIfInBounds_toArray, List.set_cons_zero, List.set_cons_succ]
      refine take_dst (i := 8) (d := 23) (v := .agg #[.int .i64 t.nd, .int .i64 t.au, .int .i64 t.rd, .slice t.p.sa t.p.bs.length t.p.cap]) rfl rfl (by kernel_rfl) (by kernel_rfl) (by kernel_rfl) (fun _ _ _ h => h) (Or.inl ⟨by rfl, ?_⟩) hHeld ?_
      · (intro w0 hSw; (try dsimp only at hSw); go_simp)
      simp only [Act.put, List.setIfInBounds_toArray, List.set_cons_zero, List.set_cons_succ]
      refine wpAnyH_ready (rs := [9]) (by kernel_rfl) (by simp) (AllReadyH.cons rfl (fun K hK => ?_) AllReadyH.nil)
      refine step_calls_dst rfl 24 rfl 37 [.tmp 19, .tmp 23] #[52, 52] rfl [.agg #[.int .i64 s.nd, .int .i64 s.au, .int .i64 s.rd, .slice s.p.sa s.p.bs.length s.p.cap], .agg #[.int .i64 t.nd, .int .i64 t.au, .int .i64 t.rd, .slice t.p.sa t.p.bs.length t.p.cap]] rfl (enters_of Tryd.func37 (by kernel_rfl) rfl) (fun v w' => v = .int .i64 r ∧ Below wr.heap.size wr w') (HC.mono (fun e w2 h => ⟨_, h.1, rfl, below_drew h.2.below⟩)) ?_
      rintro v w3 ⟨rfl, hbB⟩
      refine hK.out _ _ ⟨(hbB.cell (p := ⟨sb, so + m * 4, none⟩) hblt).trans c0, (hbB.cell (p := ⟨sb, so + m * 4 + 1, none⟩) hblt).trans c1, (hbB.cell (p := ⟨sb, so + m * 4 + 2, none⟩) hblt).trans c2, (hbB.cell (p := ⟨sb, so + m * 4 + 3, none⟩) hblt).trans c3, (hbB.cell (p := ⟨sb, so + (m + 1) * 4, none⟩) hblt).trans d0, (hbB.cell (p := ⟨sb, so + (m + 1) * 4 + 1, none⟩) hblt).trans d1, (hbB.cell (p := ⟨sb, so + (m + 1) * 4 + 2, none⟩) hblt).trans d2, (hbB.cell (p := ⟨sb, so + (m + 1) * 4 + 3, none⟩) hblt).trans d3⟩ (fun hHeld => ?_)
      simp only [Act.put, List.setIfInBounds_toArray, List.set_cons_zero, List.set_cons_succ]
      have hB3 := hb.trans (hbB.mono hb.size)
      by_cases h0 : r = 0
      · have hF := HT.out (by rw [HR.out]; exact h0)
        have HF : Hid _ := hF
        have h0b : (r == 0) = true := by simpa using h0
        clear HT HN HC hF
        refine take_dst (i := 10) (d := 25) (v := .bool true) rfl rfl (by kernel_rfl) (by kernel_rfl) (by kernel_rfl) (fun _ _ _ h => h) (Or.inl ⟨by rfl, ?_⟩) hHeld ?_
        · (intro w0 hSw; (try dsimp only at hSw); go_simp)
        simp only [Act.put, List.setIfInBounds_toArray, List.set_cons_zero, List.set_cons_succ]
        refine wpAnyH_done (by kernel_rfl) ?_ _
        go_wp2_with fail
        go_ret
        exact ⟨ret_bool HF.out.symm, hb2.trans (hB3.mono hb2.size)⟩
      · have hF := HN.out (by rw [HR.out]; exact h0)
        have HF : Hid _ := hF
        have h0b : (r == 0) = false := by simpa using h0
        clear HT HN HC hF
        refine take_dst (i := 10) (d := 25) (v := .bool false) rfl rfl (by kernel_rfl) (by kernel_rfl) (by kernel_rfl) (fun _ _ _ h => h) (Or.inl ⟨by rfl, ?_⟩) hHeld ?_
        · (intro w0 hSw; (try dsimp only at hSw); go_simp)
        simp only [Act.put, List.setIfInBounds_toArray, List.set_cons_zero, List.set_cons_succ]
        refine wpAnyH_done (by kernel_rfl) ?_ _
        go_wp2_with fail
        go_roundw
        case rel => exact ⟨m + 1, .inl (by omega), by go_num, HF.out, hB3⟩
        case measure => simp [intOf]; omega
    · have hF : Hid ((decide (gvs ls).Nodup) = true) := by
        show _ = _
        rw [decide_eq_true_eq, ← HP.out]
        exact sorted_nodup HSO.out (fun j hj => hno j (by omega) hj)
      clear hno
      go_wp2_with fail
      go_ret
      exact ⟨ret_bool hF.out.symm, hb2.trans (hb.mono hb2.size)⟩
end Go.Proofs.YteeiomcgdgehfaaDoor
