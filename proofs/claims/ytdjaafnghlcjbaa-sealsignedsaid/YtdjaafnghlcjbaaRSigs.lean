/- The document's SignsFault, for all signs. -/
import Derived.Test.YtdjaafnghlcjbaaRSig
namespace Go.Proofs.Ytdjaafnghlcjbaa
open Go.RowKit

set_option maxRecDepth 100000 in
theorem take_twice {α : Type} {l : List α} {m : Nat} (hm : m < l.length) (h : l[m] ∈ l.take m) : ¬ l.Nodup := by
  intro hn
  have h2 : (l.take (m + 1)).Nodup := List.Nodup.sublist (List.take_sublist _ _) hn
  rw [List.take_succ_eq_append_getElem hm, List.nodup_append] at h2
  exact h2.2.2 _ h _ (by simp) rfl
set_option maxRecDepth 100000 in
theorem take_once {α : Type} {l : List α} {m : Nat} (hm : m < l.length) (h : ¬ l[m] ∈ l.take m) (h2 : (l.take m).Nodup) : (l.take (m + 1)).Nodup := by
  rw [List.take_succ_eq_append_getElem hm, List.nodup_append]
  refine ⟨h2, by simp, ?_⟩
  intro a ha b hb e
  simp at hb
  subst hb e
  exact h ha

set_option maxRecDepth 100000 in
set_option maxHeartbeats 2000000 in
theorem signsFault_any (ls : List Sg) (sa : Option Addr) (n cap : Nat) (w : World) (hn : n = ls.length) (ht : GTab w sa cap ls) :
    Calls Try.prog 8 #[.slice sa n cap] w fun e w' => e = .returned (.int .i64 (signsF (gvs ls))) ∧ Below w.heap.size w w' := by
  subst hn
  have hle := ht.le
  have hmx := ht.max
  go_enter Try.func8, Try.ntmps8
  go_wp2_with fail
  go_loopw [3] (fun i wr => ∃ m : Nat, m ≤ ls.length ∧ i = .int .i64 m ∧ ((∀ g ∈ (gvs ls).take m, gF g = 0) ∧ ((gvs ls).take m).Nodup) ∧ Below w.heap.size w wr) (fun i _ => ls.length - (intOf i).toNat)
  case atStart => exact ⟨0, Nat.zero_le _, rfl, ⟨by simp, by simp⟩, Below.refl _ _⟩
  case round =>
    obtain ⟨m, hm, rfl, hno, hb⟩ := hrel
    by_cases hlt : m < ls.length
    · have hpw := ht.slots.below hb
      have hml : m < (gvs ls).length := by rw [gvs_length]; exact hlt
      obtain ⟨sb, so, rfl, hc⟩ : ∃ sb so, sa = some ⟨sb, so, none⟩ ∧ ∀ j (h : j < ls.length), wr.cell? ⟨sb, so + j * 4, none⟩ = some (.int .i64 (ls[j]).nd) ∧ wr.cell? ⟨sb, so + j * 4 + 1, none⟩ = some (.int .i64 (ls[j]).au) ∧ wr.cell? ⟨sb, so + j * 4 + 2, none⟩ = some (.int .i64 (ls[j]).rd) ∧ wr.cell? ⟨sb, so + j * 4 + 3, none⟩ = some (.slice (ls[j]).p.sa (ls[j]).p.bs.length (ls[j]).p.cap) := by
        rcases hpw.cells with h | h
        · rw [h] at hlt; simp at hlt
        · exact h
      obtain ⟨c0, c1, c2, c3⟩ := hc m hlt
      have hblt := block_lt_of_cell c0
      have hltI : (m : Int) < ls.length := by omega
      have hmc : (m : Int) ≤ cap := by omega
      obtain ⟨hx, hxu⟩ := hpw.each (ls[m]) (List.getElem_mem hlt)
      have hge := gvs_get ls m hml
      have HB : Hid (gF (ls[m]).v ≠ 0 → signsF (gvs ls) = 12) := by
        show _ → _
        intro h
        exact signsF_bad _ (by rw [← hge]; exact List.getElem_mem hml) h
      have HT : Hid ((ls[m]).v ∈ (gvs ls).take m → signsF (gvs ls) = 12) := by
        show _ → _
        intro h
        exact signsF_twice (take_twice hml (by rw [hge]; exact h))
      have HN : Hid (gF (ls[m]).v = 0 → ¬ (ls[m]).v ∈ (gvs ls).take m → (∀ g ∈ (gvs ls).take (m + 1), gF g = 0) ∧ ((gvs ls).take (m + 1)).Nodup) := by
        show _ → _ → _
        intro h1 h2
        refine ⟨fun g hg => ?_, take_once hml (by rw [hge]; exact h2) hno.2⟩
        rw [mem_take_succ hml, hge] at hg
        rcases hg with hg | rfl
        · exact hno.1 g hg
        · exact h1
      have HS : Hid (∀ W : World, Calls Try.prog 19 #[.agg #[.int .i64 (ls[m]).nd, .int .i64 (ls[m]).au, .int .i64 (ls[m]).rd, .slice (ls[m]).p.sa (ls[m]).p.bs.length (ls[m]).p.cap]] W fun e w' => e = .returned (.int .i64 (gF (ls[m]).v)) ∧ Below W.heap.size W w') := by
        show ∀ W, _
        intro W
        exact signFault_any _ _ _ _ _ _ W
      have HH : Hid (∀ W : World, Below wr.heap.size wr W → Calls Try.prog 20 #[.slice (some ⟨sb, so, none⟩) m cap, .agg #[.int .i64 (ls[m]).nd, .int .i64 (ls[m]).au, .int .i64 (ls[m]).rd, .slice (ls[m]).p.sa (ls[m]).p.bs.length (ls[m]).p.cap]] W fun e w' => e = .returned (.bool (decide ((ls[m]).v ∈ (gvs ls).take m))) ∧ Below W.heap.size W w') := by
        show ∀ W, _
        intro W hW
        exact hasSign_any ls _ m cap (ls[m]) _ W rfl (by omega) (by have := ht.small; omega) (hpw.below hW) (hx.below hW) hxu
      clear hc hno hx hxu hge hpw hml
      generalize ls[m] = t at *
      by_cases hx : gF t.v = 0
      · generalize gF t.v = x at *
        have hxn : (x != 0) = false := by simpa using hx
        go_wp2_with fail
        refine wp_region_held_drew (S := (fun w' => w'.cell? ⟨sb, so + m * 4, none⟩ = some (.int .i64 t.nd) ∧ w'.cell? ⟨sb, so + m * 4 + 1, none⟩ = some (.int .i64 t.au) ∧ w'.cell? ⟨sb, so + m * 4 + 2, none⟩ = some (.int .i64 t.rd) ∧ w'.cell? ⟨sb, so + m * 4 + 3, none⟩ = some (.slice t.p.sa t.p.bs.length t.p.cap))) (by kernel_rfl) ⟨c0, c1, c2, c3⟩ (fun hHeld => ?_)
        refine take_dst (i := 0) (d := 10) (v := .slice (some ⟨sb, so, none⟩) ls.length cap) rfl rfl (by kernel_rfl) (by kernel_rfl) (by kernel_rfl) (fun _ _ _ h => h) (Or.inl ⟨by rfl, ?_⟩) hHeld ?_
        · (intro w0 hSw; (try dsimp only at hSw); go_simp)
        simp only [Act.put, List.setIfInBounds_toArray, List.set_cons_zero, List.set_cons_succ]
        refine take_dst (i := 1) (d := 11) (v := .int .i64 m) rfl rfl (by kernel_rfl) (by kernel_rfl) (by kernel_rfl) (fun _ _ _ h => h) (Or.inl ⟨by rfl, ?_⟩) hHeld ?_
        · (intro w0 hSw; (try dsimp only at hSw); go_simp)
        simp only [Act.put, List.setIfInBounds_toArray, List.set_cons_zero, List.set_cons_succ]
        refine take_dst (i := 2) (d := 12) (v := .pointer (some ⟨sb, so + m * 4, none⟩)) rfl rfl (by kernel_rfl) (by kernel_rfl) (by kernel_rfl) (fun _ _ _ h => h) (Or.inl ⟨by rfl, ?_⟩) hHeld ?_
        · (intro w0 hSw; (try dsimp only at hSw); go_simp)
        simp only [Act.put, List.setIfInBounds_toArray, List.set_cons_zero, List.set_cons_succ]
        refine take_dst (i := 3) (d := 13) (v := .agg #[.int .i64 t.nd, .int .i64 t.au, .int .i64 t.rd, .slice t.p.sa t.p.bs.length t.p.cap]) rfl rfl (by kernel_rfl) (by kernel_rfl) (by kernel_rfl) (fun _ _ _ h => h) (Or.inl ⟨by rfl, ?_⟩) hHeld ?_
        · (intro w0 hSw; (try dsimp only at hSw); go_simp)
        simp only [Act.put, List.setIfInBounds_toArray, List.set_cons_zero, List.set_cons_succ]
        refine wpAnyH_ready (rs := [4]) (by kernel_rfl) (by simp) (AllReadyH.cons rfl (fun K hK => ?_) AllReadyH.nil)
        refine step_calls_dst rfl 14 rfl 19 [.tmp 13] #[31] rfl [.agg #[.int .i64 t.nd, .int .i64 t.au, .int .i64 t.rd, .slice t.p.sa t.p.bs.length t.p.cap]] rfl (enters_of Try.func19 (by kernel_rfl) rfl) (fun v w' => v = .int .i64 x ∧ Below wr.heap.size wr w') ((HS.out _).mono (fun e w2 h => ⟨_, h.1, rfl, below_drew h.2⟩)) ?_
        rintro v w2 ⟨rfl, hbB⟩
        refine hK.out _ _ ⟨(hbB.cell (p := ⟨sb, so + m * 4, none⟩) hblt).trans c0, (hbB.cell (p := ⟨sb, so + m * 4 + 1, none⟩) hblt).trans c1, (hbB.cell (p := ⟨sb, so + m * 4 + 2, none⟩) hblt).trans c2, (hbB.cell (p := ⟨sb, so + m * 4 + 3, none⟩) hblt).trans c3⟩ (fun hHeld => ?_)
        simp only [Act.put, List.setIfInBounds_toArray, List.set_cons_zero, List.set_cons_succ]
        refine take_dst (i := 5) (d := 15) (v := .bool false) rfl rfl (by kernel_rfl) (by kernel_rfl) (by kernel_rfl) (fun _ _ _ h => h) (Or.inl ⟨by rfl, ?_⟩) hHeld ?_
        · (intro w0 hSw; (try dsimp only at hSw); go_simp)
        simp only [Act.put, List.setIfInBounds_toArray, List.set_cons_zero, List.set_cons_succ]
        refine take_dst (i := 6) (d := 16) (v := .bool false) rfl rfl (by kernel_rfl) (by kernel_rfl) (by kernel_rfl) (fun _ _ _ h => h) (Or.inl ⟨by rfl, ?_⟩) hHeld ?_
        · (intro w0 hSw; (try dsimp only at hSw); go_simp)
        simp only [Act.put, List.setIfInBounds_toArray, List.set_cons_zero, List.set_cons_succ]
        refine take_dst (i := 7) (d := 17) (v := .slice (some ⟨sb, so, none⟩) ls.length cap) rfl rfl (by kernel_rfl) (by kernel_rfl) (by kernel_rfl) (fun _ _ _ h => h) (Or.inl ⟨by rfl, ?_⟩) hHeld ?_
        · (intro w0 hSw; (try dsimp only at hSw); go_simp)
        simp only [Act.put, List.setIfInBounds_toArray, List.set_cons_zero, List.set_cons_succ]
        refine take_dst (i := 8) (d := 18) (v := .int .i64 m) rfl rfl (by kernel_rfl) (by kernel_rfl) (by kernel_rfl) (fun _ _ _ h => h) (Or.inl ⟨by rfl, ?_⟩) hHeld ?_
        · (intro w0 hSw; (try dsimp only at hSw); go_simp)
        simp only [Act.put, List.setIfInBounds_toArray, List.set_cons_zero, List.set_cons_succ]
        refine take_dst (i := 9) (d := 19) (v := .slice (some ⟨sb, so, none⟩) m cap) rfl rfl (by kernel_rfl) (by kernel_rfl) (by kernel_rfl) (fun _ _ _ h => h) (Or.inl ⟨by rfl, ?_⟩) hHeld ?_
        · (intro w0 hSw; (try dsimp only at hSw); go_simp)
        simp only [Act.put, List.setIfInBounds_toArray, List.set_cons_zero, List.set_cons_succ]
        refine take_dst (i := 10) (d := 20) (v := .slice (some ⟨sb, so, none⟩) ls.length cap) rfl rfl (by kernel_rfl) (by kernel_rfl) (by kernel_rfl) (fun _ _ _ h => h) (Or.inl ⟨by rfl, ?_⟩) hHeld ?_
        · (intro w0 hSw; (try dsimp only at hSw); go_simp)
        simp only [Act.put, List.setIfInBounds_toArray, List.set_cons_zero, List.set_cons_succ]
        refine take_dst (i := 11) (d := 21) (v := .int .i64 m) rfl rfl (by kernel_rfl) (by kernel_rfl) (by kernel_rfl) (fun _ _ _ h => h) (Or.inl ⟨by rfl, ?_⟩) hHeld ?_
        · (intro w0 hSw; (try dsimp only at hSw); go_simp)
        simp only [Act.put, List.setIfInBounds_toArray, List.set_cons_zero, List.set_cons_succ]
        refine take_dst (i := 12) (d := 22) (v := .pointer (some ⟨sb, so + m * 4, none⟩)) rfl rfl (by kernel_rfl) (by kernel_rfl) (by kernel_rfl) (fun _ _ _ h => h) (Or.inl ⟨by rfl, ?_⟩) hHeld ?_
        · (intro w0 hSw; (try dsimp only at hSw); go_simp)
        simp only [Act.put, List.setIfInBounds_toArray, List.set_cons_zero, List.set_cons_succ]
        refine take_dst (i := 13) (d := 23) (v := .agg #[.int .i64 t.nd, .int .i64 t.au, .int .i64 t.rd, .slice t.p.sa t.p.bs.length t.p.cap]) rfl rfl (by kernel_rfl) (by kernel_rfl) (by kernel_rfl) (fun _ _ _ h => h) (Or.inl ⟨by rfl, ?_⟩) hHeld ?_
        · (intro w0 hSw; (try dsimp only at hSw); go_simp)
        simp only [Act.put, List.setIfInBounds_toArray, List.set_cons_zero, List.set_cons_succ]
        refine wpAnyH_ready (rs := [14]) (by kernel_rfl) (by simp) (AllReadyH.cons rfl (fun K hK => ?_) AllReadyH.nil)
        refine step_calls_on (by rfl) 24 rfl 20 [.tmp 19, .tmp 23] #[22, 31] rfl [.slice (some ⟨sb, so, none⟩) m cap, .agg #[.int .i64 t.nd, .int .i64 t.au, .int .i64 t.rd, .slice t.p.sa t.p.bs.length t.p.cap]] rfl (enters_of Try.func20 (by kernel_rfl) rfl) (fun v w' => v = .bool (decide (t.v ∈ (gvs ls).take m)) ∧ Below w2.heap.size w2 w') ((HH.out _ hbB).mono (fun e w3 h => ⟨_, h.1, rfl, h.2⟩)) ?_
        rintro v w3 ⟨rfl, hbC⟩
        replace hbC := hbB.trans (hbC.mono hbB.size)
        refine hK.out _ _ ⟨(hbC.cell (p := ⟨sb, so + m * 4, none⟩) hblt).trans c0, (hbC.cell (p := ⟨sb, so + m * 4 + 1, none⟩) hblt).trans c1, (hbC.cell (p := ⟨sb, so + m * 4 + 2, none⟩) hblt).trans c2, (hbC.cell (p := ⟨sb, so + m * 4 + 3, none⟩) hblt).trans c3⟩ (fun hHeld => ?_)
        simp only [Act.put, List.setIfInBounds_toArray, List.set_cons_zero, List.set_cons_succ]
        refine take_dst (i := 15) (d := 25) (v := .bool (decide (t.v ∈ (gvs ls).take m))) rfl rfl (by kernel_rfl) (by kernel_rfl) (by kernel_rfl) (fun _ _ _ h => h) (Or.inl ⟨by rfl, ?_⟩) hHeld ?_
        · (intro w0 hSw; (try dsimp only at hSw); go_simp)
        simp only [Act.put, List.setIfInBounds_toArray, List.set_cons_zero, List.set_cons_succ]
        refine wpAnyH_done (by kernel_rfl) ?_ _
        by_cases h3 : t.v ∈ (gvs ls).take m
        · have hy := HT.out h3
          rw [decide_eq_true h3]
          clear HB HT HN HS HH h3
          go_wp2_with fail
          go_ret
          exact ⟨ret_int hy.symm, hb.trans (hbC.mono hb.size)⟩
        · have hn := HN.out hx h3
          have Hn : Hid _ := hn
          rw [decide_eq_false h3]
          clear HB HT HN HS HH h3 hn
          go_wp2_with fail
          go_roundw
          case rel => exact ⟨m + 1, by omega, by go_num, Hn.out, hb.trans (hbC.mono hb.size)⟩
          case measure => simp [intOf]; omega
      · have h12 : Hid (signsF (gvs ls) = 12) := HB.out hx
        generalize gF t.v = x at *
        clear HB HT HN HH
        have hxn : (x != 0) = true := by simpa using hx
        go_wp2_with fail
        refine wp_region_held_drew (S := (fun w' => w'.cell? ⟨sb, so + m * 4, none⟩ = some (.int .i64 t.nd) ∧ w'.cell? ⟨sb, so + m * 4 + 1, none⟩ = some (.int .i64 t.au) ∧ w'.cell? ⟨sb, so + m * 4 + 2, none⟩ = some (.int .i64 t.rd) ∧ w'.cell? ⟨sb, so + m * 4 + 3, none⟩ = some (.slice t.p.sa t.p.bs.length t.p.cap))) (by kernel_rfl) ⟨c0, c1, c2, c3⟩ (fun hHeld => ?_)
        refine take_dst (i := 0) (d := 10) (v := .slice (some ⟨sb, so, none⟩) ls.length cap) rfl rfl (by kernel_rfl) (by kernel_rfl) (by kernel_rfl) (fun _ _ _ h => h) (Or.inl ⟨by rfl, ?_⟩) hHeld ?_
        · (intro w0 hSw; (try dsimp only at hSw); go_simp)
        simp only [Act.put, List.setIfInBounds_toArray, List.set_cons_zero, List.set_cons_succ]
        refine take_dst (i := 1) (d := 11) (v := .int .i64 m) rfl rfl (by kernel_rfl) (by kernel_rfl) (by kernel_rfl) (fun _ _ _ h => h) (Or.inl ⟨by rfl, ?_⟩) hHeld ?_
        · (intro w0 hSw; (try dsimp only at hSw); go_simp)
        simp only [Act.put, List.setIfInBounds_toArray, List.set_cons_zero, List.set_cons_succ]
        refine take_dst (i := 2) (d := 12) (v := .pointer (some ⟨sb, so + m * 4, none⟩)) rfl rfl (by kernel_rfl) (by kernel_rfl) (by kernel_rfl) (fun _ _ _ h => h) (Or.inl ⟨by rfl, ?_⟩) hHeld ?_
        · (intro w0 hSw; (try dsimp only at hSw); go_simp)
        simp only [Act.put, List.setIfInBounds_toArray, List.set_cons_zero, List.set_cons_succ]
        refine take_dst (i := 3) (d := 13) (v := .agg #[.int .i64 t.nd, .int .i64 t.au, .int .i64 t.rd, .slice t.p.sa t.p.bs.length t.p.cap]) rfl rfl (by kernel_rfl) (by kernel_rfl) (by kernel_rfl) (fun _ _ _ h => h) (Or.inl ⟨by rfl, ?_⟩) hHeld ?_
        · (intro w0 hSw; (try dsimp only at hSw); go_simp)
        simp only [Act.put, List.setIfInBounds_toArray, List.set_cons_zero, List.set_cons_succ]
        refine wpAnyH_ready (rs := [4]) (by kernel_rfl) (by simp) (AllReadyH.cons rfl (fun K hK => ?_) AllReadyH.nil)
        refine step_calls_dst rfl 14 rfl 19 [.tmp 13] #[31] rfl [.agg #[.int .i64 t.nd, .int .i64 t.au, .int .i64 t.rd, .slice t.p.sa t.p.bs.length t.p.cap]] rfl (enters_of Try.func19 (by kernel_rfl) rfl) (fun v w' => v = .int .i64 x ∧ Below wr.heap.size wr w') ((HS.out _).mono (fun e w2 h => ⟨_, h.1, rfl, below_drew h.2⟩)) ?_
        rintro v w2 ⟨rfl, hbB⟩
        refine hK.out _ _ ⟨(hbB.cell (p := ⟨sb, so + m * 4, none⟩) hblt).trans c0, (hbB.cell (p := ⟨sb, so + m * 4 + 1, none⟩) hblt).trans c1, (hbB.cell (p := ⟨sb, so + m * 4 + 2, none⟩) hblt).trans c2, (hbB.cell (p := ⟨sb, so + m * 4 + 3, none⟩) hblt).trans c3⟩ (fun hHeld => ?_)
        simp only [Act.put, List.setIfInBounds_toArray, List.set_cons_zero, List.set_cons_succ]
        refine take_dst (i := 5) (d := 15) (v := .bool true) rfl rfl (by kernel_rfl) (by kernel_rfl) (by kernel_rfl) (fun _ _ _ h => h) (Or.inl ⟨by rfl, ?_⟩) hHeld ?_
        · (intro w0 hSw; (try dsimp only at hSw); go_simp)
        simp only [Act.put, List.setIfInBounds_toArray, List.set_cons_zero, List.set_cons_succ]
        refine take_dst (i := 6) (d := 16) (v := .bool true) rfl rfl (by kernel_rfl) (by kernel_rfl) (by kernel_rfl) (fun _ _ _ h => h) (Or.inl ⟨by rfl, ?_⟩) hHeld ?_
        · (intro w0 hSw; (try dsimp only at hSw); go_simp)
        simp only [Act.put, List.setIfInBounds_toArray, List.set_cons_zero, List.set_cons_succ]
        refine take_dst (i := 7) (d := 17) (v := undef) rfl rfl (by kernel_rfl) (by kernel_rfl) (by kernel_rfl) (fun _ _ _ h => h) (Or.inr ⟨by rfl, rfl⟩) hHeld ?_
        simp only [Act.put, List.setIfInBounds_toArray, List.set_cons_zero, List.set_cons_succ]
        refine take_dst (i := 8) (d := 18) (v := undef) rfl rfl (by kernel_rfl) (by kernel_rfl) (by kernel_rfl) (fun _ _ _ h => h) (Or.inr ⟨by rfl, rfl⟩) hHeld ?_
        simp only [Act.put, List.setIfInBounds_toArray, List.set_cons_zero, List.set_cons_succ]
        refine take_dst (i := 9) (d := 19) (v := undef) rfl rfl (by kernel_rfl) (by kernel_rfl) (by kernel_rfl) (fun _ _ _ h => h) (Or.inr ⟨by rfl, rfl⟩) hHeld ?_
        simp only [Act.put, List.setIfInBounds_toArray, List.set_cons_zero, List.set_cons_succ]
        refine take_dst (i := 10) (d := 20) (v := undef) rfl rfl (by kernel_rfl) (by kernel_rfl) (by kernel_rfl) (fun _ _ _ h => h) (Or.inr ⟨by rfl, rfl⟩) hHeld ?_
        simp only [Act.put, List.setIfInBounds_toArray, List.set_cons_zero, List.set_cons_succ]
        refine take_dst (i := 11) (d := 21) (v := undef) rfl rfl (by kernel_rfl) (by kernel_rfl) (by kernel_rfl) (fun _ _ _ h => h) (Or.inr ⟨by rfl, rfl⟩) hHeld ?_
        simp only [Act.put, List.setIfInBounds_toArray, List.set_cons_zero, List.set_cons_succ]
        refine take_dst (i := 12) (d := 22) (v := undef) rfl rfl (by kernel_rfl) (by kernel_rfl) (by kernel_rfl) (fun _ _ _ h => h) (Or.inr ⟨by rfl, rfl⟩) hHeld ?_
        simp only [Act.put, List.setIfInBounds_toArray, List.set_cons_zero, List.set_cons_succ]
        refine take_dst (i := 13) (d := 23) (v := undef) rfl rfl (by kernel_rfl) (by kernel_rfl) (by kernel_rfl) (fun _ _ _ h => h) (Or.inr ⟨by rfl, rfl⟩) hHeld ?_
        simp only [Act.put, List.setIfInBounds_toArray, List.set_cons_zero, List.set_cons_succ]
        refine take_dst (i := 14) (d := 24) (v := undef) rfl rfl (by kernel_rfl) (by kernel_rfl) (by kernel_rfl) (fun _ _ _ h => h) (Or.inr ⟨by rfl, rfl⟩) hHeld ?_
        simp only [Act.put, List.setIfInBounds_toArray, List.set_cons_zero, List.set_cons_succ]
        refine take_dst (i := 15) (d := 25) (v := .bool true) rfl rfl (by kernel_rfl) (by kernel_rfl) (by kernel_rfl) (fun _ _ _ h => h) (Or.inl ⟨by rfl, ?_⟩) hHeld ?_
        · (intro w0 hSw; (try dsimp only at hSw); go_simp)
        simp only [Act.put, List.setIfInBounds_toArray, List.set_cons_zero, List.set_cons_succ]
        refine wpAnyH_done (by kernel_rfl) ?_ _
        go_wp2_with fail
        go_ret
        exact ⟨ret_int h12.out.symm, hb.trans (hbB.mono hb.size)⟩
    · obtain rfl : m = ls.length := by omega
      have hF : Hid (signsF (gvs ls) = 0) := signsF_ok (by rw [List.take_of_length_le (by rw [gvs_length]; exact Nat.le_refl _)] at hno; exact hno)
      clear hno
      go_wp2_with fail
      go_ret
      exact ⟨ret_int hF.out.symm, hb⟩
end Go.Proofs.Ytdjaafnghlcjbaa
