/- The document's slotAt, TableFault, for every table. -/
import Derived.Test.YtjhiemafaocjdaaSlotsL
import Derived.Test.YtjhiemafaocjdaaRSlot
import Derived.Test.YtjhiemafaocjdaaSx
import Derived.Deep.RegionHeld3
import Derived.Test.YtjhiemafaocjdaaCalls
namespace Go.Proofs.Ytjhiemafaocjdaa
open Go.RowKit

set_option maxRecDepth 100000 in
set_option maxHeartbeats 1000000 in
theorem slotAt_any (ls : List Sl) (sa : Option Addr) (k cap : Nat) (au rd : Int) (w : World) (hk : k ≤ ls.length) (hk2 : k ≤ 3000000000000000000) (hp : SlotsAt w sa ls) :
    Calls Try.prog 12 #[.slice sa k cap, .int .i64 au, .int .i64 rd] w fun e w' => ∃ r : Int, e = .returned (.int .i64 r) ∧ First (vs ls) au rd k r ∧ Below w.heap.size w w' := by
  go_enter Try.func12, Try.ntmps12
  go_wp2_with fail
  go_loopw [7] (fun i wr => ∃ m : Nat, m ≤ k ∧ i = .int .i64 m ∧ (∀ j, j < m → hit (vs ls) au rd j = false) ∧ Below w.heap.size w wr) (fun i _ => k - (intOf i).toNat)
  case atStart => exact ⟨0, Nat.zero_le _, rfl, (fun j hj => by omega), Below.refl _ _⟩
  case round =>
    obtain ⟨m, hm, rfl, hno, hb⟩ := hrel
    by_cases hlt : m < k
    · have hmp : m < ls.length := by omega
      have hpw := hp.below hb
      obtain ⟨sb, so, rfl, hc⟩ : ∃ sb so, sa = some ⟨sb, so, none⟩ ∧ ∀ j (h : j < ls.length), wr.cell? ⟨sb, so + j * 3, none⟩ = some (.int .i64 (ls[j]).au) ∧ wr.cell? ⟨sb, so + j * 3 + 1, none⟩ = some (.int .i64 (ls[j]).rd) ∧ wr.cell? ⟨sb, so + j * 3 + 2, none⟩ = some (.slice (ls[j]).p.sa (ls[j]).p.bs.length (ls[j]).p.cap) := by
        rcases hpw.cells with h | h
        · rw [h] at hmp; simp at hmp
        · exact h
      obtain ⟨c0, c1, c2⟩ := hc m hmp
      have hg := hit_get ls au rd m hmp
      have hltI : (m : Int) < k := by omega
      clear hc
      generalize ls[m] = s at *
      by_cases h : s.au = au ∧ s.rd = rd
      · obtain ⟨rfl, rfl⟩ := h
        have hF : Hid (First (vs ls) s.au s.rd k m) := .inl ⟨m, hlt, rfl, by rw [hg]; simp, hno⟩
        clear hno hg
        go_wp2_with fail
        all_goals
          go_ret
          exact ⟨_, rfl, hF.out, hb⟩
      · have hN : Hid (∀ j, j < m + 1 → hit (vs ls) au rd j = false) := by
          show ∀ j, _
          intro j hj
          rcases Nat.lt_or_ge j m with g | g
          · exact hno j g
          · obtain rfl : j = m := by omega
            rw [hg]; simp [h]
        clear hno hg
        go_wp2_with fail
        all_goals
          go_roundw
          case rel => exact ⟨m + 1, by omega, by go_num, hN.out, hb⟩
          case measure => simp [intOf]; omega
    · obtain rfl : m = k := by omega
      have hF : Hid (First (vs ls) au rd m (-1)) := .inr ⟨rfl, hno⟩
      clear hno
      go_wp2_with fail
      go_ret
      exact ⟨_, rfl, hF.out, hb⟩

set_option maxRecDepth 100000 in
set_option maxHeartbeats 1000000 in
theorem tableFault_any (ls : List Sl) (sa : Option Addr) (n cap : Nat) (w : World) (hn : n = ls.length) (ht : TabAt w sa cap ls) :
    Calls Try.prog 11 #[.slice sa n cap] w fun e w' => e = .returned (.int .i64 (tabF (vs ls))) ∧ Below w.heap.size w w' := by
  subst hn
  have hle := ht.le
  have hmx := ht.max
  by_cases hlong : 400 < ls.length
  · have hF : Hid (tabF (vs ls) = 12) := tabF_long _ (by rw [vs_length]; exact hlong)
    have hI : (400 : Int) < ls.length := by omega
    go_enter Try.func11, Try.ntmps11
    go_wp2_with fail
    go_ret
    exact ⟨ret_int hF.out.symm, Below.refl _ _⟩
  have hI : ¬ (400 : Int) < ls.length := by omega
  go_enter Try.func11, Try.ntmps11
  go_wp2_with fail
  go_loopw [3] (fun i wr => ∃ m : Nat, m ≤ ls.length ∧ i = .int .i64 m ∧ (∀ j, j < m → badAt (vs ls) j = false) ∧ Below w.heap.size w wr) (fun i _ => ls.length - (intOf i).toNat)
  case atStart => exact ⟨0, Nat.zero_le _, rfl, (fun j hj => by omega), Below.refl _ _⟩
  case round =>
    obtain ⟨m, hm, rfl, hno, hb⟩ := hrel
    by_cases hlt : m < ls.length
    · have hpw := ht.slots.below hb
      obtain ⟨sb, so, rfl, hc⟩ : ∃ sb so, sa = some ⟨sb, so, none⟩ ∧ ∀ j (h : j < ls.length), wr.cell? ⟨sb, so + j * 3, none⟩ = some (.int .i64 (ls[j]).au) ∧ wr.cell? ⟨sb, so + j * 3 + 1, none⟩ = some (.int .i64 (ls[j]).rd) ∧ wr.cell? ⟨sb, so + j * 3 + 2, none⟩ = some (.slice (ls[j]).p.sa (ls[j]).p.bs.length (ls[j]).p.cap) := by
        rcases hpw.cells with h | h
        · rw [h] at hlt; simp at hlt
        · exact h
      obtain ⟨c0, c1, c2⟩ := hc m hlt
      have hltI : (m : Int) < ls.length := by omega
      have hmc : (m : Int) ≤ cap := by omega
      have hAt : Hid (badAt (vs ls) m = (decide (slotF (ls[m]).au (ls[m]).rd (ls[m]).p.bs.length ≠ 0) || anyHit (vs ls) (ls[m]).au (ls[m]).rd m)) := by
        show _ = _
        rw [badAt, svAt_get ls m hlt]; rfl
      have hB : Hid (badAt (vs ls) m = true → tabF (vs ls) = 12) := by
        show _ → _
        exact tabF_bad (vs ls) m (by rw [vs_length]; exact hlt)
      have hN : Hid (badAt (vs ls) m = false → ∀ j, j < m + 1 → badAt (vs ls) j = false) := by
        show _ → _
        intro h j hj
        rcases Nat.lt_or_ge j m with g | g
        · exact hno j g
        · obtain rfl : j = m := by omega
          exact h
      have hsx := hpw.each (ls[m]) (List.getElem_mem hlt)
      have HA : Hid (∀ W : World, Below wr.heap.size wr W → Calls Try.prog 12 #[.slice (some ⟨sb, so, none⟩) m cap, .int .i64 (ls[m]).au, .int .i64 (ls[m]).rd] W fun e w' => ∃ r : Int, e = .returned (.int .i64 r) ∧ ((anyHit (vs ls) (ls[m]).au (ls[m]).rd m = true ∧ 0 ≤ r) ∨ (anyHit (vs ls) (ls[m]).au (ls[m]).rd m = false ∧ r = -1)) ∧ Below W.heap.size W w') := by
        show ∀ W, _
        intro W hW
        refine (slotAt_any ls (some ⟨sb, so, none⟩) m cap (ls[m]).au (ls[m]).rd W (by omega) (by have := ht.small; omega) (hpw.below hW)).mono ?_
        rintro e w' ⟨r, he, hF, hb'⟩
        exact ⟨r, he, hF.neg, hb'⟩
      have HS : Hid (∀ W : World, Calls Try.prog 17 #[.agg #[.int .i64 (ls[m]).au, .int .i64 (ls[m]).rd, .slice (ls[m]).p.sa (ls[m]).p.bs.length (ls[m]).p.cap]] W fun e w' => e = .returned (.int .i64 (slotF (ls[m]).au (ls[m]).rd (ls[m]).p.bs.length)) ∧ Below W.heap.size W w') := by
        show ∀ W, _
        intro W
        exact slotFault_any _ _ _ _ _ W
      clear hc hno hpw ht
      generalize ls[m] = s at *
      have hblt : sb < wr.heap.size := block_lt_of_cell c0
      by_cases hx : slotF s.au s.rd s.p.bs.length = 0
      · rw [hx] at HS
        have H7 : Hid (anyHit (vs ls) s.au s.rd m = true → tabF (vs ls) = 12) := by
          show _ → _
          intro h; exact hB.out (by rw [hAt.out, h]; simp)
        have H8 : Hid (anyHit (vs ls) s.au s.rd m = false → ∀ j, j < m + 1 → badAt (vs ls) j = false) := by
          show _ → _
          intro h; exact hN.out (by rw [hAt.out, h, hx]; rfl)
        clear hB hN hAt hx
        go_wp2_with fail
        go_region_held3 (fun w' => w'.cell? ⟨sb, so + m * 3, none⟩ = some (.int .i64 s.au) ∧ w'.cell? ⟨sb, so + m * 3 + 1, none⟩ = some (.int .i64 s.rd) ∧ w'.cell? ⟨sb, so + m * 3 + 2, none⟩ = some (.slice s.p.sa s.p.bs.length s.p.cap)) (go_keep) (first | (go_at_call 12; refine (HA.out _ hbB).mono ?_; rintro e w3 ⟨r, rfl, hr, hb3⟩; have hb4 := hbB.trans (hb3.mono hbB.size); have k0 := (hb4.cell (p := ⟨sb, so + m * 3, none⟩) hblt).trans c0; have k1 := (hb4.cell (p := ⟨sb, so + m * 3 + 1, none⟩) hblt).trans c1; have k2 := (hb4.cell (p := ⟨sb, so + m * 3 + 2, none⟩) hblt).trans c2) | (go_at_call 17; refine (HS.out _).mono ?_; rintro e w2 ⟨rfl, hb2⟩; have hbB : Below wr.heap.size wr w2 := below_drew hb2; have e0 := (hbB.cell (p := ⟨sb, so + m * 3, none⟩) hblt).trans c0; have e1 := (hbB.cell (p := ⟨sb, so + m * 3 + 1, none⟩) hblt).trans c1; have e2 := (hbB.cell (p := ⟨sb, so + m * 3 + 2, none⟩) hblt).trans c2))
        all_goals
          have hbC := hb.trans ((hbB.trans (hb3.mono hbB.size)).mono hb.size)
          rcases hr with ⟨ha, hr⟩ | ⟨ha, rfl⟩
          · have hy := H7.out ha
            clear H7 H8 ha
            go_wp2_with fail
            go_ret
            exact ⟨ret_int hy.symm, hbC⟩
          · have hn := H8.out ha
            clear H7 H8 ha
            go_wp2_with fail
            go_roundw
            case rel =>
              have hR : ∃ m' : Nat, m' ≤ ls.length ∧ (Value.int .i64 ((m : Int) + 1)) = .int .i64 m' ∧ (∀ j, j < m' → badAt (vs ls) j = false) ∧ Below w.heap.size w w3 := ⟨m + 1, by omega, by go_num, hn, hbC⟩
              first | exact hR | ((repeat apply Exists.intro); exact ⟨hR, rfl⟩)
            case measure => simp [intOf]; omega
      · have h12 : Hid (tabF (vs ls) = 12) := hB.out (by rw [hAt.out]; simp [hx])
        generalize slotF s.au s.rd s.p.bs.length = x at *
        clear hB hN hAt HA
        have hxn : (x != 0) = true := by simpa using hx
        go_wp2_with fail
        refine wp_region_held_drew (S := fun w' => w'.cell? ⟨sb, so + m * 3, none⟩ = some (.int .i64 s.au) ∧ w'.cell? ⟨sb, so + m * 3 + 1, none⟩ = some (.int .i64 s.rd) ∧ w'.cell? ⟨sb, so + m * 3 + 2, none⟩ = some (.slice s.p.sa s.p.bs.length s.p.cap)) (by kernel_rfl) ⟨c0, c1, c2⟩ (fun hHeld => ?_)
        refine take_dst (i := 0) (d := 13) (v := .slice (some ⟨sb, so, none⟩) ls.length cap) rfl rfl (by kernel_rfl) (by kernel_rfl) (by kernel_rfl) (fun _ _ _ h => h) (Or.inl ⟨by rfl, ?_⟩) hHeld ?_
        · (intro w0 hSw; (try dsimp only at hSw); go_simp)
        simp only [Act.put, List.setIfInBounds_toArray, List.set_cons_zero, List.set_cons_succ]
        refine take_dst (i := 1) (d := 14) (v := .int .i64 m) rfl rfl (by kernel_rfl) (by kernel_rfl) (by kernel_rfl) (fun _ _ _ h => h) (Or.inl ⟨by rfl, ?_⟩) hHeld ?_
        · (intro w0 hSw; (try dsimp only at hSw); go_simp)
        simp only [Act.put, List.setIfInBounds_toArray, List.set_cons_zero, List.set_cons_succ]
        refine take_dst (i := 2) (d := 15) (v := .pointer (some ⟨sb, so + m * 3, none⟩)) rfl rfl (by kernel_rfl) (by kernel_rfl) (by kernel_rfl) (fun _ _ _ h => h) (Or.inl ⟨by rfl, ?_⟩) hHeld ?_
        · (intro w0 hSw; (try dsimp only at hSw); go_simp)
        simp only [Act.put, List.setIfInBounds_toArray, List.set_cons_zero, List.set_cons_succ]
        refine take_dst (i := 3) (d := 16) (v := .agg #[.int .i64 s.au, .int .i64 s.rd, .slice s.p.sa s.p.bs.length s.p.cap]) rfl rfl (by kernel_rfl) (by kernel_rfl) (by kernel_rfl) (fun _ _ _ h => h) (Or.inl ⟨by rfl, ?_⟩) hHeld ?_
        · (intro w0 hSw; (try dsimp only at hSw); go_simp)
        simp only [Act.put, List.setIfInBounds_toArray, List.set_cons_zero, List.set_cons_succ]
        refine wpAnyH_ready (rs := [4]) (by kernel_rfl) (by simp) (AllReadyH.cons rfl (fun K hK => ?_) AllReadyH.nil)
        refine step_calls_dst rfl 17 rfl 17 [.tmp 16] #[33] rfl [.agg #[.int .i64 s.au, .int .i64 s.rd, .slice s.p.sa s.p.bs.length s.p.cap]] rfl (enters_of Try.func17 (by kernel_rfl) rfl) (fun v w' => v = .int .i64 x ∧ Below wr.heap.size wr w') ((HS.out _).mono (fun e w2 h => ⟨_, h.1, rfl, below_drew h.2⟩)) ?_
        rintro v w2 ⟨rfl, hbB⟩
        refine hK.out _ _ ⟨(hbB.cell (p := ⟨sb, so + m * 3, none⟩) hblt).trans c0, (hbB.cell (p := ⟨sb, so + m * 3 + 1, none⟩) hblt).trans c1, (hbB.cell (p := ⟨sb, so + m * 3 + 2, none⟩) hblt).trans c2⟩ (fun hHeld => ?_)
        simp only [Act.put, List.setIfInBounds_toArray, List.set_cons_zero, List.set_cons_succ]
        refine take_dst (i := 5) (d := 18) (v := .bool true) rfl rfl (by kernel_rfl) (by kernel_rfl) (by kernel_rfl) (fun _ _ _ h => h) (Or.inl ⟨by rfl, ?_⟩) hHeld ?_
        · (intro w0 hSw; (try dsimp only at hSw); go_simp)
        simp only [Act.put, List.setIfInBounds_toArray, List.set_cons_zero, List.set_cons_succ]
        refine take_dst (i := 6) (d := 19) (v := .bool true) rfl rfl (by kernel_rfl) (by kernel_rfl) (by kernel_rfl) (fun _ _ _ h => h) (Or.inl ⟨by rfl, ?_⟩) hHeld ?_
        · (intro w0 hSw; (try dsimp only at hSw); go_simp)
        simp only [Act.put, List.setIfInBounds_toArray, List.set_cons_zero, List.set_cons_succ]
        refine take_dst (i := 7) (d := 20) (v := undef) rfl rfl (by kernel_rfl) (by kernel_rfl) (by kernel_rfl) (fun _ _ _ h => h) (Or.inr ⟨by rfl, rfl⟩) hHeld ?_
        simp only [Act.put, List.setIfInBounds_toArray, List.set_cons_zero, List.set_cons_succ]
        refine take_dst (i := 8) (d := 21) (v := undef) rfl rfl (by kernel_rfl) (by kernel_rfl) (by kernel_rfl) (fun _ _ _ h => h) (Or.inr ⟨by rfl, rfl⟩) hHeld ?_
        simp only [Act.put, List.setIfInBounds_toArray, List.set_cons_zero, List.set_cons_succ]
        refine take_dst (i := 9) (d := 22) (v := undef) rfl rfl (by kernel_rfl) (by kernel_rfl) (by kernel_rfl) (fun _ _ _ h => h) (Or.inr ⟨by rfl, rfl⟩) hHeld ?_
        simp only [Act.put, List.setIfInBounds_toArray, List.set_cons_zero, List.set_cons_succ]
        refine take_dst (i := 10) (d := 23) (v := undef) rfl rfl (by kernel_rfl) (by kernel_rfl) (by kernel_rfl) (fun _ _ _ h => h) (Or.inr ⟨by rfl, rfl⟩) hHeld ?_
        simp only [Act.put, List.setIfInBounds_toArray, List.set_cons_zero, List.set_cons_succ]
        refine take_dst (i := 11) (d := 24) (v := undef) rfl rfl (by kernel_rfl) (by kernel_rfl) (by kernel_rfl) (fun _ _ _ h => h) (Or.inr ⟨by rfl, rfl⟩) hHeld ?_
        simp only [Act.put, List.setIfInBounds_toArray, List.set_cons_zero, List.set_cons_succ]
        refine take_dst (i := 12) (d := 25) (v := undef) rfl rfl (by kernel_rfl) (by kernel_rfl) (by kernel_rfl) (fun _ _ _ h => h) (Or.inr ⟨by rfl, rfl⟩) hHeld ?_
        simp only [Act.put, List.setIfInBounds_toArray, List.set_cons_zero, List.set_cons_succ]
        refine take_dst (i := 13) (d := 26) (v := undef) rfl rfl (by kernel_rfl) (by kernel_rfl) (by kernel_rfl) (fun _ _ _ h => h) (Or.inr ⟨by rfl, rfl⟩) hHeld ?_
        simp only [Act.put, List.setIfInBounds_toArray, List.set_cons_zero, List.set_cons_succ]
        refine take_dst (i := 14) (d := 27) (v := undef) rfl rfl (by kernel_rfl) (by kernel_rfl) (by kernel_rfl) (fun _ _ _ h => h) (Or.inr ⟨by rfl, rfl⟩) hHeld ?_
        simp only [Act.put, List.setIfInBounds_toArray, List.set_cons_zero, List.set_cons_succ]
        refine take_dst (i := 15) (d := 28) (v := undef) rfl rfl (by kernel_rfl) (by kernel_rfl) (by kernel_rfl) (fun _ _ _ h => h) (Or.inr ⟨by rfl, rfl⟩) hHeld ?_
        simp only [Act.put, List.setIfInBounds_toArray, List.set_cons_zero, List.set_cons_succ]
        refine take_dst (i := 16) (d := 29) (v := undef) rfl rfl (by kernel_rfl) (by kernel_rfl) (by kernel_rfl) (fun _ _ _ h => h) (Or.inr ⟨by rfl, rfl⟩) hHeld ?_
        simp only [Act.put, List.setIfInBounds_toArray, List.set_cons_zero, List.set_cons_succ]
        refine take_dst (i := 17) (d := 30) (v := undef) rfl rfl (by kernel_rfl) (by kernel_rfl) (by kernel_rfl) (fun _ _ _ h => h) (Or.inr ⟨by rfl, rfl⟩) hHeld ?_
        simp only [Act.put, List.setIfInBounds_toArray, List.set_cons_zero, List.set_cons_succ]
        refine take_dst (i := 18) (d := 31) (v := undef) rfl rfl (by kernel_rfl) (by kernel_rfl) (by kernel_rfl) (fun _ _ _ h => h) (Or.inr ⟨by rfl, rfl⟩) hHeld ?_
        simp only [Act.put, List.setIfInBounds_toArray, List.set_cons_zero, List.set_cons_succ]
        refine take_dst (i := 19) (d := 32) (v := undef) rfl rfl (by kernel_rfl) (by kernel_rfl) (by kernel_rfl) (fun _ _ _ h => h) (Or.inr ⟨by rfl, rfl⟩) hHeld ?_
        simp only [Act.put, List.setIfInBounds_toArray, List.set_cons_zero, List.set_cons_succ]
        refine take_dst (i := 20) (d := 33) (v := undef) rfl rfl (by kernel_rfl) (by kernel_rfl) (by kernel_rfl) (fun _ _ _ h => h) (Or.inr ⟨by rfl, rfl⟩) hHeld ?_
        simp only [Act.put, List.setIfInBounds_toArray, List.set_cons_zero, List.set_cons_succ]
        refine take_dst (i := 21) (d := 34) (v := undef) rfl rfl (by kernel_rfl) (by kernel_rfl) (by kernel_rfl) (fun _ _ _ h => h) (Or.inr ⟨by rfl, rfl⟩) hHeld ?_
        simp only [Act.put, List.setIfInBounds_toArray, List.set_cons_zero, List.set_cons_succ]
        refine take_dst (i := 22) (d := 35) (v := .bool true) rfl rfl (by kernel_rfl) (by kernel_rfl) (by kernel_rfl) (fun _ _ _ h => h) (Or.inl ⟨by rfl, ?_⟩) hHeld ?_
        · (intro w0 hSw; (try dsimp only at hSw); go_simp)
        simp only [Act.put, List.setIfInBounds_toArray, List.set_cons_zero, List.set_cons_succ]
        refine wpAnyH_done (by kernel_rfl) ?_ _
        go_wp2_with fail
        go_ret
        exact ⟨ret_int h12.out.symm, hb.trans (hbB.mono hb.size)⟩
    · obtain rfl : m = ls.length := by omega
      have hF : Hid (tabF (vs ls) = 0) := tabF_ok _ (by rw [vs_length]; omega) (fun k hk => hno k (by rw [vs_length] at hk; exact hk))
      clear hno
      go_wp2_with fail
      go_ret
      exact ⟨ret_int hF.out.symm, hb⟩
end Go.Proofs.Ytjhiemafaocjdaa
