/- ballot.find, Check, for every table. -/
import Derived.Test.YtlpaghkofljnfaaDoorSlotsL
import Derived.Test.YtlpaghkofljnfaaDoorSx
import Derived.Deep.RegionHeld3
import Derived.Test.YtlpaghkofljnfaaDoorCalls
namespace Go.Proofs.YtlpaghkofljnfaaDoor
open Go.RowKit

set_option maxRecDepth 100000 in
set_option maxHeartbeats 400000 in
theorem find1_any (s : Sl) (au rd : Int) (ga gr : Nat) (w : World) (ha : w.cell? ⟨ga, 0, none⟩ = some (.int .i64 au)) (hr : w.cell? ⟨gr, 0, none⟩ = some (.int .i64 rd)) :
    Calls Tryd.prog 36 #[.agg #[.int .i64 s.au, .int .i64 s.rd, .slice s.p.sa s.p.bs.length s.p.cap], .pointer (some ⟨ga, 0, none⟩), .pointer (some ⟨gr, 0, none⟩)] w fun e w' => e = .returned (.bool (decide (s.au = au ∧ s.rd = rd))) ∧ Below w.heap.size w w' := by
  have la := block_lt_of_cell ha
  have lr := block_lt_of_cell hr
  have na : ga ≠ w.heap.size := by simp at la; omega
  have nr : gr ≠ w.heap.size := by simp at lr; omega
  go_enter Tryd.func36, Tryd.ntmps36
  go_wp2_with fail
  all_goals (go_ret; exact ⟨by first | (simp_all; done) | (simp_all; rfl), (Below.refl _ _).alloc (Nat.le_refl _) _⟩)

set_option maxRecDepth 100000 in
set_option maxHeartbeats 1000000 in
theorem indexSlot_any (ls : List Sl) (sa : Option Addr) (k cap : Nat) (au rd : Int) (ga gr : Nat) (w : World) (hk : k ≤ ls.length) (hk2 : k ≤ 3000000000000000000) (hp : SlotsAt w sa ls) (ha : w.cell? ⟨ga, 0, none⟩ = some (.int .i64 au)) (hr : w.cell? ⟨gr, 0, none⟩ = some (.int .i64 rd)) :
    Calls Tryd.prog 37 #[.slice sa k cap, .func (.func 36) #[] #[.pointer (some ⟨ga, 0, none⟩), .pointer (some ⟨gr, 0, none⟩)]] w fun e w' => ∃ r : Int, e = .returned (.int .i64 r) ∧ First (vs ls) au rd k r ∧ Below w.heap.size w w' := by
  go_enter Tryd.func37, Tryd.ntmps37
  go_wp2_with fail
  go_loopw [8] (fun i wr => ∃ m : Nat, m ≤ k ∧ i = .int .i64 m ∧ (∀ j, j < m → hit (vs ls) au rd j = false) ∧ Below w.heap.size w wr) (fun i _ => k - (intOf i).toNat)
  case atStart => exact ⟨0, Nat.zero_le _, rfl, (fun j hj => by omega), Below.refl _ _⟩
  case round =>
    obtain ⟨m, hm, rfl, hno, hb⟩ := hrel
    by_cases hlt : m < k
    · have hmp : m < ls.length := by omega
      have hpw := hp.below hb
      obtain ⟨sb, so, rfl, hc⟩ : ∃ sb so, sa = some ⟨sb, so, none⟩ ∧ ∀ j (h : j < ls.length), wr.cell? ⟨sb, so + j * 3, none⟩ = some (.int .i64 (ls[j]).au) ∧ wr.cell? ⟨sb, so + j * 3 + 1, none⟩ = some (.int .i64 (ls[j]).rd) ∧ wr.cell? ⟨sb, so + j * 3 + 2, none⟩ = some (.slice (ls[j]).p.sa (ls[j]).p.bs.length (ls[j]).p.cap) := by
        rcases hpw.cells with h | h
        · rw [h] at hmp; simp at hmp
        · exact h
      obtain ⟨c0, c1, c2⟩ := hc m hmp
      have hg := hit_get ls au rd m hmp
      have haw := (hb.cell (p := ⟨ga, 0, none⟩) (block_lt_of_cell ha)).trans ha
      have hrw := (hb.cell (p := ⟨gr, 0, none⟩) (block_lt_of_cell hr)).trans hr
      have hltI : (m : Int) < k := by omega
      clear hc
      generalize ls[m] = s at *
      have hF : Hid (decide (s.au = au ∧ s.rd = rd) = true → First (vs ls) au rd k m) := by
        show _ → _
        intro h
        exact .inl ⟨m, hlt, rfl, by rw [hg]; exact h, hno⟩
      have hN : Hid (decide (s.au = au ∧ s.rd = rd) = false → ∀ j, j < m + 1 → hit (vs ls) au rd j = false) := by
        show _ → _
        intro h j hj
        rcases Nat.lt_or_ge j m with g | g
        · exact hno j g
        · obtain rfl : j = m := by omega
          rw [hg]; exact h
      clear hno hg
      go_wp2_with fail
      refine (find1_any s au rd ga gr wr haw hrw).mono ?_
      rintro e w1 ⟨he, hb1⟩
      subst he
      dsimp only
      have hB1 := hb.trans (hb1.mono hb.size)
      generalize decide (s.au = au ∧ s.rd = rd) = x at *
      cases x
      · have hn := hN.out rfl
        clear hF hN
        go_wp2_with fail
        go_roundw
        case rel => exact ⟨m + 1, by omega, by go_num, hn, hB1⟩
        case measure => simp [intOf]; omega
      · have hn := hF.out rfl
        clear hF hN
        go_wp2_with fail
        go_ret
        exact ⟨_, rfl, hn, hB1⟩
    · obtain rfl : m = k := by omega
      have hF : Hid (First (vs ls) au rd m (-1)) := .inr ⟨rfl, hno⟩
      clear hno
      go_wp2_with fail
      go_ret
      exact ⟨_, rfl, hF.out, hb⟩
set_option maxRecDepth 100000 in
set_option maxHeartbeats 400000 in
theorem find_any (ls : List Sl) (sa : Option Addr) (k cap : Nat) (au rd : Int) (w : World) (hk : k ≤ ls.length) (hk2 : k ≤ 3000000000000000000) (hp : SlotsAt w sa ls) :
    Calls Tryd.prog 20 #[.slice sa k cap, .int .i64 au, .int .i64 rd] w fun e w' => ∃ r : Int, e = .returned (.int .i64 r) ∧ First (vs ls) au rd k r ∧ Below w.heap.size w w' := by
  have hmf : ∀ (fn : Fn) (first cap : Array Value) (w : World), (Instr.makeFunc fn first cap).run Tryd.prog w = .ok (.func fn first cap) w := fun _ _ _ _ => rfl
  go_enter Tryd.func20, Tryd.ntmps20
  go_wp2_with fail
  have hR : Below w.heap.size w ((w.alloc (.cells #[.int .i64 au] 3)).alloc (.cells #[.int .i64 rd] 3)) := ((Below.refl _ _).alloc (Nat.le_refl _) _).alloc (by simp) _
  refine (indexSlot_any ls sa k cap au rd _ _ _ hk hk2 (hp.below hR) ?_ ?_).mono ?_
  · simp
  · simp
  rintro e w1 ⟨r, he, hF, hb1⟩
  subst he
  dsimp only
  go_wp2_with fail
  go_ret
  exact ⟨r, rfl, hF, below_alloc (below_alloc hb1)⟩

set_option maxRecDepth 100000 in
set_option maxHeartbeats 1000000 in
theorem checkTab_any (ls : List Sl) (sa : Option Addr) (n cap : Nat) (w : World) (hn : n = ls.length) (ht : TabAt w sa cap ls) :
    Calls Tryd.prog 11 #[.slice sa n cap] w fun e w' => e = .returned (.int .i64 (tabF (vs ls))) ∧ Below w.heap.size w w' := by
  subst hn
  have hle := ht.le
  have hmx := ht.max
  by_cases hlong : 400 < ls.length
  · have hF : Hid (tabF (vs ls) = 12) := tabF_long _ (by rw [vs_length]; exact hlong)
    have hI : (400 : Int) < ls.length := by omega
    go_enter Tryd.func11, Tryd.ntmps11
    go_wp2_with fail
    go_ret
    exact ⟨ret_int hF.out.symm, Below.refl _ _⟩
  have hI : ¬ (400 : Int) < ls.length := by omega
  go_enter Tryd.func11, Tryd.ntmps11
  go_wp2_with fail
  go_loopw [10] (fun i wr => ∃ m : Nat, m ≤ ls.length ∧ i = .int .i64 m ∧ (∀ j, j < m → badAt (vs ls) j = false) ∧ Below w.heap.size w wr) (fun i _ => ls.length - (intOf i).toNat)
  case atStart => exact ⟨0, Nat.zero_le _, rfl, (fun j hj => by omega), Below.refl _ _⟩
  case round =>
    obtain ⟨m, hm, rfl, hno, hb⟩ := hrel
    by_cases hlt : m < ls.length
    · have hpw := ht.slots.below hb
      obtain ⟨sb, so, rfl, hc⟩ : ∃ sb so, sa = some ⟨sb, so, none⟩ ∧ ∀ j (h : j < ls.length), wr.cell? ⟨sb, so + j * 3, none⟩ = some (.int .i64 (ls[j]).au) ∧ wr.cell? ⟨sb, so + j * 3 + 1, none⟩ = some (.int .i64 (ls[j]).rd) ∧ wr.cell? ⟨sb, so + j * 3 + 2, none⟩ = some (.slice (ls[j]).p.sa (ls[j]).p.bs.length (ls[j]).p.cap) := by
        rcases hpw.cells with h | h
        · rw [h] at hlt; simp at hlt
        · exact h
      obtain ⟨c0, c1, c2⟩ := hc m hlt
      have hltI : (m : Int) < ls.length := by omega
      have hmc : (m : Int) ≤ cap := by omega
      have hAt : Hid (badAt (vs ls) m = (decide (slotF (ls[m]).au (ls[m]).rd (ls[m]).p.bs.length ≠ 0) || anyHit (vs ls) (ls[m]).au (ls[m]).rd m)) := by
        show _ = _
        rw [badAt, svAt_get ls m hlt]; rfl
      have hB : Hid (badAt (vs ls) m = true → tabF (vs ls) = 12) := by
        show _ → _
        exact tabF_bad (vs ls) m (by rw [vs_length]; exact hlt)
      have hN : Hid (badAt (vs ls) m = false → ∀ j, j < m + 1 → badAt (vs ls) j = false) := by
        show _ → _
        intro h j hj
        rcases Nat.lt_or_ge j m with g | g
        · exact hno j g
        · obtain rfl : j = m := by omega
          exact h
      have HA : Hid (∀ W : World, Below wr.heap.size wr W → Calls Tryd.prog 20 #[.slice (some ⟨sb, so, none⟩) m cap, .int .i64 (ls[m]).au, .int .i64 (ls[m]).rd] W fun e w' => ∃ r : Int, e = .returned (.int .i64 r) ∧ ((anyHit (vs ls) (ls[m]).au (ls[m]).rd m = true ∧ 0 ≤ r) ∨ (anyHit (vs ls) (ls[m]).au (ls[m]).rd m = false ∧ r = -1)) ∧ Below W.heap.size W w') := by
        show ∀ W, _
        intro W hW
        refine (find_any ls (some ⟨sb, so, none⟩) m cap (ls[m]).au (ls[m]).rd W (by omega) (by have := ht.small; omega) (hpw.below hW)).mono ?_
        rintro e w' ⟨r, he, hF, hb'⟩
        exact ⟨r, he, hF.neg, hb'⟩
      have HS : Hid (∀ W : World, Calls Tryd.prog 24 #[.agg #[.int .i64 (ls[m]).au, .int .i64 (ls[m]).rd, .slice (ls[m]).p.sa (ls[m]).p.bs.length (ls[m]).p.cap]] W fun e w' => e = .returned (.int .i64 (slotF (ls[m]).au (ls[m]).rd (ls[m]).p.bs.length)) ∧ Below W.heap.size W w') := by
        show ∀ W, _
        intro W
        exact checkSlot_any _ _ _ _ _ W
      clear hc hno hpw ht
      generalize ls[m] = s at *
      have hA := (Below.refl wr.heap.size wr).alloc (Nat.le_refl _) (.cells #[.int .i64 s.au, .int .i64 s.rd, .slice s.p.sa s.p.bs.length s.p.cap] 39)
      have r0 := heap_alloc_new wr (.cells #[.int .i64 s.au, .int .i64 s.rd, .slice s.p.sa s.p.bs.length s.p.cap] 39)
      go_wp2_with fail
      generalize wr.alloc (.cells #[.int .i64 s.au, .int .i64 s.rd, .slice s.p.sa s.p.bs.length s.p.cap] 39) = W0 at hA r0 ⊢
      have d0 : W0.cell? ⟨wr.heap.size, 0, none⟩ = some (.int .i64 s.au) := cells_at r0 0 _ rfl
      have d1 : W0.cell? ⟨wr.heap.size, 1, none⟩ = some (.int .i64 s.rd) := cells_at r0 1 _ rfl
      have d2 : W0.cell? ⟨wr.heap.size, 2, none⟩ = some (.slice s.p.sa s.p.bs.length s.p.cap) := cells_at r0 2 _ rfl
      have hblt : wr.heap.size < W0.heap.size := lt_of_heap r0
      clear c0 c1 c2
      by_cases hx : slotF s.au s.rd s.p.bs.length = 0
      · rw [hx] at HS
        have H7 : Hid (anyHit (vs ls) s.au s.rd m = true → tabF (vs ls) = 12) := by
          show _ → _
          intro h; exact hB.out (by rw [hAt.out, h]; simp)
        have H8 : Hid (anyHit (vs ls) s.au s.rd m = false → ∀ j, j < m + 1 → badAt (vs ls) j = false) := by
          show _ → _
          intro h; exact hN.out (by rw [hAt.out, h, hx]; rfl)
        clear hB hN hAt hx
        go_region_held3 (fun w' => w'.cell? ⟨wr.heap.size, 0, none⟩ = some (.int .i64 s.au) ∧ w'.cell? ⟨wr.heap.size, 1, none⟩ = some (.int .i64 s.rd) ∧ w'.cell? ⟨wr.heap.size, 2, none⟩ = some (.slice s.p.sa s.p.bs.length s.p.cap)) (go_keep) (first | (go_at_call 20; refine (HA.out _ (hA.trans (hbB.mono hA.size))).mono ?_; rintro e w3 ⟨r, rfl, hr, hb3⟩; have hb4 := hbB.trans (hb3.mono hbB.size); have k0 := (hb4.cell (p := ⟨wr.heap.size, 0, none⟩) hblt).trans d0; have k1 := (hb4.cell (p := ⟨wr.heap.size, 1, none⟩) hblt).trans d1; have k2 := (hb4.cell (p := ⟨wr.heap.size, 2, none⟩) hblt).trans d2) | (go_at_call 24; refine (HS.out _).mono ?_; rintro e w2 ⟨rfl, hb2⟩; have hbB : Below W0.heap.size W0 w2 := below_drew hb2; have e0 := (hbB.cell (p := ⟨wr.heap.size, 0, none⟩) hblt).trans d0; have e1 := (hbB.cell (p := ⟨wr.heap.size, 1, none⟩) hblt).trans d1; have e2 := (hbB.cell (p := ⟨wr.heap.size, 2, none⟩) hblt).trans d2))
        all_goals
          have hbC := hb.trans ((hA.trans (hb4.mono hA.size)).mono hb.size)
          rcases hr with ⟨ha, hr⟩ | ⟨ha, rfl⟩
          · have hy := H7.out ha
            clear H7 H8 ha
            go_wp2_with fail
            go_ret
            exact ⟨ret_int hy.symm, hbC⟩
          · have hn := H8.out ha
            clear H7 H8 ha
            go_wp2_with fail
            go_roundw
            case rel =>
              have hR : ∃ m' : Nat, m' ≤ ls.length ∧ (Value.int .i64 ((m : Int) + 1)) = .int .i64 m' ∧ (∀ j, j < m' → badAt (vs ls) j = false) ∧ Below w.heap.size w w3 := ⟨m + 1, by omega, by go_num, hn, hbC⟩
              first | exact hR | ((repeat apply Exists.intro); exact ⟨hR, rfl⟩)
            case measure => simp [intOf]; omega
      · have h12 : Hid (tabF (vs ls) = 12) := hB.out (by rw [hAt.out]; simp [hx])
        generalize slotF s.au s.rd s.p.bs.length = x at *
        clear hB hN hAt HA
        have hxn : (x != 0) = true := by simpa using hx
        refine wp_region_held_drew (S := fun w' => w'.cell? ⟨wr.heap.size, 0, none⟩ = some (.int .i64 s.au) ∧ w'.cell? ⟨wr.heap.size, 1, none⟩ = some (.int .i64 s.rd) ∧ w'.cell? ⟨wr.heap.size, 2, none⟩ = some (.slice s.p.sa s.p.bs.length s.p.cap)) (by kernel_rfl) ⟨d0, d1, d2⟩ (fun hHeld => ?_)
        refine take_dst (i := 0) (d := 15) (v := .agg #[.int .i64 s.au, .int .i64 s.rd, .slice s.p.sa s.p.bs.length s.p.cap]) rfl rfl (by kernel_rfl) (by kernel_rfl) (by kernel_rfl) (fun _ _ _ h => h) (Or.inl ⟨by rfl, ?_⟩) hHeld ?_
        · (intro w0 hSw; (try dsimp only at hSw); go_simp)
        simp only [Act.put, List.setIfInBounds_toArray, List.set_cons_zero, List.set_cons_succ]
        refine wpAnyH_ready (rs := [1]) (by kernel_rfl) (by simp) (AllReadyH.cons rfl (fun K hK => ?_) AllReadyH.nil)
        refine step_calls_dst rfl 16 rfl 24 [.tmp 15] #[39] rfl [.agg #[.int .i64 s.au, .int .i64 s.rd, .slice s.p.sa s.p.bs.length s.p.cap]] rfl (enters_of Tryd.func24 (by kernel_rfl) rfl) (fun v w' => v = .int .i64 x ∧ Below W0.heap.size W0 w') ((HS.out _).mono (fun e w2 h => ⟨_, h.1, rfl, below_drew h.2⟩)) ?_
        rintro v w2 ⟨rfl, hbB⟩
        refine hK.out _ _ ⟨(hbB.cell (p := ⟨wr.heap.size, 0, none⟩) hblt).trans d0, (hbB.cell (p := ⟨wr.heap.size, 1, none⟩) hblt).trans d1, (hbB.cell (p := ⟨wr.heap.size, 2, none⟩) hblt).trans d2⟩ (fun hHeld => ?_)
        simp only [Act.put, List.setIfInBounds_toArray, List.set_cons_zero, List.set_cons_succ]
        refine take_dst (i := 2) (d := 17) (v := .bool true) rfl rfl (by kernel_rfl) (by kernel_rfl) (by kernel_rfl) (fun _ _ _ h => h) (Or.inl ⟨by rfl, ?_⟩) hHeld ?_
        · (intro w0 hSw; (try dsimp only at hSw); go_simp)
        simp only [Act.put, List.setIfInBounds_toArray, List.set_cons_zero, List.set_cons_succ]
        refine take_dst (i := 3) (d := 18) (v := .bool true) rfl rfl (by kernel_rfl) (by kernel_rfl) (by kernel_rfl) (fun _ _ _ h => h) (Or.inl ⟨by rfl, ?_⟩) hHeld ?_
        · (intro w0 hSw; (try dsimp only at hSw); go_simp)
        simp only [Act.put, List.setIfInBounds_toArray, List.set_cons_zero, List.set_cons_succ]
        refine take_dst (i := 4) (d := 19) (v := undef) rfl rfl (by kernel_rfl) (by kernel_rfl) (by kernel_rfl) (fun _ _ _ h => h) (Or.inr ⟨by rfl, rfl⟩) hHeld ?_
        simp only [Act.put, List.setIfInBounds_toArray, List.set_cons_zero, List.set_cons_succ]
        refine take_dst (i := 5) (d := 20) (v := undef) rfl rfl (by kernel_rfl) (by kernel_rfl) (by kernel_rfl) (fun _ _ _ h => h) (Or.inr ⟨by rfl, rfl⟩) hHeld ?_
        simp only [Act.put, List.setIfInBounds_toArray, List.set_cons_zero, List.set_cons_succ]
        refine take_dst (i := 6) (d := 21) (v := undef) rfl rfl (by kernel_rfl) (by kernel_rfl) (by kernel_rfl) (fun _ _ _ h => h) (Or.inr ⟨by rfl, rfl⟩) hHeld ?_
        simp only [Act.put, List.setIfInBounds_toArray, List.set_cons_zero, List.set_cons_succ]
        refine take_dst (i := 7) (d := 22) (v := undef) rfl rfl (by kernel_rfl) (by kernel_rfl) (by kernel_rfl) (fun _ _ _ h => h) (Or.inr ⟨by rfl, rfl⟩) hHeld ?_
        simp only [Act.put, List.setIfInBounds_toArray, List.set_cons_zero, List.set_cons_succ]
        refine take_dst (i := 8) (d := 23) (v := undef) rfl rfl (by kernel_rfl) (by kernel_rfl) (by kernel_rfl) (fun _ _ _ h => h) (Or.inr ⟨by rfl, rfl⟩) hHeld ?_
        simp only [Act.put, List.setIfInBounds_toArray, List.set_cons_zero, List.set_cons_succ]
        refine take_dst (i := 9) (d := 24) (v := undef) rfl rfl (by kernel_rfl) (by kernel_rfl) (by kernel_rfl) (fun _ _ _ h => h) (Or.inr ⟨by rfl, rfl⟩) hHeld ?_
        simp only [Act.put, List.setIfInBounds_toArray, List.set_cons_zero, List.set_cons_succ]
        refine take_dst (i := 10) (d := 25) (v := undef) rfl rfl (by kernel_rfl) (by kernel_rfl) (by kernel_rfl) (fun _ _ _ h => h) (Or.inr ⟨by rfl, rfl⟩) hHeld ?_
        simp only [Act.put, List.setIfInBounds_toArray, List.set_cons_zero, List.set_cons_succ]
        refine take_dst (i := 11) (d := 26) (v := undef) rfl rfl (by kernel_rfl) (by kernel_rfl) (by kernel_rfl) (fun _ _ _ h => h) (Or.inr ⟨by rfl, rfl⟩) hHeld ?_
        simp only [Act.put, List.setIfInBounds_toArray, List.set_cons_zero, List.set_cons_succ]
        refine take_dst (i := 12) (d := 27) (v := undef) rfl rfl (by kernel_rfl) (by kernel_rfl) (by kernel_rfl) (fun _ _ _ h => h) (Or.inr ⟨by rfl, rfl⟩) hHeld ?_
        simp only [Act.put, List.setIfInBounds_toArray, List.set_cons_zero, List.set_cons_succ]
        refine take_dst (i := 13) (d := 28) (v := .bool true) rfl rfl (by kernel_rfl) (by kernel_rfl) (by kernel_rfl) (fun _ _ _ h => h) (Or.inl ⟨by rfl, ?_⟩) hHeld ?_
        · (intro w0 hSw; (try dsimp only at hSw); go_simp)
        simp only [Act.put, List.setIfInBounds_toArray, List.set_cons_zero, List.set_cons_succ]
        refine wpAnyH_done (by kernel_rfl) ?_ _
        go_wp2_with fail
        go_ret
        exact ⟨ret_int h12.out.symm, hb.trans ((hA.trans (hbB.mono hA.size)).mono hb.size)⟩
    · obtain rfl : m = ls.length := by omega
      have hF : Hid (tabF (vs ls) = 0) := tabF_ok _ (by rw [vs_length]; omega) (fun k hk => hno k (by rw [vs_length] at hk; exact hk))
      clear hno
      go_wp2_with fail
      go_ret
      exact ⟨ret_int hF.out.symm, hb⟩
end Go.Proofs.YtlpaghkofljnfaaDoor
