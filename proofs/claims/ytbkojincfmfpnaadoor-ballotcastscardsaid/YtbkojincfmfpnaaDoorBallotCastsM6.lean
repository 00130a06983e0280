/- The document's answer, package sheavesref: turned: a word, turned. -/
import Derived.Test.YtbkojincfmfpnaaDoorSlotsL
import Derived.Test.YtbkojincfmfpnaaDoorBallotCastsM0
import Derived.Test.YtbkojincfmfpnaaDoorSx
import Derived.Deep.RegionHeld3
import Derived.Test.YtbkojincfmfpnaaDoorAppR
import Derived.Test.YtbkojincfmfpnaaDoorJoined
import Derived.Test.YtbkojincfmfpnaaDoorAppB
import Derived.Lib.ConvBytes
import Derived.Deep.CutRange
import Derived.Deep.DeepCutAuto
import Derived.Test.YtbkojincfmfpnaaDoorAppH
import Derived.Test.YtbkojincfmfpnaaDoorK
import Derived.Test.YtbkojincfmfpnaaDoorLib
import Derived.Deep.QuietTactic
import Derived.BigQuiet
import Derived.BigRegion
import Derived.Deep.RegionWith
namespace Go.Proofs.YtbkojincfmfpnaaDoor
open Go.RowKit

set_option maxRecDepth 100000 in
set_option maxHeartbeats 1000000 in
theorem slotAt_any (ls : List Sl) (sa : Option Addr) (k cap : Nat) (au rd : Int) (w : World) (hk : k ≤ ls.length) (hk2 : k ≤ 3000000000000000000) (hp : SlotsAt w sa ls) :
    Calls Tryd.prog 56 #[.slice sa k cap, .int .i64 au, .int .i64 rd] w fun e w' => ∃ r : Int, e = .returned (.int .i64 r) ∧ First (vs ls) au rd k r ∧ Below w.heap.size w w' := by
  go_enter Tryd.func56, Tryd.ntmps56
  go_wp2_with fail
  go_loopw [7] (fun i wr => ∃ m : Nat, m ≤ k ∧ i = .int .i64 m ∧ (∀ j, j < m → hit (vs ls) au rd j = false) ∧ Below w.heap.size w wr) (fun i _ => k - (intOf i).toNat)
  case atStart => exact ⟨0, Nat.zero_le _, rfl, (fun j hj => by omega), Below.refl _ _⟩
  case round =>
    obtain ⟨m, hm, rfl, hno, hb⟩ := hrel
    by_cases hlt : m < k
    · have hmp : m < ls.length := by omega
      have hpw := hp.below hb
      obtain ⟨sb, so, rfl, hc⟩ : ∃ sb so, sa = some ⟨sb, so, none⟩ ∧ ∀ j (h : j < ls.length), wr.cell? ⟨sb, so + j * 3, none⟩ = some (.int .i64 (ls[j]).au) ∧ wr.cell? ⟨sb, so + j * 3 + 1, none⟩ = some (.int .i64 (ls[j]).rd) ∧ wr.cell? ⟨sb, so + j * 3 + 2, none⟩ = some (.slice (ls[j]).p.sa (ls[j]).p.bs.length (ls[j]).p.cap) := by
        rcases hpw.cells with h | h
        · rw [h] at hmp; simp at hmp
        · exact h
      obtain ⟨c0, c1, c2⟩ := hc m hmp
      have hg := hit_get ls au rd m hmp
      have hltI : (m : Int) < k := by omega
      clear hc
      generalize ls[m] = s at *
      by_cases h : s.au = au ∧ s.rd = rd
      · obtain ⟨rfl, rfl⟩ := h
        have hF : Hid (First (vs ls) s.au s.rd k m) := .inl ⟨m, hlt, rfl, by rw [hg]; simp, hno⟩
        clear hno hg
        go_wp2_with fail
        all_goals
          go_ret
          exact ⟨_, rfl, hF.out, hb⟩
      · have hN : Hid (∀ j, j < m + 1 → hit (vs ls) au rd j = false) := by
          show ∀ j, _
          intro j hj
          rcases Nat.lt_or_ge j m with g | g
          · exact hno j g
          · obtain rfl : j = m := by omega
            rw [hg]; simp [h]
        clear hno hg
        go_wp2_with fail
        all_goals
          go_roundw
          case rel => exact ⟨m + 1, by omega, by go_num, hN.out, hb⟩
          case measure => simp [intOf]; omega
    · obtain rfl : m = k := by omega
      have hF : Hid (First (vs ls) au rd m (-1)) := .inr ⟨rfl, hno⟩
      clear hno
      go_wp2_with fail
      go_ret
      exact ⟨_, rfl, hF.out, hb⟩

set_option maxRecDepth 100000 in
set_option maxHeartbeats 1000000 in
theorem tableFault_any (ls : List Sl) (sa : Option Addr) (n cap : Nat) (w : World) (hn : n = ls.length) (ht : TabAt w sa cap ls) :
    Calls Tryd.prog 54 #[.slice sa n cap] w fun e w' => e = .returned (.int .i64 (tabF (vs ls))) ∧ Below w.heap.size w w' := by
  subst hn
  have hle := ht.le
  have hmx := ht.max
  by_cases hlong : 400 < ls.length
  · have hF : Hid (tabF (vs ls) = 12) := tabF_long _ (by rw [vs_length]; exact hlong)
    have hI : (400 : Int) < ls.length := by omega
    go_enter Tryd.func54, Tryd.ntmps54
    go_wp2_with fail
    go_ret
    exact ⟨ret_int hF.out.symm, Below.refl _ _⟩
  have hI : ¬ (400 : Int) < ls.length := by omega
  go_enter Tryd.func54, Tryd.ntmps54
  go_wp2_with fail
  go_loopw [3] (fun i wr => ∃ m : Nat, m ≤ ls.length ∧ i = .int .i64 m ∧ (∀ j, j < m → badAt (vs ls) j = false) ∧ Below w.heap.size w wr) (fun i _ => ls.length - (intOf i).toNat)
  case atStart => exact ⟨0, Nat.zero_le _, rfl, (fun j hj => by omega), Below.refl _ _⟩
  case round =>
    obtain ⟨m, hm, rfl, hno, hb⟩ := hrel
    by_cases hlt : m < ls.length
    · have hpw := ht.slots.below hb
      obtain ⟨sb, so, rfl, hc⟩ : ∃ sb so, sa = some ⟨sb, so, none⟩ ∧ ∀ j (h : j < ls.length), wr.cell? ⟨sb, so + j * 3, none⟩ = some (.int .i64 (ls[j]).au) ∧ wr.cell? ⟨sb, so + j * 3 + 1, none⟩ = some (.int .i64 (ls[j]).rd) ∧ wr.cell? ⟨sb, so + j * 3 + 2, none⟩ = some (.slice (ls[j]).p.sa (ls[j]).p.bs.length (ls[j]).p.cap) := by
        rcases hpw.cells with h | h
        · rw [h] at hlt; simp at hlt
        · exact h
      obtain ⟨c0, c1, c2⟩ := hc m hlt
      have hltI : (m : Int) < ls.length := by omega
      have hmc : (m : Int) ≤ cap := by omega
      have hAt : Hid (badAt (vs ls) m = (decide (slotF (ls[m]).au (ls[m]).rd (ls[m]).p.bs.length ≠ 0) || anyHit (vs ls) (ls[m]).au (ls[m]).rd m)) := by
        show _ = _
        rw [badAt, svAt_get ls m hlt]; rfl
      have hB : Hid (badAt (vs ls) m = true → tabF (vs ls) = 12) := by
        show _ → _
        exact tabF_bad (vs ls) m (by rw [vs_length]; exact hlt)
      have hN : Hid (badAt (vs ls) m = false → ∀ j, j < m + 1 → badAt (vs ls) j = false) := by
        show _ → _
        intro h j hj
        rcases Nat.lt_or_ge j m with g | g
        · exact hno j g
        · obtain rfl : j = m := by omega
          exact h
      have hsx := hpw.each (ls[m]) (List.getElem_mem hlt)
      have HA : Hid (∀ W : World, Below wr.heap.size wr W → Calls Tryd.prog 56 #[.slice (some ⟨sb, so, none⟩) m cap, .int .i64 (ls[m]).au, .int .i64 (ls[m]).rd] W fun e w' => ∃ r : Int, e = .returned (.int .i64 r) ∧ ((anyHit (vs ls) (ls[m]).au (ls[m]).rd m = true ∧ 0 ≤ r) ∨ (anyHit (vs ls) (ls[m]).au (ls[m]).rd m = false ∧ r = -1)) ∧ Below W.heap.size W w') := by
        show ∀ W, _
        intro W hW
        refine (slotAt_any ls (some ⟨sb, so, none⟩) m cap (ls[m]).au (ls[m]).rd W (by omega) (by have := ht.small; omega) (hpw.below hW)).mono ?_
        rintro e w' ⟨r, he, hF, hb'⟩
        exact ⟨r, he, hF.neg, hb'⟩
      have HS : Hid (∀ W : World, Calls Tryd.prog 82 #[.agg #[.int .i64 (ls[m]).au, .int .i64 (ls[m]).rd, .slice (ls[m]).p.sa (ls[m]).p.bs.length (ls[m]).p.cap]] W fun e w' => e = .returned (.int .i64 (slotF (ls[m]).au (ls[m]).rd (ls[m]).p.bs.length)) ∧ Below W.heap.size W w') := by
        show ∀ W, _
        intro W
        exact slotFault_any _ _ _ _ _ W
      clear hc hno hpw ht
      generalize ls[m] = s at *
      have hblt : sb < wr.heap.size := block_lt_of_cell c0
      by_cases hx : slotF s.au s.rd s.p.bs.length = 0
      · rw [hx] at HS
        have H7 : Hid (anyHit (vs ls) s.au s.rd m = true → tabF (vs ls) = 12) := by
          show _ → _
          intro h; exact hB.out (by rw [hAt.out, h]; simp)
        have H8 : Hid (anyHit (vs ls) s.au s.rd m = false → ∀ j, j < m + 1 → badAt (vs ls) j = false) := by
          show _ → _
          intro h; exact hN.out (by rw [hAt.out, h, hx]; rfl)
        clear hB hN hAt hx
        go_wp2_with fail
        go_region_held3 (fun w' => w'.cell? ⟨sb, so + m * 3, none⟩ = some (.int .i64 s.au) ∧ w'.cell? ⟨sb, so + m * 3 + 1, none⟩ = some (.int .i64 s.rd) ∧ w'.cell? ⟨sb, so + m * 3 + 2, none⟩ = some (.slice s.p.sa s.p.bs.length s.p.cap)) (go_keep) (first | (go_at_call 56; refine (HA.out _ hbB).mono ?_; rintro e w3 ⟨r, rfl, hr, hb3⟩; have hb4 := hbB.trans (hb3.mono hbB.size); have k0 := (hb4.cell (p := ⟨sb, so + m * 3, none⟩) hblt).trans c0; have k1 := (hb4.cell (p := ⟨sb, so + m * 3 + 1, none⟩) hblt).trans c1; have k2 := (hb4.cell (p := ⟨sb, so + m * 3 + 2, none⟩) hblt).trans c2) | (go_at_call 82; refine (HS.out _).mono ?_; rintro e w2 ⟨rfl, hb2⟩; have hbB : Below wr.heap.size wr w2 := below_drew hb2; have e0 := (hbB.cell (p := ⟨sb, so + m * 3, none⟩) hblt).trans c0; have e1 := (hbB.cell (p := ⟨sb, so + m * 3 + 1, none⟩) hblt).trans c1; have e2 := (hbB.cell (p := ⟨sb, so + m * 3 + 2, none⟩) hblt).trans c2))
        all_goals
          have hbC := hb.trans ((hbB.trans (hb3.mono hbB.size)).mono hb.size)
          rcases hr with ⟨ha, hr⟩ | ⟨ha, rfl⟩
          · have hy := H7.out ha
            clear H7 H8 ha
            go_wp2_with fail
            go_ret
            exact ⟨ret_int hy.symm, hbC⟩
          · have hn := H8.out ha
            clear H7 H8 ha
            go_wp2_with fail
            go_roundw
            case rel =>
              have hR : ∃ m' : Nat, m' ≤ ls.length ∧ (Value.int .i64 ((m : Int) + 1)) = .int .i64 m' ∧ (∀ j, j < m' → badAt (vs ls) j = false) ∧ Below w.heap.size w w3 := ⟨m + 1, by omega, by go_num, hn, hbC⟩
              first | exact hR | ((repeat apply Exists.intro); exact ⟨hR, rfl⟩)
            case measure => simp [intOf]; omega
      · have h12 : Hid (tabF (vs ls) = 12) := hB.out (by rw [hAt.out]; simp [hx])
        generalize slotF s.au s.rd s.p.bs.length = x at *
        clear hB hN hAt HA
        have hxn : (x != 0) = true := by simpa using hx
        go_wp2_with fail
        refine wp_region_held_drew (S := fun w' => w'.cell? ⟨sb, so + m * 3, none⟩ = some (.int .i64 s.au) ∧ w'.cell? ⟨sb, so + m * 3 + 1, none⟩ = some (.int .i64 s.rd) ∧ w'.cell? ⟨sb, so + m * 3 + 2, none⟩ = some (.slice s.p.sa s.p.bs.length s.p.cap)) (by kernel_rfl) ⟨c0, c1, c2⟩ (fun hHeld => ?_)
        refine take_dst (i := 0) (d := 13) (v := .slice (some ⟨sb, so, none⟩) ls.length cap) rfl rfl (by kernel_rfl) (by kernel_rfl) (by kernel_rfl) (fun _ _ _ h => h) (Or.inl ⟨by rfl, ?_⟩) hHeld ?_
        · (intro w0 hSw; (try dsimp only at hSw); go_simp)
        simp only [Act.put, List.setIfInBounds_toArray, List.set_cons_zero, List.set_cons_succ]
        refine take_dst (i := 1) (d := 14) (v := .int .i64 m) rfl rfl (by kernel_rfl) (by kernel_rfl) (by kernel_rfl) (fun _ _ _ h => h) (Or.inl ⟨by rfl, ?_⟩) hHeld ?_
        · (intro w0 hSw; (try dsimp only at hSw); go_simp)
        simp only [Act.put, List.setIfInBounds_toArray, List.set_cons_zero, List.set_cons_succ]
        refine take_dst (i := 2) (d := 15) (v := .pointer (some ⟨sb, so + m * 3, none⟩)) rfl rfl (by kernel_rfl) (by kernel_rfl) (by kernel_rfl) (fun _ _ _ h => h) (Or.inl ⟨by rfl, ?_⟩) hHeld ?_
        · (intro w0 hSw; (try dsimp only at hSw); go_simp)
        simp only [Act.put, List.setIfInBounds_toArray, List.set_cons_zero, List.set_cons_succ]
        refine take_dst (i := 3) (d := 16) (v := .agg #[.int .i64 s.au, .int .i64 s.rd, .slice s.p.sa s.p.bs.length s.p.cap]) rfl rfl (by kernel_rfl) (by kernel_rfl) (by kernel_rfl) (fun _ _ _ h => h) (Or.inl ⟨by rfl, ?_⟩) hHeld ?_
        · (intro w0 hSw; (try dsimp only at hSw); go_simp)
        simp only [Act.put, List.setIfInBounds_toArray, List.set_cons_zero, List.set_cons_succ]
        refine wpAnyH_ready (rs := [4]) (by kernel_rfl) (by simp) (AllReadyH.cons rfl (fun K hK => ?_) AllReadyH.nil)
        refine step_calls_dst rfl 17 rfl 82 [.tmp 16] #[47] rfl [.agg #[.int .i64 s.au, .int .i64 s.rd, .slice s.p.sa s.p.bs.length s.p.cap]] rfl (enters_of Tryd.func82 (by kernel_rfl) rfl) (fun v w' => v = .int .i64 x ∧ Below wr.heap.size wr w') ((HS.out _).mono (fun e w2 h => ⟨_, h.1, rfl, below_drew h.2⟩)) ?_
        rintro v w2 ⟨rfl, hbB⟩
        refine hK.out _ _ ⟨(hbB.cell (p := ⟨sb, so + m * 3, none⟩) hblt).trans c0, (hbB.cell (p := ⟨sb, so + m * 3 + 1, none⟩) hblt).trans c1, (hbB.cell (p := ⟨sb, so + m * 3 + 2, none⟩) hblt).trans c2⟩ (fun hHeld => ?_)
        simp only [Act.put, List.setIfInBounds_toArray, List.set_cons_zero, List.set_cons_succ]
        refine take_dst (i := 5) (d := 18) (v := .bool true) rfl rfl (by kernel_rfl) (by kernel_rfl) (by kernel_rfl) (fun _ _ _ h => h) (Or.inl ⟨by rfl, ?_⟩) hHeld ?_
        · (intro w0 hSw; (try dsimp only at hSw); go_simp)
        simp only [Act.put, List.setIfInBounds_toArray, List.set_cons_zero, List.set_cons_succ]
        refine take_dst (i := 6) (d := 19) (v := .bool true) rfl rfl (by kernel_rfl) (by kernel_rfl) (by kernel_rfl) (fun _ _ _ h => h) (Or.inl ⟨by rfl, ?_⟩) hHeld ?_
        · (intro w0 hSw; (try dsimp only at hSw); go_simp)
        simp only [Act.put, List.setIfInBounds_toArray, List.set_cons_zero, List.set_cons_succ]
        refine take_dst (i := 7) (d := 20) (v := undef) rfl rfl (by kernel_rfl) (by kernel_rfl) (by kernel_rfl) (fun _ _ _ h => h) (Or.inr ⟨by rfl, rfl⟩) hHeld ?_
        simp only [Act.put, List.setIfInBounds_toArray, List.set_cons_zero, List.set_cons_succ]
        refine take_dst (i := 8) (d := 21) (v := undef) rfl rfl (by kernel_rfl) (by kernel_rfl) (by kernel_rfl) (fun _ _ _ h => h) (Or.inr ⟨by rfl, rfl⟩) hHeld ?_
        simp only [Act.put, List.setIfInBounds_toArray, List.set_cons_zero, List.set_cons_succ]
        refine take_dst (i := 9) (d := 22) (v := undef) rfl rfl (by kernel_rfl) (by kernel_rfl) (by kernel_rfl) (fun _ _ _ h => h) (Or.inr ⟨by rfl, rfl⟩) hHeld ?_
        simp only [Act.put, List.setIfInBounds_toArray, List.set_cons_zero, List.set_cons_succ]
        refine take_dst (i := 10) (d := 23) (v := undef) rfl rfl (by kernel_rfl) (by kernel_rfl) (by kernel_rfl) (fun _ _ _ h => h) (Or.inr ⟨by rfl, rfl⟩) hHeld ?_
        simp only [Act.put, List.setIfInBounds_toArray, List.set_cons_zero, List.set_cons_succ]
        refine take_dst (i := 11) (d := 24) (v := undef) rfl rfl (by kernel_rfl) (by kernel_rfl) (by kernel_rfl) (fun _ _ _ h => h) (Or.inr ⟨by rfl, rfl⟩) hHeld ?_
        simp only [Act.put, List.setIfInBounds_toArray, List.set_cons_zero, List.set_cons_succ]
        refine take_dst (i := 12) (d := 25) (v := undef) rfl rfl (by kernel_rfl) (by kernel_rfl) (by kernel_rfl) (fun _ _ _ h => h) (Or.inr ⟨by rfl, rfl⟩) hHeld ?_
        simp only [Act.put, List.setIfInBounds_toArray, List.set_cons_zero, List.set_cons_succ]
        refine take_dst (i := 13) (d := 26) (v := undef) rfl rfl (by kernel_rfl) (by kernel_rfl) (by kernel_rfl) (fun _ _ _ h => h) (Or.inr ⟨by rfl, rfl⟩) hHeld ?_
        simp only [Act.put, List.setIfInBounds_toArray, List.set_cons_zero, List.set_cons_succ]
        refine take_dst (i := 14) (d := 27) (v := undef) rfl rfl (by kernel_rfl) (by kernel_rfl) (by kernel_rfl) (fun _ _ _ h => h) (Or.inr ⟨by rfl, rfl⟩) hHeld ?_
        simp only [Act.put, List.setIfInBounds_toArray, List.set_cons_zero, List.set_cons_succ]
        refine take_dst (i := 15) (d := 28) (v := undef) rfl rfl (by kernel_rfl) (by kernel_rfl) (by kernel_rfl) (fun _ _ _ h => h) (Or.inr ⟨by rfl, rfl⟩) hHeld ?_
        simp only [Act.put, List.setIfInBounds_toArray, List.set_cons_zero, List.set_cons_succ]
        refine take_dst (i := 16) (d := 29) (v := undef) rfl rfl (by kernel_rfl) (by kernel_rfl) (by kernel_rfl) (fun _ _ _ h => h) (Or.inr ⟨by rfl, rfl⟩) hHeld ?_
        simp only [Act.put, List.setIfInBounds_toArray, List.set_cons_zero, List.set_cons_succ]
        refine take_dst (i := 17) (d := 30) (v := undef) rfl rfl (by kernel_rfl) (by kernel_rfl) (by kernel_rfl) (fun _ _ _ h => h) (Or.inr ⟨by rfl, rfl⟩) hHeld ?_
        simp only [Act.put, List.setIfInBounds_toArray, List.set_cons_zero, List.set_cons_succ]
        refine take_dst (i := 18) (d := 31) (v := undef) rfl rfl (by kernel_rfl) (by kernel_rfl) (by kernel_rfl) (fun _ _ _ h => h) (Or.inr ⟨by rfl, rfl⟩) hHeld ?_
        simp only [Act.put, List.setIfInBounds_toArray, List.set_cons_zero, List.set_cons_succ]
        refine take_dst (i := 19) (d := 32) (v := undef) rfl rfl (by kernel_rfl) (by kernel_rfl) (by kernel_rfl) (fun _ _ _ h => h) (Or.inr ⟨by rfl, rfl⟩) hHeld ?_
        simp only [Act.put, List.setIfInBounds_toArray, List.set_cons_zero, List.set_cons_succ]
        refine take_dst (i := 20) (d := 33) (v := undef) rfl rfl (by kernel_rfl) (by kernel_rfl) (by kernel_rfl) (fun _ _ _ h => h) (Or.inr ⟨by rfl, rfl⟩) hHeld ?_
        simp only [Act.put, List.setIfInBounds_toArray, List.set_cons_zero, List.set_cons_succ]
        refine take_dst (i := 21) (d := 34) (v := undef) rfl rfl (by kernel_rfl) (by kernel_rfl) (by kernel_rfl) (fun _ _ _ h => h) (Or.inr ⟨by rfl, rfl⟩) hHeld ?_
        simp only [Act.put, List.setIfInBounds_toArray, List.set_cons_zero, List.set_cons_succ]
        refine take_dst (i := 22) (d := 35) (v := .bool true) rfl rfl (by kernel_rfl) (by kernel_rfl) (by kernel_rfl) (fun _ _ _ h => h) (Or.inl ⟨by rfl, ?_⟩) hHeld ?_
        · (intro w0 hSw; (try dsimp only at hSw); go_simp)
        simp only [Act.put, List.setIfInBounds_toArray, List.set_cons_zero, List.set_cons_succ]
        refine wpAnyH_done (by kernel_rfl) ?_ _
        go_wp2_with fail
        go_ret
        exact ⟨ret_int h12.out.symm, hb.trans (hbB.mono hb.size)⟩
    · obtain rfl : m = ls.length := by omega
      have hF : Hid (tabF (vs ls) = 0) := tabF_ok _ (by rw [vs_length]; omega) (fun k hk => hno k (by rw [vs_length] at hk; exact hk))
      clear hno
      go_wp2_with fail
      go_ret
      exact ⟨ret_int hF.out.symm, hb⟩
end Go.Proofs.YtbkojincfmfpnaaDoor

namespace Go.Proofs.YtbkojincfmfpnaaDoor
open Go.RowKit

set_option maxRecDepth 100000 in
set_option maxHeartbeats 400000 in
theorem three_any (n : Int) (w : World) (hn : 0 ≤ n ∧ n ≤ 1048576) :
    Calls Tryd.prog 102 #[.int .i64 n] w fun e w' => e = .returned (.slice (some ⟨w.heap.size, 0, none⟩) 3 3) ∧ w'.ownsRow w.heap.size 5 1 (.slice (some ⟨w.heap.size, 0, none⟩) 3 3) 3 (ub (rd3 n)) ∧ Below w.heap.size w w' := by
  obtain ⟨hn0, hn1⟩ := hn
  have hO := World.ownsRow_lit (base := w.heap.size) (e := 5) (size := 1) w (ub (rd3 n)).toArray 3 (Nat.le_refl _) (by decide) rfl
  have HO : Hid _ := hO
  clear hO
  go_enter Tryd.func102, Tryd.ntmps102
  go_wp2_with fail
  go_ret
  exact ⟨rfl, HO.out, (Below.refl _ _).alloc (Nat.le_refl _) _⟩
end Go.Proofs.YtbkojincfmfpnaaDoor

namespace Go.Proofs.YtbkojincfmfpnaaDoor
open Go.RowKit

set_option maxRecDepth 100000 in
theorem bytesWorld_below (w : World) (e : TypeId) (s : ByteArray) : Below w.heap.size w (Lib.bytesWorld w e s) := ⟨rfl, rfl, rfl, by rw [Lib.bytesWorld_size]; omega, fun k hk => Lib.bytesWorld_at_old w e s k hk⟩
set_option maxRecDepth 100000 in
theorem bytesWorld_slice (w : World) (s : ByteArray) (hs : s.size ≤ 1000) : SliceAt (Lib.bytesWorld w 5 s) (some ⟨w.heap.size, 0, none⟩) (grownCap w s.size 0 5) (tb s) := by
  refine ⟨by rw [tb_length]; exact grownCap_ge w s.size 0 _, grownCap_le_maxLen w s.size 0 _ (by unfold maxLen; omega), .inr ⟨_, _, rfl⟩, (fun e => by cases e), .inr ⟨w.heap.size, 0, rfl, fun j hj => ?_⟩⟩
  rw [tb_length] at hj
  rw [Nat.zero_add, Lib.bytesWorld_cell w _ s j hj]
  simp [tb, List.getD, hj]
set_option maxRecDepth 100000 in
theorem slice_row {w : World} {b : Nat} {a : Int} {t : TypeId} (h : w.heap[b]? = some (.cells #[.int .u8 a] t (0, 0))) : SliceAt w (some ⟨b, 0, none⟩) 1 [a] :=
  ⟨Nat.le_refl _, by decide, .inr ⟨_, _, rfl⟩, (fun e => by cases e), .inr ⟨b, 0, rfl, fun j hj => by
    obtain rfl : j = 0 := by simpa using hj
    exact cells_at h 0 _ rfl⟩⟩
end Go.Proofs.YtbkojincfmfpnaaDoor

namespace Go.Proofs.YtbkojincfmfpnaaDoor
open Go.RowKit

set_option maxRecDepth 100000 in
set_option maxHeartbeats 2000000 in
theorem headerBytes_any (au nu : Int) (ba : Option Addr) (bn bc : Nat) (bl : List Part) (pa : Option Addr) (pn pc : Nat) (pl : List Part) (w : World) (ha : 0 ≤ au ∧ au < 4) (hr : 0 ≤ nu ∧ nu ≤ 1048576) (hbn : bn = bl.length) (hpn : pn = pl.length) (hbl : bl.length ≤ 4) (hpl : pl.length ≤ 4) (hb32 : ∀ p ∈ bl, p.bs.length = 32) (hp32 : ∀ p ∈ pl, p.bs.length = 32) (hLb : ListAt w ba bc bl) (hLp : ListAt w pa pc pl) :
    Calls Tryd.prog 75 #[.agg #[.int .i64 au, .int .i64 nu, .slice ba bn bc, .slice pa pn pc]] w fun e w' => ∃ v, e = .returned v ∧ w'.ownsRow w.heap.size 5 1 v (headB au nu bl pl).length (ub (headB au nu bl pl)) ∧ Below w.heap.size w w' := by
  subst hbn hpn
  obtain ⟨i, hi, hz0, hz1, hz2⟩ := info_parts infoU8
  obtain ⟨ha0, ha1⟩ := ha
  have q0 := heap_alloc_new w (.cells #[.int .i64 au, .int .i64 nu, .slice ba bl.length bc, .slice pa pl.length pc] 25)
  have k0 : (w.alloc (.cells #[.int .i64 au, .int .i64 nu, .slice ba bl.length bc, .slice pa pl.length pc] 25)).cell? ⟨w.heap.size, 0, none⟩ = some (.int .i64 au) := cells_at q0 0 _ rfl
  have k1 : (w.alloc (.cells #[.int .i64 au, .int .i64 nu, .slice ba bl.length bc, .slice pa pl.length pc] 25)).cell? ⟨w.heap.size, 1, none⟩ = some (.int .i64 nu) := cells_at q0 1 _ rfl
  have wu : IntKind.u8.wrap au = au := by rw [IntKind.wrap_u8']; omega
  have hJ : ∀ (wx : World) (xa ya : Option Addr) (c d : Nat), SliceAt wx xa c [au] → SliceAt wx ya d (rd3 nu) → Calls Tryd.prog 73 #[.slice xa 1 c, .slice ya 3 d] wx fun e w' => ∃ v, e = .returned v ∧ w'.ownsRow wx.heap.size 5 1 v 4 (ub ([au] ++ rd3 nu)) ∧ Below wx.heap.size wx w' := fun wx xa ya c d h1 h2 => joined_any [au] (rd3 nu) xa ya 1 3 c d wx rfl rfl h1 h2 (by simp [rd3])
  have hT : ∀ wx, _ := fun wx => three_any nu wx hr
  have HJ : Hid _ := hJ
  have HT : Hid _ := hT
  clear hJ hT
  go_enter Tryd.func75, Tryd.ntmps75
  go_upto_region 1 with (fail)
  go_cut [3] (fun v wx => wx.ownsRow (w.heap.size + 1) 5 1 v 4 (ub ([au] ++ rd3 nu)) ∧ Below w.heap.size w wx ∧ wx.heap[w.heap.size]? = some (.cells #[.int .i64 au, .int .i64 nu, .slice ba bl.length bc, .slice pa pl.length pc] 25 (0, 0)))
  case first =>
    go_region_held3 (fun w' => w'.cell? ⟨w.heap.size, 0, none⟩ = some (.int .i64 au) ∧ w'.cell? ⟨w.heap.size, 1, none⟩ = some (.int .i64 nu)) (go_keep) (first | (go_at_call 102; refine (HT.out _).mono ?_; rintro e w1 ⟨rfl, ho1, hb1⟩; have s1 := (sliceAt_of_owns ho1).2; first | (have r1 := row_new (below_drew hb1); have t0 := row_new (below_alloc (below_drew hb1)); rw [size_alloc] at r1; have c0 : w1.cell? ⟨w.heap.size, 0, none⟩ = some (.int .i64 au) := cells_at t0 0 _ rfl; have c1 : w1.cell? ⟨w.heap.size, 1, none⟩ = some (.int .i64 nu) := cells_at t0 1 _ rfl) | (have t0 := row_new (below_drew hb1); have c0 : w1.cell? ⟨w.heap.size, 0, none⟩ = some (.int .i64 au) := cells_at t0 0 _ rfl; have c1 : w1.cell? ⟨w.heap.size, 1, none⟩ = some (.int .i64 nu) := cells_at t0 1 _ rfl)) | (go_at_call 73; first | (rw [heap_drew, size_alloc, size_alloc] at s1; refine (HJ.out _ _ _ _ _ (slice_row r1) s1).mono ?_; rintro e w3 ⟨v3, rfl, ho3, hb3⟩; have u0 := (hb3.block _ (lt_of_heap t0)).trans t0; have hB3 := (below_alloc (below_alloc (below_drew hb1))).trans (hb3.mono (below_alloc (below_alloc (below_drew hb1))).size); have ho3' := ownsRow_base' ho3 (lt_of_heap t0); have c0 : w3.cell? ⟨w.heap.size, 0, none⟩ = some (.int .i64 au) := cells_at u0 0 _ rfl; have c1 : w3.cell? ⟨w.heap.size, 1, none⟩ = some (.int .i64 nu) := cells_at u0 1 _ rfl) | (rw [heap_drew, size_alloc] at s1; refine (HJ.out _ _ _ _ _ (slice_row (heap_alloc_new w1 _)) (s1.below ((Below.refl _ _).alloc (Nat.le_refl _) _))).mono ?_; rintro e w3 ⟨v3, rfl, ho3, hb3⟩; have u0 := ((below_alloc hb3).block _ (lt_of_heap t0)).trans t0; have hB3 := (below_alloc (below_drew hb1)).trans ((below_alloc hb3).mono (below_alloc (below_drew hb1)).size); have ho3' := ownsRow_base' ho3 (Nat.le_trans (lt_of_heap t0) (by simp)); have c0 : w3.cell? ⟨w.heap.size, 0, none⟩ = some (.int .i64 au) := cells_at u0 0 _ rfl; have c1 : w3.cell? ⟨w.heap.size, 1, none⟩ = some (.int .i64 nu) := cells_at u0 1 _ rfl)))
    all_goals
      go_wp2_with fail
      go_meet
      case rel => exact ⟨ho3', hB3, u0⟩
  case rest =>
    obtain ⟨ho, hW, r0⟩ := hcut
    clear k0 k1 q0 wu HJ HT
    have c2 : wc.cell? ⟨w.heap.size, 2, none⟩ = some (.slice ba bl.length bc) := cells_at r0 2 _ rfl
    have hlt0 : w.heap.size < wc.heap.size := lt_of_heap r0
    have hv0 : u3.ownBlock ≠ some w.heap.size := fun e => by have := (ho.lt _ e).1; omega
    go_wp2_with (at_builtin; refine wpList_append_own_at _ rfl _ _ 42 rfl (w.heap.size + 1) 5 i (.int .u8 0) 1 1 Tryd.underlying42 hi hz0 hz1 hz2 rfl (by decide) _ (4) _ rfl (World.ownsRow.alloc ho _) ⟨wc.heap.size, 0, none⟩ 1 1 [.int .u8 (bl.length : Int)] rfl rfl (cells_new _ _ _) (u8_one [_]) (by unfold maxLen; omega) (by omega) (le_alloc hlt0 _) ?_; intro v1 w1 ho1 hg1 _ hat; have G1 := (Grew.of hg1 hat).alloc)
    have ho1' : w1.ownsRow (w.heap.size + 1) 5 1 v1 (4 + 1) (ub (([au] ++ rd3 nu) ++ [(bl.length : Int)])) := owns_snoc ho1
    have r1 := G1.row r0 hv0
    have hW1 : Below w.heap.size w w1 := hW.trans (G1.below hW.size (fun q e => by have := (ho.lt q e).1; omega))
    clear ho1 hg1 hat G1 r0 hW ho hv0 hlt0
    clear c2
    go_loopw [4, 3] (fun j t wr => ∃ (m : Nat) (tv : Value), m ≤ bl.length ∧ j = .int .i64 m ∧ tv = t ∧ wr.ownsRow (w.heap.size + 1) 5 1 tv (4 + 1 + (flatB (bl.take m)).length) (ub ((([au] ++ rd3 nu) ++ [(bl.length : Int)]) ++ flatB (bl.take m))) ∧ Below w.heap.size w wr ∧ wr.heap[w.heap.size]? = some (.cells #[.int .i64 au, .int .i64 nu, .slice ba bl.length bc, .slice pa pl.length pc] 25 (0, 0))) (fun j _ _ => bl.length - (intOf j).toNat)
    case atStart => exact ⟨0, _, Nat.zero_le _, rfl, rfl, by simpa [flatB] using ho1', hW1, r1⟩
    case round =>
      clear ho1' hW1 r1
      obtain ⟨m, tv, hm, rfl, rfl, ho, hW, r0⟩ := hrel
      have c2 : wr.cell? ⟨w.heap.size, 2, none⟩ = some (.slice ba bl.length bc) := cells_at r0 2 _ rfl
      have hlt0 : w.heap.size < wr.heap.size := lt_of_heap r0
      by_cases hlt : m < bl.length
      · have hLr := hLb.below hW
        obtain ⟨sb, so, hla, hc⟩ : ∃ sb so, ba = some ⟨sb, so, none⟩ ∧ ∀ j (h : j < bl.length), wr.cell? ⟨sb, so + j, none⟩ = some (.slice (bl[j]).sa (bl[j]).bs.length (bl[j]).cap) := by
          rcases hLr.parts.cells with h | h
          · rw [h] at hlt; simp at hlt
          · exact h
        subst hla
        have ck := hc m hlt
        have hp := hLr.parts.each bl[m] (List.getElem_mem hlt)
        have hq32 := hb32 bl[m] (List.getElem_mem hlt)
        have hst : Hid (flatB (bl.take (m + 1)) = flatB (bl.take m) ++ (bl[m]).bs) := by
          show _ = _
          rw [List.take_succ_eq_append_getElem hlt, flatB_snoc]
        have hLe : (flatB (bl.take m)).length ≤ 128 := by
          rw [flatB_length _ (fun p h => hb32 p (List.mem_of_mem_take h)), List.length_take]; omega
        have hltI : (m : Int) < bl.length := by omega
        clear hc hLr
        generalize bl[m] = p at *
        generalize flatB (bl.take m) = T at ho hst hLe
        obtain ⟨xa, xc, hv, hxl, hx⟩ := owns_form ho
        subst hv
        have hJ := joined_any ((([au] ++ rd3 nu) ++ [(bl.length : Int)]) ++ T) p.bs xa p.sa (4 + 1 + T.length) p.bs.length xc p.cap wr hxl rfl hx hp (by rw [← hxl]; omega)
        have HXL : Hid _ := hxl
        have H32 : Hid _ := hq32
        clear hxl hq32
        go_wp2_with fail
        refine hJ.mono ?_
        rintro e w5 ⟨v5, rfl, ho5, hb5⟩
        have r5 := (hb5.block _ (lt_of_heap r0)).trans r0
        have hW5 := hW.trans (hb5.mono hW.size)
        clear hJ
        go_wp2_with fail
        go_roundw
        case rel =>
          have hR : ∃ (m' : Nat) (tv' : Value), m' ≤ bl.length ∧ (Value.int .i64 ((m : Int) + 1)) = .int .i64 m' ∧ tv' = v5 ∧ w5.ownsRow (w.heap.size + 1) 5 1 tv' (4 + 1 + (flatB (bl.take m')).length) (ub ((([au] ++ rd3 nu) ++ [(bl.length : Int)]) ++ flatB (bl.take m'))) ∧ Below w.heap.size w w5 ∧ w5.heap[w.heap.size]? = some (.cells #[.int .i64 au, .int .i64 nu, .slice (some ⟨sb, so, none⟩) bl.length bc, .slice pa pl.length pc] 25 (0, 0)) :=
            ⟨m + 1, v5, by omega, by go_num, rfl, by
              rw [hst.out]
              have h9 := ownsRow_base' ho5 hlt0
              rw [← HXL.out] at h9
              rw [List.length_append, ← Nat.add_assoc]
              simpa using h9, hW5, r5⟩
          first | exact hR | ((repeat apply Exists.intro); exact ⟨hR, rfl⟩)
        case measure => simp [intOf]; omega
      · obtain rfl : m = bl.length := by omega
        rw [List.take_of_length_le (Nat.le_refl _)] at ho
        have hltI : ¬ (bl.length : Int) < bl.length := by omega
        have c3 : wr.cell? ⟨w.heap.size, 3, none⟩ = some (.slice pa pl.length pc) := cells_at r0 3 _ rfl
        have hfl := flatB_length bl hb32
        have hf4 : (flatB bl).length ≤ 128 := by omega
        have HFL : Hid _ := hfl
        clear hfl
        rename World => wl
        have hv0 : tv.ownBlock ≠ some w.heap.size := fun e => by have := (ho.lt _ e).1; omega
        go_wp2_with (at_builtin; refine wpList_append_own_at _ rfl _ _ 42 rfl (w.heap.size + 1) 5 i (.int .u8 0) 1 1 Tryd.underlying42 hi hz0 hz1 hz2 rfl (by decide) _ (4 + 1 + (flatB bl).length) _ rfl (World.ownsRow.alloc ho _) ⟨wl.heap.size, 0, none⟩ 1 1 [.int .u8 (pl.length : Int)] rfl rfl (cells_new _ _ _) (u8_one [_]) (by unfold maxLen; omega) (by omega) (le_alloc hlt0 _) ?_; intro v1 w1 ho1 hg1 _ hat; have G1 := (Grew.of hg1 hat).alloc)
        have ho1' : w1.ownsRow (w.heap.size + 1) 5 1 v1 (4 + 1 + (flatB bl).length + 1) (ub (((([au] ++ rd3 nu) ++ [(bl.length : Int)]) ++ flatB bl) ++ [(pl.length : Int)])) := owns_snoc ho1
        have r1 := G1.row r0 hv0
        have hW1 : Below w.heap.size w w1 := hW.trans (G1.below hW.size (fun q e => by have := (ho.lt q e).1; omega))
        clear ho1 hg1 hat G1 r0 hW ho hv0 hlt0
        clear c2 c3
        go_loopw [5, 3] (fun j t wr => ∃ (m : Nat) (tv : Value), m ≤ pl.length ∧ j = .int .i64 m ∧ tv = t ∧ wr.ownsRow (w.heap.size + 1) 5 1 tv (4 + 1 + (flatB bl).length + 1 + (flatB (pl.take m)).length) (ub ((((([au] ++ rd3 nu) ++ [(bl.length : Int)]) ++ flatB bl) ++ [(pl.length : Int)]) ++ flatB (pl.take m))) ∧ Below w.heap.size w wr ∧ wr.heap[w.heap.size]? = some (.cells #[.int .i64 au, .int .i64 nu, .slice ba bl.length bc, .slice pa pl.length pc] 25 (0, 0))) (fun j _ _ => pl.length - (intOf j).toNat)
        case atStart => exact ⟨0, _, Nat.zero_le _, rfl, rfl, by simpa [flatB] using ho1', hW1, r1⟩
        case round =>
          clear ho1' hW1 r1
          obtain ⟨m, tv, hm, rfl, rfl, ho, hW, r0⟩ := hrel
          have c3 : wr.cell? ⟨w.heap.size, 3, none⟩ = some (.slice pa pl.length pc) := cells_at r0 3 _ rfl
          have hlt0 : w.heap.size < wr.heap.size := lt_of_heap r0
          by_cases hlt : m < pl.length
          · have hLr := hLp.below hW
            obtain ⟨sb, so, hla, hc⟩ : ∃ sb so, pa = some ⟨sb, so, none⟩ ∧ ∀ j (h : j < pl.length), wr.cell? ⟨sb, so + j, none⟩ = some (.slice (pl[j]).sa (pl[j]).bs.length (pl[j]).cap) := by
              rcases hLr.parts.cells with h | h
              · rw [h] at hlt; simp at hlt
              · exact h
            subst hla
            have ck := hc m hlt
            have hp := hLr.parts.each pl[m] (List.getElem_mem hlt)
            have hq32 := hp32 pl[m] (List.getElem_mem hlt)
            have hst : Hid (flatB (pl.take (m + 1)) = flatB (pl.take m) ++ (pl[m]).bs) := by
              show _ = _
              rw [List.take_succ_eq_append_getElem hlt, flatB_snoc]
            have hLe : (flatB (pl.take m)).length ≤ 128 := by
              rw [flatB_length _ (fun p h => hp32 p (List.mem_of_mem_take h)), List.length_take]; omega
            have hltI : (m : Int) < pl.length := by omega
            clear hc hLr
            generalize pl[m] = p at *
            generalize flatB (pl.take m) = T at ho hst hLe
            obtain ⟨xa, xc, hv, hxl, hx⟩ := owns_form ho
            subst hv
            have hJ := joined_any ((((([au] ++ rd3 nu) ++ [(bl.length : Int)]) ++ flatB bl) ++ [(pl.length : Int)]) ++ T) p.bs xa p.sa (4 + 1 + (flatB bl).length + 1 + T.length) p.bs.length xc p.cap wr hxl rfl hx hp (by rw [← hxl]; omega)
            have HXL : Hid _ := hxl
            have H32 : Hid _ := hq32
            clear hxl hq32
            go_wp2_with fail
            refine hJ.mono ?_
            rintro e w5 ⟨v5, rfl, ho5, hb5⟩
            have r5 := (hb5.block _ (lt_of_heap r0)).trans r0
            have hW5 := hW.trans (hb5.mono hW.size)
            clear hJ
            go_wp2_with fail
            go_roundw
            case rel =>
              have hR : ∃ (m' : Nat) (tv' : Value), m' ≤ pl.length ∧ (Value.int .i64 ((m : Int) + 1)) = .int .i64 m' ∧ tv' = v5 ∧ w5.ownsRow (w.heap.size + 1) 5 1 tv' (4 + 1 + (flatB bl).length + 1 + (flatB (pl.take m')).length) (ub ((((([au] ++ rd3 nu) ++ [(bl.length : Int)]) ++ flatB bl) ++ [(pl.length : Int)]) ++ flatB (pl.take m'))) ∧ Below w.heap.size w w5 ∧ w5.heap[w.heap.size]? = some (.cells #[.int .i64 au, .int .i64 nu, .slice ba bl.length bc, .slice (some ⟨sb, so, none⟩) pl.length pc] 25 (0, 0)) :=
                ⟨m + 1, v5, by omega, by go_num, rfl, by
                  rw [hst.out]
                  have h9 := ownsRow_base' ho5 hlt0
                  rw [← HXL.out] at h9
                  rw [List.length_append, ← Nat.add_assoc]
                  simpa using h9, hW5, r5⟩
              first | exact hR | ((repeat apply Exists.intro); exact ⟨hR, rfl⟩)
            case measure => simp [intOf]; omega
          · obtain rfl : m = pl.length := by omega
            rw [List.take_of_length_le (Nat.le_refl _)] at ho
            have hltI : ¬ (pl.length : Int) < pl.length := by omega
            go_wp2_with fail
            go_ret
            refine ⟨_, rfl, ?_, hW⟩
            rw [show (headB au nu bl pl).length = 4 + 1 + (flatB bl).length + 1 + (flatB pl).length by simp [headB, rd3, digsB]; omega, show headB au nu bl pl = (((([au] ++ rd3 nu) ++ [(bl.length : Int)]) ++ flatB bl) ++ [(pl.length : Int)]) ++ flatB pl by simp [headB, digsB]]
            exact ownsRow_base' ho (Nat.le_succ _)
end Go.Proofs.YtbkojincfmfpnaaDoor

namespace Go.Proofs.YtbkojincfmfpnaaDoor

/-- A word. -/
def W1 (x : Int) : Prop := 0 ≤ x ∧ x < 4294967296
set_option maxRecDepth 100000 in
theorem i64_nat (a b : Nat) (ha : a < 9223372036854775808) (hb : b < 9223372036854775808) :
    bits .and .i64 (a : Int) (b : Int) = ((a &&& b : Nat) : Int) ∧ bits .or .i64 (a : Int) (b : Int) = ((a ||| b : Nat) : Int) := by
  refine bits_nat .i64 63 (by decide) (fun n h0 h1 => ?_) a b (by omega) (by omega)
  rw [IntKind.wrap_i64]
  have : n < 9223372036854775808 := by simpa using h1
  omega
set_option maxRecDepth 100000 in
theorem i64_xor_nat (a b : Nat) (ha : a < 9223372036854775808) (hb : b < 9223372036854775808) : bits .xor .i64 (a : Int) (b : Int) = ((a ^^^ b : Nat) : Int) := by
  have hx : a ^^^ b < 2 ^ 63 := Nat.xor_lt_two_pow (by omega) (by omega)
  have h1 : (BitVec.ofInt 64 (a : Int)).toNat = a := by
    rw [BitVec.ofInt_natCast, BitVec.toNat_ofNat]; exact Nat.mod_eq_of_lt (by omega)
  have h2 : (BitVec.ofInt 64 (b : Int)).toNat = b := by
    rw [BitVec.ofInt_natCast, BitVec.toNat_ofNat]; exact Nat.mod_eq_of_lt (by omega)
  show IntKind.i64.wrap ((BitVec.ofInt 64 (a : Int) ^^^ BitVec.ofInt 64 (b : Int)).toNat : Int) = _
  rw [BitVec.toNat_xor, h1, h2, IntKind.wrap_i64]
  omega
set_option maxRecDepth 100000 in
theorem W1.nat {x : Int} (h : W1 x) : ∃ n : Nat, x = n ∧ n < 4294967296 := ⟨x.toNat, by have := h.1; omega, by have := h.1; have := h.2; omega⟩
set_option maxRecDepth 100000 in
theorem xor64 {x y : Int} (hx : W1 x) (hy : W1 y) : bits .xor .i64 x y = bits .xor .u32 x y := by
  obtain ⟨a, rfl, ha⟩ := hx.nat
  obtain ⟨b, rfl, hb⟩ := hy.nat
  rw [i64_xor_nat a b (by omega) (by omega), u32_xor_nat a b ha hb]
set_option maxRecDepth 100000 in
theorem W1.xor {x y : Int} (hx : W1 x) (hy : W1 y) : W1 (bits .xor .u32 x y) := by
  obtain ⟨a, rfl, ha⟩ := hx.nat
  obtain ⟨b, rfl, hb⟩ := hy.nat
  rw [u32_xor_nat a b ha hb]
  have : a ^^^ b < 2 ^ 32 := Nat.xor_lt_two_pow (by omega) (by omega)
  exact ⟨by omega, by omega⟩
set_option maxRecDepth 100000 in
theorem W1.mod (z : Int) : W1 (z % 4294967296) := ⟨Int.emod_nonneg _ (by decide), Int.emod_lt_of_pos _ (by decide)⟩
set_option maxRecDepth 100000 in
theorem and_mask (z : Int) (h0 : 0 ≤ z) (h1 : z < 9223372036854775808) : bits .and .i64 z 4294967295 = z % 4294967296 := by
  obtain ⟨n, rfl⟩ := Int.eq_ofNat_of_zero_le h0
  have e := (i64_nat n 4294967295 (by omega) (by decide)).1
  rw [show ((4294967295 : Nat) : Int) = 4294967295 from rfl] at e
  rw [e, show (4294967295 : Nat) = 2 ^ 32 - 1 from rfl, Nat.and_two_pow_sub_one_eq_mod]
  omega
set_option maxRecDepth 100000 in
/-- (x >> n | x << (32 - n)) and the mask is the word, turned. -/
theorem turned_eq (x : Int) (hx : W1 x) (n : Nat) (hn : 1 ≤ n) (_hn2 : n < 32) (y z : Int) (hy : y = x / 2 ^ n) (hz : z = x * 2 ^ (32 - n)) :
    bits .and .i64 (bits .or .i64 y z) 4294967295 = bits .or .u32 (x * 2 ^ (32 - n) % 4294967296) (x / 2 ^ n) := by
  obtain ⟨a, rfl, ha⟩ := hx.nat
  subst hy hz
  have e1 : ((a : Int) / 2 ^ n) = ((a / 2 ^ n : Nat) : Int) := by simp
  have e2 : ((a : Int) * 2 ^ (32 - n)) = ((a * 2 ^ (32 - n) : Nat) : Int) := by simp
  have e3 : ((a * 2 ^ (32 - n) : Nat) : Int) % 4294967296 = ((a * 2 ^ (32 - n) % 4294967296 : Nat) : Int) := by omega
  have b1 : a / 2 ^ n < 4294967296 := Nat.lt_of_le_of_lt (Nat.div_le_self _ _) ha
  have h31 : (2 : Nat) ^ (32 - n) ≤ 2 ^ 31 := Nat.pow_le_pow_right (by decide) (by omega)
  have b2 : a * 2 ^ (32 - n) < 2 ^ 63 :=
    Nat.lt_of_lt_of_le (Nat.mul_lt_mul_of_pos_right ha (Nat.pow_pos (by decide))) (Nat.le_trans (Nat.mul_le_mul_left _ h31) (by decide))
  rw [e1, e2, e3]
  generalize a / 2 ^ n = p at *
  generalize a * 2 ^ (32 - n) = q at *
  rw [(i64_nat p q (by omega) (by omega)).2]
  have hpq : p ||| q < 2 ^ 63 := Nat.or_lt_two_pow (by omega) b2
  rw [and_mask _ (by omega) (by omega), u32_or_nat _ _ (by omega) b1]
  have hm : (p ||| q) % 2 ^ 32 = p % 2 ^ 32 ||| q % 2 ^ 32 := Nat.or_mod_two_pow
  rw [Nat.or_comm (q % 4294967296) p]
  have hp' : p % 2 ^ 32 = p := Nat.mod_eq_of_lt (by omega)
  rw [hp'] at hm
  have : ((p ||| q) % 4294967296 : Nat) = p ||| q % 4294967296 := hm
  omega
set_option maxRecDepth 100000 in
theorem W1.rot {x : Int} (hx : W1 x) (n : Int) : W1 (rotI n x) := by
  obtain ⟨a, rfl, ha⟩ := hx.nat
  have e1 : ((a : Int) / 2 ^ n.toNat) = ((a / 2 ^ n.toNat : Nat) : Int) := by simp
  have e2 : ((a : Int) * 2 ^ (32 - n).toNat) % 4294967296 = ((a * 2 ^ (32 - n).toNat % 4294967296 : Nat) : Int) := by simp
  have b1 : a / 2 ^ n.toNat < 4294967296 := Nat.lt_of_le_of_lt (Nat.div_le_self _ _) ha
  unfold rotI
  rw [e1, e2, u32_or_nat _ _ (by omega) b1]
  have : (a * 2 ^ (32 - n).toNat % 4294967296) ||| (a / 2 ^ n.toNat) < 2 ^ 32 := Nat.or_lt_two_pow (by omega) b1
  exact ⟨by omega, by omega⟩
end Go.Proofs.YtbkojincfmfpnaaDoor

namespace Go.Proofs.YtbkojincfmfpnaaDoor
open Go.RowKit

set_option maxRecDepth 100000 in
set_option maxHeartbeats 1000000 in
theorem turned_any (x n : Int) (w : World) (h : n = 16 ∨ n = 12 ∨ n = 8 ∨ n = 7) (hx : W1 x) :
    Calls Tryd.prog 139 #[.int .i64 x, .int .i64 n] w fun e w' => e = .returned (.int .i64 (rotI n x)) ∧ ∃ k, w' = w.drewN k := by
  have h0 := hx.1
  have h1 := hx.2
  rcases h with rfl | rfl | rfl | rfl
  · have e : Hid (bits .and .i64 (bits .or .i64 (x / 65536) (x * 65536)) 4294967295 = rotI 16 x) := turned_eq x hx 16 (by decide) (by decide) _ _ rfl rfl
    go_enter Tryd.func139, Tryd.ntmps139
    go_wp2
    go_quiet (fail)
    go_wp2
    go_ret
    exact ⟨ret_int e.out, _, rfl⟩
  · have e : Hid (bits .and .i64 (bits .or .i64 (x / 4096) (x * 1048576)) 4294967295 = rotI 12 x) := turned_eq x hx 12 (by decide) (by decide) _ _ rfl rfl
    go_enter Tryd.func139, Tryd.ntmps139
    go_wp2
    go_quiet (fail)
    go_wp2
    go_ret
    exact ⟨ret_int e.out, _, rfl⟩
  · have e : Hid (bits .and .i64 (bits .or .i64 (x / 256) (x * 16777216)) 4294967295 = rotI 8 x) := turned_eq x hx 8 (by decide) (by decide) _ _ rfl rfl
    go_enter Tryd.func139, Tryd.ntmps139
    go_wp2
    go_quiet (fail)
    go_wp2
    go_ret
    exact ⟨ret_int e.out, _, rfl⟩
  · have e : Hid (bits .and .i64 (bits .or .i64 (x / 128) (x * 33554432)) 4294967295 = rotI 7 x) := turned_eq x hx 7 (by decide) (by decide) _ _ rfl rfl
    go_enter Tryd.func139, Tryd.ntmps139
    go_wp2
    go_quiet (fail)
    go_wp2
    go_ret
    exact ⟨ret_int e.out, _, rfl⟩
end Go.Proofs.YtbkojincfmfpnaaDoor
