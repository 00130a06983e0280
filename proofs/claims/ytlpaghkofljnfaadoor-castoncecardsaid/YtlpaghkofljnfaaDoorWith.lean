/- ballot.with: the table with a slot. -/
import Derived.Test.YtlpaghkofljnfaaDoorCastF
import Derived.Test.YtlpaghkofljnfaaDoorCloneS
import Derived.Test.YtlpaghkofljnfaaDoorCTab
import Derived.Deep.RegionHeld3
namespace Go.Proofs.YtlpaghkofljnfaaDoor
open Go.RowKit

set_option maxRecDepth 100000 in
set_option maxHeartbeats 2000000 in
theorem with_any (ls : List Sl) (sa : Option Addr) (n cap : Nat) (au rd : Int) (bs : List Int) (da : Option Addr) (dn dc : Nat) (w : World) (hn : n = ls.length) (hdn : dn = bs.length) (ht : TabAt w sa cap ls) (h0 : tabF (vs ls) = 0) (hd : SliceAt w da dc bs) (hdl : bs.length ≤ 140737488355328) :
    Calls Tryd.prog 23 #[.slice sa n cap, .agg #[.int .i64 au, .int .i64 rd, .slice da dn dc]] w fun e w' => ∃ ra rc ks, e = .returned (.tuple #[.slice ra (List.length ks) rc, .int .i64 (castF (vs ls) (au, rd, bs)).2]) ∧ vs ks = (castF (vs ls) (au, rd, bs)).1 ∧ TabAt w' ra rc ks ∧ Below w.heap.size w w' ∧ Fresh w.heap.size ra (ps ks) := by
  subst hn hdn
  have hle := ht.le
  have hmx := ht.max
  have hl4 : ls.length ≤ 400 := by have := (tabF_zero h0).1; rw [vs_length] at this; exact this
  have h32 := tab32 h0
  have hA := (Below.refl w.heap.size w).alloc (Nat.le_refl _) (.cells #[.int .i64 au, .int .i64 rd, .slice da bs.length dc] 39)
  have r0 := heap_alloc_new w (.cells #[.int .i64 au, .int .i64 rd, .slice da bs.length dc] 39)
  go_enter Tryd.func23, Tryd.ntmps23
  go_wp2_with fail
  generalize w.alloc (.cells #[.int .i64 au, .int .i64 rd, .slice da bs.length dc] 39) = W0 at hA r0 ⊢
  refine (find_any ls sa _ cap au rd W0 (Nat.le_refl _) ht.small (ht.slots.below hA)).mono ?_
  rintro e w1 ⟨r, he, hF, hb1⟩
  subst he
  dsimp only
  have hB1 := hA.trans (hb1.mono hA.size)
  have q0 := (hb1.block _ (lt_of_heap r0)).trans r0
  have d0 : w1.cell? ⟨w.heap.size, 0, none⟩ = some (.int .i64 au) := cells_at q0 0 _ rfl
  have d1 : w1.cell? ⟨w.heap.size, 1, none⟩ = some (.int .i64 rd) := cells_at q0 1 _ rfl
  have d2 : w1.cell? ⟨w.heap.size, 2, none⟩ = some (.slice da bs.length dc) := cells_at q0 2 _ rfl
  have hlt1 : w.heap.size < w1.heap.size := lt_of_heap q0
  rcases hF.found with ⟨m, hm, rfl, hfi⟩ | ⟨rfl, hfi⟩
  · have hpw := ht.slots.below hB1
    obtain ⟨sb, so, rfl, hc⟩ : ∃ sb so, sa = some ⟨sb, so, none⟩ ∧ ∀ j (h : j < ls.length), w1.cell? ⟨sb, so + j * 3, none⟩ = some (.int .i64 (ls[j]).au) ∧ w1.cell? ⟨sb, so + j * 3 + 1, none⟩ = some (.int .i64 (ls[j]).rd) ∧ w1.cell? ⟨sb, so + j * 3 + 2, none⟩ = some (.slice (ls[j]).p.sa (ls[j]).p.bs.length (ls[j]).p.cap) := by
      rcases hpw.cells with h | h
      · rw [h] at hm; simp at hm
      · exact h
    obtain ⟨_, _, c2⟩ := hc m hm
    have hx := hpw.each (ls[m]) (List.getElem_mem hm)
    have hltI : (m : Int) < ls.length := by omega
    have hE := equal_any (ls[m]).p.bs bs (ls[m]).p.sa da _ _ (ls[m]).p.cap dc w1.drew rfl rfl (hx.below ((Below.refl _ _).drew)) ((hd.below hB1).below ((Below.refl _ _).drew))
    rw [← vs_length] at hfi
    have hS : Hid (txL (ls[m]).p.bs = txL bs → castF (vs ls) (au, rd, bs) = (vs ls, 0)) := by
      show _ → _
      intro h
      exact castF_same (s := (au, rd, bs)) hfi (by rw [svAt_get ls m hm]; exact h)
    have hT : Hid (¬ txL (ls[m]).p.bs = txL bs → castF (vs ls) (au, rd, bs) = ([], 7)) := by
      show _ → _
      intro h
      exact castF_twice (s := (au, rd, bs)) hfi (by rw [svAt_get ls m hm]; exact h)
    have HC : Hid (∀ W : World, Below w.heap.size w W → Calls Tryd.prog 39 #[.slice (some ⟨sb, so, none⟩) ls.length cap] W fun e w' => ∃ v ks, e = .returned v ∧ vs ks = vs ls ∧ w'.ownsRow W.heap.size 39 3 v ls.length (sv ks) ∧ Apart w' W.heap.size v (ps ks) ∧ Below W.heap.size W w') := by
      show ∀ W, _
      intro W hW
      exact cloneSlots_own ls _ _ cap W rfl hl4 h32 (ht.slots.below hW)
    clear hc hfi hF hpw h32 h0 ht
    generalize ls[m] = s at *
    go_wp2_with fail
    go_region_held3 (fun w' => w'.cell? ⟨sb, so + m * 3 + 2, none⟩ = some (.slice s.p.sa s.p.bs.length s.p.cap) ∧ w'.cell? ⟨w.heap.size, 2, none⟩ = some (.slice da bs.length dc)) (go_keep) ((go_at_call 38; refine hE.mono ?_; rintro e w9 ⟨rfl, rfl⟩))
    all_goals
      by_cases h : txL s.p.bs = txL bs
      · have hy := hS.out h
        rw [decide_eq_true h]
        clear hS hT h hE
        go_wp2_with fail
        refine (HC.out _ (hB1.trans ((Below.refl _ _).drew.mono hB1.size))).mono ?_
        rintro e w3 ⟨v3, ks, he, hv3, ho3, hap3, hb3⟩
        subst he
        dsimp only
        have hlen : ls.length = ks.length := by have := congrArg List.length hv3; rw [vs_length, vs_length] at this; exact this.symm
        obtain ⟨ra, rc, hv, hl, hL, hfr⟩ := tab_of_owns ho3 hap3
        subst hv
        rw [hlen]
        go_wp2_with fail
        go_ret2
        exact ⟨ra, rc, ks, by rw [hy]; rfl, by rw [hy]; exact hv3, hL (by omega), hB1.trans ((below_drew hb3).mono hB1.size), fresh_mono hfr (by simpa using hB1.size)⟩
      · have hy := hT.out h
        rw [decide_eq_false h]
        clear hS hT h hE
        go_wp2_with fail
        go_ret2
        exact ⟨none, 0, [], by rw [hy]; rfl, by rw [hy]; rfl, tab_nil _, hB1.drew, fresh_nil _⟩
  · rw [← vs_length] at hfi
    by_cases hfull : 400 ≤ ls.length
    · have hy := castF_full (s := (au, rd, bs)) hfi (by rw [vs_length]; exact hfull)
      have hI : (400 : Int) ≤ ls.length := by omega
      clear hfi hF h32 h0
      go_wp2_with fail
      go_ret2
      exact ⟨none, 0, [], by rw [hy]; rfl, by rw [hy]; rfl, tab_nil _, hB1, fresh_nil _⟩
    · have hy := castF_new (s := (au, rd, bs)) hfi (by rw [vs_length]; exact hfull)
      have hI : ¬ (400 : Int) ≤ ls.length := by omega
      have HC : Hid (∀ W : World, Below w.heap.size w W → Calls Tryd.prog 39 #[.slice sa ls.length cap] W fun e w' => ∃ v ks, e = .returned v ∧ vs ks = vs ls ∧ w'.ownsRow W.heap.size 39 3 v ls.length (sv ks) ∧ Apart w' W.heap.size v (ps ks) ∧ Below W.heap.size W w') := by
        show ∀ W, _
        intro W hW
        exact cloneSlots_own ls _ _ cap W rfl hl4 h32 (ht.slots.below hW)
      have HD : Hid (∀ W : World, Below w.heap.size w W → Calls Tryd.prog 40 #[.agg #[.int .i64 au, .int .i64 rd, .slice da bs.length dc]] W fun e w' => ∃ ra rc, e = .returned (.agg #[.int .i64 au, .int .i64 rd, .slice ra bs.length rc]) ∧ SliceAt w' ra rc bs ∧ (∀ sb so, ra = some ⟨sb, so, none⟩ → W.heap.size ≤ sb ∧ sb < w'.heap.size) ∧ Below W.heap.size W w') := by
        show ∀ W, _
        intro W hW
        exact cloneSlot_any au rd bs da _ dc W rfl (hd.below hW) hdl
      obtain ⟨i, hi, hz0, hz1, hz2⟩ := info_parts infoSlot
      clear hfi hF h32 h0 ht hd
      go_wp2_with fail
      go_region_held3 (fun w' => w'.cell? ⟨w.heap.size, 0, none⟩ = some (.int .i64 au) ∧ w'.cell? ⟨w.heap.size, 1, none⟩ = some (.int .i64 rd) ∧ w'.cell? ⟨w.heap.size, 2, none⟩ = some (.slice da bs.length dc)) (go_keep) (first
        | (go_at_call 40; refine (HD.out _ (hB1.trans (hb3.mono hB1.size))).mono ?_; rintro e w4 ⟨ya, yc, rfl, hy4, hrow4, hb4⟩; have hb34 := hb3.trans (hb4.mono hb3.size); have q4 := (hb34.block _ hlt1).trans q0; have g0 : w4.cell? ⟨w.heap.size, 0, none⟩ = some (.int .i64 au) := cells_at q4 0 _ rfl; have g1 : w4.cell? ⟨w.heap.size, 1, none⟩ = some (.int .i64 rd) := cells_at q4 1 _ rfl; have g2 : w4.cell? ⟨w.heap.size, 2, none⟩ = some (.slice da bs.length dc) := cells_at q4 2 _ rfl)
        | (go_at_call 39; refine (HC.out _ (hB1.trans ((Below.refl _ _).drew.mono hB1.size))).mono ?_; rintro e w3 ⟨v3, ks, rfl, hv3, ho3, hap3, hb3⟩; replace hb3 := below_drew hb3; have q3 := (hb3.block _ hlt1).trans q0; have f0 : w3.cell? ⟨w.heap.size, 0, none⟩ = some (.int .i64 au) := cells_at q3 0 _ rfl; have f1 : w3.cell? ⟨w.heap.size, 1, none⟩ = some (.int .i64 rd) := cells_at q3 1 _ rfl; have f2 : w3.cell? ⟨w.heap.size, 2, none⟩ = some (.slice da bs.length dc) := cells_at q3 2 _ rfl)
        | (refine step_append_at rfl _ _ 27 rfl w1.heap.size 39 i (.agg #[.int .i64 0, .int .i64 0, .slice none 0 0]) 3 40 Tryd.underlying27 hi hz0 hz1 hz2 rfl (by decide) v3 ls.length (sv ks) rfl (World.ownsRow.alloc (owns_keep ho3 hb4) _) ⟨w4.heap.size, 0, none⟩ 1 1 [.int .i64 au, .int .i64 rd, .slice ya bs.length yc] rfl rfl (cells_new w4 [.int .i64 au, .int .i64 rd, .slice ya bs.length yc] 39) (by intro u hu; simp at hu; rcases hu with rfl | rfl | rfl <;> rfl) (by unfold maxLen; omega) (by omega) (by rw [size_alloc]; have := hb34.size; omega) ?_; intro v5 w5 ho5 G5; have q5 := (G5.grown.block w.heap.size (by rw [size_alloc]; have := lt_of_heap q4; omega) (fun e => by have h9 : w1.heap.size ≤ w.heap.size := (ho3.lt _ e.symm).1; omega)).trans (heap_keep (o := .cells #[.int .i64 au, .int .i64 rd, .slice ya bs.length yc] 39) q4); have k0 : w5.cell? ⟨w.heap.size, 0, none⟩ = some (.int .i64 au) := cells_at q5 0 _ rfl; have k1 : w5.cell? ⟨w.heap.size, 1, none⟩ = some (.int .i64 rd) := cells_at q5 1 _ rfl; have k2 : w5.cell? ⟨w.heap.size, 2, none⟩ = some (.slice da bs.length dc) := cells_at q5 2 _ rfl))
      all_goals
        have hA4 : Below w4.heap.size w4 (w4.alloc (.cells #[.int .i64 au, .int .i64 rd, .slice ya bs.length yc] 39)) := (Below.refl _ _).alloc (Nat.le_refl _) _
        have hap5 := hap3.more_at (q := ⟨ya, yc, bs⟩) hb3.size ho3 hb4 hrow4 hy4 G5
        have hB5 := Below.grown (hb34.alloc hb34.size _) G5.grown (le_alloc hb34.size _) (fun q e => (ho3.lt q e).1)
        have ho5' : w5.ownsRow w1.heap.size 39 3 v5 (ls.length + 1) (sv (ks ++ [⟨au, rd, ⟨ya, yc, bs⟩⟩])) := by rw [sv_snoc]; exact ho5
        have hap5' : Apart w5 w1.heap.size v5 (ps (ks ++ [⟨au, rd, ⟨ya, yc, bs⟩⟩])) := by simpa [ps] using hap5
        obtain ⟨ra, rc, hv, hl, hL, hfr⟩ := tab_of_owns ho5' hap5'
        subst hv
        rw [hl]
        go_wp2_with fail
        go_ret2
        exact ⟨ra, rc, ks ++ [⟨au, rd, ⟨ya, yc, bs⟩⟩], by rw [hy]; rfl, by rw [hy, ← hv3]; simp [vs, Sl.v], hL (by omega), hB1.trans (hB5.mono hB1.size), fresh_mono hfr hB1.size⟩
end Go.Proofs.YtlpaghkofljnfaaDoor
