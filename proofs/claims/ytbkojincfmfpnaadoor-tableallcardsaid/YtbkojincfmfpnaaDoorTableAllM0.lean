/- sheaveskeep.Header: a header of raw numbers. -/
import Derived.Test.YtbkojincfmfpnaaDoorCastF
import Derived.Test.YtbkojincfmfpnaaDoorCloneS
import Derived.Test.YtbkojincfmfpnaaDoorCTab
import Derived.Deep.RegionHeld3
import Derived.Test.YtbkojincfmfpnaaDoorSlotOf
import Derived.Test.YtbkojincfmfpnaaDoorBase
import Derived.Test.YtbkojincfmfpnaaDoorApp
import Derived.Test.YtbkojincfmfpnaaDoorSx
import Derived.Deep.RegionHeld
import Derived.Test.YtbkojincfmfpnaaDoorOwnL
import Derived.Test.YtbkojincfmfpnaaDoorCalls
import Derived.Test.YtbkojincfmfpnaaDoorAppD
import Derived.Deep.CutRange
import Derived.Deep.DeepCutAuto
namespace Go.Proofs.YtbkojincfmfpnaaDoor
open Go.RowKit

set_option maxRecDepth 100000 in
set_option maxHeartbeats 2000000 in
theorem with_any (ls : List Sl) (sa : Option Addr) (n cap : Nat) (au rd : Int) (bs : List Int) (da : Option Addr) (dn dc : Nat) (w : World) (hn : n = ls.length) (hdn : dn = bs.length) (ht : TabAt w sa cap ls) (h0 : tabF (vs ls) = 0) (hd : SliceAt w da dc bs) (hdl : bs.length ≤ 140737488355328) :
    Calls Tryd.prog 52 #[.slice sa n cap, .agg #[.int .i64 au, .int .i64 rd, .slice da dn dc]] w fun e w' => ∃ ra rc ks, e = .returned (.tuple #[.slice ra (List.length ks) rc, .int .i64 (castF (vs ls) (au, rd, bs)).2]) ∧ vs ks = (castF (vs ls) (au, rd, bs)).1 ∧ TabAt w' ra rc ks ∧ Below w.heap.size w w' ∧ Fresh w.heap.size ra (ps ks) := by
  subst hn hdn
  have hle := ht.le
  have hmx := ht.max
  have hl4 : ls.length ≤ 400 := by have := (tabF_zero h0).1; rw [vs_length] at this; exact this
  have h32 := tab32 h0
  have hA := (Below.refl w.heap.size w).alloc (Nat.le_refl _) (.cells #[.int .i64 au, .int .i64 rd, .slice da bs.length dc] 47)
  have r0 := heap_alloc_new w (.cells #[.int .i64 au, .int .i64 rd, .slice da bs.length dc] 47)
  go_enter Tryd.func52, Tryd.ntmps52
  go_wp2_with fail
  generalize w.alloc (.cells #[.int .i64 au, .int .i64 rd, .slice da bs.length dc] 47) = W0 at hA r0 ⊢
  refine (find_any ls sa _ cap au rd W0 (Nat.le_refl _) ht.small (ht.slots.below hA)).mono ?_
  rintro e w1 ⟨r, he, hF, hb1⟩
  subst he
  dsimp only
  have hB1 := hA.trans (hb1.mono hA.size)
  have q0 := (hb1.block _ (lt_of_heap r0)).trans r0
  have d0 : w1.cell? ⟨w.heap.size, 0, none⟩ = some (.int .i64 au) := cells_at q0 0 _ rfl
  have d1 : w1.cell? ⟨w.heap.size, 1, none⟩ = some (.int .i64 rd) := cells_at q0 1 _ rfl
  have d2 : w1.cell? ⟨w.heap.size, 2, none⟩ = some (.slice da bs.length dc) := cells_at q0 2 _ rfl
  have hlt1 : w.heap.size < w1.heap.size := lt_of_heap q0
  rcases hF.found with ⟨m, hm, rfl, hfi⟩ | ⟨rfl, hfi⟩
  · have hpw := ht.slots.below hB1
    obtain ⟨sb, so, rfl, hc⟩ : ∃ sb so, sa = some ⟨sb, so, none⟩ ∧ ∀ j (h : j < ls.length), w1.cell? ⟨sb, so + j * 3, none⟩ = some (.int .i64 (ls[j]).au) ∧ w1.cell? ⟨sb, so + j * 3 + 1, none⟩ = some (.int .i64 (ls[j]).rd) ∧ w1.cell? ⟨sb, so + j * 3 + 2, none⟩ = some (.slice (ls[j]).p.sa (ls[j]).p.bs.length (ls[j]).p.cap) := by
      rcases hpw.cells with h | h
      · rw [h] at hm; simp at hm
      · exact h
    obtain ⟨_, _, c2⟩ := hc m hm
    have hx := hpw.each (ls[m]) (List.getElem_mem hm)
    have hltI : (m : Int) < ls.length := by omega
    have hE := equal_any (ls[m]).p.bs bs (ls[m]).p.sa da _ _ (ls[m]).p.cap dc w1.drew rfl rfl (hx.below ((Below.refl _ _).drew)) ((hd.below hB1).below ((Below.refl _ _).drew))
    rw [← vs_length] at hfi
    have hS : Hid (txL (ls[m]).p.bs = txL bs → castF (vs ls) (au, rd, bs) = (vs ls, 0)) := by
      show _ → _
      intro h
      exact castF_same (s := (au, rd, bs)) hfi (by rw [svAt_get ls m hm]; exact h)
    have hT : Hid (¬ txL (ls[m]).p.bs = txL bs → castF (vs ls) (au, rd, bs) = ([], 7)) := by
      show _ → _
      intro h
      exact castF_twice (s := (au, rd, bs)) hfi (by rw [svAt_get ls m hm]; exact h)
    have HC : Hid (∀ W : World, Below w.heap.size w W → Calls Tryd.prog 80 #[.slice (some ⟨sb, so, none⟩) ls.length cap] W fun e w' => ∃ v ks, e = .returned v ∧ vs ks = vs ls ∧ w'.ownsRow W.heap.size 47 3 v ls.length (sv ks) ∧ Apart w' W.heap.size v (ps ks) ∧ Below W.heap.size W w') := by
      show ∀ W, _
      intro W hW
      exact cloneSlots_own ls _ _ cap W rfl hl4 h32 (ht.slots.below hW)
    clear hc hfi hF hpw h32 h0 ht
    generalize ls[m] = s at *
    go_wp2_with fail
    go_region_held3 (fun w' => w'.cell? ⟨sb, so + m * 3 + 2, none⟩ = some (.slice s.p.sa s.p.bs.length s.p.cap) ∧ w'.cell? ⟨w.heap.size, 2, none⟩ = some (.slice da bs.length dc)) (go_keep) ((go_at_call 79; refine hE.mono ?_; rintro e w9 ⟨rfl, rfl⟩))
    all_goals
      by_cases h : txL s.p.bs = txL bs
      · have hy := hS.out h
        rw [decide_eq_true h]
        clear hS hT h hE
        go_wp2_with fail
        refine (HC.out _ (hB1.trans ((Below.refl _ _).drew.mono hB1.size))).mono ?_
        rintro e w3 ⟨v3, ks, he, hv3, ho3, hap3, hb3⟩
        subst he
        dsimp only
        have hlen : ls.length = ks.length := by have := congrArg List.length hv3; rw [vs_length, vs_length] at this; exact this.symm
        obtain ⟨ra, rc, hv, hl, hL, hfr⟩ := tab_of_owns ho3 hap3
        subst hv
        rw [hlen]
        go_wp2_with fail
        go_ret2
        exact ⟨ra, rc, ks, by rw [hy]; rfl, by rw [hy]; exact hv3, hL (by omega), hB1.trans ((below_drew hb3).mono hB1.size), fresh_mono hfr (by simpa using hB1.size)⟩
      · have hy := hT.out h
        rw [decide_eq_false h]
        clear hS hT h hE
        go_wp2_with fail
        go_ret2
        exact ⟨none, 0, [], by rw [hy]; rfl, by rw [hy]; rfl, tab_nil _, hB1.drew, fresh_nil _⟩
  · rw [← vs_length] at hfi
    by_cases hfull : 400 ≤ ls.length
    · have hy := castF_full (s := (au, rd, bs)) hfi (by rw [vs_length]; exact hfull)
      have hI : (400 : Int) ≤ ls.length := by omega
      clear hfi hF h32 h0
      go_wp2_with fail
      go_ret2
      exact ⟨none, 0, [], by rw [hy]; rfl, by rw [hy]; rfl, tab_nil _, hB1, fresh_nil _⟩
    · have hy := castF_new (s := (au, rd, bs)) hfi (by rw [vs_length]; exact hfull)
      have hI : ¬ (400 : Int) ≤ ls.length := by omega
      have HC : Hid (∀ W : World, Below w.heap.size w W → Calls Tryd.prog 80 #[.slice sa ls.length cap] W fun e w' => ∃ v ks, e = .returned v ∧ vs ks = vs ls ∧ w'.ownsRow W.heap.size 47 3 v ls.length (sv ks) ∧ Apart w' W.heap.size v (ps ks) ∧ Below W.heap.size W w') := by
        show ∀ W, _
        intro W hW
        exact cloneSlots_own ls _ _ cap W rfl hl4 h32 (ht.slots.below hW)
      have HD : Hid (∀ W : World, Below w.heap.size w W → Calls Tryd.prog 81 #[.agg #[.int .i64 au, .int .i64 rd, .slice da bs.length dc]] W fun e w' => ∃ ra rc, e = .returned (.agg #[.int .i64 au, .int .i64 rd, .slice ra bs.length rc]) ∧ SliceAt w' ra rc bs ∧ (∀ sb so, ra = some ⟨sb, so, none⟩ → W.heap.size ≤ sb ∧ sb < w'.heap.size) ∧ Below W.heap.size W w') := by
        show ∀ W, _
        intro W hW
        exact cloneSlot_any au rd bs da _ dc W rfl (hd.below hW) hdl
      obtain ⟨i, hi, hz0, hz1, hz2⟩ := info_parts infoSlot
      clear hfi hF h32 h0 ht hd
      go_wp2_with fail
      go_region_held3 (fun w' => w'.cell? ⟨w.heap.size, 0, none⟩ = some (.int .i64 au) ∧ w'.cell? ⟨w.heap.size, 1, none⟩ = some (.int .i64 rd) ∧ w'.cell? ⟨w.heap.size, 2, none⟩ = some (.slice da bs.length dc)) (go_keep) (first
        | (go_at_call 81; refine (HD.out _ (hB1.trans (hb3.mono hB1.size))).mono ?_; rintro e w4 ⟨ya, yc, rfl, hy4, hrow4, hb4⟩; have hb34 := hb3.trans (hb4.mono hb3.size); have q4 := (hb34.block _ hlt1).trans q0; have g0 : w4.cell? ⟨w.heap.size, 0, none⟩ = some (.int .i64 au) := cells_at q4 0 _ rfl; have g1 : w4.cell? ⟨w.heap.size, 1, none⟩ = some (.int .i64 rd) := cells_at q4 1 _ rfl; have g2 : w4.cell? ⟨w.heap.size, 2, none⟩ = some (.slice da bs.length dc) := cells_at q4 2 _ rfl)
        | (go_at_call 80; refine (HC.out _ (hB1.trans ((Below.refl _ _).drew.mono hB1.size))).mono ?_; rintro e w3 ⟨v3, ks, rfl, hv3, ho3, hap3, hb3⟩; replace hb3 := below_drew hb3; have q3 := (hb3.block _ hlt1).trans q0; have f0 : w3.cell? ⟨w.heap.size, 0, none⟩ = some (.int .i64 au) := cells_at q3 0 _ rfl; have f1 : w3.cell? ⟨w.heap.size, 1, none⟩ = some (.int .i64 rd) := cells_at q3 1 _ rfl; have f2 : w3.cell? ⟨w.heap.size, 2, none⟩ = some (.slice da bs.length dc) := cells_at q3 2 _ rfl)
        | (refine step_append_at rfl _ _ 44 rfl w1.heap.size 47 i (.agg #[.int .i64 0, .int .i64 0, .slice none 0 0]) 3 40 Tryd.underlying44 hi hz0 hz1 hz2 rfl (by decide) v3 ls.length (sv ks) rfl (World.ownsRow.alloc (owns_keep ho3 hb4) _) ⟨w4.heap.size, 0, none⟩ 1 1 [.int .i64 au, .int .i64 rd, .slice ya bs.length yc] rfl rfl (cells_new w4 [.int .i64 au, .int .i64 rd, .slice ya bs.length yc] 47) (by intro u hu; simp at hu; rcases hu with rfl | rfl | rfl <;> rfl) (by unfold maxLen; omega) (by omega) (by rw [size_alloc]; have := hb34.size; omega) ?_; intro v5 w5 ho5 G5; have q5 := (G5.grown.block w.heap.size (by rw [size_alloc]; have := lt_of_heap q4; omega) (fun e => by have h9 : w1.heap.size ≤ w.heap.size := (ho3.lt _ e.symm).1; omega)).trans (heap_keep (o := .cells #[.int .i64 au, .int .i64 rd, .slice ya bs.length yc] 47) q4); have k0 : w5.cell? ⟨w.heap.size, 0, none⟩ = some (.int .i64 au) := cells_at q5 0 _ rfl; have k1 : w5.cell? ⟨w.heap.size, 1, none⟩ = some (.int .i64 rd) := cells_at q5 1 _ rfl; have k2 : w5.cell? ⟨w.heap.size, 2, none⟩ = some (.slice da bs.length dc) := cells_at q5 2 _ rfl))
      all_goals
        have hA4 : Below w4.heap.size w4 (w4.alloc (.cells #[.int .i64 au, .int .i64 rd, .slice ya bs.length yc] 47)) := (Below.refl _ _).alloc (Nat.le_refl _) _
        have hap5 := hap3.more_at (q := ⟨ya, yc, bs⟩) hb3.size ho3 hb4 hrow4 hy4 G5
        have hB5 := Below.grown (hb34.alloc hb34.size _) G5.grown (le_alloc hb34.size _) (fun q e => (ho3.lt q e).1)
        have ho5' : w5.ownsRow w1.heap.size 47 3 v5 (ls.length + 1) (sv (ks ++ [⟨au, rd, ⟨ya, yc, bs⟩⟩])) := by rw [sv_snoc]; exact ho5
        have hap5' : Apart w5 w1.heap.size v5 (ps (ks ++ [⟨au, rd, ⟨ya, yc, bs⟩⟩])) := by simpa [ps] using hap5
        obtain ⟨ra, rc, hv, hl, hL, hfr⟩ := tab_of_owns ho5' hap5'
        subst hv
        rw [hl]
        go_wp2_with fail
        go_ret2
        exact ⟨ra, rc, ks ++ [⟨au, rd, ⟨ya, yc, bs⟩⟩], by rw [hy]; rfl, by rw [hy, ← hv3]; simp [vs, Sl.v], hL (by omega), hB1.trans (hB5.mono hB1.size), fresh_mono hfr hB1.size⟩
end Go.Proofs.YtbkojincfmfpnaaDoor

namespace Go.Proofs.YtbkojincfmfpnaaDoor
open Go.RowKit

/-- P4.3 -/
def castAll (l : List SV) (au rd : Int) (bl pl : List Part) : List SV × SV × Int :=
  if tabF l ≠ 0 then ([], (0, 0, []), 12) else if headerF au rd bl pl ≠ 0 then ([], (0, 0, []), headerF au rd bl pl) else
    if (castF l (au, rd, hDig au rd bl pl)).2 ≠ 0 then ([], (0, 0, []), (castF l (au, rd, hDig au rd bl pl)).2) else ((castF l (au, rd, hDig au rd bl pl)).1, (au, rd, hDig au rd bl pl), 0)
/-- What a cast answers. -/
structure CastAt (w w' : World) (e : Ending) (R : List SV × SV × Int) : Prop where
  out : ∃ ra rc ks da dc xa xr ds er, e = .returned (.tuple #[.slice ra (List.length ks) rc, .agg #[.int .i64 xa, .int .i64 xr, .slice da (List.length ds) dc], .int .i64 er]) ∧ (vs ks, (xa, xr, ds), er) = R ∧ TabAt w' ra rc ks ∧ SliceAt w' da dc ds ∧ Fresh w.heap.size ra (ps ks) ∧ (∀ sb so, da = some ⟨sb, so, none⟩ → w.heap.size ≤ sb) ∧ Below w.heap.size w w'
set_option maxRecDepth 100000 in
theorem CastAt.bad {w w' : World} {er : Int} {R : List SV × SV × Int} (hR : ([], (0, 0, []), er) = R) (hb : Below w.heap.size w w') : CastAt w w' (.returned (.tuple #[.slice none 0 0, .agg #[.int .i64 0, .int .i64 0, .slice none 0 0], .int .i64 er])) R :=
  ⟨none, 0, [], none, 0, 0, 0, [], er, rfl, hR, tab_nil _, nilSlice _, fresh_nil _, (fun _ _ e => by cases e), hb⟩

set_option maxRecDepth 100000 in
set_option maxHeartbeats 2000000 in
theorem cast_any (ls : List Sl) (sa : Option Addr) (cap : Nat) (au rd : Int) (ba : Option Addr) (bc : Nat) (bl : List Part) (pa : Option Addr) (pc : Nat) (pl : List Part) (w : World) (ht : TabAt w sa cap ls) (h : HAt w ba bc bl pa pc pl) (hT : Tabs w) :
    Calls Tryd.prog 25 #[.slice sa ls.length cap, .agg #[.int .i64 au, .int .i64 rd, .slice ba bl.length bc, .slice pa pl.length pc]] w fun e w' => CastAt w w' e (castAll (vs ls) au rd bl pl) := by
  have hR : Below w.heap.size w ((w.alloc (.cells #[.int .i64 au, .int .i64 rd, .slice ba bl.length bc, .slice pa pl.length pc] 25)).alloc (.cells #[.int .i64 0, .int .i64 0, .slice none 0 0] 47)) := ((Below.refl _ _).alloc (Nat.le_refl _) _).alloc (by simp) _
  have q0 := heap_alloc2_old w (.cells #[.int .i64 au, .int .i64 rd, .slice ba bl.length bc, .slice pa pl.length pc] 25) (.cells #[.int .i64 0, .int .i64 0, .slice none 0 0] 47)
  have q1 : ((w.alloc (.cells #[.int .i64 au, .int .i64 rd, .slice ba bl.length bc, .slice pa pl.length pc] 25)).alloc (.cells #[.int .i64 0, .int .i64 0, .slice none 0 0] 47)).heap[w.heap.size + 1]? = some (.cells #[.int .i64 0, .int .i64 0, .slice none 0 0] 47 (0, 0)) := by
    have := heap_alloc_new (w.alloc (.cells #[.int .i64 au, .int .i64 rd, .slice ba bl.length bc, .slice pa pl.length pc] 25)) (.cells #[.int .i64 0, .int .i64 0, .slice none 0 0] 47)
    rw [size_alloc] at this; exact this
  rcases tabF_or (vs ls) with h0 | h0
  rotate_left
  · have hA : ([], (0, 0, []), 12) = castAll (vs ls) au rd bl pl := by rw [castAll, if_pos (by rw [h0]; decide)]
    generalize castAll (vs ls) au rd bl pl = R at *
    go_enter Tryd.func25, Tryd.ntmps25
    go_wp2_with fail
    generalize (w.alloc (.cells #[.int .i64 au, .int .i64 rd, .slice ba bl.length bc, .slice pa pl.length pc] 25)).alloc (.cells #[.int .i64 0, .int .i64 0, .slice none 0 0] 47) = W0 at hR q0 q1 ⊢
    refine (checkTab_any ls sa _ cap W0 rfl (ht.below hR)).mono ?_
    rintro e w1 ⟨he, hb1⟩
    rw [h0] at he
    subst he
    dsimp only
    have r1 := (hb1.block _ (lt_of_heap q1)).trans q1
    have d0 := cells_at r1 0 _ rfl
    have d1 := cells_at r1 1 _ rfl
    have d2 := cells_at r1 2 _ rfl
    have f0 := frozen_at r1 0
    have f1 := frozen_at r1 1
    have f2 := frozen_at r1 2
    have hW1 := hR.trans (hb1.mono hR.size)
    go_wp2_with fail
    refine bodyPost_ret (v := .tuple #[.slice none 0 0, .agg #[.int .i64 0, .int .i64 0, .slice none 0 0], .int .i64 12]) (by simp [results, Tryd.results25, go_sem, d0, d1, d2]) rfl (CastAt.bad hA ?_)
    exact ((hW1.setCell (Nat.le_succ _) _).setCell (Nat.le_succ _) _).setCell (Nat.le_succ _) _
  by_cases hF : headerF au rd bl pl = 0
  rotate_left
  · have hA : ([], (0, 0, []), headerF au rd bl pl) = castAll (vs ls) au rd bl pl := by rw [castAll, if_neg (by rw [h0]; decide), if_pos hF]
    generalize castAll (vs ls) au rd bl pl = R at *
    have HO : Hid (∀ W : World, Below w.heap.size w W → Calls Tryd.prog 51 #[.agg #[.int .i64 au, .int .i64 rd, .slice ba bl.length bc, .slice pa pl.length pc]] W fun e w' => e = .returned (.tuple #[.agg #[.int .i64 0, .int .i64 0, .slice none 0 0], .int .i64 (headerF au rd bl pl)]) ∧ Below W.heap.size W w') := by
      show ∀ W, _
      intro W hW
      exact slotOf_bad au rd ba bc bl pa pc pl _ W (h.below hW) rfl hF
    generalize headerF au rd bl pl = ec at *
    go_enter Tryd.func25, Tryd.ntmps25
    go_wp2_with fail
    generalize (w.alloc (.cells #[.int .i64 au, .int .i64 rd, .slice ba bl.length bc, .slice pa pl.length pc] 25)).alloc (.cells #[.int .i64 0, .int .i64 0, .slice none 0 0] 47) = W0 at hR q0 q1 ⊢
    refine (checkTab_any ls sa _ cap W0 rfl (ht.below hR)).mono ?_
    rintro e w1 ⟨he, hb1⟩
    rw [h0] at he
    subst he
    dsimp only
    have r0 := (hb1.block _ (lt_of_heap q0)).trans q0
    have r1 := (hb1.block _ (lt_of_heap q1)).trans q1
    have hW1 := hR.trans (hb1.mono hR.size)
    have c0 : w1.cell? ⟨w.heap.size, 0, none⟩ = some (.int .i64 au) := cells_at r0 0 _ rfl
    have c1 : w1.cell? ⟨w.heap.size, 1, none⟩ = some (.int .i64 rd) := cells_at r0 1 _ rfl
    have c2 : w1.cell? ⟨w.heap.size, 2, none⟩ = some (.slice ba bl.length bc) := cells_at r0 2 _ rfl
    have c3 : w1.cell? ⟨w.heap.size, 3, none⟩ = some (.slice pa pl.length pc) := cells_at r0 3 _ rfl
    go_wp2_with fail
    refine (HO.out _ hW1).mono ?_
    rintro e w2 ⟨he, hb2⟩
    subst he
    dsimp only
    have s1 := (hb2.block _ (lt_of_heap r1)).trans r1
    have hlt2 : w.heap.size + 1 < w2.heap.size := lt_of_heap s1
    have hne : ¬ w.heap.size + 1 = w2.heap.size := by omega
    have hne2 : ¬ w2.heap.size = w.heap.size + 1 := by omega
    have hW2 := hW1.trans (hb2.mono hW1.size)
    have d0 := cells_at s1 0 _ rfl
    have d1 := cells_at s1 1 _ rfl
    have d2 := cells_at s1 2 _ rfl
    have f0 := frozen_at s1 0
    have f1 := frozen_at s1 1
    have f2 := frozen_at s1 2
    have h0' : (ec != 0) = true := by simpa using hF
    go_wp2_with fail
    refine bodyPost_ret (v := .tuple #[.slice none 0 0, .agg #[.int .i64 0, .int .i64 0, .slice none 0 0], .int .i64 ec]) (by simp [results, Tryd.results25, go_sem, d0, d1, d2, World.cell?_alloc_lt, hlt2]) rfl (CastAt.bad hA ?_)
    refine Below.alloc ?_ ?_ _
    · exact ((hW2.setCell (Nat.le_succ _) _).setCell (Nat.le_succ _) _).setCell (Nat.le_succ _) _
    · simp; omega
  have hA : castAll (vs ls) au rd bl pl = if (castF (vs ls) (au, rd, hDig au rd bl pl)).2 ≠ 0 then ([], (0, 0, []), (castF (vs ls) (au, rd, hDig au rd bl pl)).2) else ((castF (vs ls) (au, rd, hDig au rd bl pl)).1, (au, rd, hDig au rd bl pl), 0) := by
    rw [castAll, if_neg (by rw [h0]; decide), if_neg (by rw [hF]; decide)]
  have hlen := hDig_length au rd bl pl
  have HO : Hid (∀ W : World, Below w.heap.size w W → Calls Tryd.prog 51 #[.agg #[.int .i64 au, .int .i64 rd, .slice ba bl.length bc, .slice pa pl.length pc]] W fun e w' => ∃ b, e = .returned (.tuple #[.agg #[.int .i64 au, .int .i64 rd, .slice (some ⟨b, 0, none⟩) 32 32], .int .i64 0]) ∧ W.heap.size ≤ b ∧ b < w'.heap.size ∧ SliceAt w' (some ⟨b, 0, none⟩) 32 (hDig au rd bl pl) ∧ Below W.heap.size W w') := by
    show ∀ W, _
    intro W hW
    exact slotOf_ok au rd ba bc bl pa pc pl W (h.below hW) hF (hT.below hW)
  have HW : Hid (∀ (W : World) (b : Nat), Below w.heap.size w W → SliceAt W (some ⟨b, 0, none⟩) 32 (hDig au rd bl pl) → Calls Tryd.prog 52 #[.slice sa ls.length cap, .agg #[.int .i64 au, .int .i64 rd, .slice (some ⟨b, 0, none⟩) 32 32]] W fun e w' => ∃ ra rc ks, e = .returned (.tuple #[.slice ra (List.length ks) rc, .int .i64 (castF (vs ls) (au, rd, hDig au rd bl pl)).2]) ∧ vs ks = (castF (vs ls) (au, rd, hDig au rd bl pl)).1 ∧ TabAt w' ra rc ks ∧ Below W.heap.size W w' ∧ Fresh W.heap.size ra (ps ks)) := by
    show ∀ W b, _
    intro W b hW hs
    exact with_any ls sa _ cap au rd (hDig au rd bl pl) _ 32 32 W rfl hlen.symm (ht.below hW) h0 hs (by omega)
  have HD32 : Hid ((hDig au rd bl pl).length = 32) := hlen
  clear hF hlen
  generalize hDig au rd bl pl = D at *
  generalize castF (vs ls) (au, rd, D) = C at *
  obtain ⟨cl, cer⟩ := C
  dsimp only at *
  go_enter Tryd.func25, Tryd.ntmps25
  go_wp2_with fail
  generalize (w.alloc (.cells #[.int .i64 au, .int .i64 rd, .slice ba bl.length bc, .slice pa pl.length pc] 25)).alloc (.cells #[.int .i64 0, .int .i64 0, .slice none 0 0] 47) = W0 at hR q0 q1 ⊢
  refine (checkTab_any ls sa _ cap W0 rfl (ht.below hR)).mono ?_
  rintro e w1 ⟨he, hb1⟩
  rw [h0] at he
  subst he
  dsimp only
  have r0 := (hb1.block _ (lt_of_heap q0)).trans q0
  have r1 := (hb1.block _ (lt_of_heap q1)).trans q1
  have hW1 := hR.trans (hb1.mono hR.size)
  have c0 : w1.cell? ⟨w.heap.size, 0, none⟩ = some (.int .i64 au) := cells_at r0 0 _ rfl
  have c1 : w1.cell? ⟨w.heap.size, 1, none⟩ = some (.int .i64 rd) := cells_at r0 1 _ rfl
  have c2 : w1.cell? ⟨w.heap.size, 2, none⟩ = some (.slice ba bl.length bc) := cells_at r0 2 _ rfl
  have c3 : w1.cell? ⟨w.heap.size, 3, none⟩ = some (.slice pa pl.length pc) := cells_at r0 3 _ rfl
  clear h0
  go_wp2_with fail
  refine (HO.out _ hW1).mono ?_
  rintro e w2 ⟨b, he, hbb, hbl, hsD, hb2⟩
  subst he
  dsimp only
  have s1 := (hb2.block _ (lt_of_heap r1)).trans r1
  have hlt2 : w.heap.size + 1 < w1.heap.size := lt_of_heap r1
  have hW2 := hW1.trans (hb2.mono hW1.size)
  have s1' := heap_keep (o := .cells #[.int .i64 au, .int .i64 rd, .slice (some ⟨b, 0, none⟩) 32 32] 47) s1
  have s2 := heap_alloc_new w2 (.cells #[.int .i64 au, .int .i64 rd, .slice (some ⟨b, 0, none⟩) 32 32] 47)
  have hA2 : Below w2.heap.size w2 (w2.alloc (.cells #[.int .i64 au, .int .i64 rd, .slice (some ⟨b, 0, none⟩) 32 32] 47)) := (Below.refl _ _).alloc (Nat.le_refl _) _
  have hW3 := hW2.trans (hA2.mono hW2.size)
  have hsD3 := hsD.below hA2
  have hne : w2.heap.size ≠ w.heap.size + 1 := by have := hb2.size; omega
  have hneS : w.heap.size + 1 ≠ w2.heap.size := hne.symm
  go_wp2_with fail
  generalize w2.alloc (.cells #[.int .i64 au, .int .i64 rd, .slice (some ⟨b, 0, none⟩) 32 32] 47) = w3 at s1' s2 hA2 hW3 hsD3 ⊢
  refine (HW.out w3 b hW3 hsD3).mono ?_
  rintro e w4 ⟨ra, rc, ks, he, hks, hT4, hb4, hfr⟩
  subst he
  dsimp only
  have t1 := (hb4.block _ (lt_of_heap s1')).trans s1'
  have t2 := (hb4.block _ (lt_of_heap s2)).trans s2
  have hW4 := hW3.trans (hb4.mono hW3.size)
  have d0 := cells_at t1 0 _ rfl
  have d1 := cells_at t1 1 _ rfl
  have d2 := cells_at t1 2 _ rfl
  have f0 := frozen_at t1 0
  have f1 := frozen_at t1 1
  have f2 := frozen_at t1 2
  have e0 : w4.cell? ⟨w2.heap.size, 0, none⟩ = some (.int .i64 au) := cells_at t2 0 _ rfl
  have e1 : w4.cell? ⟨w2.heap.size, 1, none⟩ = some (.int .i64 rd) := cells_at t2 1 _ rfl
  have e2 : w4.cell? ⟨w2.heap.size, 2, none⟩ = some (.slice (some ⟨b, 0, none⟩) 32 32) := cells_at t2 2 _ rfl
  by_cases hc : cer = 0
  · subst hc
    rw [if_neg (by decide)] at hA
    clear c0 c1 c2 c3
    go_wp2_with fail
    go_region_held3 (fun w' => w'.cell? ⟨w2.heap.size, 0, none⟩ = some (.int .i64 au) ∧ w'.cell? ⟨w2.heap.size, 1, none⟩ = some (.int .i64 rd) ∧ w'.cell? ⟨w2.heap.size, 2, none⟩ = some (.slice (some ⟨b, 0, none⟩) 32 32)) (go_keep) (fail)
    all_goals
      go_wp2_with fail
      have hlt3 : w.heap.size + 1 < w3.heap.size := by have := hb2.size; have := hA2.size; omega
      have hrD : ∀ sb so, (some ⟨b, 0, none⟩ : Option Addr) = some ⟨sb, so, none⟩ → w1.heap.size ≤ sb := fun sb so e => by cases e; exact hbb
      have hsD4 := hsD3.below hb4
      have hD32 : D.length = 32 := HD32.out
      refine bodyPost_ret (v := .tuple #[.slice ra ks.length rc, .agg #[.int .i64 au, .int .i64 rd, .slice (some ⟨b, 0, none⟩) 32 32], .int .i64 0]) (by simp [results, Tryd.results25, go_sem, d0, d1, d2]) rfl ⟨ra, rc, ks, some ⟨b, 0, none⟩, 32, au, rd, D, 0, by rw [hD32], by rw [hA, hks], ?_, ?_, fresh_mono hfr hW3.size, (fun sb so e => Nat.le_trans hW1.size (hrD sb so e)), ?_⟩
      · exact (((hT4.setCell hfr _ _ _ hlt3).setCell hfr _ _ _ hlt3).setCell hfr _ _ _ hlt3).below ((Below.refl _ _).drew)
      · exact (slice_far (slice_far (slice_far hsD4 hrD _ _ _ hlt2) hrD _ _ _ hlt2) hrD _ _ _ hlt2).below ((Below.refl _ _).drew)
      · exact (((hW4.setCell (Nat.le_succ _) _).setCell (Nat.le_succ _) _).setCell (Nat.le_succ _) _).drew
  · rw [if_pos hc] at hA
    have h0' : (cer != 0) = true := by simpa using hc
    clear c0 c1 c2 c3
    go_wp2_with fail
    refine bodyPost_ret (v := .tuple #[.slice none 0 0, .agg #[.int .i64 0, .int .i64 0, .slice none 0 0], .int .i64 cer]) (by simp [results, Tryd.results25, go_sem, d0, d1, d2]) rfl (CastAt.bad hA.symm ?_)
    exact ((hW4.setCell (Nat.le_succ _) _).setCell (Nat.le_succ _) _).setCell (Nat.le_succ _) _
end Go.Proofs.YtbkojincfmfpnaaDoor

namespace Go.Proofs.YtbkojincfmfpnaaDoor
open Go.RowKit

/-- The number that a test takes out of a raw one. -/
def pk (n m : Int) : Int := if n < 0 then -(n + 1) % m else n % m
set_option maxRecDepth 100000 in
theorem pk_bounds (n m : Int) (hm : 0 < m) : 0 ≤ pk n m ∧ pk n m < m := by
  unfold pk; split
  · exact ⟨Int.emod_nonneg _ (by omega), Int.emod_lt_of_pos _ hm⟩
  · exact ⟨Int.emod_nonneg _ (by omega), Int.emod_lt_of_pos _ hm⟩
set_option maxRecDepth 100000 in
set_option maxHeartbeats 400000 in
theorem picked_any (n m : Int) (w : World) (h0 : -9223372036854775808 ≤ n) (h1 : n ≤ 9223372036854775807) (hm : 0 < m) (hm2 : m ≤ 9223372036854775807) :
    Calls Tryd.prog 22 #[.int .i64 n, .int .i64 m] w fun e w' => e = .returned (.int .i64 (pk n m)) ∧ w = w' := by
  have hm0 : (m == 0) = false := beq_eq_false_iff_ne.2 (by omega)
  by_cases h : n < 0
  · have hx : Hid (pk n m = -((n + 1).tmod m)) := by
      show _ = _
      rw [pk, if_pos h, ← Int.neg_tmod, Int.tmod_eq_emod_of_nonneg (by omega)]
    go_enter Tryd.func22, Tryd.ntmps22
    go_wp2
    go_ret
    exact ⟨ret_int hx.out.symm, rfl⟩
  · have hx : Hid (pk n m = n % m) := if_neg h
    go_enter Tryd.func22, Tryd.ntmps22
    go_wp2
    go_ret
    exact ⟨ret_int hx.out.symm, rfl⟩
end Go.Proofs.YtbkojincfmfpnaaDoor

namespace Go.Proofs.YtbkojincfmfpnaaDoor
open Go.RowKit

def someL (n m : Int) : List Int := (((List.replicate 32 0).set 0 (pk n 256)).set 1 (m % 256)).set 31 1
set_option maxRecDepth 100000 in
theorem someL_length (n m : Int) : (someL n m).length = 32 := by simp [someL]
set_option maxRecDepth 100000 in
theorem makeSome (w : World) : (Instr.makeSlice 42 (.int .i64 32) (.int .i64 32)).run Tryd.prog w = .ok (.slice (some ⟨w.heap.size, 0, none⟩) 32 32) (w.alloc (.cells (ub (List.replicate 32 0)).toArray 5)) := by kernel_rfl
set_option maxRecDepth 100000 in
theorem ub_set (l : List Int) (i : Nat) (x : Int) : (ub l).set i (.int .u8 x) = ub (l.set i x) := by simp [ub, List.map_set]

set_option maxRecDepth 100000 in
set_option maxHeartbeats 1000000 in
theorem some_any (n m : Int) (w : World) (hn : I64 n) :
    Calls Tryd.prog 23 #[.int .i64 n, .int .i64 m] w fun e w' => e = .returned (.slice (some ⟨w.heap.size, 0, none⟩) 32 32) ∧ w'.ownsRow w.heap.size 5 1 (.slice (some ⟨w.heap.size, 0, none⟩) 32 32) 32 (ub (someL n m)) ∧ Below w.heap.size w w' := by
  have hmk := fun w => makeSome w
  have ho := World.ownsRow_lit (base := w.heap.size) (e := 5) (size := 1) w (ub (List.replicate 32 0)).toArray 32 (Nat.le_refl _) (by decide) rfl
  have c0 := (World.ownsRow.cellAt ho 0 (by omega))
  have c1 := (World.ownsRow.cellAt ho 1 (by omega))
  have c31 := (World.ownsRow.cellAt ho 31 (by omega))
  have f0 := World.ownsRow.frozenAt ho 0
  have f1 := World.ownsRow.frozenAt ho 1
  have f31 := World.ownsRow.frozenAt ho 31
  obtain ⟨hp0, hp1⟩ := pk_bounds n 256 (by decide)
  have hO := World.ownsRow_lit (base := w.heap.size) (e := 5) (size := 1) w (ub (someL n m)).toArray 32 (Nat.le_refl _) (by decide) (by simp [ub, someL])
  go_enter Tryd.func23, Tryd.ntmps23
  go_wp2_with (go_at_call 22; refine (picked_any n 256 _ hn.1 hn.2 (by decide) (by decide)).mono ?_; rintro e w' ⟨rfl, rfl⟩)
  go_ret
  refine ⟨rfl, ?_, (Below.refl _ _).alloc (Nat.le_refl _) _⟩
  rw [ub_set, ub_set, ub_set]
  exact hO
end Go.Proofs.YtbkojincfmfpnaaDoor

namespace Go.Proofs.YtbkojincfmfpnaaDoor
open Go.RowKit

set_option maxRecDepth 100000 in
theorem owns_shape {w : World} {base n : Nat} {e : TypeId} {s : Nat} {v : Value} {xs : List Value} (h : w.ownsRow base e s v n xs) : ∃ za zc, v = .slice za n zc := by
  rcases h.2 with ⟨rfl, hn⟩ | ⟨g, cap, cur, rfl, _⟩
  · subst hn; exact ⟨none, 0, rfl⟩
  · exact ⟨some ⟨g, 0, none⟩, cap, rfl⟩
set_option maxRecDepth 100000 in
/-- A row stays where a block below its base is rewritten. -/
theorem owns_far {w : World} {base n : Nat} {e : TypeId} {s : Nat} {v : Value} {xs : List Value} (h : w.ownsRow base e s v n xs) (b j : Nat) (x : Value) (hb : b < base) : (w.setCell ⟨b, j, none⟩ x).ownsRow base e s v n xs := by
  obtain ⟨h1, h2⟩ := h
  refine ⟨h1, ?_⟩
  rcases h2 with h2 | ⟨g, cap, cur, rfl, hg, hc, r⟩
  · exact .inl h2
  · exact .inr ⟨g, cap, cur, rfl, hg, (heap_setCell_other w ⟨b, j, none⟩ g x (by show g ≠ b; omega)).trans hc, r⟩
end Go.Proofs.YtbkojincfmfpnaaDoor

namespace Go.Proofs.YtbkojincfmfpnaaDoor
open Go.RowKit

/-- The batches of a raw header. -/
def hBats (rc : Int) : List (List Int) := (List.range (pk rc 4).toNat).map fun (i : Nat) => someL rc i
/-- The parents of a raw header. -/
def hPars (ra rb rc : Int) : List (List Int) := if pk rb 9 = 0 then [] else (List.range (3 + pk rc 2).toNat).map fun (i : Nat) => someL ra (10 + i)
set_option maxRecDepth 100000 in
theorem Apart.far {w : World} {B : Nat} {v : Value} {qs : List Part} (h : Apart w B v qs) (b j : Nat) (x : Value) (hb : b < B) : Apart (w.setCell ⟨b, j, none⟩ x) B v qs := fun p hp => by
  obtain ⟨h1, h2⟩ := h p hp
  refine ⟨⟨h1.le, h1.max, h1.some, h1.nil, ?_⟩, fun sb so e => ?_⟩
  · rcases h1.bytes with hc | ⟨sb, so, e, hc⟩
    · exact .inl hc
    · exact .inr ⟨sb, so, e, fun k hk => (World.cell?_setCell_far _ _ _ _ (by have := (h2 sb so e).1; show b ≠ sb; omega)).trans (hc k hk)⟩
  · obtain ⟨a1, a2, a3⟩ := h2 sb so e
    exact ⟨a1, by simpa using a2, a3⟩
set_option maxRecDepth 100000 in
theorem Off.far {w : World} {v : Value} {ra : Option Addr} {qs : List Part} (h : Off w v ra qs) (b j : Nat) (x : Value) : Off (w.setCell ⟨b, j, none⟩ x) v ra qs :=
  ⟨fun sb so e => ⟨by simpa using (h.row sb so e).1, (h.row sb so e).2⟩, fun p hp sb so e => ⟨by simpa using (h.each p hp sb so e).1, (h.each p hp sb so e).2⟩⟩
set_option maxRecDepth 100000 in
theorem Off.below {w w' : World} {v : Value} {ra : Option Addr} {qs : List Part} (h : Off w v ra qs) (hb : Below w.heap.size w w') : Off w' v ra qs :=
  ⟨fun sb so e => ⟨Nat.lt_of_lt_of_le (h.row sb so e).1 hb.size, (h.row sb so e).2⟩, fun p hp sb so e => ⟨Nat.lt_of_lt_of_le (h.each p hp sb so e).1 hb.size, (h.each p hp sb so e).2⟩⟩
set_option maxRecDepth 100000 in
theorem off_of_owns {w : World} {base m : Nat} {e : TypeId} {xs : List Value} {ra : Option Addr} {rc : Nat} {qs : List Part} (h : w.ownsRow base e 1 (.slice ra m rc) m xs) (ha : Apart w base (.slice ra m rc) qs) : Off w (.slice none 0 0) ra qs :=
  ⟨fun sb so e => ⟨by subst e; exact (h.lt sb rfl).2, fun e => by cases e⟩, fun p hp sb so e => ⟨((ha p hp).2 sb so e).2.1, fun e => by cases e⟩⟩
set_option maxRecDepth 100000 in
theorem apart_nil (w : World) (B : Nat) (v : Value) : Apart w B v [] := fun p hp => by cases hp
set_option maxRecDepth 100000 in
set_option maxHeartbeats 2000000 in
theorem header_raw2 (ki ra rb rc : Int) (sa : Option Addr) (n cap : Nat) (w : World) (h2 : I64 ra) (h3 : I64 rb) (h4 : I64 rc) :
    Calls Tryd.prog 19 #[.agg #[.int .i64 ki, .int .i64 ra, .int .i64 rb, .int .i64 rc, .slice sa n cap]] w fun e w' => ∃ ba bc bl pa pc pl, e = .returned (.agg #[.int .i64 (pk ra 4), .int .i64 (1 + pk rb 9), .slice ba (List.length bl) bc, .slice pa (List.length pl) pc]) ∧ ListAt w' ba bc bl ∧ ListAt w' pa pc pl ∧ Off w' (.slice none 0 0) ba bl ∧ Off w' (.slice none 0 0) pa pl ∧ bl.map (·.bs) = hBats rc ∧ pl.map (·.bs) = hPars ra rb rc ∧ Below w.heap.size w w' ∧ Fresh w.heap.size ba bl ∧ Fresh w.heap.size pa pl := by
  obtain ⟨pa0, pa1⟩ := pk_bounds ra 4 (by decide)
  obtain ⟨pb0, pb1⟩ := pk_bounds rb 9 (by decide)
  obtain ⟨pc0, pc1⟩ := pk_bounds rc 4 (by decide)
  obtain ⟨pd0, pd1⟩ := pk_bounds rc 2 (by decide)
  have q0 := heap_alloc2_old w (.cells #[.int .i64 ki, .int .i64 ra, .int .i64 rb, .int .i64 rc, .slice sa n cap] 36) (.cells #[.int .i64 0, .int .i64 0, .slice none 0 0, .slice none 0 0] 25)
  have k1 := cells_at q0 1 _ rfl
  have k2 := cells_at q0 2 _ rfl
  have hw : IntKind.i64.wrap (1 + pk rb 9) = 1 + pk rb 9 := by rw [IntKind.wrap_i64]; omega
  go_enter Tryd.func19, Tryd.ntmps19
  go_upto_region 1 with (fail)
  go_cut [3] (fun v wx => v = .pointer (some ⟨w.heap.size + 2, 0, none⟩) ∧ Below w.heap.size w wx ∧ wx.heap[w.heap.size]? = some (.cells #[.int .i64 ki, .int .i64 ra, .int .i64 rb, .int .i64 rc, .slice sa n cap] 36 (0, 0)) ∧ wx.heap[w.heap.size + 1]? = some (.cells #[.int .i64 0, .int .i64 0, .slice none 0 0, .slice none 0 0] 25 (0, 0)) ∧ wx.heap[w.heap.size + 2]? = some (.cells #[.int .i64 (pk ra 4), .int .i64 (1 + pk rb 9), .slice none 0 0, .slice none 0 0] 25 (0, 0)))
  case first =>
    go_region_held3 (fun w' => w'.cell? ⟨w.heap.size, 1, none⟩ = some (.int .i64 ra) ∧ w'.cell? ⟨w.heap.size, 2, none⟩ = some (.int .i64 rb)) (go_keep) (first | (go_at_call 22; refine (picked_any _ _ _ (by first | exact h2.1 | exact h3.1) (by first | exact h2.2 | exact h3.2) (by omega) (by omega)).mono ?_; rintro e w9 ⟨rfl, rfl⟩))
    all_goals
      go_wp2_with fail
      go_meet
      case rel =>
        refine ⟨rfl, ((((Below.refl _ _).alloc (Nat.le_refl _) _).alloc (by simp) _).alloc (by simp; omega) _).drew, ?_, ?_, ?_⟩
        · exact heap_keep (heap_keep (heap_alloc_new w _))
        · exact heap_keep (heap_new_at _ _ _ (by simp))
        · exact heap_new_at _ _ _ (by simp)
  case rest =>
    obtain ⟨rfl, hW, r0, r1, r2⟩ := hcut
    clear k1 k2 q0 hw
    obtain ⟨i, hi, hz0, hz1, hz2⟩ := info_parts infoBs
    have hent := enters_of Tryd.func23 (by kernel_rfl) rfl
    have Hent : Hid _ := hent
    clear hent
    go_wp2_with fail
    go_loopw [4] (fun j wr => ∃ (k : Nat) (v : Value) (qs : List Part), (k : Int) ≤ pk rc 4 ∧ j = .int .i64 k ∧ Below w.heap.size w wr ∧ wr.heap[w.heap.size]? = some (.cells #[.int .i64 ki, .int .i64 ra, .int .i64 rb, .int .i64 rc, .slice sa n cap] 36 (0, 0)) ∧ wr.heap[w.heap.size + 1]? = some (.cells #[.int .i64 0, .int .i64 0, .slice none 0 0, .slice none 0 0] 25 (0, 0)) ∧ wr.heap[w.heap.size + 2]? = some (.cells #[.int .i64 (pk ra 4), .int .i64 (1 + pk rb 9), v, .slice none 0 0] 25 (0, 0)) ∧ wr.ownsRow (w.heap.size + 3) 42 1 v k (pv qs) ∧ Apart wr (w.heap.size + 3) v qs ∧ Hid (qs.map (·.bs) = (List.range k).map fun (i : Nat) => someL rc i)) (fun j _ => (pk rc 4 - intOf j).toNat)
    case atStart => exact ⟨0, _, [], by omega, rfl, hW, r0, r1, r2, World.ownsRow_nil _ _ _ _, apart_nil _ _ _, by show _ = _; simp⟩
    case round =>
      clear hW r0 r1 r2
      obtain ⟨k, v, qs, hk, rfl, hW, r0, r1, r2, ho, hap, hst⟩ := hrel
      have c3 : wr.cell? ⟨w.heap.size, 3, none⟩ = some (.int .i64 rc) := cells_at r0 3 _ rfl
      have o2 : wr.cell? ⟨w.heap.size + 2, 2, none⟩ = some v := cells_at r2 2 _ rfl
      have of2 := frozen_at r2 2
      have hN : w.heap.size + 2 < wr.heap.size := lt_of_heap r2
      by_cases hlt : (k : Int) < pk rc 4
      · have hvb : v.ownBlock ≠ some (w.heap.size + 2) := fun e => by have := (ho.lt _ e).1; omega
        have hv0 : v.ownBlock ≠ some w.heap.size := fun e => by have := (ho.lt _ e).1; omega
        have hv1 : v.ownBlock ≠ some (w.heap.size + 1) := fun e => by have := (ho.lt _ e).1; omega
        go_wp2_with (go_at_call 22; refine (picked_any rc 4 _ h4.1 h4.2 (by omega) (by omega)).mono ?_; rintro e w9 ⟨rfl, rfl⟩)
        go_region_law (first | (refine step_calls rfl 23 _ _ rfl [.int .i64 rc, .int .i64 k] rfl Hent.out (fun u w9 => u = .slice (some ⟨wr.heap.size, 0, none⟩) 32 32 ∧ w9.ownsRow wr.heap.size 5 1 u 32 (ub (someL rc k)) ∧ Below wr.heap.size wr w9) ((some_any rc k _ h4).mono (fun e w9 ⟨he, ho9, hb9⟩ => ⟨_, he, rfl, ho9, below_drew hb9⟩)) ?_; rintro u w9 ⟨rfl, ho9, hb9⟩; have s0 := (hb9.block _ (lt_of_heap r0)).trans r0; have s1 := (hb9.block _ (lt_of_heap r1)).trans r1; have s2 := (hb9.block _ (lt_of_heap r2)).trans r2; have p2 : w9.cell? ⟨w.heap.size + 2, 2, none⟩ = some v := cells_at s2 2 _ rfl; have p3 : w9.cell? ⟨w.heap.size, 3, none⟩ = some (.int .i64 rc) := cells_at s0 3 _ rfl; have pf2 := frozen_at s2 2; have hN9 : w.heap.size + 2 < w9.heap.size := lt_of_heap s2; have ho9' := owns_keep ho hb9) | (refine step_append_at rfl _ _ 23 rfl (w.heap.size + 3) 42 i (.slice none 0 0) 1 24 Tryd.underlying23 hi hz0 hz1 hz2 rfl (by decide) _ k _ rfl (World.ownsRow.alloc ho9' _) ⟨w9.heap.size, 0, none⟩ 1 1 [.slice (some ⟨wr.heap.size, 0, none⟩) 32 32] rfl rfl (cells_new _ _ _) (by intro u hu; simp at hu; subst hu; rfl) (by unfold maxLen; omega) (by omega) (le_alloc hN9 _) ?_; intro v1 w3 ho3 G3; have t0 := G3.row (heap_keep s0) hv0; have t1 := G3.row (heap_keep s1) hv1; have t2 := G3.row (heap_keep s2) hvb; have g2 : w3.cell? ⟨w.heap.size + 2, 2, none⟩ = some v := cells_at t2 2 _ rfl; have gf2 := frozen_at t2 2; obtain ⟨qa, qc, hq⟩ := owns_shape ho3; subst hq))
        all_goals
          go_wp2_with fail
          go_roundw
          case rel =>
            have hb3 : Below w.heap.size w w3 := (hW.trans (hb9.mono hW.size)).trans (G3.alloc.below (Nat.le_trans hW.size hb9.size) (fun q e => by have := (ho9'.lt q e).1; omega))
            have hs9 := (sliceAt_of_owns ho9).2
            have hap3 := hap.more (q := ⟨some ⟨wr.heap.size, 0, none⟩, 32, someL rc k⟩) (by omega) ho hb9 ho9 hs9 G3
            have hR : ∃ (k' : Nat) (v' : Value) (qs' : List Part), (k' : Int) ≤ pk rc 4 ∧ (Value.int .i64 ((k : Int) + 1)) = .int .i64 k' ∧ Below w.heap.size w (w3.setCell ⟨w.heap.size + 2, 2, none⟩ (.slice qa (k + 1) qc)) ∧ (w3.setCell ⟨w.heap.size + 2, 2, none⟩ (.slice qa (k + 1) qc)).heap[w.heap.size]? = some (.cells #[.int .i64 ki, .int .i64 ra, .int .i64 rb, .int .i64 rc, .slice sa n cap] 36 (0, 0)) ∧ (w3.setCell ⟨w.heap.size + 2, 2, none⟩ (.slice qa (k + 1) qc)).heap[w.heap.size + 1]? = some (.cells #[.int .i64 0, .int .i64 0, .slice none 0 0, .slice none 0 0] 25 (0, 0)) ∧ (w3.setCell ⟨w.heap.size + 2, 2, none⟩ (.slice qa (k + 1) qc)).heap[w.heap.size + 2]? = some (.cells #[.int .i64 (pk ra 4), .int .i64 (1 + pk rb 9), v', .slice none 0 0] 25 (0, 0)) ∧ (w3.setCell ⟨w.heap.size + 2, 2, none⟩ (.slice qa (k + 1) qc)).ownsRow (w.heap.size + 3) 42 1 v' k' (pv qs') ∧ Apart (w3.setCell ⟨w.heap.size + 2, 2, none⟩ (.slice qa (k + 1) qc)) (w.heap.size + 3) v' qs' ∧ Hid (qs'.map (·.bs) = (List.range k').map fun (i : Nat) => someL rc i) :=
              ⟨k + 1, .slice qa (k + 1) qc, qs ++ [⟨some ⟨wr.heap.size, 0, none⟩, 32, someL rc k⟩], by omega, by go_num, hb3.setCell (by simp) _, heap_far t0 (by omega), heap_far t1 (by omega), by simpa using heap_setCell_same _ _ 2 _ _ (.slice qa (k + 1) qc) t2, owns_far (by simpa [pv, Part.val, someL_length] using ho3) _ _ _ (by omega), hap3.far _ _ _ (by omega), by show _ = _; rw [List.map_append, hst.out, List.range_succ, List.map_append]; rfl⟩
            first | exact hR | ((repeat apply Exists.intro); exact ⟨hR, rfl⟩)
          case measure => simp [intOf]; omega
      · have hkI : (k : Int) = pk rc 4 := by omega
        obtain ⟨ba, bc, hv, hl, hL, hFr⟩ := listAt_of_owns ho hap
        subst hv
        have hL' := hL (by omega)
        have hOf := off_of_owns ho hap
        have hbs : Hid (qs.map (·.bs) = hBats rc) := by show _ = _; rw [hst.out, hBats, ← hkI]; rfl
        have Hl : Hid (k = qs.length) := hl
        have Hk : Hid ((k : Int) = pk rc 4) := hkI
        have hk3 : k ≤ 3 := by omega
        clear hl hkI hL hst
        have d0 : wr.cell? ⟨w.heap.size + 1, 0, none⟩ = some (.int .i64 0) := cells_at r1 0 _ rfl
        have d1 : wr.cell? ⟨w.heap.size + 1, 1, none⟩ = some (.int .i64 0) := cells_at r1 1 _ rfl
        have d2 : wr.cell? ⟨w.heap.size + 1, 2, none⟩ = some (.slice none 0 0) := cells_at r1 2 _ rfl
        have d3 : wr.cell? ⟨w.heap.size + 1, 3, none⟩ = some (.slice none 0 0) := cells_at r1 3 _ rfl
        have f0 := frozen_at r1 0
        have f1 := frozen_at r1 1
        have f2 := frozen_at r1 2
        have f3 := frozen_at r1 3
        have e0 : wr.cell? ⟨w.heap.size + 2, 0, none⟩ = some (.int .i64 (pk ra 4)) := cells_at r2 0 _ rfl
        have e1 : wr.cell? ⟨w.heap.size + 2, 1, none⟩ = some (.int .i64 (1 + pk rb 9)) := cells_at r2 1 _ rfl
        have e3 : wr.cell? ⟨w.heap.size + 2, 3, none⟩ = some (.slice none 0 0) := cells_at r2 3 _ rfl
        by_cases hrd : pk rb 9 = 0
        · have hps : Hid (hPars ra rb rc = []) := by show _ = _; rw [hPars, if_pos hrd]
          have hrI : ¬ (1 : Int) < 1 + pk rb 9 := by omega
          have Hrd : Hid (pk rb 9 = 0) := hrd
          clear hrd
          go_wp2_with (go_at_call 22; refine (picked_any rc 4 _ h4.1 h4.2 (by omega) (by omega)).mono ?_; rintro e w9 ⟨rfl, rfl⟩)
          have g1 : w.heap.size + 1 < w.heap.size + 3 := by omega
          refine bodyPost_ret (v := .agg #[.int .i64 (pk ra 4), .int .i64 (1 + pk rb 9), .slice ba k bc, .slice none 0 0]) (by simp [results, Tryd.results19, go_sem, d0, d1, d2, d3]) rfl ?_
          refine ⟨ba, bc, qs, none, 0, [], by rw [← Hl.out]; rfl, ?_, ?_, ?_, ?_, hbs.out, by rw [hps.out]; rfl, ?_, ⟨fun sb so e => by have := hFr.row sb so e; omega, fun p hp sb so e => by have := hFr.each p hp sb so e; omega⟩, ⟨(fun sb so e => by cases e), (fun p hp => by cases hp)⟩⟩
          · exact (((hL'.setCell hFr _ _ _ g1).setCell hFr _ _ _ g1).setCell hFr _ _ _ g1).setCell hFr _ _ _ g1
          · exact ⟨Nat.le_refl _, by decide, by decide, .inl rfl, ⟨.inl rfl, fun p hp => by cases hp⟩⟩
          · exact (((hOf.far _ _ _).far _ _ _).far _ _ _).far _ _ _
          · exact ⟨(fun sb so e => by cases e), (fun p hp => by cases hp)⟩
          · exact ((((hW.setCell (by simp) _).setCell (by simp) _).setCell (by simp) _).setCell (by simp) _)
        · have hrI : (1 : Int) < 1 + pk rb 9 := by omega
          have hps : Hid (hPars ra rb rc = (List.range (3 + pk rc 2).toNat).map fun (i : Nat) => someL ra (10 + i)) := by show _ = _; rw [hPars, if_neg hrd]
          go_wp2_with (go_at_call 22; refine (picked_any rc 4 _ h4.1 h4.2 (by omega) (by omega)).mono ?_; rintro e w9 ⟨rfl, rfl⟩)
          rename World => wl
          have hoff0 : Off wl (.slice none 0 0) ba qs := hOf
          have hwl : w.heap.size + 3 ≤ wl.heap.size := hN
          go_loopw [5] (fun j wr => ∃ (m : Nat) (v : Value) (ps : List Part), (m : Int) ≤ 3 + pk rc 2 ∧ j = .int .i64 m ∧ Below w.heap.size w wr ∧ wr.heap[w.heap.size]? = some (.cells #[.int .i64 ki, .int .i64 ra, .int .i64 rb, .int .i64 rc, .slice sa n cap] 36 (0, 0)) ∧ wr.heap[w.heap.size + 1]? = some (.cells #[.int .i64 0, .int .i64 0, .slice none 0 0, .slice none 0 0] 25 (0, 0)) ∧ wr.heap[w.heap.size + 2]? = some (.cells #[.int .i64 (pk ra 4), .int .i64 (1 + pk rb 9), .slice ba k bc, v] 25 (0, 0)) ∧ wr.ownsRow wl.heap.size 42 1 v m (pv ps) ∧ Apart wr wl.heap.size v ps ∧ Hid (ps.map (·.bs) = (List.range m).map fun (i : Nat) => someL ra (10 + i)) ∧ ListAt wr ba bc qs ∧ Off wr v ba qs ∧ wl.heap.size ≤ wr.heap.size) (fun j _ => (3 + pk rc 2 - intOf j).toNat)
          case atStart => exact ⟨0, _, [], by omega, rfl, hW, r0, r1, r2, World.ownsRow_nil _ _ _ _, apart_nil _ _ _, (by show _ = _; simp), hL', hoff0, Nat.le_refl _⟩
          case round =>
            clear hW r0 r1 r2 hap ho hL' hOf hoff0 c3 o2 of2 hN d0 d1 d2 d3 f0 f1 f2 f3 e0 e1 e3
            obtain ⟨m, v, ps, hm, rfl, hW, r0, r1, r2, ho, hap, hst, hLb, hOb, hBl⟩ := hrel
            have c3 : wr.cell? ⟨w.heap.size, 3, none⟩ = some (.int .i64 rc) := cells_at r0 3 _ rfl
            have c1 : wr.cell? ⟨w.heap.size, 1, none⟩ = some (.int .i64 ra) := cells_at r0 1 _ rfl
            have o3 : wr.cell? ⟨w.heap.size + 2, 3, none⟩ = some v := cells_at r2 3 _ rfl
            have of3 := frozen_at r2 3
            have hN : w.heap.size + 2 < wr.heap.size := lt_of_heap r2
            by_cases hlt : (m : Int) < 3 + pk rc 2
            · have hvb : v.ownBlock ≠ some (w.heap.size + 2) := fun e => by have := (ho.lt _ e).1; omega
              have hv0 : v.ownBlock ≠ some w.heap.size := fun e => by have := (ho.lt _ e).1; omega
              have hv1 : v.ownBlock ≠ some (w.heap.size + 1) := fun e => by have := (ho.lt _ e).1; omega
              have hw10 : IntKind.i64.wrap (10 + (m : Int)) = 10 + (m : Int) := by rw [IntKind.wrap_i64]; omega
              go_wp2_with (go_at_call 22; refine (picked_any rc 2 _ h4.1 h4.2 (by omega) (by omega)).mono ?_; rintro e w9 ⟨rfl, rfl⟩)
              go_region_law (first | (refine step_calls rfl 23 _ _ rfl [.int .i64 ra, .int .i64 (10 + (m : Int))] rfl Hent.out (fun u w9 => u = .slice (some ⟨wr.heap.size, 0, none⟩) 32 32 ∧ w9.ownsRow wr.heap.size 5 1 u 32 (ub (someL ra (10 + m))) ∧ Below wr.heap.size wr w9) ((some_any ra (10 + m) _ h2).mono (fun e w9 ⟨he, ho9, hb9⟩ => ⟨_, he, rfl, ho9, below_drew hb9⟩)) ?_; rintro u w9 ⟨rfl, ho9, hb9⟩; have s0 := (hb9.block _ (lt_of_heap r0)).trans r0; have s1 := (hb9.block _ (lt_of_heap r1)).trans r1; have s2 := (hb9.block _ (lt_of_heap r2)).trans r2; have p3 : w9.cell? ⟨w.heap.size + 2, 3, none⟩ = some v := cells_at s2 3 _ rfl; have p1 : w9.cell? ⟨w.heap.size, 1, none⟩ = some (.int .i64 ra) := cells_at s0 1 _ rfl; have pf3 := frozen_at s2 3; have hN8 : w.heap.size + 2 < w9.heap.size := lt_of_heap s2; have hN9 : wl.heap.size ≤ w9.heap.size := Nat.le_trans hBl hb9.size; have ho9' := owns_keep ho hb9) | (refine step_append_at rfl _ _ 23 rfl wl.heap.size 42 i (.slice none 0 0) 1 24 Tryd.underlying23 hi hz0 hz1 hz2 rfl (by decide) _ m _ rfl (World.ownsRow.alloc ho9' _) ⟨w9.heap.size, 0, none⟩ 1 1 [.slice (some ⟨wr.heap.size, 0, none⟩) 32 32] rfl rfl (cells_new _ _ _) (by intro u hu; simp at hu; subst hu; rfl) (by unfold maxLen; omega) (by omega) (le_alloc hN9 _) ?_; intro v1 w3 ho3 G3; have t0 := G3.row (heap_keep s0) hv0; have t1 := G3.row (heap_keep s1) hv1; have t2 := G3.row (heap_keep s2) hvb; have g3 : w3.cell? ⟨w.heap.size + 2, 3, none⟩ = some v := cells_at t2 3 _ rfl; have gf3 := frozen_at t2 3; obtain ⟨qa, qc, hq⟩ := owns_shape ho3; subst hq))
              all_goals
                go_wp2_with fail
                go_roundw
                case rel =>
                  have hb3 : Below w.heap.size w w3 := (hW.trans (hb9.mono hW.size)).trans (G3.alloc.below (Nat.le_trans hW.size hb9.size) (fun q e => by have := (ho9'.lt q e).1; omega))
                  have hs9 := (sliceAt_of_owns ho9).2
                  have hap3 := hap.more (q := ⟨some ⟨wr.heap.size, 0, none⟩, 32, someL ra (10 + m)⟩) hBl ho hb9 ho9 hs9 G3
                  have hA9 : Below w9.heap.size w9 (w9.alloc (.cells #[.slice (some ⟨wr.heap.size, 0, none⟩) 32 32] 42)) := (Below.refl _ _).alloc (Nat.le_refl _) _
                  have hOb9 := (hOb.below hb9).alloc (.cells #[.slice (some ⟨wr.heap.size, 0, none⟩) 32 32] 42)
                  have hLb3 := G3.list ((hLb.below hb9).below hA9) hOb9
                  have hOb3 := G3.off hOb9
                  have hR : ∃ (m' : Nat) (v' : Value) (ps' : List Part), (m' : Int) ≤ 3 + pk rc 2 ∧ (Value.int .i64 ((m : Int) + 1)) = .int .i64 m' ∧ Below w.heap.size w (w3.setCell ⟨w.heap.size + 2, 3, none⟩ (.slice qa (m + 1) qc)) ∧ (w3.setCell ⟨w.heap.size + 2, 3, none⟩ (.slice qa (m + 1) qc)).heap[w.heap.size]? = some (.cells #[.int .i64 ki, .int .i64 ra, .int .i64 rb, .int .i64 rc, .slice sa n cap] 36 (0, 0)) ∧ (w3.setCell ⟨w.heap.size + 2, 3, none⟩ (.slice qa (m + 1) qc)).heap[w.heap.size + 1]? = some (.cells #[.int .i64 0, .int .i64 0, .slice none 0 0, .slice none 0 0] 25 (0, 0)) ∧ (w3.setCell ⟨w.heap.size + 2, 3, none⟩ (.slice qa (m + 1) qc)).heap[w.heap.size + 2]? = some (.cells #[.int .i64 (pk ra 4), .int .i64 (1 + pk rb 9), .slice ba k bc, v'] 25 (0, 0)) ∧ (w3.setCell ⟨w.heap.size + 2, 3, none⟩ (.slice qa (m + 1) qc)).ownsRow wl.heap.size 42 1 v' m' (pv ps') ∧ Apart (w3.setCell ⟨w.heap.size + 2, 3, none⟩ (.slice qa (m + 1) qc)) wl.heap.size v' ps' ∧ Hid (ps'.map (·.bs) = (List.range m').map fun (i : Nat) => someL ra (10 + i)) ∧ ListAt (w3.setCell ⟨w.heap.size + 2, 3, none⟩ (.slice qa (m + 1) qc)) ba bc qs ∧ Off (w3.setCell ⟨w.heap.size + 2, 3, none⟩ (.slice qa (m + 1) qc)) v' ba qs ∧ wl.heap.size ≤ (w3.setCell ⟨w.heap.size + 2, 3, none⟩ (.slice qa (m + 1) qc)).heap.size :=
                    ⟨m + 1, .slice qa (m + 1) qc, ps ++ [⟨some ⟨wr.heap.size, 0, none⟩, 32, someL ra (10 + m)⟩], by omega, by go_num, hb3.setCell (by simp) _, heap_far t0 (by omega), heap_far t1 (by omega), by simpa using heap_setCell_same _ _ 3 _ _ (.slice qa (m + 1) qc) t2, owns_far (by simpa [pv, Part.val, someL_length] using ho3) _ _ _ (by omega), hap3.far _ _ _ (by omega), (by show _ = _; rw [List.map_append, hst.out, List.range_succ, List.map_append]; rfl), hLb3.setCell hFr _ _ _ (by omega), hOb3.far _ _ _, by simpa using Nat.le_trans (le_alloc hN9 _) G3.grown.size⟩
                  first | exact hR | ((repeat apply Exists.intro); exact ⟨hR, rfl⟩)
                case measure => simp [intOf]; omega
            · have hkI : (m : Int) = 3 + pk rc 2 := by omega
              obtain ⟨qa, qc, hv, hl, hL, hFp⟩ := listAt_of_owns ho hap
              subst hv
              have hLp := hL (by omega)
              have hOp := off_of_owns ho hap
              have hpp : Hid (ps.map (·.bs) = hPars ra rb rc) := by show _ = _; rw [hst.out, hps.out, ← hkI]; rfl
              have Hlp : Hid (m = ps.length) := hl
              have hOb' : Off wr (.slice none 0 0) ba qs := ⟨fun sb so e => ⟨(hOb.row sb so e).1, fun e => by cases e⟩, fun p hp sb so e => ⟨(hOb.each p hp sb so e).1, fun e => by cases e⟩⟩
              have hm4 : m ≤ 4 := by omega
              have Hm : Hid ((m : Int) = 3 + pk rc 2) := hkI
              clear hl hkI hL hst
              have d0 : wr.cell? ⟨w.heap.size + 1, 0, none⟩ = some (.int .i64 0) := cells_at r1 0 _ rfl
              have d1 : wr.cell? ⟨w.heap.size + 1, 1, none⟩ = some (.int .i64 0) := cells_at r1 1 _ rfl
              have d2 : wr.cell? ⟨w.heap.size + 1, 2, none⟩ = some (.slice none 0 0) := cells_at r1 2 _ rfl
              have d3 : wr.cell? ⟨w.heap.size + 1, 3, none⟩ = some (.slice none 0 0) := cells_at r1 3 _ rfl
              have f0 := frozen_at r1 0
              have f1 := frozen_at r1 1
              have f2 := frozen_at r1 2
              have f3 := frozen_at r1 3
              have e0 : wr.cell? ⟨w.heap.size + 2, 0, none⟩ = some (.int .i64 (pk ra 4)) := cells_at r2 0 _ rfl
              have e1 : wr.cell? ⟨w.heap.size + 2, 1, none⟩ = some (.int .i64 (1 + pk rb 9)) := cells_at r2 1 _ rfl
              have e2 : wr.cell? ⟨w.heap.size + 2, 2, none⟩ = some (.slice ba k bc) := cells_at r2 2 _ rfl
              go_wp2_with (go_at_call 22; refine (picked_any rc 2 _ h4.1 h4.2 (by omega) (by omega)).mono ?_; rintro e w9 ⟨rfl, rfl⟩)
              have g1 : w.heap.size + 1 < w.heap.size + 3 := by omega
              have g2 : w.heap.size + 1 < wl.heap.size := by omega
              refine bodyPost_ret (v := .agg #[.int .i64 (pk ra 4), .int .i64 (1 + pk rb 9), .slice ba k bc, .slice qa m qc]) (by simp [results, Tryd.results19, go_sem, d0, d1, d2, d3]) rfl ?_
              refine ⟨ba, bc, qs, qa, qc, ps, by rw [← Hl.out, ← Hlp.out], ?_, ?_, ?_, ?_, hbs.out, hpp.out, ?_, ⟨fun sb so e => by have := hFr.row sb so e; omega, fun p hp sb so e => by have := hFr.each p hp sb so e; omega⟩, ⟨fun sb so e => by have := hFp.row sb so e; omega, fun p hp sb so e => by have := hFp.each p hp sb so e; omega⟩⟩
              · exact (((hLb.setCell hFr _ _ _ g1).setCell hFr _ _ _ g1).setCell hFr _ _ _ g1).setCell hFr _ _ _ g1
              · exact (((hLp.setCell hFp _ _ _ g2).setCell hFp _ _ _ g2).setCell hFp _ _ _ g2).setCell hFp _ _ _ g2
              · exact (((hOb'.far _ _ _).far _ _ _).far _ _ _).far _ _ _
              · exact (((hOp.far _ _ _).far _ _ _).far _ _ _).far _ _ _
              · exact ((((hW.setCell (by simp) _).setCell (by simp) _).setCell (by simp) _).setCell (by simp) _)
set_option maxRecDepth 100000 in
theorem header_raw (ki ra rb rc : Int) (sa : Option Addr) (n cap : Nat) (w : World) (h2 : I64 ra) (h3 : I64 rb) (h4 : I64 rc) :
    Calls Tryd.prog 19 #[.agg #[.int .i64 ki, .int .i64 ra, .int .i64 rb, .int .i64 rc, .slice sa n cap]] w fun e w' => ∃ ba bc bl pa pc pl, e = .returned (.agg #[.int .i64 (pk ra 4), .int .i64 (1 + pk rb 9), .slice ba (List.length bl) bc, .slice pa (List.length pl) pc]) ∧ ListAt w' ba bc bl ∧ ListAt w' pa pc pl ∧ Off w' (.slice none 0 0) ba bl ∧ Off w' (.slice none 0 0) pa pl ∧ bl.map (·.bs) = hBats rc ∧ pl.map (·.bs) = hPars ra rb rc ∧ Below w.heap.size w w' := by
  refine (header_raw2 ki ra rb rc sa n cap w h2 h3 h4).mono ?_
  rintro e w' ⟨ba, bc, bl, pa, pc, pl, he, a1, a2, a3, a4, a5, a6, a7, _, _⟩
  exact ⟨ba, bc, bl, pa, pc, pl, he, a1, a2, a3, a4, a5, a6, a7⟩
end Go.Proofs.YtbkojincfmfpnaaDoor
