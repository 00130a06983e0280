/- ballot.Cast, for every table and every header. -/
import Derived.Test.YtlpaghkofljnfaaDoorSlotOf
import Derived.Test.YtlpaghkofljnfaaDoorWith
namespace Go.Proofs.YtlpaghkofljnfaaDoor
open Go.RowKit

/-- P4.3 -/
def castAll (l : List SV) (au rd : Int) (bl pl : List Part) : List SV × SV × Int :=
  if tabF l ≠ 0 then ([], (0, 0, []), 12) else if headerF au rd bl pl ≠ 0 then ([], (0, 0, []), headerF au rd bl pl) else
    if (castF l (au, rd, hDig au rd bl pl)).2 ≠ 0 then ([], (0, 0, []), (castF l (au, rd, hDig au rd bl pl)).2) else ((castF l (au, rd, hDig au rd bl pl)).1, (au, rd, hDig au rd bl pl), 0)
/-- What a cast answers. -/
structure CastAt (w w' : World) (e : Ending) (R : List SV × SV × Int) : Prop where
  out : ∃ ra rc ks da dc xa xr ds er, e = .returned (.tuple #[.slice ra (List.length ks) rc, .agg #[.int .i64 xa, .int .i64 xr, .slice da (List.length ds) dc], .int .i64 er]) ∧ (vs ks, (xa, xr, ds), er) = R ∧ TabAt w' ra rc ks ∧ SliceAt w' da dc ds ∧ Fresh w.heap.size ra (ps ks) ∧ (∀ sb so, da = some ⟨sb, so, none⟩ → w.heap.size ≤ sb) ∧ Below w.heap.size w w'
set_option maxRecDepth 100000 in
theorem CastAt.bad {w w' : World} {er : Int} {R : List SV × SV × Int} (hR : ([], (0, 0, []), er) = R) (hb : Below w.heap.size w w') : CastAt w w' (.returned (.tuple #[.slice none 0 0, .agg #[.int .i64 0, .int .i64 0, .slice none 0 0], .int .i64 er])) R :=
  ⟨none, 0, [], none, 0, 0, 0, [], er, rfl, hR, tab_nil _, nilSlice _, fresh_nil _, (fun _ _ e => by cases e), hb⟩

set_option maxRecDepth 100000 in
set_option maxHeartbeats 2000000 in
theorem cast_any (ls : List Sl) (sa : Option Addr) (cap : Nat) (au rd : Int) (ba : Option Addr) (bc : Nat) (bl : List Part) (pa : Option Addr) (pc : Nat) (pl : List Part) (w : World) (ht : TabAt w sa cap ls) (h : HAt w ba bc bl pa pc pl) (hT : Tabs w) :
    Calls Tryd.prog 10 #[.slice sa ls.length cap, .agg #[.int .i64 au, .int .i64 rd, .slice ba bl.length bc, .slice pa pl.length pc]] w fun e w' => CastAt w w' e (castAll (vs ls) au rd bl pl) := by
  have hR : Below w.heap.size w ((w.alloc (.cells #[.int .i64 au, .int .i64 rd, .slice ba bl.length bc, .slice pa pl.length pc] 31)).alloc (.cells #[.int .i64 0, .int .i64 0, .slice none 0 0] 39)) := ((Below.refl _ _).alloc (Nat.le_refl _) _).alloc (by simp) _
  have q0 := heap_alloc2_old w (.cells #[.int .i64 au, .int .i64 rd, .slice ba bl.length bc, .slice pa pl.length pc] 31) (.cells #[.int .i64 0, .int .i64 0, .slice none 0 0] 39)
  have q1 : ((w.alloc (.cells #[.int .i64 au, .int .i64 rd, .slice ba bl.length bc, .slice pa pl.length pc] 31)).alloc (.cells #[.int .i64 0, .int .i64 0, .slice none 0 0] 39)).heap[w.heap.size + 1]? = some (.cells #[.int .i64 0, .int .i64 0, .slice none 0 0] 39 (0, 0)) := by
    have := heap_alloc_new (w.alloc (.cells #[.int .i64 au, .int .i64 rd, .slice ba bl.length bc, .slice pa pl.length pc] 31)) (.cells #[.int .i64 0, .int .i64 0, .slice none 0 0] 39)
    rw [size_alloc] at this; exact this
  rcases tabF_or (vs ls) with h0 | h0
  rotate_left
  · have hA : ([], (0, 0, []), 12) = castAll (vs ls) au rd bl pl := by rw [castAll, if_pos (by rw [h0]; decide)]
    generalize castAll (vs ls) au rd bl pl = R at *
    go_enter Tryd.func10, Tryd.ntmps10
    go_wp2_with fail
    generalize (w.alloc (.cells #[.int .i64 au, .int .i64 rd, .slice ba bl.length bc, .slice pa pl.length pc] 31)).alloc (.cells #[.int .i64 0, .int .i64 0, .slice none 0 0] 39) = W0 at hR q0 q1 ⊢
    refine (checkTab_any ls sa _ cap W0 rfl (ht.below hR)).mono ?_
    rintro e w1 ⟨he, hb1⟩
    rw [h0] at he
    subst he
    dsimp only
    have r1 := (hb1.block _ (lt_of_heap q1)).trans q1
    have d0 := cells_at r1 0 _ rfl
    have d1 := cells_at r1 1 _ rfl
    have d2 := cells_at r1 2 _ rfl
    have f0 := frozen_at r1 0
    have f1 := frozen_at r1 1
    have f2 := frozen_at r1 2
    have hW1 := hR.trans (hb1.mono hR.size)
    go_wp2_with fail
    refine bodyPost_ret (v := .tuple #[.slice none 0 0, .agg #[.int .i64 0, .int .i64 0, .slice none 0 0], .int .i64 12]) (by simp [results, Tryd.results10, go_sem, d0, d1, d2]) rfl (CastAt.bad hA ?_)
    exact ((hW1.setCell (Nat.le_succ _) _).setCell (Nat.le_succ _) _).setCell (Nat.le_succ _) _
  by_cases hF : headerF au rd bl pl = 0
  rotate_left
  · have hA : ([], (0, 0, []), headerF au rd bl pl) = castAll (vs ls) au rd bl pl := by rw [castAll, if_neg (by rw [h0]; decide), if_pos hF]
    generalize castAll (vs ls) au rd bl pl = R at *
    have HO : Hid (∀ W : World, Below w.heap.size w W → Calls Tryd.prog 22 #[.agg #[.int .i64 au, .int .i64 rd, .slice ba bl.length bc, .slice pa pl.length pc]] W fun e w' => e = .returned (.tuple #[.agg #[.int .i64 0, .int .i64 0, .slice none 0 0], .int .i64 (headerF au rd bl pl)]) ∧ Below W.heap.size W w') := by
      show ∀ W, _
      intro W hW
      exact slotOf_bad au rd ba bc bl pa pc pl _ W (h.below hW) rfl hF
    generalize headerF au rd bl pl = ec at *
    go_enter Tryd.func10, Tryd.ntmps10
    go_wp2_with fail
    generalize (w.alloc (.cells #[.int .i64 au, .int .i64 rd, .slice ba bl.length bc, .slice pa pl.length pc] 31)).alloc (.cells #[.int .i64 0, .int .i64 0, .slice none 0 0] 39) = W0 at hR q0 q1 ⊢
    refine (checkTab_any ls sa _ cap W0 rfl (ht.below hR)).mono ?_
    rintro e w1 ⟨he, hb1⟩
    rw [h0] at he
    subst he
    dsimp only
    have r0 := (hb1.block _ (lt_of_heap q0)).trans q0
    have r1 := (hb1.block _ (lt_of_heap q1)).trans q1
    have hW1 := hR.trans (hb1.mono hR.size)
    have c0 : w1.cell? ⟨w.heap.size, 0, none⟩ = some (.int .i64 au) := cells_at r0 0 _ rfl
    have c1 : w1.cell? ⟨w.heap.size, 1, none⟩ = some (.int .i64 rd) := cells_at r0 1 _ rfl
    have c2 : w1.cell? ⟨w.heap.size, 2, none⟩ = some (.slice ba bl.length bc) := cells_at r0 2 _ rfl
    have c3 : w1.cell? ⟨w.heap.size, 3, none⟩ = some (.slice pa pl.length pc) := cells_at r0 3 _ rfl
    go_wp2_with fail
    refine (HO.out _ hW1).mono ?_
    rintro e w2 ⟨he, hb2⟩
    subst he
    dsimp only
    have s1 := (hb2.block _ (lt_of_heap r1)).trans r1
    have hlt2 : w.heap.size + 1 < w2.heap.size := lt_of_heap s1
    have hne : ¬ w.heap.size + 1 = w2.heap.size := by omega
    have hne2 : ¬ w2.heap.size = w.heap.size + 1 := by omega
    have hW2 := hW1.trans (hb2.mono hW1.size)
    have d0 := cells_at s1 0 _ rfl
    have d1 := cells_at s1 1 _ rfl
    have d2 := cells_at s1 2 _ rfl
    have f0 := frozen_at s1 0
    have f1 := frozen_at s1 1
    have f2 := frozen_at s1 2
    have h0' : (ec != 0) = true := by simpa using hF
    go_wp2_with fail
    refine bodyPost_ret (v := .tuple #[.slice none 0 0, .agg #[.int .i64 0, .int .i64 0, .slice none 0 0], .int .i64 ec]) (by simp [results, Tryd.results10, go_sem, d0, d1, d2, World.cell?_alloc_lt, hlt2]) rfl (CastAt.bad hA ?_)
    refine Below.alloc ?_ ?_ _
    · exact ((hW2.setCell (Nat.le_succ _) _).setCell (Nat.le_succ _) _).setCell (Nat.le_succ _) _
    · simp; omega
  have hA : castAll (vs ls) au rd bl pl = if (castF (vs ls) (au, rd, hDig au rd bl pl)).2 ≠ 0 then ([], (0, 0, []), (castF (vs ls) (au, rd, hDig au rd bl pl)).2) else ((castF (vs ls) (au, rd, hDig au rd bl pl)).1, (au, rd, hDig au rd bl pl), 0) := by
    rw [castAll, if_neg (by rw [h0]; decide), if_neg (by rw [hF]; decide)]
  have hlen := hDig_length au rd bl pl
  have HO : Hid (∀ W : World, Below w.heap.size w W → Calls Tryd.prog 22 #[.agg #[.int .i64 au, .int .i64 rd, .slice ba bl.length bc, .slice pa pl.length pc]] W fun e w' => ∃ b, e = .returned (.tuple #[.agg #[.int .i64 au, .int .i64 rd, .slice (some ⟨b, 0, none⟩) 32 32], .int .i64 0]) ∧ W.heap.size ≤ b ∧ b < w'.heap.size ∧ SliceAt w' (some ⟨b, 0, none⟩) 32 (hDig au rd bl pl) ∧ Below W.heap.size W w') := by
    show ∀ W, _
    intro W hW
    exact slotOf_ok au rd ba bc bl pa pc pl W (h.below hW) hF (hT.below hW)
  have HW : Hid (∀ (W : World) (b : Nat), Below w.heap.size w W → SliceAt W (some ⟨b, 0, none⟩) 32 (hDig au rd bl pl) → Calls Tryd.prog 23 #[.slice sa ls.length cap, .agg #[.int .i64 au, .int .i64 rd, .slice (some ⟨b, 0, none⟩) 32 32]] W fun e w' => ∃ ra rc ks, e = .returned (.tuple #[.slice ra (List.length ks) rc, .int .i64 (castF (vs ls) (au, rd, hDig au rd bl pl)).2]) ∧ vs ks = (castF (vs ls) (au, rd, hDig au rd bl pl)).1 ∧ TabAt w' ra rc ks ∧ Below W.heap.size W w' ∧ Fresh W.heap.size ra (ps ks)) := by
    show ∀ W b, _
    intro W b hW hs
    exact with_any ls sa _ cap au rd (hDig au rd bl pl) _ 32 32 W rfl hlen.symm (ht.below hW) h0 hs (by omega)
  have HD32 : Hid ((hDig au rd bl pl).length = 32) := hlen
  clear hF hlen
  generalize hDig au rd bl pl = D at *
  generalize castF (vs ls) (au, rd, D) = C at *
  obtain ⟨cl, cer⟩ := C
  dsimp only at *
  go_enter Tryd.func10, Tryd.ntmps10
  go_wp2_with fail
  generalize (w.alloc (.cells #[.int .i64 au, .int .i64 rd, .slice ba bl.length bc, .slice pa pl.length pc] 31)).alloc (.cells #[.int .i64 0, .int .i64 0, .slice none 0 0] 39) = W0 at hR q0 q1 ⊢
  refine (checkTab_any ls sa _ cap W0 rfl (ht.below hR)).mono ?_
  rintro e w1 ⟨he, hb1⟩
  rw [h0] at he
  subst he
  dsimp only
  have r0 := (hb1.block _ (lt_of_heap q0)).trans q0
  have r1 := (hb1.block _ (lt_of_heap q1)).trans q1
  have hW1 := hR.trans (hb1.mono hR.size)
  have c0 : w1.cell? ⟨w.heap.size, 0, none⟩ = some (.int .i64 au) := cells_at r0 0 _ rfl
  have c1 : w1.cell? ⟨w.heap.size, 1, none⟩ = some (.int .i64 rd) := cells_at r0 1 _ rfl
  have c2 : w1.cell? ⟨w.heap.size, 2, none⟩ = some (.slice ba bl.length bc) := cells_at r0 2 _ rfl
  have c3 : w1.cell? ⟨w.heap.size, 3, none⟩ = some (.slice pa pl.length pc) := cells_at r0 3 _ rfl
  clear h0
  go_wp2_with fail
  refine (HO.out _ hW1).mono ?_
  rintro e w2 ⟨b, he, hbb, hbl, hsD, hb2⟩
  subst he
  dsimp only
  have s1 := (hb2.block _ (lt_of_heap r1)).trans r1
  have hlt2 : w.heap.size + 1 < w1.heap.size := lt_of_heap r1
  have hW2 := hW1.trans (hb2.mono hW1.size)
  have s1' := heap_keep (o := .cells #[.int .i64 au, .int .i64 rd, .slice (some ⟨b, 0, none⟩) 32 32] 39) s1
  have s2 := heap_alloc_new w2 (.cells #[.int .i64 au, .int .i64 rd, .slice (some ⟨b, 0, none⟩) 32 32] 39)
  have hA2 : Below w2.heap.size w2 (w2.alloc (.cells #[.int .i64 au, .int .i64 rd, .slice (some ⟨b, 0, none⟩) 32 32] 39)) := (Below.refl _ _).alloc (Nat.le_refl _) _
  have hW3 := hW2.trans (hA2.mono hW2.size)
  have hsD3 := hsD.below hA2
  have hne : w2.heap.size ≠ w.heap.size + 1 := by have := hb2.size; omega
  have hneS : w.heap.size + 1 ≠ w2.heap.size := hne.symm
  go_wp2_with fail
  generalize w2.alloc (.cells #[.int .i64 au, .int .i64 rd, .slice (some ⟨b, 0, none⟩) 32 32] 39) = w3 at s1' s2 hA2 hW3 hsD3 ⊢
  refine (HW.out w3 b hW3 hsD3).mono ?_
  rintro e w4 ⟨ra, rc, ks, he, hks, hT4, hb4, hfr⟩
  subst he
  dsimp only
  have t1 := (hb4.block _ (lt_of_heap s1')).trans s1'
  have t2 := (hb4.block _ (lt_of_heap s2)).trans s2
  have hW4 := hW3.trans (hb4.mono hW3.size)
  have d0 := cells_at t1 0 _ rfl
  have d1 := cells_at t1 1 _ rfl
  have d2 := cells_at t1 2 _ rfl
  have f0 := frozen_at t1 0
  have f1 := frozen_at t1 1
  have f2 := frozen_at t1 2
  have e0 : w4.cell? ⟨w2.heap.size, 0, none⟩ = some (.int .i64 au) := cells_at t2 0 _ rfl
  have e1 : w4.cell? ⟨w2.heap.size, 1, none⟩ = some (.int .i64 rd) := cells_at t2 1 _ rfl
  have e2 : w4.cell? ⟨w2.heap.size, 2, none⟩ = some (.slice (some ⟨b, 0, none⟩) 32 32) := cells_at t2 2 _ rfl
  by_cases hc : cer = 0
  · subst hc
    rw [if_neg (by decide)] at hA
    clear c0 c1 c2 c3
    go_wp2_with fail
    go_region_held3 (fun w' => w'.cell? ⟨w2.heap.size, 0, none⟩ = some (.int .i64 au) ∧ w'.cell? ⟨w2.heap.size, 1, none⟩ = some (.int .i64 rd) ∧ w'.cell? ⟨w2.heap.size, 2, none⟩ = some (.slice (some ⟨b, 0, none⟩) 32 32)) (go_keep) (fail)
    all_goals
      go_wp2_with fail
      have hlt3 : w.heap.size + 1 < w3.heap.size := by have := hb2.size; have := hA2.size; omega
      have hrD : ∀ sb so, (some ⟨b, 0, none⟩ : Option Addr) = some ⟨sb, so, none⟩ → w1.heap.size ≤ sb := fun sb so e => by cases e; exact hbb
      have hsD4 := hsD3.below hb4
      have hD32 : D.length = 32 := HD32.out
      refine bodyPost_ret (v := .tuple #[.slice ra ks.length rc, .agg #[.int .i64 au, .int .i64 rd, .slice (some ⟨b, 0, none⟩) 32 32], .int .i64 0]) (by simp [results, Tryd.results10, go_sem, d0, d1, d2]) rfl ⟨ra, rc, ks, some ⟨b, 0, none⟩, 32, au, rd, D, 0, by rw [hD32], by rw [hA, hks], ?_, ?_, fresh_mono hfr hW3.size, (fun sb so e => Nat.le_trans hW1.size (hrD sb so e)), ?_⟩
      · exact (((hT4.setCell hfr _ _ _ hlt3).setCell hfr _ _ _ hlt3).setCell hfr _ _ _ hlt3).below ((Below.refl _ _).drew)
      · exact (slice_far (slice_far (slice_far hsD4 hrD _ _ _ hlt2) hrD _ _ _ hlt2) hrD _ _ _ hlt2).below ((Below.refl _ _).drew)
      · exact (((hW4.setCell (Nat.le_succ _) _).setCell (Nat.le_succ _) _).setCell (Nat.le_succ _) _).drew
  · rw [if_pos hc] at hA
    have h0' : (cer != 0) = true := by simpa using hc
    clear c0 c1 c2 c3
    go_wp2_with fail
    refine bodyPost_ret (v := .tuple #[.slice none 0 0, .agg #[.int .i64 0, .int .i64 0, .slice none 0 0], .int .i64 cer]) (by simp [results, Tryd.results10, go_sem, d0, d1, d2]) rfl (CastAt.bad hA.symm ?_)
    exact ((hW4.setCell (Nat.le_succ _) _).setCell (Nat.le_succ _) _).setCell (Nat.le_succ _) _
end Go.Proofs.YtlpaghkofljnfaaDoor
