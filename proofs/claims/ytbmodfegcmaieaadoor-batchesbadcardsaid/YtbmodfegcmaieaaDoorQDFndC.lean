/- dag.Find, for every dag. -/
import Derived.Test.YtbmodfegcmaieaaDoorGLateF
import Derived.Test.YtbmodfegcmaieaaDoorQStk5F
namespace Go.Proofs.YtbmodfegcmaieaaDoor
open Go.RowKit

/-- What Find answers, as memory of its own. -/
structure FndO (w w' : World) (e : Ending) (l : List CV) (k : List Int) : Prop where
  below : Below w.heap.size w w'
  out : (∃ ec : Int, e = .returned (.tuple #[.agg #[.int .i64 0, .int .i64 0, .slice none 0 0, .slice none 0 0, .slice none 0 0], .int .i64 ec]) ∧ ((dagF l = 12 ∧ ec = 12) ∨ (dagF l = 0 ∧ pOf l k = -1 ∧ ec = 8))) ∨ (dagF l = 0 ∧ 0 ≤ pOf l k ∧ ∃ c : Ct, e = .returned (.tuple #[.agg #[.int .i64 c.au, .int .i64 c.rd, .slice c.ba c.bl.length c.bc, .slice c.pa c.pl.length c.pc, .slice c.va c.vl.length c.vc], .int .i64 0]) ∧ c.v = cvAt l (pOf l k).toNat ∧ CtAt w' c ∧ (∀ b, CtIn c b → w.heap.size < b))
set_option maxRecDepth 100000 in
set_option maxHeartbeats 1000000 in
theorem dagFind_own (ls : List Ct) (sa : Option Addr) (n cap : Nat) (bs : List Int) (ka : Option Addr) (kn kc : Nat) (w : World) (hn : n = ls.length) (hkn : kn = bs.length) (hd : DagAt w sa cap ls) (hk : SliceAt w ka kc bs) (hT : Tabs w) :
    Calls Tryd.prog 38 #[.agg #[.slice sa n cap], .slice ka kn kc] w fun e w' => FndO w w' e (cvs ls) bs := by
  subst hn hkn
  have hA : Below w.heap.size w ((w.alloc (.cells #[.slice sa ls.length cap] 51)).alloc (.cells #[.int .i64 0, .int .i64 0, .slice none 0 0, .slice none 0 0, .slice none 0 0] 63)) := ((Below.refl _ _).alloc (Nat.le_refl _) _).alloc (by rw [size_alloc]; omega) _
  have q1 : ((w.alloc (.cells #[.slice sa ls.length cap] 51)).alloc (.cells #[.int .i64 0, .int .i64 0, .slice none 0 0, .slice none 0 0, .slice none 0 0] 63)).heap[w.heap.size + 1]? = some (.cells #[.int .i64 0, .int .i64 0, .slice none 0 0, .slice none 0 0, .slice none 0 0] 63 (0, 0)) := by
    have := heap_alloc_new (w.alloc (.cells #[.slice sa ls.length cap] 51)) (.cells #[.int .i64 0, .int .i64 0, .slice none 0 0, .slice none 0 0, .slice none 0 0] 63)
    rw [size_alloc] at this; exact this
  go_enter Tryd.func38, Tryd.ntmps38
  go_wp2_with fail
  generalize (w.alloc (.cells #[.slice sa ls.length cap] 51)).alloc (.cells #[.int .i64 0, .int .i64 0, .slice none 0 0, .slice none 0 0, .slice none 0 0] 63) = W0 at hA q1 ⊢
  refine (open_any ls sa _ cap W0 rfl (hd.below hA) (hT.below hA)).mono ?_
  intro e w1 hO
  have hb1 := hO.below
  have hOo := hO.out
  clear hO
  have hB1 := hA.trans (hb1.mono hA.size)
  have r2 := (hb1.block _ (lt_of_heap q1)).trans q1
  rcases hOo with ⟨hF, he⟩ | ⟨hF, s, ks, he, hcv, hown⟩
  · have HF : Hid _ := hF
    clear hF
    subst he
    dsimp only
    have d0 := cells_at r2 0 _ rfl
    have d1 := cells_at r2 1 _ rfl
    have d2 := cells_at r2 2 _ rfl
    have d3 := cells_at r2 3 _ rfl
    have d4 := cells_at r2 4 _ rfl
    have f0 := frozen_at r2 0
    have f1 := frozen_at r2 1
    have f2 := frozen_at r2 2
    have f3 := frozen_at r2 3
    have f4 := frozen_at r2 4
    go_wp2_with fail
    refine bodyPost_ret (v := .tuple #[.agg #[.int .i64 0, .int .i64 0, .slice none 0 0, .slice none 0 0, .slice none 0 0], .int .i64 12]) (by simp [results, Tryd.results38, go_sem, d0, d1, d2, d3, d4]) rfl ⟨?_, .inl ⟨12, rfl, .inl ⟨HF.out, rfl⟩⟩⟩
    exact ((((hB1.setCell (Nat.le_succ _) _).setCell (Nat.le_succ _) _).setCell (Nat.le_succ _) _).setCell (Nat.le_succ _) _).setCell (Nat.le_succ _) _
  · have HF : Hid _ := hF
    have HCV : Hid _ := hcv
    clear hF hcv
    subst he
    dsimp only
    obtain ⟨vc, vd, ds, hkk, hsame, hsm⟩ := hown.out
    obtain ⟨ca, cc, da, dc, e1, e2, hat⟩ := hkk.at hsame hsm
    subst e1 e2
    have HFD := find_stk ks s ca cc da dc ds bs ka _ kc w1 hat (all_f (by rw [HCV.out]; exact HF.out)) rfl (hk.below hB1)
    clear hsame hown hkk
    go_wp2_with fail
    refine HFD.mono ?_
    intro e w2 h2
    have hb2 := h2.below
    have h2o := h2.out
    rw [HCV.out] at h2o
    clear h2 HFD
    have hB2 := hB1.trans (hb2.mono hB1.size)
    have r2 := (hb2.block _ (lt_of_heap r2)).trans r2
    rcases h2o with ⟨hp, he⟩ | ⟨hp, x, he, hxv, hxa, hxin⟩
    · have HP : Hid _ := hp
      clear hp
      subst he
      dsimp only
      have d0 := cells_at r2 0 _ rfl
      have d1 := cells_at r2 1 _ rfl
      have d2 := cells_at r2 2 _ rfl
      have d3 := cells_at r2 3 _ rfl
      have d4 := cells_at r2 4 _ rfl
      have f0 := frozen_at r2 0
      have f1 := frozen_at r2 1
      have f2 := frozen_at r2 2
      have f3 := frozen_at r2 3
      have f4 := frozen_at r2 4
      go_wp2_with fail
      refine bodyPost_ret (v := .tuple #[.agg #[.int .i64 0, .int .i64 0, .slice none 0 0, .slice none 0 0, .slice none 0 0], .int .i64 8]) (by simp [results, Tryd.results38, go_sem, d0, d1, d2, d3, d4]) rfl ⟨?_, .inl ⟨8, rfl, .inr ⟨HF.out, HP.out, rfl⟩⟩⟩
      exact ((((hB2.setCell (Nat.le_succ _) _).setCell (Nat.le_succ _) _).setCell (Nat.le_succ _) _).setCell (Nat.le_succ _) _).setCell (Nat.le_succ _) _
    · have HP : Hid _ := hp
      have HXV : Hid _ := hxv
      have HIN : Hid (∀ b, CtIn x b → w1.heap.size < b) := hxin
      have hlt : w.heap.size + 1 < w1.heap.size := Nat.lt_of_lt_of_le (lt_of_heap q1) hb1.size
      clear hp hxv hxin
      subst he
      dsimp only
      have d0 := cells_at r2 0 _ rfl
      have d1 := cells_at r2 1 _ rfl
      have d2 := cells_at r2 2 _ rfl
      have d3 := cells_at r2 3 _ rfl
      have d4 := cells_at r2 4 _ rfl
      have f0 := frozen_at r2 0
      have f1 := frozen_at r2 1
      have f2 := frozen_at r2 2
      have f3 := frozen_at r2 3
      have f4 := frozen_at r2 4
      go_wp2_with fail
      refine bodyPost_ret (v := .tuple #[.agg #[.int .i64 x.au, .int .i64 x.rd, .slice x.ba x.bl.length x.bc, .slice x.pa x.pl.length x.pc, .slice x.va x.vl.length x.vc], .int .i64 0]) (by simp [results, Tryd.results38, go_sem, d0, d1, d2, d3, d4]) rfl ⟨?_, .inr ⟨HF.out, HP.out, x, rfl, HXV.out, ?_, ?_⟩⟩
      · exact ((((hB2.setCell (Nat.le_succ _) _).setCell (Nat.le_succ _) _).setCell (Nat.le_succ _) _).setCell (Nat.le_succ _) _).setCell (Nat.le_succ _) _
      · refine CtAt.keep hxa (by simp) (fun b hb => ?_)
        have hge := HIN.out b hb
        have hne : b ≠ w.heap.size + 1 := by omega
        rw [heap_setCell_other _ _ b _ hne, heap_setCell_other _ _ b _ hne, heap_setCell_other _ _ b _ hne, heap_setCell_other _ _ b _ hne, heap_setCell_other _ _ b _ hne]
      · intro b hb
        have := HIN.out b hb
        omega
end Go.Proofs.YtbmodfegcmaieaaDoor
