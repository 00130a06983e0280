/- The walk of SealAdds. -/
import Derived.Test.YtdjaafnghlcjbaaCAdd
import Derived.Test.YtdjaafnghlcjbaaRAdd
import Derived.Test.YtdjaafnghlcjbaaSameG
import Derived.Test.YtdjaafnghlcjbaaOpenG
namespace Go.Proofs.Ytdjaafnghlcjbaa
open Go.RowKit

set_option maxRecDepth 100000 in
set_option maxHeartbeats 2000000 in
theorem sealAdds_walk (sa : Option Addr) (cap : Nat) (ls : List Sg) (nd au rd : Int) (ta : Option Addr) (tc : Nat) (bs : List Int) (w : World) (ht : GRead w sa cap ls) (_h : ∀ s ∈ ls, I64 s.nd ∧ I64 s.au ∧ I64 s.rd) (_h0 : I64 nd) (_h1 : I64 au) (_h2 : I64 rd) (hs : SliceAt w ta tc bs) (hu : AllU8 bs) (_hc : tc ≤ 140737488351232) :
    Calls Try.prog 4 #[.slice sa ls.length cap, .agg #[.int .i64 nd, .int .i64 au, .int .i64 rd, .slice ta bs.length tc]] w fun e w' => e = .returned (.bool true) ∧ Below w.heap.size w w' := by
  have hA := (Below.refl w.heap.size w).alloc (Nat.le_refl _) (.cells #[.int .i64 nd, .int .i64 au, .int .i64 rd, .slice ta bs.length tc] 31)
  have r0 := heap_alloc_new w (.cells #[.int .i64 nd, .int .i64 au, .int .i64 rd, .slice ta bs.length tc] 31)
  go_enter Try.func4, Try.ntmps4
  go_wp2_with fail
  generalize w.alloc (.cells #[.int .i64 nd, .int .i64 au, .int .i64 rd, .slice ta bs.length tc] 31) = W0 at hA r0 ⊢
  refine (signsCopy_any ls sa _ cap W0 rfl (ht.below hA)).mono ?_
  rintro e w1 ⟨ra, rc, ks, he, hS, hT1, hb1, _⟩
  subst he
  dsimp only
  have hB1 := hA.trans (hb1.mono hA.size)
  have hlen : ls.length = ks.length := by have := congrArg List.length hS; rw [gvs_length, gvs_length] at this; exact this.symm
  have hreach := ht.reach
  have HC := add_any ks ra _ rc ⟨nd, au, rd, ⟨ta, tc, bs⟩⟩ w1 hlen (by omega) hT1 ⟨hs.below hB1, hu⟩
  rw [hS] at HC
  have HS : Hid (gvs ks = gvs ls) := hS
  clear hlen hS
  have r1 := (hb1.block _ (lt_of_heap r0)).trans r0
  have c0 := cells_at r1 0 _ rfl
  have c1 := cells_at r1 1 _ rfl
  have c2 := cells_at r1 2 _ rfl
  have c3 := cells_at r1 3 _ rfl
  go_wp2_with fail
  refine HC.mono ?_
  rintro e w2 ⟨⟨ua, uc, us, er, he, hF, hTu⟩, hb2⟩
  subst he
  dsimp only
  clear c0 c1 c2 c3 HC
  have hB2 := hB1.trans (hb2.mono hB1.size)
  have r2 := (hb2.block _ (lt_of_heap r1)).trans r1
  have c0 := cells_at r2 0 _ rfl
  have c1 := cells_at r2 1 _ rfl
  have c2 := cells_at r2 2 _ rfl
  have c3 := cells_at r2 3 _ rfl
  have HF : Hid _ := hF
  clear hF
  go_wp2_with fail
  refine (signAdded_any ls sa _ cap ⟨nd, au, rd, ⟨ta, tc, bs⟩⟩ w2 rfl (ht.below hB2) ⟨hs.below hB2, hu⟩).mono ?_
  rintro e w3 ⟨⟨va, vc, vs, er', he, hF', hTv⟩, hb3⟩
  subst he
  dsimp only
  clear c0 c1 c2 c3
  have hB3 := hB2.trans (hb3.mono hB2.size)
  rw [HF.out] at hF'
  simp only [Prod.mk.injEq] at hF'
  obtain ⟨hv, rfl⟩ := hF'
  have hlv : vs.length = us.length := by have := congrArg List.length hv; rw [gvs_length, gvs_length] at this; exact this.symm
  have HE1 := sameSignsL_eq us vs ua va _ _ uc vc w3 rfl hlv hTu.small hv.symm (hTu.slots.below hb3) hTv.slots
  have hlk : ks.length = ls.length := by have := congrArg List.length HS.out; rw [gvs_length, gvs_length] at this; exact this
  have HE2 := fun W (hW : Below w3.heap.size w3 W) => sameSignsL_eq ls ks sa ra _ _ cap rc W rfl hlk ht.tab.small HS.out ((ht.tab.slots.below hB3).below hW) (((hT1.slots.below hb2).below hb3).below hW)
  have HE3 := fun W (hW : Below w3.heap.size w3 W) => sameSignsL_eq ks ls ra sa ls.length ls.length rc cap W hlk.symm hlk.symm hT1.small HS.out.symm (((hT1.slots.below hb2).below hb3).below hW) ((ht.tab.slots.below hB3).below hW)
  clear HE2 hv hlv hlk HF
  go_wp2_with fail
  refine HE1.mono ?_
  rintro e w4 ⟨he, hb4⟩
  subst he
  dsimp only
  go_wp2_with fail
  refine (HE3 w4 hb4).mono ?_
  rintro e w5 ⟨he, hb5⟩
  subst he
  dsimp only
  go_wp2_with fail
  go_ret
  exact ⟨by first | rfl | simp, (hB3.trans (hb4.mono hB3.size)).trans (hb5.mono (Nat.le_trans hB3.size hb4.size))⟩
end Go.Proofs.Ytdjaafnghlcjbaa
