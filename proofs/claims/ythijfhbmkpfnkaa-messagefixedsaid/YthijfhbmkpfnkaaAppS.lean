/- wire.appendSlot, onto a row that the call owns. -/
import Derived.Test.YthijfhbmkpfnkaaAppR
namespace Go.Proofs.Ythijfhbmkpfnkaa
open Go.RowKit

set_option maxRecDepth 100000 in
set_option maxHeartbeats 1000000 in
theorem appendSlot_any (base : Nat) (v : Value) (k : Nat) (bs : List Int) (au rd : Int) (sa : Option Addr) (n cap : Nat) (ds : List Int) (w : World) (ha : 0 ≤ au ∧ au < 4) (hr : 0 ≤ rd ∧ rd ≤ 1048576) (hn : n = ds.length) (hs : SliceAt w sa cap ds) (hne : ∀ sb so, sa = some ⟨sb, so, none⟩ → sb < w.heap.size ∧ v.ownBlock ≠ some sb)
    (ho : w.ownsRow base 5 1 v k (ub bs)) (hB : base ≤ w.heap.size) (hk : k ≤ 90000) (hn2 : n ≤ 4000) :
    Calls Try.prog 21 #[v, .agg #[.int .i64 au, .int .i64 rd, .slice sa n cap]] w fun e w' => ∃ v', e = .returned v' ∧ w'.ownsRow base 5 1 v' (k + 1 + 3 + n) (ub (bs ++ [au] ++ rd3 rd ++ ds)) ∧ Grew w v w' v' := by
  subst hn
  obtain ⟨i, hi, hz0, hz1, hz2⟩ := info_parts infoU8
  obtain ⟨ha0, ha1⟩ := ha
  have hvne : v.ownBlock ≠ some w.heap.size := fun e => by have := (ho.lt _ e).2; omega
  go_enter Try.func21, Try.ntmps21
  go_wp2_with (at_builtin; refine wpList_append_own_at _ rfl _ _ 30 rfl base 5 i (.int .u8 0) 1 1 Try.underlying30 hi hz0 hz1 hz2 rfl (by decide) _ k _ rfl (World.ownsRow.alloc (World.ownsRow.alloc ho _) _) ⟨w.heap.size + 1, 0, none⟩ 1 1 [.int .u8 au] rfl rfl (by have := cells_new (w.alloc (.cells #[.int .i64 au, .int .i64 rd, .slice sa ds.length cap] 32)) [.int .u8 au] 5; rw [size_alloc] at this; exact this) (u8_one [_]) (by unfold maxLen; omega) (by omega) (le_alloc (le_alloc hB _) _) ?_; intro v1 w1 ho1 hg1 _ hat; have G1 := Grew.of hg1 hat; have r1 := G1.row (heap_alloc2_old w _ _) hvne; have c1 : w1.cell? ⟨w.heap.size, 1, none⟩ = some (.int .i64 rd) := cells_at r1 1 _ rfl)
  have ho1' : w1.ownsRow base 5 1 v1 (k + 1) (ub (bs ++ [au])) := by simpa [ub] using ho1
  have hw1 : w.heap.size < w1.heap.size := lt_of_heap r1
  have hv1ne : v1.ownBlock ≠ some w.heap.size := fun e => by
    rcases G1.fresh _ e with g | g
    · exact hvne g
    · rw [size_alloc, size_alloc] at g; omega
  have hs1 : SliceAt w1 sa cap ds := G1.slice (hs.below (((Below.refl _ _).alloc (Nat.le_refl _) _).alloc (by simp) _)) (fun sb so e => (hne sb so e).2)
  have hsne1 : ∀ sb so, sa = some ⟨sb, so, none⟩ → v1.ownBlock ≠ some sb := fun sb so e h => by
    rcases G1.fresh _ h with g | g
    · exact (hne sb so e).2 g
    · have := (hne sb so e).1; rw [size_alloc, size_alloc] at g; omega
  have G0 := G1.alloc.alloc
  clear ho1 hg1 hat G1
  refine (appendRound_any base v1 (k + 1) _ rd _ hr ho1' (Nat.le_trans hB G0.grown.size) (by omega)).mono ?_
  rintro e w2 ⟨v2, rfl, ho2, G2⟩
  have r2 := G2.row r1 hv1ne
  have c2 : w2.cell? ⟨w.heap.size, 2, none⟩ = some (.slice sa ds.length cap) := cells_at r2 2 _ rfl
  have hs2 := G2.slice hs1 hsne1
  have G02 := G0.trans G2
  clear r1 c1
  go_wp2_with (at_builtin; refine wpList_append_part_at rfl _ _ rfl base v2 (k + 1 + 3) _ rfl ho2 sa ds.length cap ds rfl rfl hs2 (by omega) (Nat.le_trans hB G02.grown.size) ?_; intro v3 w3 ho3 G3)
  go_ret
  exact ⟨v3, rfl, ho3, G02.trans G3⟩
end Go.Proofs.Ythijfhbmkpfnkaa
