/- The walk of VoteBytes. -/
import Derived.Test.YtplmploigfhkkaeEncV
import Derived.Test.YtplmploigfhkkaeVoteM
import Derived.Test.YtplmploigfhkkaeSome
import Derived.Test.YtplmploigfhkkaeSame
import Derived.Test.YtplmploigfhkkaeOpenR
import Derived.Deep.RegionHeld2
import Derived.Deep.CutRange
import Derived.Deep.DeepCutAuto
namespace Go.Proofs.Ytplmploigfhkkae
open Go.RowKit

theorem SliceAt.setCell {w : World} {sa : Option Addr} {cap : Nat} {bs : List Int} (h : SliceAt w sa cap bs) (b j : Nat) (v : Value) (hne : ∀ sb so, sa = Option.some ⟨sb, so, Option.none⟩ → b ≠ sb) : SliceAt (w.setCell ⟨b, j, Option.none⟩ v) sa cap bs := by
  refine ⟨h.le, h.max, h.some, h.nil, ?_⟩
  rcases h.bytes with hb | ⟨sb, so, rfl, hc⟩
  · exact .inl hb
  · exact .inr ⟨sb, so, rfl, fun k hk => (World.cell?_setCell_far _ _ _ _ (hne sb so rfl)).trans (hc k hk)⟩
set_option maxRecDepth 100000 in
set_option maxHeartbeats 2000000 in
theorem voteBytes_walk (ki ra rb rc : Int) (sa : Option Addr) (cap : Nat) (ss : List ByteArray) (w : World) (_h1 : I64 ki) (h2 : I64 ra) (h3 : I64 rb) (h4 : I64 rc) (_h5 : TextsAt w sa cap ss) :
    Calls Try.prog 3 #[.agg #[.int .i64 ki, .int .i64 ra, .int .i64 rb, .int .i64 rc, .slice sa ss.length cap]] w fun e w' => e = .returned (.bool true) ∧ Below w.heap.size w w' := by
  obtain ⟨pa0, pa1⟩ := pk_bounds ra 4 (by decide)
  obtain ⟨pb0, pb1⟩ := pk_bounds rb 200 (by decide)
  have q0 := heap_alloc_new w (.cells #[.int .i64 ki, .int .i64 ra, .int .i64 rb, .int .i64 rc, .slice sa ss.length cap] 24)
  have k1 : (w.alloc (.cells #[.int .i64 ki, .int .i64 ra, .int .i64 rb, .int .i64 rc, .slice sa ss.length cap] 24)).cell? ⟨w.heap.size, 1, none⟩ = some (.int .i64 ra) := cells_at q0 1 _ rfl
  have k2 : (w.alloc (.cells #[.int .i64 ki, .int .i64 ra, .int .i64 rb, .int .i64 rc, .slice sa ss.length cap] 24)).cell? ⟨w.heap.size, 2, none⟩ = some (.int .i64 rb) := cells_at q0 2 _ rfl
  have k3 : (w.alloc (.cells #[.int .i64 ki, .int .i64 ra, .int .i64 rb, .int .i64 rc, .slice sa ss.length cap] 24)).cell? ⟨w.heap.size, 3, none⟩ = some (.int .i64 rc) := cells_at q0 3 _ rfl
  have hw : IntKind.i64.wrap (1 + pk rb 200) = 1 + pk rb 200 := by rw [IntKind.wrap_i64]; omega
  go_enter Try.func3, Try.ntmps3
  go_upto_region 1 with (fail)
  go_cut [3] (fun v wx => ∃ b g, v = .pointer (some ⟨b, 0, none⟩) ∧ w.heap.size ≤ b ∧ g < wx.heap.size ∧ Below w.heap.size w wx ∧ SliceAt wx (some ⟨g, 0, none⟩) 32 (someL rc ra) ∧ b ≠ g ∧ wx.heap[b]? = some (.cells #[.int .i64 (pk ra 4), .int .i64 (1 + pk rb 200), .slice (some ⟨g, 0, none⟩) 32 32] 29 (0, 0)))
  case first =>
    go_region_held2 (fun w' => w'.cell? ⟨w.heap.size, 1, none⟩ = some (.int .i64 ra) ∧ w'.cell? ⟨w.heap.size, 2, none⟩ = some (.int .i64 rb) ∧ w'.cell? ⟨w.heap.size, 3, none⟩ = some (.int .i64 rc)) (go_keep) (first | (go_at_call 6; refine (picked_any _ _ _ (by first | exact h2.1 | exact h3.1) (by first | exact h2.2 | exact h3.2) (by omega) (by omega)).mono ?_; rintro e w9 ⟨rfl, rfl⟩) | (go_at_call 7; refine (some_any rc ra _ h4).mono ?_; rintro e w1 ⟨rfl, ho1, hb1⟩; have sl := (sliceAt_of_owns ho1).2; have gl := (ho1.lt _ rfl).2; first | (have r0 := row_new (below_drew hb1); rw [heap_drew, size_alloc] at sl gl; have c1 : w1.cell? ⟨w.heap.size, 1, none⟩ = some (.int .i64 ra) := cells_at r0 1 _ rfl; have c2 : w1.cell? ⟨w.heap.size, 2, none⟩ = some (.int .i64 rb) := cells_at r0 2 _ rfl; have c3 : w1.cell? ⟨w.heap.size, 3, none⟩ = some (.int .i64 rc) := cells_at r0 3 _ rfl) | (have r1 := row_new (below_drew hb1); have r0 := row_new (below_alloc (below_drew hb1)); rw [heap_drew, size_alloc, size_alloc] at sl gl; rw [size_alloc] at r1; have c1 : w1.cell? ⟨w.heap.size, 1, none⟩ = some (.int .i64 ra) := cells_at r0 1 _ rfl; have c2 : w1.cell? ⟨w.heap.size, 2, none⟩ = some (.int .i64 rb) := cells_at r0 2 _ rfl; have c3 : w1.cell? ⟨w.heap.size, 3, none⟩ = some (.int .i64 rc) := cells_at r0 3 _ rfl; have d0 := cells_at r1 0 _ rfl; have d1 := cells_at r1 1 _ rfl; have d2 := cells_at r1 2 _ rfl; have f0 := frozen_at r1 0; have f1 := frozen_at r1 1; have f2 := frozen_at r1 2)))
    all_goals
      go_wp2_with fail
      go_meet
      case rel =>
        first
          | exact ⟨w1.heap.size, w.heap.size + 1, rfl, (below_alloc (below_drew hb1)).size, by rw [size_alloc]; omega, (below_alloc (below_drew hb1)).alloc (below_alloc (below_drew hb1)).size _, sl.below ((Below.refl _ _).alloc (Nat.le_refl _) _), by omega, heap_alloc_new _ _⟩
          | exact ⟨w.heap.size + 1, w.heap.size + 1 + 1, rfl, Nat.le_succ _, by simpa using gl, (((below_alloc (below_alloc (below_drew hb1))).setCell (Nat.le_succ _) _).setCell (Nat.le_succ _) _).setCell (Nat.le_succ _) _, ((sl.setCell _ _ _ (fun sb so e => by cases e; omega)).setCell _ _ _ (fun sb so e => by cases e; omega)).setCell _ _ _ (fun sb so e => by cases e; omega), by omega, by simpa using heap_setCell_same _ _ 2 _ _ _ (heap_setCell_same _ _ 1 _ _ _ (heap_setCell_same _ _ 0 _ _ _ r1))⟩
  case rest =>
    obtain ⟨b, g, rfl, hbw, hgw, hW, hs, hbg, hr⟩ := hcut
    clear k1 k2 k3 q0 hw
    have c0 : wc.cell? ⟨b, 0, none⟩ = some (.int .i64 (pk ra 4)) := cells_at hr 0 _ rfl
    have c1 : wc.cell? ⟨b, 1, none⟩ = some (.int .i64 (1 + pk rb 200)) := cells_at hr 1 _ rfl
    have c2 : wc.cell? ⟨b, 2, none⟩ = some (.slice (some ⟨g, 0, none⟩) 32 32) := cells_at hr 2 _ rfl
    have hF : slotF (pk ra 4) (1 + pk rb 200) 32 = 0 := by
      have e1 : 0 ≤ pk ra 4 ∧ pk ra 4 < 4 := ⟨pa0, pa1⟩
      have e2 : 1 ≤ 1 + pk rb 200 ∧ 1 + pk rb 200 ≤ 1048576 := ⟨by omega, by omega⟩
      simp [slotF, e1, e2]
    go_wp2_with fail
    refine (encode_vote (voteM 1 2 (pk ra 4) (1 + pk rb 200) (some ⟨g, 0, none⟩) 32 32) (someL rc ra) _ rfl (by simp [voteM]) (by simp [voteM]) ⟨pa0, pa1⟩ ⟨by show 0 ≤ 1 + pk rb 200; omega, by show 1 + pk rb 200 ≤ 1048576; omega⟩ (someL_length rc ra).symm (by simp [voteM]) hs (fun sb so e => by cases e; exact hgw) ?_).mono ?_
    · intro w1 _
      have := check_vote 1 2 (pk ra 4) (1 + pk rb 200) (some ⟨g, 0, none⟩) 32 32 w1 (by omega) (by omega)
      rw [hF] at this
      exact this
    rintro e w2 ⟨v, rfl, ho, hb⟩
    have hr2 := (hb.block b (lt_of_heap hr)).trans hr
    have hs2 := hs.below hb
    have hW2 := hW.trans (hb.mono hW.size)
    have hg2 : g < w2.heap.size := Nat.lt_of_lt_of_le hgw hb.size
    obtain ⟨xa, xc, hv, hl, hx⟩ := owns_form ho
    subst hv
    have hrd : rd3 (1 + pk rb 200) = [0, 0, 1 + pk rb 200] := by
      have e1 : (1 + pk rb 200) / 65536 = 0 := by omega
      have e2 : (1 + pk rb 200) / 256 % 256 = 0 := by omega
      have e3 : (1 + pk rb 200) % 256 = 1 + pk rb 200 := by omega
      rw [rd3, e1, e2, e3]
    have hx' : SliceAt w2 xa xc ([3, 1, 2, pk ra 4, 0, 0, 1 + pk rb 200] ++ someL rc ra) := by
      have h9 := hx
      rw [show (voteM 1 2 (pk ra 4) (1 + pk rb 200) (some ⟨g, 0, none⟩) 32 32).srd = 1 + pk rb 200 from rfl, hrd] at h9
      exact h9
    have hL := someL_length rc ra
    clear c0 c1 c2 hl hx ho hr hs hb hrd
    have c0 : w2.cell? ⟨b, 0, none⟩ = some (.int .i64 (pk ra 4)) := cells_at hr2 0 _ rfl
    have c1 : w2.cell? ⟨b, 1, none⟩ = some (.int .i64 (1 + pk rb 200)) := cells_at hr2 1 _ rfl
    have c2 : w2.cell? ⟨b, 2, none⟩ = some (.slice (some ⟨g, 0, none⟩) 32 32) := cells_at hr2 2 _ rfl
    have hb2 : b < w2.heap.size := lt_of_heap hr2
    have hlit := World.ownsRow_lit (base := w2.heap.size) (e := 5) (size := 1) w2 (ub [3, 1, 2, pk ra 4, 0, 0, 1 + pk rb 200]).toArray 7 (Nat.le_refl _) (by decide) rfl
    generalize someL rc ra = L at *
    generalize pk ra 4 = au at *
    generalize pk rb 200 = rd at *
    go_wp2_with (at_builtin; (refine wpList_append_part_w rfl _ _ rfl w2.heap.size _ 7 [3, 1, 2, au, 0, 0, 1 + rd] rfl hlit ⟨g, 0, none⟩ 32 32 L rfl hL.symm (hs2.below ((Below.refl _ _).alloc (Nat.le_refl _) _)) (by omega) (le_alloc (Nat.le_refl _) _) ?_; intro v3 w3 ho3 G3))
    have hb3 : Below w2.heap.size w2 w3 := Below.grown ((Below.refl _ _).alloc (Nat.le_refl _) _) G3 (le_alloc (Nat.le_refl _) _) (fun q e => by cases e; exact Nat.le_refl _)
    obtain ⟨ya, yc, hv, hl, hy⟩ := owns_form ho3
    subst hv
    refine (same_eq ([3, 1, 2, au, 0, 0, 1 + rd] ++ L) xa ya _ _ xc yc w3 (by show 7 + 32 = _; simp [hL]) hl (hx'.below hb3) hy).mono ?_
    rintro e w4 ⟨he, rfl⟩
    subst he
    dsimp only
    go_wp2_with fail
    go_ret
    exact ⟨rfl, hW2.trans (hb3.mono hW2.size)⟩
end Go.Proofs.Ytplmploigfhkkae
