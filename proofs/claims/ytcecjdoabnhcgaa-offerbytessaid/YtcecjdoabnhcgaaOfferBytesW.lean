/- The walk of OfferBytes. -/
import Derived.Test.YtcecjdoabnhcgaaHeaderApartW
import Derived.Test.YtcecjdoabnhcgaaRd
namespace Go.Proofs.Ytcecjdoabnhcgaa
open Go.RowKit

set_option maxRecDepth 100000 in
theorem headB_length (au rd : Int) (bl pl : List Part) (hb : ∀ p ∈ bl, p.bs.length = 32) (hp : ∀ p ∈ pl, p.bs.length = 32) : (headB au rd bl pl).length = 6 + 32 * (bl.length + pl.length) := by
  have h1 := flatB_length bl hb
  have h2 := flatB_length pl hp
  simp [headB, rd3, digsB]; omega
set_option maxRecDepth 100000 in
set_option maxHeartbeats 2000000 in
theorem offerBytes_walk (ki ra rb rc : Int) (sa : Option Addr) (cap : Nat) (ss : List ByteArray) (w : World) (_h1 : I64 ki) (h2 : I64 ra) (h3 : I64 rb) (h4 : I64 rc) (_h5 : TextsAt w sa cap ss) :
    Calls Try.prog 14 #[.agg #[.int .i64 ki, .int .i64 ra, .int .i64 rb, .int .i64 rc, .slice sa ss.length cap]] w fun e w' => e = .returned (.bool true) ∧ Below w.heap.size w w' := by
  obtain ⟨pa0, pa1⟩ := pk_bounds ra 4 (by decide)
  obtain ⟨pb0, pb1⟩ := pk_bounds rb 9 (by decide)
  have hB : ∀ wx, _ := fun wx => header_raw ki ra rb rc sa ss.length cap wx h2 h3 h4
  have hF : ∀ (bl pl : List Part), bl.map (·.bs) = hBats rc → pl.map (·.bs) = hPars ra rb rc → _ := fun bl pl => headerF_raw ra rb rc bl pl
  generalize pk ra 4 = au at *
  generalize pk rb 9 = nu at *
  have HB : Hid _ := hB
  have HF0 : Hid _ := hF
  clear hB hF
  go_enter Try.func14, Try.ntmps14
  go_wp2_with fail
  refine (HB.out _).mono ?_
  rintro e w1 ⟨ba, bc, bl, pa, pc, pl, rfl, hLb, hLp, hOb, hOp, hbs, hps, hb1⟩
  have HF : Hid _ := HF0.out bl pl hbs hps
  clear hbs hps HB HF0
  have hW1 := below_alloc hb1
  clear hb1
  have hA1 : Below w1.heap.size w1 (w1.alloc (.cells #[.int .i64 au, .int .i64 (1 + nu), .slice ba bl.length bc, .slice pa pl.length pc] 27)) := (Below.refl _ _).alloc (Nat.le_refl _) _
  go_wp2_with fail
  refine (encode_o 0 0 au (1 + nu) ba _ bc bl pa _ pc pl _ (by omega) (by omega) rfl rfl (hLb.below hA1) (hLp.below hA1) (hOb.below hA1) (hOp.below hA1) HF.out).mono ?_
  rintro e w2 ⟨v2, rfl, ho2, hb2⟩
  have r2 := row_new hb2
  have hW2 := hW1.trans ((below_alloc hb2).mono hW1.size)
  have k0 : w2.cell? ⟨w1.heap.size, 0, none⟩ = some (.int .i64 au) := cells_at r2 0 _ rfl
  have k1 : w2.cell? ⟨w1.heap.size, 1, none⟩ = some (.int .i64 (1 + nu)) := cells_at r2 1 _ rfl
  have k2 : w2.cell? ⟨w1.heap.size, 2, none⟩ = some (.slice ba bl.length bc) := cells_at r2 2 _ rfl
  have k3 : w2.cell? ⟨w1.heap.size, 3, none⟩ = some (.slice pa pl.length pc) := cells_at r2 3 _ rfl
  obtain ⟨z1, z2, z3, z4, z5, z6⟩ := headerF_ok HF.out
  have hlen := headB_length au (1 + nu) bl pl z5 z6
  obtain ⟨xa, xc, hv, hxl, hx⟩ := owns_form ho2
  subst hv
  obtain ⟨g, go, rfl, hc⟩ : ∃ sb so, xa = some ⟨sb, so, none⟩ ∧ ∀ j, j < ([2, 0, 0] ++ headB au (1 + nu) bl pl).length → w2.cell? ⟨sb, so + j, none⟩ = some (.int .u8 (([2, 0, 0] ++ headB au (1 + nu) bl pl).getD j 0)) := by
    rcases hx.bytes with h | h
    · simp at h
    · exact h
  have hcap := hx.le
  have hmax := hx.max
  unfold maxLen at hmax
  have x3 : w2.cell? ⟨g, go + 3, none⟩ = some (.int .u8 au) := by rw [hc 3 (by simp; omega)]; simp [headB]
  have x6 : w2.cell? ⟨g, go + 6, none⟩ = some (.int .u8 (1 + nu)) := by rw [hc 6 (by simp; omega)]; simp [headB, rd3_small (1 + nu) (by omega)]
  have x7 : w2.cell? ⟨g, go + 7, none⟩ = some (.int .u8 (bl.length : Int)) := by rw [hc 7 (by simp; omega)]; simp [headB, rd3, digsB]
  have HX : Hid (3 + (headB au (1 + nu) bl pl).length = 9 + 32 * (bl.length + pl.length)) := by show _ = _; omega
  have hX3 : (3 : Int) < ((3 + (headB au (1 + nu) bl pl).length : Nat) : Int) := by omega
  have hX6 : (6 : Int) < ((3 + (headB au (1 + nu) bl pl).length : Nat) : Int) := by omega
  have hX7 : (7 : Int) < ((3 + (headB au (1 + nu) bl pl).length : Nat) : Int) := by omega
  have hXe : (((3 + (headB au (1 + nu) bl pl).length : Nat) : Int) == 9 + 32 * ((bl.length : Int) + (pl.length : Int))) = true := by rw [beq_iff_eq]; omega
  have hXc : 3 + (headB au (1 + nu) bl pl).length ≤ xc := by rw [hxl]; exact hcap
  generalize 3 + (headB au (1 + nu) bl pl).length = X at *
  clear hc hx hxl hlen hcap ho2 hb2 hA1 hLb hLp hOb hOp z5 z6
  have w1' : IntKind.i64.wrap ((bl.length : Int) + (pl.length : Int)) = (bl.length : Int) + (pl.length : Int) := by rw [IntKind.wrap_i64]; omega
  have w2' : IntKind.i64.wrap (32 * ((bl.length : Int) + (pl.length : Int))) = 32 * ((bl.length : Int) + (pl.length : Int)) := by rw [IntKind.wrap_i64]; omega
  have w3' : IntKind.i64.wrap (9 + 32 * ((bl.length : Int) + (pl.length : Int))) = 9 + 32 * ((bl.length : Int) + (pl.length : Int)) := by rw [IntKind.wrap_i64]; omega
  have w4' : IntKind.u8.wrap (bl.length : Int) = (bl.length : Int) := by rw [IntKind.wrap_u8']; omega
  have w5' : IntKind.u8.wrap au = au := by rw [IntKind.wrap_u8']; omega
  have w6' : IntKind.u8.wrap (1 + nu) = 1 + nu := by rw [IntKind.wrap_u8']; omega
  go_wp2_with fail
  go_region_held3 (fun w' => w'.cell? ⟨w1.heap.size, 0, none⟩ = some (.int .i64 au) ∧ w'.cell? ⟨w1.heap.size, 1, none⟩ = some (.int .i64 (1 + nu)) ∧ w'.cell? ⟨w1.heap.size, 2, none⟩ = some (.slice ba bl.length bc) ∧ w'.cell? ⟨w1.heap.size, 3, none⟩ = some (.slice pa pl.length pc) ∧ w'.cell? ⟨g, go + 3, none⟩ = some (.int .u8 au) ∧ w'.cell? ⟨g, go + 6, none⟩ = some (.int .u8 (1 + nu)) ∧ w'.cell? ⟨g, go + 7, none⟩ = some (.int .u8 (bl.length : Int))) (go_keep) (fail)
  all_goals
    go_wp2_with fail
    go_ret
    exact ⟨by first | rfl | simp, hW2.drew⟩
end Go.Proofs.Ytcecjdoabnhcgaa
