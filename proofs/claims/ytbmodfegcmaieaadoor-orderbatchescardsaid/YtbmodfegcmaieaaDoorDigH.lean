/- wire.HeaderDigest. -/
import Derived.Test.YtbmodfegcmaieaaDoorAppH
import Derived.Test.YtbmodfegcmaieaaDoorCHead
import Derived.Test.YtbmodfegcmaieaaDoorTagged
namespace Go.Proofs.YtbmodfegcmaieaaDoor
open Go.RowKit

/-- The digest of a tag and of one part. -/
def tagD (tag : Int) (bs : List Int) : List Int := sumL (tagTo tag [⟨none, 0, bs⟩] 1)
set_option maxRecDepth 100000 in
theorem tagD_length (tag : Int) (bs : List Int) : (tagD tag bs).length = 32 := sumL_length _
set_option maxRecDepth 100000 in
theorem tagTo_part (tag : Int) (sa : Option Addr) (c : Nat) (bs : List Int) : tagTo tag [⟨sa, c, bs⟩] 1 = tagTo tag [⟨none, 0, bs⟩] 1 := by simp [tagTo]
set_option maxRecDepth 100000 in
theorem one_part (w : World) (sa : Option Addr) (n cap : Nat) (bs : List Int) (hn : n = bs.length) (hs : SliceAt w sa cap bs) : PartsAt (w.alloc (.cells #[.slice sa n cap] 46)) (some ⟨w.heap.size, 0, none⟩) [⟨sa, cap, bs⟩] := by
  refine ⟨.inr ⟨w.heap.size, 0, rfl, fun j hj => ?_⟩, fun p hp => ?_⟩
  · obtain rfl : j = 0 := by simpa using hj
    subst hn
    exact laid_cell w _ _ 0 _ rfl
  · obtain rfl : p = ⟨sa, cap, bs⟩ := by simpa using hp
    exact hs.below ((Below.refl _ _).alloc (Nat.le_refl _) _)
set_option maxRecDepth 100000 in
set_option maxHeartbeats 1000000 in
theorem headerDigest_bad (au rd : Int) (ba : Option Addr) (bn bc : Nat) (bl : List Part) (pa : Option Addr) (pn pc : Nat) (pl : List Part) (ec : Int) (w : World) (hbn : bn = bl.length) (hpn : pn = pl.length) (hb : ListAt w ba bc bl) (hp : ListAt w pa pc pl) (he : headerF au rd bl pl = ec) (h0 : ec ≠ 0) :
    Calls Tryd.prog 45 #[.agg #[.int .i64 au, .int .i64 rd, .slice ba bn bc, .slice pa pn pc]] w fun e w' => e = .returned (.tuple #[.slice none 0 0, .int .i64 ec]) ∧ Below w.heap.size w w' := by
  have hA : Below w.heap.size w (w.alloc (.cells #[.int .i64 au, .int .i64 rd, .slice ba bn bc, .slice pa pn pc] 60)) := (Below.refl _ _).alloc (Nat.le_refl _) _
  have hC := checkHeader_any au rd ba bc bl pa pc pl _ (hb.below hA) (hp.below hA)
  rw [he, ← hbn, ← hpn] at hC
  clear hbn hpn he
  go_enter Tryd.func45, Tryd.ntmps45
  go_wp2_with fail
  refine hC.mono ?_
  rintro e w1 ⟨rfl, hb1⟩
  go_wp2_with fail
  go_ret2
  exact ⟨rfl, below_alloc hb1⟩
set_option maxRecDepth 100000 in
set_option maxHeartbeats 1000000 in
theorem headerDigest_ok (au rd : Int) (ba : Option Addr) (bn bc : Nat) (bl : List Part) (pa : Option Addr) (pn pc : Nat) (pl : List Part) (w : World) (hbn : bn = bl.length) (hpn : pn = pl.length) (hb : ListAt w ba bc bl) (hp : ListAt w pa pc pl) (hOb : Off w (.slice none 0 0) ba bl) (hOp : Off w (.slice none 0 0) pa pl) (hF : headerF au rd bl pl = 0) (ha : 0 ≤ au ∧ au < 4) (hr : 0 ≤ rd ∧ rd ≤ 1048576) (hbl : bl.length ≤ 4) (hpl : pl.length ≤ 4) (hb32 : ∀ p ∈ bl, p.bs.length = 32) (hp32 : ∀ p ∈ pl, p.bs.length = 32) (hT : Tabs w) :
    Calls Tryd.prog 45 #[.agg #[.int .i64 au, .int .i64 rd, .slice ba bn bc, .slice pa pn pc]] w fun e w' => ∃ b, e = .returned (.tuple #[.slice (some ⟨b, 0, none⟩) 32 32, .int .i64 0]) ∧ w.heap.size ≤ b ∧ Below w.heap.size w w' ∧ SliceAt w' (some ⟨b, 0, none⟩) 32 (tagD 2 (headB au rd bl pl)) := by
  have hA : Below w.heap.size w (w.alloc (.cells #[.int .i64 au, .int .i64 rd, .slice ba bn bc, .slice pa pn pc] 60)) := (Below.refl _ _).alloc (Nat.le_refl _) _
  have hC := checkHeader_any au rd ba bc bl pa pc pl _ (hb.below hA) (hp.below hA)
  rw [hF, ← hbn, ← hpn] at hC
  have hle1 := flatB_length bl hb32
  have hle2 := flatB_length pl hp32
  have Hn : Hid (bn = bl.length) := hbn
  have Hp : Hid (pn = pl.length) := hpn
  clear hbn hpn hF
  go_enter Tryd.func45, Tryd.ntmps45
  go_wp2_with fail
  refine hC.mono ?_
  rintro e w1 ⟨rfl, hb1⟩
  have r1 := row_new hb1
  replace hb1 := below_alloc hb1
  have c0 : w1.cell? ⟨w.heap.size, 0, none⟩ = some (.int .i64 au) := cells_at r1 0 _ rfl
  have c1 : w1.cell? ⟨w.heap.size, 1, none⟩ = some (.int .i64 rd) := cells_at r1 1 _ rfl
  have c2 : w1.cell? ⟨w.heap.size, 2, none⟩ = some (.slice ba bn bc) := cells_at r1 2 _ rfl
  have c3 : w1.cell? ⟨w.heap.size, 3, none⟩ = some (.slice pa pn pc) := cells_at r1 3 _ rfl
  have hsz := hb1.size
  clear hC
  have hO1 : Off w1 (.slice none 0 0) ba bl := ⟨fun sb so e => ⟨Nat.lt_of_lt_of_le (hOb.row sb so e).1 hsz, fun h => by cases h⟩, fun p hp sb so e => ⟨Nat.lt_of_lt_of_le (hOb.each p hp sb so e).1 hsz, fun h => by cases h⟩⟩
  have hO2 : Off w1 (.slice none 0 0) pa pl := ⟨fun sb so e => ⟨Nat.lt_of_lt_of_le (hOp.row sb so e).1 hsz, fun h => by cases h⟩, fun p hp sb so e => ⟨Nat.lt_of_lt_of_le (hOp.each p hp sb so e).1 hsz, fun h => by cases h⟩⟩
  go_wp2_with fail
  refine (appendHeader_any w1.heap.size (.slice none 0 0) 0 [] au rd ba bn bc bl pa pn pc pl w1 ha hr Hn.out Hp.out hbl hpl hb32 hp32 (hb.below hb1) hO1 (hp.below hb1) hO2 (World.ownsRow_nil _ _ _ _) (Nat.le_refl _) (by decide)).mono ?_
  rintro e w2 ⟨v2, rfl, ho2, G2⟩
  have hb2 : Below w1.heap.size w1 w2 := G2.below (Nat.le_refl _) (fun q e => by cases e)
  rw [Nat.zero_add, List.nil_append] at ho2
  obtain ⟨xa, xc, hv, hxl, hx⟩ := owns_form ho2
  subst hv
  have hW2 := hb1.trans (hb2.mono hsz)
  have HX : Hid _ := hxl
  have hbl' : (headB au rd bl pl).length ≤ 300 := by simp [headB, rd3, digsB]; omega
  have hA2 : Below w2.heap.size w2 (w2.alloc (.cells #[.slice xa (headB au rd bl pl).length xc] 46)) := (Below.refl _ _).alloc (Nat.le_refl _) _
  clear hxl ho2 G2
  generalize hBB : headB au rd bl pl = B at *
  have HB : Hid _ := hBB
  clear hBB
  go_wp2_with fail
  refine (tagged_ok 2 [⟨xa, xc, B⟩] _ _ _ _ rfl (one_part w2 xa _ xc B rfl hx) (by simp [psz]; omega) ((hT.below hW2).below hA2)).mono ?_
  rintro e w3 ⟨b, rfl, hle3, hb3, hr3⟩
  go_wp2_with fail
  go_ret2
  refine ⟨b, rfl, ?_, ?_, ?_⟩
  · rw [size_alloc] at hle3; have := hW2.size; omega
  · exact hW2.trans ((below_alloc hb3).mono hW2.size)
  · rw [tagD, HB.out, ← tagTo_part 2 xa xc B]; exact hr3
end Go.Proofs.YtbmodfegcmaieaaDoor
