/- Rows of texts. -/
import Derived.Test.YtcecjdoabnhcgaaDoorHeadF
import Derived.Test.YtcecjdoabnhcgaaDoorDigsC
import Derived.Test.YtcecjdoabnhcgaaDoorIns
import Derived.Test.YtcecjdoabnhcgaaDoorAppB
import Derived.Test.YtcecjdoabnhcgaaDoorAppH
import Derived.Test.YtcecjdoabnhcgaaDoorCBatch
import Derived.Test.YtcecjdoabnhcgaaDoorTagged
import Derived.Test.YtcecjdoabnhcgaaDoorStrs
import Derived.Test.YtcecjdoabnhcgaaDoorRBytes
import Derived.Test.YtcecjdoabnhcgaaDoorRBatch
import Derived.Test.YtcecjdoabnhcgaaDoorRTag
import Derived.Test.YtcecjdoabnhcgaaDoorOpenB
import Derived.Test.YtcecjdoabnhcgaaDoorStrsAt
import Derived.Deep.Strs
import Derived.Deep.RegionHeld
namespace Go.Proofs.YtcecjdoabnhcgaaDoor
open Go.RowKit

set_option maxRecDepth 100000 in
set_option maxHeartbeats 400000 in
theorem checkParents_any (rd : Int) (n : Nat) (w : World) (hn : n ≤ 1000) :
    Calls Tryd.prog 44 #[.int .i64 rd, .int .i64 n] w fun e w' => e = .returned (.int .i64 (parentsF rd n)) ∧ w = w' := by
  by_cases h1 : rd = 1
  · subst h1
    by_cases h2 : 0 < n
    · have hF : Hid (parentsF 1 n = 10) := by show _ = _; simp [parentsF, h2]
      have h2I : (0 : Int) < n := by omega
      go_enter Tryd.func44, Tryd.ntmps44
      go_wp2_with fail
      go_ret
      exact ⟨ret_int hF.out.symm, rfl⟩
    · have hF : Hid (parentsF 1 n = 0) := by show _ = _; simp [parentsF, h2]
      have h2I : ¬ (0 : Int) < n := by omega
      go_enter Tryd.func44, Tryd.ntmps44
      go_wp2_with fail
      go_ret
      exact ⟨ret_int hF.out.symm, rfl⟩
  · by_cases h2 : 1 < rd
    · by_cases h3 : n < 3
      · have hF : Hid (parentsF rd n = 10) := by show _ = _; simp [parentsF, h2, h3]
        have h3I : (n : Int) < 3 := by omega
        go_enter Tryd.func44, Tryd.ntmps44
        go_wp2_with fail
        go_ret
        exact ⟨ret_int hF.out.symm, rfl⟩
      · have hF : Hid (parentsF rd n = 0) := by show _ = _; simp [parentsF, h1, h3]
        have h3I : ¬ (n : Int) < 3 := by omega
        go_enter Tryd.func44, Tryd.ntmps44
        go_wp2_with fail
        go_ret
        exact ⟨ret_int hF.out.symm, rfl⟩
    · have hF : Hid (parentsF rd n = 0) := by show _ = _; simp [parentsF, h1, h2]
      go_enter Tryd.func44, Tryd.ntmps44
      go_wp2_with fail
      go_ret
      exact ⟨ret_int hF.out.symm, rfl⟩

set_option maxRecDepth 100000 in
set_option maxHeartbeats 1000000 in
theorem checkHeader_any (au rd : Int) (ba : Option Addr) (bc : Nat) (bl : List Part) (pa : Option Addr) (pc : Nat) (pl : List Part) (w : World) (hb : ListAt w ba bc bl) (hp : ListAt w pa pc pl) :
    Calls Tryd.prog 22 #[.agg #[.int .i64 au, .int .i64 rd, .slice ba bl.length bc, .slice pa pl.length pc]] w fun e w' => e = .returned (.int .i64 (headerF au rd bl pl)) ∧ Below w.heap.size w w' := by
  have hbl := hb.le
  have hbm := hb.max
  have hbs := hb.small
  have hpl := hp.le
  have hpm := hp.max
  have hps := hp.small
  have hA : Below w.heap.size w (w.alloc (.cells #[.int .i64 au, .int .i64 rd, .slice ba bl.length bc, .slice pa pl.length pc] 33)) := (Below.refl _ _).alloc (Nat.le_refl _) _
  by_cases ha : 0 ≤ au ∧ au < 4
  · by_cases hr : 1 ≤ rd ∧ rd ≤ 1048576
    · by_cases hz : 3 < bl.length ∨ 4 < pl.length
      · have hF : Hid (headerF au rd bl pl = 1) := by show _ = _; rw [headerF, if_neg (by simp [ha, hr]), if_pos hz]
        by_cases hz1 : 3 < bl.length
        · have hzI : (3 : Int) < bl.length := by omega
          go_enter Tryd.func22, Tryd.ntmps22
          go_wp2_with (first | (go_at_call 41; first | (refine (isNode_true _ _ (by omega)).mono ?_; rintro e w' ⟨rfl, rfl⟩) | (refine (isNode_false _ _ (by omega)).mono ?_; rintro e w' ⟨rfl, rfl⟩)) | (go_at_call 42; first | (refine (isRound_true _ _ (by omega)).mono ?_; rintro e w' ⟨rfl, rfl⟩) | (refine (isRound_false _ _ (by omega)).mono ?_; rintro e w' ⟨rfl, rfl⟩)))
          go_ret
          exact ⟨ret_int hF.out.symm, hA⟩
        · have hzI : ¬ (3 : Int) < bl.length := by omega
          have hzJ : (4 : Int) < pl.length := by omega
          go_enter Tryd.func22, Tryd.ntmps22
          go_wp2_with (first | (go_at_call 41; first | (refine (isNode_true _ _ (by omega)).mono ?_; rintro e w' ⟨rfl, rfl⟩) | (refine (isNode_false _ _ (by omega)).mono ?_; rintro e w' ⟨rfl, rfl⟩)) | (go_at_call 42; first | (refine (isRound_true _ _ (by omega)).mono ?_; rintro e w' ⟨rfl, rfl⟩) | (refine (isRound_false _ _ (by omega)).mono ?_; rintro e w' ⟨rfl, rfl⟩)))
          go_ret
          exact ⟨ret_int hF.out.symm, hA⟩
      · have hF : Hid (headerF au rd bl pl = if digF bl ≠ 0 then digF bl else if digF pl ≠ 0 then digF pl else parentsF rd pl.length) := by show _ = _; rw [headerF, if_neg (by simp [ha, hr]), if_neg hz]
        have hzI : ¬ (3 : Int) < bl.length := by omega
        have hzJ : ¬ (4 : Int) < pl.length := by omega
        go_enter Tryd.func22, Tryd.ntmps22
        go_wp2_with (first | (go_at_call 41; first | (refine (isNode_true _ _ (by omega)).mono ?_; rintro e w' ⟨rfl, rfl⟩) | (refine (isNode_false _ _ (by omega)).mono ?_; rintro e w' ⟨rfl, rfl⟩)) | (go_at_call 42; first | (refine (isRound_true _ _ (by omega)).mono ?_; rintro e w' ⟨rfl, rfl⟩) | (refine (isRound_false _ _ (by omega)).mono ?_; rintro e w' ⟨rfl, rfl⟩)))
        refine (checkDigests_any bl ba _ bc _ rfl hb.le hb.max hb.small hb.some (hb.parts.below hA)).mono ?_
        rintro e w1 ⟨he, hb1⟩
        subst he
        dsimp only
        have r1 := row_new hb1
        replace hb1 := below_alloc hb1
        have c3 : w1.cell? ⟨w.heap.size, 3, none⟩ = some (.slice pa pl.length pc) := cells_at r1 3 _ rfl
        by_cases h1 : digF bl = 0
        · rw [h1] at hF ⊢
          go_wp2_with fail
          refine (checkDigests_any pl pa _ pc _ rfl hp.le hp.max hp.small hp.some (hp.parts.below hb1)).mono ?_
          rintro e w2 ⟨he, hb2⟩
          subst he
          dsimp only
          have r2 := (hb2.block _ (lt_of_heap r1)).trans r1
          have hb12 := hb1.trans (hb2.mono hb1.size)
          have c1 : w2.cell? ⟨w.heap.size, 1, none⟩ = some (.int .i64 rd) := cells_at r2 1 _ rfl
          have c3' : w2.cell? ⟨w.heap.size, 3, none⟩ = some (.slice pa pl.length pc) := cells_at r2 3 _ rfl
          clear c3 r1 r2
          by_cases h2 : digF pl = 0
          · rw [h2] at hF ⊢
            go_wp2_with fail
            refine (checkParents_any rd pl.length w2 (by omega)).mono ?_
            rintro e w3 ⟨he, rfl⟩
            subst he
            dsimp only
            go_wp2_with fail
            go_ret
            exact ⟨ret_int (by rw [hF.out]; rfl), hb12⟩
          · rw [if_neg (by simp), if_pos h2] at hF
            generalize digF pl = z at *
            go_wp2_with fail
            go_ret
            exact ⟨ret_int hF.out.symm, hb12⟩
        · rw [if_pos h1] at hF
          generalize digF bl = z at *
          go_wp2_with fail
          go_ret
          exact ⟨ret_int hF.out.symm, hb1⟩
    · have hF : Hid (headerF au rd bl pl = 2) := by show _ = _; simp [headerF, hr]
      go_enter Tryd.func22, Tryd.ntmps22
      go_wp2_with (first | (go_at_call 41; first | (refine (isNode_true _ _ (by omega)).mono ?_; rintro e w' ⟨rfl, rfl⟩) | (refine (isNode_false _ _ (by omega)).mono ?_; rintro e w' ⟨rfl, rfl⟩)) | (go_at_call 42; first | (refine (isRound_true _ _ (by omega)).mono ?_; rintro e w' ⟨rfl, rfl⟩) | (refine (isRound_false _ _ (by omega)).mono ?_; rintro e w' ⟨rfl, rfl⟩)))
      go_ret
      exact ⟨ret_int hF.out.symm, hA⟩
  · have hF : Hid (headerF au rd bl pl = 2) := by show _ = _; simp [headerF, ha]
    go_enter Tryd.func22, Tryd.ntmps22
    go_wp2_with (first | (go_at_call 41; first | (refine (isNode_true _ _ (by omega)).mono ?_; rintro e w' ⟨rfl, rfl⟩) | (refine (isNode_false _ _ (by omega)).mono ?_; rintro e w' ⟨rfl, rfl⟩)) | (go_at_call 42; first | (refine (isRound_true _ _ (by omega)).mono ?_; rintro e w' ⟨rfl, rfl⟩) | (refine (isRound_false _ _ (by omega)).mono ?_; rintro e w' ⟨rfl, rfl⟩)))
    go_ret
    exact ⟨ret_int hF.out.symm, hA⟩
end Go.Proofs.YtcecjdoabnhcgaaDoor

namespace Go.Proofs.YtcecjdoabnhcgaaDoor
open Go.RowKit

/-- The digest of a tag and of one part. -/
def tagD (tag : Int) (bs : List Int) : List Int := sumL (tagTo tag [⟨none, 0, bs⟩] 1)
set_option maxRecDepth 100000 in
theorem tagD_length (tag : Int) (bs : List Int) : (tagD tag bs).length = 32 := sumL_length _
set_option maxRecDepth 100000 in
theorem tagTo_part (tag : Int) (sa : Option Addr) (c : Nat) (bs : List Int) : tagTo tag [⟨sa, c, bs⟩] 1 = tagTo tag [⟨none, 0, bs⟩] 1 := by simp [tagTo]
set_option maxRecDepth 100000 in
theorem one_part (w : World) (sa : Option Addr) (n cap : Nat) (bs : List Int) (hn : n = bs.length) (hs : SliceAt w sa cap bs) : PartsAt (w.alloc (.cells #[.slice sa n cap] 25)) (some ⟨w.heap.size, 0, none⟩) [⟨sa, cap, bs⟩] := by
  refine ⟨.inr ⟨w.heap.size, 0, rfl, fun j hj => ?_⟩, fun p hp => ?_⟩
  · obtain rfl : j = 0 := by simpa using hj
    subst hn
    exact laid_cell w _ _ 0 _ rfl
  · obtain rfl : p = ⟨sa, cap, bs⟩ := by simpa using hp
    exact hs.below ((Below.refl _ _).alloc (Nat.le_refl _) _)
set_option maxRecDepth 100000 in
set_option maxHeartbeats 1000000 in
theorem batchDigest_bad (au nu : Int) (sa : Option Addr) (n cap : Nat) (ss : List ByteArray) (ec : Int) (w : World) (hn : n = ss.length) (hm : n ≤ maxLen) (hs : StrsAt w sa ss) (he : batchF au nu ss = ec) (h0 : ec ≠ 0) :
    Calls Tryd.prog 8 #[.agg #[.int .i64 au, .int .i64 nu, .slice sa n cap]] w fun e w' => e = .returned (.tuple #[.slice none 0 0, .int .i64 ec]) ∧ Below w.heap.size w w' := by
  have hA : Below w.heap.size w (w.alloc (.cells #[.int .i64 au, .int .i64 nu, .slice sa n cap] 24)) := (Below.refl _ _).alloc (Nat.le_refl _) _
  have hC := checkBatch_any au nu sa n cap ss _ hn hm (hs.below hA)
  rw [he] at hC
  clear hn hm he
  go_enter Tryd.func8, Tryd.ntmps8
  go_wp2_with fail
  refine hC.mono ?_
  rintro e w1 ⟨rfl, hb1⟩
  go_wp2_with fail
  go_ret2
  exact ⟨rfl, below_alloc hb1⟩
set_option maxRecDepth 100000 in
set_option maxHeartbeats 1000000 in
theorem headerDigest_bad (au rd : Int) (ba : Option Addr) (bn bc : Nat) (bl : List Part) (pa : Option Addr) (pn pc : Nat) (pl : List Part) (ec : Int) (w : World) (hbn : bn = bl.length) (hpn : pn = pl.length) (hb : ListAt w ba bc bl) (hp : ListAt w pa pc pl) (he : headerF au rd bl pl = ec) (h0 : ec ≠ 0) :
    Calls Tryd.prog 12 #[.agg #[.int .i64 au, .int .i64 rd, .slice ba bn bc, .slice pa pn pc]] w fun e w' => e = .returned (.tuple #[.slice none 0 0, .int .i64 ec]) ∧ Below w.heap.size w w' := by
  have hA : Below w.heap.size w (w.alloc (.cells #[.int .i64 au, .int .i64 rd, .slice ba bn bc, .slice pa pn pc] 33)) := (Below.refl _ _).alloc (Nat.le_refl _) _
  have hC := checkHeader_any au rd ba bc bl pa pc pl _ (hb.below hA) (hp.below hA)
  rw [he, ← hbn, ← hpn] at hC
  clear hbn hpn he
  go_enter Tryd.func12, Tryd.ntmps12
  go_wp2_with fail
  refine hC.mono ?_
  rintro e w1 ⟨rfl, hb1⟩
  go_wp2_with fail
  go_ret2
  exact ⟨rfl, below_alloc hb1⟩
set_option maxRecDepth 100000 in
set_option maxHeartbeats 1000000 in
theorem batchDigest_ok (au nu : Int) (sa : Option Addr) (n cap : Nat) (ss : List ByteArray) (w : World) (hn : n = ss.length) (hs : StrsAt w sa ss) (hF : batchF au nu ss = 0) (ha : 0 ≤ au ∧ au < 4) (hr : 0 ≤ nu ∧ nu ≤ 1048576) (hl : ss.length ≤ 4) (hz : ∀ s ∈ ss, s.size ≤ 20) (hsb : ∀ sb so, sa = some ⟨sb, so, none⟩ → sb < w.heap.size) (hT : Tabs w) :
    Calls Tryd.prog 8 #[.agg #[.int .i64 au, .int .i64 nu, .slice sa n cap]] w fun e w' => ∃ b, e = .returned (.tuple #[.slice (some ⟨b, 0, none⟩) 32 32, .int .i64 0]) ∧ w.heap.size ≤ b ∧ Below w.heap.size w w' ∧ SliceAt w' (some ⟨b, 0, none⟩) 32 (tagD 1 (batchB au nu ss)) := by
  have hA : Below w.heap.size w (w.alloc (.cells #[.int .i64 au, .int .i64 nu, .slice sa n cap] 24)) := (Below.refl _ _).alloc (Nat.le_refl _) _
  have hC := checkBatch_any au nu sa n cap ss _ hn (by rw [hn]; unfold maxLen; omega) (hs.below hA)
  rw [hF] at hC
  have hle := txsB_le ss hz
  have Hn : Hid (n = ss.length) := hn
  clear hn hF
  go_enter Tryd.func8, Tryd.ntmps8
  go_wp2_with fail
  refine hC.mono ?_
  rintro e w1 ⟨rfl, hb1⟩
  have r1 := row_new hb1
  replace hb1 := below_alloc hb1
  have c0 : w1.cell? ⟨w.heap.size, 0, none⟩ = some (.int .i64 au) := cells_at r1 0 _ rfl
  have c1 : w1.cell? ⟨w.heap.size, 1, none⟩ = some (.int .i64 nu) := cells_at r1 1 _ rfl
  have c2 : w1.cell? ⟨w.heap.size, 2, none⟩ = some (.slice sa n cap) := cells_at r1 2 _ rfl
  have hsz := hb1.size
  clear hC
  go_wp2_with fail
  refine (appendBatch_any w1.heap.size (.slice none 0 0) 0 [] au nu sa n cap ss w1 ha hr Hn.out hl hz (hs.below hb1) (fun sb so e => ⟨Nat.lt_of_lt_of_le (hsb sb so e) hsz, fun h => by cases h⟩) (World.ownsRow_nil _ _ _ _) (Nat.le_refl _) (by decide)).mono ?_
  rintro e w2 ⟨v2, rfl, ho2, G2⟩
  have hb2 : Below w1.heap.size w1 w2 := G2.below (Nat.le_refl _) (fun q e => by cases e)
  rw [Nat.zero_add, List.nil_append] at ho2
  obtain ⟨xa, xc, hv, hxl, hx⟩ := owns_form ho2
  subst hv
  have hW2 := hb1.trans (hb2.mono hsz)
  have HX : Hid _ := hxl
  have hbl : (batchB au nu ss).length ≤ 100 := by simp [batchB, rd3]; omega
  have hA2 : Below w2.heap.size w2 (w2.alloc (.cells #[.slice xa (batchB au nu ss).length xc] 25)) := (Below.refl _ _).alloc (Nat.le_refl _) _
  clear hxl ho2 G2
  generalize hBB : batchB au nu ss = B at *
  have HB : Hid _ := hBB
  clear hBB
  go_wp2_with fail
  refine (tagged_ok 1 [⟨xa, xc, B⟩] _ _ _ _ rfl (one_part w2 xa _ xc B rfl hx) (by simp [psz]; omega) ((hT.below hW2).below hA2)).mono ?_
  rintro e w3 ⟨b, rfl, hle3, hb3, hr3⟩
  go_wp2_with fail
  go_ret2
  refine ⟨b, rfl, ?_, ?_, ?_⟩
  · rw [size_alloc] at hle3; have := hW2.size; omega
  · exact hW2.trans ((below_alloc hb3).mono hW2.size)
  · rw [tagD, HB.out, ← tagTo_part 1 xa xc B]; exact hr3
set_option maxRecDepth 100000 in
set_option maxHeartbeats 1000000 in
theorem headerDigest_ok (au rd : Int) (ba : Option Addr) (bn bc : Nat) (bl : List Part) (pa : Option Addr) (pn pc : Nat) (pl : List Part) (w : World) (hbn : bn = bl.length) (hpn : pn = pl.length) (hb : ListAt w ba bc bl) (hp : ListAt w pa pc pl) (hOb : Off w (.slice none 0 0) ba bl) (hOp : Off w (.slice none 0 0) pa pl) (hF : headerF au rd bl pl = 0) (ha : 0 ≤ au ∧ au < 4) (hr : 0 ≤ rd ∧ rd ≤ 1048576) (hbl : bl.length ≤ 4) (hpl : pl.length ≤ 4) (hb32 : ∀ p ∈ bl, p.bs.length = 32) (hp32 : ∀ p ∈ pl, p.bs.length = 32) (hT : Tabs w) :
    Calls Tryd.prog 12 #[.agg #[.int .i64 au, .int .i64 rd, .slice ba bn bc, .slice pa pn pc]] w fun e w' => ∃ b, e = .returned (.tuple #[.slice (some ⟨b, 0, none⟩) 32 32, .int .i64 0]) ∧ w.heap.size ≤ b ∧ Below w.heap.size w w' ∧ SliceAt w' (some ⟨b, 0, none⟩) 32 (tagD 2 (headB au rd bl pl)) := by
  have hA : Below w.heap.size w (w.alloc (.cells #[.int .i64 au, .int .i64 rd, .slice ba bn bc, .slice pa pn pc] 33)) := (Below.refl _ _).alloc (Nat.le_refl _) _
  have hC := checkHeader_any au rd ba bc bl pa pc pl _ (hb.below hA) (hp.below hA)
  rw [hF, ← hbn, ← hpn] at hC
  have hle1 := flatB_length bl hb32
  have hle2 := flatB_length pl hp32
  have Hn : Hid (bn = bl.length) := hbn
  have Hp : Hid (pn = pl.length) := hpn
  clear hbn hpn hF
  go_enter Tryd.func12, Tryd.ntmps12
  go_wp2_with fail
  refine hC.mono ?_
  rintro e w1 ⟨rfl, hb1⟩
  have r1 := row_new hb1
  replace hb1 := below_alloc hb1
  have c0 : w1.cell? ⟨w.heap.size, 0, none⟩ = some (.int .i64 au) := cells_at r1 0 _ rfl
  have c1 : w1.cell? ⟨w.heap.size, 1, none⟩ = some (.int .i64 rd) := cells_at r1 1 _ rfl
  have c2 : w1.cell? ⟨w.heap.size, 2, none⟩ = some (.slice ba bn bc) := cells_at r1 2 _ rfl
  have c3 : w1.cell? ⟨w.heap.size, 3, none⟩ = some (.slice pa pn pc) := cells_at r1 3 _ rfl
  have hsz := hb1.size
  clear hC
  have hO1 : Off w1 (.slice none 0 0) ba bl := ⟨fun sb so e => ⟨Nat.lt_of_lt_of_le (hOb.row sb so e).1 hsz, fun h => by cases h⟩, fun p hp sb so e => ⟨Nat.lt_of_lt_of_le (hOb.each p hp sb so e).1 hsz, fun h => by cases h⟩⟩
  have hO2 : Off w1 (.slice none 0 0) pa pl := ⟨fun sb so e => ⟨Nat.lt_of_lt_of_le (hOp.row sb so e).1 hsz, fun h => by cases h⟩, fun p hp sb so e => ⟨Nat.lt_of_lt_of_le (hOp.each p hp sb so e).1 hsz, fun h => by cases h⟩⟩
  go_wp2_with fail
  refine (appendHeader_any w1.heap.size (.slice none 0 0) 0 [] au rd ba bn bc bl pa pn pc pl w1 ha hr Hn.out Hp.out hbl hpl hb32 hp32 (hb.below hb1) hO1 (hp.below hb1) hO2 (World.ownsRow_nil _ _ _ _) (Nat.le_refl _) (by decide)).mono ?_
  rintro e w2 ⟨v2, rfl, ho2, G2⟩
  have hb2 : Below w1.heap.size w1 w2 := G2.below (Nat.le_refl _) (fun q e => by cases e)
  rw [Nat.zero_add, List.nil_append] at ho2
  obtain ⟨xa, xc, hv, hxl, hx⟩ := owns_form ho2
  subst hv
  have hW2 := hb1.trans (hb2.mono hsz)
  have HX : Hid _ := hxl
  have hbl' : (headB au rd bl pl).length ≤ 300 := by simp [headB, rd3, digsB]; omega
  have hA2 : Below w2.heap.size w2 (w2.alloc (.cells #[.slice xa (headB au rd bl pl).length xc] 25)) := (Below.refl _ _).alloc (Nat.le_refl _) _
  clear hxl ho2 G2
  generalize hBB : headB au rd bl pl = B at *
  have HB : Hid _ := hBB
  clear hBB
  go_wp2_with fail
  refine (tagged_ok 2 [⟨xa, xc, B⟩] _ _ _ _ rfl (one_part w2 xa _ xc B rfl hx) (by simp [psz]; omega) ((hT.below hW2).below hA2)).mono ?_
  rintro e w3 ⟨b, rfl, hle3, hb3, hr3⟩
  go_wp2_with fail
  go_ret2
  refine ⟨b, rfl, ?_, ?_, ?_⟩
  · rw [size_alloc] at hle3; have := hW2.size; omega
  · exact hW2.trans ((below_alloc hb3).mono hW2.size)
  · rw [tagD, HB.out, ← tagTo_part 2 xa xc B]; exact hr3
end Go.Proofs.YtcecjdoabnhcgaaDoor

namespace Go.Proofs.YtcecjdoabnhcgaaDoor
open Go.RowKit

set_option maxRecDepth 100000 in
theorem batchF_ok {au nu : Int} {ss : List ByteArray} (h : batchF au nu ss = 0) : (0 ≤ au ∧ au < 4) ∧ (1 ≤ nu ∧ nu ≤ 1048576) ∧ (1 ≤ ss.length ∧ ss.length ≤ 4) ∧ ∀ s ∈ ss, 1 ≤ s.size ∧ s.size ≤ 20 := by
  unfold batchF at h
  split at h
  · cases h
  · split at h
    · cases h
    · split at h
      · rename_i h1 h2 h3
        refine ⟨by omega, by omega, by omega, fun s hs => ?_⟩
        have := List.all_eq_true.1 h3 s hs
        simpa [txOk] using this
      · cases h
end Go.Proofs.YtcecjdoabnhcgaaDoor

namespace Go.Proofs.YtcecjdoabnhcgaaDoor
open Go.RowKit

set_option maxRecDepth 100000 in
theorem batchB_all {au nu : Int} {ss : List ByteArray} (h : batchF au nu ss = 0) : AllU8 (batchB au nu ss) := by
  obtain ⟨h1, h2, h3, h4⟩ := batchF_ok h
  have ht : ∀ l : List ByteArray, (∀ s ∈ l, s.size ≤ 20) → AllU8 (txsB l) := by
    intro l
    induction l with
    | nil => intro _ x hx; cases hx
    | cons s l ih =>
      intro h x hx
      simp only [txsB, List.mem_cons, List.mem_append] at hx
      have h0 := h s (by simp)
      rcases hx with rfl | hx | hx
      · omega
      · simp only [tb, List.mem_map] at hx
        obtain ⟨b, _, rfl⟩ := hx
        have := b.toNat_lt
        omega
      · exact ih (fun s hs => h s (by simp [hs])) x hx
  intro x hx
  simp only [batchB, rd3, List.mem_append, List.mem_cons, List.not_mem_nil, or_false] at hx
  rcases hx with ((hx | hx | hx | hx) | hx) | hx
  · omega
  · omega
  · omega
  · omega
  · omega
  · exact ht ss (fun s hs => (h4 s hs).2) x hx
set_option maxRecDepth 100000 in
set_option maxHeartbeats 1000000 in
theorem rBatchDigest_in (au nu : Int) (sa : Option Addr) (n cap : Nat) (ss : List ByteArray) (w : World) (hn : n = ss.length) (hs : StrsAt w sa ss) (hF : batchF au nu ss = 0) :
    Calls Tryd.prog 28 #[.agg #[.int .i64 au, .int .i64 nu, .slice sa n cap]] w fun e w' => ∃ g c, e = .returned (.slice (some ⟨g, 0, none⟩) 32 c) ∧ SliceAt w' (some ⟨g, 0, none⟩) c (tagD 1 (batchB au nu ss)) ∧ Below w.heap.size w w' := by
  have hA : Below w.heap.size w (w.alloc (.cells #[.int .i64 au, .int .i64 nu, .slice sa n cap] 24)) := (Below.refl _ _).alloc (Nat.le_refl _) _
  obtain ⟨y1, y2, y3, y4⟩ := batchF_ok hF
  have hB := batchBytes_any au nu sa n cap ss _ y1 ⟨by omega, y2.2⟩ hn y3.2 (fun s hs => (y4 s hs).2) (hs.below hA)
  have hle := txsB_le ss (fun s hs => (y4 s hs).2)
  have hu := batchB_all hF
  have hbl : (batchB au nu ss).length ≤ 100 := by simp [batchB, rd3]; omega
  clear hn
  have HU : Hid _ := hu
  clear hu
  generalize batchB au nu ss = B at *
  go_enter Tryd.func28, Tryd.ntmps28
  go_wp2_with fail
  refine hB.mono ?_
  rintro e w1 ⟨v1, rfl, ho1, hb1⟩
  replace hb1 := below_alloc hb1
  obtain ⟨xa, xc, hv, hxl, hx⟩ := owns_form ho1
  subst hv
  clear hxl ho1 hB
  have hP : ∀ p ∈ [(⟨xa, xc, B⟩ : Part)], AllU8 p.bs := by
    intro p hp
    obtain rfl : p = ⟨xa, xc, B⟩ := by simpa using hp
    exact HU.out
  have HP : Hid _ := hP
  clear hP
  go_wp2_with fail
  refine (taggedOf_any 1 [⟨xa, xc, B⟩] _ _ _ _ (by decide) rfl (by simp) (one_part w1 xa _ xc B rfl hx) HP.out).mono ?_
  rintro e w2 ⟨hb2, h9⟩
  rcases h9 with ⟨h9, _⟩ | ⟨_, g, c, rfl, hr⟩
  · simp [psz] at h9; omega
  go_wp2_with fail
  go_ret
  refine ⟨g, c, rfl, ?_, hb1.trans ((below_alloc hb2).mono hb1.size)⟩
  rw [tagD, ← tagTo_part 1 xa xc B]
  exact hr
set_option maxRecDepth 100000 in
set_option maxHeartbeats 1000000 in
theorem rBatchDigest_ok (au nu : Int) (sa : Option Addr) (n cap : Nat) (ss : List ByteArray) (w : World) (hn : n = ss.length) (hs : StrsAt w sa ss) (hF : batchF au nu ss = 0) :
    Calls Tryd.prog 10 #[.agg #[.int .i64 au, .int .i64 nu, .slice sa n cap]] w fun e w' => ∃ g c, e = .returned (.tuple #[.slice (some ⟨g, 0, none⟩) 32 c, .int .i64 0]) ∧ SliceAt w' (some ⟨g, 0, none⟩) c (tagD 1 (batchB au nu ss)) ∧ Below w.heap.size w w' := by
  have hA : Below w.heap.size w (w.alloc (.cells #[.int .i64 au, .int .i64 nu, .slice sa n cap] 24)) := (Below.refl _ _).alloc (Nat.le_refl _) _
  obtain ⟨y1, y2, y3, y4⟩ := batchF_ok hF
  have hC := batchFault_any au nu sa n cap ss _ hn (by rw [hn]; unfold maxLen; omega) (hs.below hA)
  rw [hF] at hC
  have hD : ∀ wx, Below w.heap.size w wx → _ := fun wx hb => rBatchDigest_in au nu sa n cap ss wx hn (hs.below hb) hF
  have HD : Hid _ := hD
  clear hn hD
  go_enter Tryd.func10, Tryd.ntmps10
  go_wp2_with fail
  refine hC.mono ?_
  rintro e w1 ⟨rfl, hb1⟩
  have r1 := row_new hb1
  replace hb1 := below_alloc hb1
  have c0 : w1.cell? ⟨w.heap.size, 0, none⟩ = some (.int .i64 au) := cells_at r1 0 _ rfl
  have c1 : w1.cell? ⟨w.heap.size, 1, none⟩ = some (.int .i64 nu) := cells_at r1 1 _ rfl
  have c2 : w1.cell? ⟨w.heap.size, 2, none⟩ = some (.slice sa n cap) := cells_at r1 2 _ rfl
  go_wp2_with fail
  refine (HD.out _ hb1).mono ?_
  rintro e w2 ⟨g, c, rfl, hr, hb2⟩
  go_wp2_with fail
  go_ret2
  exact ⟨g, c, rfl, hr, hb1.trans (hb2.mono hb1.size)⟩
set_option maxRecDepth 100000 in
set_option maxHeartbeats 1000000 in
theorem rBatchDigest_bad (au nu : Int) (sa : Option Addr) (n cap : Nat) (ss : List ByteArray) (ec : Int) (w : World) (hn : n = ss.length) (hm : n ≤ maxLen) (hs : StrsAt w sa ss) (he : batchF au nu ss = ec) (h0 : ec ≠ 0) :
    Calls Tryd.prog 10 #[.agg #[.int .i64 au, .int .i64 nu, .slice sa n cap]] w fun e w' => e = .returned (.tuple #[.slice none 0 0, .int .i64 ec]) ∧ Below w.heap.size w w' := by
  have hA : Below w.heap.size w (w.alloc (.cells #[.int .i64 au, .int .i64 nu, .slice sa n cap] 24)) := (Below.refl _ _).alloc (Nat.le_refl _) _
  have hC := batchFault_any au nu sa n cap ss _ hn hm (hs.below hA)
  rw [he] at hC
  clear hn hm he
  go_enter Tryd.func10, Tryd.ntmps10
  go_wp2_with fail
  refine hC.mono ?_
  rintro e w1 ⟨rfl, hb1⟩
  go_wp2_with fail
  go_ret2
  exact ⟨rfl, below_alloc hb1⟩
end Go.Proofs.YtcecjdoabnhcgaaDoor

namespace Go.Proofs.YtcecjdoabnhcgaaDoor
open Go.ChangeShapes Go.WideShapes Go.ChangeAt Go.RowKit Go.Deep

/-- What is read of a slice of texts that came in. -/
structure TextsAt (w : World) (sa : Option Addr) (cap : Nat) (ss : List ByteArray) : Prop where
  le : ss.length ≤ cap
  reach : cap * 16 ≤ 140737488351232
  nil : sa = none → cap = 0
  strs : StrsAt w sa ss
set_option maxRecDepth 100000 in
theorem TextsAt.below {w w' : World} {sa : Option Addr} {cap : Nat} {ss : List ByteArray} (h : TextsAt w sa cap ss) (hb : Below w.heap.size w w') : TextsAt w' sa cap ss := ⟨h.le, h.reach, h.nil, h.strs.below hb⟩

set_option maxRecDepth 100000 in
theorem cStr : Tryd.prog.cellsOf 9 = 1 := by kernel_rfl
set_option maxRecDepth 100000 in
theorem bStr : Tryd.prog.bytesOf 9 = 16 := by kernel_rfl
set_option maxRecDepth 100000 in
theorem open_texts_cells {H : Type} {enc : TypeId × Value → H} {W : World} {fuel : Nat} {cs : List Value} {x : DataW H × List MemPlace}
    (hf : DataW.trod enc Tryd.prog W 0 (fun _ => true) true fuel 22 cs = some x) (hfit : ∀ n ∈ x.1.weights Tryd.prog 22, n ≤ reachBytes) :
    ∃ sa cap ss, cs = [.slice sa (List.length ss) cap] ∧ TextsAt W sa cap ss := by
  rcases open_strs Tryd.underlying22 Tryd.underlying9 cStr hf with ⟨rfl, _⟩ | ⟨a, len, cap, m, Sx, rfl, _, hl, hm, hmm, rfl, hc⟩
  · exact ⟨none, 0, [], rfl, ⟨Nat.le_refl _, by decide, fun _ => rfl, ⟨.inl rfl, fun s hs => by cases hs⟩⟩⟩
  · simp only [if_true] at hmm
    subst hmm
    have hw := hfit ((((List.range len).map fun i => (DataW.lit (.string (Sx i).data.toList) : DataW H)).length + ((List.range (m - len)).map fun j => (DataW.lit (.string (Sx (len + j)).data.toList) : DataW H)).length) * Tryd.prog.bytesOf 9) (by simp [DataW.weights, Tryd.underlying22])
    rw [bStr] at hw
    simp [reachBytes] at hw
    refine ⟨some a, m, (List.range len).map Sx, by simp, ⟨by simpa using hl, by omega, (fun e => by cases e), ⟨?_, ?_⟩⟩⟩
    · rcases Nat.eq_zero_or_pos len with h0 | h0
      · subst h0; exact .inl rfl
      · right
        have h9 := (hc 0 (by omega)).1
        obtain ⟨b, off, rfl⟩ : ∃ b off, a = ⟨b, off, none⟩ := by
          cases a with
          | mk b off spot =>
            cases spot with
            | none => exact ⟨b, off, rfl⟩
            | some s => simp [World.cell?, Addr.add] at h9; split at h9 <;> cases h9
        refine ⟨b, off, rfl, fun j hj => ?_⟩
        have hj' : j < len := by simpa using hj
        have := (hc j (by omega)).1
        rw [add_off] at this
        rw [this]
        simp [hj']
    · intro s hs
      simp at hs
      obtain ⟨j, hj, rfl⟩ := hs
      exact (hc j (by omega)).2
end Go.Proofs.YtcecjdoabnhcgaaDoor

namespace Go.Proofs.YtcecjdoabnhcgaaDoor
open Go.RowKit

set_option maxRecDepth 100000 in
theorem infoStr : (Tryd.prog.info? 9).map (fun i => (i.zero, i.size, i.bytes)) = some (some (.string ByteArray.empty), 1, 16) := by kernel_rfl
def sv (ss : List ByteArray) : List Value := ss.map Value.string
set_option maxRecDepth 100000 in
theorem sv_length (ss : List ByteArray) : (sv ss).length = ss.length := by simp [sv]
set_option maxRecDepth 100000 in
theorem sv_one (ss : List ByteArray) : ∀ u ∈ sv ss, u.oneCell' = true := by
  intro u hu; simp [sv] at hu; obtain ⟨x, _, rfl⟩ := hu; rfl
set_option maxRecDepth 100000 in
theorem strsAt_of_owns {w : World} {base n : Nat} {v : Value} {ss : List ByteArray} (h : w.ownsRow base 9 1 v n (sv ss)) (hz : ∀ s ∈ ss, s.size ≤ maxLen) : ∃ ra rc, v = .slice ra n rc ∧ n = ss.length ∧ StrsAt w ra ss ∧ ∀ sb so, ra = some ⟨sb, so, none⟩ → base ≤ sb := by
  have hl : n = ss.length := by have := h.1; rw [sv_length] at this; omega
  rcases h.2 with ⟨rfl, hn⟩ | ⟨g, cap, cur, rfl, _⟩
  · have hb : ss = [] := List.eq_nil_of_length_eq_zero (by omega)
    subst hn hb
    exact ⟨none, 0, rfl, rfl, ⟨.inl rfl, hz⟩, fun _ _ e => by cases e⟩
  · refine ⟨some ⟨g, 0, none⟩, cap, rfl, hl, ⟨.inr ⟨g, 0, rfl, fun j hj => ?_⟩, hz⟩, fun sb so e => by cases e; exact (h.lt _ rfl).1⟩
    rw [Nat.zero_add, World.ownsRow.cellAt h j (by omega)]
    simp [sv, hj]
set_option maxRecDepth 100000 in
theorem StrsAt.setCell {w : World} {sa : Option Addr} {ss : List ByteArray} (h : StrsAt w sa ss) (b j : Nat) (v : Value) (hne : ∀ sb so, sa = some ⟨sb, so, none⟩ → b ≠ sb) : StrsAt (w.setCell ⟨b, j, none⟩ v) sa ss := by
  refine ⟨?_, h.size⟩
  rcases h.cells with h | ⟨sb, so, rfl, hc⟩
  · exact .inl h
  · exact .inr ⟨sb, so, rfl, fun k hk => (World.cell?_setCell_far _ _ _ _ (hne sb so rfl)).trans (hc k hk)⟩
end Go.Proofs.YtcecjdoabnhcgaaDoor
