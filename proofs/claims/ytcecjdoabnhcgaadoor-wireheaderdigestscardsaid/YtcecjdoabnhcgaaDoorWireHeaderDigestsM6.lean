/- wire.Check, for every message of a kind, by what wire.checkCarried answers. -/
import Derived.Test.YtcecjdoabnhcgaaDoorHeadF
import Derived.Test.YtcecjdoabnhcgaaDoorWireHeaderDigestsM0
import Derived.Test.YtcecjdoabnhcgaaDoorAppB
import Derived.Test.YtcecjdoabnhcgaaDoorAppH
import Derived.Test.YtcecjdoabnhcgaaDoorTagged
import Derived.Test.YtcecjdoabnhcgaaDoorSx
import Derived.Laws.Rows
import Derived.Laws.Tables
namespace Go.Proofs.YtcecjdoabnhcgaaDoor
open Go.RowKit

set_option maxRecDepth 100000 in
set_option maxHeartbeats 400000 in
theorem checkParents_any (rd : Int) (n : Nat) (w : World) (hn : n ≤ 1000) :
    Calls Tryd.prog 44 #[.int .i64 rd, .int .i64 n] w fun e w' => e = .returned (.int .i64 (parentsF rd n)) ∧ w = w' := by
  by_cases h1 : rd = 1
  · subst h1
    by_cases h2 : 0 < n
    · have hF : Hid (parentsF 1 n = 10) := by show _ = _; simp [parentsF, h2]
      have h2I : (0 : Int) < n := by omega
      go_enter Tryd.func44, Tryd.ntmps44
      go_wp2_with fail
      go_ret
      exact ⟨ret_int hF.out.symm, rfl⟩
    · have hF : Hid (parentsF 1 n = 0) := by show _ = _; simp [parentsF, h2]
      have h2I : ¬ (0 : Int) < n := by omega
      go_enter Tryd.func44, Tryd.ntmps44
      go_wp2_with fail
      go_ret
      exact ⟨ret_int hF.out.symm, rfl⟩
  · by_cases h2 : 1 < rd
    · by_cases h3 : n < 3
      · have hF : Hid (parentsF rd n = 10) := by show _ = _; simp [parentsF, h2, h3]
        have h3I : (n : Int) < 3 := by omega
        go_enter Tryd.func44, Tryd.ntmps44
        go_wp2_with fail
        go_ret
        exact ⟨ret_int hF.out.symm, rfl⟩
      · have hF : Hid (parentsF rd n = 0) := by show _ = _; simp [parentsF, h1, h3]
        have h3I : ¬ (n : Int) < 3 := by omega
        go_enter Tryd.func44, Tryd.ntmps44
        go_wp2_with fail
        go_ret
        exact ⟨ret_int hF.out.symm, rfl⟩
    · have hF : Hid (parentsF rd n = 0) := by show _ = _; simp [parentsF, h1, h2]
      go_enter Tryd.func44, Tryd.ntmps44
      go_wp2_with fail
      go_ret
      exact ⟨ret_int hF.out.symm, rfl⟩

set_option maxRecDepth 100000 in
set_option maxHeartbeats 1000000 in
theorem checkHeader_any (au rd : Int) (ba : Option Addr) (bc : Nat) (bl : List Part) (pa : Option Addr) (pc : Nat) (pl : List Part) (w : World) (hb : ListAt w ba bc bl) (hp : ListAt w pa pc pl) :
    Calls Tryd.prog 22 #[.agg #[.int .i64 au, .int .i64 rd, .slice ba bl.length bc, .slice pa pl.length pc]] w fun e w' => e = .returned (.int .i64 (headerF au rd bl pl)) ∧ Below w.heap.size w w' := by
  have hbl := hb.le
  have hbm := hb.max
  have hbs := hb.small
  have hpl := hp.le
  have hpm := hp.max
  have hps := hp.small
  have hA : Below w.heap.size w (w.alloc (.cells #[.int .i64 au, .int .i64 rd, .slice ba bl.length bc, .slice pa pl.length pc] 33)) := (Below.refl _ _).alloc (Nat.le_refl _) _
  by_cases ha : 0 ≤ au ∧ au < 4
  · by_cases hr : 1 ≤ rd ∧ rd ≤ 1048576
    · by_cases hz : 3 < bl.length ∨ 4 < pl.length
      · have hF : Hid (headerF au rd bl pl = 1) := by show _ = _; rw [headerF, if_neg (by simp [ha, hr]), if_pos hz]
        by_cases hz1 : 3 < bl.length
        · have hzI : (3 : Int) < bl.length := by omega
          go_enter Tryd.func22, Tryd.ntmps22
          go_wp2_with (first | (go_at_call 41; first | (refine (isNode_true _ _ (by omega)).mono ?_; rintro e w' ⟨rfl, rfl⟩) | (refine (isNode_false _ _ (by omega)).mono ?_; rintro e w' ⟨rfl, rfl⟩)) | (go_at_call 42; first | (refine (isRound_true _ _ (by omega)).mono ?_; rintro e w' ⟨rfl, rfl⟩) | (refine (isRound_false _ _ (by omega)).mono ?_; rintro e w' ⟨rfl, rfl⟩)))
          go_ret
          exact ⟨ret_int hF.out.symm, hA⟩
        · have hzI : ¬ (3 : Int) < bl.length := by omega
          have hzJ : (4 : Int) < pl.length := by omega
          go_enter Tryd.func22, Tryd.ntmps22
          go_wp2_with (first | (go_at_call 41; first | (refine (isNode_true _ _ (by omega)).mono ?_; rintro e w' ⟨rfl, rfl⟩) | (refine (isNode_false _ _ (by omega)).mono ?_; rintro e w' ⟨rfl, rfl⟩)) | (go_at_call 42; first | (refine (isRound_true _ _ (by omega)).mono ?_; rintro e w' ⟨rfl, rfl⟩) | (refine (isRound_false _ _ (by omega)).mono ?_; rintro e w' ⟨rfl, rfl⟩)))
          go_ret
          exact ⟨ret_int hF.out.symm, hA⟩
      · have hF : Hid (headerF au rd bl pl = if digF bl ≠ 0 then digF bl else if digF pl ≠ 0 then digF pl else parentsF rd pl.length) := by show _ = _; rw [headerF, if_neg (by simp [ha, hr]), if_neg hz]
        have hzI : ¬ (3 : Int) < bl.length := by omega
        have hzJ : ¬ (4 : Int) < pl.length := by omega
        go_enter Tryd.func22, Tryd.ntmps22
        go_wp2_with (first | (go_at_call 41; first | (refine (isNode_true _ _ (by omega)).mono ?_; rintro e w' ⟨rfl, rfl⟩) | (refine (isNode_false _ _ (by omega)).mono ?_; rintro e w' ⟨rfl, rfl⟩)) | (go_at_call 42; first | (refine (isRound_true _ _ (by omega)).mono ?_; rintro e w' ⟨rfl, rfl⟩) | (refine (isRound_false _ _ (by omega)).mono ?_; rintro e w' ⟨rfl, rfl⟩)))
        refine (checkDigests_any bl ba _ bc _ rfl hb.le hb.max hb.small hb.some (hb.parts.below hA)).mono ?_
        rintro e w1 ⟨he, hb1⟩
        subst he
        dsimp only
        have r1 := row_new hb1
        replace hb1 := below_alloc hb1
        have c3 : w1.cell? ⟨w.heap.size, 3, none⟩ = some (.slice pa pl.length pc) := cells_at r1 3 _ rfl
        by_cases h1 : digF bl = 0
        · rw [h1] at hF ⊢
          go_wp2_with fail
          refine (checkDigests_any pl pa _ pc _ rfl hp.le hp.max hp.small hp.some (hp.parts.below hb1)).mono ?_
          rintro e w2 ⟨he, hb2⟩
          subst he
          dsimp only
          have r2 := (hb2.block _ (lt_of_heap r1)).trans r1
          have hb12 := hb1.trans (hb2.mono hb1.size)
          have c1 : w2.cell? ⟨w.heap.size, 1, none⟩ = some (.int .i64 rd) := cells_at r2 1 _ rfl
          have c3' : w2.cell? ⟨w.heap.size, 3, none⟩ = some (.slice pa pl.length pc) := cells_at r2 3 _ rfl
          clear c3 r1 r2
          by_cases h2 : digF pl = 0
          · rw [h2] at hF ⊢
            go_wp2_with fail
            refine (checkParents_any rd pl.length w2 (by omega)).mono ?_
            rintro e w3 ⟨he, rfl⟩
            subst he
            dsimp only
            go_wp2_with fail
            go_ret
            exact ⟨ret_int (by rw [hF.out]; rfl), hb12⟩
          · rw [if_neg (by simp), if_pos h2] at hF
            generalize digF pl = z at *
            go_wp2_with fail
            go_ret
            exact ⟨ret_int hF.out.symm, hb12⟩
        · rw [if_pos h1] at hF
          generalize digF bl = z at *
          go_wp2_with fail
          go_ret
          exact ⟨ret_int hF.out.symm, hb1⟩
    · have hF : Hid (headerF au rd bl pl = 2) := by show _ = _; simp [headerF, hr]
      go_enter Tryd.func22, Tryd.ntmps22
      go_wp2_with (first | (go_at_call 41; first | (refine (isNode_true _ _ (by omega)).mono ?_; rintro e w' ⟨rfl, rfl⟩) | (refine (isNode_false _ _ (by omega)).mono ?_; rintro e w' ⟨rfl, rfl⟩)) | (go_at_call 42; first | (refine (isRound_true _ _ (by omega)).mono ?_; rintro e w' ⟨rfl, rfl⟩) | (refine (isRound_false _ _ (by omega)).mono ?_; rintro e w' ⟨rfl, rfl⟩)))
      go_ret
      exact ⟨ret_int hF.out.symm, hA⟩
  · have hF : Hid (headerF au rd bl pl = 2) := by show _ = _; simp [headerF, ha]
    go_enter Tryd.func22, Tryd.ntmps22
    go_wp2_with (first | (go_at_call 41; first | (refine (isNode_true _ _ (by omega)).mono ?_; rintro e w' ⟨rfl, rfl⟩) | (refine (isNode_false _ _ (by omega)).mono ?_; rintro e w' ⟨rfl, rfl⟩)) | (go_at_call 42; first | (refine (isRound_true _ _ (by omega)).mono ?_; rintro e w' ⟨rfl, rfl⟩) | (refine (isRound_false _ _ (by omega)).mono ?_; rintro e w' ⟨rfl, rfl⟩)))
    go_ret
    exact ⟨ret_int hF.out.symm, hA⟩
end Go.Proofs.YtcecjdoabnhcgaaDoor

namespace Go.Proofs.YtcecjdoabnhcgaaDoor
open Go.RowKit

/-- The digest of a tag and of one part. -/
def tagD (tag : Int) (bs : List Int) : List Int := sumL (tagTo tag [⟨none, 0, bs⟩] 1)
set_option maxRecDepth 100000 in
theorem tagD_length (tag : Int) (bs : List Int) : (tagD tag bs).length = 32 := sumL_length _
set_option maxRecDepth 100000 in
theorem tagTo_part (tag : Int) (sa : Option Addr) (c : Nat) (bs : List Int) : tagTo tag [⟨sa, c, bs⟩] 1 = tagTo tag [⟨none, 0, bs⟩] 1 := by simp [tagTo]
set_option maxRecDepth 100000 in
theorem one_part (w : World) (sa : Option Addr) (n cap : Nat) (bs : List Int) (hn : n = bs.length) (hs : SliceAt w sa cap bs) : PartsAt (w.alloc (.cells #[.slice sa n cap] 25)) (some ⟨w.heap.size, 0, none⟩) [⟨sa, cap, bs⟩] := by
  refine ⟨.inr ⟨w.heap.size, 0, rfl, fun j hj => ?_⟩, fun p hp => ?_⟩
  · obtain rfl : j = 0 := by simpa using hj
    subst hn
    exact laid_cell w _ _ 0 _ rfl
  · obtain rfl : p = ⟨sa, cap, bs⟩ := by simpa using hp
    exact hs.below ((Below.refl _ _).alloc (Nat.le_refl _) _)
set_option maxRecDepth 100000 in
set_option maxHeartbeats 1000000 in
theorem batchDigest_bad (au nu : Int) (sa : Option Addr) (n cap : Nat) (ss : List ByteArray) (ec : Int) (w : World) (hn : n = ss.length) (hm : n ≤ maxLen) (hs : StrsAt w sa ss) (he : batchF au nu ss = ec) (h0 : ec ≠ 0) :
    Calls Tryd.prog 8 #[.agg #[.int .i64 au, .int .i64 nu, .slice sa n cap]] w fun e w' => e = .returned (.tuple #[.slice none 0 0, .int .i64 ec]) ∧ Below w.heap.size w w' := by
  have hA : Below w.heap.size w (w.alloc (.cells #[.int .i64 au, .int .i64 nu, .slice sa n cap] 24)) := (Below.refl _ _).alloc (Nat.le_refl _) _
  have hC := checkBatch_any au nu sa n cap ss _ hn hm (hs.below hA)
  rw [he] at hC
  clear hn hm he
  go_enter Tryd.func8, Tryd.ntmps8
  go_wp2_with fail
  refine hC.mono ?_
  rintro e w1 ⟨rfl, hb1⟩
  go_wp2_with fail
  go_ret2
  exact ⟨rfl, below_alloc hb1⟩
set_option maxRecDepth 100000 in
set_option maxHeartbeats 1000000 in
theorem headerDigest_bad (au rd : Int) (ba : Option Addr) (bn bc : Nat) (bl : List Part) (pa : Option Addr) (pn pc : Nat) (pl : List Part) (ec : Int) (w : World) (hbn : bn = bl.length) (hpn : pn = pl.length) (hb : ListAt w ba bc bl) (hp : ListAt w pa pc pl) (he : headerF au rd bl pl = ec) (h0 : ec ≠ 0) :
    Calls Tryd.prog 12 #[.agg #[.int .i64 au, .int .i64 rd, .slice ba bn bc, .slice pa pn pc]] w fun e w' => e = .returned (.tuple #[.slice none 0 0, .int .i64 ec]) ∧ Below w.heap.size w w' := by
  have hA : Below w.heap.size w (w.alloc (.cells #[.int .i64 au, .int .i64 rd, .slice ba bn bc, .slice pa pn pc] 33)) := (Below.refl _ _).alloc (Nat.le_refl _) _
  have hC := checkHeader_any au rd ba bc bl pa pc pl _ (hb.below hA) (hp.below hA)
  rw [he, ← hbn, ← hpn] at hC
  clear hbn hpn he
  go_enter Tryd.func12, Tryd.ntmps12
  go_wp2_with fail
  refine hC.mono ?_
  rintro e w1 ⟨rfl, hb1⟩
  go_wp2_with fail
  go_ret2
  exact ⟨rfl, below_alloc hb1⟩
set_option maxRecDepth 100000 in
set_option maxHeartbeats 1000000 in
theorem batchDigest_ok (au nu : Int) (sa : Option Addr) (n cap : Nat) (ss : List ByteArray) (w : World) (hn : n = ss.length) (hs : StrsAt w sa ss) (hF : batchF au nu ss = 0) (ha : 0 ≤ au ∧ au < 4) (hr : 0 ≤ nu ∧ nu ≤ 1048576) (hl : ss.length ≤ 4) (hz : ∀ s ∈ ss, s.size ≤ 20) (hsb : ∀ sb so, sa = some ⟨sb, so, none⟩ → sb < w.heap.size) (hT : Tabs w) :
    Calls Tryd.prog 8 #[.agg #[.int .i64 au, .int .i64 nu, .slice sa n cap]] w fun e w' => ∃ b, e = .returned (.tuple #[.slice (some ⟨b, 0, none⟩) 32 32, .int .i64 0]) ∧ w.heap.size ≤ b ∧ Below w.heap.size w w' ∧ SliceAt w' (some ⟨b, 0, none⟩) 32 (tagD 1 (batchB au nu ss)) := by
  have hA : Below w.heap.size w (w.alloc (.cells #[.int .i64 au, .int .i64 nu, .slice sa n cap] 24)) := (Below.refl _ _).alloc (Nat.le_refl _) _
  have hC := checkBatch_any au nu sa n cap ss _ hn (by rw [hn]; unfold maxLen; omega) (hs.below hA)
  rw [hF] at hC
  have hle := txsB_le ss hz
  have Hn : Hid (n = ss.length) := hn
  clear hn hF
  go_enter Tryd.func8, Tryd.ntmps8
  go_wp2_with fail
  refine hC.mono ?_
  rintro e w1 ⟨rfl, hb1⟩
  have r1 := row_new hb1
  replace hb1 := below_alloc hb1
  have c0 : w1.cell? ⟨w.heap.size, 0, none⟩ = some (.int .i64 au) := cells_at r1 0 _ rfl
  have c1 : w1.cell? ⟨w.heap.size, 1, none⟩ = some (.int .i64 nu) := cells_at r1 1 _ rfl
  have c2 : w1.cell? ⟨w.heap.size, 2, none⟩ = some (.slice sa n cap) := cells_at r1 2 _ rfl
  have hsz := hb1.size
  clear hC
  go_wp2_with fail
  refine (appendBatch_any w1.heap.size (.slice none 0 0) 0 [] au nu sa n cap ss w1 ha hr Hn.out hl hz (hs.below hb1) (fun sb so e => ⟨Nat.lt_of_lt_of_le (hsb sb so e) hsz, fun h => by cases h⟩) (World.ownsRow_nil _ _ _ _) (Nat.le_refl _) (by decide)).mono ?_
  rintro e w2 ⟨v2, rfl, ho2, G2⟩
  have hb2 : Below w1.heap.size w1 w2 := G2.below (Nat.le_refl _) (fun q e => by cases e)
  rw [Nat.zero_add, List.nil_append] at ho2
  obtain ⟨xa, xc, hv, hxl, hx⟩ := owns_form ho2
  subst hv
  have hW2 := hb1.trans (hb2.mono hsz)
  have HX : Hid _ := hxl
  have hbl : (batchB au nu ss).length ≤ 100 := by simp [batchB, rd3]; omega
  have hA2 : Below w2.heap.size w2 (w2.alloc (.cells #[.slice xa (batchB au nu ss).length xc] 25)) := (Below.refl _ _).alloc (Nat.le_refl _) _
  clear hxl ho2 G2
  generalize hBB : batchB au nu ss = B at *
  have HB : Hid _ := hBB
  clear hBB
  go_wp2_with fail
  refine (tagged_ok 1 [⟨xa, xc, B⟩] _ _ _ _ rfl (one_part w2 xa _ xc B rfl hx) (by simp [psz]; omega) ((hT.below hW2).below hA2)).mono ?_
  rintro e w3 ⟨b, rfl, hle3, hb3, hr3⟩
  go_wp2_with fail
  go_ret2
  refine ⟨b, rfl, ?_, ?_, ?_⟩
  · rw [size_alloc] at hle3; have := hW2.size; omega
  · exact hW2.trans ((below_alloc hb3).mono hW2.size)
  · rw [tagD, HB.out, ← tagTo_part 1 xa xc B]; exact hr3
set_option maxRecDepth 100000 in
set_option maxHeartbeats 1000000 in
theorem headerDigest_ok (au rd : Int) (ba : Option Addr) (bn bc : Nat) (bl : List Part) (pa : Option Addr) (pn pc : Nat) (pl : List Part) (w : World) (hbn : bn = bl.length) (hpn : pn = pl.length) (hb : ListAt w ba bc bl) (hp : ListAt w pa pc pl) (hOb : Off w (.slice none 0 0) ba bl) (hOp : Off w (.slice none 0 0) pa pl) (hF : headerF au rd bl pl = 0) (ha : 0 ≤ au ∧ au < 4) (hr : 0 ≤ rd ∧ rd ≤ 1048576) (hbl : bl.length ≤ 4) (hpl : pl.length ≤ 4) (hb32 : ∀ p ∈ bl, p.bs.length = 32) (hp32 : ∀ p ∈ pl, p.bs.length = 32) (hT : Tabs w) :
    Calls Tryd.prog 12 #[.agg #[.int .i64 au, .int .i64 rd, .slice ba bn bc, .slice pa pn pc]] w fun e w' => ∃ b, e = .returned (.tuple #[.slice (some ⟨b, 0, none⟩) 32 32, .int .i64 0]) ∧ w.heap.size ≤ b ∧ Below w.heap.size w w' ∧ SliceAt w' (some ⟨b, 0, none⟩) 32 (tagD 2 (headB au rd bl pl)) := by
  have hA : Below w.heap.size w (w.alloc (.cells #[.int .i64 au, .int .i64 rd, .slice ba bn bc, .slice pa pn pc] 33)) := (Below.refl _ _).alloc (Nat.le_refl _) _
  have hC := checkHeader_any au rd ba bc bl pa pc pl _ (hb.below hA) (hp.below hA)
  rw [hF, ← hbn, ← hpn] at hC
  have hle1 := flatB_length bl hb32
  have hle2 := flatB_length pl hp32
  have Hn : Hid (bn = bl.length) := hbn
  have Hp : Hid (pn = pl.length) := hpn
  clear hbn hpn hF
  go_enter Tryd.func12, Tryd.ntmps12
  go_wp2_with fail
  refine hC.mono ?_
  rintro e w1 ⟨rfl, hb1⟩
  have r1 := row_new hb1
  replace hb1 := below_alloc hb1
  have c0 : w1.cell? ⟨w.heap.size, 0, none⟩ = some (.int .i64 au) := cells_at r1 0 _ rfl
  have c1 : w1.cell? ⟨w.heap.size, 1, none⟩ = some (.int .i64 rd) := cells_at r1 1 _ rfl
  have c2 : w1.cell? ⟨w.heap.size, 2, none⟩ = some (.slice ba bn bc) := cells_at r1 2 _ rfl
  have c3 : w1.cell? ⟨w.heap.size, 3, none⟩ = some (.slice pa pn pc) := cells_at r1 3 _ rfl
  have hsz := hb1.size
  clear hC
  have hO1 : Off w1 (.slice none 0 0) ba bl := ⟨fun sb so e => ⟨Nat.lt_of_lt_of_le (hOb.row sb so e).1 hsz, fun h => by cases h⟩, fun p hp sb so e => ⟨Nat.lt_of_lt_of_le (hOb.each p hp sb so e).1 hsz, fun h => by cases h⟩⟩
  have hO2 : Off w1 (.slice none 0 0) pa pl := ⟨fun sb so e => ⟨Nat.lt_of_lt_of_le (hOp.row sb so e).1 hsz, fun h => by cases h⟩, fun p hp sb so e => ⟨Nat.lt_of_lt_of_le (hOp.each p hp sb so e).1 hsz, fun h => by cases h⟩⟩
  go_wp2_with fail
  refine (appendHeader_any w1.heap.size (.slice none 0 0) 0 [] au rd ba bn bc bl pa pn pc pl w1 ha hr Hn.out Hp.out hbl hpl hb32 hp32 (hb.below hb1) hO1 (hp.below hb1) hO2 (World.ownsRow_nil _ _ _ _) (Nat.le_refl _) (by decide)).mono ?_
  rintro e w2 ⟨v2, rfl, ho2, G2⟩
  have hb2 : Below w1.heap.size w1 w2 := G2.below (Nat.le_refl _) (fun q e => by cases e)
  rw [Nat.zero_add, List.nil_append] at ho2
  obtain ⟨xa, xc, hv, hxl, hx⟩ := owns_form ho2
  subst hv
  have hW2 := hb1.trans (hb2.mono hsz)
  have HX : Hid _ := hxl
  have hbl' : (headB au rd bl pl).length ≤ 300 := by simp [headB, rd3, digsB]; omega
  have hA2 : Below w2.heap.size w2 (w2.alloc (.cells #[.slice xa (headB au rd bl pl).length xc] 25)) := (Below.refl _ _).alloc (Nat.le_refl _) _
  clear hxl ho2 G2
  generalize hBB : headB au rd bl pl = B at *
  have HB : Hid _ := hBB
  clear hBB
  go_wp2_with fail
  refine (tagged_ok 2 [⟨xa, xc, B⟩] _ _ _ _ rfl (one_part w2 xa _ xc B rfl hx) (by simp [psz]; omega) ((hT.below hW2).below hA2)).mono ?_
  rintro e w3 ⟨b, rfl, hle3, hb3, hr3⟩
  go_wp2_with fail
  go_ret2
  refine ⟨b, rfl, ?_, ?_, ?_⟩
  · rw [size_alloc] at hle3; have := hW2.size; omega
  · exact hW2.trans ((below_alloc hb3).mono hW2.size)
  · rw [tagD, HB.out, ← tagTo_part 2 xa xc B]; exact hr3
end Go.Proofs.YtcecjdoabnhcgaaDoor

namespace Go.Proofs.YtcecjdoabnhcgaaDoor
open Go.RowKit

set_option maxRecDepth 100000 in
set_option maxHeartbeats 400000 in
theorem isEmptyBatch_bool (au nu : Int) (sa : Option Addr) (n c : Nat) (r : Bool) (w : World) (h : r = decide (au = 0 ∧ nu = 0 ∧ n = 0)) :
    Calls Tryd.prog 66 #[.agg #[.int .i64 au, .int .i64 nu, .slice sa n c]] w fun e w' => e = .returned (.bool r) ∧ Below w.heap.size w w' := by
  by_cases h1 : au = 0
  · by_cases h2 : nu = 0
    · by_cases h3 : n = 0
      · obtain rfl : r = true := by simp [h, h1, h2, h3]
        clear h
        go_enter Tryd.func66, Tryd.ntmps66
        go_wp2_with fail
        go_ret
        exact ⟨by first | rfl | exact ret_bool (beq_eq_false_iff_ne.2 (by omega)), (Below.refl _ _).alloc (Nat.le_refl _) _⟩
      · have h3I : ¬ (n : Int) = 0 := by omega
        obtain rfl : r = false := by simp [h, h3]
        clear h
        go_enter Tryd.func66, Tryd.ntmps66
        go_wp2_with fail
        go_ret
        exact ⟨by first | rfl | exact ret_bool (beq_eq_false_iff_ne.2 (by omega)), (Below.refl _ _).alloc (Nat.le_refl _) _⟩
    · obtain rfl : r = false := by simp [h, h2]
      clear h
      go_enter Tryd.func66, Tryd.ntmps66
      go_wp2_with fail
      go_ret
      exact ⟨by first | rfl | exact ret_bool (beq_eq_false_iff_ne.2 (by omega)), (Below.refl _ _).alloc (Nat.le_refl _) _⟩
  · obtain rfl : r = false := by simp [h, h1]
    clear h
    go_enter Tryd.func66, Tryd.ntmps66
    go_wp2_with fail
    go_ret
    exact ⟨by first | rfl | exact ret_bool (beq_eq_false_iff_ne.2 (by omega)), (Below.refl _ _).alloc (Nat.le_refl _) _⟩

set_option maxRecDepth 100000 in
set_option maxHeartbeats 400000 in
theorem isEmptySlot_bool (au nu : Int) (sa : Option Addr) (n c : Nat) (r : Bool) (w : World) (h : r = decide (au = 0 ∧ nu = 0 ∧ n = 0)) :
    Calls Tryd.prog 68 #[.agg #[.int .i64 au, .int .i64 nu, .slice sa n c]] w fun e w' => e = .returned (.bool r) ∧ Below w.heap.size w w' := by
  by_cases h1 : au = 0
  · by_cases h2 : nu = 0
    · by_cases h3 : n = 0
      · obtain rfl : r = true := by simp [h, h1, h2, h3]
        clear h
        go_enter Tryd.func68, Tryd.ntmps68
        go_wp2_with fail
        go_ret
        exact ⟨by first | rfl | exact ret_bool (beq_eq_false_iff_ne.2 (by omega)), (Below.refl _ _).alloc (Nat.le_refl _) _⟩
      · have h3I : ¬ (n : Int) = 0 := by omega
        obtain rfl : r = false := by simp [h, h3]
        clear h
        go_enter Tryd.func68, Tryd.ntmps68
        go_wp2_with fail
        go_ret
        exact ⟨by first | rfl | exact ret_bool (beq_eq_false_iff_ne.2 (by omega)), (Below.refl _ _).alloc (Nat.le_refl _) _⟩
    · obtain rfl : r = false := by simp [h, h2]
      clear h
      go_enter Tryd.func68, Tryd.ntmps68
      go_wp2_with fail
      go_ret
      exact ⟨by first | rfl | exact ret_bool (beq_eq_false_iff_ne.2 (by omega)), (Below.refl _ _).alloc (Nat.le_refl _) _⟩
  · obtain rfl : r = false := by simp [h, h1]
    clear h
    go_enter Tryd.func68, Tryd.ntmps68
    go_wp2_with fail
    go_ret
    exact ⟨by first | rfl | exact ret_bool (beq_eq_false_iff_ne.2 (by omega)), (Below.refl _ _).alloc (Nat.le_refl _) _⟩

set_option maxRecDepth 100000 in
set_option maxHeartbeats 400000 in
theorem isEmptyHeader_bool (au nu : Int) (sa : Option Addr) (n c : Nat) (sb : Option Addr) (m d : Nat) (r : Bool) (w : World) (h : r = decide (au = 0 ∧ nu = 0 ∧ n = 0 ∧ m = 0)) :
    Calls Tryd.prog 67 #[.agg #[.int .i64 au, .int .i64 nu, .slice sa n c, .slice sb m d]] w fun e w' => e = .returned (.bool r) ∧ Below w.heap.size w w' := by
  by_cases h1 : au = 0
  · by_cases h2 : nu = 0
    · by_cases h3 : n = 0
      · by_cases h4 : m = 0
        · obtain rfl : r = true := by simp [h, h1, h2, h3, h4]
          clear h
          go_enter Tryd.func67, Tryd.ntmps67
          go_wp2_with fail
          go_ret
          exact ⟨by first | rfl | exact ret_bool (beq_eq_false_iff_ne.2 (by omega)), (Below.refl _ _).alloc (Nat.le_refl _) _⟩
        · have h4I : ¬ (m : Int) = 0 := by omega
          obtain rfl : r = false := by simp [h, h4]
          clear h
          go_enter Tryd.func67, Tryd.ntmps67
          go_wp2_with fail
          go_ret
          exact ⟨by first | rfl | exact ret_bool (beq_eq_false_iff_ne.2 (by omega)), (Below.refl _ _).alloc (Nat.le_refl _) _⟩
      · have h3I : ¬ (n : Int) = 0 := by omega
        obtain rfl : r = false := by simp [h, h3]
        clear h
        go_enter Tryd.func67, Tryd.ntmps67
        go_wp2_with fail
        go_ret
        exact ⟨by first | rfl | exact ret_bool (beq_eq_false_iff_ne.2 (by omega)), (Below.refl _ _).alloc (Nat.le_refl _) _⟩
    · obtain rfl : r = false := by simp [h, h2]
      clear h
      go_enter Tryd.func67, Tryd.ntmps67
      go_wp2_with fail
      go_ret
      exact ⟨by first | rfl | exact ret_bool (beq_eq_false_iff_ne.2 (by omega)), (Below.refl _ _).alloc (Nat.le_refl _) _⟩
  · obtain rfl : r = false := by simp [h, h1]
    clear h
    go_enter Tryd.func67, Tryd.ntmps67
    go_wp2_with fail
    go_ret
    exact ⟨by first | rfl | exact ret_bool (beq_eq_false_iff_ne.2 (by omega)), (Below.refl _ _).alloc (Nat.le_refl _) _⟩
set_option maxRecDepth 100000 in
theorem isEmptyBatch_true (au nu : Int) (sa : Option Addr) (n c : Nat) (w : World) (h : au = 0 ∧ nu = 0 ∧ n = 0) : Calls Tryd.prog 66 #[.agg #[.int .i64 au, .int .i64 nu, .slice sa n c]] w fun e w' => e = .returned (.bool true) ∧ Below w.heap.size w w' := isEmptyBatch_bool _ _ _ _ _ true w (by simp [h])
set_option maxRecDepth 100000 in
theorem isEmptyBatch_false (au nu : Int) (sa : Option Addr) (n c : Nat) (w : World) (h : ¬ (au = 0 ∧ nu = 0 ∧ n = 0)) : Calls Tryd.prog 66 #[.agg #[.int .i64 au, .int .i64 nu, .slice sa n c]] w fun e w' => e = .returned (.bool false) ∧ Below w.heap.size w w' := isEmptyBatch_bool _ _ _ _ _ false w (by rw [decide_eq_false h])
set_option maxRecDepth 100000 in
theorem isEmptySlot_true (au nu : Int) (sa : Option Addr) (n c : Nat) (w : World) (h : au = 0 ∧ nu = 0 ∧ n = 0) : Calls Tryd.prog 68 #[.agg #[.int .i64 au, .int .i64 nu, .slice sa n c]] w fun e w' => e = .returned (.bool true) ∧ Below w.heap.size w w' := isEmptySlot_bool _ _ _ _ _ true w (by simp [h])
set_option maxRecDepth 100000 in
theorem isEmptySlot_false (au nu : Int) (sa : Option Addr) (n c : Nat) (w : World) (h : ¬ (au = 0 ∧ nu = 0 ∧ n = 0)) : Calls Tryd.prog 68 #[.agg #[.int .i64 au, .int .i64 nu, .slice sa n c]] w fun e w' => e = .returned (.bool false) ∧ Below w.heap.size w w' := isEmptySlot_bool _ _ _ _ _ false w (by rw [decide_eq_false h])
set_option maxRecDepth 100000 in
theorem isEmptyHeader_true (au nu : Int) (sa : Option Addr) (n c : Nat) (sb : Option Addr) (m d : Nat) (w : World) (h : au = 0 ∧ nu = 0 ∧ n = 0 ∧ m = 0) : Calls Tryd.prog 67 #[.agg #[.int .i64 au, .int .i64 nu, .slice sa n c, .slice sb m d]] w fun e w' => e = .returned (.bool true) ∧ Below w.heap.size w w' := isEmptyHeader_bool _ _ _ _ _ _ _ _ true w (by simp [h])
set_option maxRecDepth 100000 in
theorem isEmptyHeader_false (au nu : Int) (sa : Option Addr) (n c : Nat) (sb : Option Addr) (m d : Nat) (w : World) (h : ¬ (au = 0 ∧ nu = 0 ∧ n = 0 ∧ m = 0)) : Calls Tryd.prog 67 #[.agg #[.int .i64 au, .int .i64 nu, .slice sa n c, .slice sb m d]] w fun e w' => e = .returned (.bool false) ∧ Below w.heap.size w w' := isEmptyHeader_bool _ _ _ _ _ _ _ _ false w (by rw [decide_eq_false h])
end Go.Proofs.YtcecjdoabnhcgaaDoor

namespace Go.Proofs.YtcecjdoabnhcgaaDoor
open Go.RowKit

/-- A message: its numbers and its slices. -/
structure Msg where
  (fr tt ki bau bnu hau hrd sau srd cau crd ro : Int)
  (bta hba hpa sda cba cpa cva : Option Addr)
  (btn btc hbn hbc hpn hpc sdn sdc cbn cbc cpn cpc cvn cvc : Nat)
def Msg.cells (m : Msg) : Array Value := #[.int .i64 m.fr, .int .i64 m.tt, .int .i64 m.ki, .int .i64 m.bau, .int .i64 m.bnu, .slice m.bta m.btn m.btc, .int .i64 m.hau, .int .i64 m.hrd, .slice m.hba m.hbn m.hbc, .slice m.hpa m.hpn m.hpc, .int .i64 m.sau, .int .i64 m.srd, .slice m.sda m.sdn m.sdc, .int .i64 m.cau, .int .i64 m.crd, .slice m.cba m.cbn m.cbc, .slice m.cpa m.cpn m.cpc, .slice m.cva m.cvn m.cvc, .int .i64 m.ro]
def msgEmpty (m : Msg) : Bool := decide ((m.bau = 0 ∧ m.bnu = 0 ∧ m.btn = 0) ∧ (m.hau = 0 ∧ m.hrd = 0 ∧ m.hbn = 0 ∧ m.hpn = 0) ∧ (m.sau = 0 ∧ m.srd = 0 ∧ m.sdn = 0) ∧ (m.cau = 0 ∧ m.crd = 0 ∧ m.cbn = 0 ∧ m.cpn = 0) ∧ m.cvn = 0 ∧ m.ro = 0)

set_option maxRecDepth 100000 in
set_option maxHeartbeats 2000000 in
theorem isEmpty_bool (m : Msg) (r : Bool) (w : World) (h : r = msgEmpty m) :
    Calls Tryd.prog 54 #[.agg #[.int .i64 m.fr, .int .i64 m.tt, .int .i64 m.ki, .int .i64 m.bau, .int .i64 m.bnu, .slice m.bta m.btn m.btc, .int .i64 m.hau, .int .i64 m.hrd, .slice m.hba m.hbn m.hbc, .slice m.hpa m.hpn m.hpc, .int .i64 m.sau, .int .i64 m.srd, .slice m.sda m.sdn m.sdc, .int .i64 m.cau, .int .i64 m.crd, .slice m.cba m.cbn m.cbc, .slice m.cpa m.cpn m.cpc, .slice m.cva m.cvn m.cvc, .int .i64 m.ro]] w fun e w' => e = .returned (.bool r) ∧ Below w.heap.size w w' := by
  by_cases e1 : m.bau = 0 ∧ m.bnu = 0 ∧ m.btn = 0
  · by_cases e2 : m.hau = 0 ∧ m.hrd = 0 ∧ m.hbn = 0 ∧ m.hpn = 0
    · by_cases e3 : m.sau = 0 ∧ m.srd = 0 ∧ m.sdn = 0
      · by_cases e4 : m.cau = 0 ∧ m.crd = 0 ∧ m.cbn = 0 ∧ m.cpn = 0
        · by_cases e5 : m.cvn = 0
          · by_cases e6 : m.ro = 0
            · obtain rfl : r = true := by simp [h, msgEmpty, e1, e2, e3, e4, e5, e6]
              clear h
              go_enter Tryd.func54, Tryd.ntmps54
              go_wp2_with fail
              refine (isEmptyBatch_true _ _ _ _ _ _ (by omega)).mono ?_
              rintro e w1 ⟨rfl, hb1⟩
              have r1 := row_new hb1
              replace hb1 := below_alloc hb1
              have c6 := cells_at r1 6 _ rfl
              have c7 := cells_at r1 7 _ rfl
              have c8 := cells_at r1 8 _ rfl
              have c9 := cells_at r1 9 _ rfl
              go_wp2_with fail
              clear c6 c7 c8 c9
              refine (isEmptyHeader_true _ _ _ _ _ _ _ _ _ (by omega)).mono ?_
              rintro e w2 ⟨rfl, hb2⟩
              have r2 := (hb2.block _ (lt_of_heap r1)).trans r1
              replace hb2 := hb1.trans (hb2.mono hb1.size)
              clear r1
              have c10 := cells_at r2 10 _ rfl
              have c11 := cells_at r2 11 _ rfl
              have c12 := cells_at r2 12 _ rfl
              go_wp2_with fail
              clear c10 c11 c12
              refine (isEmptySlot_true _ _ _ _ _ _ (by omega)).mono ?_
              rintro e w3 ⟨rfl, hb3⟩
              have r3 := (hb3.block _ (lt_of_heap r2)).trans r2
              replace hb3 := hb2.trans (hb3.mono hb2.size)
              clear r2
              have c13 := cells_at r3 13 _ rfl
              have c14 := cells_at r3 14 _ rfl
              have c15 := cells_at r3 15 _ rfl
              have c16 := cells_at r3 16 _ rfl
              go_wp2_with fail
              clear c13 c14 c15 c16
              refine (isEmptyHeader_true _ _ _ _ _ _ _ _ _ (by omega)).mono ?_
              rintro e w4 ⟨rfl, hb4⟩
              have r4 := (hb4.block _ (lt_of_heap r3)).trans r3
              replace hb4 := hb3.trans (hb4.mono hb3.size)
              clear r3
              have c17 := cells_at r4 17 _ rfl
              have c18 := cells_at r4 18 _ rfl
              go_wp2_with fail
              go_ret
              exact ⟨by first | rfl | exact ret_bool (by simp; omega), hb4⟩
            · obtain rfl : r = false := by simp [h, msgEmpty, e6]
              clear h
              go_enter Tryd.func54, Tryd.ntmps54
              go_wp2_with fail
              refine (isEmptyBatch_true _ _ _ _ _ _ (by omega)).mono ?_
              rintro e w1 ⟨rfl, hb1⟩
              have r1 := row_new hb1
              replace hb1 := below_alloc hb1
              have c6 := cells_at r1 6 _ rfl
              have c7 := cells_at r1 7 _ rfl
              have c8 := cells_at r1 8 _ rfl
              have c9 := cells_at r1 9 _ rfl
              go_wp2_with fail
              clear c6 c7 c8 c9
              refine (isEmptyHeader_true _ _ _ _ _ _ _ _ _ (by omega)).mono ?_
              rintro e w2 ⟨rfl, hb2⟩
              have r2 := (hb2.block _ (lt_of_heap r1)).trans r1
              replace hb2 := hb1.trans (hb2.mono hb1.size)
              clear r1
              have c10 := cells_at r2 10 _ rfl
              have c11 := cells_at r2 11 _ rfl
              have c12 := cells_at r2 12 _ rfl
              go_wp2_with fail
              clear c10 c11 c12
              refine (isEmptySlot_true _ _ _ _ _ _ (by omega)).mono ?_
              rintro e w3 ⟨rfl, hb3⟩
              have r3 := (hb3.block _ (lt_of_heap r2)).trans r2
              replace hb3 := hb2.trans (hb3.mono hb2.size)
              clear r2
              have c13 := cells_at r3 13 _ rfl
              have c14 := cells_at r3 14 _ rfl
              have c15 := cells_at r3 15 _ rfl
              have c16 := cells_at r3 16 _ rfl
              go_wp2_with fail
              clear c13 c14 c15 c16
              refine (isEmptyHeader_true _ _ _ _ _ _ _ _ _ (by omega)).mono ?_
              rintro e w4 ⟨rfl, hb4⟩
              have r4 := (hb4.block _ (lt_of_heap r3)).trans r3
              replace hb4 := hb3.trans (hb4.mono hb3.size)
              clear r3
              have c17 := cells_at r4 17 _ rfl
              have c18 := cells_at r4 18 _ rfl
              go_wp2_with fail
              go_ret
              exact ⟨by first | rfl | exact ret_bool (by simp; omega), hb4⟩
          · obtain rfl : r = false := by simp [h, msgEmpty, e5]
            have e5I : ¬ (m.cvn : Int) = 0 := by omega
            clear h
            go_enter Tryd.func54, Tryd.ntmps54
            go_wp2_with fail
            refine (isEmptyBatch_true _ _ _ _ _ _ (by omega)).mono ?_
            rintro e w1 ⟨rfl, hb1⟩
            have r1 := row_new hb1
            replace hb1 := below_alloc hb1
            have c6 := cells_at r1 6 _ rfl
            have c7 := cells_at r1 7 _ rfl
            have c8 := cells_at r1 8 _ rfl
            have c9 := cells_at r1 9 _ rfl
            go_wp2_with fail
            clear c6 c7 c8 c9
            refine (isEmptyHeader_true _ _ _ _ _ _ _ _ _ (by omega)).mono ?_
            rintro e w2 ⟨rfl, hb2⟩
            have r2 := (hb2.block _ (lt_of_heap r1)).trans r1
            replace hb2 := hb1.trans (hb2.mono hb1.size)
            clear r1
            have c10 := cells_at r2 10 _ rfl
            have c11 := cells_at r2 11 _ rfl
            have c12 := cells_at r2 12 _ rfl
            go_wp2_with fail
            clear c10 c11 c12
            refine (isEmptySlot_true _ _ _ _ _ _ (by omega)).mono ?_
            rintro e w3 ⟨rfl, hb3⟩
            have r3 := (hb3.block _ (lt_of_heap r2)).trans r2
            replace hb3 := hb2.trans (hb3.mono hb2.size)
            clear r2
            have c13 := cells_at r3 13 _ rfl
            have c14 := cells_at r3 14 _ rfl
            have c15 := cells_at r3 15 _ rfl
            have c16 := cells_at r3 16 _ rfl
            go_wp2_with fail
            clear c13 c14 c15 c16
            refine (isEmptyHeader_true _ _ _ _ _ _ _ _ _ (by omega)).mono ?_
            rintro e w4 ⟨rfl, hb4⟩
            have r4 := (hb4.block _ (lt_of_heap r3)).trans r3
            replace hb4 := hb3.trans (hb4.mono hb3.size)
            clear r3
            have c17 := cells_at r4 17 _ rfl
            have c18 := cells_at r4 18 _ rfl
            go_wp2_with fail
            go_ret
            exact ⟨by first | rfl | exact ret_bool (by simp; omega), hb4⟩
        · obtain rfl : r = false := by rw [h]; exact decide_eq_false (fun q => e4 q.2.2.2.1)
          clear h
          go_enter Tryd.func54, Tryd.ntmps54
          go_wp2_with fail
          refine (isEmptyBatch_true _ _ _ _ _ _ (by omega)).mono ?_
          rintro e w1 ⟨rfl, hb1⟩
          have r1 := row_new hb1
          replace hb1 := below_alloc hb1
          have c6 := cells_at r1 6 _ rfl
          have c7 := cells_at r1 7 _ rfl
          have c8 := cells_at r1 8 _ rfl
          have c9 := cells_at r1 9 _ rfl
          go_wp2_with fail
          clear c6 c7 c8 c9
          refine (isEmptyHeader_true _ _ _ _ _ _ _ _ _ (by omega)).mono ?_
          rintro e w2 ⟨rfl, hb2⟩
          have r2 := (hb2.block _ (lt_of_heap r1)).trans r1
          replace hb2 := hb1.trans (hb2.mono hb1.size)
          clear r1
          have c10 := cells_at r2 10 _ rfl
          have c11 := cells_at r2 11 _ rfl
          have c12 := cells_at r2 12 _ rfl
          go_wp2_with fail
          clear c10 c11 c12
          refine (isEmptySlot_true _ _ _ _ _ _ (by omega)).mono ?_
          rintro e w3 ⟨rfl, hb3⟩
          have r3 := (hb3.block _ (lt_of_heap r2)).trans r2
          replace hb3 := hb2.trans (hb3.mono hb2.size)
          clear r2
          have c13 := cells_at r3 13 _ rfl
          have c14 := cells_at r3 14 _ rfl
          have c15 := cells_at r3 15 _ rfl
          have c16 := cells_at r3 16 _ rfl
          go_wp2_with fail
          clear c13 c14 c15 c16
          refine (isEmptyHeader_false _ _ _ _ _ _ _ _ _ (by omega)).mono ?_
          rintro e w4 ⟨rfl, hb4⟩
          have r4 := (hb4.block _ (lt_of_heap r3)).trans r3
          replace hb4 := hb3.trans (hb4.mono hb3.size)
          clear r3
          have c17 := cells_at r4 17 _ rfl
          have c18 := cells_at r4 18 _ rfl
          go_wp2_with fail
          go_ret
          exact ⟨by first | rfl | exact ret_bool (by simp; omega), hb4⟩
      · obtain rfl : r = false := by rw [h]; exact decide_eq_false (fun q => e3 q.2.2.1)
        clear h
        go_enter Tryd.func54, Tryd.ntmps54
        go_wp2_with fail
        refine (isEmptyBatch_true _ _ _ _ _ _ (by omega)).mono ?_
        rintro e w1 ⟨rfl, hb1⟩
        have r1 := row_new hb1
        replace hb1 := below_alloc hb1
        have c6 := cells_at r1 6 _ rfl
        have c7 := cells_at r1 7 _ rfl
        have c8 := cells_at r1 8 _ rfl
        have c9 := cells_at r1 9 _ rfl
        go_wp2_with fail
        clear c6 c7 c8 c9
        refine (isEmptyHeader_true _ _ _ _ _ _ _ _ _ (by omega)).mono ?_
        rintro e w2 ⟨rfl, hb2⟩
        have r2 := (hb2.block _ (lt_of_heap r1)).trans r1
        replace hb2 := hb1.trans (hb2.mono hb1.size)
        clear r1
        have c10 := cells_at r2 10 _ rfl
        have c11 := cells_at r2 11 _ rfl
        have c12 := cells_at r2 12 _ rfl
        go_wp2_with fail
        clear c10 c11 c12
        refine (isEmptySlot_false _ _ _ _ _ _ (by omega)).mono ?_
        rintro e w3 ⟨rfl, hb3⟩
        have r3 := (hb3.block _ (lt_of_heap r2)).trans r2
        replace hb3 := hb2.trans (hb3.mono hb2.size)
        clear r2
        have c13 := cells_at r3 13 _ rfl
        have c14 := cells_at r3 14 _ rfl
        have c15 := cells_at r3 15 _ rfl
        have c16 := cells_at r3 16 _ rfl
        go_wp2_with fail
        go_ret
        exact ⟨by first | rfl | exact ret_bool (by simp; omega), hb3⟩
    · obtain rfl : r = false := by rw [h]; exact decide_eq_false (fun q => e2 q.2.1)
      clear h
      go_enter Tryd.func54, Tryd.ntmps54
      go_wp2_with fail
      refine (isEmptyBatch_true _ _ _ _ _ _ (by omega)).mono ?_
      rintro e w1 ⟨rfl, hb1⟩
      have r1 := row_new hb1
      replace hb1 := below_alloc hb1
      have c6 := cells_at r1 6 _ rfl
      have c7 := cells_at r1 7 _ rfl
      have c8 := cells_at r1 8 _ rfl
      have c9 := cells_at r1 9 _ rfl
      go_wp2_with fail
      clear c6 c7 c8 c9
      refine (isEmptyHeader_false _ _ _ _ _ _ _ _ _ (by omega)).mono ?_
      rintro e w2 ⟨rfl, hb2⟩
      have r2 := (hb2.block _ (lt_of_heap r1)).trans r1
      replace hb2 := hb1.trans (hb2.mono hb1.size)
      clear r1
      have c10 := cells_at r2 10 _ rfl
      have c11 := cells_at r2 11 _ rfl
      have c12 := cells_at r2 12 _ rfl
      go_wp2_with fail
      go_ret
      exact ⟨by first | rfl | exact ret_bool (by simp; omega), hb2⟩
  · obtain rfl : r = false := by rw [h]; exact decide_eq_false (fun q => e1 q.1)
    clear h
    go_enter Tryd.func54, Tryd.ntmps54
    go_wp2_with fail
    refine (isEmptyBatch_false _ _ _ _ _ _ (by omega)).mono ?_
    rintro e w1 ⟨rfl, hb1⟩
    have r1 := row_new hb1
    replace hb1 := below_alloc hb1
    have c6 := cells_at r1 6 _ rfl
    have c7 := cells_at r1 7 _ rfl
    have c8 := cells_at r1 8 _ rfl
    have c9 := cells_at r1 9 _ rfl
    go_wp2_with fail
    go_ret
    exact ⟨by first | rfl | exact ret_bool (by simp; omega), hb1⟩
end Go.Proofs.YtcecjdoabnhcgaaDoor

namespace Go.Proofs.YtcecjdoabnhcgaaDoor
open Go.RowKit

set_option maxRecDepth 100000 in
theorem sMsg : (Tryd.prog.info? 49).map (·.size) = some 19 := by kernel_rfl
set_option maxRecDepth 100000 in
set_option maxHeartbeats 1000000 in
theorem without1 (m : Msg) (w : World) (hk : m.ki = 1) :
    Calls Tryd.prog 55 #[.agg #[.int .i64 m.fr, .int .i64 m.tt, .int .i64 m.ki, .int .i64 m.bau, .int .i64 m.bnu, .slice m.bta m.btn m.btc, .int .i64 m.hau, .int .i64 m.hrd, .slice m.hba m.hbn m.hbc, .slice m.hpa m.hpn m.hpc, .int .i64 m.sau, .int .i64 m.srd, .slice m.sda m.sdn m.sdc, .int .i64 m.cau, .int .i64 m.crd, .slice m.cba m.cbn m.cbc, .slice m.cpa m.cpn m.cpc, .slice m.cva m.cvn m.cvc, .int .i64 m.ro]] w fun e w' => e = .returned (.agg #[.int .i64 m.fr, .int .i64 m.tt, .int .i64 1, .int .i64 0, .int .i64 0, .slice none 0 0, .int .i64 m.hau, .int .i64 m.hrd, .slice m.hba m.hbn m.hbc, .slice m.hpa m.hpn m.hpc, .int .i64 m.sau, .int .i64 m.srd, .slice m.sda m.sdn m.sdc, .int .i64 m.cau, .int .i64 m.crd, .slice m.cba m.cbn m.cbc, .slice m.cpa m.cpn m.cpc, .slice m.cva m.cvn m.cvc, .int .i64 m.ro]) ∧ Below w.heap.size w w' := by
  rw [hk]
  have hq := heap_alloc2_old w (.cells #[.int .i64 m.fr, .int .i64 m.tt, .int .i64 1, .int .i64 0, .int .i64 0, .slice none 0 0, .int .i64 m.hau, .int .i64 m.hrd, .slice m.hba m.hbn m.hbc, .slice m.hpa m.hpn m.hpc, .int .i64 m.sau, .int .i64 m.srd, .slice m.sda m.sdn m.sdc, .int .i64 m.cau, .int .i64 m.crd, .slice m.cba m.cbn m.cbc, .slice m.cpa m.cpn m.cpc, .slice m.cva m.cvn m.cvc, .int .i64 m.ro] 49) (.cells #[.int .i64 0, .int .i64 0, .int .i64 0, .int .i64 0, .int .i64 0, .slice none 0 0, .int .i64 0, .int .i64 0, .slice none 0 0, .slice none 0 0, .int .i64 0, .int .i64 0, .slice none 0 0, .int .i64 0, .int .i64 0, .slice none 0 0, .slice none 0 0, .slice none 0 0, .int .i64 0] 49)
  have hq1 := heap_alloc2_new w (.cells #[.int .i64 m.fr, .int .i64 m.tt, .int .i64 1, .int .i64 0, .int .i64 0, .slice none 0 0, .int .i64 m.hau, .int .i64 m.hrd, .slice m.hba m.hbn m.hbc, .slice m.hpa m.hpn m.hpc, .int .i64 m.sau, .int .i64 m.srd, .slice m.sda m.sdn m.sdc, .int .i64 m.cau, .int .i64 m.crd, .slice m.cba m.cbn m.cbc, .slice m.cpa m.cpn m.cpc, .slice m.cva m.cvn m.cvc, .int .i64 m.ro] 49) (.cells #[.int .i64 0, .int .i64 0, .int .i64 0, .int .i64 0, .int .i64 0, .slice none 0 0, .int .i64 0, .int .i64 0, .slice none 0 0, .slice none 0 0, .int .i64 0, .int .i64 0, .slice none 0 0, .int .i64 0, .int .i64 0, .slice none 0 0, .slice none 0 0, .slice none 0 0, .int .i64 0] 49)
  have hB : Below w.heap.size w ((w.alloc (.cells #[.int .i64 m.fr, .int .i64 m.tt, .int .i64 1, .int .i64 0, .int .i64 0, .slice none 0 0, .int .i64 m.hau, .int .i64 m.hrd, .slice m.hba m.hbn m.hbc, .slice m.hpa m.hpn m.hpc, .int .i64 m.sau, .int .i64 m.srd, .slice m.sda m.sdn m.sdc, .int .i64 m.cau, .int .i64 m.crd, .slice m.cba m.cbn m.cbc, .slice m.cpa m.cpn m.cpc, .slice m.cva m.cvn m.cvc, .int .i64 m.ro] 49)).alloc (.cells #[.int .i64 0, .int .i64 0, .int .i64 0, .int .i64 0, .int .i64 0, .slice none 0 0, .int .i64 0, .int .i64 0, .slice none 0 0, .slice none 0 0, .int .i64 0, .int .i64 0, .slice none 0 0, .int .i64 0, .int .i64 0, .slice none 0 0, .slice none 0 0, .slice none 0 0, .int .i64 0] 49)) := ((Below.refl _ _).alloc (Nat.le_refl _) _).alloc (by simp) _
  go_enter Tryd.func55, Tryd.ntmps55
  go_wp2_with (first | refine wpList_load_row rfl 49 _ rfl w.heap.size rfl 49 #[.int .i64 m.fr, .int .i64 m.tt, .int .i64 1, .int .i64 0, .int .i64 0, .slice none 0 0, .int .i64 m.hau, .int .i64 m.hrd, .slice m.hba m.hbn m.hbc, .slice m.hpa m.hpn m.hpc, .int .i64 m.sau, .int .i64 m.srd, .slice m.sda m.sdn m.sdc, .int .i64 m.cau, .int .i64 m.crd, .slice m.cba m.cbn m.cbc, .slice m.cpa m.cpn m.cpc, .slice m.cva m.cvn m.cvc, .int .i64 m.ro] (0, 0) _ hq Tryd.underlying49 rfl sMsg ?_ | refine wpList_store_row rfl 49 _ _ rfl (w.heap.size + 1) #[.int .i64 m.fr, .int .i64 m.tt, .int .i64 1, .int .i64 0, .int .i64 0, .slice none 0 0, .int .i64 m.hau, .int .i64 m.hrd, .slice m.hba m.hbn m.hbc, .slice m.hpa m.hpn m.hpc, .int .i64 m.sau, .int .i64 m.srd, .slice m.sda m.sdn m.sdc, .int .i64 m.cau, .int .i64 m.crd, .slice m.cba m.cbn m.cbc, .slice m.cpa m.cpn m.cpc, .slice m.cva m.cvn m.cvc, .int .i64 m.ro] rfl rfl 49 #[.int .i64 0, .int .i64 0, .int .i64 0, .int .i64 0, .int .i64 0, .slice none 0 0, .int .i64 0, .int .i64 0, .slice none 0 0, .slice none 0 0, .int .i64 0, .int .i64 0, .slice none 0 0, .int .i64 0, .int .i64 0, .slice none 0 0, .slice none 0 0, .slice none 0 0, .int .i64 0] hq1 sMsg rfl (by simp [Value.oneCell']) ?_)
  exact bodyPost_ret (v := .agg #[.int .i64 m.fr, .int .i64 m.tt, .int .i64 1, .int .i64 0, .int .i64 0, .slice none 0 0, .int .i64 m.hau, .int .i64 m.hrd, .slice m.hba m.hbn m.hbc, .slice m.hpa m.hpn m.hpc, .int .i64 m.sau, .int .i64 m.srd, .slice m.sda m.sdn m.sdc, .int .i64 m.cau, .int .i64 m.crd, .slice m.cba m.cbn m.cbc, .slice m.cpa m.cpn m.cpc, .slice m.cva m.cvn m.cvc, .int .i64 m.ro]) (results_cell_row (fn := Tryd.f55) (p := 2) (ty := 49) rfl _ _ (w.heap.size + 1) 49 _ (0, 0) _ rfl (setRow_heap _ _ _ _ _ _ hq1) Tryd.underlying49 rfl sMsg) rfl ⟨rfl, (Upd.setRow hq1).below hB hB.size (by simp)⟩
set_option maxRecDepth 100000 in
set_option maxHeartbeats 1000000 in
theorem without2 (m : Msg) (w : World) (hk : m.ki = 2) :
    Calls Tryd.prog 55 #[.agg #[.int .i64 m.fr, .int .i64 m.tt, .int .i64 m.ki, .int .i64 m.bau, .int .i64 m.bnu, .slice m.bta m.btn m.btc, .int .i64 m.hau, .int .i64 m.hrd, .slice m.hba m.hbn m.hbc, .slice m.hpa m.hpn m.hpc, .int .i64 m.sau, .int .i64 m.srd, .slice m.sda m.sdn m.sdc, .int .i64 m.cau, .int .i64 m.crd, .slice m.cba m.cbn m.cbc, .slice m.cpa m.cpn m.cpc, .slice m.cva m.cvn m.cvc, .int .i64 m.ro]] w fun e w' => e = .returned (.agg #[.int .i64 m.fr, .int .i64 m.tt, .int .i64 2, .int .i64 m.bau, .int .i64 m.bnu, .slice m.bta m.btn m.btc, .int .i64 0, .int .i64 0, .slice none 0 0, .slice none 0 0, .int .i64 m.sau, .int .i64 m.srd, .slice m.sda m.sdn m.sdc, .int .i64 m.cau, .int .i64 m.crd, .slice m.cba m.cbn m.cbc, .slice m.cpa m.cpn m.cpc, .slice m.cva m.cvn m.cvc, .int .i64 m.ro]) ∧ Below w.heap.size w w' := by
  rw [hk]
  have hq := heap_alloc2_old w (.cells #[.int .i64 m.fr, .int .i64 m.tt, .int .i64 2, .int .i64 m.bau, .int .i64 m.bnu, .slice m.bta m.btn m.btc, .int .i64 0, .int .i64 0, .slice none 0 0, .slice none 0 0, .int .i64 m.sau, .int .i64 m.srd, .slice m.sda m.sdn m.sdc, .int .i64 m.cau, .int .i64 m.crd, .slice m.cba m.cbn m.cbc, .slice m.cpa m.cpn m.cpc, .slice m.cva m.cvn m.cvc, .int .i64 m.ro] 49) (.cells #[.int .i64 0, .int .i64 0, .int .i64 0, .int .i64 0, .int .i64 0, .slice none 0 0, .int .i64 0, .int .i64 0, .slice none 0 0, .slice none 0 0, .int .i64 0, .int .i64 0, .slice none 0 0, .int .i64 0, .int .i64 0, .slice none 0 0, .slice none 0 0, .slice none 0 0, .int .i64 0] 49)
  have hq1 := heap_alloc2_new w (.cells #[.int .i64 m.fr, .int .i64 m.tt, .int .i64 2, .int .i64 m.bau, .int .i64 m.bnu, .slice m.bta m.btn m.btc, .int .i64 0, .int .i64 0, .slice none 0 0, .slice none 0 0, .int .i64 m.sau, .int .i64 m.srd, .slice m.sda m.sdn m.sdc, .int .i64 m.cau, .int .i64 m.crd, .slice m.cba m.cbn m.cbc, .slice m.cpa m.cpn m.cpc, .slice m.cva m.cvn m.cvc, .int .i64 m.ro] 49) (.cells #[.int .i64 0, .int .i64 0, .int .i64 0, .int .i64 0, .int .i64 0, .slice none 0 0, .int .i64 0, .int .i64 0, .slice none 0 0, .slice none 0 0, .int .i64 0, .int .i64 0, .slice none 0 0, .int .i64 0, .int .i64 0, .slice none 0 0, .slice none 0 0, .slice none 0 0, .int .i64 0] 49)
  have hB : Below w.heap.size w ((w.alloc (.cells #[.int .i64 m.fr, .int .i64 m.tt, .int .i64 2, .int .i64 m.bau, .int .i64 m.bnu, .slice m.bta m.btn m.btc, .int .i64 0, .int .i64 0, .slice none 0 0, .slice none 0 0, .int .i64 m.sau, .int .i64 m.srd, .slice m.sda m.sdn m.sdc, .int .i64 m.cau, .int .i64 m.crd, .slice m.cba m.cbn m.cbc, .slice m.cpa m.cpn m.cpc, .slice m.cva m.cvn m.cvc, .int .i64 m.ro] 49)).alloc (.cells #[.int .i64 0, .int .i64 0, .int .i64 0, .int .i64 0, .int .i64 0, .slice none 0 0, .int .i64 0, .int .i64 0, .slice none 0 0, .slice none 0 0, .int .i64 0, .int .i64 0, .slice none 0 0, .int .i64 0, .int .i64 0, .slice none 0 0, .slice none 0 0, .slice none 0 0, .int .i64 0] 49)) := ((Below.refl _ _).alloc (Nat.le_refl _) _).alloc (by simp) _
  go_enter Tryd.func55, Tryd.ntmps55
  go_wp2_with (first | refine wpList_load_row rfl 49 _ rfl w.heap.size rfl 49 #[.int .i64 m.fr, .int .i64 m.tt, .int .i64 2, .int .i64 m.bau, .int .i64 m.bnu, .slice m.bta m.btn m.btc, .int .i64 0, .int .i64 0, .slice none 0 0, .slice none 0 0, .int .i64 m.sau, .int .i64 m.srd, .slice m.sda m.sdn m.sdc, .int .i64 m.cau, .int .i64 m.crd, .slice m.cba m.cbn m.cbc, .slice m.cpa m.cpn m.cpc, .slice m.cva m.cvn m.cvc, .int .i64 m.ro] (0, 0) _ hq Tryd.underlying49 rfl sMsg ?_ | refine wpList_store_row rfl 49 _ _ rfl (w.heap.size + 1) #[.int .i64 m.fr, .int .i64 m.tt, .int .i64 2, .int .i64 m.bau, .int .i64 m.bnu, .slice m.bta m.btn m.btc, .int .i64 0, .int .i64 0, .slice none 0 0, .slice none 0 0, .int .i64 m.sau, .int .i64 m.srd, .slice m.sda m.sdn m.sdc, .int .i64 m.cau, .int .i64 m.crd, .slice m.cba m.cbn m.cbc, .slice m.cpa m.cpn m.cpc, .slice m.cva m.cvn m.cvc, .int .i64 m.ro] rfl rfl 49 #[.int .i64 0, .int .i64 0, .int .i64 0, .int .i64 0, .int .i64 0, .slice none 0 0, .int .i64 0, .int .i64 0, .slice none 0 0, .slice none 0 0, .int .i64 0, .int .i64 0, .slice none 0 0, .int .i64 0, .int .i64 0, .slice none 0 0, .slice none 0 0, .slice none 0 0, .int .i64 0] hq1 sMsg rfl (by simp [Value.oneCell']) ?_)
  exact bodyPost_ret (v := .agg #[.int .i64 m.fr, .int .i64 m.tt, .int .i64 2, .int .i64 m.bau, .int .i64 m.bnu, .slice m.bta m.btn m.btc, .int .i64 0, .int .i64 0, .slice none 0 0, .slice none 0 0, .int .i64 m.sau, .int .i64 m.srd, .slice m.sda m.sdn m.sdc, .int .i64 m.cau, .int .i64 m.crd, .slice m.cba m.cbn m.cbc, .slice m.cpa m.cpn m.cpc, .slice m.cva m.cvn m.cvc, .int .i64 m.ro]) (results_cell_row (fn := Tryd.f55) (p := 2) (ty := 49) rfl _ _ (w.heap.size + 1) 49 _ (0, 0) _ rfl (setRow_heap _ _ _ _ _ _ hq1) Tryd.underlying49 rfl sMsg) rfl ⟨rfl, (Upd.setRow hq1).below hB hB.size (by simp)⟩
set_option maxRecDepth 100000 in
set_option maxHeartbeats 1000000 in
theorem without3 (m : Msg) (w : World) (hk : m.ki = 3) :
    Calls Tryd.prog 55 #[.agg #[.int .i64 m.fr, .int .i64 m.tt, .int .i64 m.ki, .int .i64 m.bau, .int .i64 m.bnu, .slice m.bta m.btn m.btc, .int .i64 m.hau, .int .i64 m.hrd, .slice m.hba m.hbn m.hbc, .slice m.hpa m.hpn m.hpc, .int .i64 m.sau, .int .i64 m.srd, .slice m.sda m.sdn m.sdc, .int .i64 m.cau, .int .i64 m.crd, .slice m.cba m.cbn m.cbc, .slice m.cpa m.cpn m.cpc, .slice m.cva m.cvn m.cvc, .int .i64 m.ro]] w fun e w' => e = .returned (.agg #[.int .i64 m.fr, .int .i64 m.tt, .int .i64 3, .int .i64 m.bau, .int .i64 m.bnu, .slice m.bta m.btn m.btc, .int .i64 m.hau, .int .i64 m.hrd, .slice m.hba m.hbn m.hbc, .slice m.hpa m.hpn m.hpc, .int .i64 0, .int .i64 0, .slice none 0 0, .int .i64 m.cau, .int .i64 m.crd, .slice m.cba m.cbn m.cbc, .slice m.cpa m.cpn m.cpc, .slice m.cva m.cvn m.cvc, .int .i64 m.ro]) ∧ Below w.heap.size w w' := by
  rw [hk]
  have hq := heap_alloc2_old w (.cells #[.int .i64 m.fr, .int .i64 m.tt, .int .i64 3, .int .i64 m.bau, .int .i64 m.bnu, .slice m.bta m.btn m.btc, .int .i64 m.hau, .int .i64 m.hrd, .slice m.hba m.hbn m.hbc, .slice m.hpa m.hpn m.hpc, .int .i64 0, .int .i64 0, .slice none 0 0, .int .i64 m.cau, .int .i64 m.crd, .slice m.cba m.cbn m.cbc, .slice m.cpa m.cpn m.cpc, .slice m.cva m.cvn m.cvc, .int .i64 m.ro] 49) (.cells #[.int .i64 0, .int .i64 0, .int .i64 0, .int .i64 0, .int .i64 0, .slice none 0 0, .int .i64 0, .int .i64 0, .slice none 0 0, .slice none 0 0, .int .i64 0, .int .i64 0, .slice none 0 0, .int .i64 0, .int .i64 0, .slice none 0 0, .slice none 0 0, .slice none 0 0, .int .i64 0] 49)
  have hq1 := heap_alloc2_new w (.cells #[.int .i64 m.fr, .int .i64 m.tt, .int .i64 3, .int .i64 m.bau, .int .i64 m.bnu, .slice m.bta m.btn m.btc, .int .i64 m.hau, .int .i64 m.hrd, .slice m.hba m.hbn m.hbc, .slice m.hpa m.hpn m.hpc, .int .i64 0, .int .i64 0, .slice none 0 0, .int .i64 m.cau, .int .i64 m.crd, .slice m.cba m.cbn m.cbc, .slice m.cpa m.cpn m.cpc, .slice m.cva m.cvn m.cvc, .int .i64 m.ro] 49) (.cells #[.int .i64 0, .int .i64 0, .int .i64 0, .int .i64 0, .int .i64 0, .slice none 0 0, .int .i64 0, .int .i64 0, .slice none 0 0, .slice none 0 0, .int .i64 0, .int .i64 0, .slice none 0 0, .int .i64 0, .int .i64 0, .slice none 0 0, .slice none 0 0, .slice none 0 0, .int .i64 0] 49)
  have hB : Below w.heap.size w ((w.alloc (.cells #[.int .i64 m.fr, .int .i64 m.tt, .int .i64 3, .int .i64 m.bau, .int .i64 m.bnu, .slice m.bta m.btn m.btc, .int .i64 m.hau, .int .i64 m.hrd, .slice m.hba m.hbn m.hbc, .slice m.hpa m.hpn m.hpc, .int .i64 0, .int .i64 0, .slice none 0 0, .int .i64 m.cau, .int .i64 m.crd, .slice m.cba m.cbn m.cbc, .slice m.cpa m.cpn m.cpc, .slice m.cva m.cvn m.cvc, .int .i64 m.ro] 49)).alloc (.cells #[.int .i64 0, .int .i64 0, .int .i64 0, .int .i64 0, .int .i64 0, .slice none 0 0, .int .i64 0, .int .i64 0, .slice none 0 0, .slice none 0 0, .int .i64 0, .int .i64 0, .slice none 0 0, .int .i64 0, .int .i64 0, .slice none 0 0, .slice none 0 0, .slice none 0 0, .int .i64 0] 49)) := ((Below.refl _ _).alloc (Nat.le_refl _) _).alloc (by simp) _
  go_enter Tryd.func55, Tryd.ntmps55
  go_wp2_with (first | refine wpList_load_row rfl 49 _ rfl w.heap.size rfl 49 #[.int .i64 m.fr, .int .i64 m.tt, .int .i64 3, .int .i64 m.bau, .int .i64 m.bnu, .slice m.bta m.btn m.btc, .int .i64 m.hau, .int .i64 m.hrd, .slice m.hba m.hbn m.hbc, .slice m.hpa m.hpn m.hpc, .int .i64 0, .int .i64 0, .slice none 0 0, .int .i64 m.cau, .int .i64 m.crd, .slice m.cba m.cbn m.cbc, .slice m.cpa m.cpn m.cpc, .slice m.cva m.cvn m.cvc, .int .i64 m.ro] (0, 0) _ hq Tryd.underlying49 rfl sMsg ?_ | refine wpList_store_row rfl 49 _ _ rfl (w.heap.size + 1) #[.int .i64 m.fr, .int .i64 m.tt, .int .i64 3, .int .i64 m.bau, .int .i64 m.bnu, .slice m.bta m.btn m.btc, .int .i64 m.hau, .int .i64 m.hrd, .slice m.hba m.hbn m.hbc, .slice m.hpa m.hpn m.hpc, .int .i64 0, .int .i64 0, .slice none 0 0, .int .i64 m.cau, .int .i64 m.crd, .slice m.cba m.cbn m.cbc, .slice m.cpa m.cpn m.cpc, .slice m.cva m.cvn m.cvc, .int .i64 m.ro] rfl rfl 49 #[.int .i64 0, .int .i64 0, .int .i64 0, .int .i64 0, .int .i64 0, .slice none 0 0, .int .i64 0, .int .i64 0, .slice none 0 0, .slice none 0 0, .int .i64 0, .int .i64 0, .slice none 0 0, .int .i64 0, .int .i64 0, .slice none 0 0, .slice none 0 0, .slice none 0 0, .int .i64 0] hq1 sMsg rfl (by simp [Value.oneCell']) ?_)
  exact bodyPost_ret (v := .agg #[.int .i64 m.fr, .int .i64 m.tt, .int .i64 3, .int .i64 m.bau, .int .i64 m.bnu, .slice m.bta m.btn m.btc, .int .i64 m.hau, .int .i64 m.hrd, .slice m.hba m.hbn m.hbc, .slice m.hpa m.hpn m.hpc, .int .i64 0, .int .i64 0, .slice none 0 0, .int .i64 m.cau, .int .i64 m.crd, .slice m.cba m.cbn m.cbc, .slice m.cpa m.cpn m.cpc, .slice m.cva m.cvn m.cvc, .int .i64 m.ro]) (results_cell_row (fn := Tryd.f55) (p := 2) (ty := 49) rfl _ _ (w.heap.size + 1) 49 _ (0, 0) _ rfl (setRow_heap _ _ _ _ _ _ hq1) Tryd.underlying49 rfl sMsg) rfl ⟨rfl, (Upd.setRow hq1).below hB hB.size (by simp)⟩
set_option maxRecDepth 100000 in
set_option maxHeartbeats 1000000 in
theorem without4 (m : Msg) (w : World) (hk : m.ki = 4) :
    Calls Tryd.prog 55 #[.agg #[.int .i64 m.fr, .int .i64 m.tt, .int .i64 m.ki, .int .i64 m.bau, .int .i64 m.bnu, .slice m.bta m.btn m.btc, .int .i64 m.hau, .int .i64 m.hrd, .slice m.hba m.hbn m.hbc, .slice m.hpa m.hpn m.hpc, .int .i64 m.sau, .int .i64 m.srd, .slice m.sda m.sdn m.sdc, .int .i64 m.cau, .int .i64 m.crd, .slice m.cba m.cbn m.cbc, .slice m.cpa m.cpn m.cpc, .slice m.cva m.cvn m.cvc, .int .i64 m.ro]] w fun e w' => e = .returned (.agg #[.int .i64 m.fr, .int .i64 m.tt, .int .i64 4, .int .i64 m.bau, .int .i64 m.bnu, .slice m.bta m.btn m.btc, .int .i64 m.hau, .int .i64 m.hrd, .slice m.hba m.hbn m.hbc, .slice m.hpa m.hpn m.hpc, .int .i64 m.sau, .int .i64 m.srd, .slice m.sda m.sdn m.sdc, .int .i64 0, .int .i64 0, .slice none 0 0, .slice none 0 0, .slice none 0 0, .int .i64 m.ro]) ∧ Below w.heap.size w w' := by
  rw [hk]
  have hq := heap_alloc2_old w (.cells #[.int .i64 m.fr, .int .i64 m.tt, .int .i64 4, .int .i64 m.bau, .int .i64 m.bnu, .slice m.bta m.btn m.btc, .int .i64 m.hau, .int .i64 m.hrd, .slice m.hba m.hbn m.hbc, .slice m.hpa m.hpn m.hpc, .int .i64 m.sau, .int .i64 m.srd, .slice m.sda m.sdn m.sdc, .int .i64 0, .int .i64 0, .slice none 0 0, .slice none 0 0, .slice none 0 0, .int .i64 m.ro] 49) (.cells #[.int .i64 0, .int .i64 0, .int .i64 0, .int .i64 0, .int .i64 0, .slice none 0 0, .int .i64 0, .int .i64 0, .slice none 0 0, .slice none 0 0, .int .i64 0, .int .i64 0, .slice none 0 0, .int .i64 0, .int .i64 0, .slice none 0 0, .slice none 0 0, .slice none 0 0, .int .i64 0] 49)
  have hq1 := heap_alloc2_new w (.cells #[.int .i64 m.fr, .int .i64 m.tt, .int .i64 4, .int .i64 m.bau, .int .i64 m.bnu, .slice m.bta m.btn m.btc, .int .i64 m.hau, .int .i64 m.hrd, .slice m.hba m.hbn m.hbc, .slice m.hpa m.hpn m.hpc, .int .i64 m.sau, .int .i64 m.srd, .slice m.sda m.sdn m.sdc, .int .i64 0, .int .i64 0, .slice none 0 0, .slice none 0 0, .slice none 0 0, .int .i64 m.ro] 49) (.cells #[.int .i64 0, .int .i64 0, .int .i64 0, .int .i64 0, .int .i64 0, .slice none 0 0, .int .i64 0, .int .i64 0, .slice none 0 0, .slice none 0 0, .int .i64 0, .int .i64 0, .slice none 0 0, .int .i64 0, .int .i64 0, .slice none 0 0, .slice none 0 0, .slice none 0 0, .int .i64 0] 49)
  have hB : Below w.heap.size w ((w.alloc (.cells #[.int .i64 m.fr, .int .i64 m.tt, .int .i64 4, .int .i64 m.bau, .int .i64 m.bnu, .slice m.bta m.btn m.btc, .int .i64 m.hau, .int .i64 m.hrd, .slice m.hba m.hbn m.hbc, .slice m.hpa m.hpn m.hpc, .int .i64 m.sau, .int .i64 m.srd, .slice m.sda m.sdn m.sdc, .int .i64 0, .int .i64 0, .slice none 0 0, .slice none 0 0, .slice none 0 0, .int .i64 m.ro] 49)).alloc (.cells #[.int .i64 0, .int .i64 0, .int .i64 0, .int .i64 0, .int .i64 0, .slice none 0 0, .int .i64 0, .int .i64 0, .slice none 0 0, .slice none 0 0, .int .i64 0, .int .i64 0, .slice none 0 0, .int .i64 0, .int .i64 0, .slice none 0 0, .slice none 0 0, .slice none 0 0, .int .i64 0] 49)) := ((Below.refl _ _).alloc (Nat.le_refl _) _).alloc (by simp) _
  go_enter Tryd.func55, Tryd.ntmps55
  go_wp2_with (first | refine wpList_load_row rfl 49 _ rfl w.heap.size rfl 49 #[.int .i64 m.fr, .int .i64 m.tt, .int .i64 4, .int .i64 m.bau, .int .i64 m.bnu, .slice m.bta m.btn m.btc, .int .i64 m.hau, .int .i64 m.hrd, .slice m.hba m.hbn m.hbc, .slice m.hpa m.hpn m.hpc, .int .i64 m.sau, .int .i64 m.srd, .slice m.sda m.sdn m.sdc, .int .i64 0, .int .i64 0, .slice none 0 0, .slice none 0 0, .slice none 0 0, .int .i64 m.ro] (0, 0) _ hq Tryd.underlying49 rfl sMsg ?_ | refine wpList_store_row rfl 49 _ _ rfl (w.heap.size + 1) #[.int .i64 m.fr, .int .i64 m.tt, .int .i64 4, .int .i64 m.bau, .int .i64 m.bnu, .slice m.bta m.btn m.btc, .int .i64 m.hau, .int .i64 m.hrd, .slice m.hba m.hbn m.hbc, .slice m.hpa m.hpn m.hpc, .int .i64 m.sau, .int .i64 m.srd, .slice m.sda m.sdn m.sdc, .int .i64 0, .int .i64 0, .slice none 0 0, .slice none 0 0, .slice none 0 0, .int .i64 m.ro] rfl rfl 49 #[.int .i64 0, .int .i64 0, .int .i64 0, .int .i64 0, .int .i64 0, .slice none 0 0, .int .i64 0, .int .i64 0, .slice none 0 0, .slice none 0 0, .int .i64 0, .int .i64 0, .slice none 0 0, .int .i64 0, .int .i64 0, .slice none 0 0, .slice none 0 0, .slice none 0 0, .int .i64 0] hq1 sMsg rfl (by simp [Value.oneCell']) ?_)
  exact bodyPost_ret (v := .agg #[.int .i64 m.fr, .int .i64 m.tt, .int .i64 4, .int .i64 m.bau, .int .i64 m.bnu, .slice m.bta m.btn m.btc, .int .i64 m.hau, .int .i64 m.hrd, .slice m.hba m.hbn m.hbc, .slice m.hpa m.hpn m.hpc, .int .i64 m.sau, .int .i64 m.srd, .slice m.sda m.sdn m.sdc, .int .i64 0, .int .i64 0, .slice none 0 0, .slice none 0 0, .slice none 0 0, .int .i64 m.ro]) (results_cell_row (fn := Tryd.f55) (p := 2) (ty := 49) rfl _ _ (w.heap.size + 1) 49 _ (0, 0) _ rfl (setRow_heap _ _ _ _ _ _ hq1) Tryd.underlying49 rfl sMsg) rfl ⟨rfl, (Upd.setRow hq1).below hB hB.size (by simp)⟩
set_option maxRecDepth 100000 in
set_option maxHeartbeats 1000000 in
theorem without5 (m : Msg) (w : World) (hk : m.ki = 5) :
    Calls Tryd.prog 55 #[.agg #[.int .i64 m.fr, .int .i64 m.tt, .int .i64 m.ki, .int .i64 m.bau, .int .i64 m.bnu, .slice m.bta m.btn m.btc, .int .i64 m.hau, .int .i64 m.hrd, .slice m.hba m.hbn m.hbc, .slice m.hpa m.hpn m.hpc, .int .i64 m.sau, .int .i64 m.srd, .slice m.sda m.sdn m.sdc, .int .i64 m.cau, .int .i64 m.crd, .slice m.cba m.cbn m.cbc, .slice m.cpa m.cpn m.cpc, .slice m.cva m.cvn m.cvc, .int .i64 m.ro]] w fun e w' => e = .returned (.agg #[.int .i64 m.fr, .int .i64 m.tt, .int .i64 5, .int .i64 m.bau, .int .i64 m.bnu, .slice m.bta m.btn m.btc, .int .i64 m.hau, .int .i64 m.hrd, .slice m.hba m.hbn m.hbc, .slice m.hpa m.hpn m.hpc, .int .i64 m.sau, .int .i64 m.srd, .slice m.sda m.sdn m.sdc, .int .i64 m.cau, .int .i64 m.crd, .slice m.cba m.cbn m.cbc, .slice m.cpa m.cpn m.cpc, .slice m.cva m.cvn m.cvc, .int .i64 0]) ∧ Below w.heap.size w w' := by
  rw [hk]
  have hq := heap_alloc2_old w (.cells #[.int .i64 m.fr, .int .i64 m.tt, .int .i64 5, .int .i64 m.bau, .int .i64 m.bnu, .slice m.bta m.btn m.btc, .int .i64 m.hau, .int .i64 m.hrd, .slice m.hba m.hbn m.hbc, .slice m.hpa m.hpn m.hpc, .int .i64 m.sau, .int .i64 m.srd, .slice m.sda m.sdn m.sdc, .int .i64 m.cau, .int .i64 m.crd, .slice m.cba m.cbn m.cbc, .slice m.cpa m.cpn m.cpc, .slice m.cva m.cvn m.cvc, .int .i64 0] 49) (.cells #[.int .i64 0, .int .i64 0, .int .i64 0, .int .i64 0, .int .i64 0, .slice none 0 0, .int .i64 0, .int .i64 0, .slice none 0 0, .slice none 0 0, .int .i64 0, .int .i64 0, .slice none 0 0, .int .i64 0, .int .i64 0, .slice none 0 0, .slice none 0 0, .slice none 0 0, .int .i64 0] 49)
  have hq1 := heap_alloc2_new w (.cells #[.int .i64 m.fr, .int .i64 m.tt, .int .i64 5, .int .i64 m.bau, .int .i64 m.bnu, .slice m.bta m.btn m.btc, .int .i64 m.hau, .int .i64 m.hrd, .slice m.hba m.hbn m.hbc, .slice m.hpa m.hpn m.hpc, .int .i64 m.sau, .int .i64 m.srd, .slice m.sda m.sdn m.sdc, .int .i64 m.cau, .int .i64 m.crd, .slice m.cba m.cbn m.cbc, .slice m.cpa m.cpn m.cpc, .slice m.cva m.cvn m.cvc, .int .i64 0] 49) (.cells #[.int .i64 0, .int .i64 0, .int .i64 0, .int .i64 0, .int .i64 0, .slice none 0 0, .int .i64 0, .int .i64 0, .slice none 0 0, .slice none 0 0, .int .i64 0, .int .i64 0, .slice none 0 0, .int .i64 0, .int .i64 0, .slice none 0 0, .slice none 0 0, .slice none 0 0, .int .i64 0] 49)
  have hB : Below w.heap.size w ((w.alloc (.cells #[.int .i64 m.fr, .int .i64 m.tt, .int .i64 5, .int .i64 m.bau, .int .i64 m.bnu, .slice m.bta m.btn m.btc, .int .i64 m.hau, .int .i64 m.hrd, .slice m.hba m.hbn m.hbc, .slice m.hpa m.hpn m.hpc, .int .i64 m.sau, .int .i64 m.srd, .slice m.sda m.sdn m.sdc, .int .i64 m.cau, .int .i64 m.crd, .slice m.cba m.cbn m.cbc, .slice m.cpa m.cpn m.cpc, .slice m.cva m.cvn m.cvc, .int .i64 0] 49)).alloc (.cells #[.int .i64 0, .int .i64 0, .int .i64 0, .int .i64 0, .int .i64 0, .slice none 0 0, .int .i64 0, .int .i64 0, .slice none 0 0, .slice none 0 0, .int .i64 0, .int .i64 0, .slice none 0 0, .int .i64 0, .int .i64 0, .slice none 0 0, .slice none 0 0, .slice none 0 0, .int .i64 0] 49)) := ((Below.refl _ _).alloc (Nat.le_refl _) _).alloc (by simp) _
  go_enter Tryd.func55, Tryd.ntmps55
  go_wp2_with (first | refine wpList_load_row rfl 49 _ rfl w.heap.size rfl 49 #[.int .i64 m.fr, .int .i64 m.tt, .int .i64 5, .int .i64 m.bau, .int .i64 m.bnu, .slice m.bta m.btn m.btc, .int .i64 m.hau, .int .i64 m.hrd, .slice m.hba m.hbn m.hbc, .slice m.hpa m.hpn m.hpc, .int .i64 m.sau, .int .i64 m.srd, .slice m.sda m.sdn m.sdc, .int .i64 m.cau, .int .i64 m.crd, .slice m.cba m.cbn m.cbc, .slice m.cpa m.cpn m.cpc, .slice m.cva m.cvn m.cvc, .int .i64 0] (0, 0) _ hq Tryd.underlying49 rfl sMsg ?_ | refine wpList_store_row rfl 49 _ _ rfl (w.heap.size + 1) #[.int .i64 m.fr, .int .i64 m.tt, .int .i64 5, .int .i64 m.bau, .int .i64 m.bnu, .slice m.bta m.btn m.btc, .int .i64 m.hau, .int .i64 m.hrd, .slice m.hba m.hbn m.hbc, .slice m.hpa m.hpn m.hpc, .int .i64 m.sau, .int .i64 m.srd, .slice m.sda m.sdn m.sdc, .int .i64 m.cau, .int .i64 m.crd, .slice m.cba m.cbn m.cbc, .slice m.cpa m.cpn m.cpc, .slice m.cva m.cvn m.cvc, .int .i64 0] rfl rfl 49 #[.int .i64 0, .int .i64 0, .int .i64 0, .int .i64 0, .int .i64 0, .slice none 0 0, .int .i64 0, .int .i64 0, .slice none 0 0, .slice none 0 0, .int .i64 0, .int .i64 0, .slice none 0 0, .int .i64 0, .int .i64 0, .slice none 0 0, .slice none 0 0, .slice none 0 0, .int .i64 0] hq1 sMsg rfl (by simp [Value.oneCell']) ?_)
  exact bodyPost_ret (v := .agg #[.int .i64 m.fr, .int .i64 m.tt, .int .i64 5, .int .i64 m.bau, .int .i64 m.bnu, .slice m.bta m.btn m.btc, .int .i64 m.hau, .int .i64 m.hrd, .slice m.hba m.hbn m.hbc, .slice m.hpa m.hpn m.hpc, .int .i64 m.sau, .int .i64 m.srd, .slice m.sda m.sdn m.sdc, .int .i64 m.cau, .int .i64 m.crd, .slice m.cba m.cbn m.cbc, .slice m.cpa m.cpn m.cpc, .slice m.cva m.cvn m.cvc, .int .i64 0]) (results_cell_row (fn := Tryd.f55) (p := 2) (ty := 49) rfl _ _ (w.heap.size + 1) 49 _ (0, 0) _ rfl (setRow_heap _ _ _ _ _ _ hq1) Tryd.underlying49 rfl sMsg) rfl ⟨rfl, (Upd.setRow hq1).below hB hB.size (by simp)⟩
end Go.Proofs.YtcecjdoabnhcgaaDoor

namespace Go.Proofs.YtcecjdoabnhcgaaDoor
open Go.RowKit

/-- The message without what its kind carries. -/
def strip (m : Msg) : Msg := if m.ki = 1 then { m with bau := 0, bnu := 0, bta := none, btn := 0, btc := 0 } else if m.ki = 2 then { m with hau := 0, hrd := 0, hba := none, hbn := 0, hbc := 0, hpa := none, hpn := 0, hpc := 0 } else if m.ki = 3 then { m with sau := 0, srd := 0, sda := none, sdn := 0, sdc := 0 } else if m.ki = 4 then { m with cau := 0, crd := 0, cba := none, cbn := 0, cbc := 0, cpa := none, cpn := 0, cpc := 0, cva := none, cvn := 0, cvc := 0 } else { m with ro := 0 }
set_option maxRecDepth 100000 in
theorem without_any (m : Msg) (w : World) (hk : 1 ≤ m.ki ∧ m.ki ≤ 5) :
    Calls Tryd.prog 55 #[.agg #[.int .i64 m.fr, .int .i64 m.tt, .int .i64 m.ki, .int .i64 m.bau, .int .i64 m.bnu, .slice m.bta m.btn m.btc, .int .i64 m.hau, .int .i64 m.hrd, .slice m.hba m.hbn m.hbc, .slice m.hpa m.hpn m.hpc, .int .i64 m.sau, .int .i64 m.srd, .slice m.sda m.sdn m.sdc, .int .i64 m.cau, .int .i64 m.crd, .slice m.cba m.cbn m.cbc, .slice m.cpa m.cpn m.cpc, .slice m.cva m.cvn m.cvc, .int .i64 m.ro]] w fun e w' => e = .returned (.agg #[.int .i64 (strip m).fr, .int .i64 (strip m).tt, .int .i64 (strip m).ki, .int .i64 (strip m).bau, .int .i64 (strip m).bnu, .slice (strip m).bta (strip m).btn (strip m).btc, .int .i64 (strip m).hau, .int .i64 (strip m).hrd, .slice (strip m).hba (strip m).hbn (strip m).hbc, .slice (strip m).hpa (strip m).hpn (strip m).hpc, .int .i64 (strip m).sau, .int .i64 (strip m).srd, .slice (strip m).sda (strip m).sdn (strip m).sdc, .int .i64 (strip m).cau, .int .i64 (strip m).crd, .slice (strip m).cba (strip m).cbn (strip m).cbc, .slice (strip m).cpa (strip m).cpn (strip m).cpc, .slice (strip m).cva (strip m).cvn (strip m).cvc, .int .i64 (strip m).ro]) ∧ Below w.heap.size w w' := by
  have h : m.ki = 1 ∨ m.ki = 2 ∨ m.ki = 3 ∨ m.ki = 4 ∨ m.ki = 5 := by omega
  rcases h with h | h | h | h | h
  · refine (without1 m w h).mono ?_
    rintro e w' ⟨rfl, hb⟩
    exact ⟨by simp [strip, h], hb⟩
  · refine (without2 m w h).mono ?_
    rintro e w' ⟨rfl, hb⟩
    exact ⟨by simp [strip, h], hb⟩
  · refine (without3 m w h).mono ?_
    rintro e w' ⟨rfl, hb⟩
    exact ⟨by simp [strip, h], hb⟩
  · refine (without4 m w h).mono ?_
    rintro e w' ⟨rfl, hb⟩
    exact ⟨by simp [strip, h], hb⟩
  · refine (without5 m w h).mono ?_
    rintro e w' ⟨rfl, hb⟩
    exact ⟨by simp [strip, h], hb⟩
/-- P2.8, by what is told of what the kind carries. -/
def checkF (m : Msg) (e : Int) : Int := if ¬ (0 ≤ m.fr ∧ m.fr < 4) ∨ ¬ (0 ≤ m.tt ∧ m.tt < 4) then 2 else if e ≠ 0 then e else if msgEmpty (strip m) then 0 else 4

set_option maxRecDepth 100000 in
set_option maxHeartbeats 1000000 in
theorem check_of (m : Msg) (ec : Int) (w : World) (hk : ec = 0 → 1 ≤ m.ki ∧ m.ki ≤ 5)
    (hc : ∀ w1, Below w.heap.size w w1 → Calls Tryd.prog 53 #[.agg #[.int .i64 m.fr, .int .i64 m.tt, .int .i64 m.ki, .int .i64 m.bau, .int .i64 m.bnu, .slice m.bta m.btn m.btc, .int .i64 m.hau, .int .i64 m.hrd, .slice m.hba m.hbn m.hbc, .slice m.hpa m.hpn m.hpc, .int .i64 m.sau, .int .i64 m.srd, .slice m.sda m.sdn m.sdc, .int .i64 m.cau, .int .i64 m.crd, .slice m.cba m.cbn m.cbc, .slice m.cpa m.cpn m.cpc, .slice m.cva m.cvn m.cvc, .int .i64 m.ro]] w1 fun e w' => e = .returned (.int .i64 ec) ∧ Below w1.heap.size w1 w') :
    Calls Tryd.prog 35 #[.agg #[.int .i64 m.fr, .int .i64 m.tt, .int .i64 m.ki, .int .i64 m.bau, .int .i64 m.bnu, .slice m.bta m.btn m.btc, .int .i64 m.hau, .int .i64 m.hrd, .slice m.hba m.hbn m.hbc, .slice m.hpa m.hpn m.hpc, .int .i64 m.sau, .int .i64 m.srd, .slice m.sda m.sdn m.sdc, .int .i64 m.cau, .int .i64 m.crd, .slice m.cba m.cbn m.cbc, .slice m.cpa m.cpn m.cpc, .slice m.cva m.cvn m.cvc, .int .i64 m.ro]] w fun e w' => e = .returned (.int .i64 (checkF m ec)) ∧ Below w.heap.size w w' := by
  have hq := heap_alloc_new w (.cells #[.int .i64 m.fr, .int .i64 m.tt, .int .i64 m.ki, .int .i64 m.bau, .int .i64 m.bnu, .slice m.bta m.btn m.btc, .int .i64 m.hau, .int .i64 m.hrd, .slice m.hba m.hbn m.hbc, .slice m.hpa m.hpn m.hpc, .int .i64 m.sau, .int .i64 m.srd, .slice m.sda m.sdn m.sdc, .int .i64 m.cau, .int .i64 m.crd, .slice m.cba m.cbn m.cbc, .slice m.cpa m.cpn m.cpc, .slice m.cva m.cvn m.cvc, .int .i64 m.ro] 49)
  have hB : Below w.heap.size w (w.alloc (.cells #[.int .i64 m.fr, .int .i64 m.tt, .int .i64 m.ki, .int .i64 m.bau, .int .i64 m.bnu, .slice m.bta m.btn m.btc, .int .i64 m.hau, .int .i64 m.hrd, .slice m.hba m.hbn m.hbc, .slice m.hpa m.hpn m.hpc, .int .i64 m.sau, .int .i64 m.srd, .slice m.sda m.sdn m.sdc, .int .i64 m.cau, .int .i64 m.crd, .slice m.cba m.cbn m.cbc, .slice m.cpa m.cpn m.cpc, .slice m.cva m.cvn m.cvc, .int .i64 m.ro] 49)) := (Below.refl _ _).alloc (Nat.le_refl _) _
  by_cases hf : 0 ≤ m.fr ∧ m.fr < 4
  · by_cases ht : 0 ≤ m.tt ∧ m.tt < 4
    · by_cases he : ec = 0
      · obtain ⟨hk1, hk2⟩ := hk he
        subst he
        go_enter Tryd.func35, Tryd.ntmps35
        go_wp2_with (first | (go_at_call 41; first | (refine (isNode_true _ _ (by omega)).mono ?_; rintro e w' ⟨rfl, rfl⟩) | (refine (isNode_false _ _ (by omega)).mono ?_; rintro e w' ⟨rfl, rfl⟩)) | refine wpList_load_row rfl 49 _ rfl w.heap.size rfl 49 #[.int .i64 m.fr, .int .i64 m.tt, .int .i64 m.ki, .int .i64 m.bau, .int .i64 m.bnu, .slice m.bta m.btn m.btc, .int .i64 m.hau, .int .i64 m.hrd, .slice m.hba m.hbn m.hbc, .slice m.hpa m.hpn m.hpc, .int .i64 m.sau, .int .i64 m.srd, .slice m.sda m.sdn m.sdc, .int .i64 m.cau, .int .i64 m.crd, .slice m.cba m.cbn m.cbc, .slice m.cpa m.cpn m.cpc, .slice m.cva m.cvn m.cvc, .int .i64 m.ro] (0, 0) _ hq Tryd.underlying49 rfl sMsg ?_)
        refine (hc _ hB).mono ?_
        rintro e w1 ⟨rfl, hb1⟩
        have r1 := row_new hb1
        replace hb1 := below_alloc hb1
        go_wp2_with (first | refine wpList_load_row rfl 49 _ rfl w.heap.size rfl 49 #[.int .i64 m.fr, .int .i64 m.tt, .int .i64 m.ki, .int .i64 m.bau, .int .i64 m.bnu, .slice m.bta m.btn m.btc, .int .i64 m.hau, .int .i64 m.hrd, .slice m.hba m.hbn m.hbc, .slice m.hpa m.hpn m.hpc, .int .i64 m.sau, .int .i64 m.srd, .slice m.sda m.sdn m.sdc, .int .i64 m.cau, .int .i64 m.crd, .slice m.cba m.cbn m.cbc, .slice m.cpa m.cpn m.cpc, .slice m.cva m.cvn m.cvc, .int .i64 m.ro] (0, 0) _ r1 Tryd.underlying49 rfl sMsg ?_)
        refine (without_any m w1 ⟨hk1, hk2⟩).mono ?_
        rintro e w2 ⟨rfl, hb2⟩
        have hb12 := hb1.trans (hb2.mono hb1.size)
        by_cases hm : msgEmpty (strip m)
        · have hF : Hid (checkF m 0 = 0) := by show _ = _; simp [checkF, hf, ht, hm]
          go_wp2_with fail
          refine (isEmpty_bool (strip m) true w2 hm.symm).mono ?_
          rintro e w3 ⟨rfl, hb3⟩
          go_wp2_with fail
          go_ret
          exact ⟨ret_int hF.out.symm, hb12.trans (hb3.mono hb12.size)⟩
        · have hF : Hid (checkF m 0 = 4) := by show _ = _; simp [checkF, hf, ht, hm]
          go_wp2_with fail
          refine (isEmpty_bool (strip m) false w2 (by simp at hm; exact hm.symm)).mono ?_
          rintro e w3 ⟨rfl, hb3⟩
          go_wp2_with fail
          go_ret
          exact ⟨ret_int hF.out.symm, hb12.trans (hb3.mono hb12.size)⟩
      · have hF : Hid (checkF m ec = ec) := by show _ = _; simp [checkF, hf, ht, he]
        go_enter Tryd.func35, Tryd.ntmps35
        go_wp2_with (first | (go_at_call 41; first | (refine (isNode_true _ _ (by omega)).mono ?_; rintro e w' ⟨rfl, rfl⟩) | (refine (isNode_false _ _ (by omega)).mono ?_; rintro e w' ⟨rfl, rfl⟩)) | refine wpList_load_row rfl 49 _ rfl w.heap.size rfl 49 #[.int .i64 m.fr, .int .i64 m.tt, .int .i64 m.ki, .int .i64 m.bau, .int .i64 m.bnu, .slice m.bta m.btn m.btc, .int .i64 m.hau, .int .i64 m.hrd, .slice m.hba m.hbn m.hbc, .slice m.hpa m.hpn m.hpc, .int .i64 m.sau, .int .i64 m.srd, .slice m.sda m.sdn m.sdc, .int .i64 m.cau, .int .i64 m.crd, .slice m.cba m.cbn m.cbc, .slice m.cpa m.cpn m.cpc, .slice m.cva m.cvn m.cvc, .int .i64 m.ro] (0, 0) _ hq Tryd.underlying49 rfl sMsg ?_)
        refine (hc _ hB).mono ?_
        rintro e w1 ⟨rfl, hb1⟩
        replace hb1 := below_alloc hb1
        go_wp2_with fail
        go_ret
        exact ⟨ret_int hF.out.symm, hb1⟩
    · have hF : Hid (checkF m ec = 2) := by show _ = _; simp [checkF, ht]
      go_enter Tryd.func35, Tryd.ntmps35
      go_wp2_with (go_at_call 41; first | (refine (isNode_true _ _ (by omega)).mono ?_; rintro e w' ⟨rfl, rfl⟩) | (refine (isNode_false _ _ (by omega)).mono ?_; rintro e w' ⟨rfl, rfl⟩))
      go_ret
      exact ⟨ret_int hF.out.symm, hB⟩
  · have hF : Hid (checkF m ec = 2) := by show _ = _; simp [checkF, hf]
    go_enter Tryd.func35, Tryd.ntmps35
    go_wp2_with (go_at_call 41; first | (refine (isNode_true _ _ (by omega)).mono ?_; rintro e w' ⟨rfl, rfl⟩) | (refine (isNode_false _ _ (by omega)).mono ?_; rintro e w' ⟨rfl, rfl⟩))
    go_ret
    exact ⟨ret_int hF.out.symm, hB⟩
end Go.Proofs.YtcecjdoabnhcgaaDoor
