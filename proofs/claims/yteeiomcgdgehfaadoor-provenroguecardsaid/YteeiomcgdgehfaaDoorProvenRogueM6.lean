/- The document's bytesCopies: new memory with the same lists. -/
import Derived.Test.YteeiomcgdgehfaaDoorProvenRogueM0
import Derived.Test.YteeiomcgdgehfaaDoorApp
import Derived.Test.YteeiomcgdgehfaaDoorParts
import Derived.Test.YteeiomcgdgehfaaDoorAppH
import Derived.Test.YteeiomcgdgehfaaDoorCHead
import Derived.Test.YteeiomcgdgehfaaDoorHeadF
import Derived.Test.YteeiomcgdgehfaaDoorOwnL
namespace Go.Proofs.YteeiomcgdgehfaaDoor
open Go.RowKit

set_option maxRecDepth 100000 in
theorem digTo8_length (s : List Int) : (digTo s 8).length = 32 := digTo_length s 8
set_option maxRecDepth 100000 in
theorem sumL_length (bs : List Int) : (sumL bs).length = 32 := digTo_length _ 8
set_option maxRecDepth 100000 in
/-- blake.Sum of a slice with room: a new slice of 32 bytes, and OK. -/
theorem sum_ok (bs : List Int) (sa : Option Addr) (n cap : Nat) (w : World) (hn : n = bs.length) (hl : bs.length ≤ 4000) (hs : SliceAt w sa cap bs) (hT : Tabs w) :
    Calls Tryd.prog 65 #[.slice sa n cap] w fun e w' => ∃ b, e = .returned (.tuple #[.slice (some ⟨b, 0, none⟩) 32 32, .int .i64 0]) ∧ w.heap.size ≤ b ∧ Below w.heap.size w w' ∧ SliceAt w' (some ⟨b, 0, none⟩) 32 (sumL bs) := by
  subst hn
  refine (sum_any bs sa cap w hl hs.le hs.max hs.some hs.bytes hT).mono ?_
  rintro e w' ⟨b, rfl, h1, h2, h3⟩
  exact ⟨b, rfl, h1, h2, (sliceAt_of_owns h3).2⟩
end Go.Proofs.YteeiomcgdgehfaaDoor

namespace Go.Proofs.YteeiomcgdgehfaaDoor
open Go.RowKit

/-- How many bytes the first k parts take, their lengths with them. -/
def psz (ps : List Part) : Nat → Nat
  | 0 => 0
  | k + 1 => psz ps k + (2 + (ps.getD k ⟨none, 0, []⟩).bs.length)
set_option maxRecDepth 100000 in
theorem psz_mono (ps : List Part) (j k : Nat) (h : j ≤ k) : psz ps j ≤ psz ps k := by
  induction k with
  | zero => obtain rfl : j = 0 := by omega
            exact Nat.le_refl _
  | succ k ih =>
    rcases Nat.lt_or_ge j (k + 1) with g | g
    · exact Nat.le_trans (ih (by omega)) (by simp [psz])
    · obtain rfl : j = k + 1 := by omega
      exact Nat.le_refl _

set_option maxRecDepth 100000 in
set_option maxHeartbeats 1000000 in
theorem fits_yes (ps : List Part) (sa : Option Addr) (n cap : Nat) (w : World) (hn : n = ps.length) (hp : PartsAt w sa ps) (hs : 1 + psz ps ps.length ≤ 4000) :
    Calls Tryd.prog 64 #[.slice sa n cap] w fun e w' => e = .returned (.bool true) ∧ w = w' := by
  subst hn
  have hlen : ps.length ≤ 2000 := by
    have : ∀ k, 2 * k ≤ psz ps k := by
      intro k
      induction k with
      | zero => exact Nat.le_refl _
      | succ k ih => simp [psz]; omega
    have := this ps.length
    omega
  go_enter Tryd.func64, Tryd.ntmps64
  go_wp2_with fail
  go_loop [8, 3] (fun i r => ∃ k : Nat, k ≤ ps.length ∧ i = .int .i64 k ∧ r = .int .i64 (3999 - (psz ps k : Int))) (fun i _ => ps.length - (intOf i).toNat)
  case atStart => exact ⟨0, Nat.zero_le _, rfl, rfl⟩
  case round =>
    obtain ⟨k, hk, rfl, rfl⟩ := hrel
    by_cases hlt : k < ps.length
    · rcases hp.cells with hc | ⟨sb, so, rfl, hc⟩
      · subst hc; simp at hlt
      have ck := hc k hlt
      have h1 := psz_mono ps (k + 1) ps.length hlt
      have h2 : Hid (psz ps (k + 1) = psz ps k + (2 + (ps[k]).bs.length)) := by show _ = _; simp [psz, hlt]
      have h3 : psz ps k + (2 + (ps[k]).bs.length) ≤ 3999 := by have := h2.out; omega
      generalize (ps[k]).bs.length = m at ck h2 h3
      generalize (ps[k]).sa = pa at ck
      generalize (ps[k]).cap = pc at ck
      clear h1 hc hp
      generalize psz ps k = z at *
      have h4 : ¬ ((3999 : Int) - z - 2 < m) := by omega
      go_wp2_with fail
      go_round
      case rel => exact ⟨k + 1, by omega, by go_num, by rw [h2.out]; go_num⟩
      case measure => simp [intOf]; omega
    · go_wp2_with fail
      go_ret
      exact ⟨rfl, rfl⟩

set_option maxRecDepth 100000 in
set_option maxHeartbeats 1000000 in
theorem fits_no (ps : List Part) (sa : Option Addr) (n cap : Nat) (w : World) (hn : n = ps.length) (hm : n ≤ maxLen) (hp : PartsAt w sa ps) (hs : 4000 < 1 + psz ps ps.length) :
    Calls Tryd.prog 64 #[.slice sa n cap] w fun e w' => e = .returned (.bool false) ∧ w = w' := by
  subst hn
  unfold maxLen at hm
  go_enter Tryd.func64, Tryd.ntmps64
  go_wp2_with fail
  go_loop [8, 3] (fun i r => ∃ k : Nat, k ≤ ps.length ∧ psz ps k ≤ 3999 ∧ i = .int .i64 k ∧ r = .int .i64 (3999 - (psz ps k : Int))) (fun i _ => ps.length - (intOf i).toNat)
  case atStart => exact ⟨0, Nat.zero_le _, Nat.zero_le _, rfl, rfl⟩
  case round =>
    obtain ⟨k, hk, hz, rfl, rfl⟩ := hrel
    by_cases hlt : k < ps.length
    · rcases hp.cells with hc | ⟨sb, so, rfl, hc⟩
      · subst hc; simp at hlt
      have ck := hc k hlt
      have h2 : Hid (psz ps (k + 1) = psz ps k + (2 + (ps[k]).bs.length)) := by show _ = _; simp [psz, hlt]
      have hx := hp.each (ps[k]) (List.getElem_mem hlt)
      have hm2 : (ps[k]).bs.length ≤ 9223372036854775807 := Nat.le_trans hx.le hx.max
      clear hx
      generalize (ps[k]).bs.length = m at ck h2 hm2
      generalize (ps[k]).sa = pa at ck
      generalize (ps[k]).cap = pc at ck
      clear hc hp
      have hzk : Hid (psz ps k ≤ 3999) := hz
      generalize psz ps k = z at *
      by_cases h4 : (3999 : Int) - z - 2 < m
      · go_wp2_with fail
        go_ret
        exact ⟨rfl, rfl⟩
      · go_wp2_with fail
        go_round
        case rel => exact ⟨k + 1, by omega, by rw [h2.out]; omega, by go_num, by rw [h2.out]; go_num⟩
        case measure => simp [intOf]; omega
    · obtain rfl : k = ps.length := by omega
      omega
set_option maxRecDepth 100000 in
theorem ub_app {w : World} {base n : Nat} {v : Value} {bs cs : List Int} (h : w.ownsRow base 5 1 v n (ub bs ++ cs.map (Value.int .u8))) : w.ownsRow base 5 1 v n (ub (bs ++ cs)) := by
  simpa [ub] using h
/-- P1.5: the tag, and each part behind its length. -/
def tagTo (tag : Int) (ps : List Part) : Nat → List Int
  | 0 => [tag]
  | k + 1 => tagTo tag ps k ++ [((ps.getD k ⟨none, 0, []⟩).bs.length : Int) / 256 % 256, ((ps.getD k ⟨none, 0, []⟩).bs.length : Int) % 256] ++ (ps.getD k ⟨none, 0, []⟩).bs
set_option maxRecDepth 100000 in
theorem tagTo_length (tag : Int) (ps : List Part) (k : Nat) : (tagTo tag ps k).length = 1 + psz ps k := by
  induction k with
  | zero => rfl
  | succ k ih => simp [tagTo, psz, ih]; omega

set_option maxRecDepth 100000 in
set_option maxHeartbeats 400000 in
theorem tagged_big (tag : Int) (ps : List Part) (sa : Option Addr) (n cap : Nat) (w : World) (hn : n = ps.length) (hm : n ≤ maxLen) (hp : PartsAt w sa ps) (hs : 4000 < 1 + psz ps ps.length) :
    Calls Tryd.prog 47 #[.int .u8 tag, .slice sa n cap] w fun e w' => e = .returned (.tuple #[.slice none 0 0, .int .i64 1]) ∧ w = w' := by
  subst hn
  go_enter Tryd.func47, Tryd.ntmps47
  go_wp2_with fail
  refine (fits_no ps sa _ cap w rfl hm hp hs).mono ?_
  rintro e w' ⟨rfl, rfl⟩
  go_wp2_with fail
  go_ret2
  exact ⟨rfl, rfl⟩

set_option maxRecDepth 100000 in
set_option maxHeartbeats 1000000 in
theorem tagged_ok (tag : Int) (ps : List Part) (sa : Option Addr) (n cap : Nat) (w : World) (hn : n = ps.length) (hp : PartsAt w sa ps) (hs : 1 + psz ps ps.length ≤ 4000) (hT : Tabs w) :
    Calls Tryd.prog 47 #[.int .u8 tag, .slice sa n cap] w fun e w' => ∃ b, e = .returned (.tuple #[.slice (some ⟨b, 0, none⟩) 32 32, .int .i64 0]) ∧ w.heap.size ≤ b ∧ Below w.heap.size w w' ∧ SliceAt w' (some ⟨b, 0, none⟩) 32 (sumL (tagTo tag ps ps.length)) := by
  subst hn
  have hlen : ps.length ≤ 2000 := by
    have : ∀ k, 2 * k ≤ psz ps k := by
      intro k
      induction k with
      | zero => exact Nat.le_refl _
      | succ k ih => simp [psz]; omega
    have := this ps.length
    omega
  obtain ⟨i, hi, hz0, hz1, hz2⟩ := info_parts infoU8
  have hown0 : (w.alloc (.cells #[.int .u8 tag] 5)).ownsRow w.heap.size 5 1 (.slice (some ⟨w.heap.size, 0, none⟩) 1 1) 1 (ub (tagTo tag ps 0)) :=
    World.ownsRow_lit w #[.int .u8 tag] 1 (Nat.le_refl _) (by decide) rfl
  go_enter Tryd.func47, Tryd.ntmps47
  go_wp2_with fail
  refine (fits_yes ps sa _ cap w rfl hp hs).mono ?_
  rintro e w' ⟨rfl, rfl⟩
  go_wp2_with fail
  go_loopw [16, 6] (fun j v wr => ∃ k : Nat, k ≤ ps.length ∧ j = .int .i64 k ∧ Below w.heap.size w wr ∧ wr.ownsRow w.heap.size 5 1 v (1 + psz ps k) (ub (tagTo tag ps k))) (fun j _ _ => ps.length - (intOf j).toNat)
  case atStart => exact ⟨0, Nat.zero_le _, rfl, (Below.refl _ _).alloc (Nat.le_refl _) _, hown0⟩
  case round =>
    obtain ⟨k, hk, rfl, hb, ho⟩ := hrel
    by_cases hlt : k < ps.length
    · have hp' := hp.below hb
      rcases hp'.cells with hc | ⟨sb, so, rfl, hc⟩
      · subst hc; simp at hlt
      have ck := hc k hlt
      have h1 := psz_mono ps (k + 1) ps.length hlt
      have h2 : Hid (psz ps (k + 1) = psz ps k + (2 + (ps[k]).bs.length)) := by show _ = _; simp [psz, hlt]
      have h3 : psz ps k + (2 + (ps[k]).bs.length) ≤ 3999 := by have := h2.out; omega
      have hq : ((ps[k]).bs.length : Int) / 256 % 256 = ((ps[k]).bs.length : Int) / 256 := by omega
      have ht : Hid (tagTo tag ps (k + 1) = tagTo tag ps k ++ [((ps[k]).bs.length : Int) / 256, ((ps[k]).bs.length : Int) % 256] ++ (ps[k]).bs) := by
        show _ = _
        rw [← hq]
        simp [tagTo, hlt]
      have hpk := hp.each (ps[k]) (List.getElem_mem hlt)
      have hm : Hid ((ps[k]).bs.length = (ps[k]).bs.length) := rfl
      clear h1 hc hp' hp hq
      generalize ps[k] = p at *
      obtain ⟨pa, pc, bs⟩ := p
      simp only at ck h2 h3 ht hpk
      clear hm
      have tok : True := trivial
      go_wp2_with (first | (at_builtin; have _t := tok; refine wpList_append_own _ rfl _ _ 42 rfl w.heap.size 5 i (.int .u8 0) 1 1 Tryd.underlying42 hi hz0 hz1 hz2 rfl (by decide) _ (1 + psz ps k) _ rfl (ho.alloc _) ⟨wr.heap.size, 0, none⟩ 2 2 [.int .u8 ((bs.length : Int) / 256), .int .u8 ((bs.length : Int) % 256)] rfl rfl (cells_new _ _ _) (u8_one [_, _]) (by unfold maxLen; omega) (by omega) (le_alloc hb.size _) ?_; clear tok; intro v1 w1 ho1 hg1 _) | (at_builtin; refine wpList_append_part rfl _ _ rfl w.heap.size _ _ (tagTo tag ps k ++ [(bs.length : Int) / 256, (bs.length : Int) % 256]) rfl (ub_app ho1) pa bs.length pc bs rfl rfl (hpk.below (Below.grown (hb.alloc hb.size _) hg1 (le_alloc hb.size _) (fun q e => (ho.lt q e).1))) (by omega) (Nat.le_trans (le_alloc hb.size _) hg1.size) ?_; intro v2 w2 ho2 hg2))
      have hb1 := Below.grown (hb.alloc hb.size _) hg1 (le_alloc hb.size _) (fun q e => (ho.lt q e).1)
      have hb2 := Below.grown hb1 hg2 hb1.size (fun q e => (ho1.lt q e).1)
      go_roundw
      case rel =>
        refine ⟨k + 1, by omega, by go_num, hb2, ?_⟩
        rw [ht.out, h2.out, show 1 + (psz ps k + (2 + bs.length)) = 1 + psz ps k + 2 + bs.length by omega]
        exact ho2
      case measure => simp [intOf]; omega
    · obtain rfl : k = ps.length := by omega
      obtain ⟨sa', cap', hv, hl', hsl⟩ := owns_form ho
      subst hv
      have HL : Hid (1 + psz ps ps.length = (tagTo tag ps ps.length).length) := hl'
      clear hl'
      go_wp2_with fail
      refine (sum_ok (tagTo tag ps ps.length) sa' _ cap' wr HL.out (by rw [tagTo_length]; exact hs) hsl (hT.below hb)).mono ?_
      rintro e w2 ⟨b, rfl, hle, hb2, hr⟩
      go_wp2_with fail
      go_ret2
      exact ⟨b, rfl, Nat.le_trans hb.size hle, hb.trans (hb2.mono hb.size), hr⟩
end Go.Proofs.YteeiomcgdgehfaaDoor

namespace Go.Proofs.YteeiomcgdgehfaaDoor
open Go.RowKit

/-- The digest of a tag and of one part. -/
def tagD (tag : Int) (bs : List Int) : List Int := sumL (tagTo tag [⟨none, 0, bs⟩] 1)
set_option maxRecDepth 100000 in
theorem tagD_length (tag : Int) (bs : List Int) : (tagD tag bs).length = 32 := sumL_length _
set_option maxRecDepth 100000 in
theorem tagTo_part (tag : Int) (sa : Option Addr) (c : Nat) (bs : List Int) : tagTo tag [⟨sa, c, bs⟩] 1 = tagTo tag [⟨none, 0, bs⟩] 1 := by simp [tagTo]
set_option maxRecDepth 100000 in
theorem one_part (w : World) (sa : Option Addr) (n cap : Nat) (bs : List Int) (hn : n = bs.length) (hs : SliceAt w sa cap bs) : PartsAt (w.alloc (.cells #[.slice sa n cap] 42)) (some ⟨w.heap.size, 0, none⟩) [⟨sa, cap, bs⟩] := by
  refine ⟨.inr ⟨w.heap.size, 0, rfl, fun j hj => ?_⟩, fun p hp => ?_⟩
  · obtain rfl : j = 0 := by simpa using hj
    subst hn
    exact laid_cell w _ _ 0 _ rfl
  · obtain rfl : p = ⟨sa, cap, bs⟩ := by simpa using hp
    exact hs.below ((Below.refl _ _).alloc (Nat.le_refl _) _)
set_option maxRecDepth 100000 in
set_option maxHeartbeats 1000000 in
theorem headerDigest_bad (au rd : Int) (ba : Option Addr) (bn bc : Nat) (bl : List Part) (pa : Option Addr) (pn pc : Nat) (pl : List Part) (ec : Int) (w : World) (hbn : bn = bl.length) (hpn : pn = pl.length) (hb : ListAt w ba bc bl) (hp : ListAt w pa pc pl) (he : headerF au rd bl pl = ec) (h0 : ec ≠ 0) :
    Calls Tryd.prog 30 #[.agg #[.int .i64 au, .int .i64 rd, .slice ba bn bc, .slice pa pn pc]] w fun e w' => e = .returned (.tuple #[.slice none 0 0, .int .i64 ec]) ∧ Below w.heap.size w w' := by
  have hA : Below w.heap.size w (w.alloc (.cells #[.int .i64 au, .int .i64 rd, .slice ba bn bc, .slice pa pn pc] 25)) := (Below.refl _ _).alloc (Nat.le_refl _) _
  have hC := checkHeader_any au rd ba bc bl pa pc pl _ (hb.below hA) (hp.below hA)
  rw [he, ← hbn, ← hpn] at hC
  clear hbn hpn he
  go_enter Tryd.func30, Tryd.ntmps30
  go_wp2_with fail
  refine hC.mono ?_
  rintro e w1 ⟨rfl, hb1⟩
  go_wp2_with fail
  go_ret2
  exact ⟨rfl, below_alloc hb1⟩
set_option maxRecDepth 100000 in
set_option maxHeartbeats 1000000 in
theorem headerDigest_ok (au rd : Int) (ba : Option Addr) (bn bc : Nat) (bl : List Part) (pa : Option Addr) (pn pc : Nat) (pl : List Part) (w : World) (hbn : bn = bl.length) (hpn : pn = pl.length) (hb : ListAt w ba bc bl) (hp : ListAt w pa pc pl) (hOb : Off w (.slice none 0 0) ba bl) (hOp : Off w (.slice none 0 0) pa pl) (hF : headerF au rd bl pl = 0) (ha : 0 ≤ au ∧ au < 4) (hr : 0 ≤ rd ∧ rd ≤ 1048576) (hbl : bl.length ≤ 4) (hpl : pl.length ≤ 4) (hb32 : ∀ p ∈ bl, p.bs.length = 32) (hp32 : ∀ p ∈ pl, p.bs.length = 32) (hT : Tabs w) :
    Calls Tryd.prog 30 #[.agg #[.int .i64 au, .int .i64 rd, .slice ba bn bc, .slice pa pn pc]] w fun e w' => ∃ b, e = .returned (.tuple #[.slice (some ⟨b, 0, none⟩) 32 32, .int .i64 0]) ∧ w.heap.size ≤ b ∧ Below w.heap.size w w' ∧ SliceAt w' (some ⟨b, 0, none⟩) 32 (tagD 2 (headB au rd bl pl)) := by
  have hA : Below w.heap.size w (w.alloc (.cells #[.int .i64 au, .int .i64 rd, .slice ba bn bc, .slice pa pn pc] 25)) := (Below.refl _ _).alloc (Nat.le_refl _) _
  have hC := checkHeader_any au rd ba bc bl pa pc pl _ (hb.below hA) (hp.below hA)
  rw [hF, ← hbn, ← hpn] at hC
  have hle1 := flatB_length bl hb32
  have hle2 := flatB_length pl hp32
  have Hn : Hid (bn = bl.length) := hbn
  have Hp : Hid (pn = pl.length) := hpn
  clear hbn hpn hF
  go_enter Tryd.func30, Tryd.ntmps30
  go_wp2_with fail
  refine hC.mono ?_
  rintro e w1 ⟨rfl, hb1⟩
  have r1 := row_new hb1
  replace hb1 := below_alloc hb1
  have c0 : w1.cell? ⟨w.heap.size, 0, none⟩ = some (.int .i64 au) := cells_at r1 0 _ rfl
  have c1 : w1.cell? ⟨w.heap.size, 1, none⟩ = some (.int .i64 rd) := cells_at r1 1 _ rfl
  have c2 : w1.cell? ⟨w.heap.size, 2, none⟩ = some (.slice ba bn bc) := cells_at r1 2 _ rfl
  have c3 : w1.cell? ⟨w.heap.size, 3, none⟩ = some (.slice pa pn pc) := cells_at r1 3 _ rfl
  have hsz := hb1.size
  clear hC
  have hO1 : Off w1 (.slice none 0 0) ba bl := ⟨fun sb so e => ⟨Nat.lt_of_lt_of_le (hOb.row sb so e).1 hsz, fun h => by cases h⟩, fun p hp sb so e => ⟨Nat.lt_of_lt_of_le (hOb.each p hp sb so e).1 hsz, fun h => by cases h⟩⟩
  have hO2 : Off w1 (.slice none 0 0) pa pl := ⟨fun sb so e => ⟨Nat.lt_of_lt_of_le (hOp.row sb so e).1 hsz, fun h => by cases h⟩, fun p hp sb so e => ⟨Nat.lt_of_lt_of_le (hOp.each p hp sb so e).1 hsz, fun h => by cases h⟩⟩
  go_wp2_with fail
  refine (appendHeader_any w1.heap.size (.slice none 0 0) 0 [] au rd ba bn bc bl pa pn pc pl w1 ha hr Hn.out Hp.out hbl hpl hb32 hp32 (hb.below hb1) hO1 (hp.below hb1) hO2 (World.ownsRow_nil _ _ _ _) (Nat.le_refl _) (by decide)).mono ?_
  rintro e w2 ⟨v2, rfl, ho2, G2⟩
  have hb2 : Below w1.heap.size w1 w2 := G2.below (Nat.le_refl _) (fun q e => by cases e)
  rw [Nat.zero_add, List.nil_append] at ho2
  obtain ⟨xa, xc, hv, hxl, hx⟩ := owns_form ho2
  subst hv
  have hW2 := hb1.trans (hb2.mono hsz)
  have HX : Hid _ := hxl
  have hbl' : (headB au rd bl pl).length ≤ 300 := by simp [headB, rd3, digsB]; omega
  have hA2 : Below w2.heap.size w2 (w2.alloc (.cells #[.slice xa (headB au rd bl pl).length xc] 42)) := (Below.refl _ _).alloc (Nat.le_refl _) _
  clear hxl ho2 G2
  generalize hBB : headB au rd bl pl = B at *
  have HB : Hid _ := hBB
  clear hBB
  go_wp2_with fail
  refine (tagged_ok 2 [⟨xa, xc, B⟩] _ _ _ _ rfl (one_part w2 xa _ xc B rfl hx) (by simp [psz]; omega) ((hT.below hW2).below hA2)).mono ?_
  rintro e w3 ⟨b, rfl, hle3, hb3, hr3⟩
  go_wp2_with fail
  go_ret2
  refine ⟨b, rfl, ?_, ?_, ?_⟩
  · rw [size_alloc] at hle3; have := hW2.size; omega
  · exact hW2.trans ((below_alloc hb3).mono hW2.size)
  · rw [tagD, HB.out, ← tagTo_part 2 xa xc B]; exact hr3
end Go.Proofs.YteeiomcgdgehfaaDoor

namespace Go.Proofs.YteeiomcgdgehfaaDoor
open Go.RowKit

set_option maxRecDepth 100000 in
theorem digTo1_zero (ps : List Part) (k : Nat) (h : digTo1 ps k = 0) : ∀ j, j < k → digAt ps j = 0 := by
  induction k with
  | zero => intro j hj; omega
  | succ k ih =>
    rw [digTo1] at h
    split at h
    · rename_i h1; exact absurd h h1
    · rename_i h1
      intro j hj
      rcases Nat.lt_or_ge j k with g | g
      · exact ih (by simpa using h1) j g
      · obtain rfl : j = k := by omega
        exact h
set_option maxRecDepth 100000 in
theorem digF_len {ps : List Part} (h : digF ps = 0) : ∀ p ∈ ps, p.bs.length = 32 := by
  intro p hp
  obtain ⟨j, hj, rfl⟩ := List.getElem_of_mem hp
  have h1 := digTo1_zero ps ps.length h j hj
  rw [digAt, partAt_get ps j hj] at h1
  split at h1
  · cases h1
  · rename_i h2; simpa using h2
set_option maxRecDepth 100000 in
theorem headerF_ok {au rd : Int} {bl pl : List Part} (h : headerF au rd bl pl = 0) : (0 ≤ au ∧ au < 4) ∧ (1 ≤ rd ∧ rd ≤ 1048576) ∧ bl.length ≤ 3 ∧ pl.length ≤ 4 ∧ (∀ p ∈ bl, p.bs.length = 32) ∧ (∀ p ∈ pl, p.bs.length = 32) := by
  unfold headerF at h
  split at h
  · cases h
  · split at h
    · cases h
    · split at h
      · rename_i h1; exact absurd h h1
      · split at h
        · rename_i h1; exact absurd h h1
        · rename_i h1 h2 h3 h4
          exact ⟨by omega, by omega, by omega, by omega, digF_len (by simpa using h3), digF_len (by simpa using h4)⟩
end Go.Proofs.YteeiomcgdgehfaaDoor

namespace Go.Proofs.YteeiomcgdgehfaaDoor
open Go.RowKit

set_option maxRecDepth 100000 in
set_option maxHeartbeats 1000000 in
theorem joined_any (xs ys : List Int) (sa sb : Option Addr) (n m c d : Nat) (w : World) (hn : n = xs.length) (hm : m = ys.length) (ha : SliceAt w sa c xs) (hb : SliceAt w sb d ys) (hl : xs.length + ys.length ≤ 140737488355328) :
    Calls Tryd.prog 40 #[.slice sa n c, .slice sb m d] w fun e w' => ∃ v, e = .returned v ∧ w'.ownsRow w.heap.size 5 1 v (xs.length + ys.length) (ub (xs ++ ys)) ∧ Below w.heap.size w w' := by
  subst hn hm
  obtain ⟨i, hi, hz0, hz1, hz2⟩ := info_parts infoU8
  go_enter Tryd.func40, Tryd.ntmps40
  go_wp2_with fail
  go_loopw [6, 5] (fun j v wr => ∃ k : Nat, k ≤ xs.length ∧ j = .int .i64 k ∧ Below w.heap.size w wr ∧ wr.ownsRow w.heap.size 5 1 v (k) (ub (xs.take k))) (fun j _ _ => xs.length - (intOf j).toNat)
  case atStart => exact ⟨0, Nat.zero_le _, rfl, Below.refl _ _, World.ownsRow_nil _ _ _ _⟩
  case round =>
    obtain ⟨k, hk, rfl, hbw, ho⟩ := hrel
    by_cases hlt : k < xs.length
    · obtain ⟨tb, tq, rfl, hc⟩ : ∃ tb tq, sa = some ⟨tb, tq, none⟩ ∧ ∀ j, j < xs.length → w.cell? ⟨tb, tq + j, none⟩ = some (.int .u8 (xs.getD j 0)) := by
        rcases ha.bytes with h | h
        · rw [h] at hlt; simp at hlt
        · exact h
      have ck := (hbw.cell (p := ⟨tb, tq + k, none⟩) (block_lt_of_cell (hc k hlt))).trans (hc k hlt)
      have hltI : (k : Int) < xs.length := by omega
      have hst : Hid (xs.take (k + 1) = xs.take k ++ [xs.getD k 0]) := by
        show _ = _
        rw [List.take_succ_eq_append_getElem hlt]
        simp [List.getD, hlt]
      clear hc
      generalize xs.getD k 0 = x at ck hst
      go_wp2_with (at_builtin; refine wpList_append_own _ rfl _ _ 42 rfl w.heap.size 5 i (.int .u8 0) 1 1 Tryd.underlying42 hi hz0 hz1 hz2 rfl (by decide) _ (k) _ rfl (World.ownsRow.alloc ho _) ⟨wr.heap.size, 0, none⟩ 1 1 [.int .u8 x] rfl rfl (cells_new _ _ _) (u8_one [_]) (by unfold maxLen; omega) (by omega) (le_alloc hbw.size _) ?_; intro v1 w2 ho1 hg1 _)
      have hb2 := Below.grown (hbw.alloc hbw.size _) hg1 (le_alloc hbw.size _) (fun q e => (ho.lt q e).1)
      go_roundw
      case rel =>
        have hR : ∃ k' : Nat, k' ≤ xs.length ∧ (Value.int .i64 ((k : Int) + 1)) = .int .i64 k' ∧ Below w.heap.size w w2 ∧ w2.ownsRow w.heap.size 5 1 v1 (k') (ub (xs.take k')) :=
          ⟨k + 1, by omega, by go_num, hb2, by rw [hst.out]; simpa [ub, Nat.add_assoc] using ho1⟩
        first | exact hR | ((repeat apply Exists.intro); exact ⟨hR, rfl⟩)
      case measure => simp [intOf]; omega
    · obtain rfl : k = xs.length := by omega
      rw [List.take_of_length_le (Nat.le_refl _)] at ho
      go_wp2_with fail
      go_loopw [7, 5] (fun j v wr => ∃ k : Nat, k ≤ ys.length ∧ j = .int .i64 k ∧ Below w.heap.size w wr ∧ wr.ownsRow w.heap.size 5 1 v (xs.length + k) (ub (xs ++ ys.take k))) (fun j _ _ => ys.length - (intOf j).toNat)
      case atStart => exact ⟨0, Nat.zero_le _, rfl, hbw, by simpa using ho⟩
      case round =>
        clear ho hbw
        obtain ⟨k, hk, rfl, hbw, ho⟩ := hrel
        by_cases hlt : k < ys.length
        · obtain ⟨tb, tq, rfl, hc⟩ : ∃ tb tq, sb = some ⟨tb, tq, none⟩ ∧ ∀ j, j < ys.length → w.cell? ⟨tb, tq + j, none⟩ = some (.int .u8 (ys.getD j 0)) := by
            rcases hb.bytes with h | h
            · rw [h] at hlt; simp at hlt
            · exact h
          have ck := (hbw.cell (p := ⟨tb, tq + k, none⟩) (block_lt_of_cell (hc k hlt))).trans (hc k hlt)
          have hltI : (k : Int) < ys.length := by omega
          have hst : Hid (ys.take (k + 1) = ys.take k ++ [ys.getD k 0]) := by
            show _ = _
            rw [List.take_succ_eq_append_getElem hlt]
            simp [List.getD, hlt]
          clear hc
          generalize ys.getD k 0 = x at ck hst
          go_wp2_with (at_builtin; refine wpList_append_own _ rfl _ _ 42 rfl w.heap.size 5 i (.int .u8 0) 1 1 Tryd.underlying42 hi hz0 hz1 hz2 rfl (by decide) _ (xs.length + k) _ rfl (World.ownsRow.alloc ho _) ⟨wr.heap.size, 0, none⟩ 1 1 [.int .u8 x] rfl rfl (cells_new _ _ _) (u8_one [_]) (by unfold maxLen; omega) (by omega) (le_alloc hbw.size _) ?_; intro v1 w2 ho1 hg1 _)
          have hb2 := Below.grown (hbw.alloc hbw.size _) hg1 (le_alloc hbw.size _) (fun q e => (ho.lt q e).1)
          go_roundw
          case rel =>
            have hR : ∃ k' : Nat, k' ≤ ys.length ∧ (Value.int .i64 ((k : Int) + 1)) = .int .i64 k' ∧ Below w.heap.size w w2 ∧ w2.ownsRow w.heap.size 5 1 v1 (xs.length + k') (ub (xs ++ ys.take k')) :=
              ⟨k + 1, by omega, by go_num, hb2, by rw [hst.out]; simpa [ub, Nat.add_assoc] using ho1⟩
            first | exact hR | ((repeat apply Exists.intro); exact ⟨hR, rfl⟩)
          case measure => simp [intOf]; omega
        · obtain rfl : k = ys.length := by omega
          rw [List.take_of_length_le (Nat.le_refl _)] at ho
          go_wp2_with fail
          go_ret
          exact ⟨_, rfl, ho, hbw⟩
end Go.Proofs.YteeiomcgdgehfaaDoor

namespace Go.Proofs.YteeiomcgdgehfaaDoor
open Go.RowKit

set_option maxRecDepth 100000 in
theorem Same.bsAt {ps qs : List Part} (h : Same ps qs) (k : Nat) : (partAt ps k).bs = (partAt qs k).bs := by
  have hk : (ps.map (·.bs))[k]? = (qs.map (·.bs))[k]? := by rw [h]
  simp only [List.getElem?_map] at hk
  simp only [partAt, List.getD]
  cases h1 : ps[k]? <;> cases h2 : qs[k]? <;> simp_all
set_option maxRecDepth 100000 in
theorem digTo1_same {ps qs : List Part} (h : Same ps qs) (k : Nat) : digTo1 ps k = digTo1 qs k := by
  induction k with
  | zero => rfl
  | succ k ih =>
    have e1 : digAt ps k = digAt qs k := by
      have e2 : twice ps k = twice qs k := by
        simp only [twice, h.bsAt]
      rw [digAt, digAt, e2, h.bsAt k]
    rw [digTo1, digTo1, ih, e1]
set_option maxRecDepth 100000 in
theorem digF_same {ps qs : List Part} (h : Same ps qs) : digF ps = digF qs := by
  rw [digF, digF, h.length, digTo1_same h]
set_option maxRecDepth 100000 in
set_option maxHeartbeats 1000000 in
theorem bytesCopies_any (ps : List Part) (sa : Option Addr) (n cap : Nat) (w : World) (hn : n = ps.length) (hr : ps.length * 24 ≤ 140737488355328) (hre : ∀ p ∈ ps, p.bs.length ≤ 140737488355328) (hp : PartsAt w sa ps) :
    Calls Tryd.prog 41 #[.slice sa n cap] w fun e w' => ∃ ra rc qs, e = .returned (.slice ra ps.length rc) ∧ Same qs ps ∧ ListAt w' ra rc qs ∧ Below w.heap.size w w' ∧ Fresh w.heap.size ra qs := by
  subst hn
  obtain ⟨i, hi, hz0, hz1, hz2⟩ := info_parts infoBs
  go_enter Tryd.func41, Tryd.ntmps41
  go_wp2_with fail
  go_loopw [4, 3] (fun j v wr => ∃ (k : Nat) (qs : List Part), k ≤ ps.length ∧ j = .int .i64 k ∧ Same qs (ps.take k) ∧ wr.ownsRow w.heap.size 42 1 v k (pv qs) ∧ Apart wr w.heap.size v qs ∧ Below w.heap.size w wr) (fun j _ _ => ps.length - (intOf j).toNat)
  case atStart => exact ⟨0, [], Nat.zero_le _, rfl, by simp [Same], World.ownsRow_nil _ _ _ _, (fun p hp => by cases hp), Below.refl _ _⟩
  case round =>
    obtain ⟨k, qs, hk, rfl, hS, ho, hap, hb⟩ := hrel
    by_cases hlt : k < ps.length
    · have hpw := hp.below hb
      obtain ⟨sb, so, rfl, hc⟩ : ∃ sb so, sa = some ⟨sb, so, none⟩ ∧ ∀ j (h : j < ps.length), wr.cell? ⟨sb, so + j, none⟩ = some (.slice (ps[j]).sa (ps[j]).bs.length (ps[j]).cap) := by
        rcases hpw.cells with h | h
        · rw [h] at hlt; simp at hlt
        · exact h
      have ck := hc k hlt
      have hx := hpw.each (ps[k]) (List.getElem_mem hlt)
      have hxr := hre (ps[k]) (List.getElem_mem hlt)
      have hst : Hid (ps.take (k + 1) = ps.take k ++ [ps[k]]) := List.take_succ_eq_append_getElem hlt
      have hltI : (k : Int) < ps.length := by omega
      clear hc
      generalize ps[k] = p at *
      go_wp2_with fail
      refine (joined_any p.bs [] p.sa none _ _ p.cap 0 wr rfl rfl hx (nilSlice _) (by simpa using hxr)).mono ?_
      rintro e w2 ⟨v2, he, ho2, hb2⟩
      subst he
      dsimp only
      simp only [List.append_nil, List.length_nil, Nat.add_zero] at ho2
      obtain ⟨ra, rc, hv, _, hs2⟩ := owns_form ho2
      subst hv
      have hob := owns_keep ho hb2
      have hB2 := hb.trans (hb2.mono hb.size)
      go_wp2_with (at_builtin; refine wpList_append_own_at _ rfl _ _ 23 rfl w.heap.size 42 i (.slice none 0 0) 1 24 Tryd.underlying23 hi hz0 hz1 hz2 rfl (by decide) _ k _ rfl (World.ownsRow.alloc hob _) ⟨w2.heap.size, 0, none⟩ 1 1 [.slice ra p.bs.length rc] rfl rfl (cells_new _ _ _) (by intro u hu; simp at hu; subst hu; rfl) (by unfold maxLen; omega) (by omega) (le_alloc hB2.size _) ?_; intro v1 w3 ho3 hg3 _ hat)
      have G := Grew.of hg3 hat
      have hap3 := hap.more (q := ⟨ra, rc, p.bs⟩) hb.size ho hb2 ho2 hs2 G
      have hB3 := Below.grown (hB2.alloc hB2.size _) hg3 (le_alloc hB2.size _) (fun q e => (hob.lt q e).1)
      go_roundw
      case rel =>
        have hR : ∃ (k' : Nat) (qs' : List Part), k' ≤ ps.length ∧ (Value.int .i64 ((k : Int) + 1)) = .int .i64 k' ∧ Same qs' (ps.take k') ∧ w3.ownsRow w.heap.size 42 1 v1 k' (pv qs') ∧ Apart w3 w.heap.size v1 qs' ∧ Below w.heap.size w w3 :=
          ⟨k + 1, qs ++ [⟨ra, rc, p.bs⟩], by omega, by go_num, by rw [hst.out]; simp only [Same, List.map_append] at hS ⊢; rw [hS]; rfl, by simpa [pv, Part.val] using ho3, hap3, hB3⟩
        first | exact hR | ((repeat apply Exists.intro); exact ⟨hR, rfl⟩)
      case measure => simp [intOf]; omega
    · obtain rfl : k = ps.length := by omega
      rw [List.take_of_length_le (Nat.le_refl _)] at hS
      obtain ⟨ra, rc, hv, hl, hL, hfr⟩ := listAt_of_owns ho hap
      subst hv
      go_wp2_with fail
      go_ret
      exact ⟨ra, rc, qs, rfl, hS, hL (by omega), hb, hfr⟩
end Go.Proofs.YteeiomcgdgehfaaDoor
