/- 'append(b, s...)', s a text, and where the new slice lies. -/
import Derived.Test.YtnfcaonmfkbofaaGreatDoorHeadK
import Derived.Test.YtnfcaonmfkbofaaGreatDoorRawH
import Derived.Test.YtnfcaonmfkbofaaGreatDoorBstr
import Derived.Test.YtnfcaonmfkbofaaGreatDoorCertF
import Derived.Test.YtnfcaonmfkbofaaGreatDoorRawU
import Derived.Test.YtnfcaonmfkbofaaGreatDoorPicked
import Derived.Test.YtnfcaonmfkbofaaGreatDoorGrew
import Derived.Test.YtnfcaonmfkbofaaGreatDoorMsg
import Derived.Test.YtnfcaonmfkbofaaGreatDoorTextsAt
import Derived.Test.YtnfcaonmfkbofaaGreatDoorSRow
import Derived.Test.YtnfcaonmfkbofaaGreatDoorMsgF
import Derived.Test.YtnfcaonmfkbofaaGreatDoorRawBF
import Derived.Test.YtnfcaonmfkbofaaGreatDoorSome
import Derived.Deep.RegionHeld3
import Derived.Deep.CutRange
import Derived.Deep.DeepCutAuto
import Derived.Lib.AppendStr
namespace Go.Proofs.YtnfcaonmfkbofaaGreatDoor
open Go.RowKit

set_option maxRecDepth 100000 in
theorem someL_u8 (n m : Int) : ∀ x ∈ someL n m, 0 ≤ x ∧ x ≤ 255 := by
  obtain ⟨hp0, hp1⟩ := pk_bounds n 256 (by decide)
  intro x hx
  rcases List.mem_or_eq_of_mem_set hx with hx | rfl
  · rcases List.mem_or_eq_of_mem_set hx with hx | rfl
    · rcases List.mem_or_eq_of_mem_set hx with hx | rfl
      · rw [List.mem_replicate] at hx; omega
      · omega
    · omega
  · omega
set_option maxRecDepth 100000 in
theorem someL_inj {a : Int} {i j : Int} (hi : 0 ≤ i ∧ i < 256) (hj : 0 ≤ j ∧ j < 256) (h : someL a i = someL a j) : i = j := by
  have h1 : (someL a i)[1]? = (someL a j)[1]? := by rw [h]
  simp [someL] at h1
  omega
set_option maxRecDepth 100000 in
/-- Digests of raw numbers are whole, and all different. -/
theorem digF_some (ps : List Part) (a c : Int) (n : Nat) (hc : 0 ≤ c ∧ c + n ≤ 256) (h : ps.map (·.bs) = (List.range n).map fun (i : Nat) => someL a (c + i)) : digF ps = 0 := by
  have hl : ps.length = n := by have := congrArg List.length h; simpa using this
  have hg : ∀ k, k < ps.length → (partAt ps k).bs = someL a (c + k) := by
    intro k hk
    rw [partAt_get ps k hk]
    have h1 : (ps.map (·.bs))[k]? = ((List.range n).map fun (i : Nat) => someL a (c + i))[k]? := by rw [h]
    simp [hk, show k < n by omega] at h1
    exact h1
  have hall : ∀ k, k ≤ ps.length → digTo1 ps k = 0 := by
    intro k
    induction k with
    | zero => intro _; rfl
    | succ k ih =>
      intro hk
      rw [digTo1, ih (by omega)]
      simp only [ne_eq, not_true_eq_false, if_false]
      have htw : twice ps k = false := by
        rw [twice, List.any_eq_false]
        intro j hj
        rw [List.mem_range] at hj
        rw [hg j (by omega), hg k (by omega)]
        intro e
        have e' := of_decide_eq_true e
        unfold txL at e'
        have e2 : someL a (c + j) = someL a (c + k) := bstr_inj (someL_u8 _ _) (someL_u8 _ _) (ba_ext e')
        have := someL_inj (by omega) (by omega) e2
        omega
      rw [digAt, hg k (by omega), someL_length, htw]
      simp
  exact hall ps.length (Nat.le_refl _)
set_option maxRecDepth 100000 in
theorem headerF_raw (ra rb rc : Int) (bl pl : List Part) (hb : bl.map (·.bs) = hBats rc) (hp : pl.map (·.bs) = hPars ra rb rc) : headerF (pk ra 4) (1 + pk rb 9) bl pl = 0 := by
  obtain ⟨pa0, pa1⟩ := pk_bounds ra 4 (by decide)
  obtain ⟨pb0, pb1⟩ := pk_bounds rb 9 (by decide)
  obtain ⟨pc0, pc1⟩ := pk_bounds rc 4 (by decide)
  obtain ⟨pd0, pd1⟩ := pk_bounds rc 2 (by decide)
  have hbl : bl.length = (pk rc 4).toNat := by have := congrArg List.length hb; simpa [hBats] using this
  have hdb : digF bl = 0 := digF_some bl rc 0 (pk rc 4).toNat (by omega) (by rw [hb, hBats]; simp)
  by_cases h0 : pk rb 9 = 0
  · rw [hPars, if_pos h0] at hp
    have hpl : pl = [] := by simpa using hp
    subst hpl
    rw [headerF, if_neg (by omega), if_neg (by simp; omega), if_neg (by simp [hdb]), if_neg (by simp [digF, digTo1])]
    simp [parentsF, h0]
  · rw [hPars, if_neg h0] at hp
    have hpl : pl.length = (3 + pk rc 2).toNat := by have := congrArg List.length hp; simpa using this
    have hdp : digF pl = 0 := digF_some pl ra 10 (3 + pk rc 2).toNat (by omega) hp
    rw [headerF, if_neg (by omega), if_neg (by omega), if_neg (by simp [hdb]), if_neg (by simp [hdp]), parentsF, if_neg (by omega)]
end Go.Proofs.YtnfcaonmfkbofaaGreatDoor

namespace Go.Proofs.YtnfcaonmfkbofaaGreatDoor
open Go.RowKit

set_option maxRecDepth 100000 in
theorem infoInt2 : (Tryz.prog.info? 3).map (fun i => (i.zero, i.size, i.bytes)) = some (some (.int .i64 0), 1, 8) := by kernel_rfl
def iv (vl : List Int) : List Value := vl.map (Value.int .i64)
set_option maxRecDepth 100000 in
theorem iv_length (vl : List Int) : (iv vl).length = vl.length := by simp [iv]
set_option maxRecDepth 100000 in
theorem iv_one (vl : List Int) : ∀ u ∈ iv vl, u.oneCell' = true := by
  intro u hu; simp [iv] at hu; obtain ⟨x, _, rfl⟩ := hu; rfl
set_option maxRecDepth 100000 in
theorem intsAt_of_owns {w : World} {base n : Nat} {v : Value} {vl : List Int} (h : w.ownsRow base 3 1 v n (iv vl)) : ∃ za zc, v = .slice za n zc ∧ n = vl.length ∧ IntsAt w za vl ∧ ∀ sb so, za = some ⟨sb, so, none⟩ → base ≤ sb := by
  have hl : n = vl.length := by have := h.1; rw [iv_length] at this; omega
  rcases h.2 with ⟨rfl, hn⟩ | ⟨g, cap, cur, rfl, _⟩
  · have hb : vl = [] := List.eq_nil_of_length_eq_zero (by omega)
    subst hn hb
    exact ⟨none, 0, rfl, rfl, ⟨.inl rfl⟩, fun _ _ e => by cases e⟩
  · refine ⟨some ⟨g, 0, none⟩, cap, rfl, hl, ⟨.inr ⟨g, 0, rfl, fun j hj => ?_⟩⟩, fun sb so e => by cases e; exact (h.lt _ rfl).1⟩
    rw [Nat.zero_add, World.ownsRow.cellAt h j (by omega)]
    simp [iv, hj]
set_option maxRecDepth 100000 in
theorem IntsAt.setCell {w : World} {va : Option Addr} {vl : List Int} (h : IntsAt w va vl) (b j : Nat) (v : Value) (hne : ∀ sb so, va = some ⟨sb, so, none⟩ → b ≠ sb) : IntsAt (w.setCell ⟨b, j, none⟩ v) va vl := by
  refine ⟨?_⟩
  rcases h.cells with h | ⟨sb, so, rfl, hc⟩
  · exact .inl h
  · exact .inr ⟨sb, so, rfl, fun k hk => (World.cell?_setCell_far _ _ _ _ (hne sb so rfl)).trans (hc k hk)⟩
end Go.Proofs.YtnfcaonmfkbofaaGreatDoor

namespace Go.Proofs.YtnfcaonmfkbofaaGreatDoor
open Go.RowKit

/-- The numbers below i, without k. -/
def without (k : Int) : Nat → List Int
  | 0 => []
  | i + 1 => if (i : Int) = k then without k i else without k i ++ [(i : Int)]
def votersL (n : Int) : List Int := without (pk n 5) 4
set_option maxRecDepth 100000 in
theorem without_le (k : Int) (i : Nat) : (without k i).length ≤ i := by
  induction i with
  | zero => simp [without]
  | succ i ih =>
    rw [without]
    split
    · omega
    · simp; omega
set_option maxRecDepth 100000 in
set_option maxHeartbeats 1000000 in
theorem voters_any (n : Int) (w : World) (hn : I64 n) :
    Calls Tryz.prog 47 #[.int .i64 n] w fun e w' => ∃ v, e = .returned v ∧ w'.ownsRow w.heap.size 3 1 v (votersL n).length (iv (votersL n)) ∧ Below w.heap.size w w' := by
  obtain ⟨p0, p1⟩ := pk_bounds n 5 (by decide)
  obtain ⟨i, hi, hz0, hz1, hz2⟩ := info_parts infoInt2
  have hP := fun wx => picked_any n 5 wx hn.1 hn.2 (by decide) (by decide)
  unfold votersL
  generalize pk n 5 = k at *
  have HP : Hid _ := hP
  clear hP
  go_enter Tryz.func47, Tryz.ntmps47
  go_wp2_with (go_at_call 19; refine (HP.out _).mono ?_; rintro e w9 ⟨rfl, rfl⟩)
  go_loopw [5, 4] (fun j t wr => ∃ (m : Nat) (tv : Value), m ≤ 4 ∧ j = .int .i64 m ∧ tv = t ∧ wr.ownsRow w.heap.size 3 1 tv (without k m).length (iv (without k m)) ∧ Below w.heap.size w wr) (fun j _ _ => 4 - (intOf j).toNat)
  case atStart => exact ⟨0, _, Nat.zero_le _, rfl, rfl, World.ownsRow_nil _ _ _ _, Below.refl _ _⟩
  case round =>
    obtain ⟨m, tv, hm, rfl, rfl, ho, hbw⟩ := hrel
    by_cases hlt : m < 4
    · have hltI : (m : Int) < 4 := by omega
      have hle := without_le k m
      by_cases he : (m : Int) = k
      · have hst : Hid (without k (m + 1) = without k m) := by show _ = _; rw [without, if_pos he]
        have heb : ((m : Int) == k) = true := by simpa using he
        have He : Hid ((m : Int) = k) := he
        clear he
        go_wp2_with fail
        go_roundw
        case rel =>
          have hR : ∃ (m' : Nat) (tv' : Value), m' ≤ 4 ∧ (Value.int .i64 ((m : Int) + 1)) = .int .i64 m' ∧ tv' = tv ∧ wr.ownsRow w.heap.size 3 1 tv' (without k m').length (iv (without k m')) ∧ Below w.heap.size w wr := ⟨m + 1, tv, by omega, by go_num, rfl, by rw [hst.out]; exact ho, hbw⟩
          first | exact hR | ((repeat apply Exists.intro); exact ⟨hR, rfl⟩)
        case measure => simp [intOf]; omega
      · have hst : Hid (without k (m + 1) = without k m ++ [(m : Int)]) := by show _ = _; rw [without, if_neg he]
        have heb : ((m : Int) == k) = false := by simpa using he
        generalize without k m = T at *
        have hBr := hbw.size
        go_wp2_with (at_builtin; refine wpList_append_own_at _ rfl _ _ 68 rfl w.heap.size 3 i (.int .i64 0) 1 8 Tryz.underlying68 hi hz0 hz1 hz2 rfl (by decide) _ T.length _ rfl (World.ownsRow.alloc ho _) ⟨wr.heap.size, 0, none⟩ 1 1 [.int .i64 (m : Int)] rfl rfl (cells_new _ _ _) (iv_one [_]) (by unfold maxLen; omega) (by omega) (le_alloc hBr _) ?_; intro v5 w5 ho5 hg5 _ _)
        go_roundw
        case rel =>
          have hb5 : Below w.heap.size w w5 := Below.grown (hbw.alloc hBr _) hg5 (le_alloc hBr _) (fun q e => (ho.lt q e).1)
          have hR : ∃ (m' : Nat) (tv' : Value), m' ≤ 4 ∧ (Value.int .i64 ((m : Int) + 1)) = .int .i64 m' ∧ tv' = v5 ∧ w5.ownsRow w.heap.size 3 1 tv' (without k m').length (iv (without k m')) ∧ Below w.heap.size w w5 := ⟨m + 1, v5, by omega, by go_num, rfl, by rw [hst.out]; simpa [iv] using ho5, hb5⟩
          first | exact hR | ((repeat apply Exists.intro); exact ⟨hR, rfl⟩)
        case measure => simp [intOf]; omega
    · obtain rfl : m = 4 := by omega
      go_wp2_with fail
      go_ret
      exact ⟨_, rfl, ho, hbw⟩
end Go.Proofs.YtnfcaonmfkbofaaGreatDoor

namespace Go.Proofs.YtnfcaonmfkbofaaGreatDoor
open Go.RowKit

set_option maxRecDepth 100000 in
theorem votersL_form (rc : Int) : ∃ x0 x1 x2 xs, votersL rc = x0 :: x1 :: x2 :: xs ∧ 0 ≤ x0 ∧ x0 < x1 ∧ x1 < 4 ∧ votersF (votersL rc) = 0 ∧ x0 < 4 ∧ (votersL rc).length ≤ 4 := by
  obtain ⟨p0, p1⟩ := pk_bounds rc 5 (by decide)
  unfold votersL
  generalize pk rc 5 = k at *
  have h : k = 0 ∨ k = 1 ∨ k = 2 ∨ k = 3 ∨ k = 4 := by omega
  rcases h with rfl | rfl | rfl | rfl | rfl
  · exact ⟨1, 2, 3, [], by decide, by decide, by decide, by decide, by decide, by decide, by decide⟩
  · exact ⟨0, 2, 3, [], by decide, by decide, by decide, by decide, by decide, by decide, by decide⟩
  · exact ⟨0, 1, 3, [], by decide, by decide, by decide, by decide, by decide, by decide, by decide⟩
  · exact ⟨0, 1, 2, [], by decide, by decide, by decide, by decide, by decide, by decide, by decide⟩
  · exact ⟨0, 1, 2, [3], by decide, by decide, by decide, by decide, by decide, by decide, by decide⟩
set_option maxRecDepth 100000 in
theorem votersL_four (rc : Int) : ∀ x ∈ votersL rc, 0 ≤ x ∧ x < 4 := by
  obtain ⟨p0, p1⟩ := pk_bounds rc 5 (by decide)
  unfold votersL
  generalize pk rc 5 = k at *
  have h : k = 0 ∨ k = 1 ∨ k = 2 ∨ k = 3 ∨ k = 4 := by omega
  rcases h with rfl | rfl | rfl | rfl | rfl <;> decide
end Go.Proofs.YtnfcaonmfkbofaaGreatDoor

namespace Go.Proofs.YtnfcaonmfkbofaaGreatDoor
open Go.RowKit

/-- All of a message's lists are new memory. -/
structure NewM (B : Nat) (m : Msg) (bl pl cbl cpl : List Part) : Prop where
  tx : ∀ sb so, m.bta = some ⟨sb, so, none⟩ → B ≤ sb
  hb : Fresh B m.hba bl
  hp : Fresh B m.hpa pl
  sd : ∀ sb so, m.sda = some ⟨sb, so, none⟩ → B ≤ sb
  cb : Fresh B m.cba cbl
  cp : Fresh B m.cpa cpl
  cv : ∀ sb so, m.cva = some ⟨sb, so, none⟩ → B ≤ sb
set_option maxRecDepth 100000 in
theorem nilM (w : World) : SliceAt w none 0 [] := ⟨Nat.le_refl _, by decide, .inl rfl, fun _ => rfl, .inl rfl⟩
set_option maxRecDepth 100000 in
theorem Fresh.monoM {B B' : Nat} {ra : Option Addr} {qs : List Part} (h : Fresh B ra qs) (hB : B' ≤ B) : Fresh B' ra qs := ⟨fun sb so e => Nat.le_trans hB (h.row sb so e), fun p hp sb so e => Nat.le_trans hB (h.each p hp sb so e)⟩
/-- What Message gives: a message that may be. -/
structure RawM (w w' : World) (e : Ending) (ki rb rc : Int) : Prop where
  out : ∃ (m : Msg) (ss : List ByteArray) (bl pl cbl cpl : List Part) (vl : List Int), e = .returned (.agg #[.int .i64 m.fr, .int .i64 m.tt, .int .i64 m.ki, .int .i64 m.bau, .int .i64 m.bnu, .slice m.bta m.btn m.btc, .int .i64 m.hau, .int .i64 m.hrd, .slice m.hba m.hbn m.hbc, .slice m.hpa m.hpn m.hpc, .int .i64 m.sau, .int .i64 m.srd, .slice m.sda m.sdn m.sdc, .int .i64 m.cau, .int .i64 m.crd, .slice m.cba m.cbn m.cbc, .slice m.cpa m.cpn m.cpc, .slice m.cva m.cvn m.cvc, .int .i64 m.ro]) ∧ MsgAt w' m ss bl pl cbl cpl vl ∧ m.fr = pk rc 4 ∧ m.tt = pk rb 4 ∧ carriedF m ss bl pl cbl cpl vl = 0 ∧ msgEmpty (strip m) = true ∧ Below w.heap.size w w' ∧ m.ki = 1 + pk ki 5 ∧ (m.ki = 1 → m.bnu ≠ 0) ∧ (m.ki = 2 → m.hrd ≠ 0) ∧ (m.ki = 3 → m.srd ≠ 0) ∧ (m.ki = 4 → m.crd ≠ 0) ∧ (m.ki = 5 → m.ro ≠ 0) ∧ ∃ ds : List Int, SliceAt w' m.sda m.sdc ds ∧ m.sdn = ds.length ∧ NewM w.heap.size m bl pl cbl cpl
/-- The bytes of a message's lists are bytes. -/
structure U8M (bl pl cbl cpl : List Part) (ds : List Int) : Prop where
  hb : ∀ p ∈ bl, ∀ x ∈ p.bs, 0 ≤ x ∧ x ≤ 255
  hp : ∀ p ∈ pl, ∀ x ∈ p.bs, 0 ≤ x ∧ x ≤ 255
  cb : ∀ p ∈ cbl, ∀ x ∈ p.bs, 0 ≤ x ∧ x ≤ 255
  cp : ∀ p ∈ cpl, ∀ x ∈ p.bs, 0 ≤ x ∧ x ≤ 255
  sd : ∀ x ∈ ds, 0 ≤ x ∧ x ≤ 255
set_option maxRecDepth 100000 in
theorem u8_bats {rc : Int} {bl : List Part} (h : bl.map (·.bs) = hBats rc) : ∀ p ∈ bl, ∀ x ∈ p.bs, 0 ≤ x ∧ x ≤ 255 := by
  intro p hp x hx
  have h1 : p.bs ∈ bl.map (·.bs) := List.mem_map_of_mem hp
  rw [h, hBats] at h1
  obtain ⟨i, _, hi⟩ := List.mem_map.1 h1
  rw [← hi] at hx
  exact someL_u8 _ _ x hx
set_option maxRecDepth 100000 in
theorem u8_pars {ra rb rc : Int} {pl : List Part} (h : pl.map (·.bs) = hPars ra rb rc) : ∀ p ∈ pl, ∀ x ∈ p.bs, 0 ≤ x ∧ x ≤ 255 := by
  intro p hp x hx
  have h1 : p.bs ∈ pl.map (·.bs) := List.mem_map_of_mem hp
  rw [h, hPars] at h1
  split at h1
  · cases h1
  · obtain ⟨i, _, hi⟩ := List.mem_map.1 h1
    rw [← hi] at hx
    exact someL_u8 _ _ x hx
set_option maxRecDepth 100000 in
theorem u8_none {α : Type} {P : α → Prop} : ∀ p ∈ ([] : List α), P p := fun p hp => by cases hp
/-- The same, and that its bytes are bytes. -/
structure RawMU (w w' : World) (e : Ending) (ki rb rc : Int) : Prop where
  out : ∃ (m : Msg) (ss : List ByteArray) (bl pl cbl cpl : List Part) (vl : List Int), e = .returned (.agg #[.int .i64 m.fr, .int .i64 m.tt, .int .i64 m.ki, .int .i64 m.bau, .int .i64 m.bnu, .slice m.bta m.btn m.btc, .int .i64 m.hau, .int .i64 m.hrd, .slice m.hba m.hbn m.hbc, .slice m.hpa m.hpn m.hpc, .int .i64 m.sau, .int .i64 m.srd, .slice m.sda m.sdn m.sdc, .int .i64 m.cau, .int .i64 m.crd, .slice m.cba m.cbn m.cbc, .slice m.cpa m.cpn m.cpc, .slice m.cva m.cvn m.cvc, .int .i64 m.ro]) ∧ MsgAt w' m ss bl pl cbl cpl vl ∧ m.fr = pk rc 4 ∧ m.tt = pk rb 4 ∧ carriedF m ss bl pl cbl cpl vl = 0 ∧ msgEmpty (strip m) = true ∧ Below w.heap.size w w' ∧ m.ki = 1 + pk ki 5 ∧ (m.ki = 1 → m.bnu ≠ 0) ∧ (m.ki = 2 → m.hrd ≠ 0) ∧ (m.ki = 3 → m.srd ≠ 0) ∧ (m.ki = 4 → m.crd ≠ 0) ∧ (m.ki = 5 → m.ro ≠ 0) ∧ ∃ ds : List Int, SliceAt w' m.sda m.sdc ds ∧ m.sdn = ds.length ∧ NewM w.heap.size m bl pl cbl cpl ∧ U8M bl pl cbl cpl ds
set_option maxRecDepth 100000 in
theorem list_setRowM {w : World} {ra : Option Addr} {rc B : Nat} {qs : List Part} (h : ListAt w ra rc qs) (hf : Fresh B ra qs) (b : Nat) (cs : Array Value) (hb : b < B) : ListAt (w.setRow b cs) ra rc qs := by
  refine ⟨h.le, h.max, h.small, h.some, ⟨?_, fun p hp => ?_⟩⟩
  · rcases h.parts.cells with hc | ⟨sb, so, rfl, hc⟩
    · exact .inl hc
    · exact .inr ⟨sb, so, rfl, fun k hk => (cell_row (by have := hf.row sb so rfl; omega)).trans (hc k hk)⟩
  · exact slice_setRow (h.parts.each p hp) b cs (fun sb so e => by have := hf.each p hp sb so e; omega)
set_option maxRecDepth 100000 in
theorem ints_setRowM {w : World} {va : Option Addr} {vl : List Int} (h : IntsAt w va vl) (b : Nat) (cs : Array Value) (hne : ∀ sb so, va = some ⟨sb, so, none⟩ → sb ≠ b) : IntsAt (w.setRow b cs) va vl := by
  refine ⟨?_⟩
  rcases h.cells with h | ⟨sb, so, rfl, hc⟩
  · exact .inl h
  · exact .inr ⟨sb, so, rfl, fun k hk => (cell_row (hne sb so rfl)).trans (hc k hk)⟩
set_option maxRecDepth 100000 in
theorem ints_owned {w : World} {base n : Nat} {va : Option Addr} {vc : Nat} {vl : List Int} (h : w.ownsRow base 3 1 (.slice va n vc) n (iv vl)) : IntsAt w va vl ∧ ∀ sb so, va = some ⟨sb, so, none⟩ → base ≤ sb := by
  have hl : n = vl.length := by have := h.1; simp [iv] at this; omega
  have hc := fun (g : Nat) (e : va = some ⟨g, 0, none⟩) j hj => World.ownsRow.cellAt (g := g) (by rw [← e]; exact h) j hj
  rcases h.2 with ⟨e, hn⟩ | ⟨g, cap, cur, e, hg, _⟩
  · simp only [Value.slice.injEq] at e
    obtain ⟨rfl, _, _⟩ := e
    exact ⟨⟨.inl (List.eq_nil_of_length_eq_zero (by omega))⟩, fun _ _ e => by cases e⟩
  · simp only [Value.slice.injEq, true_and] at e
    obtain ⟨rfl, _⟩ := e
    refine ⟨⟨.inr ⟨g, 0, rfl, fun j hj => ?_⟩⟩, fun sb so e => by cases e; exact hg⟩
    rw [Nat.zero_add, hc g rfl j (by omega)]
    simp [iv, hj]
set_option maxRecDepth 100000 in
theorem certF_ofM {au rd : Int} {bl pl : List Part} {vl : List Int} (hF : headerF au rd bl pl = 0) (hv : votersF vl = 0) (hl : vl.length ≤ 4) : certF au rd bl pl vl = 0 := by
  rw [certF, if_neg (by simp [hF]), if_neg (by omega), hv]
set_option maxRecDepth 100000 in
theorem list_nilM (w : World) : ListAt w none 0 [] := ⟨Nat.le_refl _, by decide, by decide, .inl rfl, ⟨.inl rfl, fun p hp => by cases hp⟩⟩
set_option maxRecDepth 100000 in
set_option maxHeartbeats 20000000 in
theorem message_rawU (ki ra rb rc : Int) (sa : Option Addr) (cap : Nat) (ss : List ByteArray) (w : World) (h1 : I64 ki) (h2 : I64 ra) (h3 : I64 rb) (h4 : I64 rc) (h5 : TextsAt w sa cap ss) :
    Calls Tryz.prog 24 #[.agg #[.int .i64 ki, .int .i64 ra, .int .i64 rb, .int .i64 rc, .slice sa ss.length cap]] w fun e w' => RawMU w w' e ki rb rc := by
  obtain ⟨pk0, pk1⟩ := pk_bounds ki 5 (by decide)
  have hw : IntKind.i64.wrap (1 + pk ki 5) = 1 + pk ki 5 := by rw [IntKind.wrap_i64]; omega
  have hA0 : Below w.heap.size w ((w.alloc (.cells #[.int .i64 ki, .int .i64 ra, .int .i64 rb, .int .i64 rc, .slice sa ss.length cap] 81)).alloc (.cells #[.int .i64 0, .int .i64 0, .int .i64 0, .int .i64 0, .int .i64 0, .slice none 0 0, .int .i64 0, .int .i64 0, .slice none 0 0, .slice none 0 0, .int .i64 0, .int .i64 0, .slice none 0 0, .int .i64 0, .int .i64 0, .slice none 0 0, .slice none 0 0, .slice none 0 0, .int .i64 0] 78)) := ((Below.refl _ _).alloc (Nat.le_refl _) _).alloc (by simp) _
  have q0 := heap_alloc2_old w (.cells #[.int .i64 ki, .int .i64 ra, .int .i64 rb, .int .i64 rc, .slice sa ss.length cap] 81) (.cells #[.int .i64 0, .int .i64 0, .int .i64 0, .int .i64 0, .int .i64 0, .slice none 0 0, .int .i64 0, .int .i64 0, .slice none 0 0, .slice none 0 0, .int .i64 0, .int .i64 0, .slice none 0 0, .int .i64 0, .int .i64 0, .slice none 0 0, .slice none 0 0, .slice none 0 0, .int .i64 0] 78)
  have q1 := heap_alloc2_new w (.cells #[.int .i64 ki, .int .i64 ra, .int .i64 rb, .int .i64 rc, .slice sa ss.length cap] 81) (.cells #[.int .i64 0, .int .i64 0, .int .i64 0, .int .i64 0, .int .i64 0, .slice none 0 0, .int .i64 0, .int .i64 0, .slice none 0 0, .slice none 0 0, .int .i64 0, .int .i64 0, .slice none 0 0, .int .i64 0, .int .i64 0, .slice none 0 0, .slice none 0 0, .slice none 0 0, .int .i64 0] 78)
  go_enter Tryz.func24, Tryz.ntmps24
  go_upto_region 1 with (fail)
  generalize (w.alloc (.cells #[.int .i64 ki, .int .i64 ra, .int .i64 rb, .int .i64 rc, .slice sa ss.length cap] 81)).alloc (.cells #[.int .i64 0, .int .i64 0, .int .i64 0, .int .i64 0, .int .i64 0, .slice none 0 0, .int .i64 0, .int .i64 0, .slice none 0 0, .slice none 0 0, .int .i64 0, .int .i64 0, .slice none 0 0, .int .i64 0, .int .i64 0, .slice none 0 0, .slice none 0 0, .slice none 0 0, .int .i64 0] 78) = W0 at hA0 q0 q1 ⊢
  go_cut [3] (fun v wx => ∃ b, v = .pointer (some ⟨b, 0, none⟩) ∧ w.heap.size + 1 < b ∧ Below w.heap.size w wx ∧ wx.heap[w.heap.size]? = some (.cells #[.int .i64 ki, .int .i64 ra, .int .i64 rb, .int .i64 rc, .slice sa ss.length cap] 81 (0, 0)) ∧ wx.heap[w.heap.size + 1]? = some (.cells #[.int .i64 0, .int .i64 0, .int .i64 0, .int .i64 0, .int .i64 0, .slice none 0 0, .int .i64 0, .int .i64 0, .slice none 0 0, .slice none 0 0, .int .i64 0, .int .i64 0, .slice none 0 0, .int .i64 0, .int .i64 0, .slice none 0 0, .slice none 0 0, .slice none 0 0, .int .i64 0] 78 (0, 0)) ∧ wx.heap[b]? = some (.cells #[.int .i64 (pk rc 4), .int .i64 (pk rb 4), .int .i64 (1 + pk ki 5), .int .i64 0, .int .i64 0, .slice none 0 0, .int .i64 0, .int .i64 0, .slice none 0 0, .slice none 0 0, .int .i64 0, .int .i64 0, .slice none 0 0, .int .i64 0, .int .i64 0, .slice none 0 0, .slice none 0 0, .slice none 0 0, .int .i64 0] 78 (0, 0)))
  case first =>
      have hV : Below w.heap.size w W0.drew := hA0.drew
      have qV0 : W0.drew.heap[w.heap.size]? = some (.cells #[.int .i64 ki, .int .i64 ra, .int .i64 rb, .int .i64 rc, .slice sa ss.length cap] 81 (0, 0)) := q0
      have qV1 : W0.drew.heap[w.heap.size + 1]? = some (.cells #[.int .i64 0, .int .i64 0, .int .i64 0, .int .i64 0, .int .i64 0, .slice none 0 0, .int .i64 0, .int .i64 0, .slice none 0 0, .slice none 0 0, .int .i64 0, .int .i64 0, .slice none 0 0, .int .i64 0, .int .i64 0, .slice none 0 0, .slice none 0 0, .slice none 0 0, .int .i64 0] 78 (0, 0)) := q1
      have hA := hV.alloc hV.size (.cells #[.int .i64 0, .int .i64 0, .int .i64 0, .int .i64 0, .int .i64 0, .slice none 0 0, .int .i64 0, .int .i64 0, .slice none 0 0, .slice none 0 0, .int .i64 0, .int .i64 0, .slice none 0 0, .int .i64 0, .int .i64 0, .slice none 0 0, .slice none 0 0, .slice none 0 0, .int .i64 0] 78)
      have qA0 := heap_keep (o := .cells #[.int .i64 0, .int .i64 0, .int .i64 0, .int .i64 0, .int .i64 0, .slice none 0 0, .int .i64 0, .int .i64 0, .slice none 0 0, .slice none 0 0, .int .i64 0, .int .i64 0, .slice none 0 0, .int .i64 0, .int .i64 0, .slice none 0 0, .slice none 0 0, .slice none 0 0, .int .i64 0] 78) qV0
      have qA1 := heap_keep (o := .cells #[.int .i64 0, .int .i64 0, .int .i64 0, .int .i64 0, .int .i64 0, .slice none 0 0, .int .i64 0, .int .i64 0, .slice none 0 0, .slice none 0 0, .int .i64 0, .int .i64 0, .slice none 0 0, .int .i64 0, .int .i64 0, .slice none 0 0, .slice none 0 0, .slice none 0 0, .int .i64 0] 78) qV1
      have qN := heap_alloc_new W0.drew (.cells #[.int .i64 0, .int .i64 0, .int .i64 0, .int .i64 0, .int .i64 0, .slice none 0 0, .int .i64 0, .int .i64 0, .slice none 0 0, .slice none 0 0, .int .i64 0, .int .i64 0, .slice none 0 0, .int .i64 0, .int .i64 0, .slice none 0 0, .slice none 0 0, .slice none 0 0, .int .i64 0] 78)
      have hlt1 := lt_of_heap qV1
      have hne0 : w.heap.size ≠ W0.drew.heap.size := by omega
      have hne1 : w.heap.size + 1 ≠ W0.drew.heap.size := by omega
      have hle0 : w.heap.size ≤ W0.drew.heap.size := by omega
      refine wp_region_held_drew (S := (fun w' => w'.cell? ⟨w.heap.size, 0, none⟩ = some (.int .i64 ki) ∧ w'.cell? ⟨w.heap.size, 2, none⟩ = some (.int .i64 rb) ∧ w'.cell? ⟨w.heap.size, 3, none⟩ = some (.int .i64 rc))) (by kernel_rfl) ⟨cells_at q0 0 _ rfl, cells_at q0 2 _ rfl, cells_at q0 3 _ rfl⟩ (fun hHeld => ?_)
      generalize W0.drew = V0 at *
      refine take_dst (i := 0) (d := 4) (v := .pointer (some ⟨w.heap.size, 3, none⟩)) rfl rfl (by kernel_rfl) (by kernel_rfl) (by kernel_rfl) (fun _ _ _ h => h) (Or.inl ⟨by rfl, ?_⟩) hHeld ?_
      · (intro w0 hSw; (try dsimp only at hSw); go_simp)
      simp only [Act.put, List.setIfInBounds_toArray, List.set_cons_zero, List.set_cons_succ]
      refine take_dst (i := 1) (d := 5) (v := .int .i64 rc) rfl rfl (by kernel_rfl) (by kernel_rfl) (by kernel_rfl) (fun _ _ _ h => h) (Or.inl ⟨by rfl, ?_⟩) hHeld ?_
      · (intro w0 hSw; (try dsimp only at hSw); go_simp)
      simp only [Act.put, List.setIfInBounds_toArray, List.set_cons_zero, List.set_cons_succ]
      refine take_dst (i := 3) (d := 7) (v := .pointer (some ⟨w.heap.size, 2, none⟩)) rfl rfl (by kernel_rfl) (by kernel_rfl) (by kernel_rfl) (fun _ _ _ h => h) (Or.inl ⟨by rfl, ?_⟩) hHeld ?_
      · (intro w0 hSw; (try dsimp only at hSw); go_simp)
      simp only [Act.put, List.setIfInBounds_toArray, List.set_cons_zero, List.set_cons_succ]
      refine take_dst (i := 4) (d := 8) (v := .int .i64 rb) rfl rfl (by kernel_rfl) (by kernel_rfl) (by kernel_rfl) (fun _ _ _ h => h) (Or.inl ⟨by rfl, ?_⟩) hHeld ?_
      · (intro w0 hSw; (try dsimp only at hSw); go_simp)
      simp only [Act.put, List.setIfInBounds_toArray, List.set_cons_zero, List.set_cons_succ]
      refine take_dst (i := 6) (d := 10) (v := .pointer (some ⟨w.heap.size, 0, none⟩)) rfl rfl (by kernel_rfl) (by kernel_rfl) (by kernel_rfl) (fun _ _ _ h => h) (Or.inl ⟨by rfl, ?_⟩) hHeld ?_
      · (intro w0 hSw; (try dsimp only at hSw); go_simp)
      simp only [Act.put, List.setIfInBounds_toArray, List.set_cons_zero, List.set_cons_succ]
      refine take_dst (i := 7) (d := 11) (v := .int .i64 ki) rfl rfl (by kernel_rfl) (by kernel_rfl) (by kernel_rfl) (fun _ _ _ h => h) (Or.inl ⟨by rfl, ?_⟩) hHeld ?_
      · (intro w0 hSw; (try dsimp only at hSw); go_simp)
      simp only [Act.put, List.setIfInBounds_toArray, List.set_cons_zero, List.set_cons_succ]
      refine wpAnyH_ready (rs := [2, 11]) (by kernel_rfl) (by simp) (AllReadyH.cons rfl (fun K hK => ?_) (AllReadyH.cons rfl (fun K hK => ?_) AllReadyH.nil))
      · skip
        refine step_calls_dst rfl 6 rfl 19 [.tmp 5, .const (.int .i64 4)] #[3, 3] rfl [.int .i64 rc, .int .i64 4] rfl (enters_of Tryz.func19 (by kernel_rfl) rfl) (fun v w' => v = .int .i64 (pk rc 4) ∧ V0 = w') ((picked_any rc 4 V0 h4.1 h4.2 (by omega) (by omega)).mono (fun e w2 h => ⟨_, h.1, rfl, h.2⟩)) ?_
        rintro v w' ⟨rfl, rfl⟩
        refine hK.out _ _ ⟨cells_at qV0 0 _ rfl, cells_at qV0 2 _ rfl, cells_at qV0 3 _ rfl⟩ (fun hHeld => ?_)
        simp only [Act.put, List.setIfInBounds_toArray, List.set_cons_zero, List.set_cons_succ]
        refine wpAnyH_ready (rs := [5, 11]) (by kernel_rfl) (by simp) (AllReadyH.cons rfl (fun K hK => ?_) (AllReadyH.cons rfl (fun K hK => ?_) AllReadyH.nil))
        · skip
          refine step_calls_dst rfl 9 rfl 19 [.tmp 8, .const (.int .i64 4)] #[3, 3] rfl [.int .i64 rb, .int .i64 4] rfl (enters_of Tryz.func19 (by kernel_rfl) rfl) (fun v w' => v = .int .i64 (pk rb 4) ∧ V0 = w') ((picked_any rb 4 V0 h3.1 h3.2 (by omega) (by omega)).mono (fun e w2 h => ⟨_, h.1, rfl, h.2⟩)) ?_
          rintro v w' ⟨rfl, rfl⟩
          refine hK.out _ _ ⟨cells_at qV0 0 _ rfl, cells_at qV0 2 _ rfl, cells_at qV0 3 _ rfl⟩ (fun hHeld => ?_)
          simp only [Act.put, List.setIfInBounds_toArray, List.set_cons_zero, List.set_cons_succ]
          refine wpAnyH_ready (rs := [8, 11]) (by kernel_rfl) (by simp) (AllReadyH.cons rfl (fun K hK => ?_) (AllReadyH.cons rfl (fun K hK => ?_) AllReadyH.nil))
          · skip
            refine step_calls_dst rfl 12 rfl 19 [.tmp 11, .const (.int .i64 5)] #[3, 3] rfl [.int .i64 ki, .int .i64 5] rfl (enters_of Tryz.func19 (by kernel_rfl) rfl) (fun v w' => v = .int .i64 (pk ki 5) ∧ V0 = w') ((picked_any ki 5 V0 h1.1 h1.2 (by omega) (by omega)).mono (fun e w2 h => ⟨_, h.1, rfl, h.2⟩)) ?_
            rintro v w' ⟨rfl, rfl⟩
            refine hK.out _ _ ⟨cells_at qV0 0 _ rfl, cells_at qV0 2 _ rfl, cells_at qV0 3 _ rfl⟩ (fun hHeld => ?_)
            simp only [Act.put, List.setIfInBounds_toArray, List.set_cons_zero, List.set_cons_succ]
            refine take_dst (i := 9) (d := 13) (v := .int .i64 (1 + pk ki 5)) rfl rfl (by kernel_rfl) (by kernel_rfl) (by kernel_rfl) (fun _ _ _ h => h) (Or.inl ⟨by rfl, ?_⟩) hHeld ?_
            · (intro w0 hSw; (try dsimp only at hSw); go_simp)
            simp only [Act.put, List.setIfInBounds_toArray, List.set_cons_zero, List.set_cons_succ]
            refine take_dst (i := 10) (d := 14) (v := .agg #[.int .i64 (pk rc 4), .int .i64 (pk rb 4), .int .i64 (1 + pk ki 5), .int .i64 0, .int .i64 0, .slice none 0 0, .int .i64 0, .int .i64 0, .slice none 0 0, .slice none 0 0, .int .i64 0, .int .i64 0, .slice none 0 0, .int .i64 0, .int .i64 0, .slice none 0 0, .slice none 0 0, .slice none 0 0, .int .i64 0]) rfl rfl (by kernel_rfl) (by kernel_rfl) (by kernel_rfl) (fun _ _ _ h => h) (Or.inl ⟨by rfl, ?_⟩) hHeld ?_
            · (intro w0 hSw; (try dsimp only at hSw); go_simp)
            simp only [Act.put, List.setIfInBounds_toArray, List.set_cons_zero, List.set_cons_succ]
            refine wpAnyH_ready (rs := [11]) (by kernel_rfl) (by simp) (AllReadyH.cons rfl (fun K hK => ?_) AllReadyH.nil)
            refine step_run rfl 3 rfl (.pointer (some ⟨V0.heap.size, 0, none⟩)) (V0.alloc (.cells #[.int .i64 0, .int .i64 0, .int .i64 0, .int .i64 0, .int .i64 0, .slice none 0 0, .int .i64 0, .int .i64 0, .slice none 0 0, .slice none 0 0, .int .i64 0, .int .i64 0, .slice none 0 0, .int .i64 0, .int .i64 0, .slice none 0 0, .slice none 0 0, .slice none 0 0, .int .i64 0] 78)) (by go_simp) ?_
            refine hK.out _ _ ⟨cells_at qA0 0 _ rfl, cells_at qA0 2 _ rfl, cells_at qA0 3 _ rfl⟩ (fun hHeld => ?_)
            simp only [Act.put, List.setIfInBounds_toArray, List.set_cons_zero, List.set_cons_succ]
            generalize V0.alloc (.cells #[.int .i64 0, .int .i64 0, .int .i64 0, .int .i64 0, .int .i64 0, .slice none 0 0, .int .i64 0, .int .i64 0, .slice none 0 0, .slice none 0 0, .int .i64 0, .int .i64 0, .slice none 0 0, .int .i64 0, .int .i64 0, .slice none 0 0, .slice none 0 0, .slice none 0 0, .int .i64 0] 78) = V1 at hA qA0 qA1 qN hHeld ⊢
            refine wpAnyH_ready (rs := [12]) (by kernel_rfl) (by simp) (AllReadyH.cons rfl (fun K hK => ?_) AllReadyH.nil)
            refine step_store_row rfl rfl 78 (.tmp 3) (.tmp 14) rfl V0.heap.size #[.int .i64 (pk rc 4), .int .i64 (pk rb 4), .int .i64 (1 + pk ki 5), .int .i64 0, .int .i64 0, .slice none 0 0, .int .i64 0, .int .i64 0, .slice none 0 0, .slice none 0 0, .int .i64 0, .int .i64 0, .slice none 0 0, .int .i64 0, .int .i64 0, .slice none 0 0, .slice none 0 0, .slice none 0 0, .int .i64 0] rfl rfl 78 _ qN sMsg' rfl (by simp [Value.oneCell']) ?_
            have qF0 := (setRow_other V1 V0.heap.size w.heap.size #[.int .i64 (pk rc 4), .int .i64 (pk rb 4), .int .i64 (1 + pk ki 5), .int .i64 0, .int .i64 0, .slice none 0 0, .int .i64 0, .int .i64 0, .slice none 0 0, .slice none 0 0, .int .i64 0, .int .i64 0, .slice none 0 0, .int .i64 0, .int .i64 0, .slice none 0 0, .slice none 0 0, .slice none 0 0, .int .i64 0] hne0).trans qA0
            have qF1 := (setRow_other V1 V0.heap.size (w.heap.size + 1) #[.int .i64 (pk rc 4), .int .i64 (pk rb 4), .int .i64 (1 + pk ki 5), .int .i64 0, .int .i64 0, .slice none 0 0, .int .i64 0, .int .i64 0, .slice none 0 0, .slice none 0 0, .int .i64 0, .int .i64 0, .slice none 0 0, .int .i64 0, .int .i64 0, .slice none 0 0, .slice none 0 0, .slice none 0 0, .int .i64 0] hne1).trans qA1
            have qFN := setRow_heap V1 V0.heap.size _ #[.int .i64 (pk rc 4), .int .i64 (pk rb 4), .int .i64 (1 + pk ki 5), .int .i64 0, .int .i64 0, .slice none 0 0, .int .i64 0, .int .i64 0, .slice none 0 0, .slice none 0 0, .int .i64 0, .int .i64 0, .slice none 0 0, .int .i64 0, .int .i64 0, .slice none 0 0, .slice none 0 0, .slice none 0 0, .int .i64 0] _ _ qN
            have hF := (Upd.setRow (cs := #[.int .i64 (pk rc 4), .int .i64 (pk rb 4), .int .i64 (1 + pk ki 5), .int .i64 0, .int .i64 0, .slice none 0 0, .int .i64 0, .int .i64 0, .slice none 0 0, .slice none 0 0, .int .i64 0, .int .i64 0, .slice none 0 0, .int .i64 0, .int .i64 0, .slice none 0 0, .slice none 0 0, .slice none 0 0, .int .i64 0]) qN).below hA hA.size hle0
            refine hK.out _ _ ⟨cells_at qF0 0 _ rfl, cells_at qF0 2 _ rfl, cells_at qF0 3 _ rfl⟩ (fun hHeld => ?_)
            generalize V1.setRow V0.heap.size #[.int .i64 (pk rc 4), .int .i64 (pk rb 4), .int .i64 (1 + pk ki 5), .int .i64 0, .int .i64 0, .slice none 0 0, .int .i64 0, .int .i64 0, .slice none 0 0, .slice none 0 0, .int .i64 0, .int .i64 0, .slice none 0 0, .int .i64 0, .int .i64 0, .slice none 0 0, .slice none 0 0, .slice none 0 0, .int .i64 0] = VF at *
            refine wpAnyH_done (by kernel_rfl) ?_ _
            go_wp2_with fail
            go_meet
            case rel => exact ⟨V0.heap.size, rfl, by omega, hF, qF0, qF1, qFN⟩
          · skip
            refine step_run rfl 3 rfl (.pointer (some ⟨V0.heap.size, 0, none⟩)) (V0.alloc (.cells #[.int .i64 0, .int .i64 0, .int .i64 0, .int .i64 0, .int .i64 0, .slice none 0 0, .int .i64 0, .int .i64 0, .slice none 0 0, .slice none 0 0, .int .i64 0, .int .i64 0, .slice none 0 0, .int .i64 0, .int .i64 0, .slice none 0 0, .slice none 0 0, .slice none 0 0, .int .i64 0] 78)) (by go_simp) ?_
            refine hK.out _ _ ⟨cells_at qA0 0 _ rfl, cells_at qA0 2 _ rfl, cells_at qA0 3 _ rfl⟩ (fun hHeld => ?_)
            simp only [Act.put, List.setIfInBounds_toArray, List.set_cons_zero, List.set_cons_succ]
            generalize V0.alloc (.cells #[.int .i64 0, .int .i64 0, .int .i64 0, .int .i64 0, .int .i64 0, .slice none 0 0, .int .i64 0, .int .i64 0, .slice none 0 0, .slice none 0 0, .int .i64 0, .int .i64 0, .slice none 0 0, .int .i64 0, .int .i64 0, .slice none 0 0, .slice none 0 0, .slice none 0 0, .int .i64 0] 78) = V1 at hA qA0 qA1 qN hHeld ⊢
            refine wpAnyH_ready (rs := [8]) (by kernel_rfl) (by simp) (AllReadyH.cons rfl (fun K hK => ?_) AllReadyH.nil)
            refine step_calls_dst rfl 12 rfl 19 [.tmp 11, .const (.int .i64 5)] #[3, 3] rfl [.int .i64 ki, .int .i64 5] rfl (enters_of Tryz.func19 (by kernel_rfl) rfl) (fun v w' => v = .int .i64 (pk ki 5) ∧ V1 = w') ((picked_any ki 5 V1 h1.1 h1.2 (by omega) (by omega)).mono (fun e w2 h => ⟨_, h.1, rfl, h.2⟩)) ?_
            rintro v w' ⟨rfl, rfl⟩
            refine hK.out _ _ ⟨cells_at qA0 0 _ rfl, cells_at qA0 2 _ rfl, cells_at qA0 3 _ rfl⟩ (fun hHeld => ?_)
            simp only [Act.put, List.setIfInBounds_toArray, List.set_cons_zero, List.set_cons_succ]
            refine take_dst (i := 9) (d := 13) (v := .int .i64 (1 + pk ki 5)) rfl rfl (by kernel_rfl) (by kernel_rfl) (by kernel_rfl) (fun _ _ _ h => h) (Or.inl ⟨by rfl, ?_⟩) hHeld ?_
            · (intro w0 hSw; (try dsimp only at hSw); go_simp)
            simp only [Act.put, List.setIfInBounds_toArray, List.set_cons_zero, List.set_cons_succ]
            refine take_dst (i := 10) (d := 14) (v := .agg #[.int .i64 (pk rc 4), .int .i64 (pk rb 4), .int .i64 (1 + pk ki 5), .int .i64 0, .int .i64 0, .slice none 0 0, .int .i64 0, .int .i64 0, .slice none 0 0, .slice none 0 0, .int .i64 0, .int .i64 0, .slice none 0 0, .int .i64 0, .int .i64 0, .slice none 0 0, .slice none 0 0, .slice none 0 0, .int .i64 0]) rfl rfl (by kernel_rfl) (by kernel_rfl) (by kernel_rfl) (fun _ _ _ h => h) (Or.inl ⟨by rfl, ?_⟩) hHeld ?_
            · (intro w0 hSw; (try dsimp only at hSw); go_simp)
            simp only [Act.put, List.setIfInBounds_toArray, List.set_cons_zero, List.set_cons_succ]
            refine wpAnyH_ready (rs := [12]) (by kernel_rfl) (by simp) (AllReadyH.cons rfl (fun K hK => ?_) AllReadyH.nil)
            refine step_store_row rfl rfl 78 (.tmp 3) (.tmp 14) rfl V0.heap.size #[.int .i64 (pk rc 4), .int .i64 (pk rb 4), .int .i64 (1 + pk ki 5), .int .i64 0, .int .i64 0, .slice none 0 0, .int .i64 0, .int .i64 0, .slice none 0 0, .slice none 0 0, .int .i64 0, .int .i64 0, .slice none 0 0, .int .i64 0, .int .i64 0, .slice none 0 0, .slice none 0 0, .slice none 0 0, .int .i64 0] rfl rfl 78 _ qN sMsg' rfl (by simp [Value.oneCell']) ?_
            have qF0 := (setRow_other V1 V0.heap.size w.heap.size #[.int .i64 (pk rc 4), .int .i64 (pk rb 4), .int .i64 (1 + pk ki 5), .int .i64 0, .int .i64 0, .slice none 0 0, .int .i64 0, .int .i64 0, .slice none 0 0, .slice none 0 0, .int .i64 0, .int .i64 0, .slice none 0 0, .int .i64 0, .int .i64 0, .slice none 0 0, .slice none 0 0, .slice none 0 0, .int .i64 0] hne0).trans qA0
            have qF1 := (setRow_other V1 V0.heap.size (w.heap.size + 1) #[.int .i64 (pk rc 4), .int .i64 (pk rb 4), .int .i64 (1 + pk ki 5), .int .i64 0, .int .i64 0, .slice none 0 0, .int .i64 0, .int .i64 0, .slice none 0 0, .slice none 0 0, .int .i64 0, .int .i64 0, .slice none 0 0, .int .i64 0, .int .i64 0, .slice none 0 0, .slice none 0 0, .slice none 0 0, .int .i64 0] hne1).trans qA1
            have qFN := setRow_heap V1 V0.heap.size _ #[.int .i64 (pk rc 4), .int .i64 (pk rb 4), .int .i64 (1 + pk ki 5), .int .i64 0, .int .i64 0, .slice none 0 0, .int .i64 0, .int .i64 0, .slice none 0 0, .slice none 0 0, .int .i64 0, .int .i64 0, .slice none 0 0, .int .i64 0, .int .i64 0, .slice none 0 0, .slice none 0 0, .slice none 0 0, .int .i64 0] _ _ qN
            have hF := (Upd.setRow (cs := #[.int .i64 (pk rc 4), .int .i64 (pk rb 4), .int .i64 (1 + pk ki 5), .int .i64 0, .int .i64 0, .slice none 0 0, .int .i64 0, .int .i64 0, .slice none 0 0, .slice none 0 0, .int .i64 0, .int .i64 0, .slice none 0 0, .int .i64 0, .int .i64 0, .slice none 0 0, .slice none 0 0, .slice none 0 0, .int .i64 0]) qN).below hA hA.size hle0
            refine hK.out _ _ ⟨cells_at qF0 0 _ rfl, cells_at qF0 2 _ rfl, cells_at qF0 3 _ rfl⟩ (fun hHeld => ?_)
            generalize V1.setRow V0.heap.size #[.int .i64 (pk rc 4), .int .i64 (pk rb 4), .int .i64 (1 + pk ki 5), .int .i64 0, .int .i64 0, .slice none 0 0, .int .i64 0, .int .i64 0, .slice none 0 0, .slice none 0 0, .int .i64 0, .int .i64 0, .slice none 0 0, .int .i64 0, .int .i64 0, .slice none 0 0, .slice none 0 0, .slice none 0 0, .int .i64 0] = VF at *
            refine wpAnyH_done (by kernel_rfl) ?_ _
            go_wp2_with fail
            go_meet
            case rel => exact ⟨V0.heap.size, rfl, by omega, hF, qF0, qF1, qFN⟩
        · skip
          refine step_run rfl 3 rfl (.pointer (some ⟨V0.heap.size, 0, none⟩)) (V0.alloc (.cells #[.int .i64 0, .int .i64 0, .int .i64 0, .int .i64 0, .int .i64 0, .slice none 0 0, .int .i64 0, .int .i64 0, .slice none 0 0, .slice none 0 0, .int .i64 0, .int .i64 0, .slice none 0 0, .int .i64 0, .int .i64 0, .slice none 0 0, .slice none 0 0, .slice none 0 0, .int .i64 0] 78)) (by go_simp) ?_
          refine hK.out _ _ ⟨cells_at qA0 0 _ rfl, cells_at qA0 2 _ rfl, cells_at qA0 3 _ rfl⟩ (fun hHeld => ?_)
          simp only [Act.put, List.setIfInBounds_toArray, List.set_cons_zero, List.set_cons_succ]
          generalize V0.alloc (.cells #[.int .i64 0, .int .i64 0, .int .i64 0, .int .i64 0, .int .i64 0, .slice none 0 0, .int .i64 0, .int .i64 0, .slice none 0 0, .slice none 0 0, .int .i64 0, .int .i64 0, .slice none 0 0, .int .i64 0, .int .i64 0, .slice none 0 0, .slice none 0 0, .slice none 0 0, .int .i64 0] 78) = V1 at hA qA0 qA1 qN hHeld ⊢
          refine wpAnyH_ready (rs := [5]) (by kernel_rfl) (by simp) (AllReadyH.cons rfl (fun K hK => ?_) AllReadyH.nil)
          refine step_calls_dst rfl 9 rfl 19 [.tmp 8, .const (.int .i64 4)] #[3, 3] rfl [.int .i64 rb, .int .i64 4] rfl (enters_of Tryz.func19 (by kernel_rfl) rfl) (fun v w' => v = .int .i64 (pk rb 4) ∧ V1 = w') ((picked_any rb 4 V1 h3.1 h3.2 (by omega) (by omega)).mono (fun e w2 h => ⟨_, h.1, rfl, h.2⟩)) ?_
          rintro v w' ⟨rfl, rfl⟩
          refine hK.out _ _ ⟨cells_at qA0 0 _ rfl, cells_at qA0 2 _ rfl, cells_at qA0 3 _ rfl⟩ (fun hHeld => ?_)
          simp only [Act.put, List.setIfInBounds_toArray, List.set_cons_zero, List.set_cons_succ]
          refine wpAnyH_ready (rs := [8]) (by kernel_rfl) (by simp) (AllReadyH.cons rfl (fun K hK => ?_) AllReadyH.nil)
          refine step_calls_dst rfl 12 rfl 19 [.tmp 11, .const (.int .i64 5)] #[3, 3] rfl [.int .i64 ki, .int .i64 5] rfl (enters_of Tryz.func19 (by kernel_rfl) rfl) (fun v w' => v = .int .i64 (pk ki 5) ∧ V1 = w') ((picked_any ki 5 V1 h1.1 h1.2 (by omega) (by omega)).mono (fun e w2 h => ⟨_, h.1, rfl, h.2⟩)) ?_
          rintro v w' ⟨rfl, rfl⟩
          refine hK.out _ _ ⟨cells_at qA0 0 _ rfl, cells_at qA0 2 _ rfl, cells_at qA0 3 _ rfl⟩ (fun hHeld => ?_)
          simp only [Act.put, List.setIfInBounds_toArray, List.set_cons_zero, List.set_cons_succ]
          refine take_dst (i := 9) (d := 13) (v := .int .i64 (1 + pk ki 5)) rfl rfl (by kernel_rfl) (by kernel_rfl) (by kernel_rfl) (fun _ _ _ h => h) (Or.inl ⟨by rfl, ?_⟩) hHeld ?_
          · (intro w0 hSw; (try dsimp only at hSw); go_simp)
          simp only [Act.put, List.setIfInBounds_toArray, List.set_cons_zero, List.set_cons_succ]
          refine take_dst (i := 10) (d := 14) (v := .agg #[.int .i64 (pk rc 4), .int .i64 (pk rb 4), .int .i64 (1 + pk ki 5), .int .i64 0, .int .i64 0, .slice none 0 0, .int .i64 0, .int .i64 0, .slice none 0 0, .slice none 0 0, .int .i64 0, .int .i64 0, .slice none 0 0, .int .i64 0, .int .i64 0, .slice none 0 0, .slice none 0 0, .slice none 0 0, .int .i64 0]) rfl rfl (by kernel_rfl) (by kernel_rfl) (by kernel_rfl) (fun _ _ _ h => h) (Or.inl ⟨by rfl, ?_⟩) hHeld ?_
          · (intro w0 hSw; (try dsimp only at hSw); go_simp)
          simp only [Act.put, List.setIfInBounds_toArray, List.set_cons_zero, List.set_cons_succ]
          refine wpAnyH_ready (rs := [12]) (by kernel_rfl) (by simp) (AllReadyH.cons rfl (fun K hK => ?_) AllReadyH.nil)
          refine step_store_row rfl rfl 78 (.tmp 3) (.tmp 14) rfl V0.heap.size #[.int .i64 (pk rc 4), .int .i64 (pk rb 4), .int .i64 (1 + pk ki 5), .int .i64 0, .int .i64 0, .slice none 0 0, .int .i64 0, .int .i64 0, .slice none 0 0, .slice none 0 0, .int .i64 0, .int .i64 0, .slice none 0 0, .int .i64 0, .int .i64 0, .slice none 0 0, .slice none 0 0, .slice none 0 0, .int .i64 0] rfl rfl 78 _ qN sMsg' rfl (by simp [Value.oneCell']) ?_
          have qF0 := (setRow_other V1 V0.heap.size w.heap.size #[.int .i64 (pk rc 4), .int .i64 (pk rb 4), .int .i64 (1 + pk ki 5), .int .i64 0, .int .i64 0, .slice none 0 0, .int .i64 0, .int .i64 0, .slice none 0 0, .slice none 0 0, .int .i64 0, .int .i64 0, .slice none 0 0, .int .i64 0, .int .i64 0, .slice none 0 0, .slice none 0 0, .slice none 0 0, .int .i64 0] hne0).trans qA0
          have qF1 := (setRow_other V1 V0.heap.size (w.heap.size + 1) #[.int .i64 (pk rc 4), .int .i64 (pk rb 4), .int .i64 (1 + pk ki 5), .int .i64 0, .int .i64 0, .slice none 0 0, .int .i64 0, .int .i64 0, .slice none 0 0, .slice none 0 0, .int .i64 0, .int .i64 0, .slice none 0 0, .int .i64 0, .int .i64 0, .slice none 0 0, .slice none 0 0, .slice none 0 0, .int .i64 0] hne1).trans qA1
          have qFN := setRow_heap V1 V0.heap.size _ #[.int .i64 (pk rc 4), .int .i64 (pk rb 4), .int .i64 (1 + pk ki 5), .int .i64 0, .int .i64 0, .slice none 0 0, .int .i64 0, .int .i64 0, .slice none 0 0, .slice none 0 0, .int .i64 0, .int .i64 0, .slice none 0 0, .int .i64 0, .int .i64 0, .slice none 0 0, .slice none 0 0, .slice none 0 0, .int .i64 0] _ _ qN
          have hF := (Upd.setRow (cs := #[.int .i64 (pk rc 4), .int .i64 (pk rb 4), .int .i64 (1 + pk ki 5), .int .i64 0, .int .i64 0, .slice none 0 0, .int .i64 0, .int .i64 0, .slice none 0 0, .slice none 0 0, .int .i64 0, .int .i64 0, .slice none 0 0, .int .i64 0, .int .i64 0, .slice none 0 0, .slice none 0 0, .slice none 0 0, .int .i64 0]) qN).below hA hA.size hle0
          refine hK.out _ _ ⟨cells_at qF0 0 _ rfl, cells_at qF0 2 _ rfl, cells_at qF0 3 _ rfl⟩ (fun hHeld => ?_)
          generalize V1.setRow V0.heap.size #[.int .i64 (pk rc 4), .int .i64 (pk rb 4), .int .i64 (1 + pk ki 5), .int .i64 0, .int .i64 0, .slice none 0 0, .int .i64 0, .int .i64 0, .slice none 0 0, .slice none 0 0, .int .i64 0, .int .i64 0, .slice none 0 0, .int .i64 0, .int .i64 0, .slice none 0 0, .slice none 0 0, .slice none 0 0, .int .i64 0] = VF at *
          refine wpAnyH_done (by kernel_rfl) ?_ _
          go_wp2_with fail
          go_meet
          case rel => exact ⟨V0.heap.size, rfl, by omega, hF, qF0, qF1, qFN⟩
      · skip
        refine step_run rfl 3 rfl (.pointer (some ⟨V0.heap.size, 0, none⟩)) (V0.alloc (.cells #[.int .i64 0, .int .i64 0, .int .i64 0, .int .i64 0, .int .i64 0, .slice none 0 0, .int .i64 0, .int .i64 0, .slice none 0 0, .slice none 0 0, .int .i64 0, .int .i64 0, .slice none 0 0, .int .i64 0, .int .i64 0, .slice none 0 0, .slice none 0 0, .slice none 0 0, .int .i64 0] 78)) (by go_simp) ?_
        refine hK.out _ _ ⟨cells_at qA0 0 _ rfl, cells_at qA0 2 _ rfl, cells_at qA0 3 _ rfl⟩ (fun hHeld => ?_)
        simp only [Act.put, List.setIfInBounds_toArray, List.set_cons_zero, List.set_cons_succ]
        generalize V0.alloc (.cells #[.int .i64 0, .int .i64 0, .int .i64 0, .int .i64 0, .int .i64 0, .slice none 0 0, .int .i64 0, .int .i64 0, .slice none 0 0, .slice none 0 0, .int .i64 0, .int .i64 0, .slice none 0 0, .int .i64 0, .int .i64 0, .slice none 0 0, .slice none 0 0, .slice none 0 0, .int .i64 0] 78) = V1 at hA qA0 qA1 qN hHeld ⊢
        refine wpAnyH_ready (rs := [2]) (by kernel_rfl) (by simp) (AllReadyH.cons rfl (fun K hK => ?_) AllReadyH.nil)
        refine step_calls_dst rfl 6 rfl 19 [.tmp 5, .const (.int .i64 4)] #[3, 3] rfl [.int .i64 rc, .int .i64 4] rfl (enters_of Tryz.func19 (by kernel_rfl) rfl) (fun v w' => v = .int .i64 (pk rc 4) ∧ V1 = w') ((picked_any rc 4 V1 h4.1 h4.2 (by omega) (by omega)).mono (fun e w2 h => ⟨_, h.1, rfl, h.2⟩)) ?_
        rintro v w' ⟨rfl, rfl⟩
        refine hK.out _ _ ⟨cells_at qA0 0 _ rfl, cells_at qA0 2 _ rfl, cells_at qA0 3 _ rfl⟩ (fun hHeld => ?_)
        simp only [Act.put, List.setIfInBounds_toArray, List.set_cons_zero, List.set_cons_succ]
        refine wpAnyH_ready (rs := [5]) (by kernel_rfl) (by simp) (AllReadyH.cons rfl (fun K hK => ?_) AllReadyH.nil)
        refine step_calls_dst rfl 9 rfl 19 [.tmp 8, .const (.int .i64 4)] #[3, 3] rfl [.int .i64 rb, .int .i64 4] rfl (enters_of Tryz.func19 (by kernel_rfl) rfl) (fun v w' => v = .int .i64 (pk rb 4) ∧ V1 = w') ((picked_any rb 4 V1 h3.1 h3.2 (by omega) (by omega)).mono (fun e w2 h => ⟨_, h.1, rfl, h.2⟩)) ?_
        rintro v w' ⟨rfl, rfl⟩
        refine hK.out _ _ ⟨cells_at qA0 0 _ rfl, cells_at qA0 2 _ rfl, cells_at qA0 3 _ rfl⟩ (fun hHeld => ?_)
        simp only [Act.put, List.setIfInBounds_toArray, List.set_cons_zero, List.set_cons_succ]
        refine wpAnyH_ready (rs := [8]) (by kernel_rfl) (by simp) (AllReadyH.cons rfl (fun K hK => ?_) AllReadyH.nil)
        refine step_calls_dst rfl 12 rfl 19 [.tmp 11, .const (.int .i64 5)] #[3, 3] rfl [.int .i64 ki, .int .i64 5] rfl (enters_of Tryz.func19 (by kernel_rfl) rfl) (fun v w' => v = .int .i64 (pk ki 5) ∧ V1 = w') ((picked_any ki 5 V1 h1.1 h1.2 (by omega) (by omega)).mono (fun e w2 h => ⟨_, h.1, rfl, h.2⟩)) ?_
        rintro v w' ⟨rfl, rfl⟩
        refine hK.out _ _ ⟨cells_at qA0 0 _ rfl, cells_at qA0 2 _ rfl, cells_at qA0 3 _ rfl⟩ (fun hHeld => ?_)
        simp only [Act.put, List.setIfInBounds_toArray, List.set_cons_zero, List.set_cons_succ]
        refine take_dst (i := 9) (d := 13) (v := .int .i64 (1 + pk ki 5)) rfl rfl (by kernel_rfl) (by kernel_rfl) (by kernel_rfl) (fun _ _ _ h => h) (Or.inl ⟨by rfl, ?_⟩) hHeld ?_
        · (intro w0 hSw; (try dsimp only at hSw); go_simp)
        simp only [Act.put, List.setIfInBounds_toArray, List.set_cons_zero, List.set_cons_succ]
        refine take_dst (i := 10) (d := 14) (v := .agg #[.int .i64 (pk rc 4), .int .i64 (pk rb 4), .int .i64 (1 + pk ki 5), .int .i64 0, .int .i64 0, .slice none 0 0, .int .i64 0, .int .i64 0, .slice none 0 0, .slice none 0 0, .int .i64 0, .int .i64 0, .slice none 0 0, .int .i64 0, .int .i64 0, .slice none 0 0, .slice none 0 0, .slice none 0 0, .int .i64 0]) rfl rfl (by kernel_rfl) (by kernel_rfl) (by kernel_rfl) (fun _ _ _ h => h) (Or.inl ⟨by rfl, ?_⟩) hHeld ?_
        · (intro w0 hSw; (try dsimp only at hSw); go_simp)
        simp only [Act.put, List.setIfInBounds_toArray, List.set_cons_zero, List.set_cons_succ]
        refine wpAnyH_ready (rs := [12]) (by kernel_rfl) (by simp) (AllReadyH.cons rfl (fun K hK => ?_) AllReadyH.nil)
        refine step_store_row rfl rfl 78 (.tmp 3) (.tmp 14) rfl V0.heap.size #[.int .i64 (pk rc 4), .int .i64 (pk rb 4), .int .i64 (1 + pk ki 5), .int .i64 0, .int .i64 0, .slice none 0 0, .int .i64 0, .int .i64 0, .slice none 0 0, .slice none 0 0, .int .i64 0, .int .i64 0, .slice none 0 0, .int .i64 0, .int .i64 0, .slice none 0 0, .slice none 0 0, .slice none 0 0, .int .i64 0] rfl rfl 78 _ qN sMsg' rfl (by simp [Value.oneCell']) ?_
        have qF0 := (setRow_other V1 V0.heap.size w.heap.size #[.int .i64 (pk rc 4), .int .i64 (pk rb 4), .int .i64 (1 + pk ki 5), .int .i64 0, .int .i64 0, .slice none 0 0, .int .i64 0, .int .i64 0, .slice none 0 0, .slice none 0 0, .int .i64 0, .int .i64 0, .slice none 0 0, .int .i64 0, .int .i64 0, .slice none 0 0, .slice none 0 0, .slice none 0 0, .int .i64 0] hne0).trans qA0
        have qF1 := (setRow_other V1 V0.heap.size (w.heap.size + 1) #[.int .i64 (pk rc 4), .int .i64 (pk rb 4), .int .i64 (1 + pk ki 5), .int .i64 0, .int .i64 0, .slice none 0 0, .int .i64 0, .int .i64 0, .slice none 0 0, .slice none 0 0, .int .i64 0, .int .i64 0, .slice none 0 0, .int .i64 0, .int .i64 0, .slice none 0 0, .slice none 0 0, .slice none 0 0, .int .i64 0] hne1).trans qA1
        have qFN := setRow_heap V1 V0.heap.size _ #[.int .i64 (pk rc 4), .int .i64 (pk rb 4), .int .i64 (1 + pk ki 5), .int .i64 0, .int .i64 0, .slice none 0 0, .int .i64 0, .int .i64 0, .slice none 0 0, .slice none 0 0, .int .i64 0, .int .i64 0, .slice none 0 0, .int .i64 0, .int .i64 0, .slice none 0 0, .slice none 0 0, .slice none 0 0, .int .i64 0] _ _ qN
        have hF := (Upd.setRow (cs := #[.int .i64 (pk rc 4), .int .i64 (pk rb 4), .int .i64 (1 + pk ki 5), .int .i64 0, .int .i64 0, .slice none 0 0, .int .i64 0, .int .i64 0, .slice none 0 0, .slice none 0 0, .int .i64 0, .int .i64 0, .slice none 0 0, .int .i64 0, .int .i64 0, .slice none 0 0, .slice none 0 0, .slice none 0 0, .int .i64 0]) qN).below hA hA.size hle0
        refine hK.out _ _ ⟨cells_at qF0 0 _ rfl, cells_at qF0 2 _ rfl, cells_at qF0 3 _ rfl⟩ (fun hHeld => ?_)
        generalize V1.setRow V0.heap.size #[.int .i64 (pk rc 4), .int .i64 (pk rb 4), .int .i64 (1 + pk ki 5), .int .i64 0, .int .i64 0, .slice none 0 0, .int .i64 0, .int .i64 0, .slice none 0 0, .slice none 0 0, .int .i64 0, .int .i64 0, .slice none 0 0, .int .i64 0, .int .i64 0, .slice none 0 0, .slice none 0 0, .slice none 0 0, .int .i64 0] = VF at *
        refine wpAnyH_done (by kernel_rfl) ?_ _
        go_wp2_with fail
        go_meet
        case rel => exact ⟨V0.heap.size, rfl, by omega, hF, qF0, qF1, qFN⟩
  case rest =>
      obtain ⟨b, rfl, hb1, hB, r0, r1, rB⟩ := hcut
      clear hA0 q0 q1
      have d0 : wc.cell? ⟨w.heap.size, 0, none⟩ = some (.int .i64 ki) := cells_at r0 0 _ rfl
      have d1 : wc.cell? ⟨w.heap.size, 1, none⟩ = some (.int .i64 ra) := cells_at r0 1 _ rfl
      have d2 : wc.cell? ⟨w.heap.size, 2, none⟩ = some (.int .i64 rb) := cells_at r0 2 _ rfl
      have d3 : wc.cell? ⟨w.heap.size, 3, none⟩ = some (.int .i64 rc) := cells_at r0 3 _ rfl
      have d4 : wc.cell? ⟨w.heap.size, 4, none⟩ = some (.slice sa ss.length cap) := cells_at r0 4 _ rfl
      obtain ⟨pb0, pb1⟩ := pk_bounds rb 9 (by decide)
      obtain ⟨pa0, pa1⟩ := pk_bounds ra 4 (by decide)
      have hwr : IntKind.i64.wrap (1 + pk rb 9) = 1 + pk rb 9 := by rw [IntKind.wrap_i64]; omega
      have hK : 1 + pk ki 5 = 1 ∨ 1 + pk ki 5 = 2 ∨ 1 + pk ki 5 = 3 ∨ 1 + pk ki 5 = 4 ∨ 1 + pk ki 5 = 5 := by omega
      clear hw
      generalize hkk : 1 + pk ki 5 = kk at *
      have HKK : Hid (1 + pk ki 5 = kk) := hkk
      clear hkk
      clear pk0 pk1
      have b2 : wc.cell? ⟨b, 2, none⟩ = some (.int .i64 kk) := cells_at rB 2 _ rfl
      rcases hK with rfl | rfl | rfl | rfl | rfl
      · go_wp2_with fail
        refine (batch_raw ki ra rb rc sa cap ss wc h2 h3 (h5.below hB)).mono ?_
        rintro e w3 ⟨ba, bc, he, ho, hb3⟩
        subst he
        dsimp only
        have s1 := (hb3.block _ (lt_of_heap r1)).trans r1
        have sB := (hb3.block _ (lt_of_heap rB)).trans rB
        have hB3 := hB.trans (hb3.mono hB.size)
        have hbw : w.heap.size ≤ b := by omega
        have hob : ∀ q, (Value.slice ba (bTxs ss).length bc).ownBlock = some q → q ≠ b ∧ q ≠ w.heap.size + 1 := fun q e => by have := (ho.lt q e).1; have := lt_of_heap rB; omega
        have x3 : w3.cell? ⟨b, 3, none⟩ = some (.int .i64 0) := cells_at sB 3 _ rfl
        have f3 := frozen_at sB 3
        have x4 : w3.cell? ⟨b, 4, none⟩ = some (.int .i64 0) := cells_at sB 4 _ rfl
        have f4 := frozen_at sB 4
        have x5 : w3.cell? ⟨b, 5, none⟩ = some (.slice none 0 0) := cells_at sB 5 _ rfl
        have f5 := frozen_at sB 5
        have rF : (((w3.setCell ⟨b, 3, none⟩ (.int .i64 (pk ra 4))).setCell ⟨b, 4, none⟩ (.int .i64 (1 + pk rb 9))).setCell ⟨b, 5, none⟩ (.slice ba (bTxs ss).length bc)).heap[b]? = some (.cells #[.int .i64 (pk rc 4), .int .i64 (pk rb 4), .int .i64 1, .int .i64 (pk ra 4), .int .i64 (1 + pk rb 9), .slice ba (bTxs ss).length bc, .int .i64 0, .int .i64 0, .slice none 0 0, .slice none 0 0, .int .i64 0, .int .i64 0, .slice none 0 0, .int .i64 0, .int .i64 0, .slice none 0 0, .slice none 0 0, .slice none 0 0, .int .i64 0] 78 (0, 0)) := by simpa using (heap_setCell_same _ _ 5 _ _ (.slice ba (bTxs ss).length bc) (heap_setCell_same _ _ 4 _ _ (.int .i64 (1 + pk rb 9)) (heap_setCell_same _ _ 3 _ _ (.int .i64 (pk ra 4)) sB)))
        have r1F := (heap_far (j := 5) (v := .slice ba (bTxs ss).length bc) (heap_far (j := 4) (v := .int .i64 (1 + pk rb 9)) (heap_far (j := 3) (v := .int .i64 (pk ra 4)) s1 (show w.heap.size + 1 ≠ b by omega)) (show w.heap.size + 1 ≠ b by omega)) (show w.heap.size + 1 ≠ b by omega))
        have hBF := (((hB3.setCell (p := ⟨b, 3, none⟩) hbw (.int .i64 (pk ra 4))).setCell (p := ⟨b, 4, none⟩) hbw (.int .i64 (1 + pk rb 9))).setCell (p := ⟨b, 5, none⟩) hbw (.slice ba (bTxs ss).length bc))
        have hbwc : b < wc.heap.size := lt_of_heap rB
        have hoF : (((w3.setCell ⟨b, 3, none⟩ (.int .i64 (pk ra 4))).setCell ⟨b, 4, none⟩ (.int .i64 (1 + pk rb 9))).setCell ⟨b, 5, none⟩ (.slice ba (bTxs ss).length bc)).ownsRow wc.heap.size 9 1 (.slice ba (bTxs ss).length bc) (bTxs ss).length (sv (bTxs ss)) := owns_far (owns_far (owns_far ho _ _ _ hbwc) _ _ _ hbwc) _ _ _ hbwc
        have hob1 : w.heap.size + 1 < wc.heap.size := lt_of_heap r1
        obtain ⟨_, _, hbe, -, hsA, hsf⟩ := strsAt_of_owns hoF (fun s hs => Nat.le_trans ((bTxs_ok ss).2 s hs).2 (by decide))
        simp only [Value.slice.injEq, true_and] at hbe
        obtain ⟨rfl, rfl⟩ := hbe
        have hl := (bTxs_ok ss).1
        have hcar := batchF_raw ra rb ss
        generalize bTxs ss = T at *
        go_wp2_with (first | refine wpList_load_row rfl 78 _ rfl b rfl 78 #[.int .i64 (pk rc 4), .int .i64 (pk rb 4), .int .i64 1, .int .i64 (pk ra 4), .int .i64 (1 + pk rb 9), .slice ba T.length bc, .int .i64 0, .int .i64 0, .slice none 0 0, .slice none 0 0, .int .i64 0, .int .i64 0, .slice none 0 0, .int .i64 0, .int .i64 0, .slice none 0 0, .slice none 0 0, .slice none 0 0, .int .i64 0] (0, 0) _ rF Tryz.underlying78 rfl sMsg' ?_ | refine wpList_store_row rfl 78 _ _ rfl (w.heap.size + 1) #[.int .i64 (pk rc 4), .int .i64 (pk rb 4), .int .i64 1, .int .i64 (pk ra 4), .int .i64 (1 + pk rb 9), .slice ba T.length bc, .int .i64 0, .int .i64 0, .slice none 0 0, .slice none 0 0, .int .i64 0, .int .i64 0, .slice none 0 0, .int .i64 0, .int .i64 0, .slice none 0 0, .slice none 0 0, .slice none 0 0, .int .i64 0] rfl rfl 78 _ r1F sMsg' rfl (by simp [Value.oneCell']) ?_)
        exact bodyPost_ret (v := .agg #[.int .i64 (pk rc 4), .int .i64 (pk rb 4), .int .i64 1, .int .i64 (pk ra 4), .int .i64 (1 + pk rb 9), .slice ba T.length bc, .int .i64 0, .int .i64 0, .slice none 0 0, .slice none 0 0, .int .i64 0, .int .i64 0, .slice none 0 0, .int .i64 0, .int .i64 0, .slice none 0 0, .slice none 0 0, .slice none 0 0, .int .i64 0]) (results_cell_row (fn := Tryz.f24) (p := 2) (ty := 78) rfl _ _ (w.heap.size + 1) 78 _ (0, 0) _ rfl (setRow_heap _ _ _ _ _ _ r1F) Tryz.underlying78 rfl sMsg') rfl ⟨⟨pk rc 4, pk rb 4, 1, pk ra 4, 1 + pk rb 9, 0, 0, 0, 0, 0, 0, 0, ba, none, none, none, none, none, none, T.length, bc, 0, 0, 0, 0, 0, 0, 0, 0, 0, 0, 0, 0⟩, T, [], [], [], [], [], rfl, ⟨rfl, rfl, rfl, rfl, rfl, rfl, by omega, by simp, by simp, (hsA.setRow _ _ (fun sb so e => by have := hsf sb so e; omega)), (list_nilM _), (list_nilM _), (list_nilM _), (list_nilM _), ⟨.inl rfl⟩⟩, rfl, rfl, (by rw [carriedF, if_pos rfl]; exact hcar), rfl, (Upd.setRow r1F).below hBF hBF.size (by omega), HKK.out.symm, (by intro h; dsimp only at h ⊢; omega), (by intro h; dsimp only at h ⊢; omega), (by intro h; dsimp only at h ⊢; omega), (by intro h; dsimp only at h ⊢; omega), (by intro h; dsimp only at h ⊢; omega), [], (nilM _), rfl, ⟨(fun sb so e => Nat.le_trans hB.size (hsf sb so e)), ⟨(fun _ _ e => by cases e), (fun p hp => by cases hp)⟩, ⟨(fun _ _ e => by cases e), (fun p hp => by cases hp)⟩, (fun _ _ e => by cases e), ⟨(fun _ _ e => by cases e), (fun p hp => by cases hp)⟩, ⟨(fun _ _ e => by cases e), (fun p hp => by cases hp)⟩, (fun _ _ e => by cases e)⟩, ⟨u8_none, u8_none, u8_none, u8_none, u8_none⟩⟩
      · go_wp2_with fail
        refine (header_raw2 ki ra rb rc sa _ cap wc h2 h3 h4).mono ?_
        rintro e w3 ⟨ba, bc, bl, pa, pc, pl, he, hL1, hL2, -, -, hE1, hE2, hb3, hF1, hF2⟩
        subst he
        dsimp only
        have s1 := (hb3.block _ (lt_of_heap r1)).trans r1
        have sB := (hb3.block _ (lt_of_heap rB)).trans rB
        have hB3 := hB.trans (hb3.mono hB.size)
        have hbw : w.heap.size ≤ b := by omega
        have hbwc : b < wc.heap.size := lt_of_heap rB
        have hb1c : w.heap.size + 1 < wc.heap.size := lt_of_heap r1
        have hcar := headerF_raw ra rb rc bl pl hE1 hE2
        have HL1 : Hid _ := hL1
        have HL2 : Hid _ := hL2
        have HF1 : Hid _ := hF1
        have HF2 : Hid _ := hF2
        have x6 : w3.cell? ⟨b, 6, none⟩ = some (.int .i64 0) := cells_at sB 6 _ rfl
        have f6 := frozen_at sB 6
        have x7 : w3.cell? ⟨b, 7, none⟩ = some (.int .i64 0) := cells_at sB 7 _ rfl
        have f7 := frozen_at sB 7
        have x8 : w3.cell? ⟨b, 8, none⟩ = some (.slice none 0 0) := cells_at sB 8 _ rfl
        have f8 := frozen_at sB 8
        have x9 : w3.cell? ⟨b, 9, none⟩ = some (.slice none 0 0) := cells_at sB 9 _ rfl
        have f9 := frozen_at sB 9
        have rF : ((((w3.setCell ⟨b, 6, none⟩ (.int .i64 (pk ra 4))).setCell ⟨b, 7, none⟩ (.int .i64 (1 + pk rb 9))).setCell ⟨b, 8, none⟩ (.slice ba bl.length bc)).setCell ⟨b, 9, none⟩ (.slice pa pl.length pc)).heap[b]? = some (.cells #[.int .i64 (pk rc 4), .int .i64 (pk rb 4), .int .i64 2, .int .i64 0, .int .i64 0, .slice none 0 0, .int .i64 (pk ra 4), .int .i64 (1 + pk rb 9), .slice ba bl.length bc, .slice pa pl.length pc, .int .i64 0, .int .i64 0, .slice none 0 0, .int .i64 0, .int .i64 0, .slice none 0 0, .slice none 0 0, .slice none 0 0, .int .i64 0] 78 (0, 0)) := by simpa using (heap_setCell_same _ _ 9 _ _ (.slice pa pl.length pc) (heap_setCell_same _ _ 8 _ _ (.slice ba bl.length bc) (heap_setCell_same _ _ 7 _ _ (.int .i64 (1 + pk rb 9)) (heap_setCell_same _ _ 6 _ _ (.int .i64 (pk ra 4)) sB))))
        have r1F := (heap_far (j := 9) (v := .slice pa pl.length pc) (heap_far (j := 8) (v := .slice ba bl.length bc) (heap_far (j := 7) (v := .int .i64 (1 + pk rb 9)) (heap_far (j := 6) (v := .int .i64 (pk ra 4)) s1 (show w.heap.size + 1 ≠ b by omega)) (show w.heap.size + 1 ≠ b by omega)) (show w.heap.size + 1 ≠ b by omega)) (show w.heap.size + 1 ≠ b by omega))
        have hBF := ((((hB3.setCell (p := ⟨b, 6, none⟩) hbw (.int .i64 (pk ra 4))).setCell (p := ⟨b, 7, none⟩) hbw (.int .i64 (1 + pk rb 9))).setCell (p := ⟨b, 8, none⟩) hbw (.slice ba bl.length bc)).setCell (p := ⟨b, 9, none⟩) hbw (.slice pa pl.length pc))
        have HLa : Hid (ListAt ((((w3.setCell ⟨b, 6, none⟩ (.int .i64 (pk ra 4))).setCell ⟨b, 7, none⟩ (.int .i64 (1 + pk rb 9))).setCell ⟨b, 8, none⟩ (.slice ba bl.length bc)).setCell ⟨b, 9, none⟩ (.slice pa pl.length pc)) ba bc bl) := ((((HL1.out.setCell HF1.out b 6 _ hbwc).setCell HF1.out b 7 _ hbwc).setCell HF1.out b 8 _ hbwc).setCell HF1.out b 9 _ hbwc)
        have HLb : Hid (ListAt ((((w3.setCell ⟨b, 6, none⟩ (.int .i64 (pk ra 4))).setCell ⟨b, 7, none⟩ (.int .i64 (1 + pk rb 9))).setCell ⟨b, 8, none⟩ (.slice ba bl.length bc)).setCell ⟨b, 9, none⟩ (.slice pa pl.length pc)) pa pc pl) := ((((HL2.out.setCell HF2.out b 6 _ hbwc).setCell HF2.out b 7 _ hbwc).setCell HF2.out b 8 _ hbwc).setCell HF2.out b 9 _ hbwc)
        have HU : Hid (U8M bl pl [] [] []) := ⟨u8_bats hE1, u8_pars hE2, u8_none, u8_none, u8_none⟩
        clear hL1 hL2 hE1 hE2 hF1 hF2
        go_wp2_with (first | refine wpList_load_row rfl 78 _ rfl b rfl 78 #[.int .i64 (pk rc 4), .int .i64 (pk rb 4), .int .i64 2, .int .i64 0, .int .i64 0, .slice none 0 0, .int .i64 (pk ra 4), .int .i64 (1 + pk rb 9), .slice ba bl.length bc, .slice pa pl.length pc, .int .i64 0, .int .i64 0, .slice none 0 0, .int .i64 0, .int .i64 0, .slice none 0 0, .slice none 0 0, .slice none 0 0, .int .i64 0] (0, 0) _ rF Tryz.underlying78 rfl sMsg' ?_ | refine wpList_store_row rfl 78 _ _ rfl (w.heap.size + 1) #[.int .i64 (pk rc 4), .int .i64 (pk rb 4), .int .i64 2, .int .i64 0, .int .i64 0, .slice none 0 0, .int .i64 (pk ra 4), .int .i64 (1 + pk rb 9), .slice ba bl.length bc, .slice pa pl.length pc, .int .i64 0, .int .i64 0, .slice none 0 0, .int .i64 0, .int .i64 0, .slice none 0 0, .slice none 0 0, .slice none 0 0, .int .i64 0] rfl rfl 78 _ r1F sMsg' rfl (by simp [Value.oneCell']) ?_)
        exact bodyPost_ret (v := .agg #[.int .i64 (pk rc 4), .int .i64 (pk rb 4), .int .i64 2, .int .i64 0, .int .i64 0, .slice none 0 0, .int .i64 (pk ra 4), .int .i64 (1 + pk rb 9), .slice ba bl.length bc, .slice pa pl.length pc, .int .i64 0, .int .i64 0, .slice none 0 0, .int .i64 0, .int .i64 0, .slice none 0 0, .slice none 0 0, .slice none 0 0, .int .i64 0]) (results_cell_row (fn := Tryz.f24) (p := 2) (ty := 78) rfl _ _ (w.heap.size + 1) 78 _ (0, 0) _ rfl (setRow_heap _ _ _ _ _ _ r1F) Tryz.underlying78 rfl sMsg') rfl ⟨⟨pk rc 4, pk rb 4, 2, 0, 0, pk ra 4, 1 + pk rb 9, 0, 0, 0, 0, 0, none, ba, pa, none, none, none, none, 0, 0, bl.length, bc, pl.length, pc, 0, 0, 0, 0, 0, 0, 0, 0⟩, [], bl, pl, [], [], [], rfl, ⟨rfl, rfl, rfl, rfl, rfl, rfl, by simp, by simp, by simp, ⟨.inl rfl, fun s h => by cases h⟩, (list_setRowM HLa.out HF1.out _ _ hb1c), (list_setRowM HLb.out HF2.out _ _ hb1c), (list_nilM _), (list_nilM _), ⟨.inl rfl⟩⟩, rfl, rfl, (by simp only [carriedF]; rw [if_neg (show ¬ (2 : Int) = 1 by decide), if_pos trivial]; exact hcar), rfl, (Upd.setRow r1F).below hBF hBF.size (by omega), HKK.out.symm, (by intro h; dsimp only at h ⊢; omega), (by intro h; dsimp only at h ⊢; omega), (by intro h; dsimp only at h ⊢; omega), (by intro h; dsimp only at h ⊢; omega), (by intro h; dsimp only at h ⊢; omega), [], (nilM _), rfl, ⟨(fun _ _ e => by cases e), (HF1.out.monoM hB.size), (HF2.out.monoM hB.size), (fun _ _ e => by cases e), ⟨(fun _ _ e => by cases e), (fun p hp => by cases hp)⟩, ⟨(fun _ _ e => by cases e), (fun p hp => by cases hp)⟩, (fun _ _ e => by cases e)⟩, HU.out⟩
      · have hneb : w.heap.size ≠ b := by omega
        have hbw : w.heap.size ≤ b := by omega
        go_upto_region 8 with fail
        go_region_held3 (fun w' => w'.cell? ⟨w.heap.size, 1, none⟩ = some (.int .i64 ra) ∧ w'.cell? ⟨w.heap.size, 2, none⟩ = some (.int .i64 rb) ∧ w'.cell? ⟨w.heap.size, 3, none⟩ = some (.int .i64 rc)) (go_keep) (first | (go_at_call 46; refine (some_any rc ra wc.drew h4).mono ?_; rintro e w3 ⟨rfl, ho3, hb3⟩; replace hb3 := below_drew hb3; have s0 := (hb3.block _ (lt_of_heap r0)).trans r0; have s1 := (hb3.block _ (lt_of_heap r1)).trans r1; have sB := (hb3.block _ (lt_of_heap rB)).trans rB; have g1 : w3.cell? ⟨w.heap.size, 1, none⟩ = some (.int .i64 ra) := cells_at s0 1 _ rfl; have g2 : w3.cell? ⟨w.heap.size, 2, none⟩ = some (.int .i64 rb) := cells_at s0 2 _ rfl; have g3 : w3.cell? ⟨w.heap.size, 3, none⟩ = some (.int .i64 rc) := cells_at s0 3 _ rfl; have x10 : w3.cell? ⟨b, 10, none⟩ = some (.int .i64 0) := cells_at sB 10 _ rfl; have f10 := frozen_at sB 10; have x11 : w3.cell? ⟨b, 11, none⟩ = some (.int .i64 0) := cells_at sB 11 _ rfl; have f11 := frozen_at sB 11; have x12 : w3.cell? ⟨b, 12, none⟩ = some (.slice none 0 0) := cells_at sB 12 _ rfl; have f12 := frozen_at sB 12; have sF0 := (heap_far (j := 12) (v := .slice (some ⟨wc.heap.size, 0, none⟩) 32 32) (heap_far (j := 11) (v := .int .i64 (1 + pk rb 9)) (heap_far (j := 10) (v := .int .i64 (pk ra 4)) s0 hneb) hneb) hneb); have k1 : (((w3.setCell ⟨b, 10, none⟩ (.int .i64 (pk ra 4))).setCell ⟨b, 11, none⟩ (.int .i64 (1 + pk rb 9))).setCell ⟨b, 12, none⟩ (.slice (some ⟨wc.heap.size, 0, none⟩) 32 32)).cell? ⟨w.heap.size, 1, none⟩ = some (.int .i64 ra) := cells_at sF0 1 _ rfl; have k2 : (((w3.setCell ⟨b, 10, none⟩ (.int .i64 (pk ra 4))).setCell ⟨b, 11, none⟩ (.int .i64 (1 + pk rb 9))).setCell ⟨b, 12, none⟩ (.slice (some ⟨wc.heap.size, 0, none⟩) 32 32)).cell? ⟨w.heap.size, 2, none⟩ = some (.int .i64 rb) := cells_at sF0 2 _ rfl; have k3 : (((w3.setCell ⟨b, 10, none⟩ (.int .i64 (pk ra 4))).setCell ⟨b, 11, none⟩ (.int .i64 (1 + pk rb 9))).setCell ⟨b, 12, none⟩ (.slice (some ⟨wc.heap.size, 0, none⟩) 32 32)).cell? ⟨w.heap.size, 3, none⟩ = some (.int .i64 rc) := cells_at sF0 3 _ rfl) | (go_at_call 19; refine (picked_any _ _ _ (by first | exact h2.1 | exact h3.1) (by first | exact h2.2 | exact h3.2) (by omega) (by omega)).mono ?_; rintro e w9 ⟨rfl, rfl⟩))
        all_goals
          have hB3 := hB.trans (hb3.mono hB.size)
          have rF : (((w3.setCell ⟨b, 10, none⟩ (.int .i64 (pk ra 4))).setCell ⟨b, 11, none⟩ (.int .i64 (1 + pk rb 9))).setCell ⟨b, 12, none⟩ (.slice (some ⟨wc.heap.size, 0, none⟩) 32 32)).heap[b]? = some (.cells #[.int .i64 (pk rc 4), .int .i64 (pk rb 4), .int .i64 3, .int .i64 0, .int .i64 0, .slice none 0 0, .int .i64 0, .int .i64 0, .slice none 0 0, .slice none 0 0, .int .i64 (pk ra 4), .int .i64 (1 + pk rb 9), .slice (some ⟨wc.heap.size, 0, none⟩) 32 32, .int .i64 0, .int .i64 0, .slice none 0 0, .slice none 0 0, .slice none 0 0, .int .i64 0] 78 (0, 0)) := by simpa using (heap_setCell_same _ _ 12 _ _ (.slice (some ⟨wc.heap.size, 0, none⟩) 32 32) (heap_setCell_same _ _ 11 _ _ (.int .i64 (1 + pk rb 9)) (heap_setCell_same _ _ 10 _ _ (.int .i64 (pk ra 4)) sB)))
          have r1F := (heap_far (j := 12) (v := .slice (some ⟨wc.heap.size, 0, none⟩) 32 32) (heap_far (j := 11) (v := .int .i64 (1 + pk rb 9)) (heap_far (j := 10) (v := .int .i64 (pk ra 4)) s1 (show w.heap.size + 1 ≠ b by omega)) (show w.heap.size + 1 ≠ b by omega)) (show w.heap.size + 1 ≠ b by omega))
          have hBF := (((hB3.setCell (p := ⟨b, 10, none⟩) hbw (.int .i64 (pk ra 4))).setCell (p := ⟨b, 11, none⟩) hbw (.int .i64 (1 + pk rb 9))).setCell (p := ⟨b, 12, none⟩) hbw (.slice (some ⟨wc.heap.size, 0, none⟩) 32 32))
          have hoF : (((w3.setCell ⟨b, 10, none⟩ (.int .i64 (pk ra 4))).setCell ⟨b, 11, none⟩ (.int .i64 (1 + pk rb 9))).setCell ⟨b, 12, none⟩ (.slice (some ⟨wc.heap.size, 0, none⟩) 32 32)).ownsRow wc.heap.size 5 1 (.slice (some ⟨wc.heap.size, 0, none⟩) 32 32) 32 (ub (someL rc ra)) := owns_far (owns_far (owns_far ho3 _ _ _ (lt_of_heap rB)) _ _ _ (lt_of_heap rB)) _ _ _ (lt_of_heap rB)
          go_wp2_with (first | refine wpList_load_row rfl 78 _ rfl b rfl 78 #[.int .i64 (pk rc 4), .int .i64 (pk rb 4), .int .i64 3, .int .i64 0, .int .i64 0, .slice none 0 0, .int .i64 0, .int .i64 0, .slice none 0 0, .slice none 0 0, .int .i64 (pk ra 4), .int .i64 (1 + pk rb 9), .slice (some ⟨wc.heap.size, 0, none⟩) 32 32, .int .i64 0, .int .i64 0, .slice none 0 0, .slice none 0 0, .slice none 0 0, .int .i64 0] (0, 0) _ rF Tryz.underlying78 rfl sMsg' ?_ | refine wpList_store_row rfl 78 _ _ rfl (w.heap.size + 1) #[.int .i64 (pk rc 4), .int .i64 (pk rb 4), .int .i64 3, .int .i64 0, .int .i64 0, .slice none 0 0, .int .i64 0, .int .i64 0, .slice none 0 0, .slice none 0 0, .int .i64 (pk ra 4), .int .i64 (1 + pk rb 9), .slice (some ⟨wc.heap.size, 0, none⟩) 32 32, .int .i64 0, .int .i64 0, .slice none 0 0, .slice none 0 0, .slice none 0 0, .int .i64 0] rfl rfl 78 _ r1F sMsg' rfl (by simp [Value.oneCell']) ?_)
          exact bodyPost_ret (v := .agg #[.int .i64 (pk rc 4), .int .i64 (pk rb 4), .int .i64 3, .int .i64 0, .int .i64 0, .slice none 0 0, .int .i64 0, .int .i64 0, .slice none 0 0, .slice none 0 0, .int .i64 (pk ra 4), .int .i64 (1 + pk rb 9), .slice (some ⟨wc.heap.size, 0, none⟩) 32 32, .int .i64 0, .int .i64 0, .slice none 0 0, .slice none 0 0, .slice none 0 0, .int .i64 0]) (results_cell_row (fn := Tryz.f24) (p := 2) (ty := 78) rfl _ _ (w.heap.size + 1) 78 _ (0, 0) _ rfl (setRow_heap _ _ _ _ _ _ r1F) Tryz.underlying78 rfl sMsg') rfl ⟨⟨pk rc 4, pk rb 4, 3, 0, 0, 0, 0, pk ra 4, 1 + pk rb 9, 0, 0, 0, none, none, none, some ⟨wc.heap.size, 0, none⟩, none, none, none, 0, 0, 0, 0, 0, 0, 32, 32, 0, 0, 0, 0, 0, 0⟩, [], [], [], [], [], [], rfl, ⟨rfl, rfl, rfl, rfl, rfl, rfl, by simp, by simp, by simp, ⟨.inl rfl, fun s h => by cases h⟩, (list_nilM _), (list_nilM _), (list_nilM _), (list_nilM _), ⟨.inl rfl⟩⟩, rfl, rfl, (by simp only [carriedF]; rw [if_neg (show ¬ (3 : Int) = 1 by decide), if_neg (show ¬ (3 : Int) = 2 by decide), if_pos trivial, slotF, if_neg (by omega), if_neg (by decide)]), rfl, (Upd.setRow r1F).below hBF hBF.size (by omega), HKK.out.symm, (by intro h; dsimp only at h ⊢; omega), (by intro h; dsimp only at h ⊢; omega), (by intro h; dsimp only at h ⊢; omega), (by intro h; dsimp only at h ⊢; omega), (by intro h; dsimp only at h ⊢; omega), someL rc ra, (slice_setRow (sliceAt_of_owns hoF).2 _ _ (fun sb so e => by cases e; have := lt_of_heap r1; omega)), (sliceAt_of_owns hoF).1, ⟨(fun _ _ e => by cases e), ⟨(fun _ _ e => by cases e), (fun p hp => by cases hp)⟩, ⟨(fun _ _ e => by cases e), (fun p hp => by cases hp)⟩, (fun sb so e => by cases e; exact hB.size), ⟨(fun _ _ e => by cases e), (fun p hp => by cases hp)⟩, ⟨(fun _ _ e => by cases e), (fun p hp => by cases hp)⟩, (fun _ _ e => by cases e)⟩, ⟨u8_none, u8_none, u8_none, u8_none, someL_u8 _ _⟩⟩
      · have hneb : w.heap.size ≠ b := by omega
        have hbw : w.heap.size ≤ b := by omega
        have hbwc : b < wc.heap.size := lt_of_heap rB
        have hb1c : w.heap.size + 1 < wc.heap.size := lt_of_heap r1
        obtain ⟨VN, hVN⟩ : ∃ n, (votersL rc).length = n := ⟨_, rfl⟩
        have HVN : Hid ((votersL rc).length = VN) := hVN
        clear hVN
        go_upto_region 10 with fail
        go_region_held3 (fun w' => w'.cell? ⟨w.heap.size, 0, none⟩ = some (.int .i64 ki) ∧ w'.cell? ⟨w.heap.size, 1, none⟩ = some (.int .i64 ra) ∧ w'.cell? ⟨w.heap.size, 2, none⟩ = some (.int .i64 rb) ∧ w'.cell? ⟨w.heap.size, 3, none⟩ = some (.int .i64 rc) ∧ w'.cell? ⟨w.heap.size, 4, none⟩ = some (.slice sa ss.length cap)) (go_keep) (first | (go_at_call 47; refine (voters_any rc w3 h4).mono ?_; rintro e w4 ⟨v4, he, ho4, hb4⟩; rw [HVN.out] at ho4; obtain ⟨va, vc, hv4⟩ := owns_shape ho4; subst hv4; subst he; have hb34 := hb3.trans (hb4.mono hb3.size); have s0 := (hb34.block _ (lt_of_heap r0)).trans r0; have s1 := (hb34.block _ (lt_of_heap r1)).trans r1; have sB := (hb34.block _ (lt_of_heap rB)).trans rB; have g0 : w4.cell? ⟨w.heap.size, 0, none⟩ = some (.int .i64 ki) := cells_at s0 0 _ rfl; have g1 : w4.cell? ⟨w.heap.size, 1, none⟩ = some (.int .i64 ra) := cells_at s0 1 _ rfl; have g2 : w4.cell? ⟨w.heap.size, 2, none⟩ = some (.int .i64 rb) := cells_at s0 2 _ rfl; have g3 : w4.cell? ⟨w.heap.size, 3, none⟩ = some (.int .i64 rc) := cells_at s0 3 _ rfl; have g4 : w4.cell? ⟨w.heap.size, 4, none⟩ = some (.slice sa ss.length cap) := cells_at s0 4 _ rfl; have x13 : w4.cell? ⟨b, 13, none⟩ = some (.int .i64 0) := cells_at sB 13 _ rfl; have f13 := frozen_at sB 13; have x14 : w4.cell? ⟨b, 14, none⟩ = some (.int .i64 0) := cells_at sB 14 _ rfl; have f14 := frozen_at sB 14; have x15 : w4.cell? ⟨b, 15, none⟩ = some (.slice none 0 0) := cells_at sB 15 _ rfl; have f15 := frozen_at sB 15; have x16 : w4.cell? ⟨b, 16, none⟩ = some (.slice none 0 0) := cells_at sB 16 _ rfl; have f16 := frozen_at sB 16; have x17 : w4.cell? ⟨b, 17, none⟩ = some (.slice none 0 0) := cells_at sB 17 _ rfl; have f17 := frozen_at sB 17; have sF0 := (heap_far (j := 17) (v := .slice va VN vc) (heap_far (j := 16) (v := .slice pa pl.length pc) (heap_far (j := 15) (v := .slice ba bl.length bc) (heap_far (j := 14) (v := .int .i64 (1 + pk rb 9)) (heap_far (j := 13) (v := .int .i64 (pk ra 4)) s0 hneb) hneb) hneb) hneb) hneb); have k0 : (((((w4.setCell ⟨b, 13, none⟩ (.int .i64 (pk ra 4))).setCell ⟨b, 14, none⟩ (.int .i64 (1 + pk rb 9))).setCell ⟨b, 15, none⟩ (.slice ba bl.length bc)).setCell ⟨b, 16, none⟩ (.slice pa pl.length pc)).setCell ⟨b, 17, none⟩ (.slice va VN vc)).cell? ⟨w.heap.size, 0, none⟩ = some (.int .i64 ki) := cells_at sF0 0 _ rfl; have k1 : (((((w4.setCell ⟨b, 13, none⟩ (.int .i64 (pk ra 4))).setCell ⟨b, 14, none⟩ (.int .i64 (1 + pk rb 9))).setCell ⟨b, 15, none⟩ (.slice ba bl.length bc)).setCell ⟨b, 16, none⟩ (.slice pa pl.length pc)).setCell ⟨b, 17, none⟩ (.slice va VN vc)).cell? ⟨w.heap.size, 1, none⟩ = some (.int .i64 ra) := cells_at sF0 1 _ rfl; have k2 : (((((w4.setCell ⟨b, 13, none⟩ (.int .i64 (pk ra 4))).setCell ⟨b, 14, none⟩ (.int .i64 (1 + pk rb 9))).setCell ⟨b, 15, none⟩ (.slice ba bl.length bc)).setCell ⟨b, 16, none⟩ (.slice pa pl.length pc)).setCell ⟨b, 17, none⟩ (.slice va VN vc)).cell? ⟨w.heap.size, 2, none⟩ = some (.int .i64 rb) := cells_at sF0 2 _ rfl; have k3 : (((((w4.setCell ⟨b, 13, none⟩ (.int .i64 (pk ra 4))).setCell ⟨b, 14, none⟩ (.int .i64 (1 + pk rb 9))).setCell ⟨b, 15, none⟩ (.slice ba bl.length bc)).setCell ⟨b, 16, none⟩ (.slice pa pl.length pc)).setCell ⟨b, 17, none⟩ (.slice va VN vc)).cell? ⟨w.heap.size, 3, none⟩ = some (.int .i64 rc) := cells_at sF0 3 _ rfl; have k4 : (((((w4.setCell ⟨b, 13, none⟩ (.int .i64 (pk ra 4))).setCell ⟨b, 14, none⟩ (.int .i64 (1 + pk rb 9))).setCell ⟨b, 15, none⟩ (.slice ba bl.length bc)).setCell ⟨b, 16, none⟩ (.slice pa pl.length pc)).setCell ⟨b, 17, none⟩ (.slice va VN vc)).cell? ⟨w.heap.size, 4, none⟩ = some (.slice sa ss.length cap) := cells_at sF0 4 _ rfl) | (go_at_call 45; refine (header_raw2 ki ra rb rc sa _ cap wc.drew h2 h3 h4).mono ?_; rintro e w3 ⟨ba, bc, bl, pa, pc, pl, rfl, hL1, hL2, -, -, hE1, hE2, hb3, hF1, hF2⟩; replace hb3 := below_drew hb3; have t0 := (hb3.block _ (lt_of_heap r0)).trans r0; have m0 : w3.cell? ⟨w.heap.size, 0, none⟩ = some (.int .i64 ki) := cells_at t0 0 _ rfl; have m1 : w3.cell? ⟨w.heap.size, 1, none⟩ = some (.int .i64 ra) := cells_at t0 1 _ rfl; have m2 : w3.cell? ⟨w.heap.size, 2, none⟩ = some (.int .i64 rb) := cells_at t0 2 _ rfl; have m3 : w3.cell? ⟨w.heap.size, 3, none⟩ = some (.int .i64 rc) := cells_at t0 3 _ rfl; have m4 : w3.cell? ⟨w.heap.size, 4, none⟩ = some (.slice sa ss.length cap) := cells_at t0 4 _ rfl; have HL1 : Hid _ := hL1; have HL2 : Hid _ := hL2; have HF1 : Hid _ := hF1; have HF2 : Hid _ := hF2; have HE1 : Hid _ := hE1; have HE2 : Hid _ := hE2; clear hL1 hL2 hF1 hF2 hE1 hE2))
        all_goals
          have hB3 := hB.trans (hb34.mono hB.size)
          have hcar := headerF_raw ra rb rc bl pl HE1.out HE2.out
          obtain ⟨_, _, _, _, _, _, _, _, hvf, _, hvl⟩ := votersL_form rc
          have rF : (((((w4.setCell ⟨b, 13, none⟩ (.int .i64 (pk ra 4))).setCell ⟨b, 14, none⟩ (.int .i64 (1 + pk rb 9))).setCell ⟨b, 15, none⟩ (.slice ba bl.length bc)).setCell ⟨b, 16, none⟩ (.slice pa pl.length pc)).setCell ⟨b, 17, none⟩ (.slice va VN vc)).heap[b]? = some (.cells #[.int .i64 (pk rc 4), .int .i64 (pk rb 4), .int .i64 4, .int .i64 0, .int .i64 0, .slice none 0 0, .int .i64 0, .int .i64 0, .slice none 0 0, .slice none 0 0, .int .i64 0, .int .i64 0, .slice none 0 0, .int .i64 (pk ra 4), .int .i64 (1 + pk rb 9), .slice ba bl.length bc, .slice pa pl.length pc, .slice va VN vc, .int .i64 0] 78 (0, 0)) := by simpa using (heap_setCell_same _ _ 17 _ _ (.slice va VN vc) (heap_setCell_same _ _ 16 _ _ (.slice pa pl.length pc) (heap_setCell_same _ _ 15 _ _ (.slice ba bl.length bc) (heap_setCell_same _ _ 14 _ _ (.int .i64 (1 + pk rb 9)) (heap_setCell_same _ _ 13 _ _ (.int .i64 (pk ra 4)) sB)))))
          have r1F := (heap_far (j := 17) (v := .slice va VN vc) (heap_far (j := 16) (v := .slice pa pl.length pc) (heap_far (j := 15) (v := .slice ba bl.length bc) (heap_far (j := 14) (v := .int .i64 (1 + pk rb 9)) (heap_far (j := 13) (v := .int .i64 (pk ra 4)) s1 (show w.heap.size + 1 ≠ b by omega)) (show w.heap.size + 1 ≠ b by omega)) (show w.heap.size + 1 ≠ b by omega)) (show w.heap.size + 1 ≠ b by omega)) (show w.heap.size + 1 ≠ b by omega))
          have hBF := (((((hB3.setCell (p := ⟨b, 13, none⟩) hbw (.int .i64 (pk ra 4))).setCell (p := ⟨b, 14, none⟩) hbw (.int .i64 (1 + pk rb 9))).setCell (p := ⟨b, 15, none⟩) hbw (.slice ba bl.length bc)).setCell (p := ⟨b, 16, none⟩) hbw (.slice pa pl.length pc)).setCell (p := ⟨b, 17, none⟩) hbw (.slice va VN vc))
          have HLa : Hid (ListAt (((((w4.setCell ⟨b, 13, none⟩ (.int .i64 (pk ra 4))).setCell ⟨b, 14, none⟩ (.int .i64 (1 + pk rb 9))).setCell ⟨b, 15, none⟩ (.slice ba bl.length bc)).setCell ⟨b, 16, none⟩ (.slice pa pl.length pc)).setCell ⟨b, 17, none⟩ (.slice va VN vc)) ba bc bl) := ((((((HL1.out.below hb4).setCell HF1.out b 13 _ hbwc).setCell HF1.out b 14 _ hbwc).setCell HF1.out b 15 _ hbwc).setCell HF1.out b 16 _ hbwc).setCell HF1.out b 17 _ hbwc)
          have HLb : Hid (ListAt (((((w4.setCell ⟨b, 13, none⟩ (.int .i64 (pk ra 4))).setCell ⟨b, 14, none⟩ (.int .i64 (1 + pk rb 9))).setCell ⟨b, 15, none⟩ (.slice ba bl.length bc)).setCell ⟨b, 16, none⟩ (.slice pa pl.length pc)).setCell ⟨b, 17, none⟩ (.slice va VN vc)) pa pc pl) := ((((((HL2.out.below hb4).setCell HF2.out b 13 _ hbwc).setCell HF2.out b 14 _ hbwc).setCell HF2.out b 15 _ hbwc).setCell HF2.out b 16 _ hbwc).setCell HF2.out b 17 _ hbwc)
          have hoF : (((((w4.setCell ⟨b, 13, none⟩ (.int .i64 (pk ra 4))).setCell ⟨b, 14, none⟩ (.int .i64 (1 + pk rb 9))).setCell ⟨b, 15, none⟩ (.slice ba bl.length bc)).setCell ⟨b, 16, none⟩ (.slice pa pl.length pc)).setCell ⟨b, 17, none⟩ (.slice va VN vc)).ownsRow w3.heap.size 3 1 (.slice va VN vc) VN (iv (votersL rc)) := (owns_far (owns_far (owns_far (owns_far (owns_far ho4 _ _ _ (by have := hb3.size; omega)) _ _ _ (by have := hb3.size; omega)) _ _ _ (by have := hb3.size; omega)) _ _ _ (by have := hb3.size; omega)) _ _ _ (by have := hb3.size; omega))
          have hIv : Hid (IntsAt (((((w4.setCell ⟨b, 13, none⟩ (.int .i64 (pk ra 4))).setCell ⟨b, 14, none⟩ (.int .i64 (1 + pk rb 9))).setCell ⟨b, 15, none⟩ (.slice ba bl.length bc)).setCell ⟨b, 16, none⟩ (.slice pa pl.length pc)).setCell ⟨b, 17, none⟩ (.slice va VN vc)) va (votersL rc) ∧ ∀ sb so, va = some ⟨sb, so, none⟩ → w3.heap.size ≤ sb) := ints_owned hoF
          have hsz3 : wc.heap.size ≤ w3.heap.size := hb3.size
          go_wp2_with (first | refine wpList_load_row rfl 78 _ rfl b rfl 78 #[.int .i64 (pk rc 4), .int .i64 (pk rb 4), .int .i64 4, .int .i64 0, .int .i64 0, .slice none 0 0, .int .i64 0, .int .i64 0, .slice none 0 0, .slice none 0 0, .int .i64 0, .int .i64 0, .slice none 0 0, .int .i64 (pk ra 4), .int .i64 (1 + pk rb 9), .slice ba bl.length bc, .slice pa pl.length pc, .slice va VN vc, .int .i64 0] (0, 0) _ rF Tryz.underlying78 rfl sMsg' ?_ | refine wpList_store_row rfl 78 _ _ rfl (w.heap.size + 1) #[.int .i64 (pk rc 4), .int .i64 (pk rb 4), .int .i64 4, .int .i64 0, .int .i64 0, .slice none 0 0, .int .i64 0, .int .i64 0, .slice none 0 0, .slice none 0 0, .int .i64 0, .int .i64 0, .slice none 0 0, .int .i64 (pk ra 4), .int .i64 (1 + pk rb 9), .slice ba bl.length bc, .slice pa pl.length pc, .slice va VN vc, .int .i64 0] rfl rfl 78 _ r1F sMsg' rfl (by simp [Value.oneCell']) ?_)
          exact bodyPost_ret (v := .agg #[.int .i64 (pk rc 4), .int .i64 (pk rb 4), .int .i64 4, .int .i64 0, .int .i64 0, .slice none 0 0, .int .i64 0, .int .i64 0, .slice none 0 0, .slice none 0 0, .int .i64 0, .int .i64 0, .slice none 0 0, .int .i64 (pk ra 4), .int .i64 (1 + pk rb 9), .slice ba bl.length bc, .slice pa pl.length pc, .slice va VN vc, .int .i64 0]) (results_cell_row (fn := Tryz.f24) (p := 2) (ty := 78) rfl _ _ (w.heap.size + 1) 78 _ (0, 0) _ rfl (setRow_heap _ _ _ _ _ _ r1F) Tryz.underlying78 rfl sMsg') rfl ⟨⟨pk rc 4, pk rb 4, 4, 0, 0, 0, 0, 0, 0, pk ra 4, 1 + pk rb 9, 0, none, none, none, none, ba, pa, va, 0, 0, 0, 0, 0, 0, 0, 0, bl.length, bc, pl.length, pc, VN, vc⟩, [], [], [], bl, pl, votersL rc, rfl, ⟨rfl, rfl, rfl, rfl, rfl, HVN.out.symm, by simp, by omega, by simp, ⟨.inl rfl, fun s h => by cases h⟩, (list_nilM _), (list_nilM _), (list_setRowM HLa.out HF1.out _ _ hb1c), (list_setRowM HLb.out HF2.out _ _ hb1c), (ints_setRowM hIv.out.1 _ _ (fun sb so e => by have := hIv.out.2 sb so e; omega))⟩, rfl, rfl, (by simp only [carriedF]; rw [if_neg (show ¬ (4 : Int) = 1 by decide), if_neg (show ¬ (4 : Int) = 2 by decide), if_neg (show ¬ (4 : Int) = 3 by decide), if_pos trivial]; exact certF_ofM hcar hvf hvl), rfl, (Upd.setRow r1F).below hBF hBF.size (by omega), HKK.out.symm, (by intro h; dsimp only at h ⊢; omega), (by intro h; dsimp only at h ⊢; omega), (by intro h; dsimp only at h ⊢; omega), (by intro h; dsimp only at h ⊢; omega), (by intro h; dsimp only at h ⊢; omega), [], (nilM _), rfl, ⟨(fun _ _ e => by cases e), ⟨(fun _ _ e => by cases e), (fun p hp => by cases hp)⟩, ⟨(fun _ _ e => by cases e), (fun p hp => by cases hp)⟩, (fun _ _ e => by cases e), (HF1.out.monoM hB.size), (HF2.out.monoM hB.size), (fun sb so e => Nat.le_trans hB.size (Nat.le_trans hsz3 (hIv.out.2 sb so e)))⟩, ⟨u8_none, u8_none, u8_bats HE1.out, u8_pars HE2.out, u8_none⟩⟩
      · have rF : (wc.setCell ⟨b, 18, none⟩ (.int .i64 (1 + pk rb 9))).heap[b]? = some (.cells #[.int .i64 (pk rc 4), .int .i64 (pk rb 4), .int .i64 5, .int .i64 0, .int .i64 0, .slice none 0 0, .int .i64 0, .int .i64 0, .slice none 0 0, .slice none 0 0, .int .i64 0, .int .i64 0, .slice none 0 0, .int .i64 0, .int .i64 0, .slice none 0 0, .slice none 0 0, .slice none 0 0, .int .i64 (1 + pk rb 9)] 78 (0, 0)) := by simpa using heap_setCell_same _ _ 18 _ _ (.int .i64 (1 + pk rb 9)) rB
        have r1F := heap_far (j := 18) (v := .int .i64 (1 + pk rb 9)) r1 (show w.heap.size + 1 ≠ b by omega)
        have hBF := hB.setCell (p := ⟨b, 18, none⟩) (by simp; omega) (.int .i64 (1 + pk rb 9))
        have x18 : wc.cell? ⟨b, 18, none⟩ = some (.int .i64 0) := cells_at rB 18 _ rfl
        have f18 := frozen_at rB 18
        go_wp2_with (first | (go_at_call 19; refine (picked_any _ _ _ h3.1 h3.2 (by omega) (by omega)).mono ?_; rintro e w9 ⟨rfl, rfl⟩) | refine wpList_load_row rfl 78 _ rfl b rfl 78 #[.int .i64 (pk rc 4), .int .i64 (pk rb 4), .int .i64 5, .int .i64 0, .int .i64 0, .slice none 0 0, .int .i64 0, .int .i64 0, .slice none 0 0, .slice none 0 0, .int .i64 0, .int .i64 0, .slice none 0 0, .int .i64 0, .int .i64 0, .slice none 0 0, .slice none 0 0, .slice none 0 0, .int .i64 (1 + pk rb 9)] (0, 0) _ rF Tryz.underlying78 rfl sMsg' ?_ | refine wpList_store_row rfl 78 _ _ rfl (w.heap.size + 1) #[.int .i64 (pk rc 4), .int .i64 (pk rb 4), .int .i64 5, .int .i64 0, .int .i64 0, .slice none 0 0, .int .i64 0, .int .i64 0, .slice none 0 0, .slice none 0 0, .int .i64 0, .int .i64 0, .slice none 0 0, .int .i64 0, .int .i64 0, .slice none 0 0, .slice none 0 0, .slice none 0 0, .int .i64 (1 + pk rb 9)] rfl rfl 78 _ r1F sMsg' rfl (by simp [Value.oneCell']) ?_)
        exact bodyPost_ret (v := .agg #[.int .i64 (pk rc 4), .int .i64 (pk rb 4), .int .i64 5, .int .i64 0, .int .i64 0, .slice none 0 0, .int .i64 0, .int .i64 0, .slice none 0 0, .slice none 0 0, .int .i64 0, .int .i64 0, .slice none 0 0, .int .i64 0, .int .i64 0, .slice none 0 0, .slice none 0 0, .slice none 0 0, .int .i64 (1 + pk rb 9)]) (results_cell_row (fn := Tryz.f24) (p := 2) (ty := 78) rfl _ _ (w.heap.size + 1) 78 _ (0, 0) _ rfl (setRow_heap _ _ _ _ _ _ r1F) Tryz.underlying78 rfl sMsg') rfl ⟨⟨pk rc 4, pk rb 4, 5, 0, 0, 0, 0, 0, 0, 0, 0, 1 + pk rb 9, none, none, none, none, none, none, none, 0, 0, 0, 0, 0, 0, 0, 0, 0, 0, 0, 0, 0, 0⟩, [], [], [], [], [], [], rfl, ⟨rfl, rfl, rfl, rfl, rfl, rfl, by simp, by simp, by simp, ⟨.inl rfl, fun s h => by cases h⟩, (list_nilM _), (list_nilM _), (list_nilM _), (list_nilM _), ⟨.inl rfl⟩⟩, rfl, rfl, (by rw [carriedF]; simp; omega), rfl, (Upd.setRow r1F).below hBF hBF.size (by omega), HKK.out.symm, (by intro h; dsimp only at h ⊢; omega), (by intro h; dsimp only at h ⊢; omega), (by intro h; dsimp only at h ⊢; omega), (by intro h; dsimp only at h ⊢; omega), (by intro h; dsimp only at h ⊢; omega), [], (nilM _), rfl, ⟨(fun _ _ e => by cases e), ⟨(fun _ _ e => by cases e), (fun p hp => by cases hp)⟩, ⟨(fun _ _ e => by cases e), (fun p hp => by cases hp)⟩, (fun _ _ e => by cases e), ⟨(fun _ _ e => by cases e), (fun p hp => by cases hp)⟩, ⟨(fun _ _ e => by cases e), (fun p hp => by cases hp)⟩, (fun _ _ e => by cases e)⟩, ⟨u8_none, u8_none, u8_none, u8_none, u8_none⟩⟩
set_option maxRecDepth 100000 in
theorem message_raw (ki ra rb rc : Int) (sa : Option Addr) (cap : Nat) (ss : List ByteArray) (w : World) (h1 : I64 ki) (h2 : I64 ra) (h3 : I64 rb) (h4 : I64 rc) (h5 : TextsAt w sa cap ss) :
    Calls Tryz.prog 24 #[.agg #[.int .i64 ki, .int .i64 ra, .int .i64 rb, .int .i64 rc, .slice sa ss.length cap]] w fun e w' => RawM w w' e ki rb rc := by
  refine (message_rawU ki ra rb rc sa cap ss w h1 h2 h3 h4 h5).mono ?_
  rintro e w' ⟨m, s, bl, pl, cbl, cpl, vl, x1, x2, x3, x4, x5, x6, x7, x8, x9, xa, xb, xc, xd, ds, xe, xf, xg, -⟩
  exact ⟨m, s, bl, pl, cbl, cpl, vl, x1, x2, x3, x4, x5, x6, x7, x8, x9, xa, xb, xc, xd, ds, xe, xf, xg⟩
end Go.Proofs.YtnfcaonmfkbofaaGreatDoor

namespace Go.Proofs.YtnfcaonmfkbofaaGreatDoor
open Go.RowKit

/-- The bytes of a text. -/
def tb (s : ByteArray) : List Int := s.data.toList.map fun b => (b.toNat : Int)
set_option maxRecDepth 100000 in
theorem tb_length (s : ByteArray) : (tb s).length = s.size := by simp [tb]
set_option maxRecDepth 100000 in
theorem strCells_tb (s : ByteArray) : Lib.strCells s = ub (tb s) := by simp [Lib.strCells, ub, tb]
set_option maxRecDepth 100000 in
theorem append_str_at (w : World) (ty : TypeId) (base : Nat) (v : Value) (n : Nat) (bs : List Int) (hown : w.ownsRow base 5 1 v n (ub bs)) (s : ByteArray) (hlen : n + s.size ≤ 140737488355328) (hbase : base ≤ w.heap.size) :
    ∃ v' w', (Builtin.append_ #[51, 9] ty #[v, .string s]).run Tryz.prog w = .ok v' w' ∧ w'.ownsRow base 5 1 v' (n + s.size) (ub (bs ++ tb s)) ∧ Grew w v w' v' := by
  obtain ⟨i, hi, hz0, hz1, hz2⟩ := info_parts infoU8
  have hm : n + s.size ≤ maxLen := by unfold maxLen; omega
  obtain ⟨v', w', hr, h2, h3, _⟩ := Lib.run_append_own_string (P := Tryz.prog) w base 51 9 ty 5 i Tryz.underlying51 Tryz.underlying9 hi hz0 hz1 hz2 v n (ub bs) hown s hm hlen hbase
  refine ⟨v', w', hr, by rw [show ub (bs ++ tb s) = ub bs ++ ub (tb s) by simp [ub], ← strCells_tb]; exact h2, ⟨h3, ?_⟩⟩
  intro q hq
  rcases hown.2 with ⟨rfl, hn⟩ | ⟨g, cap, cur, rfl, hg, hgc, h1, h2', h3', h4'⟩
  · subst hn
    have hnil : bs = [] := by have := hown.1; rw [ub_length] at this; exact List.eq_nil_of_length_eq_zero (by omega)
    subst hnil
    obtain ⟨v2, w2, hr2, k2, _, _⟩ := Lib.run_append_own_string (P := Tryz.prog) w w.heap.size 51 9 ty 5 i Tryz.underlying51 Tryz.underlying9 hi hz0 hz1 hz2 (.slice none 0 0) 0 [] (World.ownsRow_nil _ _ _ _) s hm hlen (Nat.le_refl _)
    have e := hr.symm.trans hr2
    cases e
    exact .inr (k2.lt q hq).1
  · by_cases hroom : n + s.size ≤ cap
    · have hr2 := Lib.run_append_room_string (P := Tryz.prog) w 51 9 ty 5 i Tryz.underlying51 Tryz.underlying9 hi hz1 g n cap cur hgc s hroom (by simp at h3'; omega)
      have e := hr.symm.trans hr2
      cases e
      exact .inl hq
    · have holds : ∀ j u, (ub bs)[j]? = some u → w.cell? ((⟨g, 0, none⟩ : Addr).add j) = some u := hown.cells (g := g) rfl
      have hr2 := Lib.run_append_grow_string (P := Tryz.prog) w 51 9 ty 5 i (.int .u8 0) Tryz.underlying51 Tryz.underlying9 hi hz0 ⟨g, 0, none⟩ n cap (ub bs) (by rw [hz1]; simpa using hown.1) holds s (by omega) (by omega) (by rw [hz2]; exact growslice_fits (by omega) (by omega))
      have e := hr.symm.trans hr2
      cases e
      cases hq
      exact .inr (Nat.le_refl _)
set_option maxRecDepth 100000 in
theorem wpList_append_str {w : World} {ops : Array Oper} {rest : List Oper} {o : Oper} {a : Act} {Q : Exit → Act → World → Prop} (hgd : o.guard = none) (sl x : Operand)
    (ho : o.op = .call { callee := .builtin .append, args := #[sl, x], argTypes := #[51, 9] })
    (base : Nat) (v : Value) (n : Nat) (bs : List Int) (hs : a.eval sl = v) (hown : w.ownsRow base 5 1 v n (ub bs)) (s : ByteArray) (hx : a.eval x = .string s) (hlen : n + s.size ≤ 140737488355328) (hbase : base ≤ w.heap.size)
    (h : ∀ v' w', w'.ownsRow base 5 1 v' (n + s.size) (ub (bs ++ tb s)) → Grew w v w' v' → wpList Tryz.prog ops Q rest (a.put o.dst v') w') : wpList Tryz.prog ops Q (o :: rest) a w := by
  refine wpList_plain hgd fun K hK => ?_
  obtain ⟨v', w', hr, h2, h3⟩ := append_str_at w o.type base v n bs hown s hlen hbase
  unfold Oper.wp execOp
  simp only [ho, resolve, invoke, builtin, Sem.run_bind, Sem.run_pure, Result.andThen_ok, List.map_toArray, List.map_cons, List.map_nil, hs, hx, hr]
  exact hK _ _ (h v' w' h2 h3)
set_option maxRecDepth 100000 in
theorem step_append_str {ops : Array Oper} {o : Oper} {a : Act} {w : World} {K : Act → World → Prop} {Q : Exit → Act → World → Prop} {E : Prop} (hgd : o.guard = none) (sl x : Operand)
    (ho : o.op = .call { callee := .builtin .append, args := #[sl, x], argTypes := #[51, 9] })
    (base : Nat) (v : Value) (n : Nat) (bs : List Int) (hs : a.eval sl = v) (hown : w.ownsRow base 5 1 v n (ub bs)) (s : ByteArray) (hx : a.eval x = .string s) (hlen : n + s.size ≤ 140737488355328) (hbase : base ≤ w.heap.size)
    (h : ∀ v' w', w'.ownsRow base 5 1 v' (n + s.size) (ub (bs ++ tb s)) → Grew w v w' v' → K (a.put o.dst v') w') : if Region.wanted o (yielded ops a.tmps) = true then Oper.wp Tryz.prog o a w K Q else E := by
  have hw : Region.wanted o (yielded ops a.tmps) = true := by simp [Region.wanted, hgd]
  rw [if_pos hw]
  obtain ⟨v', w', hr, h2, h3⟩ := append_str_at w o.type base v n bs hown s hlen hbase
  unfold Oper.wp execOp
  simp only [ho, resolve, invoke, builtin, Sem.run_bind, Sem.run_pure, Result.andThen_ok, List.map_toArray, List.map_cons, List.map_nil, hs, hx, hr]
  exact h v' w' h2 h3
end Go.Proofs.YtnfcaonmfkbofaaGreatDoor
