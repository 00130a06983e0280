/- The document's answer: sameBytes, digestsFault, for every list. -/
import Derived.Test.YtldlknmpkoebbaaTapeRecoversM66
import Derived.Test.YtldlknmpkoebbaaPK
import Derived.Test.YtldlknmpkoebbaaMsg
import Derived.Test.YtldlknmpkoebbaaStrs
import Derived.Test.YtldlknmpkoebbaaTxL
import Derived.Deep.RegionHeld2
import Derived.Test.YtldlknmpkoebbaaDigs
namespace Go.Proofs.Ytldlknmpkoebbaa
open Go.RowKit

set_option maxRecDepth 100000 in
theorem onTape_step {w w0 : World} {x y : MV} {p q : List Int} (hx : MAt w x) (hy : MAt w0 y) (ix : IsRec x) (iy : IsRec y) (h : y.onTape ++ p = x.onTape ++ q) : y.bytes = x.bytes ∧ y.c = x.c ∧ y.onTape = x.onTape ∧ p = q := by
  obtain ⟨a1, a2, a3, a4⟩ := onTape_form (bs := y.onTape ++ p) (x := y) rfl
  obtain ⟨b1, b2, b3, b4⟩ := onTape_form h
  have hl : y.bytes.length = x.bytes.length := by omega
  have hb : y.bytes = x.bytes := by rw [← a4, hl, b4]
  have ho : y.onTape = x.onTape := by rw [MV.onTape, MV.onTape, hb]
  refine ⟨hb, same_c hx hy ix.check iy.check hb, ho, ?_⟩
  rw [ho] at h
  exact List.append_cancel_left h
/-- The first of them are those. -/
structure Agree (ys ms : List MV) : Prop where
  le : ys.length ≤ ms.length
  same : ∀ (i : Nat) (h1 : i < ys.length) (h2 : i < ms.length), (ms[i]).c = (ys[i]).c
  tape : tapeB ys = tapeB (ms.take ys.length)
set_option maxRecDepth 100000 in
theorem Agree.nil (ms : List MV) : Agree [] ms := ⟨Nat.zero_le _, (fun _ h => by simp at h), rfl⟩
set_option maxRecDepth 100000 in
theorem Agree.cons {x y : MV} {ys ms : List MV} (h : Agree ys ms) (hc : y.c = x.c) (ho : y.onTape = x.onTape) : Agree (y :: ys) (x :: ms) := by
  refine ⟨by have := h.le; simp; omega, ?_, ?_⟩
  · intro i h1 h2
    cases i with
    | zero => exact hc.symm
    | succ i => exact h.same i (by simpa using h1) (by simpa using h2)
  · have := h.tape
    simp only [tapeB, List.flatMap_cons, List.length_cons, List.take_succ_cons] at this ⊢
    rw [this, ho]
set_option maxRecDepth 100000 in
theorem tapeB_cons (x : MV) (l : List MV) : tapeB (x :: l) = x.onTape ++ tapeB l := rfl
set_option maxRecDepth 100000 in
/-- Bytes of records, cut off somewhere: what is read is the first of them, all that are whole. -/
theorem tape_scan {w w0 : World} : ∀ (ms ys : List MV) (r : List Int) (k : Nat), (∀ x ∈ ms, MAt w x ∧ IsRec x) → (∀ y ∈ ys, MAt w0 y ∧ IsRec y) → (tapeB ms).take k = tapeB ys ++ r → noRec r → Agree ys ms ∧ (∀ j, j ≤ ms.length → (tapeB (ms.take j)).length ≤ k → j ≤ ys.length) ∧ (tapeB ys).length ≤ k := by
  intro ms
  induction ms with
  | nil =>
    intro ys r k _ _ h _
    have hy : ys = [] := by
      cases ys with
      | nil => rfl
      | cons y l =>
        have := congrArg List.length h
        have h2 := onTape_two y
        simp [tapeB] at this
        omega
    subst hy
    exact ⟨Agree.nil _, (fun j hj _ => by simpa using hj), Nat.zero_le _⟩
  | cons x l ih =>
    intro ys r k hm hy h hr
    obtain ⟨hxa, hxr⟩ := hm x (by simp)
    by_cases hk : k < x.onTape.length
    · have hys : ys = [] := by
        cases ys with
        | nil => rfl
        | cons y t =>
          exfalso
          rw [tapeB_cons, tapeB_cons, List.take_append_of_le_length (by omega), List.append_assoc] at h
          have h2 := onTape_two y
          have hL := congrArg List.length h
          rw [List.length_take, List.length_append] at hL
          obtain ⟨a1, a2, a3, a4⟩ := onTape_form (bs := y.onTape ++ (tapeB t ++ r)) (x := y) rfl
          obtain ⟨b1, b2, b3, b4⟩ := onTape_form (bs := x.onTape) (x := x) (r := []) (by simp)
          have g : ∀ j, j < 2 → (x.onTape.take k).getD j 0 = x.onTape.getD j 0 := by
            intro j hj
            simp only [List.getD]
            rw [List.getElem?_take_of_lt (by omega)]
          rw [← h, g 0 (by omega)] at a1
          rw [← h, g 1 (by omega)] at a2
          have hl : y.bytes.length = x.bytes.length := by omega
          have e1 : y.onTape.length = 2 + y.bytes.length := by simp [MV.onTape]; omega
          have e2 : x.onTape.length = 2 + x.bytes.length := by simp [MV.onTape]; omega
          omega
      subst hys
      refine ⟨Agree.nil _, ?_, Nat.zero_le _⟩
      intro j hj hl
      cases j with
      | zero => exact Nat.zero_le _
      | succ j =>
        rw [List.take_succ_cons, tapeB_cons, List.length_append] at hl
        omega
    · rw [tapeB_cons, List.take_append, List.take_of_length_le (by omega)] at h
      cases ys with
      | nil =>
        exact absurd h.symm (hr w x _ hxa hxr)
      | cons y t =>
        obtain ⟨hya, hyr⟩ := hy y (by simp)
        rw [tapeB_cons, List.append_assoc] at h
        obtain ⟨s1, s2, s3, s4⟩ := onTape_step hxa hya hxr hyr h.symm
        obtain ⟨i1, i2, i3⟩ := ih t r (k - x.onTape.length) (fun z hz => hm z (by simp [hz])) (fun z hz => hy z (by simp [hz])) s4.symm hr
        refine ⟨i1.cons s2 s3, ?_, ?_⟩
        · intro j hj hl
          cases j with
          | zero => exact Nat.zero_le _
          | succ j =>
            rw [List.take_succ_cons, tapeB_cons, List.length_append] at hl
            have := i2 j (by simpa using hj) (by omega)
            simpa using this
        · rw [tapeB_cons, List.length_append, s3]
          omega
set_option maxRecDepth 100000 in
/-- The whole. -/
theorem tape_whole {w w0 : World} {ms ys : List MV} {r : List Int} (hm : ∀ x ∈ ms, MAt w x ∧ IsRec x) (hy : ∀ y ∈ ys, MAt w0 y ∧ IsRec y) (h : tapeB ms = tapeB ys ++ r) (hr : noRec r) : Agree ys ms ∧ ys.length = ms.length ∧ tapeB ys = tapeB ms := by
  obtain ⟨h1, h2, h3⟩ := tape_scan ms ys r (tapeB ms).length hm hy (by rw [List.take_of_length_le (Nat.le_refl _)]; exact h) hr
  have h4 := h2 ms.length (Nat.le_refl _) (by rw [List.take_of_length_le (Nat.le_refl _)]; exact Nat.le_refl _)
  have h5 : ys.length = ms.length := Nat.le_antisymm h1.le h4
  exact ⟨h1, h5, by rw [h1.tape, h5, List.take_of_length_le (Nat.le_refl _)]⟩
set_option maxRecDepth 100000 in
theorem u8_tape {w : World} {ms : List MV} (hm : ∀ x ∈ ms, MAt w x ∧ IsRec x) (hu : ∀ x ∈ ms, U8M x.bl x.pl x.cbl x.cpl x.ds) : U8s (tapeB ms) := by
  intro z hz
  obtain ⟨x, hx, hz⟩ := List.mem_flatMap.1 hz
  have h1 := u8_msg (hm x hx).2.check (hu x hx)
  have h2 := ((hm x hx).2.len (hm x hx).1.dn).2
  rcases List.mem_append.1 hz with hz | hz
  · simp at hz
    rcases hz with rfl | rfl <;> omega
  · exact h1 z hz
set_option maxRecDepth 100000 in
theorem u8_list {ps qs : List Part} (h : ps.map (·.bs) = qs.map (·.bs)) (hu : ∀ p ∈ ps, ∀ x ∈ p.bs, 0 ≤ x ∧ x ≤ 255) : ∀ q ∈ qs, ∀ x ∈ q.bs, 0 ≤ x ∧ x ≤ 255 := by
  intro q hq x hx
  have h1 : q.bs ∈ qs.map (·.bs) := List.mem_map_of_mem hq
  rw [← h] at h1
  obtain ⟨p, hp, e⟩ := List.mem_map.1 h1
  have e' : p.bs = q.bs := e
  exact hu p hp x (by rw [e']; exact hx)
set_option maxRecDepth 100000 in
/-- What says the same as good ones is good. -/
theorem u8_same {x y : MV} (h : x.c = y.c) (hu : U8M x.bl x.pl x.cbl x.cpl x.ds) : U8M y.bl y.pl y.cbl y.cpl y.ds := by
  simp only [MV.c, MC.mk.injEq] at h
  obtain ⟨e1, e2, e3, e4, e5, e6, e7, e8, e9, e10, e11, e12, e13, e14, e15, e16, e17, e18, e19⟩ := h
  exact ⟨u8_list e9 hu.hb, u8_list e10 hu.hp, u8_list e16 hu.cb, u8_list e17 hu.cp, by rw [← e13]; exact hu.sd⟩
end Go.Proofs.Ytldlknmpkoebbaa

namespace Go.Proofs.Ytldlknmpkoebbaa
open Go.RowKit

set_option maxRecDepth 100000 in
theorem in_bool (n a b : Int) (r : Bool) (w : World) (h : r = decide (a ≤ n ∧ n ≤ b)) : Calls Try.prog 32 #[.int .i64 n, .int .i64 a, .int .i64 b] w fun e w' => e = .returned (.bool r) ∧ w = w' := by
  by_cases h1 : a ≤ n
  · by_cases h2 : n ≤ b
    · obtain rfl : r = true := by simp [h, h1, h2]
      clear h
      go_enter Try.func32, Try.ntmps32
      go_wp2
      go_ret
      exact ⟨rfl, rfl⟩
    · obtain rfl : r = false := by simp [h, h2]
      clear h
      go_enter Try.func32, Try.ntmps32
      go_wp2
      go_ret
      exact ⟨rfl, rfl⟩
  · obtain rfl : r = false := by simp [h, h1]
    clear h
    go_enter Try.func32, Try.ntmps32
    go_wp2
    go_ret
    exact ⟨rfl, rfl⟩
set_option maxRecDepth 100000 in
theorem in_true (n a b : Int) (w : World) (h : a ≤ n ∧ n ≤ b) : Calls Try.prog 32 #[.int .i64 n, .int .i64 a, .int .i64 b] w fun e w' => e = .returned (.bool true) ∧ w = w' := in_bool n a b true w (by simp [h])
set_option maxRecDepth 100000 in
theorem in_false (n a b : Int) (w : World) (h : ¬ (a ≤ n ∧ n ≤ b)) : Calls Try.prog 32 #[.int .i64 n, .int .i64 a, .int .i64 b] w fun e w' => e = .returned (.bool false) ∧ w = w' := in_bool n a b false w (by rw [decide_eq_false h])
end Go.Proofs.Ytldlknmpkoebbaa

namespace Go.Proofs.Ytldlknmpkoebbaa
open Go.RowKit

set_option maxRecDepth 100000 in
set_option maxHeartbeats 400000 in
theorem headerEmpty_bool (au nu : Int) (sa : Option Addr) (n c : Nat) (sb : Option Addr) (m d : Nat) (r : Bool) (w : World) (h : r = decide (au = 0 ∧ nu = 0 ∧ n = 0 ∧ m = 0)) :
    Calls Try.prog 55 #[.agg #[.int .i64 au, .int .i64 nu, .slice sa n c, .slice sb m d]] w fun e w' => e = .returned (.bool r) ∧ Below w.heap.size w w' := by
  by_cases h1 : au = 0
  · by_cases h2 : nu = 0
    · by_cases h3 : n = 0
      · by_cases h4 : m = 0
        · obtain rfl : r = true := by simp [h, h1, h2, h3, h4]
          clear h
          go_enter Try.func55, Try.ntmps55
          go_wp2_with fail
          go_ret
          exact ⟨by first | rfl | exact ret_bool (beq_eq_false_iff_ne.2 (by omega)), (Below.refl _ _).alloc (Nat.le_refl _) _⟩
        · have h4I : ¬ (m : Int) = 0 := by omega
          obtain rfl : r = false := by simp [h, h4]
          clear h
          go_enter Try.func55, Try.ntmps55
          go_wp2_with fail
          go_ret
          exact ⟨by first | rfl | exact ret_bool (beq_eq_false_iff_ne.2 (by omega)), (Below.refl _ _).alloc (Nat.le_refl _) _⟩
      · have h3I : ¬ (n : Int) = 0 := by omega
        obtain rfl : r = false := by simp [h, h3]
        clear h
        go_enter Try.func55, Try.ntmps55
        go_wp2_with fail
        go_ret
        exact ⟨by first | rfl | exact ret_bool (beq_eq_false_iff_ne.2 (by omega)), (Below.refl _ _).alloc (Nat.le_refl _) _⟩
    · obtain rfl : r = false := by simp [h, h2]
      clear h
      go_enter Try.func55, Try.ntmps55
      go_wp2_with fail
      go_ret
      exact ⟨by first | rfl | exact ret_bool (beq_eq_false_iff_ne.2 (by omega)), (Below.refl _ _).alloc (Nat.le_refl _) _⟩
  · obtain rfl : r = false := by simp [h, h1]
    clear h
    go_enter Try.func55, Try.ntmps55
    go_wp2_with fail
    go_ret
    exact ⟨by first | rfl | exact ret_bool (beq_eq_false_iff_ne.2 (by omega)), (Below.refl _ _).alloc (Nat.le_refl _) _⟩
set_option maxRecDepth 100000 in
theorem headerEmpty_true (au nu : Int) (sa : Option Addr) (n c : Nat) (sb : Option Addr) (m d : Nat) (w : World) (h : au = 0 ∧ nu = 0 ∧ n = 0 ∧ m = 0) : Calls Try.prog 55 #[.agg #[.int .i64 au, .int .i64 nu, .slice sa n c, .slice sb m d]] w fun e w' => e = .returned (.bool true) ∧ Below w.heap.size w w' := headerEmpty_bool _ _ _ _ _ _ _ _ true w (by simp [h])
set_option maxRecDepth 100000 in
theorem headerEmpty_false (au nu : Int) (sa : Option Addr) (n c : Nat) (sb : Option Addr) (m d : Nat) (w : World) (h : ¬ (au = 0 ∧ nu = 0 ∧ n = 0 ∧ m = 0)) : Calls Try.prog 55 #[.agg #[.int .i64 au, .int .i64 nu, .slice sa n c, .slice sb m d]] w fun e w' => e = .returned (.bool false) ∧ Below w.heap.size w w' := headerEmpty_bool _ _ _ _ _ _ _ _ false w (by rw [decide_eq_false h])
end Go.Proofs.Ytldlknmpkoebbaa

namespace Go.Proofs.Ytldlknmpkoebbaa
open Go.RowKit

set_option maxRecDepth 100000 in
set_option maxHeartbeats 1000000 in
theorem batchFault_any (au nu : Int) (sa : Option Addr) (n cap : Nat) (ss : List ByteArray) (w : World) (hn : n = ss.length) (hm : n ≤ maxLen) (hs : StrsAt w sa ss) :
    Calls Try.prog 51 #[.agg #[.int .i64 au, .int .i64 nu, .slice sa n cap]] w fun e w' => e = .returned (.int .i64 (batchF au nu ss)) ∧ Below w.heap.size w w' := by
  subst hn
  unfold maxLen at hm
  by_cases ha : 0 ≤ au ∧ au < 4
  · by_cases hr : 1 ≤ nu ∧ nu ≤ 1048576
    · by_cases hl : ss.length < 1 ∨ 4 < ss.length
      · have hF : Hid (batchF au nu ss = 1) := by show _ = _; rw [batchF, if_neg (by simp [ha, hr]), if_pos hl]
        have hlI : ¬ (1 ≤ (ss.length : Int) ∧ (ss.length : Int) ≤ 4) := by omega
        rcases hl with hl | hl
        · have hl0 : ss.length = 0 := by omega
          rw [hl0]
          go_enter Try.func51, Try.ntmps51
          go_wp2_with (go_at_call 32; first | (refine (in_true _ _ _ _ (by omega)).mono ?_; rintro e w' ⟨rfl, rfl⟩) | (refine (in_false _ _ _ _ (by omega)).mono ?_; rintro e w' ⟨rfl, rfl⟩))
          go_ret
          exact ⟨ret_int hF.out.symm, (Below.refl _ _).alloc (Nat.le_refl _) _⟩
        · have hl1 : (4 : Int) < ss.length := by omega
          have hl2 : ¬ (ss.length : Int) < 1 := by omega
          go_enter Try.func51, Try.ntmps51
          go_wp2_with (go_at_call 32; first | (refine (in_true _ _ _ _ (by omega)).mono ?_; rintro e w' ⟨rfl, rfl⟩) | (refine (in_false _ _ _ _ (by omega)).mono ?_; rintro e w' ⟨rfl, rfl⟩))
          go_ret
          exact ⟨ret_int hF.out.symm, (Below.refl _ _).alloc (Nat.le_refl _) _⟩
      · have hF : Hid (batchF au nu ss = if ss.all txOk then 0 else 1) := by show _ = _; rw [batchF, if_neg (by simp [ha, hr]), if_neg hl]
        have hl1 : ¬ (4 : Int) < ss.length := by omega
        have hl2 : ¬ (ss.length : Int) < 1 := by omega
        go_enter Try.func51, Try.ntmps51
        go_wp2_with (go_at_call 32; first | (refine (in_true _ _ _ _ (by omega)).mono ?_; rintro e w' ⟨rfl, rfl⟩) | (refine (in_false _ _ _ _ (by omega)).mono ?_; rintro e w' ⟨rfl, rfl⟩))
        go_loop [3] (fun i => ∃ k : Nat, k ≤ ss.length ∧ i = .int .i64 k ∧ ∀ q, q < k → txOk (ss.getD q ByteArray.empty) = true) (fun i => ss.length - (intOf i).toNat)
        case atStart => exact ⟨0, Nat.zero_le _, rfl, fun q hq => by omega⟩
        case round =>
          obtain ⟨k, hk, rfl, hall⟩ := hrel
          by_cases hlt : k < ss.length
          · rcases hs.cells with hc | ⟨sb, so, rfl, hc⟩
            · subst hc; simp at hlt
            have hltI : (k : Int) < ss.length := by omega
            have ck := hc k hlt
            have ck2 := (((Below.refl w.heap.size w).alloc (Nat.le_refl _) (.cells #[.int .i64 au, .int .i64 nu, .slice (some ⟨sb, so, none⟩) ss.length cap] 43)).cell (p := ⟨sb, so + k, none⟩) (block_lt_of_cell ck)).trans ck
            have hz : (ss.getD k ByteArray.empty).size ≤ 9223372036854775807 := hs.size _ (by simp [List.getD, hlt])
            have hT : txOk (ss.getD k ByteArray.empty) = decide (1 ≤ (ss.getD k ByteArray.empty).size ∧ (ss.getD k ByteArray.empty).size ≤ 20) := rfl
            have hstep : Hid (txOk (ss.getD k ByteArray.empty) = true → ∀ q, q < k + 1 → txOk (ss.getD q ByteArray.empty) = true) := by
              show _ → _
              intro h q hq
              rcases Nat.lt_or_ge q k with g | g
              · exact hall q g
              · obtain rfl : q = k := by omega
                exact h
            have hno : Hid (txOk (ss.getD k ByteArray.empty) = false → ss.all txOk = false) := by
              show _ → _
              exact all_false ss txOk ByteArray.empty k hlt
            clear hall hc ck
            generalize ss.getD k ByteArray.empty = s at *
            by_cases h1 : 1 ≤ s.size
            · have h1I : ¬ (s.size : Int) < 1 := by omega
              by_cases h2 : s.size ≤ 20
              · have h2I : ¬ (20 : Int) < s.size := by omega
                have hst := hstep.out (by rw [hT]; simp [h1, h2])
                clear hT hstep hno
                go_wp2_with (go_at_call 32; first | (refine (in_true _ _ _ _ (by omega)).mono ?_; rintro e w' ⟨rfl, rfl⟩) | (refine (in_false _ _ _ _ (by omega)).mono ?_; rintro e w' ⟨rfl, rfl⟩))
                go_round
                case rel => exact ⟨k + 1, by omega, by go_num, hst⟩
                case measure => simp [intOf]; omega
              · have h2I : (20 : Int) < s.size := by omega
                have hst := hno.out (by rw [hT]; simp [h2])
                clear hT hstep hno
                rw [hst] at hF
                go_wp2_with (go_at_call 32; first | (refine (in_true _ _ _ _ (by omega)).mono ?_; rintro e w' ⟨rfl, rfl⟩) | (refine (in_false _ _ _ _ (by omega)).mono ?_; rintro e w' ⟨rfl, rfl⟩))
                go_ret
                exact ⟨ret_int (by rw [hF.out]; rfl), (Below.refl _ _).alloc (Nat.le_refl _) _⟩
            · have h1I : (s.size : Int) < 1 := by omega
              have hst := hno.out (by rw [hT]; simp [h1])
              clear hT hstep hno
              rw [hst] at hF
              go_wp2_with (go_at_call 32; first | (refine (in_true _ _ _ _ (by omega)).mono ?_; rintro e w' ⟨rfl, rfl⟩) | (refine (in_false _ _ _ _ (by omega)).mono ?_; rintro e w' ⟨rfl, rfl⟩))
              go_ret
              exact ⟨ret_int (by rw [hF.out]; rfl), (Below.refl _ _).alloc (Nat.le_refl _) _⟩
          · obtain rfl : k = ss.length := by omega
            have hst := all_true ss txOk ByteArray.empty hall
            rw [hst] at hF
            go_wp2_with fail
            go_ret
            exact ⟨ret_int (by rw [hF.out]; rfl), (Below.refl _ _).alloc (Nat.le_refl _) _⟩
    · have hF : Hid (batchF au nu ss = 2) := by show _ = _; simp [batchF, hr]
      go_enter Try.func51, Try.ntmps51
      go_wp2_with (go_at_call 32; first | (refine (in_true _ _ _ _ (by omega)).mono ?_; rintro e w' ⟨rfl, rfl⟩) | (refine (in_false _ _ _ _ (by omega)).mono ?_; rintro e w' ⟨rfl, rfl⟩))
      go_ret
      exact ⟨ret_int hF.out.symm, (Below.refl _ _).alloc (Nat.le_refl _) _⟩
  · have hF : Hid (batchF au nu ss = 2) := by show _ = _; simp [batchF, ha]
    go_enter Try.func51, Try.ntmps51
    go_wp2_with (go_at_call 32; first | (refine (in_true _ _ _ _ (by omega)).mono ?_; rintro e w' ⟨rfl, rfl⟩) | (refine (in_false _ _ _ _ (by omega)).mono ?_; rintro e w' ⟨rfl, rfl⟩))
    go_ret
    exact ⟨ret_int hF.out.symm, (Below.refl _ _).alloc (Nat.le_refl _) _⟩
end Go.Proofs.Ytldlknmpkoebbaa

namespace Go.Proofs.Ytldlknmpkoebbaa
open Go.RowKit

set_option maxRecDepth 100000 in
theorem sameBytes_any (xs ys : List Int) (sa sb : Option Addr) (n m c d : Nat) (w : World) (hn : n = xs.length) (hm : m = ys.length) (ha : SliceAt w sa c xs) (hb : SliceAt w sb d ys) :
    Calls Try.prog 95 #[.slice sa n c, .slice sb m d] w fun e w' => e = .returned (.bool (decide (txL xs = txL ys))) ∧ w = w' := by
  have h1 := run_text w sa n c xs hn ha
  have h2 := run_text w sb m d ys hm hb
  clear hn hm ha hb
  unfold txL
  generalize bstr xs = A at *
  generalize bstr ys = B at *
  go_enter Try.func95, Try.ntmps95
  go_wp2_with fail
  go_ret
  refine ⟨ret_bool ?_, rfl⟩
  by_cases h : A.toList = B.toList <;> simp [h]
end Go.Proofs.Ytldlknmpkoebbaa

namespace Go.Proofs.Ytldlknmpkoebbaa
open Go.RowKit

set_option maxRecDepth 100000 in
theorem twice_yes (ps : List Part) (k m : Nat) (hm : m < k) (h : txL (partAt ps m).bs = txL (partAt ps k).bs) : twice ps k = true := by
  simp only [twice, List.any_eq_true]
  exact ⟨m, by simpa using hm, by simpa using h⟩
set_option maxRecDepth 100000 in
theorem twice_no (ps : List Part) (k : Nat) (h : ∀ j, j < k → ¬ txL (partAt ps j).bs = txL (partAt ps k).bs) : twice ps k = false := by
  simp only [twice, List.any_eq_false]
  intro j hj
  simpa using h j (by simpa using hj)

set_option maxRecDepth 100000 in
set_option maxHeartbeats 1000000 in
theorem digestsFault_any (ps : List Part) (sa : Option Addr) (n cap : Nat) (w : World) (hn : n = ps.length) (hcm : n ≤ 9000000000000000000) (hp : PartsAt w sa ps) :
    Calls Try.prog 78 #[.slice sa n cap] w fun e w' => e = .returned (.int .i64 (digF ps)) ∧ Below w.heap.size w w' := by
  subst hn
  go_enter Try.func78, Try.ntmps78
  go_wp2_with fail
  go_loopw [3] (fun i wr => ∃ k : Nat, k ≤ ps.length ∧ i = .int .i64 k ∧ digTo1 ps k = 0 ∧ Below w.heap.size w wr) (fun i _ => ps.length - (intOf i).toNat)
  case atStart => exact ⟨0, Nat.zero_le _, rfl, rfl, Below.refl _ _⟩
  case round =>
    obtain ⟨k, hk, rfl, h0, hb⟩ := hrel
    by_cases hlt : k < ps.length
    · have hpw := hp.below hb
      obtain ⟨sb, so, rfl, hc⟩ : ∃ sb so, sa = some ⟨sb, so, none⟩ ∧ ∀ j (h : j < ps.length), wr.cell? ⟨sb, so + j, none⟩ = some (.slice (ps[j]).sa (ps[j]).bs.length (ps[j]).cap) := by
        rcases hpw.cells with h | h
        · rw [h] at hlt; simp at hlt
        · exact h
      have hx := hpw.each (ps[k]) (List.getElem_mem hlt)
      have hpe := partAt_get ps k hlt
      have ck := hc k hlt
      have Hc : Hid (∀ j (h : j < ps.length), wr.cell? ⟨sb, so + j, none⟩ = some (.slice (ps[j]).sa (ps[j]).bs.length (ps[j]).cap)) := hc
      clear hc
      have hltI : (k : Int) < ps.length := by omega
      have hAt : Hid (digAt ps k = if (ps[k]).bs.length ≠ 32 then 4 else if twice ps k then 7 else 0) := by
        show _ = _
        rw [digAt, hpe]
      have hF : Hid (digAt ps k ≠ 0 → digF ps = digAt ps k) := by
        show _ → _
        exact digF_at ps k hlt h0
      have hS : Hid (digAt ps k = 0 → digTo1 ps (k + 1) = 0) := by
        show _ → _
        intro h
        rw [digTo1, h0, h]; rfl
      have hxl : (ps[k]).bs.length ≤ 9223372036854775807 := Nat.le_trans hx.le hx.max
      generalize hpk : ps[k] = p at *
      by_cases h32 : p.bs.length = 32
      · have e7 : Hid (twice ps k = true → digF ps = 7) := by
          show _ → _
          intro hT
          have : digAt ps k = 7 := by rw [hAt.out, if_neg (by simp [h32]), hT]; rfl
          rw [hF.out (by rw [this]; decide), this]
        have e0 : Hid (twice ps k = false → digTo1 ps (k + 1) = 0) := by
          show _ → _
          intro hT
          exact hS.out (by rw [hAt.out, if_neg (by simp [h32]), hT]; rfl)
        have hY : Hid (∀ m, m < k → txL (partAt ps m).bs = txL p.bs → twice ps k = true) := by
          show ∀ m, _
          intro m hm h
          exact twice_yes ps k m hm (by rw [hpe]; exact h)
        have hN : Hid ((∀ j, j < k → ¬ txL (partAt ps j).bs = txL p.bs) → twice ps k = false) := by
          show _ → _
          intro h
          exact twice_no ps k (fun j hj => by rw [hpe]; exact h j hj)
        clear hAt hF hS h0 hpe
        go_wp2_with fail
        go_loopw [4] (fun i wq => ∃ m : Nat, m ≤ k ∧ i = .int .i64 m ∧ (∀ j, j < m → ¬ txL (partAt ps j).bs = txL p.bs) ∧ Below w.heap.size w wq) (fun i _ => k - (intOf i).toNat)
        case atStart => exact ⟨0, Nat.zero_le _, rfl, (fun j hj => by omega), hb⟩
        case round =>
          clear Hc hx ck hb hpw
          obtain ⟨m, hm, rfl, hno, hb⟩ := hrel
          have hpw := hp.below hb
          by_cases hmk : m < k
          · have hmp : m < ps.length := by omega
            have hc : ∀ j (h : j < ps.length), wr.cell? ⟨sb, so + j, none⟩ = some (.slice (ps[j]).sa (ps[j]).bs.length (ps[j]).cap) := by
              rcases hpw.cells with h | ⟨sb', so', e, h⟩
              · rw [h] at hlt; simp at hlt
              · cases e; exact h
            have cm := hc m hmp
            have ck := hc k hlt
            have hx := hpw.each (ps[k]) (List.getElem_mem hlt)
            rw [hpk] at ck hx
            clear hc
            have hxm := hpw.each (ps[m]) (List.getElem_mem hmp)
            have hpm := partAt_get ps m hmp
            have hmkI : (m : Int) < k := by omega
            have hmpI : (m : Int) < ps.length := by omega
            have Hno : Hid (¬ txL (ps[m]).bs = txL p.bs → ∀ j, j < m + 1 → ¬ txL (partAt ps j).bs = txL p.bs) := by
              show _ → _
              intro h j hj
              rcases Nat.lt_or_ge j m with g | g
              · exact hno j g
              · obtain rfl : j = m := by omega
                rw [hpm]; exact h
            have Hyes : Hid (txL (ps[m]).bs = txL p.bs → digF ps = 7) := by
              show _ → _
              intro h
              exact e7.out (hY.out m hmk (by rw [hpm]; exact h))
            clear hno hpm
            generalize ps[m] = q at *
            go_wp2_with fail
            go_region_held2 (fun w' => w'.cell? ⟨sb, so + m, none⟩ = some (.slice q.sa q.bs.length q.cap) ∧ w'.cell? ⟨sb, so + k, none⟩ = some (.slice p.sa p.bs.length p.cap)) (go_keep) ((go_at_call 95; refine (sameBytes_any q.bs p.bs q.sa p.sa _ _ q.cap p.cap _ (by first | rfl | exact h32.symm) (by first | rfl | exact h32.symm) (hxm.below ?_) (hx.below ?_)).mono ?_; exact (Below.refl _ _).drew; exact (Below.refl _ _).drew; rintro e w1 ⟨rfl, rfl⟩))
            all_goals
              by_cases h : txL q.bs = txL p.bs
              · have hy := Hyes.out h
                rw [decide_eq_true h]
                clear Hyes Hno h
                go_wp2_with fail
                go_ret
                exact ⟨ret_int hy.symm, hb.drew⟩
              · have hn := Hno.out h
                rw [decide_eq_false h]
                clear Hyes Hno h
                go_wp2_with fail
                go_roundw
                case rel =>
                  have hR : ∃ m' : Nat, m' ≤ k ∧ (Value.int .i64 ((m : Int) + 1)) = .int .i64 m' ∧ (∀ j, j < m' → ¬ txL (partAt ps j).bs = txL p.bs) ∧ Below w.heap.size w wr.drew := ⟨m + 1, by omega, by go_num, hn, hb.drew⟩
                  first | exact hR | ((repeat apply Exists.intro); exact ⟨hR, rfl⟩)
                case measure => simp [intOf]; omega
          · obtain rfl : m = k := by omega
            have h1 := e0.out (hN.out hno)
            clear hno
            go_wp2_with fail
            go_roundw
            case rel =>
              have hR : ∃ k' : Nat, k' ≤ ps.length ∧ (Value.int .i64 ((m : Int) + 1)) = .int .i64 k' ∧ digTo1 ps k' = 0 ∧ Below w.heap.size w wr := ⟨m + 1, by omega, by go_num, h1, hb⟩
              first | exact hR | ((repeat apply Exists.intro); exact ⟨hR, rfl⟩)
            case measure => simp [intOf]; omega
      · have h32I : ¬ (p.bs.length : Int) = 32 := by omega
        have e4 : Hid (digF ps = 4) := by
          show _ = _
          have : digAt ps k = 4 := by rw [hAt.out, if_pos h32]
          rw [hF.out (by rw [this]; decide), this]
        clear hAt hF hS
        go_wp2_with fail
        go_ret
        exact ⟨ret_int e4.out.symm, hb⟩
    · obtain rfl : k = ps.length := by omega
      go_wp2_with fail
      go_ret
      exact ⟨ret_int h0.symm, hb⟩
end Go.Proofs.Ytldlknmpkoebbaa
