/- The document's MessageOf, of bytes that begin with 1. -/
import Derived.Test.YtldlknmpkoebbaaTapeRecoversM30
import Derived.Test.YtldlknmpkoebbaaTapeRecoversM72
import Derived.Test.YtldlknmpkoebbaaTapeRecoversM78
import Derived.Test.YtldlknmpkoebbaaTapeRecoversM6
import Derived.Deep.RegionHeld3
import Derived.Test.YtldlknmpkoebbaaTapeRecoversM36
import Derived.Test.YtldlknmpkoebbaaTapeRecoversM66
import Derived.Test.YtldlknmpkoebbaaTapeRecoversM48
import Derived.Laws.Tables
namespace Go.Proofs.Ytldlknmpkoebbaa
open Go.RowKit

set_option maxRecDepth 100000 in
set_option maxHeartbeats 400000 in
theorem tapeMay_any (sa : Option Addr) (n cap : Nat) (sy : Int) (w : World) (hn : n ≤ 140737488355328) :
    Calls Try.prog 21 #[.agg #[.slice sa n cap, .int .i64 sy]] w fun e w' => e = .returned (.bool (tapeOk n sy)) ∧ Below w.heap.size w w' := by
  have hA : Below w.heap.size w (w.alloc (.cells #[.slice sa n cap, .int .i64 sy] 24)) := (Below.refl _ _).alloc (Nat.le_refl _) _
  by_cases h1 : (n : Int) ≤ 400000
  · have hI : Hid (∀ W : World, Calls Try.prog 32 #[.int .i64 sy, .int .i64 0, .int .i64 (n : Int)] W fun e w' => e = .returned (.bool (tapeOk n sy)) ∧ W = w') := by
      show ∀ _, _
      intro W
      exact in_bool sy 0 n _ W (by rw [tapeOk]; exact decide_eq_decide.2 (by omega))
    go_enter Try.func21, Try.ntmps21
    go_wp2_with (go_at_call 32; refine (hI.out _).mono ?_; rintro e w' ⟨rfl, rfl⟩)
    go_ret
    exact ⟨rfl, hA⟩
  · have hF : Hid (tapeOk n sy = false) := tapeOk_not (by omega)
    go_enter Try.func21, Try.ntmps21
    go_wp2_with fail
    go_ret
    exact ⟨by rw [hF.out]; rfl, hA⟩
set_option maxRecDepth 100000 in
theorem joined_nil (xs : List Int) (sa : Option Addr) (n c : Nat) (w : World) (hn : n = xs.length) (ha : SliceAt w sa c xs) (hl : xs.length ≤ 140737488355328) :
    Calls Try.prog 24 #[.slice sa n c, .slice none 0 0] w fun e w' => ∃ ra rc, e = .returned (.slice ra xs.length rc) ∧ SliceAt w' ra rc xs ∧ (∀ sb so, ra = some ⟨sb, so, none⟩ → w.heap.size ≤ sb ∧ sb < w'.heap.size) ∧ Below w.heap.size w w' := by
  refine (joined_any xs [] sa none n 0 c 0 w hn rfl ha (nilSliceT _) (by simpa using hl)).mono ?_
  rintro e w1 ⟨v, he, ho, hb⟩
  simp only [List.append_nil, List.length_nil, Nat.add_zero] at ho
  obtain ⟨ra, rc, hv, _, hs⟩ := owns_form ho
  have hlt := ho.lt
  subst hv
  exact ⟨ra, rc, he, hs, fun sb so e => hlt sb (by rw [e]; rfl), hb⟩
end Go.Proofs.Ytldlknmpkoebbaa

namespace Go.Proofs.Ytldlknmpkoebbaa
open Go.RowKit

/-- A scan: what is left to it, and whether it has gone beyond the end. -/
structure ScAt (w : World) (S : Nat) (b : List Int) (s : St) (N : Nat) : Prop where
  out : ∃ (ba : Option Addr) (bc a : Nat), w.heap[S]? = some (.cells #[.slice ba b.length bc, .int .i64 (a : Int)] 74 (0, 0)) ∧ SliceAt w ba bc b ∧ (∀ sb so, ba = some ⟨sb, so, none⟩ → sb < S) ∧ a ≤ N ∧ (s.2 = false → a ≤ b.length ∧ s.1 = b.drop a) ∧ (s.2 = true → b.length < a)
set_option maxRecDepth 100000 in
theorem ScAt.below {w w' : World} {S : Nat} {b : List Int} {s : St} {N : Nat} (h : ScAt w S b s N) (hb : Below w.heap.size w w') : ScAt w' S b s N := by
  obtain ⟨ba, bc, a, h1, h2, h3⟩ := h.out
  exact ⟨ba, bc, a, (hb.block _ (lt_of_heap h1)).trans h1, h2.below hb, h3⟩
set_option maxRecDepth 100000 in
theorem ScAt.lt {w : World} {S : Nat} {b : List Int} {s : St} {N : Nat} (h : ScAt w S b s N) : S < w.heap.size := by
  obtain ⟨ba, bc, a, h1, _⟩ := h.out
  exact lt_of_heap h1
set_option maxRecDepth 100000 in
theorem ScAt.mono {w : World} {S : Nat} {b : List Int} {s : St} {N M : Nat} (h : ScAt w S b s N) (hm : N ≤ M) : ScAt w S b s M := by
  obtain ⟨ba, bc, a, h1, h2, h3, h4, h5⟩ := h.out
  exact ⟨ba, bc, a, h1, h2, h3, Nat.le_trans h4 hm, h5⟩
set_option maxRecDepth 100000 in
/-- As long as it is not beyond, it is within. -/
theorem ScAt.within {w : World} {S : Nat} {b : List Int} {s : St} {N : Nat} (h : ScAt w S b s N) (hs : s.2 = false) : ScAt w S b s b.length := by
  obtain ⟨ba, bc, a, h1, h2, h3, h4, h5, h6⟩ := h.out
  exact ⟨ba, bc, a, h1, h2, h3, (h5 hs).1, h5, h6⟩
set_option maxRecDepth 100000 in
/-- What changes newer blocks alone leaves it. -/
theorem ScAt.stays {w w' : World} {S : Nat} {b : List Int} {s : St} {N : Nat} (h : ScAt w S b s N) (hk : ∀ k, k ≤ S → w'.heap[k]? = w.heap[k]?) : ScAt w' S b s N := by
  obtain ⟨ba, bc, a, h1, h2, h3, h4⟩ := h.out
  refine ⟨ba, bc, a, (hk S (Nat.le_refl _)).trans h1, ⟨h2.le, h2.max, h2.some, h2.nil, ?_⟩, h3, h4⟩
  rcases h2.bytes with hz | ⟨sb, so, e, hc⟩
  · exact .inl hz
  · exact .inr ⟨sb, so, e, fun k hk' => (World.cell?_of_block (hk sb (Nat.le_of_lt (h3 sb so e)))).trans (hc k hk')⟩
set_option maxRecDepth 100000 in
theorem ScAt.beyond {w : World} {S : Nat} {b : List Int} {s t : St} {N : Nat} (h : ScAt w S b s N) (h1 : s.2 = true) (h2 : t.2 = true) : ScAt w S b t N := by
  obtain ⟨ba, bc, a, g1, g2, g3, g4, g5, g6⟩ := h.out
  exact ⟨ba, bc, a, g1, g2, g3, g4, (fun h9 => by rw [h2] at h9; cases h9), fun _ => g6 h1⟩
set_option maxRecDepth 100000 in
theorem over_sc (S : Nat) (b : List Int) (s : St) (N : Nat) (w : World) (h : ScAt w S b s N) :
    Calls Try.prog 34 #[.pointer (some ⟨S, 0, none⟩)] w fun e w' => e = .returned (.bool s.2) ∧ Below w.heap.size w w' := by
  obtain ⟨ba, bc, a, q0, hb, hne, ha, h5, h6⟩ := h.out
  have c0 : w.cell? ⟨S, 0, none⟩ = some (.slice ba b.length bc) := cells_at q0 0 _ rfl
  have c1 : w.cell? ⟨S, 1, none⟩ = some (.int .i64 (a : Int)) := cells_at q0 1 _ rfl
  have hB : Below w.heap.size w w.drew := (Below.refl _ _).drew
  cases hs : s.2 with
  | false =>
    have h1 := (h5 hs).1
    have h1I : ¬ (b.length : Int) < a := by omega
    clear h5 h6 hs h
    go_enter Try.func34, Try.ntmps34
    go_wp2_with fail
    go_region_held3 (fun w' => w'.cell? ⟨S, 0, none⟩ = some (.slice ba b.length bc) ∧ w'.cell? ⟨S, 1, none⟩ = some (.int .i64 (a : Int))) (go_keep) (fail)
    all_goals
      go_wp2_with fail
      go_ret
      refine ⟨?_, hB⟩
      first | rfl | simp [h1] | (simp; omega)
  | true =>
    have h1 := h6 hs
    have h1I : (b.length : Int) < a := by omega
    clear h5 h6 hs h
    go_enter Try.func34, Try.ntmps34
    go_wp2_with fail
    go_region_held3 (fun w' => w'.cell? ⟨S, 0, none⟩ = some (.slice ba b.length bc) ∧ w'.cell? ⟨S, 1, none⟩ = some (.int .i64 (a : Int))) (go_keep) (fail)
    all_goals
      go_wp2_with fail
      go_ret
      refine ⟨?_, hB⟩
      first | rfl | simp [h1] | (simp; omega)
set_option maxRecDepth 100000 in
theorem joinedN (xs : List Int) (sa : Option Addr) (n c : Nat) (w : World) (hn : n = xs.length) (ha : SliceAt w sa c xs) (hl : xs.length ≤ 140737488355328) :
    Calls Try.prog 24 #[.slice sa n c, .slice none 0 0] w fun e w' => ∃ ra rc, e = .returned (.slice ra xs.length rc) ∧ SliceAt w' ra rc xs ∧ (∀ sb so, ra = some ⟨sb, so, none⟩ → w.heap.size ≤ sb ∧ sb < w'.heap.size) ∧ Below w.heap.size w w' := by
  refine (joined_any xs [] sa none n 0 c 0 w hn rfl ha ⟨Nat.le_refl _, by decide, .inl rfl, fun _ => rfl, .inl rfl⟩ (by simpa using hl)).mono ?_
  rintro e w1 ⟨v, he, ho, hb⟩
  simp only [List.append_nil, List.length_nil, Nat.add_zero] at ho
  obtain ⟨ra, rc, hv, _, hs⟩ := owns_form ho
  have hlt := ho.lt
  subst hv
  exact ⟨ra, rc, he, hs, fun sb so e => hlt sb (by rw [e]; rfl), hb⟩
set_option maxRecDepth 100000 in
theorem zsliceN {w : World} {b n : Nat} {l : List Int} (h : w.heap[b]? = some (.cells (ub l).toArray 5 (0, 0))) (hn : n = l.length) (hm : n ≤ maxLen) : SliceAt w (some ⟨b, 0, none⟩) n l := by
  subst hn
  refine ⟨Nat.le_refl _, hm, .inr ⟨b, 0, rfl⟩, (fun e => by cases e), .inr ⟨b, 0, rfl, fun j hj => ?_⟩⟩
  rw [cell_of_row w b _ _ _ _ h, Nat.zero_add]
  simp [ub, hj]
set_option maxRecDepth 100000 in
theorem makeB9 (K : Nat) (hK : K ≤ 500000) : ∃ ZZ : Array Value, (∀ w : World, (Instr.makeSlice 22 (.int .i64 (K : Int)) (.int .i64 (K : Int))).run Try.prog w = .ok (.slice (some ⟨w.heap.size, 0, none⟩) K K) (w.alloc (.cells ZZ 5))) ∧ ∀ w : World, SliceAt (w.alloc (.cells ZZ 5)) (some ⟨w.heap.size, 0, none⟩) K (List.replicate K 0) := by
  obtain ⟨i, hi, hz0, hz1, hz2⟩ := info_parts infoU8
  refine ⟨madeCells (Value.int .u8 0).cells (K * 1), fun w => ?_, fun w => ?_⟩
  · have h := run_make (P := Try.prog) w 22 5 i (.int .u8 0) Try.underlying22 hi hz0 .i64 .i64 (K : Int) (K : Int) (by omega) (Int.le_refl _) (by rw [hz2]; omega) (by omega)
    simpa [hz1] using h
  · have h := World.ownsRow_lit (base := w.heap.size) (e := 5) (size := 1) w (madeCells (Value.int .u8 0).cells (K * 1)) K (Nat.le_refl _) (by unfold maxLen; omega) (size_madeCells _ _)
    rw [zeros_made] at h
    exact (sliceAt_of_owns h).2
/-- What next gives. -/
structure NextIs (w w' : World) (e : Ending) (S : Nat) (b : List Int) (s : St) (N n : Nat) : Prop where
  out : ∃ (ra : Option Addr) (rc : Nat) (t : List Int), e = .returned (.slice ra t.length rc) ∧ SliceAt w' ra rc t ∧ (∀ sb so, ra = some ⟨sb, so, none⟩ → w.heap.size ≤ sb ∧ sb < w'.heap.size) ∧ ((nx n s).2 = false → t = tT n s) ∧ ((nx n s).2 = true → t = List.replicate n 0) ∧ ScAt w' S b (nx n s) (N + n) ∧ Only S w w'
set_option maxRecDepth 100000 in
set_option maxHeartbeats 2000000 in
theorem next_sc (S n : Nat) (b : List Int) (s : St) (N : Nat) (w : World) (h : ScAt w S b s N) (hn : n ≤ 255) (hN : N ≤ 1000000) :
    Calls Try.prog 35 #[.pointer (some ⟨S, 0, none⟩), .int .i64 (n : Int)] w fun e w' => NextIs w w' e S b s N n := by
  obtain ⟨ba, bc, a, q0, hb, hne, ha, h5, h6⟩ := h.out
  have hlt := h.lt
  have c0 : w.cell? ⟨S, 0, none⟩ = some (.slice ba b.length bc) := cells_at q0 0 _ rfl
  have c1 : w.cell? ⟨S, 1, none⟩ = some (.int .i64 (a : Int)) := cells_at q0 1 _ rfl
  have f1 := frozen_at q0 1
  have hw1 : IntKind.i64.wrap ((a : Int) + n) = (a : Int) + n := by rw [IntKind.wrap_i64]; omega
  have q1 : (w.setCell ⟨S, 1, none⟩ (.int .i64 ((a : Int) + n))).heap[S]? = some (.cells #[.slice ba b.length bc, .int .i64 ((a : Int) + n)] 74 (0, 0)) := by simpa using heap_setCell_same _ _ 1 _ _ (.int .i64 ((a : Int) + n)) q0
  have hO1 : Only S w (w.setCell ⟨S, 1, none⟩ (.int .i64 ((a : Int) + n))) := (Only.refl S w).setCell
  have hb1 : SliceAt (w.setCell ⟨S, 1, none⟩ (.int .i64 ((a : Int) + n))) ba bc b := hb.only hO1 (fun sb so e => Nat.ne_of_lt (hne sb so e))
  have hov : Hid (((nx n s).2 = true ↔ b.length < a + n) ∧ (a + n ≤ b.length → (nx n s).1 = b.drop (a + n) ∧ tT n s = (b.drop a).take n)) := by
    show _ ∧ _
    obtain ⟨s1, s2⟩ := s
    cases s2 with
    | true =>
      have := h6 rfl
      refine ⟨⟨fun _ => by omega, fun _ => by simp [nx, tkS]⟩, fun h9 => by omega⟩
    | false =>
      obtain ⟨h7, h8⟩ := h5 rfl
      have h8' : s1 = b.drop a := h8
      have hl1 : s1.length = b.length - a := by rw [h8', List.length_drop]
      refine ⟨?_, fun h9 => ?_⟩
      · show tkS n s1 false = true ↔ _
        simp [tkS]
        omega
      · have h10 := tk_ok (n := n) (l := s1) (by omega)
        exact ⟨by show tkL n s1 false = _; rw [h10.2.1, h8', List.drop_drop], by show tkT n s1 false = _; rw [h10.1, h8']⟩
  have hle := hb.le
  clear h5 h6 h
  go_enter Try.func35, Try.ntmps35
  go_upto_region 3 with fail
  generalize hWq : w.setCell ⟨S, 1, none⟩ (.int .i64 ((a : Int) + n)) = W1 at q1 hO1 hb1 ⊢
  clear hWq c0 c1 f1 q0 hb
  have c0 : W1.cell? ⟨S, 0, none⟩ = some (.slice ba b.length bc) := cells_at q1 0 _ rfl
  have c1 : W1.cell? ⟨S, 1, none⟩ = some (.int .i64 ((a : Int) + n)) := cells_at q1 1 _ rfl
  have hSz : S < W1.heap.size := lt_of_heap q1
  by_cases hv : b.length < a + n
  · have hvI : (b.length : Int) < (a : Int) + n := by omega
    have hOv : Hid ((nx n s).2 = true) := hov.out.1.2 hv
    have hnI : (n : Int) ≤ 300 := by omega
    obtain ⟨ZZ, hmk, hzs⟩ := makeB9 n (by omega)
    have q1' : W1.heap[S]? = some (.cells #[.slice ba b.length bc, .int .i64 ((a + n : Nat) : Int)] 74 (0, 0)) := by simpa using q1
    have HZ : Hid (∀ W : World, SliceAt (W.alloc (.cells ZZ 5)) (some ⟨W.heap.size, 0, none⟩) n (List.replicate n 0)) := hzs
    have Hv : Hid (b.length < a + n) := hv
    clear hzs
    clear hov hv
    go_region_held3 (fun w' => w'.cell? ⟨S, 0, none⟩ = some (.slice ba b.length bc) ∧ w'.cell? ⟨S, 1, none⟩ = some (.int .i64 ((a : Int) + n))) (go_keep) (fail)
    all_goals
      have hm := hmk W1.drew
      clear hmk
      go_wp2_with fail
      have hB2 : Below W1.heap.size W1 (W1.drew.alloc (.cells ZZ 5)) := (Below.refl W1.heap.size W1).drew.alloc (Nat.le_refl _) _
      have hz9 := HZ.out W1.drew
      go_ret
      refine ⟨some ⟨W1.heap.size, 0, none⟩, n, List.replicate n 0, by rw [List.length_replicate]; rfl, hz9, fun sb so e => ?_, fun h9 => ?_, fun _ => rfl, ?_, hO1.trans (only_of_below hB2)⟩
      · cases e
        exact ⟨hO1.size, by simp⟩
      · rw [hOv.out] at h9; cases h9
      · exact ⟨ba, bc, a + n, (hB2.block _ hSz).trans q1', hb1.below hB2, hne, by omega, (fun h9 => by rw [hOv.out] at h9; cases h9), fun _ => Hv.out⟩
  · have hvI : ¬ (b.length : Int) < (a : Int) + n := by omega
    have hOv : Hid ((nx n s).2 = false) := by
      show _ = _
      cases h9 : (nx n s).2 with
      | false => rfl
      | true => exact absurd (hov.out.1.1 h9) hv
    obtain ⟨e1, e2⟩ := hov.out.2 (by omega)
    have HE : Hid ((nx n s).1 = b.drop (a + n) ∧ tT n s = (b.drop a).take n ∧ a + n ≤ b.length) := ⟨e1, e2, by omega⟩
    have q1' : W1.heap[S]? = some (.cells #[.slice ba b.length bc, .int .i64 ((a + n : Nat) : Int)] 74 (0, 0)) := by simpa using q1
    have hble := hb1.le
    obtain ⟨xa, xc, hX, hcase⟩ : ∃ (xa : Option Addr) (xc : Nat), SliceAt W1 xa xc ((b.drop a).take n) ∧ ((a = bc ∧ n = 0 ∧ xa = ba ∧ xc = 0) ∨ ∃ sb so, ba = some ⟨sb, so, none⟩ ∧ a < bc ∧ xa = some ⟨sb, so + a, none⟩ ∧ xc = bc - a) := by
      by_cases hab : a = bc
      · refine ⟨ba, 0, ?_, .inl ⟨hab, by omega, rfl, rfl⟩⟩
        have h9 := hb1.takeR 0 0 (Nat.zero_le _) (Nat.le_refl _) (Nat.zero_le _) (fun _ => rfl)
        have : (b.drop a).take n = [] := by rw [show n = 0 by omega]; simp
        rw [this]
        simpa using h9
      · rcases hb1.some with h9 | ⟨sb, so, h9⟩
        · omega
        · subst h9
          refine ⟨some ⟨sb, so + a, none⟩, bc - a, ?_, .inr ⟨sb, so, rfl, by omega, rfl, rfl⟩⟩
          exact (cut_slice hb1 (by omega)).takeR n (bc - a) (by rw [List.length_drop]; omega) (by omega) (Nat.le_refl _) (fun e => by cases e)
    have hXl : ((b.drop a).take n).length = n := by rw [List.length_take, List.length_drop]; omega
    have HJ : Hid (∀ W : World, Below W1.heap.size W1 W → Calls Try.prog 24 #[.slice xa n xc, .slice none 0 0] W fun e w' => ∃ v, e = .returned v ∧ ((∃ ra rc, v = .slice ra n rc ∧ SliceAt w' ra rc ((b.drop a).take n) ∧ (∀ sb so, ra = some ⟨sb, so, none⟩ → W.heap.size ≤ sb ∧ sb < w'.heap.size)) ∧ Below W.heap.size W w')) := by
      show ∀ _, _
      intro W hW
      refine (joinedN ((b.drop a).take n) xa n xc W hXl.symm (hX.below hW) (by omega)).mono ?_
      rintro e w' ⟨ra, rc, he, h1, h2, h3⟩
      rw [hXl] at he
      exact ⟨_, he, ⟨ra, rc, rfl, h1, h2⟩, h3⟩
    have HXl : Hid _ := hXl
    clear hov e1 e2 hX hXl
    go_region_held3 (fun w' => w'.cell? ⟨S, 0, none⟩ = some (.slice ba b.length bc) ∧ w'.cell? ⟨S, 1, none⟩ = some (.int .i64 ((a : Int) + n))) (go_keep) (fail)
    all_goals
      go_upto_region 5 with fail
      have d0 : W1.drew.drew.cell? ⟨S, 0, none⟩ = some (.slice ba b.length bc) := c0
      have d1 : W1.drew.drew.cell? ⟨S, 1, none⟩ = some (.int .i64 ((a : Int) + n)) := c1
      have hV : Below W1.heap.size W1 W1.drew.drew := (Below.refl W1.heap.size W1).drew.drew
      have aI : (a : Int) ≤ (a : Int) + n := by omega
      have bI : (a : Int) + n ≤ bc := by omega
      have a0 : (0 : Int) ≤ a := by omega
      have hto : ((a : Int) + n).toNat - a = n := by omega
      rcases hcase with ⟨hab, hn0, rfl, rfl⟩ | ⟨sb, so, rfl, hab, rfl, rfl⟩
      · subst hab hn0
        refine wp_region_held_drew (S := fun w' => w'.cell? ⟨S, 0, none⟩ = some (.slice xa b.length a) ∧ w'.cell? ⟨S, 1, none⟩ = some (.int .i64 ((a : Int) + ((0 : Nat) : Int)))) (by kernel_rfl) ⟨d0, d1⟩ (fun hHeld => ?_)
        generalize W1.drew.drew = V5 at d0 d1 hV hHeld ⊢
        refine take_dst (i := 0) (d := 32) (v := .pointer (some ⟨S, 0, none⟩)) rfl rfl (by kernel_rfl) (by kernel_rfl) (by kernel_rfl) (fun _ _ _ h => h) (Or.inl ⟨by rfl, ?_⟩) hHeld ?_
        · (intro w0 hSw; (try dsimp only at hSw); go_simp)
        simp only [Act.put, List.setIfInBounds_toArray, List.set_cons_zero, List.set_cons_succ]
        refine take_dst (i := 1) (d := 33) (v := .pointer (some ⟨S, 0, none⟩)) rfl rfl (by kernel_rfl) (by kernel_rfl) (by kernel_rfl) (fun _ _ _ h => h) (Or.inl ⟨by rfl, ?_⟩) hHeld ?_
        · (intro w0 hSw; (try dsimp only at hSw); go_simp)
        simp only [Act.put, List.setIfInBounds_toArray, List.set_cons_zero, List.set_cons_succ]
        refine take_dst (i := 2) (d := 34) (v := .pointer (some ⟨S, 0, none⟩)) rfl rfl (by kernel_rfl) (by kernel_rfl) (by kernel_rfl) (fun _ _ _ h => h) (Or.inl ⟨by rfl, ?_⟩) hHeld ?_
        · (intro w0 hSw; (try dsimp only at hSw); go_simp)
        simp only [Act.put, List.setIfInBounds_toArray, List.set_cons_zero, List.set_cons_succ]
        refine take_dst (i := 3) (d := 35) (v := .slice xa b.length a) rfl rfl (by kernel_rfl) (by kernel_rfl) (by kernel_rfl) (fun _ _ _ h => h) (Or.inl ⟨by rfl, ?_⟩) hHeld ?_
        · (intro w0 hSw; (try dsimp only at hSw); go_simp)
        simp only [Act.put, List.setIfInBounds_toArray, List.set_cons_zero, List.set_cons_succ]
        refine take_dst (i := 4) (d := 36) (v := .int .i64 (a : Int)) rfl rfl (by kernel_rfl) (by kernel_rfl) (by kernel_rfl) (fun _ _ _ h => h) (Or.inl ⟨by rfl, ?_⟩) hHeld ?_
        · (intro w0 hSw; (try dsimp only at hSw); go_simp)
        simp only [Act.put, List.setIfInBounds_toArray, List.set_cons_zero, List.set_cons_succ]
        refine take_dst (i := 5) (d := 37) (v := .pointer (some ⟨S, 0, none⟩)) rfl rfl (by kernel_rfl) (by kernel_rfl) (by kernel_rfl) (fun _ _ _ h => h) (Or.inl ⟨by rfl, ?_⟩) hHeld ?_
        · (intro w0 hSw; (try dsimp only at hSw); go_simp)
        simp only [Act.put, List.setIfInBounds_toArray, List.set_cons_zero, List.set_cons_succ]
        refine take_dst (i := 6) (d := 38) (v := .pointer (some ⟨S, 0, none⟩)) rfl rfl (by kernel_rfl) (by kernel_rfl) (by kernel_rfl) (fun _ _ _ h => h) (Or.inl ⟨by rfl, ?_⟩) hHeld ?_
        · (intro w0 hSw; (try dsimp only at hSw); go_simp)
        simp only [Act.put, List.setIfInBounds_toArray, List.set_cons_zero, List.set_cons_succ]
        refine take_dst (i := 7) (d := 39) (v := .pointer (some ⟨S, 1, none⟩)) rfl rfl (by kernel_rfl) (by kernel_rfl) (by kernel_rfl) (fun _ _ _ h => h) (Or.inl ⟨by rfl, ?_⟩) hHeld ?_
        · (intro w0 hSw; (try dsimp only at hSw); go_simp)
        simp only [Act.put, List.setIfInBounds_toArray, List.set_cons_zero, List.set_cons_succ]
        refine take_dst (i := 8) (d := 40) (v := .int .i64 ((a : Int) + ((0 : Nat) : Int))) rfl rfl (by kernel_rfl) (by kernel_rfl) (by kernel_rfl) (fun _ _ _ h => h) (Or.inl ⟨by rfl, ?_⟩) hHeld ?_
        · (intro w0 hSw; (try dsimp only at hSw); go_simp)
        simp only [Act.put, List.setIfInBounds_toArray, List.set_cons_zero, List.set_cons_succ]
        refine take_dst (i := 9) (d := 41) (v := .slice xa 0 0) rfl rfl (by kernel_rfl) (by kernel_rfl) (by kernel_rfl) (fun _ _ _ h => h) (Or.inl ⟨by rfl, ?_⟩) hHeld ?_
        · (intro w0 hSw; (try dsimp only at hSw); go_simp)
        simp only [Act.put, List.setIfInBounds_toArray, List.set_cons_zero, List.set_cons_succ]
        refine wpAnyH_ready (rs := [10]) (by kernel_rfl) (by simp) (AllReadyH.cons rfl (fun KK hK => ?_) AllReadyH.nil)
        refine step_calls_on (by rfl) 42 rfl 24 [.tmp 41, .const (.slice none 0 0)] #[22, 22] rfl [.slice xa 0 0, .slice none 0 0] rfl (enters_of Try.func24 (by kernel_rfl) rfl) (fun v w' => (∃ ra rc, v = .slice ra 0 rc ∧ SliceAt w' ra rc ((b.drop a).take 0) ∧ (∀ sb so, ra = some ⟨sb, so, none⟩ → V5.heap.size ≤ sb ∧ sb < w'.heap.size)) ∧ Below V5.heap.size V5 w') (HJ.out V5 hV) ?_
        rintro v V6 ⟨⟨ra, rc, rfl, hS6, hf6⟩, hb6⟩
        have hB6 := hV.trans (hb6.mono hV.size)
        refine hK.out _ _ ⟨(hB6.cell (p := ⟨S, 0, none⟩) hSz).trans c0, (hB6.cell (p := ⟨S, 1, none⟩) hSz).trans c1⟩ (fun hHeld => ?_)
        simp only [Act.put, List.setIfInBounds_toArray, List.set_cons_zero, List.set_cons_succ]
        refine take_dst (i := 11) (d := 4) (v := .slice ra 0 rc) rfl rfl (by kernel_rfl) (by kernel_rfl) (by kernel_rfl) (fun _ _ _ h => h) (Or.inl ⟨by rfl, ?_⟩) hHeld ?_
        · (intro w0 hSw; (try dsimp only at hSw); go_simp)
        simp only [Act.put, List.setIfInBounds_toArray, List.set_cons_zero, List.set_cons_succ]
        refine wpAnyH_done (by kernel_rfl) ?_ _
        go_wp2_with fail
        go_ret
        refine ⟨ra, rc, (b.drop a).take 0, by rw [HXl.out]; rfl, hS6, fun sb so e => ?_, fun _ => HE.out.2.1.symm, fun h9 => ?_, ?_, hO1.trans (only_of_below hB6)⟩
        · have h1 := hf6 sb so e
          have h2 := hV.size
          have h3 := hO1.size
          exact ⟨by omega, h1.2⟩
        · rw [hOv.out] at h9; cases h9
        · exact ⟨xa, a, a + 0, (hB6.block _ hSz).trans q1', hb1.below hB6, hne, by omega, fun _ => ⟨HE.out.2.2, HE.out.1⟩, fun h9 => by rw [hOv.out] at h9; cases h9⟩
      · have habI : ¬ bc = a := by omega
        have habJ : (a : Int) < bc := by omega
        refine wp_region_held_drew (S := fun w' => w'.cell? ⟨S, 0, none⟩ = some (.slice (some ⟨sb, so, none⟩) b.length bc) ∧ w'.cell? ⟨S, 1, none⟩ = some (.int .i64 ((a : Int) + n))) (by kernel_rfl) ⟨d0, d1⟩ (fun hHeld => ?_)
        generalize W1.drew.drew = V5 at d0 d1 hV hHeld ⊢
        refine take_dst (i := 0) (d := 32) (v := .pointer (some ⟨S, 0, none⟩)) rfl rfl (by kernel_rfl) (by kernel_rfl) (by kernel_rfl) (fun _ _ _ h => h) (Or.inl ⟨by rfl, ?_⟩) hHeld ?_
        · (intro w0 hSw; (try dsimp only at hSw); go_simp)
        simp only [Act.put, List.setIfInBounds_toArray, List.set_cons_zero, List.set_cons_succ]
        refine take_dst (i := 1) (d := 33) (v := .pointer (some ⟨S, 0, none⟩)) rfl rfl (by kernel_rfl) (by kernel_rfl) (by kernel_rfl) (fun _ _ _ h => h) (Or.inl ⟨by rfl, ?_⟩) hHeld ?_
        · (intro w0 hSw; (try dsimp only at hSw); go_simp)
        simp only [Act.put, List.setIfInBounds_toArray, List.set_cons_zero, List.set_cons_succ]
        refine take_dst (i := 2) (d := 34) (v := .pointer (some ⟨S, 0, none⟩)) rfl rfl (by kernel_rfl) (by kernel_rfl) (by kernel_rfl) (fun _ _ _ h => h) (Or.inl ⟨by rfl, ?_⟩) hHeld ?_
        · (intro w0 hSw; (try dsimp only at hSw); go_simp)
        simp only [Act.put, List.setIfInBounds_toArray, List.set_cons_zero, List.set_cons_succ]
        refine take_dst (i := 3) (d := 35) (v := .slice (some ⟨sb, so, none⟩) b.length bc) rfl rfl (by kernel_rfl) (by kernel_rfl) (by kernel_rfl) (fun _ _ _ h => h) (Or.inl ⟨by rfl, ?_⟩) hHeld ?_
        · (intro w0 hSw; (try dsimp only at hSw); go_simp)
        simp only [Act.put, List.setIfInBounds_toArray, List.set_cons_zero, List.set_cons_succ]
        refine take_dst (i := 4) (d := 36) (v := .int .i64 (a : Int)) rfl rfl (by kernel_rfl) (by kernel_rfl) (by kernel_rfl) (fun _ _ _ h => h) (Or.inl ⟨by rfl, ?_⟩) hHeld ?_
        · (intro w0 hSw; (try dsimp only at hSw); go_simp)
        simp only [Act.put, List.setIfInBounds_toArray, List.set_cons_zero, List.set_cons_succ]
        refine take_dst (i := 5) (d := 37) (v := .pointer (some ⟨S, 0, none⟩)) rfl rfl (by kernel_rfl) (by kernel_rfl) (by kernel_rfl) (fun _ _ _ h => h) (Or.inl ⟨by rfl, ?_⟩) hHeld ?_
        · (intro w0 hSw; (try dsimp only at hSw); go_simp)
        simp only [Act.put, List.setIfInBounds_toArray, List.set_cons_zero, List.set_cons_succ]
        refine take_dst (i := 6) (d := 38) (v := .pointer (some ⟨S, 0, none⟩)) rfl rfl (by kernel_rfl) (by kernel_rfl) (by kernel_rfl) (fun _ _ _ h => h) (Or.inl ⟨by rfl, ?_⟩) hHeld ?_
        · (intro w0 hSw; (try dsimp only at hSw); go_simp)
        simp only [Act.put, List.setIfInBounds_toArray, List.set_cons_zero, List.set_cons_succ]
        refine take_dst (i := 7) (d := 39) (v := .pointer (some ⟨S, 1, none⟩)) rfl rfl (by kernel_rfl) (by kernel_rfl) (by kernel_rfl) (fun _ _ _ h => h) (Or.inl ⟨by rfl, ?_⟩) hHeld ?_
        · (intro w0 hSw; (try dsimp only at hSw); go_simp)
        simp only [Act.put, List.setIfInBounds_toArray, List.set_cons_zero, List.set_cons_succ]
        refine take_dst (i := 8) (d := 40) (v := .int .i64 ((a : Int) + n)) rfl rfl (by kernel_rfl) (by kernel_rfl) (by kernel_rfl) (fun _ _ _ h => h) (Or.inl ⟨by rfl, ?_⟩) hHeld ?_
        · (intro w0 hSw; (try dsimp only at hSw); go_simp)
        simp only [Act.put, List.setIfInBounds_toArray, List.set_cons_zero, List.set_cons_succ]
        refine take_dst (i := 9) (d := 41) (v := .slice (some ⟨sb, so + a, none⟩) n (bc - a)) rfl rfl (by kernel_rfl) (by kernel_rfl) (by kernel_rfl) (fun _ _ _ h => h) (Or.inl ⟨by rfl, ?_⟩) hHeld ?_
        · (intro w0 hSw; (try dsimp only at hSw); go_simp)
        simp only [Act.put, List.setIfInBounds_toArray, List.set_cons_zero, List.set_cons_succ]
        refine wpAnyH_ready (rs := [10]) (by kernel_rfl) (by simp) (AllReadyH.cons rfl (fun KK hK => ?_) AllReadyH.nil)
        refine step_calls_on (by rfl) 42 rfl 24 [.tmp 41, .const (.slice none 0 0)] #[22, 22] rfl [.slice (some ⟨sb, so + a, none⟩) n (bc - a), .slice none 0 0] rfl (enters_of Try.func24 (by kernel_rfl) rfl) (fun v w' => (∃ ra rc, v = .slice ra n rc ∧ SliceAt w' ra rc ((b.drop a).take n) ∧ (∀ sb so, ra = some ⟨sb, so, none⟩ → V5.heap.size ≤ sb ∧ sb < w'.heap.size)) ∧ Below V5.heap.size V5 w') (HJ.out V5 hV) ?_
        rintro v V6 ⟨⟨ra, rc, rfl, hS6, hf6⟩, hb6⟩
        have hB6 := hV.trans (hb6.mono hV.size)
        refine hK.out _ _ ⟨(hB6.cell (p := ⟨S, 0, none⟩) hSz).trans c0, (hB6.cell (p := ⟨S, 1, none⟩) hSz).trans c1⟩ (fun hHeld => ?_)
        simp only [Act.put, List.setIfInBounds_toArray, List.set_cons_zero, List.set_cons_succ]
        refine take_dst (i := 11) (d := 4) (v := .slice ra n rc) rfl rfl (by kernel_rfl) (by kernel_rfl) (by kernel_rfl) (fun _ _ _ h => h) (Or.inl ⟨by rfl, ?_⟩) hHeld ?_
        · (intro w0 hSw; (try dsimp only at hSw); go_simp)
        simp only [Act.put, List.setIfInBounds_toArray, List.set_cons_zero, List.set_cons_succ]
        refine wpAnyH_done (by kernel_rfl) ?_ _
        go_wp2_with fail
        go_ret
        refine ⟨ra, rc, (b.drop a).take n, by rw [HXl.out]; rfl, hS6, fun sb so e => ?_, fun _ => HE.out.2.1.symm, fun h9 => ?_, ?_, hO1.trans (only_of_below hB6)⟩
        · have h1 := hf6 sb so e
          have h2 := hV.size
          have h3 := hO1.size
          exact ⟨by omega, h1.2⟩
        · rw [hOv.out] at h9; cases h9
        · exact ⟨(some ⟨sb, so, none⟩), bc, a + n, (hB6.block _ hSz).trans q1', hb1.below hB6, hne, by omega, fun _ => ⟨HE.out.2.2, HE.out.1⟩, fun h9 => by rw [hOv.out] at h9; cases h9⟩

set_option maxRecDepth 100000 in
theorem U8s.zeros (n : Nat) : U8s (List.replicate n 0) := fun x hx => by rw [List.eq_of_mem_replicate hx]; omega
/-- What num gives. -/
structure NumSc (w w' : World) (e : Ending) (S : Nat) (b : List Int) (s : St) (N n : Nat) : Prop where
  out : ∃ v : Int, e = .returned (.int .i64 v) ∧ 0 ≤ v ∧ v ≤ 16777215 ∧ (n = 1 → v ≤ 255) ∧ ((nx n s).2 = false → v = nB n s) ∧ ScAt w' S b (nx n s) (N + n) ∧ Only S w w'
set_option maxRecDepth 100000 in
set_option maxHeartbeats 2000000 in
theorem num_sc (S n : Nat) (b : List Int) (s : St) (N : Nat) (w : World) (h : ScAt w S b s N) (hu : U8s b) (hn : n ≤ 3) (hN : N ≤ 1000000) :
    Calls Try.prog 33 #[.pointer (some ⟨S, 0, none⟩), .int .i64 (n : Int)] w fun e w' => NumSc w w' e S b s N n := by
  have hNx := next_sc S n b s N w h (by omega) hN
  have hts : s.2 = false → U8s s.1 := by
    intro h9
    obtain ⟨ba, bc, a, -, -, -, -, h5, -⟩ := h.out
    rw [(h5 h9).2]
    exact fun x hx => hu x (List.mem_of_mem_drop hx)
  clear h
  go_enter Try.func33, Try.ntmps33
  go_wp2_with fail
  refine hNx.mono ?_
  intro e w1 h1
  obtain ⟨ra, rc, t, he, hS1, -, hta, htb, hSc, hO⟩ := h1.out
  subst he
  dsimp only
  clear hNx h1
  have hut : U8s t ∧ t.length ≤ n ∧ ((nx n s).2 = false → numB t = nB n s) := by
    cases h9 : (nx n s).2 with
    | true =>
      rw [htb h9]
      exact ⟨U8s.zeros n, by simp, fun h => by cases h⟩
    | false =>
      have h10 : s.2 = false := by
        cases h11 : s.2 with
        | false => rfl
        | true => simp [nx, tkS, h11] at h9
      rw [hta h9]
      refine ⟨(hts h10).tkT, ?_, fun _ => rfl⟩
      show (tkT n s.1 s.2).length ≤ n
      unfold tkT
      split
      · simp
      · rw [List.length_take]; omega
  have HT : Hid _ := hut
  have htl : t.length ≤ 3 := by have := hut.2.1; omega
  clear hut hta htb hts
  go_wp2_with fail
  go_loopw [7, 6] (fun j v wr => ∃ (k : Nat), k ≤ t.length ∧ j = .int .i64 k ∧ v = .int .i64 (numB (t.take k)) ∧ wr = w1) (fun j _ _ => t.length - (intOf j).toNat)
  case atStart => exact ⟨0, Nat.zero_le _, rfl, rfl, rfl⟩
  case round =>
    obtain ⟨k, hk, rfl, rfl, rfl⟩ := hrel
    by_cases hlt : k < t.length
    · have hltI : (k : Int) < t.length := by omega
      obtain ⟨sb, so, rfl, hc⟩ : ∃ sb so, ra = some ⟨sb, so, none⟩ ∧ ∀ j, j < t.length → wr.cell? ⟨sb, so + j, none⟩ = some (.int .u8 (t.getD j 0)) := by
        rcases hS1.bytes with h | h
        · rw [h] at hlt; simp at hlt
        · exact h
      have ck := hc k hlt
      have hst : Hid (numB (t.take (k + 1)) = 256 * numB (t.take k) + t.getD k 0) := by
        show _ = _
        rw [List.take_succ_eq_append_getElem hlt, numB_snoc]
        simp [List.getD, hlt]
      have hx := HT.out.1 (t.getD k 0) (by simp [List.getD, hlt])
      obtain ⟨hb0, hb1⟩ := numB_bounds (t.take k) (fun x hx => HT.out.1 x (List.mem_of_mem_take hx)) (by rw [List.length_take]; omega)
      clear hc
      generalize t.getD k 0 = x at *
      generalize numB (t.take k) = y at *
      have hw1 : IntKind.i64.wrap (256 * y) = 256 * y := by rw [IntKind.wrap_i64]; omega
      have hw2 : IntKind.i64.wrap (256 * y + x) = 256 * y + x := by rw [IntKind.wrap_i64]; omega
      have hw3 : IntKind.i64.wrap x = x := by rw [IntKind.wrap_i64]; omega
      go_wp2_with fail
      go_roundw
      case rel =>
        exact ⟨k + 1, by omega, by go_num, by rw [hst.out], trivial⟩
      case measure => simp [intOf]; omega
    · obtain rfl : k = t.length := by omega
      have hltI : ¬ (t.length : Int) < t.length := by omega
      obtain ⟨hb0, hb1⟩ := numB_bounds t HT.out.1 htl
      have h1 : n = 1 → numB t ≤ 255 := by
        intro h9
        match t, HT.out with
        | [], _ => simp [numB]
        | [z], h10 => have := h10.1 z (by simp); simp [numB]; omega
        | _ :: _ :: _, h10 => have := h10.2.1; simp at this; omega
      have HH : Hid _ := h1
      rw [List.take_of_length_le (Nat.le_refl _)]
      clear h1
      go_wp2_with fail
      go_ret
      exact ⟨_, rfl, hb0, hb1, HH.out, HT.out.2.2, hSc, hO⟩
end Go.Proofs.Ytldlknmpkoebbaa

namespace Go.Proofs.Ytldlknmpkoebbaa
open Go.RowKit

set_option maxRecDepth 100000 in
theorem dgL_over (l : List Int) (sh : Bool) (k m : Nat) (h : (dgL l sh k).2 = true) (hm : k ≤ m) : (dgL l sh m).2 = true := by
  induction m with
  | zero =>
    obtain rfl : k = 0 := by omega
    exact h
  | succ m ih =>
    rcases Nat.lt_or_ge k (m + 1) with g | g
    · have := ih (by omega)
      show tkS 32 _ _ = true
      simp [tkS, this]
    · obtain rfl : k = m + 1 := by omega
      exact h
structure DigSc (w w' : World) (e : Ending) (S : Nat) (b : List Int) (s : St) (N : Nat) : Prop where
  out : ∃ ra rc qs, e = .returned (.slice ra (List.length qs) rc) ∧ ListAt w' ra rc qs ∧ Fresh w.heap.size ra qs ∧ qs.length ≤ 255 ∧ ((dgS s).2 = false → qs.map (·.bs) = dgs s) ∧ ScAt w' S b (dgS s) (N + b.length + 33) ∧ Only S w w'
set_option maxRecDepth 100000 in
set_option maxHeartbeats 4000000 in
theorem digList_sc (S : Nat) (b : List Int) (s : St) (N : Nat) (w : World) (h : ScAt w S b s N) (hu : U8s b) (hN : N ≤ 500000) (hl : b.length ≤ 100000) :
    Calls Try.prog 50 #[.pointer (some ⟨S, 0, none⟩)] w fun e w' => DigSc w w' e S b s N := by
  obtain ⟨i, hi, hz0, hz1, hz2⟩ := info_parts infoBs
  have hlt := h.lt
  have hNm := num_sc S 1 b s N w h hu (by omega) (by omega)
  clear h
  go_enter Try.func50, Try.ntmps50
  go_wp2_with fail
  refine hNm.mono ?_
  intro e w1 h1
  obtain ⟨v, he, hv0, -, hv1, hv2, hSc, ho1⟩ := h1.out
  subst he
  dsimp only
  clear hNm h1
  obtain ⟨V, rfl⟩ : ∃ V : Nat, v = V := ⟨v.toNat, by omega⟩
  have hV : V ≤ 255 := by have := hv1 rfl; omega
  have hVd : Hid ((nx 1 s).2 = false → V = dN s.1 s.2) := by
    show _ → _
    intro h9
    have h10 := hv2 h9
    have h11 : (V : Int) = numB (tkT 1 s.1 s.2) := h10
    rw [dN, ← h11]
    rfl
  have HD : Hid (dgS s = dgL (nx 1 s).1 (nx 1 s).2 (dN s.1 s.2) ∧ dgs s = dgD (nx 1 s).1 (nx 1 s).2 (dN s.1 s.2)) := ⟨rfl, rfl⟩
  clear hv0 hv1 hv2
  have hSc0 := hSc.mono (M := N + b.length + 33) (by omega)
  generalize hs1 : nx 1 s = s1 at *
  clear hs1 hSc
  obtain ⟨l1, sh1⟩ := s1
  dsimp only at *
  go_wp2_with fail
  go_loopw [5, 4] (fun j o wr => ∃ (k : Nat) (qs : List Part) (tv : Value), k ≤ V ∧ j = .int .i64 k ∧ tv = o ∧ Hid ((dgL l1 sh1 k).2 = false → qs.map (·.bs) = dgD l1 sh1 k) ∧ wr.ownsRow w.heap.size 22 1 tv k (pv qs) ∧ Apart wr w.heap.size tv qs ∧ ScAt wr S b (dgL l1 sh1 k) (N + b.length + 33) ∧ Only S w wr) (fun j _ _ => V - (intOf j).toNat)
  case atStart => exact ⟨0, [], _, Nat.zero_le _, rfl, rfl, (show _ → _ from fun _ => rfl), World.ownsRow_nil _ _ _ _, (fun p hp => by cases hp), hSc0, ho1⟩
  case round =>
    obtain ⟨k, qs, tv, hk, rfl, rfl, hq, ho, hap, hS, hok⟩ := hrel
    by_cases hltk : k < V
    · have hltI : (k : Int) < V := by omega
      go_wp2_with fail
      refine (over_sc S b _ _ wr hS).mono ?_
      rintro e w2 ⟨he, hb2⟩
      subst he
      dsimp only
      have hS2 := hS.below hb2
      have ho2 := owns_keep ho hb2
      have hok2 : Only S w w2 := hok.trans (only_of_below hb2)
      have hap2 : Apart w2 w.heap.size tv qs := apart_only hap (only_of_below (R := S) hb2) hlt
      cases hov : (dgL l1 sh1 k).2 with
      | true =>
        obtain ⟨ra, rc, hv, hlq, hL, hfr⟩ := listAt_of_owns ho2 hap2
        subst hv
        have HF : Hid ((dgS s).2 = true ∧ ScAt w2 S b (dgS s) (N + b.length + 33)) := by
          show _ ∧ _
          have h9 : (dgS s).2 = true := by
            rw [HD.out.1]
            cases hsh : sh1 with
            | true =>
              exact dgL_over l1 true 0 _ rfl (Nat.zero_le _)
            | false =>
              have := hVd.out hsh
              rw [hsh] at hov
              exact dgL_over l1 false k _ hov (by omega)
          exact ⟨h9, hS2.beyond hov h9⟩
        have HL : Hid (k = qs.length) := hlq
        have HLA := hL (by omega)
        clear hlq hL hov hVd HD hq
        go_wp2_with fail
        go_ret
        exact ⟨ra, rc, qs, by rw [← HL.out]; rfl, HLA, hfr, by have := HL.out; omega, (fun h9 => by rw [HF.out.1] at h9; cases h9), HF.out.2, hok2⟩
      | false =>
        have hNx := next_sc S 32 b _ _ w2 (hS2.within hov) (by omega) (by omega)
        have hst : Hid (dgD l1 sh1 (k + 1) = dgD l1 sh1 k ++ [tT 32 (dgL l1 sh1 k)] ∧ dgL l1 sh1 (k + 1) = nx 32 (dgL l1 sh1 k)) := ⟨rfl, rfl⟩
        have Hov : Hid _ := hov
        clear hov
        go_wp2_with fail
        refine hNx.mono ?_
        intro e w3 h3
        obtain ⟨da, dc, t, he, hs3, hf3, hta, htb, hS3, ho3⟩ := h3.out
        subst he
        dsimp only
        clear hNx h3
        have Hta : Hid _ := hta
        have hB3 := hok2.trans ho3
        have hob := owns_only ho2 ho3 hlt
        have hap3 := apart_only hap2 ho3 hlt
        have hszw := hok2.size
        have hszr := hB3.size
        have htl : t.length ≤ 1000 := by
          cases h9 : (nx 32 (dgL l1 sh1 k)).2 with
          | true => rw [htb h9]; simp
          | false => rw [hta h9]; exact Nat.le_trans tkT_len (by omega)
        clear hta htb
        go_wp2_with (at_builtin; refine wpList_append_own_at _ rfl _ _ 44 rfl w.heap.size 22 i (.slice none 0 0) 1 24 Try.underlying44 hi hz0 hz1 hz2 rfl (by decide) _ k _ rfl (World.ownsRow.alloc hob _) ⟨w3.heap.size, 0, none⟩ 1 1 [.slice da t.length dc] rfl rfl (cells_new _ _ _) (by intro u hu; simp at hu; subst hu; rfl) (by unfold maxLen; omega) (by omega) (le_alloc hB3.size _) ?_; intro v4 w4 ho4 hg4 _ hat4)
        have G := Grew.of hg4 hat4
        have hap4 := apart_snoc (q := ⟨da, dc, t⟩) hap3 hs3 (fun sb so e => by
          have h := hf3 sb so e
          exact ⟨by omega, h.2, fun hv => by have := (ho2.lt sb hv).2; omega⟩) G
        have hb4 : Below w3.heap.size w3 (w3.alloc (.cells #[.slice da t.length dc] 22)) := (Below.refl _ _).alloc (Nat.le_refl _) _
        have ho4w : Only S w w4 := by
          have hg := G.grown
          refine ⟨hg.os.trans hB3.os, hg.tape.trans hB3.tape, hg.output.trans hB3.output, Nat.le_trans hB3.size (Nat.le_trans hb4.size hg.size), fun q hq hn => ?_⟩
          exact (hg.block q (by have := hb4.size; omega) (fun e => by have := (ho.lt q e.symm).1; omega)).trans ((hb4.block q (by omega)).trans (hB3.block q hq hn))
        have hS4 : ScAt w4 S b (dgL l1 sh1 (k + 1)) (N + b.length + 33) := by
          rw [hst.out.2]
          exact ((hS3.below hb4).stays (fun q hq => G.grown.block q (by have := hb4.size; have := hS3.lt; omega) (fun e => by have := (ho.lt q e.symm).1; omega))).mono (by omega)
        have hq4 : Hid ((dgL l1 sh1 (k + 1)).2 = false → (qs ++ [(⟨da, dc, t⟩ : Part)]).map (·.bs) = dgD l1 sh1 (k + 1)) := by
          show _ → _
          intro h9
          rw [hst.out.2] at h9
          rw [hst.out.1, List.map_append, hq.out Hov.out, ← Hta.out h9]
          rfl
        go_wp2_with fail
        go_roundw
        case rel =>
          have hR : ∃ (k' : Nat) (qs' : List Part) (tv' : Value), k' ≤ V ∧ (Value.int .i64 ((k : Int) + 1)) = .int .i64 k' ∧ tv' = v4 ∧ Hid ((dgL l1 sh1 k').2 = false → qs'.map (·.bs) = dgD l1 sh1 k') ∧ w4.ownsRow w.heap.size 22 1 tv' k' (pv qs') ∧ Apart w4 w.heap.size tv' qs' ∧ ScAt w4 S b (dgL l1 sh1 k') (N + b.length + 33) ∧ Only S w w4 :=
            ⟨k + 1, qs ++ [⟨da, dc, t⟩], v4, by omega, by go_num, rfl, hq4, by simpa [pv, Part.val] using ho4, hap4, hS4, ho4w⟩
          first | exact hR | ((repeat apply Exists.intro); exact ⟨hR, rfl⟩)
        case measure => simp [intOf]; omega
    · obtain rfl : k = V := by omega
      have hltI : ¬ (k : Int) < k := by omega
      obtain ⟨ra, rc, hv, hlq, hL, hfr⟩ := listAt_of_owns ho hap
      subst hv
      have HF : Hid (((dgS s).2 = false → qs.map (·.bs) = dgs s) ∧ ScAt wr S b (dgS s) (N + b.length + 33)) := by
        show _ ∧ _
        cases hsh : sh1 with
        | true =>
          have h8 : (dgS s).2 = true := by rw [HD.out.1, hsh]; exact dgL_over l1 true 0 _ rfl (Nat.zero_le _)
          have h9 : (dgL l1 sh1 k).2 = true := by rw [hsh]; exact dgL_over l1 true 0 _ rfl (Nat.zero_le _)
          exact ⟨(fun h => by rw [h8] at h; cases h), hS.beyond h9 h8⟩
        | false =>
          have h8 := hVd.out hsh
          rw [HD.out.1, HD.out.2, ← h8]
          exact ⟨hq.out, hS⟩
      have HL : Hid (k = qs.length) := hlq
      have HLA := hL (by omega)
      clear hlq hL hVd HD hq
      go_wp2_with fail
      go_ret
      exact ⟨ra, rc, qs, by rw [← HL.out]; rfl, HLA, hfr, by have := HL.out; omega, HF.out.1, HF.out.2, hok⟩
end Go.Proofs.Ytldlknmpkoebbaa

namespace Go.Proofs.Ytldlknmpkoebbaa
open Go.RowKit

set_option maxRecDepth 100000 in
theorem nx_over {n : Nat} {s : St} (h : (nx n s).2 = false) : s.2 = false := by
  cases h9 : s.2 with
  | false => rfl
  | true => simp [nx, tkS, h9] at h
set_option maxRecDepth 100000 in
theorem dgS_over {s : St} (h : (dgS s).2 = false) : s.2 = false := by
  cases h9 : (nx 1 s).2 with
  | false => exact nx_over h9
  | true =>
    have : (dgS s).2 = true := dgL_over (nx 1 s).1 (nx 1 s).2 0 _ h9 (Nat.zero_le _)
    rw [this] at h
    cases h
set_option maxRecDepth 100000 in
theorem only_far9 {S b j : Nat} {w W : World} {v : Value} (h : Only S w W) (hb : w.heap.size ≤ b) : Only S w (W.setCell ⟨b, j, none⟩ v) :=
  ⟨h.os, h.tape, h.output, by simpa using h.size, fun k hk hn => (heap_setCell_other W ⟨b, j, none⟩ k v (by show k ≠ b; omega)).trans (h.block k hk hn)⟩
set_option maxRecDepth 100000 in
theorem only_row (W : World) (b : Nat) (cs : Array Value) : Only b W (W.setRow b cs) := ⟨rfl, rfl, rfl, by simp [World.setRow], fun k _ hk => setRow_other W b k cs hk⟩
set_option maxRecDepth 100000 in
theorem Fresh.down {B C : Nat} {ra : Option Addr} {qs : List Part} (h : Fresh B ra qs) (hc : C ≤ B) : Fresh C ra qs := ⟨fun sb so e => Nat.le_trans hc (h.row sb so e), fun p hp sb so e => Nat.le_trans hc (h.each p hp sb so e)⟩
set_option maxRecDepth 100000 in
theorem results_cell1 {fn : Func} {p : Tmp} {ty : TypeId} (h : fn.results = #[.cell p ty]) (tmps : Array Value) (w : World) (g : Nat) (t : TypeId) (cs : Array Value) (fr : Nat × Nat) (d : TypeDesc)
    (hp : tmps.getD p undef = .pointer (some ⟨g, 0, none⟩)) (hg : w.heap[g]? = some (.cells cs t fr))
    (hu : Try.prog.underlying ty = some d) (hd : (match d with | .struct _ | .array _ _ => true | _ => false) = true) (hi : (Try.prog.info? ty).map (·.size) = some cs.size) :
    (results fn tmps).run Try.prog w = .ok (.agg cs) w := by
  have hp' : tmps[p]?.getD undef = .pointer (some ⟨g, 0, none⟩) := by simpa using hp
  simp [results, h, hp', asAddr, run_loadVar_row w g t ty cs fr d hg hu (by cases d <;> first | exact hd | rfl) hi]
structure HeadSc (w w' : World) (e : Ending) (S : Nat) (b : List Int) (s : St) (N : Nat) : Prop where
  out : ∃ (au rd : Int) (ba : Option Addr) (bc : Nat) (bl : List Part) (pa : Option Addr) (pc : Nat) (pl : List Part), e = .returned (.agg #[.int .i64 au, .int .i64 rd, .slice ba (List.length bl) bc, .slice pa (List.length pl) pc]) ∧ ((dgS (dgS (nx 3 (nx 1 s)))).2 = false → au = nB 1 s ∧ rd = nB 3 (nx 1 s) ∧ bl.map (·.bs) = dgs (nx 3 (nx 1 s)) ∧ pl.map (·.bs) = dgs (dgS (nx 3 (nx 1 s)))) ∧ ListAt w' ba bc bl ∧ ListAt w' pa pc pl ∧ Fresh w.heap.size ba bl ∧ Fresh w.heap.size pa pl ∧ ScAt w' S b (dgS (dgS (nx 3 (nx 1 s)))) (N + 70 + 2 * b.length) ∧ Only S w w'
set_option maxRecDepth 100000 in
set_option maxHeartbeats 4000000 in
theorem header_sc (S : Nat) (b : List Int) (s : St) (N : Nat) (w : World) (h : ScAt w S b s N) (hu : U8s b) (hN : N ≤ 100000) (hl : b.length ≤ 100000) :
    Calls Try.prog 36 #[.pointer (some ⟨S, 0, none⟩)] w fun e w' => HeadSc w w' e S b s N := by
  have hlt := h.lt
  have hA : Below w.heap.size w ((w.alloc (.cells #[.int .i64 0, .int .i64 0, .slice none 0 0, .slice none 0 0] 46)).alloc (.cells #[.int .i64 0, .int .i64 0, .slice none 0 0, .slice none 0 0] 46)) := ((Below.refl _ _).alloc (Nat.le_refl _) _).alloc (by simp) _
  have qR0 := heap_alloc2_old w (.cells #[.int .i64 0, .int .i64 0, .slice none 0 0, .slice none 0 0] 46) (.cells #[.int .i64 0, .int .i64 0, .slice none 0 0, .slice none 0 0] 46)
  have qH0 := heap_alloc2_new w (.cells #[.int .i64 0, .int .i64 0, .slice none 0 0, .slice none 0 0] 46) (.cells #[.int .i64 0, .int .i64 0, .slice none 0 0, .slice none 0 0] 46)
  have hSc0 := h.below hA
  have hO0 : Only S w _ := only_of_below (R := S) hA
  clear h
  go_enter Try.func36, Try.ntmps36
  go_upto_region 2 with fail
  generalize (w.alloc (.cells #[.int .i64 0, .int .i64 0, .slice none 0 0, .slice none 0 0] 46)).alloc (.cells #[.int .i64 0, .int .i64 0, .slice none 0 0, .slice none 0 0] 46) = W0 at hA qR0 qH0 hSc0 hO0 ⊢
  clear hA
  go_wp2_with fail
  refine (num_sc S 1 b s _ W0 hSc0 hu (by omega) (by omega)).mono ?_
  intro e w1 h1
  obtain ⟨au, he, g00, g01, -, g0, hSc, ho1⟩ := h1.out
  subst he
  dsimp only
  clear h1
  have lW0 := lt_of_heap qH0
  have hs0 := hO0.size
  have ht0 := ho1.size
  have rR0 := (ho1.block _ (lt_of_heap qR0) (by omega)).trans qR0
  have rH0 := (ho1.block _ (lt_of_heap qH0) (by omega)).trans qH0
  have d0 := cells_at rH0 0 _ rfl
  have f0 := frozen_at rH0 0
  have d1 := cells_at rH0 1 _ rfl
  have f1 := frozen_at rH0 1
  have d2 := cells_at rH0 2 _ rfl
  have f2 := frozen_at rH0 2
  have d3 := cells_at rH0 3 _ rfl
  have f3 := frozen_at rH0 3
  have qH1 : (w1.setCell ⟨w.heap.size + 1, 0, none⟩ (.int .i64 au)).heap[w.heap.size + 1]? = some (.cells #[.int .i64 au, .int .i64 0, .slice none 0 0, .slice none 0 0] 46 (0, 0)) := by simpa using heap_setCell_same _ _ 0 _ _ (.int .i64 au) rH0
  have qR1 := heap_far (j := 0) (v := .int .i64 au) rR0 (show w.heap.size ≠ w.heap.size + 1 by omega)
  have hSc1 : ScAt (w1.setCell ⟨w.heap.size + 1, 0, none⟩ (.int .i64 au)) S b (nx 1 s) (N + 1) := (hSc.stays (fun q hq => heap_setCell_other _ ⟨w.heap.size + 1, 0, none⟩ q _ (by show q ≠ w.heap.size + 1; omega))).mono (by omega)
  have hO1 : Only S w (w1.setCell ⟨w.heap.size + 1, 0, none⟩ (.int .i64 au)) := only_far9 (hO0.trans ho1) (by omega)
  go_upto_region 3 with fail
  generalize w1.setCell ⟨w.heap.size + 1, 0, none⟩ (.int .i64 au) = W1 at qH1 qR1 hSc1 hO1 ⊢
  clear hSc d0 d1 d2 d3 f0 f1 f2 f3 rR0 rH0 qR0 qH0 hSc0
  go_wp2_with fail
  refine (num_sc S 3 b (nx 1 s) _ W1 hSc1 hu (by omega) (by omega)).mono ?_
  intro e w2 h2
  obtain ⟨rd, he, g10, g11, -, g1, hSc, ho2⟩ := h2.out
  subst he
  dsimp only
  clear h2
  have lW1 := lt_of_heap qH1
  have hs1 := hO1.size
  have ht1 := ho2.size
  have rR1 := (ho2.block _ (lt_of_heap qR1) (by omega)).trans qR1
  have rH1 := (ho2.block _ (lt_of_heap qH1) (by omega)).trans qH1
  have d0 := cells_at rH1 0 _ rfl
  have f0 := frozen_at rH1 0
  have d1 := cells_at rH1 1 _ rfl
  have f1 := frozen_at rH1 1
  have d2 := cells_at rH1 2 _ rfl
  have f2 := frozen_at rH1 2
  have d3 := cells_at rH1 3 _ rfl
  have f3 := frozen_at rH1 3
  have qH2 : (w2.setCell ⟨w.heap.size + 1, 1, none⟩ (.int .i64 rd)).heap[w.heap.size + 1]? = some (.cells #[.int .i64 au, .int .i64 rd, .slice none 0 0, .slice none 0 0] 46 (0, 0)) := by simpa using heap_setCell_same _ _ 1 _ _ (.int .i64 rd) rH1
  have qR2 := heap_far (j := 1) (v := .int .i64 rd) rR1 (show w.heap.size ≠ w.heap.size + 1 by omega)
  have hSc2 : ScAt (w2.setCell ⟨w.heap.size + 1, 1, none⟩ (.int .i64 rd)) S b (nx 3 (nx 1 s)) (N + 4) := (hSc.stays (fun q hq => heap_setCell_other _ ⟨w.heap.size + 1, 1, none⟩ q _ (by show q ≠ w.heap.size + 1; omega))).mono (by omega)
  have hO2 : Only S w (w2.setCell ⟨w.heap.size + 1, 1, none⟩ (.int .i64 rd)) := only_far9 (hO1.trans ho2) (by omega)
  go_upto_region 4 with fail
  generalize w2.setCell ⟨w.heap.size + 1, 1, none⟩ (.int .i64 rd) = W2 at qH2 qR2 hSc2 hO2 ⊢
  clear hSc d0 d1 d2 d3 f0 f1 f2 f3 rR1 rH1 qR1 qH1 hSc1
  go_wp2_with fail
  refine (digList_sc S b (nx 3 (nx 1 s)) _ W2 hSc2 hu (by omega) hl).mono ?_
  intro e w3 h3
  obtain ⟨ba, bc, bl, he, hL2, hF2, hn2, g2, hSc, ho3⟩ := h3.out
  subst he
  dsimp only
  clear h3
  have lW2 := lt_of_heap qH2
  have hs2 := hO2.size
  have ht2 := ho3.size
  have rR2 := (ho3.block _ (lt_of_heap qR2) (by omega)).trans qR2
  have rH2 := (ho3.block _ (lt_of_heap qH2) (by omega)).trans qH2
  have d0 := cells_at rH2 0 _ rfl
  have f0 := frozen_at rH2 0
  have d1 := cells_at rH2 1 _ rfl
  have f1 := frozen_at rH2 1
  have d2 := cells_at rH2 2 _ rfl
  have f2 := frozen_at rH2 2
  have d3 := cells_at rH2 3 _ rfl
  have f3 := frozen_at rH2 3
  have qH3 : (w3.setCell ⟨w.heap.size + 1, 2, none⟩ (.slice ba bl.length bc)).heap[w.heap.size + 1]? = some (.cells #[.int .i64 au, .int .i64 rd, .slice ba bl.length bc, .slice none 0 0] 46 (0, 0)) := by simpa using heap_setCell_same _ _ 2 _ _ (.slice ba bl.length bc) rH2
  have qR3 := heap_far (j := 2) (v := .slice ba bl.length bc) rR2 (show w.heap.size ≠ w.heap.size + 1 by omega)
  have hSc3 : ScAt (w3.setCell ⟨w.heap.size + 1, 2, none⟩ (.slice ba bl.length bc)) S b (dgS (nx 3 (nx 1 s))) (N + 37 + b.length) := (hSc.stays (fun q hq => heap_setCell_other _ ⟨w.heap.size + 1, 2, none⟩ q _ (by show q ≠ w.heap.size + 1; omega))).mono (by omega)
  have hO3 : Only S w (w3.setCell ⟨w.heap.size + 1, 2, none⟩ (.slice ba bl.length bc)) := only_far9 (hO2.trans ho3) (by omega)
  have hLL2 := hL2.setCell hF2 (w.heap.size + 1) 2 (.slice ba bl.length bc) (by omega)
  go_upto_region 5 with fail
  generalize w3.setCell ⟨w.heap.size + 1, 2, none⟩ (.slice ba bl.length bc) = W3 at qH3 qR3 hSc3 hO3 hLL2 ⊢
  clear hSc d0 d1 d2 d3 f0 f1 f2 f3 rR2 rH2 qR2 qH2 hSc2
  go_wp2_with fail
  refine (digList_sc S b (dgS (nx 3 (nx 1 s))) _ W3 hSc3 hu (by omega) hl).mono ?_
  intro e w4 h4
  obtain ⟨pa, pc, pl, he, hL3, hF3, hn3, g3, hSc, ho4⟩ := h4.out
  subst he
  dsimp only
  clear h4
  have lW3 := lt_of_heap qH3
  have hs3 := hO3.size
  have ht3 := ho4.size
  have rR3 := (ho4.block _ (lt_of_heap qR3) (by omega)).trans qR3
  have rH3 := (ho4.block _ (lt_of_heap qH3) (by omega)).trans qH3
  have d0 := cells_at rH3 0 _ rfl
  have f0 := frozen_at rH3 0
  have d1 := cells_at rH3 1 _ rfl
  have f1 := frozen_at rH3 1
  have d2 := cells_at rH3 2 _ rfl
  have f2 := frozen_at rH3 2
  have d3 := cells_at rH3 3 _ rfl
  have f3 := frozen_at rH3 3
  have qH4 : (w4.setCell ⟨w.heap.size + 1, 3, none⟩ (.slice pa pl.length pc)).heap[w.heap.size + 1]? = some (.cells #[.int .i64 au, .int .i64 rd, .slice ba bl.length bc, .slice pa pl.length pc] 46 (0, 0)) := by simpa using heap_setCell_same _ _ 3 _ _ (.slice pa pl.length pc) rH3
  have qR4 := heap_far (j := 3) (v := .slice pa pl.length pc) rR3 (show w.heap.size ≠ w.heap.size + 1 by omega)
  have hSc4 : ScAt (w4.setCell ⟨w.heap.size + 1, 3, none⟩ (.slice pa pl.length pc)) S b (dgS (dgS (nx 3 (nx 1 s)))) (N + 70 + 2 * b.length) := (hSc.stays (fun q hq => heap_setCell_other _ ⟨w.heap.size + 1, 3, none⟩ q _ (by show q ≠ w.heap.size + 1; omega))).mono (by omega)
  have hO4 : Only S w (w4.setCell ⟨w.heap.size + 1, 3, none⟩ (.slice pa pl.length pc)) := only_far9 (hO3.trans ho4) (by omega)
  have hLL2' := (list_only hLL2 hF2 ho4 (by omega)).setCell hF2 (w.heap.size + 1) 3 (.slice pa pl.length pc) (by omega)
  have hLL3 := hL3.setCell hF3 (w.heap.size + 1) 3 (.slice pa pl.length pc) (by omega)
  have LB := hLL2'
  have LP := hLL3
  go_upto_region 6 with fail
  generalize w4.setCell ⟨w.heap.size + 1, 3, none⟩ (.slice pa pl.length pc) = W4 at *
  have hX : Hid (HeadSc w (W4.setRow w.heap.size #[.int .i64 au, .int .i64 rd, .slice ba bl.length bc, .slice pa pl.length pc]) (.returned (.agg #[.int .i64 au, .int .i64 rd, .slice ba bl.length bc, .slice pa pl.length pc])) S b s N) := by
    have hoR : Only w.heap.size W4 (W4.setRow w.heap.size #[.int .i64 au, .int .i64 rd, .slice ba bl.length bc, .slice pa pl.length pc]) := only_row _ _ _
    refine ⟨au, rd, ba, bc, bl, pa, pc, pl, rfl, fun hf => ?_, list_only LB hF2 hoR (by omega), list_only LP hF3 hoR (by omega), hF2.down (by omega), hF3.down (by omega), (hSc4.stays (fun q hq => setRow_other _ _ _ _ (by omega))).mono (by omega), ?_⟩
    · have h3 := dgS_over hf
      have h2 := dgS_over h3
      have h1 := nx_over h2
      exact ⟨g0 h1, g1 h2, g2 h3, g3 hf⟩
    · exact ⟨hO4.os, hO4.tape, hO4.output, by simpa using hO4.size, fun k hk hn => (setRow_other _ _ _ _ (by omega)).trans (hO4.block k hk hn)⟩
  clear g0 g1 g2 g3 hSc4 hO4
  go_wp2_with (first
    | (refine wpList_load_row_w rfl _ _ rfl (w.heap.size + 1) rfl 46 _ (0, 0) _ qH4 Try.underlying46 rfl rfl ?_)
    | (refine wpList_store_row rfl 46 _ _ rfl w.heap.size #[.int .i64 au, .int .i64 rd, .slice ba bl.length bc, .slice pa pl.length pc] rfl rfl 46 _ qR4 rfl rfl (by simp [Value.oneCell']) ?_))
  exact bodyPost_ret (v := .agg #[.int .i64 au, .int .i64 rd, .slice ba bl.length bc, .slice pa pl.length pc]) (results_cell1 (fn := Try.f36) (p := 2) (ty := 46) rfl _ _ w.heap.size 46 _ (0, 0) _ rfl (setRow_heap _ _ _ _ _ _ qR4) Try.underlying46 rfl rfl) rfl hX.out
end Go.Proofs.Ytldlknmpkoebbaa

namespace Go.Proofs.Ytldlknmpkoebbaa
open Go.RowKit

/-- The result's box, the scan's, the message's. -/
structure MoB (W w : World) (R S M : Nat) (b : List Int) (s : St) (N : Nat) (cs : Array Value) : Prop where
  box : W.heap[M]? = some (.cells cs 53 (0, 0))
  res : W.heap[R]? = some (.cells #[.int .i64 0, .int .i64 0, .int .i64 0, .int .i64 0, .int .i64 0, .slice none 0 0, .int .i64 0, .int .i64 0, .slice none 0 0, .slice none 0 0, .int .i64 0, .int .i64 0, .slice none 0 0, .int .i64 0, .int .i64 0, .slice none 0 0, .slice none 0 0, .slice none 0 0, .int .i64 0] 53 (0, 0))
  sc : ScAt W S b s N
  below : Below w.heap.size w W
  l0 : w.heap.size ≤ R
  l1 : R < S
  l2 : S < M
set_option maxRecDepth 100000 in
theorem MoB.call {W W' w : World} {R S M : Nat} {b : List Int} {s s' : St} {N N' : Nat} {cs : Array Value} (h : MoB W w R S M b s N cs) (ho : Only S W W') (hsc : ScAt W' S b s' N') : MoB W' w R S M b s' N' cs := by
  have h1 := h.l1
  have h2 := h.l2
  have h0 := h.l0
  have hs := h.below.size
  exact ⟨(ho.block _ (lt_of_heap h.box) (by omega)).trans h.box, (ho.block _ (lt_of_heap h.res) (by omega)).trans h.res, hsc, h.below.trans (ho.below (by omega) hs), h.l0, h.l1, h.l2⟩
set_option maxRecDepth 100000 in
theorem MoB.cell {W w : World} {R S M : Nat} {b : List Int} {s : St} {N : Nat} {cs : Array Value} (h : MoB W w R S M b s N cs) (j : Nat) (v : Value) (cs' : Array Value) (hc : cs.setIfInBounds j v = cs') : MoB (W.setCell ⟨M, j, none⟩ v) w R S M b s N cs' := by
  have h1 := h.l1
  have h2 := h.l2
  have h0 := h.l0
  refine ⟨?_, heap_far h.res (by omega), h.sc.stays (fun q hq => heap_setCell_other _ ⟨M, j, none⟩ q _ (by show q ≠ M; omega)), ?_, h.l0, h.l1, h.l2⟩
  · rw [← hc]
    exact heap_setCell_same _ _ j _ _ v h.box
  · exact ⟨h.below.os, h.below.tape, h.below.output, by simpa using h.below.size, fun k hk => (heap_setCell_other _ ⟨M, j, none⟩ k _ (by show k ≠ M; omega)).trans (h.below.block k hk)⟩
set_option maxRecDepth 100000 in
/-- New memory, and a row of one's own that lies behind all of these. -/
theorem MoB.grown {W W' w : World} {R S M : Nat} {b : List Int} {s : St} {N : Nat} {cs : Array Value} {g : Option Nat} (h : MoB W w R S M b s N cs) (hg : W.grownBy W' g) (hn : ∀ q, g = some q → M < q) : MoB W' w R S M b s N cs := by
  have h1 := h.l1
  have h2 := h.l2
  have h0 := h.l0
  have hM := lt_of_heap h.box
  have key : ∀ q, q ≤ M → W'.heap[q]? = W.heap[q]? := fun q hq => hg.block q (by omega) (fun e => by have := hn q e.symm; omega)
  exact ⟨(key M (by omega)).trans h.box, (key R (by omega)).trans h.res, h.sc.stays (fun q hq => key q (by omega)), ⟨hg.os.trans h.below.os, hg.tape.trans h.below.tape, hg.output.trans h.below.output, Nat.le_trans h.below.size hg.size, fun k hk => (key k (by omega)).trans (h.below.block k hk)⟩, h.l0, h.l1, h.l2⟩
set_option maxRecDepth 100000 in
theorem MoB.belowW {W W' w : World} {R S M : Nat} {b : List Int} {s : St} {N : Nat} {cs : Array Value} (h : MoB W w R S M b s N cs) (hb : Below W.heap.size W W') : MoB W' w R S M b s N cs :=
  ⟨(hb.block _ (lt_of_heap h.box)).trans h.box, (hb.block _ (lt_of_heap h.res)).trans h.res, h.sc.below hb, h.below.trans (hb.mono h.below.size), h.l0, h.l1, h.l2⟩
set_option maxRecDepth 100000 in
theorem strs_nil (w : World) : StrsAt w none [] := ⟨.inl rfl, fun s hs => by cases hs⟩
set_option maxRecDepth 100000 in
theorem ints_nil (w : World) : IntsAt w none [] := ⟨.inl rfl⟩
set_option maxRecDepth 100000 in
theorem MoB.st {W w : World} {R S M : Nat} {b : List Int} {s : St} {N N' : Nat} {cs : Array Value} (h : MoB W w R S M b s N cs) (hN : N ≤ N') : MoB W w R S M b s N' cs := ⟨h.box, h.res, h.sc.mono hN, h.below, h.l0, h.l1, h.l2⟩
set_option maxRecDepth 100000 in
theorem has_fresh {B M : Nat} {ra : Option Addr} {qs : List Part} (h : Fresh B ra qs) (hB : M < B) : HasL (fun q => M < q) ra qs := ⟨fun sb so e _ => by have := h.row sb so e; omega, fun p hp sb so e _ => by have := h.each p hp sb so e; omega⟩
set_option maxRecDepth 100000 in
theorem has_nil {M : Nat} : HasL (fun q => M < q) none [] := ⟨fun sb so e => (by cases e), fun p hp => (by cases hp)⟩
set_option maxRecDepth 100000 in
theorem MoB.beyond {W w : World} {R S M : Nat} {b : List Int} {s t : St} {N : Nat} {cs : Array Value} (h : MoB W w R S M b s N cs) (h1 : s.2 = true) (h2 : t.2 = true) : MoB W w R S M b t N cs := ⟨h.box, h.res, h.sc.beyond h1 h2, h.below, h.l0, h.l1, h.l2⟩
set_option maxRecDepth 100000 in
theorem MoB.within {W w : World} {R S M : Nat} {b : List Int} {s : St} {N : Nat} {cs : Array Value} (h : MoB W w R S M b s N cs) (h1 : s.2 = false) : MoB W w R S M b s b.length cs := ⟨h.box, h.res, h.sc.within h1, h.below, h.l0, h.l1, h.l2⟩
set_option maxRecDepth 100000 in
theorem list_call {S M : Nat} {W W' : World} {ra : Option Addr} {rc : Nat} {qs : List Part} (h : ListAt W ra rc qs) (hG : HasL (fun q => M < q) ra qs) (ho : Only S W W') (hS : S < M) : ListAt W' ra rc qs :=
  list_stays (G := fun q => M < q ∧ q < W.heap.size) (fun k hk => ho.block k hk.2 (by omega)) h (hG.lt h)
set_option maxRecDepth 100000 in
theorem list_keep5 {B M : Nat} {W W' : World} {ra : Option Addr} {rc : Nat} {qs : List Part} (h : ListAt W ra rc qs) (hG : HasL (fun q => M < q ∧ q < B) ra qs) (hk : ∀ q, M < q → q < B → W'.heap[q]? = W.heap[q]?) : ListAt W' ra rc qs :=
  list_stays (G := fun q => M < q ∧ q < B) (fun q hq => hk q hq.1 hq.2) h hG
/-- What the switch has made: a message, if it is not beyond the end. -/
structure MoX (W w : World) (R S M : Nat) (b : List Int) (N : Nat) : Prop where
  out : ∃ x : MV, MoB W w R S M b (mS (b, false)) N #[.int .i64 x.m.fr, .int .i64 x.m.tt, .int .i64 x.m.ki, .int .i64 x.m.bau, .int .i64 x.m.bnu, .slice x.m.bta x.m.btn x.m.btc, .int .i64 x.m.hau, .int .i64 x.m.hrd, .slice x.m.hba x.m.hbn x.m.hbc, .slice x.m.hpa x.m.hpn x.m.hpc, .int .i64 x.m.sau, .int .i64 x.m.srd, .slice x.m.sda x.m.sdn x.m.sdc, .int .i64 x.m.cau, .int .i64 x.m.crd, .slice x.m.cba x.m.cbn x.m.cbc, .slice x.m.cpa x.m.cpn x.m.cpc, .slice x.m.cva x.m.cvn x.m.cvc, .int .i64 x.m.ro] ∧ MAt W x ∧ HasM (fun q => M < q) x ∧ ((mS (b, false)).2 = false → x.c = pM (b, false))
set_option maxRecDepth 100000 in
/-- How the loops go: beyond stays beyond. -/
theorem bL_over {s : St} {i n : Nat} (h : i ≤ n) (hf : (bL s n).2 = false) : (bL s i).2 = false := by
  induction n with
  | zero => obtain rfl : i = 0 := by omega
            exact hf
  | succ n ih =>
    rcases Nat.lt_or_ge i (n + 1) with g | g
    · exact ih (by omega) (nx_over (nx_over hf))
    · obtain rfl : i = n + 1 := by omega
      exact hf
set_option maxRecDepth 100000 in
theorem nL_over {s : St} {i n : Nat} (h : i ≤ n) (hf : (nL s n).2 = false) : (nL s i).2 = false := by
  induction n with
  | zero => obtain rfl : i = 0 := by omega
            exact hf
  | succ n ih =>
    rcases Nat.lt_or_ge i (n + 1) with g | g
    · exact ih (by omega) (nx_over hf)
    · obtain rfl : i = n + 1 := by omega
      exact hf
end Go.Proofs.Ytldlknmpkoebbaa

namespace Go.Proofs.Ytldlknmpkoebbaa
open Go.RowKit

set_option maxRecDepth 100000 in
set_option maxHeartbeats 8000000 in
theorem mof_1 (bs : List Int) (sb so cap : Nat) (w : World) (hs : SliceAt w (some ⟨sb, so, none⟩) cap bs) (hu : U8s bs) (hl : bs.length ≤ 4000) (hpos : 0 < bs.length) (hk : bs.getD 0 0 = 1) :
    Calls Try.prog 22 #[.slice (some ⟨sb, so, none⟩) bs.length cap] w fun e w' => DecIs w w' e bs := by
  have hne : bs ≠ [] := by intro h; rw [h] at hpos; simp at hpos
  have hK0 : nB 1 (bs, false) = 1 := by rw [nB1_first hne, hk]
  have HRF : Hid (readF bs = if (mS (bs, false)).2 = true then 5 else if (mS (bs, false)).1 ≠ [] then 4 else 0) := by
    show _ = _
    rw [readF, if_neg (by omega), if_neg hne, hk, if_neg (by decide)]
  have HMS : Hid (mS (bs, false) = bL (nx 1 (nx 3 (nx 1 (nx 1 (nx 1 (nx 1 (bs, false))))))) (bN (nx 1 (nx 1 (nx 1 (bs, false)))))) := by
    show _ = _
    rw [mS, hK0]; rfl
  have HPM : Hid (pM (bs, false) = ⟨nB 1 (nx 1 (bs, false)), nB 1 (nx 1 (nx 1 (bs, false))), nB 1 (bs, false), nB 1 (nx 1 (nx 1 (nx 1 (bs, false)))), nB 3 (nx 1 (nx 1 (nx 1 (nx 1 (bs, false))))), bT (nx 1 (nx 3 (nx 1 (nx 1 (nx 1 (nx 1 (bs, false))))))) (bN (nx 1 (nx 1 (nx 1 (bs, false))))), 0, 0, [], [], 0, 0, [], 0, 0, [], [], [], 0⟩) := by
    show _ = _
    rw [pM, hK0]; rfl
  have HN1 : Hid ((nx 1 (bs, false)).2 = false) := (tk_ok (n := 1) (l := bs) (by omega)).2.2
  have HK0 : Hid (nB 1 (bs, false) = 1) := hK0
  have c0 : w.cell? ⟨sb, so, none⟩ = some (.int .u8 1) := by
    rcases hs.bytes with h | ⟨sb', so', e, h⟩
    · rw [h] at hpos; simp at hpos
    · cases e
      have := h 0 hpos
      rw [hk] at this
      simpa using this
  have hlI : ¬ (4000 : Int) < bs.length := by omega
  have hpI : ((bs.length : Int) == 0) = false := by rw [beq_eq_false_iff_ne]; omega
  have hpJ : (0 : Int) < bs.length := by omega
  have hblt : sb < w.heap.size := block_lt_of_cell c0
  clear hk hK0 hne
  go_enter Try.func22, Try.ntmps22
  go_upto_region 8 with (first
    | (go_at_call 32; refine (in_true _ _ _ _ (by decide)).mono ?_; rintro e w9 ⟨rfl, rfl⟩))
  have hA1 : Below w.heap.size w ((w.alloc (.cells #[.int .i64 0, .int .i64 0, .int .i64 0, .int .i64 0, .int .i64 0, .slice none 0 0, .int .i64 0, .int .i64 0, .slice none 0 0, .slice none 0 0, .int .i64 0, .int .i64 0, .slice none 0 0, .int .i64 0, .int .i64 0, .slice none 0 0, .slice none 0 0, .slice none 0 0, .int .i64 0] 53)).alloc (.cells #[.slice (some ⟨sb, so, none⟩) bs.length cap, .int .i64 0] 74)) := ((Below.refl _ _).alloc (Nat.le_refl _) _).alloc (by simp) _
  have qR := heap_alloc2_old w (.cells #[.int .i64 0, .int .i64 0, .int .i64 0, .int .i64 0, .int .i64 0, .slice none 0 0, .int .i64 0, .int .i64 0, .slice none 0 0, .slice none 0 0, .int .i64 0, .int .i64 0, .slice none 0 0, .int .i64 0, .int .i64 0, .slice none 0 0, .slice none 0 0, .slice none 0 0, .int .i64 0] 53) (.cells #[.slice (some ⟨sb, so, none⟩) bs.length cap, .int .i64 0] 74)
  have qS := heap_alloc2_new w (.cells #[.int .i64 0, .int .i64 0, .int .i64 0, .int .i64 0, .int .i64 0, .slice none 0 0, .int .i64 0, .int .i64 0, .slice none 0 0, .slice none 0 0, .int .i64 0, .int .i64 0, .slice none 0 0, .int .i64 0, .int .i64 0, .slice none 0 0, .slice none 0 0, .slice none 0 0, .int .i64 0] 53) (.cells #[.slice (some ⟨sb, so, none⟩) bs.length cap, .int .i64 0] 74)
  have hz1 : ((w.alloc (.cells #[.int .i64 0, .int .i64 0, .int .i64 0, .int .i64 0, .int .i64 0, .slice none 0 0, .int .i64 0, .int .i64 0, .slice none 0 0, .slice none 0 0, .int .i64 0, .int .i64 0, .slice none 0 0, .int .i64 0, .int .i64 0, .slice none 0 0, .slice none 0 0, .slice none 0 0, .int .i64 0] 53)).alloc (.cells #[.slice (some ⟨sb, so, none⟩) bs.length cap, .int .i64 0] 74)).heap.size = w.heap.size + 2 := by simp
  generalize (w.alloc (.cells #[.int .i64 0, .int .i64 0, .int .i64 0, .int .i64 0, .int .i64 0, .slice none 0 0, .int .i64 0, .int .i64 0, .slice none 0 0, .slice none 0 0, .int .i64 0, .int .i64 0, .slice none 0 0, .int .i64 0, .int .i64 0, .slice none 0 0, .slice none 0 0, .slice none 0 0, .int .i64 0] 53)).alloc (.cells #[.slice (some ⟨sb, so, none⟩) bs.length cap, .int .i64 0] 74) = W1 at hA1 qR qS hz1 ⊢
  have hSc1 : ScAt W1 (w.heap.size + 1) bs (bs, false) 0 := ⟨_, _, 0, qS, hs.below hA1, (fun sb' so' e => by cases e; omega), Nat.le_refl _, (fun _ => ⟨Nat.zero_le _, rfl⟩), (fun h => by cases h)⟩
  have qz : (W1.alloc (.cells #[.int .i64 0, .int .i64 0, .int .i64 0, .int .i64 0, .int .i64 0, .slice none 0 0, .int .i64 0, .int .i64 0, .slice none 0 0, .slice none 0 0, .int .i64 0, .int .i64 0, .slice none 0 0, .int .i64 0, .int .i64 0, .slice none 0 0, .slice none 0 0, .slice none 0 0, .int .i64 0] 53)).heap[w.heap.size + 2]? = some (.cells #[.int .i64 0, .int .i64 0, .int .i64 0, .int .i64 0, .int .i64 0, .slice none 0 0, .int .i64 0, .int .i64 0, .slice none 0 0, .slice none 0 0, .int .i64 0, .int .i64 0, .slice none 0 0, .int .i64 0, .int .i64 0, .slice none 0 0, .slice none 0 0, .slice none 0 0, .int .i64 0] 53 (0, 0)) := by rw [← hz1]; exact heap_alloc_new W1 (.cells #[.int .i64 0, .int .i64 0, .int .i64 0, .int .i64 0, .int .i64 0, .slice none 0 0, .int .i64 0, .int .i64 0, .slice none 0 0, .slice none 0 0, .int .i64 0, .int .i64 0, .slice none 0 0, .int .i64 0, .int .i64 0, .slice none 0 0, .slice none 0 0, .slice none 0 0, .int .i64 0] 53)
  have hM0 : MoB ((W1.alloc (.cells #[.int .i64 0, .int .i64 0, .int .i64 0, .int .i64 0, .int .i64 0, .slice none 0 0, .int .i64 0, .int .i64 0, .slice none 0 0, .slice none 0 0, .int .i64 0, .int .i64 0, .slice none 0 0, .int .i64 0, .int .i64 0, .slice none 0 0, .slice none 0 0, .slice none 0 0, .int .i64 0] 53)).setRow (w.heap.size + 2) #[.int .i64 0, .int .i64 0, .int .i64 0, .int .i64 0, .int .i64 0, .slice none 0 0, .int .i64 0, .int .i64 0, .slice none 0 0, .slice none 0 0, .int .i64 0, .int .i64 0, .slice none 0 0, .int .i64 0, .int .i64 0, .slice none 0 0, .slice none 0 0, .slice none 0 0, .int .i64 0]) w w.heap.size (w.heap.size + 1) (w.heap.size + 2) bs (bs, false) 0 #[.int .i64 0, .int .i64 0, .int .i64 0, .int .i64 0, .int .i64 0, .slice none 0 0, .int .i64 0, .int .i64 0, .slice none 0 0, .slice none 0 0, .int .i64 0, .int .i64 0, .slice none 0 0, .int .i64 0, .int .i64 0, .slice none 0 0, .slice none 0 0, .slice none 0 0, .int .i64 0] := by
    have hb : Below W1.heap.size W1 ((W1.alloc (.cells #[.int .i64 0, .int .i64 0, .int .i64 0, .int .i64 0, .int .i64 0, .slice none 0 0, .int .i64 0, .int .i64 0, .slice none 0 0, .slice none 0 0, .int .i64 0, .int .i64 0, .slice none 0 0, .int .i64 0, .int .i64 0, .slice none 0 0, .slice none 0 0, .slice none 0 0, .int .i64 0] 53)).setRow (w.heap.size + 2) #[.int .i64 0, .int .i64 0, .int .i64 0, .int .i64 0, .int .i64 0, .slice none 0 0, .int .i64 0, .int .i64 0, .slice none 0 0, .slice none 0 0, .int .i64 0, .int .i64 0, .slice none 0 0, .int .i64 0, .int .i64 0, .slice none 0 0, .slice none 0 0, .slice none 0 0, .int .i64 0]) := ⟨rfl, rfl, rfl, by simp [World.setRow], fun k hk => (setRow_other _ _ _ _ (by omega)).trans (Below.heap_alloc _ _ _ hk)⟩
    exact ⟨setRow_heap _ _ _ _ _ _ qz, (hb.block _ (by omega)).trans qR, hSc1.below hb, hA1.trans (hb.mono (by omega)), Nat.le_refl _, by omega, by omega⟩
  go_upto_region 9 with (refine wpList_store_row rfl 53 _ _ rfl (w.heap.size + 2) #[.int .i64 0, .int .i64 0, .int .i64 0, .int .i64 0, .int .i64 0, .slice none 0 0, .int .i64 0, .int .i64 0, .slice none 0 0, .slice none 0 0, .int .i64 0, .int .i64 0, .slice none 0 0, .int .i64 0, .int .i64 0, .slice none 0 0, .slice none 0 0, .slice none 0 0, .int .i64 0] rfl rfl 53 _ qz sMsg' rfl (by simp [Value.oneCell']) ?_)
  generalize (W1.alloc (.cells #[.int .i64 0, .int .i64 0, .int .i64 0, .int .i64 0, .int .i64 0, .slice none 0 0, .int .i64 0, .int .i64 0, .slice none 0 0, .slice none 0 0, .int .i64 0, .int .i64 0, .slice none 0 0, .int .i64 0, .int .i64 0, .slice none 0 0, .slice none 0 0, .slice none 0 0, .int .i64 0] 53)).setRow (w.heap.size + 2) #[.int .i64 0, .int .i64 0, .int .i64 0, .int .i64 0, .int .i64 0, .slice none 0 0, .int .i64 0, .int .i64 0, .slice none 0 0, .slice none 0 0, .int .i64 0, .int .i64 0, .slice none 0 0, .int .i64 0, .int .i64 0, .slice none 0 0, .slice none 0 0, .slice none 0 0, .int .i64 0] = V0 at hM0 ⊢
  clear qz qR qS hSc1 hA1 hz1 c0 hblt hpI hs
  generalize hMM : w.heap.size + 2 = M at hM0 ⊢
  generalize hSS : w.heap.size + 1 = S at hM0 ⊢
  clear hMM hSS
  go_wp2_with fail
  refine (num_sc S 1 bs (bs, false) _ V0 hM0.sc hu (by omega) (by omega)).mono ?_
  intro e w1 h1
  obtain ⟨ki, he, ki0, ki1, ki2, kig, hSc, ho1⟩ := h1.out
  subst he
  dsimp only
  clear h1
  have hC1 := hM0.call ho1 hSc
  have dj := cells_at hC1.box 2 _ rfl
  have fj := frozen_at hC1.box 2
  have hM1 := hC1.cell 2 (.int .i64 ki) #[.int .i64 0, .int .i64 0, .int .i64 ki, .int .i64 0, .int .i64 0, .slice none 0 0, .int .i64 0, .int .i64 0, .slice none 0 0, .slice none 0 0, .int .i64 0, .int .i64 0, .slice none 0 0, .int .i64 0, .int .i64 0, .slice none 0 0, .slice none 0 0, .slice none 0 0, .int .i64 0] rfl
  go_upto_region 10 with fail
  generalize w1.setCell ⟨M, 2, none⟩ (.int .i64 ki) = V1 at hM1 ⊢
  clear dj fj hC1 hSc ho1 hM0
  go_wp2_with fail
  refine (num_sc S 1 bs (nx 1 (bs, false)) _ V1 hM1.sc hu (by omega) (by omega)).mono ?_
  intro e w2 h1
  obtain ⟨fr, he, fr0, fr1, fr2, frg, hSc, ho1⟩ := h1.out
  subst he
  dsimp only
  clear h1
  have hC2 := hM1.call ho1 hSc
  have dj := cells_at hC2.box 0 _ rfl
  have fj := frozen_at hC2.box 0
  have hM2 := hC2.cell 0 (.int .i64 fr) #[.int .i64 fr, .int .i64 0, .int .i64 ki, .int .i64 0, .int .i64 0, .slice none 0 0, .int .i64 0, .int .i64 0, .slice none 0 0, .slice none 0 0, .int .i64 0, .int .i64 0, .slice none 0 0, .int .i64 0, .int .i64 0, .slice none 0 0, .slice none 0 0, .slice none 0 0, .int .i64 0] rfl
  go_upto_region 11 with fail
  generalize w2.setCell ⟨M, 0, none⟩ (.int .i64 fr) = V2 at hM2 ⊢
  clear dj fj hC2 hSc ho1 hM1
  go_wp2_with fail
  refine (num_sc S 1 bs (nx 1 (nx 1 (bs, false))) _ V2 hM2.sc hu (by omega) (by omega)).mono ?_
  intro e w3 h1
  obtain ⟨tt, he, tt0, tt1, tt2, ttg, hSc, ho1⟩ := h1.out
  subst he
  dsimp only
  clear h1
  have hC3 := hM2.call ho1 hSc
  have dj := cells_at hC3.box 1 _ rfl
  have fj := frozen_at hC3.box 1
  have hM3 := hC3.cell 1 (.int .i64 tt) #[.int .i64 fr, .int .i64 tt, .int .i64 ki, .int .i64 0, .int .i64 0, .slice none 0 0, .int .i64 0, .int .i64 0, .slice none 0 0, .slice none 0 0, .int .i64 0, .int .i64 0, .slice none 0 0, .int .i64 0, .int .i64 0, .slice none 0 0, .slice none 0 0, .slice none 0 0, .int .i64 0] rfl
  go_upto_region 12 with fail
  generalize w3.setCell ⟨M, 1, none⟩ (.int .i64 tt) = V3 at hM3 ⊢
  clear dj fj hC3 hSc ho1 hM2
  have hki : ki = 1 := (kig HN1.out).trans HK0.out
  subst hki
  have dk := cells_at hM3.box 2 _ rfl
  go_wp2_with fail
  refine (num_sc S 1 bs (nx 1 (nx 1 (nx 1 (bs, false)))) _ V3 hM3.sc hu (by omega) (by omega)).mono ?_
  intro e w4 h1
  obtain ⟨au, he, au0, au1, au2, aug, hSc, ho1⟩ := h1.out
  subst he
  dsimp only
  clear h1
  have hC4 := hM3.call ho1 hSc
  have dj := cells_at hC4.box 3 _ rfl
  have fj := frozen_at hC4.box 3
  have hM4 := hC4.cell 3 (.int .i64 au) #[.int .i64 fr, .int .i64 tt, .int .i64 1, .int .i64 au, .int .i64 0, .slice none 0 0, .int .i64 0, .int .i64 0, .slice none 0 0, .slice none 0 0, .int .i64 0, .int .i64 0, .slice none 0 0, .int .i64 0, .int .i64 0, .slice none 0 0, .slice none 0 0, .slice none 0 0, .int .i64 0] rfl
  go_upto_region 15 with fail
  generalize w4.setCell ⟨M, 3, none⟩ (.int .i64 au) = V4 at hM4 ⊢
  clear dj fj hC4 hSc ho1 hM3
  go_wp2_with fail
  refine (num_sc S 3 bs (nx 1 (nx 1 (nx 1 (nx 1 (bs, false))))) _ V4 hM4.sc hu (by omega) (by omega)).mono ?_
  intro e w5 h1
  obtain ⟨rd, he, rd0, rd1, rd2, rdg, hSc, ho1⟩ := h1.out
  subst he
  dsimp only
  clear h1
  have hC5 := hM4.call ho1 hSc
  have dj := cells_at hC5.box 4 _ rfl
  have fj := frozen_at hC5.box 4
  have hM5 := hC5.cell 4 (.int .i64 rd) #[.int .i64 fr, .int .i64 tt, .int .i64 1, .int .i64 au, .int .i64 rd, .slice none 0 0, .int .i64 0, .int .i64 0, .slice none 0 0, .slice none 0 0, .int .i64 0, .int .i64 0, .slice none 0 0, .int .i64 0, .int .i64 0, .slice none 0 0, .slice none 0 0, .slice none 0 0, .int .i64 0] rfl
  go_upto_region 16 with fail
  generalize w5.setCell ⟨M, 4, none⟩ (.int .i64 rd) = V5 at hM5 ⊢
  clear dj fj hC5 hSc ho1 hM4
  generalize hV5 : V5 = V4 at hM5 ⊢
  have hM4 := hM5
  clear hM5 hV5
  obtain ⟨i, hi, hz0, hz1, hz2⟩ := info_parts infoStr
  go_wp2_with fail
  refine (num_sc S 1 bs (nx 3 (nx 1 (nx 1 (nx 1 (nx 1 (bs, false)))))) _ V4 hM4.sc hu (by omega) (by omega)).mono ?_
  intro e w5 h1
  obtain ⟨n, he, n0, -, n2, ng, hSc, ho1⟩ := h1.out
  subst he
  dsimp only
  clear h1
  obtain ⟨V, rfl⟩ : ∃ V : Nat, n = V := ⟨n.toNat, by omega⟩
  have hV : V ≤ 255 := by have := n2 rfl; omega
  have hM5 := (hM4.call ho1 hSc).st (N' := 20000) (by omega)
  have lM5 : M < w5.heap.size := lt_of_heap hM5.box
  have HNV : Hid ((nx 1 (nx 3 (nx 1 (nx 1 (nx 1 (nx 1 (bs, false))))))).2 = false → V = bN (nx 1 (nx 1 (nx 1 (bs, false))))) := by
    show _ → _
    intro h9
    rw [show bN (nx 1 (nx 1 (nx 1 (bs, false)))) = (nB 1 (nx 3 (nx 1 (nx 1 (nx 1 (nx 1 (bs, false))))))).toNat from rfl, ← ng h9]
    rfl
  have HO5 : Hid ((nx 1 (nx 3 (nx 1 (nx 1 (nx 1 (nx 1 (bs, false))))))).2 = false → (nx 3 (nx 1 (nx 1 (nx 1 (nx 1 (bs, false)))))).2 = false) := by
    show _ → _
    exact fun h => nx_over h
  clear n0 n2 ng hSc ho1 hM4 dk
  generalize nx 1 (nx 3 (nx 1 (nx 1 (nx 1 (nx 1 (bs, false)))))) = s5 at *
  go_wp2_with fail
  go_loopw [7] (fun j wr => ∃ (k : Nat) (v : Value) (vs : List ByteArray), k ≤ V ∧ j = .int .i64 k ∧ MoB wr w w.heap.size S M bs (bL s5 k) 20000 #[.int .i64 fr, .int .i64 tt, .int .i64 1, .int .i64 au, .int .i64 rd, v, .int .i64 0, .int .i64 0, .slice none 0 0, .slice none 0 0, .int .i64 0, .int .i64 0, .slice none 0 0, .int .i64 0, .int .i64 0, .slice none 0 0, .slice none 0 0, .slice none 0 0, .int .i64 0] ∧ w5.heap.size ≤ wr.heap.size ∧ wr.ownsRow w5.heap.size 9 1 v k (sv vs) ∧ Hid ((bL s5 k).2 = false → vs = bT s5 k) ∧ (∀ s ∈ vs, s.size ≤ maxLen)) (fun j _ => V - (intOf j).toNat)
  case atStart => exact ⟨0, .slice none 0 0, [], Nat.zero_le _, rfl, hM5, Nat.le_refl _, World.ownsRow_nil _ _ _ _, (show _ → _ from fun _ => rfl), (fun s hs => by cases hs)⟩
  case round =>
    clear hM5
    obtain ⟨k, v, vs, hk, rfl, hM, hsz, ho, hq, hzs⟩ := hrel
    have lS : S < M := hM.l2
    have lM : M < wr.heap.size := lt_of_heap hM.box
    obtain ⟨va, vc, hve⟩ := owns_shape ho
    subst hve
    by_cases hltk : k < V
    · have hltI : (k : Int) < V := by omega
      go_wp2_with fail
      refine (over_sc S bs _ _ wr hM.sc).mono ?_
      rintro e w2 ⟨he, hb2⟩
      subst he
      dsimp only
      have hM2 := hM.belowW hb2
      have ho2 := owns_keep ho hb2
      clear hM ho
      cases hov : (bL s5 k).2 with
      | true =>
        have HOV : Hid ((mS (bs, false)).2 = true) := by
          show _ = _
          rw [HMS.out]
          cases h9 : s5.2 with
          | false =>
            have h8 := HNV.out h9
            cases h7 : (bL s5 (bN (nx 1 (nx 1 (nx 1 (bs, false)))))).2 with
            | true => rfl
            | false =>
              have h6 := bL_over (i := k) (n := bN (nx 1 (nx 1 (nx 1 (bs, false))))) (by omega) h7
              rw [h6] at hov
              cases hov
          | true =>
            cases h7 : (bL s5 (bN (nx 1 (nx 1 (nx 1 (bs, false)))))).2 with
            | true => rfl
            | false =>
              have h6 := bL_over (i := 0) (n := bN (nx 1 (nx 1 (nx 1 (bs, false))))) (Nat.zero_le _) h7
              have h5 : s5.2 = false := h6
              rw [h9] at h5
              cases h5
        have hX : Hid (MoX w2 w w.heap.size S M bs 20000) := by
          obtain ⟨za, zc, hv, hl, hI, hf⟩ := strsAt_of_owns ho2 hzs
          cases hv
          refine ⟨⟨{ fr := fr, tt := tt, ki := 1, bau := au, bnu := rd, bta := va, btn := vs.length, btc := vc, hau := 0, hrd := 0, hba := none, hbn := 0, hbc := 0, hpa := none, hpn := 0, hpc := 0, sau := 0, srd := 0, sda := none, sdn := 0, sdc := 0, cau := 0, crd := 0, cba := none, cbn := 0, cbc := 0, cpa := none, cpn := 0, cpc := 0, cva := none, cvn := 0, cvc := 0, ro := 0 }, vs, [], [], [], [], [], []⟩, ?_, ?_, ?_, ?_⟩
          · rw [← hl]; exact hM2.beyond hov HOV.out
          · exact ⟨⟨rfl, rfl, rfl, rfl, rfl, rfl, (by show vs.length ≤ _; omega), Nat.zero_le _, Nat.zero_le _, hI, list_nilM _, list_nilM _, list_nilM _, list_nilM _, ints_nil _⟩, nilM _, rfl⟩
          · exact ⟨(fun sb so e _ => by have := hf sb so e; omega), has_nil, has_nil, (fun sb so e => by cases e), has_nil, has_nil, (fun sb so e => by cases e)⟩
          · intro h9
            rw [HOV.out] at h9
            cases h9
        clear hM2 ho2 hov
        go_upto_region 39 with fail
        generalize w2 = VX at hX ⊢
        obtain ⟨x, hM, hA, hH, hC⟩ := hX.out.out
        clear hX
        go_wp2_with fail
        refine (over_sc S bs _ _ VX hM.sc).mono ?_
        rintro e w1 ⟨he, hb1⟩
        subst he
        dsimp only
        have hB := hM.belowW hb1
        have hA1 := hA.below hb1
        have HH : Hid (HasM (fun q => M < q) x) := hH
        have l1 := hB.l1
        have l2 := hB.l2
        have lM : M < w1.heap.size := lt_of_heap hB.box
        clear hM hA hH hb1
        obtain ⟨ba, bc, a, qS, hbS, hneS, haN, h5, h6⟩ := hB.sc.out
        generalize mS (bs, false) = ms at *
        obtain ⟨ml, msh⟩ := ms
        dsimp only at *
        cases msh with
        | true =>
          have hF : Hid (readF bs = 5) := by show _ = _; rw [HRF.out, if_pos rfl]
          clear h5 h6 hC
          go_wp2_with (refine wpList_store_row rfl 53 _ _ rfl w.heap.size #[.int .i64 0, .int .i64 0, .int .i64 0, .int .i64 0, .int .i64 0, .slice none 0 0, .int .i64 0, .int .i64 0, .slice none 0 0, .slice none 0 0, .int .i64 0, .int .i64 0, .slice none 0 0, .int .i64 0, .int .i64 0, .slice none 0 0, .slice none 0 0, .slice none 0 0, .int .i64 0] rfl rfl 53 _ hB.res sMsg' rfl (by simp [Value.oneCell']) ?_)
          have hFc := hF.out
          refine bodyPost_ret (v := .tuple #[.agg #[.int .i64 0, .int .i64 0, .int .i64 0, .int .i64 0, .int .i64 0, .slice none 0 0, .int .i64 0, .int .i64 0, .slice none 0 0, .slice none 0 0, .int .i64 0, .int .i64 0, .slice none 0 0, .int .i64 0, .int .i64 0, .slice none 0 0, .slice none 0 0, .slice none 0 0, .int .i64 0], .int .i64 5]) (results_cell_slot (fn := Try.f22) (p := 2) (q := 3) (ty := 53) rfl _ _ w.heap.size 53 _ (0, 0) _ (.int .i64 5) ⟨rfl, rfl⟩ (setRow_heap _ _ _ _ _ _ hB.res) Try.underlying53 rfl sMsg') rfl ⟨.inl ⟨by rw [hFc]; decide, by rw [hFc]⟩, (Upd.setRow hB.res).below hB.below hB.below.size (Nat.le_refl _)⟩
        | false =>
          obtain ⟨h51, h52⟩ := h5 rfl
          have HCX : Hid (x.c = pM (bs, false)) := hC rfl
          clear h5 h6 hC
          have s1 : w1.cell? ⟨S, 1, none⟩ = some (.int .i64 (a : Int)) := cells_at qS 1 _ rfl
          by_cases hml : a = bs.length
          · have hF : Hid (readF bs = 0) := by
              show _ = _
              rw [HRF.out, if_neg (by decide), if_neg (fun h => h (by rw [h52, hml]; simp))]
            have haI : ¬ (a : Int) < bs.length := by omega
            clear hml h51 h52 HRF
            have hB2 : Below w1.heap.size w1 w1.drew := (Below.refl _ _).drew
            go_upto_region 43 with fail
            have HF9 := messageFault_any x.m x.ss x.bl x.pl x.cbl x.cpl x.vl w1 hA1.at'
            go_wp2_with (refine wpList_load_row rfl 53 _ rfl M rfl 53 #[.int .i64 x.m.fr, .int .i64 x.m.tt, .int .i64 x.m.ki, .int .i64 x.m.bau, .int .i64 x.m.bnu, .slice x.m.bta x.m.btn x.m.btc, .int .i64 x.m.hau, .int .i64 x.m.hrd, .slice x.m.hba x.m.hbn x.m.hbc, .slice x.m.hpa x.m.hpn x.m.hpc, .int .i64 x.m.sau, .int .i64 x.m.srd, .slice x.m.sda x.m.sdn x.m.sdc, .int .i64 x.m.cau, .int .i64 x.m.crd, .slice x.m.cba x.m.cbn x.m.cbc, .slice x.m.cpa x.m.cpn x.m.cpc, .slice x.m.cva x.m.cvn x.m.cvc, .int .i64 x.m.ro] (0, 0) _ hB.box Try.underlying53 rfl sMsg' ?_)
            refine HF9.mono ?_
            rintro e w2 ⟨he, hb2⟩
            subst he
            dsimp only
            clear HF9 s1
            have hD := hB.belowW hb2
            have hA2 : Hid (MAt w2 x) := hA1.below hb2
            have HCR : Hid (carriedF x.m x.ss x.bl x.pl x.cbl x.cpl x.vl = x.car) := rfl
            generalize hCk : checkF x.m (carriedF x.m x.ss x.bl x.pl x.cbl x.cpl x.vl) = C at *
            have HCK : Hid (checkF x.m x.car = C) := hCk
            clear hCk
            by_cases hc0 : C = 0
            · subst hc0
              go_wp2_with (first | refine wpList_load_row rfl 53 _ rfl M rfl 53 #[.int .i64 x.m.fr, .int .i64 x.m.tt, .int .i64 x.m.ki, .int .i64 x.m.bau, .int .i64 x.m.bnu, .slice x.m.bta x.m.btn x.m.btc, .int .i64 x.m.hau, .int .i64 x.m.hrd, .slice x.m.hba x.m.hbn x.m.hbc, .slice x.m.hpa x.m.hpn x.m.hpc, .int .i64 x.m.sau, .int .i64 x.m.srd, .slice x.m.sda x.m.sdn x.m.sdc, .int .i64 x.m.cau, .int .i64 x.m.crd, .slice x.m.cba x.m.cbn x.m.cbc, .slice x.m.cpa x.m.cpn x.m.cpc, .slice x.m.cva x.m.cvn x.m.cvc, .int .i64 x.m.ro] (0, 0) _ hD.box Try.underlying53 rfl sMsg' ?_ | refine wpList_store_row rfl 53 _ _ rfl w.heap.size #[.int .i64 x.m.fr, .int .i64 x.m.tt, .int .i64 x.m.ki, .int .i64 x.m.bau, .int .i64 x.m.bnu, .slice x.m.bta x.m.btn x.m.btc, .int .i64 x.m.hau, .int .i64 x.m.hrd, .slice x.m.hba x.m.hbn x.m.hbc, .slice x.m.hpa x.m.hpn x.m.hpc, .int .i64 x.m.sau, .int .i64 x.m.srd, .slice x.m.sda x.m.sdn x.m.sdc, .int .i64 x.m.cau, .int .i64 x.m.crd, .slice x.m.cba x.m.cbn x.m.cbc, .slice x.m.cpa x.m.cpn x.m.cpc, .slice x.m.cva x.m.cvn x.m.cvc, .int .i64 x.m.ro] rfl rfl 53 _ hD.res sMsg' rfl (by simp [Value.oneCell']) ?_)
              refine bodyPost_ret (v := .tuple #[.agg #[.int .i64 x.m.fr, .int .i64 x.m.tt, .int .i64 x.m.ki, .int .i64 x.m.bau, .int .i64 x.m.bnu, .slice x.m.bta x.m.btn x.m.btc, .int .i64 x.m.hau, .int .i64 x.m.hrd, .slice x.m.hba x.m.hbn x.m.hbc, .slice x.m.hpa x.m.hpn x.m.hpc, .int .i64 x.m.sau, .int .i64 x.m.srd, .slice x.m.sda x.m.sdn x.m.sdc, .int .i64 x.m.cau, .int .i64 x.m.crd, .slice x.m.cba x.m.cbn x.m.cbc, .slice x.m.cpa x.m.cpn x.m.cpc, .slice x.m.cva x.m.cvn x.m.cvc, .int .i64 x.m.ro], .int .i64 0]) (results_cell_slot (fn := Try.f22) (p := 2) (q := 3) (ty := 53) rfl _ _ w.heap.size 53 _ (0, 0) _ (.int .i64 0) ⟨rfl, rfl⟩ (setRow_heap _ _ _ _ _ _ hD.res) Try.underlying53 rfl sMsg') rfl ⟨.inr ⟨hF.out, x, HCX.out, ?_, HH.out.mono (fun q hq => by omega), .inl ⟨HCK.out, rfl⟩⟩, (Upd.setRow hD.res).below hD.below hD.below.size (Nat.le_refl _)⟩
              exact hA2.out.setRow (B := M + 1) (HH.out.mono (fun q hq => by omega)) (by omega)
            · have hcn : (C != 0) = true := by simpa using hc0
              have HC0 : Hid (C ≠ 0) := hc0
              go_wp2_with (refine wpList_store_row rfl 53 _ _ rfl w.heap.size #[.int .i64 0, .int .i64 0, .int .i64 0, .int .i64 0, .int .i64 0, .slice none 0 0, .int .i64 0, .int .i64 0, .slice none 0 0, .slice none 0 0, .int .i64 0, .int .i64 0, .slice none 0 0, .int .i64 0, .int .i64 0, .slice none 0 0, .slice none 0 0, .slice none 0 0, .int .i64 0] rfl rfl 53 _ hD.res sMsg' rfl (by simp [Value.oneCell']) ?_)
              refine bodyPost_ret (v := .tuple #[.agg #[.int .i64 0, .int .i64 0, .int .i64 0, .int .i64 0, .int .i64 0, .slice none 0 0, .int .i64 0, .int .i64 0, .slice none 0 0, .slice none 0 0, .int .i64 0, .int .i64 0, .slice none 0 0, .int .i64 0, .int .i64 0, .slice none 0 0, .slice none 0 0, .slice none 0 0, .int .i64 0], .int .i64 C]) (results_cell_slot (fn := Try.f22) (p := 2) (q := 3) (ty := 53) rfl _ _ w.heap.size 53 _ (0, 0) _ (.int .i64 C) ⟨rfl, rfl⟩ (setRow_heap _ _ _ _ _ _ hD.res) Try.underlying53 rfl sMsg') rfl ⟨.inr ⟨hF.out, x, HCX.out, ?_, HH.out.mono (fun q hq => by omega), .inr ⟨by rw [HCK.out]; exact HC0.out, by rw [HCK.out]⟩⟩, (Upd.setRow hD.res).below hD.below hD.below.size (Nat.le_refl _)⟩
              exact hA2.out.setRow (B := M + 1) (HH.out.mono (fun q hq => by omega)) (by omega)
          · have hF : Hid (readF bs = 4) := by
              show _ = _
              rw [HRF.out, if_neg (by decide), if_pos (fun h => hml (by rw [h52, List.drop_eq_nil_iff] at h; omega))]
            have haI : (a : Int) < bs.length := by omega
            clear hml h51 h52 HRF
            go_wp2_with (refine wpList_store_row rfl 53 _ _ rfl w.heap.size #[.int .i64 0, .int .i64 0, .int .i64 0, .int .i64 0, .int .i64 0, .slice none 0 0, .int .i64 0, .int .i64 0, .slice none 0 0, .slice none 0 0, .int .i64 0, .int .i64 0, .slice none 0 0, .int .i64 0, .int .i64 0, .slice none 0 0, .slice none 0 0, .slice none 0 0, .int .i64 0] rfl rfl 53 _ hB.res sMsg' rfl (by simp [Value.oneCell']) ?_)
            have hFc := hF.out
            refine bodyPost_ret (v := .tuple #[.agg #[.int .i64 0, .int .i64 0, .int .i64 0, .int .i64 0, .int .i64 0, .slice none 0 0, .int .i64 0, .int .i64 0, .slice none 0 0, .slice none 0 0, .int .i64 0, .int .i64 0, .slice none 0 0, .int .i64 0, .int .i64 0, .slice none 0 0, .slice none 0 0, .slice none 0 0, .int .i64 0], .int .i64 4]) (results_cell_slot (fn := Try.f22) (p := 2) (q := 3) (ty := 53) rfl _ _ w.heap.size 53 _ (0, 0) _ (.int .i64 4) ⟨rfl, rfl⟩ (setRow_heap _ _ _ _ _ _ hB.res) Try.underlying53 rfl sMsg') rfl ⟨.inl ⟨by rw [hFc]; decide, by rw [hFc]⟩, (Upd.setRow hB.res).below hB.below hB.below.size (Nat.le_refl _)⟩
      | false =>
        have HOV : Hid ((bL s5 k).2 = false) := hov
        have hst : Hid (bT s5 (k + 1) = bT s5 k ++ [bstr (tT (nB 1 (bL s5 k)).toNat (nx 1 (bL s5 k)))] ∧ bL s5 (k + 1) = nx (nB 1 (bL s5 k)).toNat (nx 1 (bL s5 k))) := ⟨rfl, rfl⟩
        have hW2 := hM2.within hov
        clear hov hM2
        go_wp2_with fail
        refine (num_sc S 1 bs _ _ w2 hW2.sc hu (by omega) (by omega)).mono ?_
        intro e w3 h3
        obtain ⟨y, he, y0, -, y2, yg, hSc, ho3⟩ := h3.out
        subst he
        dsimp only
        clear h3
        obtain ⟨Y, rfl⟩ : ∃ Y : Nat, y = Y := ⟨y.toNat, by omega⟩
        have hY : Y ≤ 255 := by have := y2 rfl; omega
        have YG : Hid _ := yg
        clear y0 y2 yg
        have hM3 := hW2.call ho3 hSc
        have hs2 := hb2.size
        have hs3 := ho3.size
        have hob3 := owns_only ho2 ho3 (by omega)
        clear hSc hW2 ho2
        go_wp2_with fail
        refine (next_sc S Y bs _ _ w3 hM3.sc (by omega) (by omega)).mono ?_
        intro e w4 h4
        obtain ⟨ta, tc, tx, he, hS4, hf4, hta, htb, hSc, ho4⟩ := h4.out
        subst he
        dsimp only
        clear h4
        have htl : tx.length ≤ 255 := by
          cases h9 : (nx Y (nx 1 (bL s5 k))).2 with
          | true => rw [htb h9]; simp; omega
          | false => rw [hta h9]; exact Nat.le_trans tkT_len (by omega)
        have HTA : Hid _ := hta
        have hM4 := (hM3.call ho4 hSc).st (N' := 20000) (by omega)
        have HBL : Hid (bL s5 (k + 1) = nx Y (nx 1 (bL s5 k)) ∨ ((nx Y (nx 1 (bL s5 k))).2 = true ∧ (bL s5 (k + 1)).2 = true)) := by
          show _ ∨ _
          cases h9 : (nx 1 (bL s5 k)).2 with
          | false =>
            left
            rw [hst.out.2, ← YG.out h9]
            rfl
          | true =>
            right
            have hov9 : ∀ n : Nat, (nx n (nx 1 (bL s5 k))).2 = true := fun n => by
              cases h8 : (nx n (nx 1 (bL s5 k))).2 with
              | true => rfl
              | false =>
                have h7 := nx_over h8
                rw [h9] at h7
                cases h7
            exact ⟨hov9 Y, by rw [hst.out.2]; exact hov9 _⟩
        have hs4 := ho4.size
        have hob := owns_only hob3 ho4 (by omega)
        have hw3 : w5.heap.size ≤ w4.heap.size := by omega
        have v5 := hM4.box
        have d4 := cells_at v5 5 _ rfl
        have d4a : (w4.alloc (.cells #[.string (bstr tx)] 9)).cell? ⟨M, 5, none⟩ = some (.slice va k vc) := cells_at (heap_keep v5) 5 _ rfl
        have hvC : (Value.slice va k vc).ownBlock ≠ some M := fun e => by have := (hob.lt _ e).1; omega
        have hvlt : ∀ q, (Value.slice va k vc).ownBlock = some q → w5.heap.size ≤ q := fun q e => (hob.lt _ e).1
        have htx := run_text w4 ta _ tc tx rfl hS4
        clear hSc ho3 ho4 hta htb hM3 hob3 hf4
        go_wp2_with (at_builtin; refine wpList_append_own_at _ rfl _ _ 41 rfl w5.heap.size 9 i (.string ByteArray.empty) 1 16 Try.underlying41 hi hz0 hz1 hz2 rfl (by decide) _ k (sv vs) rfl (World.ownsRow.alloc hob _) ⟨w4.heap.size, 0, none⟩ 1 1 [.string (bstr tx)] rfl rfl (cells_new _ _ _) (by intro u hu; simp at hu; subst hu; rfl) (by unfold maxLen; omega) (by omega) (le_alloc hw3 _) ?_; intro v6 w6 ho6 hg6 _ hat6; have G6 := Grew.of hg6 hat6; have x5 := G6.row (heap_keep v5) hvC; have xd4 := cells_at x5 5 _ rfl; have xf4 := frozen_at x5 5; obtain ⟨fa, fc, hvf⟩ := owns_shape ho6; subst hvf)
        all_goals
          have hM6 : MoB w6 w w.heap.size S M bs (nx Y (nx 1 (bL s5 k))) 20000 #[.int .i64 fr, .int .i64 tt, .int .i64 1, .int .i64 au, .int .i64 rd, .slice va k vc, .int .i64 0, .int .i64 0, .slice none 0 0, .slice none 0 0, .int .i64 0, .int .i64 0, .slice none 0 0, .int .i64 0, .int .i64 0, .slice none 0 0, .slice none 0 0, .slice none 0 0, .int .i64 0] := (hM4.belowW ((Below.refl _ _).alloc (Nat.le_refl _) _)).grown G6.grown (fun q e => by have := hvlt q e; omega)
          have hb3 : Below w4.heap.size w4 (w4.alloc (.cells #[.string (bstr tx)] 9)) := (Below.refl _ _).alloc (Nat.le_refl _) _
          have hs6 : w5.heap.size ≤ w6.heap.size := by have := hb3.size; have : (w4.alloc (.cells #[.string (bstr tx)] 9)).heap.size ≤ w6.heap.size := G6.grown.size; omega
          (try go_wp2_with fail)
          go_roundw
          case rel =>
            refine ⟨k + 1, .slice fa (k + 1) fc, vs ++ [bstr tx], by omega, by go_num, ?_, by simpa using hs6, ?_, ?_, ?_⟩
            · have hC6 := hM6.cell 5 (.slice fa (k + 1) fc) #[.int .i64 fr, .int .i64 tt, .int .i64 1, .int .i64 au, .int .i64 rd, .slice fa (k + 1) fc, .int .i64 0, .int .i64 0, .slice none 0 0, .slice none 0 0, .int .i64 0, .int .i64 0, .slice none 0 0, .int .i64 0, .int .i64 0, .slice none 0 0, .slice none 0 0, .slice none 0 0, .int .i64 0] rfl
              rcases HBL.out with h9 | ⟨h9, h8⟩
              · rw [h9]; exact hC6
              · exact hC6.beyond h9 h8
            · have h := owns_far ho6 M 5 (.slice fa (k + 1) fc) lM5
              simpa [sv] using h
            · show _ → _
              intro h9
              rcases HBL.out with h8 | ⟨_, h8⟩
              · have h10 : (nx Y (nx 1 (bL s5 k))).2 = false := by rw [← h8]; exact h9
                have h7 := nx_over h10
                have h6 := YG.out h7
                rw [hst.out.1, hq.out HOV.out, HTA.out h10, ← h6]
                rfl
              · rw [h8] at h9; cases h9
            · intro s hs
              rcases List.mem_append.1 hs with hs | hs
              · exact hzs s hs
              · obtain rfl : s = bstr tx := by simpa using hs
                rw [bstr_size]
                unfold maxLen
                omega
          case measure => simp [intOf]; omega
    · obtain rfl : k = V := by omega
      have hltI : ¬ (k : Int) < k := by omega
      have hX : Hid (MoX wr w w.heap.size S M bs 20000) := by
        obtain ⟨za, zc, hv, hl, hI, hf⟩ := strsAt_of_owns ho hzs
        cases hv
        refine ⟨⟨{ fr := fr, tt := tt, ki := 1, bau := au, bnu := rd, bta := va, btn := vs.length, btc := vc, hau := 0, hrd := 0, hba := none, hbn := 0, hbc := 0, hpa := none, hpn := 0, hpc := 0, sau := 0, srd := 0, sda := none, sdn := 0, sdc := 0, cau := 0, crd := 0, cba := none, cbn := 0, cbc := 0, cpa := none, cpn := 0, cpc := 0, cva := none, cvn := 0, cvc := 0, ro := 0 }, vs, [], [], [], [], [], []⟩, ?_, ?_, ?_, ?_⟩
        · rw [← hl, HMS.out]
          cases h9 : s5.2 with
          | false => rw [← HNV.out h9]; exact hM
          | true =>
            have h7 : ∀ n, (bL s5 n).2 = true := fun n => by
              cases h6 : (bL s5 n).2 with
              | true => rfl
              | false =>
                have h5 : s5.2 = false := bL_over (i := 0) (n := n) (Nat.zero_le _) h6
                rw [h9] at h5
                cases h5
            exact hM.beyond (h7 _) (h7 _)
        · exact ⟨⟨rfl, rfl, rfl, rfl, rfl, rfl, (by show vs.length ≤ _; omega), Nat.zero_le _, Nat.zero_le _, hI, list_nilM _, list_nilM _, list_nilM _, list_nilM _, ints_nil _⟩, nilM _, rfl⟩
        · exact ⟨(fun sb so e _ => by have := hf sb so e; omega), has_nil, has_nil, (fun sb so e => by cases e), has_nil, has_nil, (fun sb so e => by cases e)⟩
        · intro h9
          rw [HMS.out] at h9
          have h8 : s5.2 = false := bL_over (i := 0) (Nat.zero_le _) h9
          have h7 := HO5.out h8
          have h7b := nx_over h7
          have h6 := nx_over h7b
          have h5 := nx_over h6
          have hcv : vs = bT s5 (bN (nx 1 (nx 1 (nx 1 (bs, false))))) := by rw [← HNV.out h8]; exact hq.out (by rw [HNV.out h8]; exact h9)
          rw [HPM.out, HK0.out, ← rdg h7, ← aug h7b, ← hcv, ← ttg h6, ← frg h5]
          rfl
      clear hM ho
      go_upto_region 39 with fail
      generalize wr = VX at hX ⊢
      obtain ⟨x, hM, hA, hH, hC⟩ := hX.out.out
      clear hX
      go_wp2_with fail
      refine (over_sc S bs _ _ VX hM.sc).mono ?_
      rintro e w1 ⟨he, hb1⟩
      subst he
      dsimp only
      have hB := hM.belowW hb1
      have hA1 := hA.below hb1
      have HH : Hid (HasM (fun q => M < q) x) := hH
      have l1 := hB.l1
      have l2 := hB.l2
      have lM : M < w1.heap.size := lt_of_heap hB.box
      clear hM hA hH hb1
      obtain ⟨ba, bc, a, qS, hbS, hneS, haN, h5, h6⟩ := hB.sc.out
      generalize mS (bs, false) = ms at *
      obtain ⟨ml, msh⟩ := ms
      dsimp only at *
      cases msh with
      | true =>
        have hF : Hid (readF bs = 5) := by show _ = _; rw [HRF.out, if_pos rfl]
        clear h5 h6 hC
        go_wp2_with (refine wpList_store_row rfl 53 _ _ rfl w.heap.size #[.int .i64 0, .int .i64 0, .int .i64 0, .int .i64 0, .int .i64 0, .slice none 0 0, .int .i64 0, .int .i64 0, .slice none 0 0, .slice none 0 0, .int .i64 0, .int .i64 0, .slice none 0 0, .int .i64 0, .int .i64 0, .slice none 0 0, .slice none 0 0, .slice none 0 0, .int .i64 0] rfl rfl 53 _ hB.res sMsg' rfl (by simp [Value.oneCell']) ?_)
        have hFc := hF.out
        refine bodyPost_ret (v := .tuple #[.agg #[.int .i64 0, .int .i64 0, .int .i64 0, .int .i64 0, .int .i64 0, .slice none 0 0, .int .i64 0, .int .i64 0, .slice none 0 0, .slice none 0 0, .int .i64 0, .int .i64 0, .slice none 0 0, .int .i64 0, .int .i64 0, .slice none 0 0, .slice none 0 0, .slice none 0 0, .int .i64 0], .int .i64 5]) (results_cell_slot (fn := Try.f22) (p := 2) (q := 3) (ty := 53) rfl _ _ w.heap.size 53 _ (0, 0) _ (.int .i64 5) ⟨rfl, rfl⟩ (setRow_heap _ _ _ _ _ _ hB.res) Try.underlying53 rfl sMsg') rfl ⟨.inl ⟨by rw [hFc]; decide, by rw [hFc]⟩, (Upd.setRow hB.res).below hB.below hB.below.size (Nat.le_refl _)⟩
      | false =>
        obtain ⟨h51, h52⟩ := h5 rfl
        have HCX : Hid (x.c = pM (bs, false)) := hC rfl
        clear h5 h6 hC
        have s1 : w1.cell? ⟨S, 1, none⟩ = some (.int .i64 (a : Int)) := cells_at qS 1 _ rfl
        by_cases hml : a = bs.length
        · have hF : Hid (readF bs = 0) := by
            show _ = _
            rw [HRF.out, if_neg (by decide), if_neg (fun h => h (by rw [h52, hml]; simp))]
          have haI : ¬ (a : Int) < bs.length := by omega
          clear hml h51 h52 HRF
          have hB2 : Below w1.heap.size w1 w1.drew := (Below.refl _ _).drew
          go_upto_region 43 with fail
          have HF9 := messageFault_any x.m x.ss x.bl x.pl x.cbl x.cpl x.vl w1 hA1.at'
          go_wp2_with (refine wpList_load_row rfl 53 _ rfl M rfl 53 #[.int .i64 x.m.fr, .int .i64 x.m.tt, .int .i64 x.m.ki, .int .i64 x.m.bau, .int .i64 x.m.bnu, .slice x.m.bta x.m.btn x.m.btc, .int .i64 x.m.hau, .int .i64 x.m.hrd, .slice x.m.hba x.m.hbn x.m.hbc, .slice x.m.hpa x.m.hpn x.m.hpc, .int .i64 x.m.sau, .int .i64 x.m.srd, .slice x.m.sda x.m.sdn x.m.sdc, .int .i64 x.m.cau, .int .i64 x.m.crd, .slice x.m.cba x.m.cbn x.m.cbc, .slice x.m.cpa x.m.cpn x.m.cpc, .slice x.m.cva x.m.cvn x.m.cvc, .int .i64 x.m.ro] (0, 0) _ hB.box Try.underlying53 rfl sMsg' ?_)
          refine HF9.mono ?_
          rintro e w2 ⟨he, hb2⟩
          subst he
          dsimp only
          clear HF9 s1
          have hD := hB.belowW hb2
          have hA2 : Hid (MAt w2 x) := hA1.below hb2
          have HCR : Hid (carriedF x.m x.ss x.bl x.pl x.cbl x.cpl x.vl = x.car) := rfl
          generalize hCk : checkF x.m (carriedF x.m x.ss x.bl x.pl x.cbl x.cpl x.vl) = C at *
          have HCK : Hid (checkF x.m x.car = C) := hCk
          clear hCk
          by_cases hc0 : C = 0
          · subst hc0
            go_wp2_with (first | refine wpList_load_row rfl 53 _ rfl M rfl 53 #[.int .i64 x.m.fr, .int .i64 x.m.tt, .int .i64 x.m.ki, .int .i64 x.m.bau, .int .i64 x.m.bnu, .slice x.m.bta x.m.btn x.m.btc, .int .i64 x.m.hau, .int .i64 x.m.hrd, .slice x.m.hba x.m.hbn x.m.hbc, .slice x.m.hpa x.m.hpn x.m.hpc, .int .i64 x.m.sau, .int .i64 x.m.srd, .slice x.m.sda x.m.sdn x.m.sdc, .int .i64 x.m.cau, .int .i64 x.m.crd, .slice x.m.cba x.m.cbn x.m.cbc, .slice x.m.cpa x.m.cpn x.m.cpc, .slice x.m.cva x.m.cvn x.m.cvc, .int .i64 x.m.ro] (0, 0) _ hD.box Try.underlying53 rfl sMsg' ?_ | refine wpList_store_row rfl 53 _ _ rfl w.heap.size #[.int .i64 x.m.fr, .int .i64 x.m.tt, .int .i64 x.m.ki, .int .i64 x.m.bau, .int .i64 x.m.bnu, .slice x.m.bta x.m.btn x.m.btc, .int .i64 x.m.hau, .int .i64 x.m.hrd, .slice x.m.hba x.m.hbn x.m.hbc, .slice x.m.hpa x.m.hpn x.m.hpc, .int .i64 x.m.sau, .int .i64 x.m.srd, .slice x.m.sda x.m.sdn x.m.sdc, .int .i64 x.m.cau, .int .i64 x.m.crd, .slice x.m.cba x.m.cbn x.m.cbc, .slice x.m.cpa x.m.cpn x.m.cpc, .slice x.m.cva x.m.cvn x.m.cvc, .int .i64 x.m.ro] rfl rfl 53 _ hD.res sMsg' rfl (by simp [Value.oneCell']) ?_)
            refine bodyPost_ret (v := .tuple #[.agg #[.int .i64 x.m.fr, .int .i64 x.m.tt, .int .i64 x.m.ki, .int .i64 x.m.bau, .int .i64 x.m.bnu, .slice x.m.bta x.m.btn x.m.btc, .int .i64 x.m.hau, .int .i64 x.m.hrd, .slice x.m.hba x.m.hbn x.m.hbc, .slice x.m.hpa x.m.hpn x.m.hpc, .int .i64 x.m.sau, .int .i64 x.m.srd, .slice x.m.sda x.m.sdn x.m.sdc, .int .i64 x.m.cau, .int .i64 x.m.crd, .slice x.m.cba x.m.cbn x.m.cbc, .slice x.m.cpa x.m.cpn x.m.cpc, .slice x.m.cva x.m.cvn x.m.cvc, .int .i64 x.m.ro], .int .i64 0]) (results_cell_slot (fn := Try.f22) (p := 2) (q := 3) (ty := 53) rfl _ _ w.heap.size 53 _ (0, 0) _ (.int .i64 0) ⟨rfl, rfl⟩ (setRow_heap _ _ _ _ _ _ hD.res) Try.underlying53 rfl sMsg') rfl ⟨.inr ⟨hF.out, x, HCX.out, ?_, HH.out.mono (fun q hq => by omega), .inl ⟨HCK.out, rfl⟩⟩, (Upd.setRow hD.res).below hD.below hD.below.size (Nat.le_refl _)⟩
            exact hA2.out.setRow (B := M + 1) (HH.out.mono (fun q hq => by omega)) (by omega)
          · have hcn : (C != 0) = true := by simpa using hc0
            have HC0 : Hid (C ≠ 0) := hc0
            go_wp2_with (refine wpList_store_row rfl 53 _ _ rfl w.heap.size #[.int .i64 0, .int .i64 0, .int .i64 0, .int .i64 0, .int .i64 0, .slice none 0 0, .int .i64 0, .int .i64 0, .slice none 0 0, .slice none 0 0, .int .i64 0, .int .i64 0, .slice none 0 0, .int .i64 0, .int .i64 0, .slice none 0 0, .slice none 0 0, .slice none 0 0, .int .i64 0] rfl rfl 53 _ hD.res sMsg' rfl (by simp [Value.oneCell']) ?_)
            refine bodyPost_ret (v := .tuple #[.agg #[.int .i64 0, .int .i64 0, .int .i64 0, .int .i64 0, .int .i64 0, .slice none 0 0, .int .i64 0, .int .i64 0, .slice none 0 0, .slice none 0 0, .int .i64 0, .int .i64 0, .slice none 0 0, .int .i64 0, .int .i64 0, .slice none 0 0, .slice none 0 0, .slice none 0 0, .int .i64 0], .int .i64 C]) (results_cell_slot (fn := Try.f22) (p := 2) (q := 3) (ty := 53) rfl _ _ w.heap.size 53 _ (0, 0) _ (.int .i64 C) ⟨rfl, rfl⟩ (setRow_heap _ _ _ _ _ _ hD.res) Try.underlying53 rfl sMsg') rfl ⟨.inr ⟨hF.out, x, HCX.out, ?_, HH.out.mono (fun q hq => by omega), .inr ⟨by rw [HCK.out]; exact HC0.out, by rw [HCK.out]⟩⟩, (Upd.setRow hD.res).below hD.below hD.below.size (Nat.le_refl _)⟩
            exact hA2.out.setRow (B := M + 1) (HH.out.mono (fun q hq => by omega)) (by omega)
        · have hF : Hid (readF bs = 4) := by
            show _ = _
            rw [HRF.out, if_neg (by decide), if_pos (fun h => hml (by rw [h52, List.drop_eq_nil_iff] at h; omega))]
          have haI : (a : Int) < bs.length := by omega
          clear hml h51 h52 HRF
          go_wp2_with (refine wpList_store_row rfl 53 _ _ rfl w.heap.size #[.int .i64 0, .int .i64 0, .int .i64 0, .int .i64 0, .int .i64 0, .slice none 0 0, .int .i64 0, .int .i64 0, .slice none 0 0, .slice none 0 0, .int .i64 0, .int .i64 0, .slice none 0 0, .int .i64 0, .int .i64 0, .slice none 0 0, .slice none 0 0, .slice none 0 0, .int .i64 0] rfl rfl 53 _ hB.res sMsg' rfl (by simp [Value.oneCell']) ?_)
          have hFc := hF.out
          refine bodyPost_ret (v := .tuple #[.agg #[.int .i64 0, .int .i64 0, .int .i64 0, .int .i64 0, .int .i64 0, .slice none 0 0, .int .i64 0, .int .i64 0, .slice none 0 0, .slice none 0 0, .int .i64 0, .int .i64 0, .slice none 0 0, .int .i64 0, .int .i64 0, .slice none 0 0, .slice none 0 0, .slice none 0 0, .int .i64 0], .int .i64 4]) (results_cell_slot (fn := Try.f22) (p := 2) (q := 3) (ty := 53) rfl _ _ w.heap.size 53 _ (0, 0) _ (.int .i64 4) ⟨rfl, rfl⟩ (setRow_heap _ _ _ _ _ _ hB.res) Try.underlying53 rfl sMsg') rfl ⟨.inl ⟨by rw [hFc]; decide, by rw [hFc]⟩, (Upd.setRow hB.res).below hB.below hB.below.size (Nat.le_refl _)⟩
end Go.Proofs.Ytldlknmpkoebbaa
