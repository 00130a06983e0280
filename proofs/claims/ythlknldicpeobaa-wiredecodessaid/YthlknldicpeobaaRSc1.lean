/- The document's scan of bytes: next, num, over. -/
import Derived.Test.YthlknldicpeobaaRdS
import Derived.Test.YthlknldicpeobaaJoined
import Derived.Test.YthlknldicpeobaaCallsG
import Derived.Deep.RegionHeld3
namespace Go.Proofs.Ythlknldicpeobaa
open Go.RowKit

/-- A scan: what is left to it, and whether it has gone beyond the end. -/
structure ScAt (w : World) (S : Nat) (b : List Int) (s : St) (N : Nat) : Prop where
  out : ∃ (ba : Option Addr) (bc a : Nat), w.heap[S]? = some (.cells #[.slice ba b.length bc, .int .i64 (a : Int)] 55 (0, 0)) ∧ SliceAt w ba bc b ∧ (∀ sb so, ba = some ⟨sb, so, none⟩ → sb < S) ∧ a ≤ N ∧ (s.2 = false → a ≤ b.length ∧ s.1 = b.drop a) ∧ (s.2 = true → b.length < a)
set_option maxRecDepth 100000 in
theorem ScAt.below {w w' : World} {S : Nat} {b : List Int} {s : St} {N : Nat} (h : ScAt w S b s N) (hb : Below w.heap.size w w') : ScAt w' S b s N := by
  obtain ⟨ba, bc, a, h1, h2, h3⟩ := h.out
  exact ⟨ba, bc, a, (hb.block _ (lt_of_heap h1)).trans h1, h2.below hb, h3⟩
set_option maxRecDepth 100000 in
theorem ScAt.lt {w : World} {S : Nat} {b : List Int} {s : St} {N : Nat} (h : ScAt w S b s N) : S < w.heap.size := by
  obtain ⟨ba, bc, a, h1, _⟩ := h.out
  exact lt_of_heap h1
set_option maxRecDepth 100000 in
theorem ScAt.mono {w : World} {S : Nat} {b : List Int} {s : St} {N M : Nat} (h : ScAt w S b s N) (hm : N ≤ M) : ScAt w S b s M := by
  obtain ⟨ba, bc, a, h1, h2, h3, h4, h5⟩ := h.out
  exact ⟨ba, bc, a, h1, h2, h3, Nat.le_trans h4 hm, h5⟩
set_option maxRecDepth 100000 in
/-- As long as it is not beyond, it is within. -/
theorem ScAt.within {w : World} {S : Nat} {b : List Int} {s : St} {N : Nat} (h : ScAt w S b s N) (hs : s.2 = false) : ScAt w S b s b.length := by
  obtain ⟨ba, bc, a, h1, h2, h3, h4, h5, h6⟩ := h.out
  exact ⟨ba, bc, a, h1, h2, h3, (h5 hs).1, h5, h6⟩
set_option maxRecDepth 100000 in
/-- What changes newer blocks alone leaves it. -/
theorem ScAt.stays {w w' : World} {S : Nat} {b : List Int} {s : St} {N : Nat} (h : ScAt w S b s N) (hk : ∀ k, k ≤ S → w'.heap[k]? = w.heap[k]?) : ScAt w' S b s N := by
  obtain ⟨ba, bc, a, h1, h2, h3, h4⟩ := h.out
  refine ⟨ba, bc, a, (hk S (Nat.le_refl _)).trans h1, ⟨h2.le, h2.max, h2.some, h2.nil, ?_⟩, h3, h4⟩
  rcases h2.bytes with hz | ⟨sb, so, e, hc⟩
  · exact .inl hz
  · exact .inr ⟨sb, so, e, fun k hk' => (World.cell?_of_block (hk sb (Nat.le_of_lt (h3 sb so e)))).trans (hc k hk')⟩
set_option maxRecDepth 100000 in
theorem ScAt.beyond {w : World} {S : Nat} {b : List Int} {s t : St} {N : Nat} (h : ScAt w S b s N) (h1 : s.2 = true) (h2 : t.2 = true) : ScAt w S b t N := by
  obtain ⟨ba, bc, a, g1, g2, g3, g4, g5, g6⟩ := h.out
  exact ⟨ba, bc, a, g1, g2, g3, g4, (fun h9 => by rw [h2] at h9; cases h9), fun _ => g6 h1⟩
set_option maxRecDepth 100000 in
theorem over_sc (S : Nat) (b : List Int) (s : St) (N : Nat) (w : World) (h : ScAt w S b s N) :
    Calls Try.prog 18 #[.pointer (some ⟨S, 0, none⟩)] w fun e w' => e = .returned (.bool s.2) ∧ Below w.heap.size w w' := by
  obtain ⟨ba, bc, a, q0, hb, hne, ha, h5, h6⟩ := h.out
  have c0 : w.cell? ⟨S, 0, none⟩ = some (.slice ba b.length bc) := cells_at q0 0 _ rfl
  have c1 : w.cell? ⟨S, 1, none⟩ = some (.int .i64 (a : Int)) := cells_at q0 1 _ rfl
  have hB : Below w.heap.size w w.drew := (Below.refl _ _).drew
  cases hs : s.2 with
  | false =>
    have h1 := (h5 hs).1
    have h1I : ¬ (b.length : Int) < a := by omega
    clear h5 h6 hs h
    go_enter Try.func18, Try.ntmps18
    go_wp2_with fail
    go_region_held3 (fun w' => w'.cell? ⟨S, 0, none⟩ = some (.slice ba b.length bc) ∧ w'.cell? ⟨S, 1, none⟩ = some (.int .i64 (a : Int))) (go_keep) (fail)
    all_goals
      go_wp2_with fail
      go_ret
      refine ⟨?_, hB⟩
      first | rfl | simp [h1] | (simp; omega)
  | true =>
    have h1 := h6 hs
    have h1I : (b.length : Int) < a := by omega
    clear h5 h6 hs h
    go_enter Try.func18, Try.ntmps18
    go_wp2_with fail
    go_region_held3 (fun w' => w'.cell? ⟨S, 0, none⟩ = some (.slice ba b.length bc) ∧ w'.cell? ⟨S, 1, none⟩ = some (.int .i64 (a : Int))) (go_keep) (fail)
    all_goals
      go_wp2_with fail
      go_ret
      refine ⟨?_, hB⟩
      first | rfl | simp [h1] | (simp; omega)
set_option maxRecDepth 100000 in
theorem joinedN (xs : List Int) (sa : Option Addr) (n c : Nat) (w : World) (hn : n = xs.length) (ha : SliceAt w sa c xs) (hl : xs.length ≤ 140737488355328) :
    Calls Try.prog 31 #[.slice sa n c, .slice none 0 0] w fun e w' => ∃ ra rc, e = .returned (.slice ra xs.length rc) ∧ SliceAt w' ra rc xs ∧ (∀ sb so, ra = some ⟨sb, so, none⟩ → w.heap.size ≤ sb ∧ sb < w'.heap.size) ∧ Below w.heap.size w w' := by
  refine (joined_any xs [] sa none n 0 c 0 w hn rfl ha ⟨Nat.le_refl _, by decide, .inl rfl, fun _ => rfl, .inl rfl⟩ (by simpa using hl)).mono ?_
  rintro e w1 ⟨v, he, ho, hb⟩
  simp only [List.append_nil, List.length_nil, Nat.add_zero] at ho
  obtain ⟨ra, rc, hv, _, hs⟩ := owns_form ho
  have hlt := ho.lt
  subst hv
  exact ⟨ra, rc, he, hs, fun sb so e => hlt sb (by rw [e]; rfl), hb⟩
set_option maxRecDepth 100000 in
theorem zsliceN {w : World} {b n : Nat} {l : List Int} (h : w.heap[b]? = some (.cells (ub l).toArray 5 (0, 0))) (hn : n = l.length) (hm : n ≤ maxLen) : SliceAt w (some ⟨b, 0, none⟩) n l := by
  subst hn
  refine ⟨Nat.le_refl _, hm, .inr ⟨b, 0, rfl⟩, (fun e => by cases e), .inr ⟨b, 0, rfl, fun j hj => ?_⟩⟩
  rw [cell_of_row w b _ _ _ _ h, Nat.zero_add]
  simp [ub, hj]
set_option maxRecDepth 100000 in
theorem makeB9 (K : Nat) (hK : K ≤ 500000) : ∃ ZZ : Array Value, (∀ w : World, (Instr.makeSlice 22 (.int .i64 (K : Int)) (.int .i64 (K : Int))).run Try.prog w = .ok (.slice (some ⟨w.heap.size, 0, none⟩) K K) (w.alloc (.cells ZZ 5))) ∧ ∀ w : World, SliceAt (w.alloc (.cells ZZ 5)) (some ⟨w.heap.size, 0, none⟩) K (List.replicate K 0) := by
  obtain ⟨i, hi, hz0, hz1, hz2⟩ := info_parts infoU8
  refine ⟨madeCells (Value.int .u8 0).cells (K * 1), fun w => ?_, fun w => ?_⟩
  · have h := run_make (P := Try.prog) w 22 5 i (.int .u8 0) Try.underlying22 hi hz0 .i64 .i64 (K : Int) (K : Int) (by omega) (Int.le_refl _) (by rw [hz2]; omega) (by omega)
    simpa [hz1] using h
  · have h := World.ownsRow_lit (base := w.heap.size) (e := 5) (size := 1) w (madeCells (Value.int .u8 0).cells (K * 1)) K (Nat.le_refl _) (by unfold maxLen; omega) (size_madeCells _ _)
    rw [zeros_made] at h
    exact (sliceAt_of_owns h).2
/-- What next gives. -/
structure NextIs (w w' : World) (e : Ending) (S : Nat) (b : List Int) (s : St) (N n : Nat) : Prop where
  out : ∃ (ra : Option Addr) (rc : Nat) (t : List Int), e = .returned (.slice ra t.length rc) ∧ SliceAt w' ra rc t ∧ (∀ sb so, ra = some ⟨sb, so, none⟩ → w.heap.size ≤ sb ∧ sb < w'.heap.size) ∧ ((nx n s).2 = false → t = tT n s) ∧ ((nx n s).2 = true → t = List.replicate n 0) ∧ ScAt w' S b (nx n s) (N + n) ∧ Only S w w'
set_option maxRecDepth 100000 in
set_option maxHeartbeats 2000000 in
theorem next_sc (S n : Nat) (b : List Int) (s : St) (N : Nat) (w : World) (h : ScAt w S b s N) (hn : n ≤ 255) (hN : N ≤ 1000000) :
    Calls Try.prog 19 #[.pointer (some ⟨S, 0, none⟩), .int .i64 (n : Int)] w fun e w' => NextIs w w' e S b s N n := by
  obtain ⟨ba, bc, a, q0, hb, hne, ha, h5, h6⟩ := h.out
  have hlt := h.lt
  have c0 : w.cell? ⟨S, 0, none⟩ = some (.slice ba b.length bc) := cells_at q0 0 _ rfl
  have c1 : w.cell? ⟨S, 1, none⟩ = some (.int .i64 (a : Int)) := cells_at q0 1 _ rfl
  have f1 := frozen_at q0 1
  have hw1 : IntKind.i64.wrap ((a : Int) + n) = (a : Int) + n := by rw [IntKind.wrap_i64]; omega
  have q1 : (w.setCell ⟨S, 1, none⟩ (.int .i64 ((a : Int) + n))).heap[S]? = some (.cells #[.slice ba b.length bc, .int .i64 ((a : Int) + n)] 55 (0, 0)) := by simpa using heap_setCell_same _ _ 1 _ _ (.int .i64 ((a : Int) + n)) q0
  have hO1 : Only S w (w.setCell ⟨S, 1, none⟩ (.int .i64 ((a : Int) + n))) := (Only.refl S w).setCell
  have hb1 : SliceAt (w.setCell ⟨S, 1, none⟩ (.int .i64 ((a : Int) + n))) ba bc b := hb.only hO1 (fun sb so e => Nat.ne_of_lt (hne sb so e))
  have hov : Hid (((nx n s).2 = true ↔ b.length < a + n) ∧ (a + n ≤ b.length → (nx n s).1 = b.drop (a + n) ∧ tT n s = (b.drop a).take n)) := by
    show _ ∧ _
    obtain ⟨s1, s2⟩ := s
    cases s2 with
    | true =>
      have := h6 rfl
      refine ⟨⟨fun _ => by omega, fun _ => by simp [nx, tkS]⟩, fun h9 => by omega⟩
    | false =>
      obtain ⟨h7, h8⟩ := h5 rfl
      have h8' : s1 = b.drop a := h8
      have hl1 : s1.length = b.length - a := by rw [h8', List.length_drop]
      refine ⟨?_, fun h9 => ?_⟩
      · show tkS n s1 false = true ↔ _
        simp [tkS]
        omega
      · have h10 := tk_ok (n := n) (l := s1) (by omega)
        exact ⟨by show tkL n s1 false = _; rw [h10.2.1, h8', List.drop_drop], by show tkT n s1 false = _; rw [h10.1, h8']⟩
  have hle := hb.le
  clear h5 h6 h
  go_enter Try.func19, Try.ntmps19
  go_upto_region 3 with fail
  generalize hWq : w.setCell ⟨S, 1, none⟩ (.int .i64 ((a : Int) + n)) = W1 at q1 hO1 hb1 ⊢
  clear hWq c0 c1 f1 q0 hb
  have c0 : W1.cell? ⟨S, 0, none⟩ = some (.slice ba b.length bc) := cells_at q1 0 _ rfl
  have c1 : W1.cell? ⟨S, 1, none⟩ = some (.int .i64 ((a : Int) + n)) := cells_at q1 1 _ rfl
  have hSz : S < W1.heap.size := lt_of_heap q1
  by_cases hv : b.length < a + n
  · have hvI : (b.length : Int) < (a : Int) + n := by omega
    have hOv : Hid ((nx n s).2 = true) := hov.out.1.2 hv
    have hnI : (n : Int) ≤ 300 := by omega
    obtain ⟨ZZ, hmk, hzs⟩ := makeB9 n (by omega)
    have q1' : W1.heap[S]? = some (.cells #[.slice ba b.length bc, .int .i64 ((a + n : Nat) : Int)] 55 (0, 0)) := by simpa using q1
    have HZ : Hid (∀ W : World, SliceAt (W.alloc (.cells ZZ 5)) (some ⟨W.heap.size, 0, none⟩) n (List.replicate n 0)) := hzs
    have Hv : Hid (b.length < a + n) := hv
    clear hzs
    clear hov hv
    go_region_held3 (fun w' => w'.cell? ⟨S, 0, none⟩ = some (.slice ba b.length bc) ∧ w'.cell? ⟨S, 1, none⟩ = some (.int .i64 ((a : Int) + n))) (go_keep) (fail)
    all_goals
      have hm := hmk W1.drew
      clear hmk
      go_wp2_with fail
      have hB2 : Below W1.heap.size W1 (W1.drew.alloc (.cells ZZ 5)) := (Below.refl W1.heap.size W1).drew.alloc (Nat.le_refl _) _
      have hz9 := HZ.out W1.drew
      go_ret
      refine ⟨some ⟨W1.heap.size, 0, none⟩, n, List.replicate n 0, by rw [List.length_replicate]; rfl, hz9, fun sb so e => ?_, fun h9 => ?_, fun _ => rfl, ?_, hO1.trans (only_of_below hB2)⟩
      · cases e
        exact ⟨hO1.size, by simp⟩
      · rw [hOv.out] at h9; cases h9
      · exact ⟨ba, bc, a + n, (hB2.block _ hSz).trans q1', hb1.below hB2, hne, by omega, (fun h9 => by rw [hOv.out] at h9; cases h9), fun _ => Hv.out⟩
  · have hvI : ¬ (b.length : Int) < (a : Int) + n := by omega
    have hOv : Hid ((nx n s).2 = false) := by
      show _ = _
      cases h9 : (nx n s).2 with
      | false => rfl
      | true => exact absurd (hov.out.1.1 h9) hv
    obtain ⟨e1, e2⟩ := hov.out.2 (by omega)
    have HE : Hid ((nx n s).1 = b.drop (a + n) ∧ tT n s = (b.drop a).take n ∧ a + n ≤ b.length) := ⟨e1, e2, by omega⟩
    have q1' : W1.heap[S]? = some (.cells #[.slice ba b.length bc, .int .i64 ((a + n : Nat) : Int)] 55 (0, 0)) := by simpa using q1
    have hble := hb1.le
    obtain ⟨xa, xc, hX, hcase⟩ : ∃ (xa : Option Addr) (xc : Nat), SliceAt W1 xa xc ((b.drop a).take n) ∧ ((a = bc ∧ n = 0 ∧ xa = ba ∧ xc = 0) ∨ ∃ sb so, ba = some ⟨sb, so, none⟩ ∧ a < bc ∧ xa = some ⟨sb, so + a, none⟩ ∧ xc = bc - a) := by
      by_cases hab : a = bc
      · refine ⟨ba, 0, ?_, .inl ⟨hab, by omega, rfl, rfl⟩⟩
        have h9 := hb1.takeR 0 0 (Nat.zero_le _) (Nat.le_refl _) (Nat.zero_le _) (fun _ => rfl)
        have : (b.drop a).take n = [] := by rw [show n = 0 by omega]; simp
        rw [this]
        simpa using h9
      · rcases hb1.some with h9 | ⟨sb, so, h9⟩
        · omega
        · subst h9
          refine ⟨some ⟨sb, so + a, none⟩, bc - a, ?_, .inr ⟨sb, so, rfl, by omega, rfl, rfl⟩⟩
          exact (cut_slice hb1 (by omega)).takeR n (bc - a) (by rw [List.length_drop]; omega) (by omega) (Nat.le_refl _) (fun e => by cases e)
    have hXl : ((b.drop a).take n).length = n := by rw [List.length_take, List.length_drop]; omega
    have HJ : Hid (∀ W : World, Below W1.heap.size W1 W → Calls Try.prog 31 #[.slice xa n xc, .slice none 0 0] W fun e w' => ∃ v, e = .returned v ∧ ((∃ ra rc, v = .slice ra n rc ∧ SliceAt w' ra rc ((b.drop a).take n) ∧ (∀ sb so, ra = some ⟨sb, so, none⟩ → W.heap.size ≤ sb ∧ sb < w'.heap.size)) ∧ Below W.heap.size W w')) := by
      show ∀ _, _
      intro W hW
      refine (joinedN ((b.drop a).take n) xa n xc W hXl.symm (hX.below hW) (by omega)).mono ?_
      rintro e w' ⟨ra, rc, he, h1, h2, h3⟩
      rw [hXl] at he
      exact ⟨_, he, ⟨ra, rc, rfl, h1, h2⟩, h3⟩
    have HXl : Hid _ := hXl
    clear hov e1 e2 hX hXl
    go_region_held3 (fun w' => w'.cell? ⟨S, 0, none⟩ = some (.slice ba b.length bc) ∧ w'.cell? ⟨S, 1, none⟩ = some (.int .i64 ((a : Int) + n))) (go_keep) (fail)
    all_goals
      go_upto_region 5 with fail
      have d0 : W1.drew.drew.cell? ⟨S, 0, none⟩ = some (.slice ba b.length bc) := c0
      have d1 : W1.drew.drew.cell? ⟨S, 1, none⟩ = some (.int .i64 ((a : Int) + n)) := c1
      have hV : Below W1.heap.size W1 W1.drew.drew := (Below.refl W1.heap.size W1).drew.drew
      have aI : (a : Int) ≤ (a : Int) + n := by omega
      have bI : (a : Int) + n ≤ bc := by omega
      have a0 : (0 : Int) ≤ a := by omega
      have hto : ((a : Int) + n).toNat - a = n := by omega
      rcases hcase with ⟨hab, hn0, rfl, rfl⟩ | ⟨sb, so, rfl, hab, rfl, rfl⟩
      · subst hab hn0
        refine wp_region_held_drew (S := fun w' => w'.cell? ⟨S, 0, none⟩ = some (.slice xa b.length a) ∧ w'.cell? ⟨S, 1, none⟩ = some (.int .i64 ((a : Int) + ((0 : Nat) : Int)))) (by kernel_rfl) ⟨d0, d1⟩ (fun hHeld => ?_)
        generalize W1.drew.drew = V5 at d0 d1 hV hHeld ⊢
        refine take_dst (i := 0) (d := 32) (v := .pointer (some ⟨S, 0, none⟩)) rfl rfl (by kernel_rfl) (by kernel_rfl) (by kernel_rfl) (fun _ _ _ h => h) (Or.inl ⟨by rfl, ?_⟩) hHeld ?_
        · (intro w0 hSw; (try dsimp only at hSw); go_simp)
        simp only [Act.put, List.setIfInBounds_toArray, List.set_cons_zero, List.set_cons_succ]
        refine take_dst (i := 1) (d := 33) (v := .pointer (some ⟨S, 0, none⟩)) rfl rfl (by kernel_rfl) (by kernel_rfl) (by kernel_rfl) (fun _ _ _ h => h) (Or.inl ⟨by rfl, ?_⟩) hHeld ?_
        · (intro w0 hSw; (try dsimp only at hSw); go_simp)
        simp only [Act.put, List.setIfInBounds_toArray, List.set_cons_zero, List.set_cons_succ]
        refine take_dst (i := 2) (d := 34) (v := .pointer (some ⟨S, 0, none⟩)) rfl rfl (by kernel_rfl) (by kernel_rfl) (by kernel_rfl) (fun _ _ _ h => h) (Or.inl ⟨by rfl, ?_⟩) hHeld ?_
        · (intro w0 hSw; (try dsimp only at hSw); go_simp)
        simp only [Act.put, List.setIfInBounds_toArray, List.set_cons_zero, List.set_cons_succ]
        refine take_dst (i := 3) (d := 35) (v := .slice xa b.length a) rfl rfl (by kernel_rfl) (by kernel_rfl) (by kernel_rfl) (fun _ _ _ h => h) (Or.inl ⟨by rfl, ?_⟩) hHeld ?_
        · (intro w0 hSw; (try dsimp only at hSw); go_simp)
        simp only [Act.put, List.setIfInBounds_toArray, List.set_cons_zero, List.set_cons_succ]
        refine take_dst (i := 4) (d := 36) (v := .int .i64 (a : Int)) rfl rfl (by kernel_rfl) (by kernel_rfl) (by kernel_rfl) (fun _ _ _ h => h) (Or.inl ⟨by rfl, ?_⟩) hHeld ?_
        · (intro w0 hSw; (try dsimp only at hSw); go_simp)
        simp only [Act.put, List.setIfInBounds_toArray, List.set_cons_zero, List.set_cons_succ]
        refine take_dst (i := 5) (d := 37) (v := .pointer (some ⟨S, 0, none⟩)) rfl rfl (by kernel_rfl) (by kernel_rfl) (by kernel_rfl) (fun _ _ _ h => h) (Or.inl ⟨by rfl, ?_⟩) hHeld ?_
        · (intro w0 hSw; (try dsimp only at hSw); go_simp)
        simp only [Act.put, List.setIfInBounds_toArray, List.set_cons_zero, List.set_cons_succ]
        refine take_dst (i := 6) (d := 38) (v := .pointer (some ⟨S, 0, none⟩)) rfl rfl (by kernel_rfl) (by kernel_rfl) (by kernel_rfl) (fun _ _ _ h => h) (Or.inl ⟨by rfl, ?_⟩) hHeld ?_
        · (intro w0 hSw; (try dsimp only at hSw); go_simp)
        simp only [Act.put, List.setIfInBounds_toArray, List.set_cons_zero, List.set_cons_succ]
        refine take_dst (i := 7) (d := 39) (v := .pointer (some ⟨S, 1, none⟩)) rfl rfl (by kernel_rfl) (by kernel_rfl) (by kernel_rfl) (fun _ _ _ h => h) (Or.inl ⟨by rfl, ?_⟩) hHeld ?_
        · (intro w0 hSw; (try dsimp only at hSw); go_simp)
        simp only [Act.put, List.setIfInBounds_toArray, List.set_cons_zero, List.set_cons_succ]
        refine take_dst (i := 8) (d := 40) (v := .int .i64 ((a : Int) + ((0 : Nat) : Int))) rfl rfl (by kernel_rfl) (by kernel_rfl) (by kernel_rfl) (fun _ _ _ h => h) (Or.inl ⟨by rfl, ?_⟩) hHeld ?_
        · (intro w0 hSw; (try dsimp only at hSw); go_simp)
        simp only [Act.put, List.setIfInBounds_toArray, List.set_cons_zero, List.set_cons_succ]
        refine take_dst (i := 9) (d := 41) (v := .slice xa 0 0) rfl rfl (by kernel_rfl) (by kernel_rfl) (by kernel_rfl) (fun _ _ _ h => h) (Or.inl ⟨by rfl, ?_⟩) hHeld ?_
        · (intro w0 hSw; (try dsimp only at hSw); go_simp)
        simp only [Act.put, List.setIfInBounds_toArray, List.set_cons_zero, List.set_cons_succ]
        refine wpAnyH_ready (rs := [10]) (by kernel_rfl) (by simp) (AllReadyH.cons rfl (fun KK hK => ?_) AllReadyH.nil)
        refine step_calls_on (by rfl) 42 rfl 31 [.tmp 41, .const (.slice none 0 0)] #[22, 22] rfl [.slice xa 0 0, .slice none 0 0] rfl (enters_of Try.func31 (by kernel_rfl) rfl) (fun v w' => (∃ ra rc, v = .slice ra 0 rc ∧ SliceAt w' ra rc ((b.drop a).take 0) ∧ (∀ sb so, ra = some ⟨sb, so, none⟩ → V5.heap.size ≤ sb ∧ sb < w'.heap.size)) ∧ Below V5.heap.size V5 w') (HJ.out V5 hV) ?_
        rintro v V6 ⟨⟨ra, rc, rfl, hS6, hf6⟩, hb6⟩
        have hB6 := hV.trans (hb6.mono hV.size)
        refine hK.out _ _ ⟨(hB6.cell (p := ⟨S, 0, none⟩) hSz).trans c0, (hB6.cell (p := ⟨S, 1, none⟩) hSz).trans c1⟩ (fun hHeld => ?_)
        simp only [Act.put, List.setIfInBounds_toArray, List.set_cons_zero, List.set_cons_succ]
        refine take_dst (i := 11) (d := 4) (v := .slice ra 0 rc) rfl rfl (by kernel_rfl) (by kernel_rfl) (by kernel_rfl) (fun _ _ _ h => h) (Or.inl ⟨by rfl, ?_⟩) hHeld ?_
        · (intro w0 hSw; (try dsimp only at hSw); go_simp)
        simp only [Act.put, List.setIfInBounds_toArray, List.set_cons_zero, List.set_cons_succ]
        refine wpAnyH_done (by kernel_rfl) ?_ _
        go_wp2_with fail
        go_ret
        refine ⟨ra, rc, (b.drop a).take 0, by rw [HXl.out]; rfl, hS6, fun sb so e => ?_, fun _ => HE.out.2.1.symm, fun h9 => ?_, ?_, hO1.trans (only_of_below hB6)⟩
        · have h1 := hf6 sb so e
          have h2 := hV.size
          have h3 := hO1.size
          exact ⟨by omega, h1.2⟩
        · rw [hOv.out] at h9; cases h9
        · exact ⟨xa, a, a + 0, (hB6.block _ hSz).trans q1', hb1.below hB6, hne, by omega, fun _ => ⟨HE.out.2.2, HE.out.1⟩, fun h9 => by rw [hOv.out] at h9; cases h9⟩
      · have habI : ¬ bc = a := by omega
        have habJ : (a : Int) < bc := by omega
        refine wp_region_held_drew (S := fun w' => w'.cell? ⟨S, 0, none⟩ = some (.slice (some ⟨sb, so, none⟩) b.length bc) ∧ w'.cell? ⟨S, 1, none⟩ = some (.int .i64 ((a : Int) + n))) (by kernel_rfl) ⟨d0, d1⟩ (fun hHeld => ?_)
        generalize W1.drew.drew = V5 at d0 d1 hV hHeld ⊢
        refine take_dst (i := 0) (d := 32) (v := .pointer (some ⟨S, 0, none⟩)) rfl rfl (by kernel_rfl) (by kernel_rfl) (by kernel_rfl) (fun _ _ _ h => h) (Or.inl ⟨by rfl, ?_⟩) hHeld ?_
        · (intro w0 hSw; (try dsimp only at hSw); go_simp)
        simp only [Act.put, List.setIfInBounds_toArray, List.set_cons_zero, List.set_cons_succ]
        refine take_dst (i := 1) (d := 33) (v := .pointer (some ⟨S, 0, none⟩)) rfl rfl (by kernel_rfl) (by kernel_rfl) (by kernel_rfl) (fun _ _ _ h => h) (Or.inl ⟨by rfl, ?_⟩) hHeld ?_
        · (intro w0 hSw; (try dsimp only at hSw); go_simp)
        simp only [Act.put, List.setIfInBounds_toArray, List.set_cons_zero, List.set_cons_succ]
        refine take_dst (i := 2) (d := 34) (v := .pointer (some ⟨S, 0, none⟩)) rfl rfl (by kernel_rfl) (by kernel_rfl) (by kernel_rfl) (fun _ _ _ h => h) (Or.inl ⟨by rfl, ?_⟩) hHeld ?_
        · (intro w0 hSw; (try dsimp only at hSw); go_simp)
        simp only [Act.put, List.setIfInBounds_toArray, List.set_cons_zero, List.set_cons_succ]
        refine take_dst (i := 3) (d := 35) (v := .slice (some ⟨sb, so, none⟩) b.length bc) rfl rfl (by kernel_rfl) (by kernel_rfl) (by kernel_rfl) (fun _ _ _ h => h) (Or.inl ⟨by rfl, ?_⟩) hHeld ?_
        · (intro w0 hSw; (try dsimp only at hSw); go_simp)
        simp only [Act.put, List.setIfInBounds_toArray, List.set_cons_zero, List.set_cons_succ]
        refine take_dst (i := 4) (d := 36) (v := .int .i64 (a : Int)) rfl rfl (by kernel_rfl) (by kernel_rfl) (by kernel_rfl) (fun _ _ _ h => h) (Or.inl ⟨by rfl, ?_⟩) hHeld ?_
        · (intro w0 hSw; (try dsimp only at hSw); go_simp)
        simp only [Act.put, List.setIfInBounds_toArray, List.set_cons_zero, List.set_cons_succ]
        refine take_dst (i := 5) (d := 37) (v := .pointer (some ⟨S, 0, none⟩)) rfl rfl (by kernel_rfl) (by kernel_rfl) (by kernel_rfl) (fun _ _ _ h => h) (Or.inl ⟨by rfl, ?_⟩) hHeld ?_
        · (intro w0 hSw; (try dsimp only at hSw); go_simp)
        simp only [Act.put, List.setIfInBounds_toArray, List.set_cons_zero, List.set_cons_succ]
        refine take_dst (i := 6) (d := 38) (v := .pointer (some ⟨S, 0, none⟩)) rfl rfl (by kernel_rfl) (by kernel_rfl) (by kernel_rfl) (fun _ _ _ h => h) (Or.inl ⟨by rfl, ?_⟩) hHeld ?_
        · (intro w0 hSw; (try dsimp only at hSw); go_simp)
        simp only [Act.put, List.setIfInBounds_toArray, List.set_cons_zero, List.set_cons_succ]
        refine take_dst (i := 7) (d := 39) (v := .pointer (some ⟨S, 1, none⟩)) rfl rfl (by kernel_rfl) (by kernel_rfl) (by kernel_rfl) (fun _ _ _ h => h) (Or.inl ⟨by rfl, ?_⟩) hHeld ?_
        · (intro w0 hSw; (try dsimp only at hSw); go_simp)
        simp only [Act.put, List.setIfInBounds_toArray, List.set_cons_zero, List.set_cons_succ]
        refine take_dst (i := 8) (d := 40) (v := .int .i64 ((a : Int) + n)) rfl rfl (by kernel_rfl) (by kernel_rfl) (by kernel_rfl) (fun _ _ _ h => h) (Or.inl ⟨by rfl, ?_⟩) hHeld ?_
        · (intro w0 hSw; (try dsimp only at hSw); go_simp)
        simp only [Act.put, List.setIfInBounds_toArray, List.set_cons_zero, List.set_cons_succ]
        refine take_dst (i := 9) (d := 41) (v := .slice (some ⟨sb, so + a, none⟩) n (bc - a)) rfl rfl (by kernel_rfl) (by kernel_rfl) (by kernel_rfl) (fun _ _ _ h => h) (Or.inl ⟨by rfl, ?_⟩) hHeld ?_
        · (intro w0 hSw; (try dsimp only at hSw); go_simp)
        simp only [Act.put, List.setIfInBounds_toArray, List.set_cons_zero, List.set_cons_succ]
        refine wpAnyH_ready (rs := [10]) (by kernel_rfl) (by simp) (AllReadyH.cons rfl (fun KK hK => ?_) AllReadyH.nil)
        refine step_calls_on (by rfl) 42 rfl 31 [.tmp 41, .const (.slice none 0 0)] #[22, 22] rfl [.slice (some ⟨sb, so + a, none⟩) n (bc - a), .slice none 0 0] rfl (enters_of Try.func31 (by kernel_rfl) rfl) (fun v w' => (∃ ra rc, v = .slice ra n rc ∧ SliceAt w' ra rc ((b.drop a).take n) ∧ (∀ sb so, ra = some ⟨sb, so, none⟩ → V5.heap.size ≤ sb ∧ sb < w'.heap.size)) ∧ Below V5.heap.size V5 w') (HJ.out V5 hV) ?_
        rintro v V6 ⟨⟨ra, rc, rfl, hS6, hf6⟩, hb6⟩
        have hB6 := hV.trans (hb6.mono hV.size)
        refine hK.out _ _ ⟨(hB6.cell (p := ⟨S, 0, none⟩) hSz).trans c0, (hB6.cell (p := ⟨S, 1, none⟩) hSz).trans c1⟩ (fun hHeld => ?_)
        simp only [Act.put, List.setIfInBounds_toArray, List.set_cons_zero, List.set_cons_succ]
        refine take_dst (i := 11) (d := 4) (v := .slice ra n rc) rfl rfl (by kernel_rfl) (by kernel_rfl) (by kernel_rfl) (fun _ _ _ h => h) (Or.inl ⟨by rfl, ?_⟩) hHeld ?_
        · (intro w0 hSw; (try dsimp only at hSw); go_simp)
        simp only [Act.put, List.setIfInBounds_toArray, List.set_cons_zero, List.set_cons_succ]
        refine wpAnyH_done (by kernel_rfl) ?_ _
        go_wp2_with fail
        go_ret
        refine ⟨ra, rc, (b.drop a).take n, by rw [HXl.out]; rfl, hS6, fun sb so e => ?_, fun _ => HE.out.2.1.symm, fun h9 => ?_, ?_, hO1.trans (only_of_below hB6)⟩
        · have h1 := hf6 sb so e
          have h2 := hV.size
          have h3 := hO1.size
          exact ⟨by omega, h1.2⟩
        · rw [hOv.out] at h9; cases h9
        · exact ⟨(some ⟨sb, so, none⟩), bc, a + n, (hB6.block _ hSz).trans q1', hb1.below hB6, hne, by omega, fun _ => ⟨HE.out.2.2, HE.out.1⟩, fun h9 => by rw [hOv.out] at h9; cases h9⟩

set_option maxRecDepth 100000 in
theorem U8s.zeros (n : Nat) : U8s (List.replicate n 0) := fun x hx => by rw [List.eq_of_mem_replicate hx]; omega
/-- What num gives. -/
structure NumSc (w w' : World) (e : Ending) (S : Nat) (b : List Int) (s : St) (N n : Nat) : Prop where
  out : ∃ v : Int, e = .returned (.int .i64 v) ∧ 0 ≤ v ∧ v ≤ 16777215 ∧ (n = 1 → v ≤ 255) ∧ ((nx n s).2 = false → v = nB n s) ∧ ScAt w' S b (nx n s) (N + n) ∧ Only S w w'
set_option maxRecDepth 100000 in
set_option maxHeartbeats 2000000 in
theorem num_sc (S n : Nat) (b : List Int) (s : St) (N : Nat) (w : World) (h : ScAt w S b s N) (hu : U8s b) (hn : n ≤ 3) (hN : N ≤ 1000000) :
    Calls Try.prog 17 #[.pointer (some ⟨S, 0, none⟩), .int .i64 (n : Int)] w fun e w' => NumSc w w' e S b s N n := by
  have hNx := next_sc S n b s N w h (by omega) hN
  have hts : s.2 = false → U8s s.1 := by
    intro h9
    obtain ⟨ba, bc, a, -, -, -, -, h5, -⟩ := h.out
    rw [(h5 h9).2]
    exact fun x hx => hu x (List.mem_of_mem_drop hx)
  clear h
  go_enter Try.func17, Try.ntmps17
  go_wp2_with fail
  refine hNx.mono ?_
  intro e w1 h1
  obtain ⟨ra, rc, t, he, hS1, -, hta, htb, hSc, hO⟩ := h1.out
  subst he
  dsimp only
  clear hNx h1
  have hut : U8s t ∧ t.length ≤ n ∧ ((nx n s).2 = false → numB t = nB n s) := by
    cases h9 : (nx n s).2 with
    | true =>
      rw [htb h9]
      exact ⟨U8s.zeros n, by simp, fun h => by cases h⟩
    | false =>
      have h10 : s.2 = false := by
        cases h11 : s.2 with
        | false => rfl
        | true => simp [nx, tkS, h11] at h9
      rw [hta h9]
      refine ⟨(hts h10).tkT, ?_, fun _ => rfl⟩
      show (tkT n s.1 s.2).length ≤ n
      unfold tkT
      split
      · simp
      · rw [List.length_take]; omega
  have HT : Hid _ := hut
  have htl : t.length ≤ 3 := by have := hut.2.1; omega
  clear hut hta htb hts
  go_wp2_with fail
  go_loopw [7, 6] (fun j v wr => ∃ (k : Nat), k ≤ t.length ∧ j = .int .i64 k ∧ v = .int .i64 (numB (t.take k)) ∧ wr = w1) (fun j _ _ => t.length - (intOf j).toNat)
  case atStart => exact ⟨0, Nat.zero_le _, rfl, rfl, rfl⟩
  case round =>
    obtain ⟨k, hk, rfl, rfl, rfl⟩ := hrel
    by_cases hlt : k < t.length
    · have hltI : (k : Int) < t.length := by omega
      obtain ⟨sb, so, rfl, hc⟩ : ∃ sb so, ra = some ⟨sb, so, none⟩ ∧ ∀ j, j < t.length → wr.cell? ⟨sb, so + j, none⟩ = some (.int .u8 (t.getD j 0)) := by
        rcases hS1.bytes with h | h
        · rw [h] at hlt; simp at hlt
        · exact h
      have ck := hc k hlt
      have hst : Hid (numB (t.take (k + 1)) = 256 * numB (t.take k) + t.getD k 0) := by
        show _ = _
        rw [List.take_succ_eq_append_getElem hlt, numB_snoc]
        simp [List.getD, hlt]
      have hx := HT.out.1 (t.getD k 0) (by simp [List.getD, hlt])
      obtain ⟨hb0, hb1⟩ := numB_bounds (t.take k) (fun x hx => HT.out.1 x (List.mem_of_mem_take hx)) (by rw [List.length_take]; omega)
      clear hc
      generalize t.getD k 0 = x at *
      generalize numB (t.take k) = y at *
      have hw1 : IntKind.i64.wrap (256 * y) = 256 * y := by rw [IntKind.wrap_i64]; omega
      have hw2 : IntKind.i64.wrap (256 * y + x) = 256 * y + x := by rw [IntKind.wrap_i64]; omega
      have hw3 : IntKind.i64.wrap x = x := by rw [IntKind.wrap_i64]; omega
      go_wp2_with fail
      go_roundw
      case rel =>
        exact ⟨k + 1, by omega, by go_num, by rw [hst.out], trivial⟩
      case measure => simp [intOf]; omega
    · obtain rfl : k = t.length := by omega
      have hltI : ¬ (t.length : Int) < t.length := by omega
      obtain ⟨hb0, hb1⟩ := numB_bounds t HT.out.1 htl
      have h1 : n = 1 → numB t ≤ 255 := by
        intro h9
        match t, HT.out with
        | [], _ => simp [numB]
        | [z], h10 => have := h10.1 z (by simp); simp [numB]; omega
        | _ :: _ :: _, h10 => have := h10.2.1; simp at this; omega
      have HH : Hid _ := h1
      rw [List.take_of_length_le (Nat.le_refl _)]
      clear h1
      go_wp2_with fail
      go_ret
      exact ⟨_, rfl, hb0, hb1, HH.out, HT.out.2.2, hSc, hO⟩
end Go.Proofs.Ythlknldicpeobaa
