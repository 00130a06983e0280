/- The document's scan of bytes: digestList. -/
import Derived.Test.YthlknldicpeobaaRSc1
namespace Go.Proofs.Ythlknldicpeobaa
open Go.RowKit

set_option maxRecDepth 100000 in
theorem dgL_over (l : List Int) (sh : Bool) (k m : Nat) (h : (dgL l sh k).2 = true) (hm : k ≤ m) : (dgL l sh m).2 = true := by
  induction m with
  | zero =>
    obtain rfl : k = 0 := by omega
    exact h
  | succ m ih =>
    rcases Nat.lt_or_ge k (m + 1) with g | g
    · have := ih (by omega)
      show tkS 32 _ _ = true
      simp [tkS, this]
    · obtain rfl : k = m + 1 := by omega
      exact h
structure DigSc (w w' : World) (e : Ending) (S : Nat) (b : List Int) (s : St) (N : Nat) : Prop where
  out : ∃ ra rc qs, e = .returned (.slice ra (List.length qs) rc) ∧ ListAt w' ra rc qs ∧ Fresh w.heap.size ra qs ∧ qs.length ≤ 255 ∧ ((dgS s).2 = false → qs.map (·.bs) = dgs s) ∧ ScAt w' S b (dgS s) (N + b.length + 33) ∧ Only S w w'
set_option maxRecDepth 100000 in
set_option maxHeartbeats 4000000 in
theorem digList_sc (S : Nat) (b : List Int) (s : St) (N : Nat) (w : World) (h : ScAt w S b s N) (hu : U8s b) (hN : N ≤ 500000) (hl : b.length ≤ 100000) :
    Calls Try.prog 38 #[.pointer (some ⟨S, 0, none⟩)] w fun e w' => DigSc w w' e S b s N := by
  obtain ⟨i, hi, hz0, hz1, hz2⟩ := info_parts infoBs
  have hlt := h.lt
  have hNm := num_sc S 1 b s N w h hu (by omega) (by omega)
  clear h
  go_enter Try.func38, Try.ntmps38
  go_wp2_with fail
  refine hNm.mono ?_
  intro e w1 h1
  obtain ⟨v, he, hv0, -, hv1, hv2, hSc, ho1⟩ := h1.out
  subst he
  dsimp only
  clear hNm h1
  obtain ⟨V, rfl⟩ : ∃ V : Nat, v = V := ⟨v.toNat, by omega⟩
  have hV : V ≤ 255 := by have := hv1 rfl; omega
  have hVd : Hid ((nx 1 s).2 = false → V = dN s.1 s.2) := by
    show _ → _
    intro h9
    have h10 := hv2 h9
    have h11 : (V : Int) = numB (tkT 1 s.1 s.2) := h10
    rw [dN, ← h11]
    rfl
  have HD : Hid (dgS s = dgL (nx 1 s).1 (nx 1 s).2 (dN s.1 s.2) ∧ dgs s = dgD (nx 1 s).1 (nx 1 s).2 (dN s.1 s.2)) := ⟨rfl, rfl⟩
  clear hv0 hv1 hv2
  have hSc0 := hSc.mono (M := N + b.length + 33) (by omega)
  generalize hs1 : nx 1 s = s1 at *
  clear hs1 hSc
  obtain ⟨l1, sh1⟩ := s1
  dsimp only at *
  go_wp2_with fail
  go_loopw [5, 4] (fun j o wr => ∃ (k : Nat) (qs : List Part) (tv : Value), k ≤ V ∧ j = .int .i64 k ∧ tv = o ∧ Hid ((dgL l1 sh1 k).2 = false → qs.map (·.bs) = dgD l1 sh1 k) ∧ wr.ownsRow w.heap.size 22 1 tv k (pv qs) ∧ Apart wr w.heap.size tv qs ∧ ScAt wr S b (dgL l1 sh1 k) (N + b.length + 33) ∧ Only S w wr) (fun j _ _ => V - (intOf j).toNat)
  case atStart => exact ⟨0, [], _, Nat.zero_le _, rfl, rfl, (show _ → _ from fun _ => rfl), World.ownsRow_nil _ _ _ _, (fun p hp => by cases hp), hSc0, ho1⟩
  case round =>
    obtain ⟨k, qs, tv, hk, rfl, rfl, hq, ho, hap, hS, hok⟩ := hrel
    by_cases hltk : k < V
    · have hltI : (k : Int) < V := by omega
      go_wp2_with fail
      refine (over_sc S b _ _ wr hS).mono ?_
      rintro e w2 ⟨he, hb2⟩
      subst he
      dsimp only
      have hS2 := hS.below hb2
      have ho2 := owns_keep ho hb2
      have hok2 : Only S w w2 := hok.trans (only_of_below hb2)
      have hap2 : Apart w2 w.heap.size tv qs := apart_only hap (only_of_below (R := S) hb2) hlt
      cases hov : (dgL l1 sh1 k).2 with
      | true =>
        obtain ⟨ra, rc, hv, hlq, hL, hfr⟩ := listAt_of_owns ho2 hap2
        subst hv
        have HF : Hid ((dgS s).2 = true ∧ ScAt w2 S b (dgS s) (N + b.length + 33)) := by
          show _ ∧ _
          have h9 : (dgS s).2 = true := by
            rw [HD.out.1]
            cases hsh : sh1 with
            | true =>
              exact dgL_over l1 true 0 _ rfl (Nat.zero_le _)
            | false =>
              have := hVd.out hsh
              rw [hsh] at hov
              exact dgL_over l1 false k _ hov (by omega)
          exact ⟨h9, hS2.beyond hov h9⟩
        have HL : Hid (k = qs.length) := hlq
        have HLA := hL (by omega)
        clear hlq hL hov hVd HD hq
        go_wp2_with fail
        go_ret
        exact ⟨ra, rc, qs, by rw [← HL.out]; rfl, HLA, hfr, by have := HL.out; omega, (fun h9 => by rw [HF.out.1] at h9; cases h9), HF.out.2, hok2⟩
      | false =>
        have hNx := next_sc S 32 b _ _ w2 (hS2.within hov) (by omega) (by omega)
        have hst : Hid (dgD l1 sh1 (k + 1) = dgD l1 sh1 k ++ [tT 32 (dgL l1 sh1 k)] ∧ dgL l1 sh1 (k + 1) = nx 32 (dgL l1 sh1 k)) := ⟨rfl, rfl⟩
        have Hov : Hid _ := hov
        clear hov
        go_wp2_with fail
        refine hNx.mono ?_
        intro e w3 h3
        obtain ⟨da, dc, t, he, hs3, hf3, hta, htb, hS3, ho3⟩ := h3.out
        subst he
        dsimp only
        clear hNx h3
        have Hta : Hid _ := hta
        have hB3 := hok2.trans ho3
        have hob := owns_only ho2 ho3 hlt
        have hap3 := apart_only hap2 ho3 hlt
        have hszw := hok2.size
        have hszr := hB3.size
        have htl : t.length ≤ 1000 := by
          cases h9 : (nx 32 (dgL l1 sh1 k)).2 with
          | true => rw [htb h9]; simp
          | false => rw [hta h9]; exact Nat.le_trans tkT_len (by omega)
        clear hta htb
        go_wp2_with (at_builtin; refine wpList_append_own_at _ rfl _ _ 26 rfl w.heap.size 22 i (.slice none 0 0) 1 24 Try.underlying26 hi hz0 hz1 hz2 rfl (by decide) _ k _ rfl (World.ownsRow.alloc hob _) ⟨w3.heap.size, 0, none⟩ 1 1 [.slice da t.length dc] rfl rfl (cells_new _ _ _) (by intro u hu; simp at hu; subst hu; rfl) (by unfold maxLen; omega) (by omega) (le_alloc hB3.size _) ?_; intro v4 w4 ho4 hg4 _ hat4)
        have G := Grew.of hg4 hat4
        have hap4 := apart_snoc (q := ⟨da, dc, t⟩) hap3 hs3 (fun sb so e => by
          have h := hf3 sb so e
          exact ⟨by omega, h.2, fun hv => by have := (ho2.lt sb hv).2; omega⟩) G
        have hb4 : Below w3.heap.size w3 (w3.alloc (.cells #[.slice da t.length dc] 22)) := (Below.refl _ _).alloc (Nat.le_refl _) _
        have ho4w : Only S w w4 := by
          have hg := G.grown
          refine ⟨hg.os.trans hB3.os, hg.tape.trans hB3.tape, hg.output.trans hB3.output, Nat.le_trans hB3.size (Nat.le_trans hb4.size hg.size), fun q hq hn => ?_⟩
          exact (hg.block q (by have := hb4.size; omega) (fun e => by have := (ho.lt q e.symm).1; omega)).trans ((hb4.block q (by omega)).trans (hB3.block q hq hn))
        have hS4 : ScAt w4 S b (dgL l1 sh1 (k + 1)) (N + b.length + 33) := by
          rw [hst.out.2]
          exact ((hS3.below hb4).stays (fun q hq => G.grown.block q (by have := hb4.size; have := hS3.lt; omega) (fun e => by have := (ho.lt q e.symm).1; omega))).mono (by omega)
        have hq4 : Hid ((dgL l1 sh1 (k + 1)).2 = false → (qs ++ [(⟨da, dc, t⟩ : Part)]).map (·.bs) = dgD l1 sh1 (k + 1)) := by
          show _ → _
          intro h9
          rw [hst.out.2] at h9
          rw [hst.out.1, List.map_append, hq.out Hov.out, ← Hta.out h9]
          rfl
        go_wp2_with fail
        go_roundw
        case rel =>
          have hR : ∃ (k' : Nat) (qs' : List Part) (tv' : Value), k' ≤ V ∧ (Value.int .i64 ((k : Int) + 1)) = .int .i64 k' ∧ tv' = v4 ∧ Hid ((dgL l1 sh1 k').2 = false → qs'.map (·.bs) = dgD l1 sh1 k') ∧ w4.ownsRow w.heap.size 22 1 tv' k' (pv qs') ∧ Apart w4 w.heap.size tv' qs' ∧ ScAt w4 S b (dgL l1 sh1 k') (N + b.length + 33) ∧ Only S w w4 :=
            ⟨k + 1, qs ++ [⟨da, dc, t⟩], v4, by omega, by go_num, rfl, hq4, by simpa [pv, Part.val] using ho4, hap4, hS4, ho4w⟩
          first | exact hR | ((repeat apply Exists.intro); exact ⟨hR, rfl⟩)
        case measure => simp [intOf]; omega
    · obtain rfl : k = V := by omega
      have hltI : ¬ (k : Int) < k := by omega
      obtain ⟨ra, rc, hv, hlq, hL, hfr⟩ := listAt_of_owns ho hap
      subst hv
      have HF : Hid (((dgS s).2 = false → qs.map (·.bs) = dgs s) ∧ ScAt wr S b (dgS s) (N + b.length + 33)) := by
        show _ ∧ _
        cases hsh : sh1 with
        | true =>
          have h8 : (dgS s).2 = true := by rw [HD.out.1, hsh]; exact dgL_over l1 true 0 _ rfl (Nat.zero_le _)
          have h9 : (dgL l1 sh1 k).2 = true := by rw [hsh]; exact dgL_over l1 true 0 _ rfl (Nat.zero_le _)
          exact ⟨(fun h => by rw [h8] at h; cases h), hS.beyond h9 h8⟩
        | false =>
          have h8 := hVd.out hsh
          rw [HD.out.1, HD.out.2, ← h8]
          exact ⟨hq.out, hS⟩
      have HL : Hid (k = qs.length) := hlq
      have HLA := hL (by omega)
      clear hlq hL hVd HD hq
      go_wp2_with fail
      go_ret
      exact ⟨ra, rc, qs, by rw [← HL.out]; rfl, HLA, hfr, by have := HL.out; omega, HF.out.1, HF.out.2, hok⟩
end Go.Proofs.Ythlknldicpeobaa
