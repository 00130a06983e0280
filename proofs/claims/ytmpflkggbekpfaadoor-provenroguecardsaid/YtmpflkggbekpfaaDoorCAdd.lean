/- seal.Add, for all signs. -/
import Derived.Test.YtmpflkggbekpfaaDoorCSeal
import Derived.Test.YtmpflkggbekpfaaDoorSignF
import Derived.Test.YtmpflkggbekpfaaDoorCloneG
namespace Go.Proofs.YtmpflkggbekpfaaDoor
open Go.RowKit

set_option maxRecDepth 100000 in
theorem apart_keep {w w' : World} {B : Nat} {v : Value} {qs : List Part} (h : Apart w B v qs) (hb : Below w.heap.size w w') : Apart w' B v qs := by
  intro p hp
  obtain ⟨h1, h2⟩ := h p hp
  refine ⟨h1.below hb, fun sb so e => ?_⟩
  obtain ⟨a, b, c⟩ := h2 sb so e
  have := hb.size
  first | exact ⟨a, by omega, c⟩ | exact ⟨a, b, by omega⟩
/-- What Add answers. -/
def AddAt (w' : World) (e : Ending) (l : List GV) (g : GV) : Prop := ∃ ra rc us er, e = .returned (.tuple #[.slice ra (List.length us) rc, .int .i64 er]) ∧ addF l g = (gvs us, er) ∧ GTab w' ra rc us
set_option maxRecDepth 100000 in
theorem nilTab (w : World) : GTab w none 0 [] := ⟨Nat.le_refl _, by decide, by decide, .inl rfl, ⟨.inl rfl, fun p hp => by cases hp⟩⟩
set_option maxRecDepth 100000 in
theorem gF_len {g : GV} (h : gF g = 0) : g.2.2.2.length = 32 := by
  unfold gF signF slotF at h
  split at h
  · cases h
  · split at h
    · cases h
    · split at h
      · cases h
      · omega
set_option maxRecDepth 100000 in
set_option maxHeartbeats 2000000 in
theorem add_any (ls : List Sg) (sa : Option Addr) (n cap : Nat) (t : Sg) (w : World) (hn : n = ls.length) (hl : ls.length ≤ 2932031007399) (hp : GTab w sa cap ls) (ht : SliceAt w t.p.sa t.p.cap t.p.bs ∧ AllU8 t.p.bs) :
    Calls Tryd.prog 31 #[.slice sa n cap, .agg #[.int .i64 t.nd, .int .i64 t.au, .int .i64 t.rd, .slice t.p.sa t.p.bs.length t.p.cap]] w fun e w' => AddAt w' e (gvs ls) t.v ∧ Below w.heap.size w w' := by
  subst hn
  obtain ⟨i, hi, hz0, hz1, hz2⟩ := info_parts infoSign
  have hA := (Below.refl w.heap.size w).alloc (Nat.le_refl _) (.cells #[.int .i64 t.nd, .int .i64 t.au, .int .i64 t.rd, .slice t.p.sa t.p.bs.length t.p.cap] 52)
  have r0 := heap_alloc_new w (.cells #[.int .i64 t.nd, .int .i64 t.au, .int .i64 t.rd, .slice t.p.sa t.p.bs.length t.p.cap] 52)
  go_enter Tryd.func31, Tryd.ntmps31
  go_wp2_with fail
  generalize w.alloc (.cells #[.int .i64 t.nd, .int .i64 t.au, .int .i64 t.rd, .slice t.p.sa t.p.bs.length t.p.cap] 52) = W0 at hA r0 ⊢
  have HC := sealCheck_any ls sa _ cap W0 rfl hp.small (hp.slots.below hA)
  rcases signsF_or (gvs ls) with h0 | h0
  · rw [h0] at HC
    refine HC.mono ?_
    rintro e w1 ⟨he, hb1⟩
    subst he
    dsimp only
    clear HC
    have hB1 := hA.trans (hb1.mono hA.size)
    have r1 := (hb1.block _ (lt_of_heap r0)).trans r0
    have c0 := cells_at r1 0 _ rfl
    have c1 := cells_at r1 1 _ rfl
    have c2 := cells_at r1 2 _ rfl
    have c3 := cells_at r1 3 _ rfl
    have HF := checkSign_any t.nd t.au t.rd t.p.sa t.p.bs.length t.p.cap w1
    change Calls _ _ _ _ fun e w' => e = .returned (.int .i64 (gF t.v)) ∧ _ at HF
    have H0 : Hid (signsF (gvs ls) = 0) := h0
    clear h0
    by_cases hg : gF t.v = 0
    · rw [hg] at HF
      have HG : Hid (gF t.v = 0) := hg
      have hts : t.p.bs.length ≤ 140737488355328 := by
        have : t.p.bs.length = 32 := gF_len hg
        omega
      have HE : Hid (∀ s ∈ ls, s.p.bs.length ≤ 140737488355328) := by
        show ∀ s, _
        intro s hs
        have : s.p.bs.length = 32 := gF_len ((signsF_zero H0.out).1 s.v (List.mem_map.2 ⟨s, hs, rfl⟩))
        omega
      clear hg
      go_wp2_with fail
      refine HF.mono ?_
      rintro e w2 ⟨he, hb2⟩
      subst he
      dsimp only
      clear HF c0 c1 c2 c3
      have hB2 := hB1.trans (hb2.mono hB1.size)
      have r2 := (hb2.block _ (lt_of_heap r1)).trans r1
      go_wp2_with (at_make; refine wpList_make_own _ rfl _ _ 22 rfl w2.heap.size 52 i (.agg #[.int .i64 0, .int .i64 0, .int .i64 0, .slice none 0 0]) 4 Tryd.underlying22 hi hz0 hz1 .i64 .i64 _ (ls.length + 1) rfl rfl (by go_num) (by rw [hz2]; omega) (by unfold maxLen; omega) (Nat.le_refl _) ?_; intro w3 ho3 hg3)
      go_wp2_with fail
      go_loopw [27, 8] (fun j v wr => ∃ (k : Nat) (ks : List Sg), k ≤ ls.length ∧ j = .int .i64 k ∧ gvs ks = (gvs ls).take k ∧ wr.ownsRow w2.heap.size 52 4 v k (gv ks) ∧ Apart wr w2.heap.size v (gps ks) ∧ Below w2.heap.size w2 wr) (fun j _ _ => ls.length - (intOf j).toNat)
      case atStart => exact ⟨0, [], Nat.zero_le _, rfl, rfl, ho3, (fun p hp => by cases hp), grown_none hg3⟩
      case round =>
        obtain ⟨k, ks, hk, rfl, hS, ho, hap, hb⟩ := hrel
        have hBr := hB2.trans (hb.mono hB2.size)
        by_cases hlt : k < ls.length
        · have hpw := hp.slots.below hBr
          obtain ⟨sb, so, rfl, hc⟩ : ∃ sb so, sa = some ⟨sb, so, none⟩ ∧ ∀ j (h : j < ls.length), wr.cell? ⟨sb, so + j * 4, none⟩ = some (.int .i64 (ls[j]).nd) ∧ wr.cell? ⟨sb, so + j * 4 + 1, none⟩ = some (.int .i64 (ls[j]).au) ∧ wr.cell? ⟨sb, so + j * 4 + 2, none⟩ = some (.int .i64 (ls[j]).rd) ∧ wr.cell? ⟨sb, so + j * 4 + 3, none⟩ = some (.slice (ls[j]).p.sa (ls[j]).p.bs.length (ls[j]).p.cap) := by
            rcases hpw.cells with h | h
            · rw [h] at hlt; simp at hlt
            · exact h
          obtain ⟨c0, c1, c2, c3⟩ := hc k hlt
          obtain ⟨hx, hxu⟩ := hpw.each (ls[k]) (List.getElem_mem hlt)
          have hxr := HE.out (ls[k]) (List.getElem_mem hlt)
          have hst : Hid ((gvs ls).take (k + 1) = (gvs ls).take k ++ [(ls[k]).v]) := by
            show _ = _
            rw [List.take_succ_eq_append_getElem (by rw [gvs_length]; exact hlt)]
            simp [gvs]
          have hltI : (k : Int) < ls.length := by omega
          clear hc hpw
          generalize ls[k] = s at *
          have hA0 : Below wr.heap.size wr (wr.alloc (.cells #[.int .i64 s.nd, .int .i64 s.au, .int .i64 s.rd, .slice s.p.sa s.p.bs.length s.p.cap] 52)) := (Below.refl _ _).alloc (Nat.le_refl _) _
          go_wp2_with fail
          refine (cloneSign_any s.nd s.au s.rd s.p.bs s.p.sa _ s.p.cap _ rfl (hx.below hA0) hxr).mono ?_
          rintro e w4 ⟨ra, rc, he, hs4, hrow, hb4⟩
          subst he
          dsimp only
          rw [size_alloc] at hrow
          replace hb4 := below_alloc hb4
          have hB4 := hb.trans (hb4.mono hb.size)
          have hob := owns_keep ho hb4
          have hnew := cells_new w4 [.int .i64 s.nd, .int .i64 s.au, .int .i64 s.rd, .slice ra s.p.bs.length rc] 52
          go_wp2_with (at_builtin; refine wpList_append_own_at _ rfl _ _ 22 rfl w2.heap.size 52 i (.agg #[.int .i64 0, .int .i64 0, .int .i64 0, .slice none 0 0]) 4 48 Tryd.underlying22 hi hz0 hz1 hz2 rfl (by decide) _ k _ rfl (World.ownsRow.alloc hob _) ⟨w4.heap.size, 0, none⟩ 1 1 [.int .i64 s.nd, .int .i64 s.au, .int .i64 s.rd, .slice ra s.p.bs.length rc] rfl rfl hnew (by intro u hu; simp at hu; rcases hu with rfl | rfl | rfl | rfl <;> rfl) (by unfold maxLen; omega) (by omega) (le_alloc hB4.size _) ?_; intro v1 w5 ho5 hg5 _ hat)
          have G := Grew.of hg5 hat
          have hap5 := hap.more_at (q := ⟨ra, rc, s.p.bs⟩) hb.size ho hb4 (fun sb so e => by have := hrow sb so e; omega) hs4 G
          have hB5 := Below.grown (hB4.alloc hB4.size _) hg5 (le_alloc hB4.size _) (fun q e => (hob.lt q e).1)
          go_wp2_with fail
          go_roundw
          case rel =>
            have hR : ∃ (k' : Nat) (ks' : List Sg), k' ≤ ls.length ∧ (Value.int .i64 ((k : Int) + 1)) = .int .i64 k' ∧ gvs ks' = (gvs ls).take k' ∧ w5.ownsRow w2.heap.size 52 4 v1 k' (gv ks') ∧ Apart w5 w2.heap.size v1 (gps ks') ∧ Below w2.heap.size w2 w5 :=
              ⟨k + 1, ks ++ [⟨s.nd, s.au, s.rd, ⟨ra, rc, s.p.bs⟩⟩], by omega, by go_num, by rw [hst.out, ← hS]; simp [gvs, Sg.v], by rw [gv_snoc]; exact ho5, by simpa [gps] using hap5, hB5⟩
            first | exact hR | ((repeat apply Exists.intro); exact ⟨hR, rfl⟩)
          case measure => simp [intOf]; omega
        · obtain rfl : k = ls.length := by omega
          rw [List.take_of_length_le (by rw [gvs_length]; exact Nat.le_refl _)] at hS
          have HSv : Hid (gvs ks = gvs ls) := hS
          clear hS
          have HH := has_any ls sa _ cap t wr rfl hp.small (hp.slots.below hBr) ⟨ht.1.below hBr, ht.2⟩
          have r3 := (hb.block _ (lt_of_heap r2)).trans r2
          have c0 := cells_at r3 0 _ rfl
          have c1 := cells_at r3 1 _ rfl
          have c2 := cells_at r3 2 _ rfl
          have c3 := cells_at r3 3 _ rfl
          have HU : Hid (∀ s ∈ ks, AllU8 s.p.bs) := gvs_u8 HSv.out (fun s hs => (hp.slots.each s hs).2)
          by_cases hm : t.v ∈ gvs ls
          · rw [decide_eq_true hm] at HH
            have hF : Hid (addF (gvs ls) t.v = (gvs ks, 0)) := by
              show _ = _
              rw [addF_old H0.out HG.out hm, HSv.out]
            clear hm
            go_wp2_with fail
            refine HH.mono ?_
            rintro e w4 ⟨he, hb4⟩
            subst he
            dsimp only
            clear HH c0 c1 c2 c3
            obtain ⟨ra, rc, rfl, hlen, hL, _⟩ := gtab_of_owns ho hap HU.out
            have hL2 := (hL (by omega)).below hb4
            go_wp2_with fail
            go_ret2
            refine ⟨⟨ra, rc, ks, 0, ?_, hF.out, hL2⟩, hBr.trans (hb4.mono hBr.size)⟩
            rw [← hlen]; rfl
          · rw [decide_eq_false hm] at HH
            have hF : Hid (∀ us : List Sg, gvs us = gvs ks ++ [t.v] → addF (gvs ls) t.v = (gvs us, 0)) := by
              show ∀ us, _
              intro us hu
              rw [addF_new H0.out HG.out hm, hu, HSv.out]
            clear hm
            go_wp2_with fail
            refine HH.mono ?_
            rintro e w4 ⟨he, hb4⟩
            subst he
            dsimp only
            clear HH c0 c1 c2 c3
            have hBw := hBr.trans (hb4.mono hBr.size)
            have r4 := (hb4.block _ (lt_of_heap r3)).trans r3
            have c0 := cells_at r4 0 _ rfl
            have c1 := cells_at r4 1 _ rfl
            have c2 := cells_at r4 2 _ rfl
            have c3 := cells_at r4 3 _ rfl
            have ho4 := owns_keep ho hb4
            have hb24 := hb.trans (hb4.mono hb.size)
            have hap4 : Apart w4 w2.heap.size _ (gps ks) := apart_keep hap hb4
            go_wp2_with fail
            refine (cloneSign_any t.nd t.au t.rd t.p.bs t.p.sa _ t.p.cap _ rfl (ht.1.below hBw) hts).mono ?_
            rintro e w5 ⟨ra, rc, he, hs5, hrow, hb5⟩
            subst he
            dsimp only
            have hB5 := hb24.trans (hb5.mono hb24.size)
            have hob := owns_keep ho4 hb5
            have hnew := cells_new w5 [.int .i64 t.nd, .int .i64 t.au, .int .i64 t.rd, .slice ra t.p.bs.length rc] 52
            go_wp2_with (at_builtin; refine wpList_append_own_at _ rfl _ _ 22 rfl w2.heap.size 52 i (.agg #[.int .i64 0, .int .i64 0, .int .i64 0, .slice none 0 0]) 4 48 Tryd.underlying22 hi hz0 hz1 hz2 rfl (by decide) _ ls.length _ rfl (World.ownsRow.alloc hob _) ⟨w5.heap.size, 0, none⟩ 1 1 [.int .i64 t.nd, .int .i64 t.au, .int .i64 t.rd, .slice ra t.p.bs.length rc] rfl rfl hnew (by intro u hu; simp at hu; rcases hu with rfl | rfl | rfl | rfl <;> rfl) (by unfold maxLen; omega) (by omega) (le_alloc hB5.size _) ?_; intro v1 w6 ho6 hg6 _ hat)
            have G := Grew.of hg6 hat
            have hap6 := hap4.more_at (q := ⟨ra, rc, t.p.bs⟩) hb24.size ho4 hb5 (fun sb so e => by have := hrow sb so e; omega) hs5 G
            have hB6 := Below.grown (hB5.alloc hB5.size _) hg6 (le_alloc hB5.size _) (fun q e => (hob.lt q e).1)
            have ho7 : w6.ownsRow w2.heap.size 52 4 v1 (ls.length + 1) (gv (ks ++ [⟨t.nd, t.au, t.rd, ⟨ra, rc, t.p.bs⟩⟩])) := by rw [gv_snoc]; exact ho6
            obtain ⟨qa, qc, rfl, hlen, hL, _⟩ := gtab_of_owns ho7 (by simpa [gps] using hap6) (fun s hs => by
              rcases List.mem_append.1 hs with hs | hs
              · exact HU.out s hs
              · rw [List.mem_singleton] at hs; subst hs; exact ht.2)
            have hL2 := hL (by omega)
            go_wp2_with fail
            go_ret2
            refine ⟨⟨qa, qc, _, 0, ?_, hF.out _ (by simp [gvs, Sg.v]), hL2⟩, hB2.trans (hB6.mono hB2.size)⟩
            rw [← hlen]; rfl
    · have hF : Hid (addF (gvs ls) t.v = ([], gF t.v)) := addF_form H0.out hg
      generalize gF t.v = x at *
      have hx : (x != 0) = true := by simpa using hg
      go_wp2_with fail
      refine HF.mono ?_
      rintro e w2 ⟨he, hb2⟩
      subst he
      dsimp only
      go_wp2_with fail
      go_ret2
      exact ⟨⟨none, 0, [], x, rfl, hF.out, nilTab _⟩, hB1.trans (hb2.mono hB1.size)⟩
  · have hF : Hid (addF (gvs ls) t.v = ([], 12)) := addF_set h0
    rw [h0] at HC
    clear h0
    refine HC.mono ?_
    rintro e w1 ⟨he, hb1⟩
    subst he
    dsimp only
    go_wp2_with fail
    go_ret2
    exact ⟨⟨none, 0, [], 12, rfl, hF.out, nilTab _⟩, hA.trans (hb1.mono hA.size)⟩
end Go.Proofs.YtmpflkggbekpfaaDoor
