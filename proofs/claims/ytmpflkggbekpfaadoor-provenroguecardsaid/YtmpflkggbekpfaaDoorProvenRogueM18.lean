/- A certificate of raw numbers that lies in a variable. -/
import Derived.Test.YtmpflkggbekpfaaDoorCertF
import Derived.Test.YtmpflkggbekpfaaDoorProvenRogueM12
import Derived.Test.YtmpflkggbekpfaaDoorGrew
import Derived.Test.YtmpflkggbekpfaaDoorMore
import Derived.Test.YtmpflkggbekpfaaDoorOwnL
namespace Go.Proofs.YtmpflkggbekpfaaDoor
open Go.RowKit

set_option maxRecDepth 100000 in
theorem infoInt2 : (Tryd.prog.info? 3).map (fun i => (i.zero, i.size, i.bytes)) = some (some (.int .i64 0), 1, 8) := by kernel_rfl
def iv (vl : List Int) : List Value := vl.map (Value.int .i64)
set_option maxRecDepth 100000 in
theorem iv_length (vl : List Int) : (iv vl).length = vl.length := by simp [iv]
set_option maxRecDepth 100000 in
theorem iv_one (vl : List Int) : ∀ u ∈ iv vl, u.oneCell' = true := by
  intro u hu; simp [iv] at hu; obtain ⟨x, _, rfl⟩ := hu; rfl
set_option maxRecDepth 100000 in
theorem intsAt_of_owns {w : World} {base n : Nat} {v : Value} {vl : List Int} (h : w.ownsRow base 3 1 v n (iv vl)) : ∃ za zc, v = .slice za n zc ∧ n = vl.length ∧ IntsAt w za vl ∧ ∀ sb so, za = some ⟨sb, so, none⟩ → base ≤ sb := by
  have hl : n = vl.length := by have := h.1; rw [iv_length] at this; omega
  rcases h.2 with ⟨rfl, hn⟩ | ⟨g, cap, cur, rfl, _⟩
  · have hb : vl = [] := List.eq_nil_of_length_eq_zero (by omega)
    subst hn hb
    exact ⟨none, 0, rfl, rfl, ⟨.inl rfl⟩, fun _ _ e => by cases e⟩
  · refine ⟨some ⟨g, 0, none⟩, cap, rfl, hl, ⟨.inr ⟨g, 0, rfl, fun j hj => ?_⟩⟩, fun sb so e => by cases e; exact (h.lt _ rfl).1⟩
    rw [Nat.zero_add, World.ownsRow.cellAt h j (by omega)]
    simp [iv, hj]
set_option maxRecDepth 100000 in
theorem IntsAt.setCell {w : World} {va : Option Addr} {vl : List Int} (h : IntsAt w va vl) (b j : Nat) (v : Value) (hne : ∀ sb so, va = some ⟨sb, so, none⟩ → b ≠ sb) : IntsAt (w.setCell ⟨b, j, none⟩ v) va vl := by
  refine ⟨?_⟩
  rcases h.cells with h | ⟨sb, so, rfl, hc⟩
  · exact .inl h
  · exact .inr ⟨sb, so, rfl, fun k hk => (World.cell?_setCell_far _ _ _ _ (hne sb so rfl)).trans (hc k hk)⟩
end Go.Proofs.YtmpflkggbekpfaaDoor

namespace Go.Proofs.YtmpflkggbekpfaaDoor
open Go.RowKit

/-- The numbers below i, without k. -/
def without (k : Int) : Nat → List Int
  | 0 => []
  | i + 1 => if (i : Int) = k then without k i else without k i ++ [(i : Int)]
def votersL (n : Int) : List Int := without (pk n 5) 4
set_option maxRecDepth 100000 in
theorem without_le (k : Int) (i : Nat) : (without k i).length ≤ i := by
  induction i with
  | zero => simp [without]
  | succ i ih =>
    rw [without]
    split
    · omega
    · simp; omega
set_option maxRecDepth 100000 in
set_option maxHeartbeats 1000000 in
theorem voters_any (n : Int) (w : World) (hn : I64 n) :
    Calls Tryd.prog 13 #[.int .i64 n] w fun e w' => ∃ v, e = .returned v ∧ w'.ownsRow w.heap.size 3 1 v (votersL n).length (iv (votersL n)) ∧ Below w.heap.size w w' := by
  obtain ⟨p0, p1⟩ := pk_bounds n 5 (by decide)
  obtain ⟨i, hi, hz0, hz1, hz2⟩ := info_parts infoInt2
  have hP := fun wx => picked_any n 5 wx hn.1 hn.2 (by decide) (by decide)
  unfold votersL
  generalize pk n 5 = k at *
  have HP : Hid _ := hP
  clear hP
  go_enter Tryd.func13, Tryd.ntmps13
  go_wp2_with (go_at_call 15; refine (HP.out _).mono ?_; rintro e w9 ⟨rfl, rfl⟩)
  go_loopw [5, 4] (fun j t wr => ∃ (m : Nat) (tv : Value), m ≤ 4 ∧ j = .int .i64 m ∧ tv = t ∧ wr.ownsRow w.heap.size 3 1 tv (without k m).length (iv (without k m)) ∧ Below w.heap.size w wr) (fun j _ _ => 4 - (intOf j).toNat)
  case atStart => exact ⟨0, _, Nat.zero_le _, rfl, rfl, World.ownsRow_nil _ _ _ _, Below.refl _ _⟩
  case round =>
    obtain ⟨m, tv, hm, rfl, rfl, ho, hbw⟩ := hrel
    by_cases hlt : m < 4
    · have hltI : (m : Int) < 4 := by omega
      have hle := without_le k m
      by_cases he : (m : Int) = k
      · have hst : Hid (without k (m + 1) = without k m) := by show _ = _; rw [without, if_pos he]
        have heb : ((m : Int) == k) = true := by simpa using he
        have He : Hid ((m : Int) = k) := he
        clear he
        go_wp2_with fail
        go_roundw
        case rel =>
          have hR : ∃ (m' : Nat) (tv' : Value), m' ≤ 4 ∧ (Value.int .i64 ((m : Int) + 1)) = .int .i64 m' ∧ tv' = tv ∧ wr.ownsRow w.heap.size 3 1 tv' (without k m').length (iv (without k m')) ∧ Below w.heap.size w wr := ⟨m + 1, tv, by omega, by go_num, rfl, by rw [hst.out]; exact ho, hbw⟩
          first | exact hR | ((repeat apply Exists.intro); exact ⟨hR, rfl⟩)
        case measure => simp [intOf]; omega
      · have hst : Hid (without k (m + 1) = without k m ++ [(m : Int)]) := by show _ = _; rw [without, if_neg he]
        have heb : ((m : Int) == k) = false := by simpa using he
        generalize without k m = T at *
        have hBr := hbw.size
        go_wp2_with (at_builtin; refine wpList_append_own_at _ rfl _ _ 26 rfl w.heap.size 3 i (.int .i64 0) 1 8 Tryd.underlying26 hi hz0 hz1 hz2 rfl (by decide) _ T.length _ rfl (World.ownsRow.alloc ho _) ⟨wr.heap.size, 0, none⟩ 1 1 [.int .i64 (m : Int)] rfl rfl (cells_new _ _ _) (iv_one [_]) (by unfold maxLen; omega) (by omega) (le_alloc hBr _) ?_; intro v5 w5 ho5 hg5 _ _)
        go_roundw
        case rel =>
          have hb5 : Below w.heap.size w w5 := Below.grown (hbw.alloc hBr _) hg5 (le_alloc hBr _) (fun q e => (ho.lt q e).1)
          have hR : ∃ (m' : Nat) (tv' : Value), m' ≤ 4 ∧ (Value.int .i64 ((m : Int) + 1)) = .int .i64 m' ∧ tv' = v5 ∧ w5.ownsRow w.heap.size 3 1 tv' (without k m').length (iv (without k m')) ∧ Below w.heap.size w w5 := ⟨m + 1, v5, by omega, by go_num, rfl, by rw [hst.out]; simpa [iv] using ho5, hb5⟩
          first | exact hR | ((repeat apply Exists.intro); exact ⟨hR, rfl⟩)
        case measure => simp [intOf]; omega
    · obtain rfl : m = 4 := by omega
      go_wp2_with fail
      go_ret
      exact ⟨_, rfl, ho, hbw⟩
end Go.Proofs.YtmpflkggbekpfaaDoor

namespace Go.Proofs.YtmpflkggbekpfaaDoor
open Go.RowKit

set_option maxRecDepth 100000 in
theorem votersL_form (rc : Int) : ∃ x0 x1 x2 xs, votersL rc = x0 :: x1 :: x2 :: xs ∧ 0 ≤ x0 ∧ x0 < x1 ∧ x1 < 4 ∧ votersF (votersL rc) = 0 ∧ x0 < 4 ∧ (votersL rc).length ≤ 4 := by
  obtain ⟨p0, p1⟩ := pk_bounds rc 5 (by decide)
  unfold votersL
  generalize pk rc 5 = k at *
  have h : k = 0 ∨ k = 1 ∨ k = 2 ∨ k = 3 ∨ k = 4 := by omega
  rcases h with rfl | rfl | rfl | rfl | rfl
  · exact ⟨1, 2, 3, [], by decide, by decide, by decide, by decide, by decide, by decide, by decide⟩
  · exact ⟨0, 2, 3, [], by decide, by decide, by decide, by decide, by decide, by decide, by decide⟩
  · exact ⟨0, 1, 3, [], by decide, by decide, by decide, by decide, by decide, by decide, by decide⟩
  · exact ⟨0, 1, 2, [], by decide, by decide, by decide, by decide, by decide, by decide, by decide⟩
  · exact ⟨0, 1, 2, [3], by decide, by decide, by decide, by decide, by decide, by decide, by decide⟩
set_option maxRecDepth 100000 in
theorem votersL_four (rc : Int) : ∀ x ∈ votersL rc, 0 ≤ x ∧ x < 4 := by
  obtain ⟨p0, p1⟩ := pk_bounds rc 5 (by decide)
  unfold votersL
  generalize pk rc 5 = k at *
  have h : k = 0 ∨ k = 1 ∨ k = 2 ∨ k = 3 ∨ k = 4 := by omega
  rcases h with rfl | rfl | rfl | rfl | rfl <;> decide
end Go.Proofs.YtmpflkggbekpfaaDoor

namespace Go.Proofs.YtmpflkggbekpfaaDoor
open Go.RowKit

set_option maxRecDepth 100000 in
theorem snoc_ind {α : Type} {P : List α → Prop} (h0 : P []) (h1 : ∀ l x, P l → P (l ++ [x])) (l : List α) : P l := by
  have h : ∀ l : List α, P l.reverse := by
    intro l
    induction l with
    | nil => exact h0
    | cons x r ih => rw [List.reverse_cons]; exact h1 _ x ih
  have := h l.reverse
  rwa [List.reverse_reverse] at this
/-- The signs of some nodes, each once. -/
def sgL (au rd : Int) (dg : List Int) (vl : List Int) : List GV := vl.foldl (fun l x => more l (x, au, rd, dg)) []
set_option maxRecDepth 100000 in
theorem sgL_snoc (au rd : Int) (dg vl : List Int) (x : Int) : sgL au rd dg (vl ++ [x]) = more (sgL au rd dg vl) (x, au, rd, dg) := by simp [sgL]
set_option maxRecDepth 100000 in
theorem sgL_mem (au rd : Int) (dg vl : List Int) (g : GV) : g ∈ sgL au rd dg vl ↔ ∃ x ∈ vl, g = (x, au, rd, dg) := by
  refine snoc_ind (P := fun vl => g ∈ sgL au rd dg vl ↔ ∃ x ∈ vl, g = (x, au, rd, dg)) ?_ ?_ vl
  · simp [sgL]
  · intro vl x ih
    rw [sgL_snoc]
    by_cases h : g = (x, au, rd, dg)
    · subst h
      exact ⟨fun _ => ⟨x, by simp, rfl⟩, fun _ => more_mem _ _⟩
    · rw [more_other h, ih]
      constructor
      · rintro ⟨y, hy, e⟩; exact ⟨y, by simp [hy], e⟩
      · rintro ⟨y, hy, e⟩
        rcases List.mem_append.1 hy with hy | hy
        · exact ⟨y, hy, e⟩
        · rw [List.mem_singleton] at hy; subst hy; exact absurd e h
set_option maxRecDepth 100000 in
theorem slotOk_of_header {au rd : Int} {bl pl : List Part} {x : Int} (hF : headerF au rd bl pl = 0) (hx : 0 ≤ x ∧ x < 4) : gF (x, au, rd, hDig au rd bl pl) = 0 := by
  obtain ⟨z1, z2, _⟩ := headerF_ok hF
  have hl := hDig_length au rd bl pl
  simp only [gF, signF, slotF, hl]
  rw [if_neg (by omega), if_neg (by omega), if_neg (by omega)]
set_option maxRecDepth 100000 in
theorem sgL_ok {au rd : Int} {bl pl : List Part} {vl : List Int} (hF : headerF au rd bl pl = 0) (hv : ∀ x ∈ vl, 0 ≤ x ∧ x < 4) : signsF (sgL au rd (hDig au rd bl pl) vl) = 0 := by
  revert hv
  refine snoc_ind (P := fun vl => (∀ x ∈ vl, 0 ≤ x ∧ x < 4) → signsF (sgL au rd (hDig au rd bl pl) vl) = 0) ?_ ?_ vl
  · intro _; exact signsF_ok ⟨fun g hg => (by cases hg), by simp [sgL]⟩
  · intro vl x ih hv
    rw [sgL_snoc]
    exact more_ok (ih fun y hy => hv y (by simp [hy])) (slotOk_of_header hF (hv x (by simp)))
set_option maxRecDepth 100000 in
theorem sgL_length (au rd : Int) (dg vl : List Int) : (sgL au rd dg vl).length ≤ vl.length := by
  refine snoc_ind (P := fun vl => (sgL au rd dg vl).length ≤ vl.length) ?_ ?_ vl
  · simp [sgL]
  · intro vl x ih
    rw [sgL_snoc]
    have := more_length (sgL au rd dg vl) (x, au, rd, dg)
    simp; omega
set_option maxRecDepth 100000 in
/-- Who lacks, of the signs of some nodes. -/
theorem lacks_sgL (au rd bad nd : Int) (dg vl : List Int) : lacksF (sgL au rd dg vl) bad au rd dg nd = (decide (nd ≠ bad) && !decide (nd ∈ vl)) := by
  have : ((nd, au, rd, dg) ∈ sgL au rd dg vl) ↔ nd ∈ vl := by
    rw [sgL_mem]
    constructor
    · rintro ⟨x, hx, e⟩
      rw [Prod.mk.injEq] at e
      rw [e.1]; exact hx
    · intro h; exact ⟨nd, h, rfl⟩
  simp only [lacksF, this]
set_option maxRecDepth 100000 in
set_option maxHeartbeats 4000000 in
theorem signedBy_any (au rd : Int) (ba : Option Addr) (bc : Nat) (bl : List Part) (pa : Option Addr) (pc : Nat) (pl : List Part) (va : Option Addr) (n vc : Nat) (vl : List Int) (w : World) (hn : n = vl.length) (h : HAt w ba bc bl pa pc pl) (hF : headerF au rd bl pl = 0) (hv : IntsAt w va vl) (hx : ∀ x ∈ vl, 0 ≤ x ∧ x < 4) (hl : vl.length ≤ 100) (hT : Tabs w) :
    Calls Tryd.prog 14 #[.agg #[.int .i64 au, .int .i64 rd, .slice ba bl.length bc, .slice pa pl.length pc], .slice va n vc] w fun e w' => ∃ ra rc ks, e = .returned (.slice ra (List.length ks) rc) ∧ gvs ks = sgL au rd (hDig au rd bl pl) vl ∧ GTab w' ra rc ks ∧ Below w.heap.size w w' := by
  subst hn
  have hA := (Below.refl w.heap.size w).alloc (Nat.le_refl _) (.cells #[.int .i64 au, .int .i64 rd, .slice ba bl.length bc, .slice pa pl.length pc] 25)
  have q := heap_alloc_new w (.cells #[.int .i64 au, .int .i64 rd, .slice ba bl.length bc, .slice pa pl.length pc] 25)
  have HX : Hid (∀ x ∈ vl, 0 ≤ x ∧ x < 4) := hx
  have HF : Hid (headerF au rd bl pl = 0) := hF
  clear hx hF
  go_enter Tryd.func14, Tryd.ntmps14
  go_wp2_with fail
  generalize w.alloc (.cells #[.int .i64 au, .int .i64 rd, .slice ba bl.length bc, .slice pa pl.length pc] 25) = W0 at hA q ⊢
  refine (headerDigest_hat (h.below hA) HF.out (hT.below hA)).mono ?_
  rintro e w1 ⟨b, he, hbb, hb1, hs1⟩
  subst he
  dsimp only
  have hB1 := hA.trans (hb1.mono hA.size)
  have q1 := (hb1.block _ (lt_of_heap q)).trans q
  have hv1 := hv.below hB1
  go_wp2_with fail
  go_loopw [8, 7] (fun i v wr => ∃ (k : Nat) (ra : Option Addr) (rc : Nat) (ks : List Sg), k ≤ vl.length ∧ i = .int .i64 k ∧ v = .slice ra ks.length rc ∧ gvs ks = sgL au rd (hDig au rd bl pl) (vl.take k) ∧ GTab wr ra rc ks ∧ Below w1.heap.size w1 wr) (fun i _ _ => vl.length - (intOf i).toNat)
  case atStart => exact ⟨0, none, 0, [], Nat.zero_le _, rfl, rfl, rfl, nilTab _, Below.refl _ _⟩
  case round =>
    obtain ⟨k, ra, rc, ks, hk, rfl, rfl, hS, hG, hb⟩ := hrel
    have HS : Hid (gvs ks = sgL au rd (hDig au rd bl pl) (vl.take k)) := hS
    clear hS
    have hBr := hB1.trans (hb.mono hB1.size)
    by_cases hlt : k < vl.length
    · have hvr := hv1.below hb
      obtain ⟨vb, vo, rfl, hc⟩ : ∃ sb so, va = some ⟨sb, so, none⟩ ∧ ∀ j, j < vl.length → wr.cell? ⟨sb, so + j, none⟩ = some (.int .i64 (vl.getD j 0)) := by
        rcases hvr.cells with h | h
        · rw [h] at hlt; simp at hlt
        · exact h
      have cv := hc k hlt
      have hgk : vl.getD k 0 = vl[k] := by simp [List.getD, hlt]
      rw [hgk] at cv
      have hkl : ks.length ≤ k := by
        have h1 := congrArg List.length HS.out
        have h2 := sgL_length au rd (hDig au rd bl pl) (vl.take k)
        rw [gvs_length] at h1
        rw [List.length_take] at h2
        omega
      have HO : Hid (signsF (gvs ks) = 0) := by
        show _ = _
        rw [HS.out]
        exact sgL_ok HF.out (fun y hy => HX.out y (List.mem_of_mem_take hy))
      have HG : Hid (gF (vl[k], au, rd, hDig au rd bl pl) = 0) := slotOk_of_header HF.out (HX.out _ (List.getElem_mem hlt))
      have HN : Hid (more (gvs ks) (vl[k], au, rd, hDig au rd bl pl) = sgL au rd (hDig au rd bl pl) (vl.take (k + 1))) := by
        show _ = _
        rw [HS.out, List.take_succ_eq_append_getElem hlt, sgL_snoc]
      have hltI : (k : Int) < vl.length := by omega
      have qr := (hb.block _ (lt_of_heap q1)).trans q1
      have e0 := cells_at qr 0 _ rfl
      have e1 := cells_at qr 1 _ rfl
      have hqlt := lt_of_heap qr
      have hvlt := block_lt_of_cell cv
      have hDr : Below wr.heap.size wr wr.drew := (Below.refl _ _).drew
      have HA := addG_any ks ra _ rc ⟨vl[k], au, rd, ⟨some ⟨b, 0, none⟩, 32, hDig au rd bl pl⟩⟩ wr.drew rfl (by omega) (hG.below hDr) ⟨(hs1.below hb).below hDr, hDig_u8 _ _ _ _⟩ HO.out HG.out
      simp only [hDig_length, Sg.v] at HA
      rw [HN.out] at HA
      clear hc hgk hvr HN HG
      generalize vl[k] = x at *
      go_wp2_with fail
      refine wp_region_held_drew (S := fun w' => w'.cell? ⟨w.heap.size, 0, none⟩ = some (.int .i64 au) ∧ w'.cell? ⟨w.heap.size, 1, none⟩ = some (.int .i64 rd) ∧ w'.cell? ⟨vb, vo + k, none⟩ = some (.int .i64 x)) (by kernel_rfl) ⟨e0, e1, cv⟩ (fun hHeld => ?_)
      refine take_dst (i := 0) (d := 21) (v := .slice ra ks.length rc) rfl rfl (by kernel_rfl) (by kernel_rfl) (by kernel_rfl) (fun _ _ _ h => h) (Or.inl ⟨by rfl, ?_⟩) hHeld ?_
      · (intro w0 hSw; (try dsimp only at hSw); go_simp)
      simp only [Act.put, List.setIfInBounds_toArray, List.set_cons_zero, List.set_cons_succ]
      refine take_dst (i := 1) (d := 22) (v := .slice (some ⟨vb, vo, none⟩) vl.length vc) rfl rfl (by kernel_rfl) (by kernel_rfl) (by kernel_rfl) (fun _ _ _ h => h) (Or.inl ⟨by rfl, ?_⟩) hHeld ?_
      · (intro w0 hSw; (try dsimp only at hSw); go_simp)
      simp only [Act.put, List.setIfInBounds_toArray, List.set_cons_zero, List.set_cons_succ]
      refine take_dst (i := 2) (d := 23) (v := .int .i64 k) rfl rfl (by kernel_rfl) (by kernel_rfl) (by kernel_rfl) (fun _ _ _ h => h) (Or.inl ⟨by rfl, ?_⟩) hHeld ?_
      · (intro w0 hSw; (try dsimp only at hSw); go_simp)
      simp only [Act.put, List.setIfInBounds_toArray, List.set_cons_zero, List.set_cons_succ]
      refine take_dst (i := 3) (d := 24) (v := .pointer (some ⟨vb, vo + k, none⟩)) rfl rfl (by kernel_rfl) (by kernel_rfl) (by kernel_rfl) (fun _ _ _ h => h) (Or.inl ⟨by rfl, ?_⟩) hHeld ?_
      · (intro w0 hSw; (try dsimp only at hSw); go_simp)
      simp only [Act.put, List.setIfInBounds_toArray, List.set_cons_zero, List.set_cons_succ]
      refine take_dst (i := 4) (d := 25) (v := .int .i64 x) rfl rfl (by kernel_rfl) (by kernel_rfl) (by kernel_rfl) (fun _ _ _ h => h) (Or.inl ⟨by rfl, ?_⟩) hHeld ?_
      · (intro w0 hSw; (try dsimp only at hSw); go_simp)
      simp only [Act.put, List.setIfInBounds_toArray, List.set_cons_zero, List.set_cons_succ]
      refine take_dst (i := 5) (d := 26) (v := .pointer (some ⟨w.heap.size, 0, none⟩)) rfl rfl (by kernel_rfl) (by kernel_rfl) (by kernel_rfl) (fun _ _ _ h => h) (Or.inl ⟨by rfl, ?_⟩) hHeld ?_
      · (intro w0 hSw; (try dsimp only at hSw); go_simp)
      simp only [Act.put, List.setIfInBounds_toArray, List.set_cons_zero, List.set_cons_succ]
      refine take_dst (i := 6) (d := 27) (v := .int .i64 au) rfl rfl (by kernel_rfl) (by kernel_rfl) (by kernel_rfl) (fun _ _ _ h => h) (Or.inl ⟨by rfl, ?_⟩) hHeld ?_
      · (intro w0 hSw; (try dsimp only at hSw); go_simp)
      simp only [Act.put, List.setIfInBounds_toArray, List.set_cons_zero, List.set_cons_succ]
      refine take_dst (i := 7) (d := 28) (v := .pointer (some ⟨w.heap.size, 1, none⟩)) rfl rfl (by kernel_rfl) (by kernel_rfl) (by kernel_rfl) (fun _ _ _ h => h) (Or.inl ⟨by rfl, ?_⟩) hHeld ?_
      · (intro w0 hSw; (try dsimp only at hSw); go_simp)
      simp only [Act.put, List.setIfInBounds_toArray, List.set_cons_zero, List.set_cons_succ]
      refine take_dst (i := 8) (d := 29) (v := .int .i64 rd) rfl rfl (by kernel_rfl) (by kernel_rfl) (by kernel_rfl) (fun _ _ _ h => h) (Or.inl ⟨by rfl, ?_⟩) hHeld ?_
      · (intro w0 hSw; (try dsimp only at hSw); go_simp)
      simp only [Act.put, List.setIfInBounds_toArray, List.set_cons_zero, List.set_cons_succ]
      refine take_dst (i := 9) (d := 30) (v := .slice (some ⟨b, 0, none⟩) 32 32) rfl rfl (by kernel_rfl) (by kernel_rfl) (by kernel_rfl) (fun _ _ _ h => h) (Or.inl ⟨by rfl, ?_⟩) hHeld ?_
      · (intro w0 hSw; (try dsimp only at hSw); go_simp)
      simp only [Act.put, List.setIfInBounds_toArray, List.set_cons_zero, List.set_cons_succ]
      refine take_dst (i := 10) (d := 31) (v := .agg #[.int .i64 au, .int .i64 rd, .slice (some ⟨b, 0, none⟩) 32 32]) rfl rfl (by kernel_rfl) (by kernel_rfl) (by kernel_rfl) (fun _ _ _ h => h) (Or.inl ⟨by rfl, ?_⟩) hHeld ?_
      · (intro w0 hSw; (try dsimp only at hSw); go_simp)
      simp only [Act.put, List.setIfInBounds_toArray, List.set_cons_zero, List.set_cons_succ]
      refine take_dst (i := 11) (d := 32) (v := .agg #[.int .i64 x, .int .i64 au, .int .i64 rd, .slice (some ⟨b, 0, none⟩) 32 32]) rfl rfl (by kernel_rfl) (by kernel_rfl) (by kernel_rfl) (fun _ _ _ h => h) (Or.inl ⟨by rfl, ?_⟩) hHeld ?_
      · (intro w0 hSw; (try dsimp only at hSw); go_simp)
      simp only [Act.put, List.setIfInBounds_toArray, List.set_cons_zero, List.set_cons_succ]
      refine wpAnyH_ready (rs := [12]) (by kernel_rfl) (by simp) (AllReadyH.cons rfl (fun K hK => ?_) AllReadyH.nil)
      refine step_calls_dst rfl 33 rfl 31 [.tmp 21, .tmp 32] #[22, 52] rfl [.slice ra ks.length rc, .agg #[.int .i64 x, .int .i64 au, .int .i64 rd, .slice (some ⟨b, 0, none⟩) 32 32]] rfl (enters_of Tryd.func31 (by kernel_rfl) rfl) (fun v w' => ∃ ua uc us, v = .tuple #[.slice ua (List.length us) uc, .int .i64 0] ∧ gvs us = sgL au rd (hDig au rd bl pl) (vl.take (k + 1)) ∧ GTab w' ua uc us ∧ Below wr.heap.size wr w') (HA.mono (fun e w2 ⟨ua, uc, us, he, h1, h2, h3⟩ => ⟨_, he, ua, uc, us, rfl, h1, h2, below_drew h3⟩)) ?_
      rintro v w3 ⟨ua, uc, us, rfl, hus, hU, hb3⟩
      have HUS : Hid (gvs us = sgL au rd (hDig au rd bl pl) (vl.take (k + 1))) := hus
      clear hus HA HO HS
      refine hK.out _ _ ⟨(hb3.cell (p := ⟨w.heap.size, 0, none⟩) hqlt).trans e0, (hb3.cell (p := ⟨w.heap.size, 1, none⟩) hqlt).trans e1, (hb3.cell (p := ⟨vb, vo + k, none⟩) hvlt).trans cv⟩ (fun hHeld => ?_)
      simp only [Act.put, List.setIfInBounds_toArray, List.set_cons_zero, List.set_cons_succ]
      refine take_dst (i := 13) (d := 20) (v := .tuple #[.slice ua (List.length us) uc, .int .i64 0]) rfl rfl (by kernel_rfl) (by kernel_rfl) (by kernel_rfl) (fun _ _ _ h => h) (Or.inl ⟨by rfl, ?_⟩) hHeld ?_
      · (intro w0 hSw; (try dsimp only at hSw); go_simp)
      simp only [Act.put, List.setIfInBounds_toArray, List.set_cons_zero, List.set_cons_succ]
      refine take_dst (i := 14) (d := 34) (v := .slice ua (List.length us) uc) rfl rfl (by kernel_rfl) (by kernel_rfl) (by kernel_rfl) (fun _ _ _ h => h) (Or.inl ⟨by rfl, ?_⟩) hHeld ?_
      · (intro w0 hSw; (try dsimp only at hSw); go_simp)
      simp only [Act.put, List.setIfInBounds_toArray, List.set_cons_zero, List.set_cons_succ]
      refine take_dst (i := 15) (d := 35) (v := .int .i64 0) rfl rfl (by kernel_rfl) (by kernel_rfl) (by kernel_rfl) (fun _ _ _ h => h) (Or.inl ⟨by rfl, ?_⟩) hHeld ?_
      · (intro w0 hSw; (try dsimp only at hSw); go_simp)
      simp only [Act.put, List.setIfInBounds_toArray, List.set_cons_zero, List.set_cons_succ]
      refine take_dst (i := 16) (d := 7) (v := .slice ua (List.length us) uc) rfl rfl (by kernel_rfl) (by kernel_rfl) (by kernel_rfl) (fun _ _ _ h => h) (Or.inl ⟨by rfl, ?_⟩) hHeld ?_
      · (intro w0 hSw; (try dsimp only at hSw); go_simp)
      simp only [Act.put, List.setIfInBounds_toArray, List.set_cons_zero, List.set_cons_succ]
      refine wpAnyH_done (by kernel_rfl) ?_ _
      go_wp2_with fail
      go_roundw
      case rel => exact ⟨k + 1, ua, uc, us, by omega, by go_num, rfl, HUS.out, hU, hb.trans (hb3.mono hb.size)⟩
      case measure => simp [intOf]; omega
    · obtain rfl : k = vl.length := by omega
      have hS := HS.out
      rw [List.take_of_length_le (Nat.le_refl _)] at hS
      have HS2 : Hid _ := hS
      clear hS
      go_wp2_with fail
      go_ret
      exact ⟨ra, rc, ks, rfl, HS2.out, hG, hBr⟩
end Go.Proofs.YtmpflkggbekpfaaDoor

namespace Go.Proofs.YtmpflkggbekpfaaDoor
open Go.RowKit

/-- The lists lie in other blocks. -/
structure Away (b : Nat) (ra : Option Addr) (qs : List Part) : Prop where
  row : ∀ sb so, ra = some ⟨sb, so, none⟩ → b ≠ sb
  each : ∀ p ∈ qs, ∀ sb so, p.sa = some ⟨sb, so, none⟩ → b ≠ sb
set_option maxRecDepth 100000 in
theorem ListAt.away {w : World} {ra : Option Addr} {rc b : Nat} {qs : List Part} (h : ListAt w ra rc qs) (hf : Away b ra qs) (j : Nat) (v : Value) : ListAt (w.setCell ⟨b, j, Option.none⟩ v) ra rc qs := by
  refine ⟨h.le, h.max, h.small, h.some, ⟨?_, fun p hp => ?_⟩⟩
  · rcases h.parts.cells with hc | ⟨sb, so, rfl, hc⟩
    · exact .inl hc
    · exact .inr ⟨sb, so, rfl, fun k hk => (World.cell?_setCell_far _ _ _ _ (hf.row sb so rfl)).trans (hc k hk)⟩
  · have hs := h.parts.each p hp
    refine ⟨hs.le, hs.max, hs.some, hs.nil, ?_⟩
    rcases hs.bytes with hc | ⟨sb, so, e, hc⟩
    · exact .inl hc
    · exact .inr ⟨sb, so, e, fun k hk => (World.cell?_setCell_far _ _ _ _ (hf.each p hp sb so e)).trans (hc k hk)⟩
end Go.Proofs.YtmpflkggbekpfaaDoor

namespace Go.Proofs.YtmpflkggbekpfaaDoor
open Go.RowKit

set_option maxRecDepth 100000 in
theorem owns_away {w : World} {base n : Nat} {e : TypeId} {s : Nat} {v : Value} {xs : List Value} (h : w.ownsRow base e s v n xs) (b j : Nat) (x : Value) (hb : v.ownBlock ≠ some b) : (w.setCell ⟨b, j, none⟩ x).ownsRow base e s v n xs := by
  obtain ⟨h1, h2⟩ := h
  refine ⟨h1, ?_⟩
  rcases h2 with h2 | ⟨g, cap, cur, rfl, hg, hc, r⟩
  · exact .inl h2
  · exact .inr ⟨g, cap, cur, rfl, hg, (heap_setCell_other w ⟨b, j, none⟩ g x (fun e => hb (by rw [Value.ownBlock]; simpa using e))).trans hc, r⟩
structure CertC (w wx : World) (b : Nat) (ra rb rc : Int) (ba : Option Addr) (bc : Nat) (bl : List Part) (pa : Option Addr) (pc : Nat) (pl : List Part) (va : Option Addr) (vc : Nat) : Prop where
  low : w.heap.size < b
  box : wx.heap[b]? = some (.cells #[.int .i64 (pk ra 4), .int .i64 (1 + pk rb 9), .slice ba bl.length bc, .slice pa pl.length pc, .slice va (votersL rc).length vc] 28 (0, 0))
  bat : ListAt wx ba bc bl
  par : ListAt wx pa pc pl
  offb : Off wx (.slice va (votersL rc).length vc) ba bl
  offp : Off wx (.slice va (votersL rc).length vc) pa pl
  awb : Away b ba bl
  awp : Away b pa pl
  ebs : bl.map (·.bs) = hBats rc
  eps : pl.map (·.bs) = hPars ra rb rc
  own : wx.ownsRow (w.heap.size + 1) 3 1 (.slice va (votersL rc).length vc) (votersL rc).length (iv (votersL rc))
  vne : ∀ sb so, va = some ⟨sb, so, none⟩ → sb ≠ b
  below : Below w.heap.size w wx
set_option maxRecDepth 100000 in
theorem CertC.mk' {w w1 w2 wx : World} {b : Nat} {ra rb rc : Int} {ba : Option Addr} {bc : Nat} {bl : List Part} {pa : Option Addr} {pc : Nat} {pl : List Part} {va : Option Addr} {vc : Nat} (hlow : w.heap.size < b)
    (hbox : wx.heap[b]? = some (.cells #[.int .i64 (pk ra 4), .int .i64 (1 + pk rb 9), .slice ba bl.length bc, .slice pa pl.length pc, .slice va (votersL rc).length vc] 28 (0, 0)))
    (h1 : ListAt wx ba bc bl) (h2 : ListAt wx pa pc pl) (o1 : Off w1 (.slice none 0 0) ba bl) (o2 : Off w1 (.slice none 0 0) pa pl) (a1 : Away b ba bl) (a2 : Away b pa pl) (e1 : bl.map (·.bs) = hBats rc) (e2 : pl.map (·.bs) = hPars ra rb rc)
    (hw1 : w.heap.size + 1 ≤ w1.heap.size) (ho : w2.ownsRow w1.heap.size 3 1 (.slice va (votersL rc).length vc) (votersL rc).length (iv (votersL rc))) (hx : wx.ownsRow w1.heap.size 3 1 (.slice va (votersL rc).length vc) (votersL rc).length (iv (votersL rc))) (h12 : w1.heap.size ≤ w2.heap.size) (h2x : w2.heap.size ≤ wx.heap.size) (hvb : ∀ sb so, va = some ⟨sb, so, none⟩ → sb ≠ b) (hB : Below w.heap.size w wx) : CertC w wx b ra rb rc ba bc bl pa pc pl va vc := by
  have up : ∀ sb, sb < w1.heap.size → sb < wx.heap.size ∧ (Value.slice va (votersL rc).length vc).ownBlock ≠ some sb := fun sb h => ⟨by omega, fun e => by have := (ho.lt sb e).1; omega⟩
  exact ⟨hlow, hbox, h1, h2, ⟨fun sb so e => up sb (o1.row sb so e).1, fun p hp sb so e => up sb (o1.each p hp sb so e).1⟩, ⟨fun sb so e => up sb (o2.row sb so e).1, fun p hp sb so e => up sb (o2.each p hp sb so e).1⟩, a1, a2, e1, e2, ownsRow_base' hx hw1, hvb, hB⟩
set_option maxRecDepth 100000 in
theorem certC_last {w w1 w2 : World} {ra rb rc : Int} {ba : Option Addr} {bc : Nat} {bl : List Part} {pa : Option Addr} {pc : Nat} {pl : List Part} {va : Option Addr} {vc : Nat} (hw : Below w.heap.size w w1) (hN : w.heap.size + 1 ≤ w1.heap.size) (hL1 : ListAt w1 ba bc bl) (hL2 : ListAt w1 pa pc pl) (o1 : Off w1 (.slice none 0 0) ba bl) (o2 : Off w1 (.slice none 0 0) pa pl) (e1 : bl.map (·.bs) = hBats rc) (e2 : pl.map (·.bs) = hPars ra rb rc) (hb2 : Below w1.heap.size w1 w2) (ho : w2.ownsRow w1.heap.size 3 1 (.slice va (votersL rc).length vc) (votersL rc).length (iv (votersL rc))) :
    CertC w (w2.alloc (.cells #[.int .i64 (pk ra 4), .int .i64 (1 + pk rb 9), .slice ba bl.length bc, .slice pa pl.length pc, .slice va (votersL rc).length vc] 28)) w2.heap.size ra rb rc ba bc bl pa pc pl va vc := by
  have hA : Below w2.heap.size w2 (w2.alloc (.cells #[.int .i64 (pk ra 4), .int .i64 (1 + pk rb 9), .slice ba bl.length bc, .slice pa pl.length pc, .slice va (votersL rc).length vc] 28)) := (Below.refl _ _).alloc (Nat.le_refl _) _
  have h2 := hb2.size
  exact CertC.mk' (w1 := w1) (w2 := w2) (by omega) (heap_alloc_new _ _) ((hL1.below hb2).below hA) ((hL2.below hb2).below hA) o1 o2 ⟨fun sb so e => by have := (o1.row sb so e).1; omega, fun p hp sb so e => by have := (o1.each p hp sb so e).1; omega⟩ ⟨fun sb so e => by have := (o2.row sb so e).1; omega, fun p hp sb so e => by have := (o2.each p hp sb so e).1; omega⟩ e1 e2 hN ho (World.ownsRow.alloc ho _) h2 hA.size (fun sb so e => by subst e; have := (ho.lt sb rfl).2; omega) ((hw.trans (hb2.mono hw.size)).alloc (Nat.le_trans hw.size h2) _)
set_option maxRecDepth 100000 in
theorem certC_mid {w w1 w2 : World} {ra rb rc : Int} {ba : Option Addr} {bc : Nat} {bl : List Part} {pa : Option Addr} {pc : Nat} {pl : List Part} {va : Option Addr} {vc : Nat} (hw : Below w.heap.size w w1) (hN : w.heap.size + 1 ≤ w1.heap.size) (hL1 : ListAt w1 ba bc bl) (hL2 : ListAt w1 pa pc pl) (o1 : Off w1 (.slice none 0 0) ba bl) (o2 : Off w1 (.slice none 0 0) pa pl) (e1 : bl.map (·.bs) = hBats rc) (e2 : pl.map (·.bs) = hPars ra rb rc) (hb2 : Below (w1.alloc (.cells #[.int .i64 0, .int .i64 0, .slice none 0 0, .slice none 0 0, .slice none 0 0] 28)).heap.size (w1.alloc (.cells #[.int .i64 0, .int .i64 0, .slice none 0 0, .slice none 0 0, .slice none 0 0] 28)) w2) (ho : w2.ownsRow (w1.alloc (.cells #[.int .i64 0, .int .i64 0, .slice none 0 0, .slice none 0 0, .slice none 0 0] 28)).heap.size 3 1 (.slice va (votersL rc).length vc) (votersL rc).length (iv (votersL rc))) :
    CertC w (((((w2.setCell ⟨w1.heap.size, 0, none⟩ (.int .i64 (pk ra 4))).setCell ⟨w1.heap.size, 1, none⟩ (.int .i64 (1 + pk rb 9))).setCell ⟨w1.heap.size, 2, none⟩ (.slice ba bl.length bc)).setCell ⟨w1.heap.size, 3, none⟩ (.slice pa pl.length pc)).setCell ⟨w1.heap.size, 4, none⟩ (.slice va (votersL rc).length vc)) w1.heap.size ra rb rc ba bc bl pa pc pl va vc := by
  have r2 := row_new hb2
  have hA : Below w1.heap.size w1 w2 := below_alloc hb2
  have h2 := hA.size
  rw [size_alloc] at ho
  have a1 : Away w1.heap.size ba bl := ⟨fun sb so e => by have := (o1.row sb so e).1; omega, fun p hp sb so e => by have := (o1.each p hp sb so e).1; omega⟩
  have a2 : Away w1.heap.size pa pl := ⟨fun sb so e => by have := (o2.row sb so e).1; omega, fun p hp sb so e => by have := (o2.each p hp sb so e).1; omega⟩
  have hvne : (Value.slice va (votersL rc).length vc).ownBlock ≠ some w1.heap.size := fun e => by have := (ho.lt _ e).1; omega
  have hoo := ownsRow_base' ho (Nat.le_succ _)
  have hB := hw.trans (hA.mono hw.size)
  refine CertC.mk' (w1 := w1) (w2 := w2) (by omega) (by simpa using heap_setCell_same _ _ 4 _ _ _ (heap_setCell_same _ _ 3 _ _ _ (heap_setCell_same _ _ 2 _ _ _ (heap_setCell_same _ _ 1 _ _ _ (heap_setCell_same _ _ 0 _ _ _ r2))))) ?_ ?_ o1 o2 a1 a2 e1 e2 hN hoo ?_ h2 (by simp) (fun sb so e => by subst e; have := (ho.lt sb rfl).1; omega) ?_
  · exact ((((((hL1.below hA).away a1 _ _).away a1 _ _).away a1 _ _).away a1 _ _).away a1 _ _)
  · exact ((((((hL2.below hA).away a2 _ _).away a2 _ _).away a2 _ _).away a2 _ _).away a2 _ _)
  · exact owns_away (owns_away (owns_away (owns_away (owns_away hoo _ _ _ hvne) _ _ _ hvne) _ _ _ hvne) _ _ _ hvne) _ _ _ hvne
  · exact ((((hB.setCell hw.size _).setCell hw.size _).setCell hw.size _).setCell hw.size _).setCell hw.size _
set_option maxRecDepth 100000 in
theorem certC_first {w w1 w2 : World} {ra rb rc : Int} {ba : Option Addr} {bc : Nat} {bl : List Part} {pa : Option Addr} {pc : Nat} {pl : List Part} {va : Option Addr} {vc : Nat} (hw : Below w.heap.size w w1) (hN : w.heap.size + 2 ≤ w1.heap.size) (hL1 : ListAt w1 ba bc bl) (hL2 : ListAt w1 pa pc pl) (o1 : Off w1 (.slice none 0 0) ba bl) (o2 : Off w1 (.slice none 0 0) pa pl) (e1 : bl.map (·.bs) = hBats rc) (e2 : pl.map (·.bs) = hPars ra rb rc) (f1 : Fresh (w.heap.size + 2) ba bl) (f2 : Fresh (w.heap.size + 2) pa pl) (hb2 : Below w1.heap.size w1 w2) (ho : w2.ownsRow w1.heap.size 3 1 (.slice va (votersL rc).length vc) (votersL rc).length (iv (votersL rc))) (r2 : w2.heap[w.heap.size + 1]? = some (.cells #[.int .i64 0, .int .i64 0, .slice none 0 0, .slice none 0 0, .slice none 0 0] 28 (0, 0))) :
    CertC w (((((w2.setCell ⟨w.heap.size + 1, 0, none⟩ (.int .i64 (pk ra 4))).setCell ⟨w.heap.size + 1, 1, none⟩ (.int .i64 (1 + pk rb 9))).setCell ⟨w.heap.size + 1, 2, none⟩ (.slice ba bl.length bc)).setCell ⟨w.heap.size + 1, 3, none⟩ (.slice pa pl.length pc)).setCell ⟨w.heap.size + 1, 4, none⟩ (.slice va (votersL rc).length vc)) (w.heap.size + 1) ra rb rc ba bc bl pa pc pl va vc := by
  have h2 := hb2.size
  have a1 : Away (w.heap.size + 1) ba bl := ⟨fun sb so e => by have := f1.row sb so e; omega, fun p hp sb so e => by have := f1.each p hp sb so e; omega⟩
  have a2 : Away (w.heap.size + 1) pa pl := ⟨fun sb so e => by have := f2.row sb so e; omega, fun p hp sb so e => by have := f2.each p hp sb so e; omega⟩
  have hvne : (Value.slice va (votersL rc).length vc).ownBlock ≠ some (w.heap.size + 1) := fun e => by have := (ho.lt _ e).1; omega
  have hB := hw.trans (hb2.mono hw.size)
  have hs : w.heap.size ≤ w.heap.size + 1 := Nat.le_succ _
  refine CertC.mk' (w1 := w1) (w2 := w2) (by omega) (by simpa using heap_setCell_same _ _ 4 _ _ _ (heap_setCell_same _ _ 3 _ _ _ (heap_setCell_same _ _ 2 _ _ _ (heap_setCell_same _ _ 1 _ _ _ (heap_setCell_same _ _ 0 _ _ _ r2))))) ?_ ?_ o1 o2 a1 a2 e1 e2 (by omega) ho ?_ h2 (by simp) (fun sb so e => by subst e; have := (ho.lt sb rfl).1; omega) ?_
  · exact ((((((hL1.below hb2).away a1 _ _).away a1 _ _).away a1 _ _).away a1 _ _).away a1 _ _)
  · exact ((((((hL2.below hb2).away a2 _ _).away a2 _ _).away a2 _ _).away a2 _ _).away a2 _ _)
  · exact owns_away (owns_away (owns_away (owns_away (owns_away ho _ _ _ hvne) _ _ _ hvne) _ _ _ hvne) _ _ _ hvne) _ _ _ hvne
  · exact ((((hB.setCell hs _).setCell hs _).setCell hs _).setCell hs _).setCell hs _
end Go.Proofs.YtmpflkggbekpfaaDoor
