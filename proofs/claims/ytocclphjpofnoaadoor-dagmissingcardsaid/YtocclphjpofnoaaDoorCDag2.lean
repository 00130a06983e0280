/- dag's stock: missing, takes. -/
import Derived.Test.YtocclphjpofnoaaDoorCDag1
import Derived.Test.YtocclphjpofnoaaDoorOwnL
namespace Go.Proofs.YtocclphjpofnoaaDoor
open Go.RowKit

set_option maxRecDepth 100000 in
theorem list_of_owns {w : World} {base n : Nat} {v : Value} {ps : List Part} (h : w.ownsRow base 29 1 v n (pv ps)) (he : ∀ p ∈ ps, SliceAt w p.sa p.cap p.bs) (hm : n ≤ 9000000000000000000) : ∃ ra rc, v = .slice ra n rc ∧ n = ps.length ∧ ListAt w ra rc ps ∧ (∀ sb so, ra = some ⟨sb, so, none⟩ → base ≤ sb ∧ sb < w.heap.size) := by
  have hl : n = ps.length := by have := h.1; rw [pv_length] at this; omega
  rcases h.2 with ⟨rfl, hn⟩ | ⟨g, cap, cur, rfl, hr⟩
  · have hb : ps = [] := List.eq_nil_of_length_eq_zero (by omega)
    subst hn hb
    exact ⟨none, 0, rfl, rfl, ⟨Nat.le_refl _, by decide, by decide, .inl rfl, ⟨.inl rfl, fun p hp => by cases hp⟩⟩, (fun _ _ e => by cases e)⟩
  · refine ⟨some ⟨g, 0, none⟩, cap, rfl, hl, ⟨?_, ?_, by omega, .inr ⟨g, 0, rfl⟩, ⟨.inr ⟨g, 0, rfl, fun j hj => ?_⟩, he⟩⟩, (fun sb so e => by cases e; exact h.lt _ rfl)⟩
    · obtain ⟨_, _, h1, _⟩ := hr
      omega
    · obtain ⟨_, _, _, h2, _⟩ := hr
      exact h2
    · rw [Nat.zero_add, World.ownsRow.cellAt h j (by omega)]
      simp [pv, Part.val, hj]
/-- What missing answers. -/
def MisAt (w w' : World) (e : Ending) (l : List CV) (rd : Int) (pl : List Part) : Prop :=
  (parF l rd (bss pl) = 9 ∧ e = .returned (.tuple #[.slice none 0 0, .int .i64 9])) ∨ (parF l rd (bss pl) ≠ 9 ∧ ∃ ma mc ms, e = .returned (.tuple #[.slice ma (List.length ms) mc, .int .i64 0]) ∧ bss ms = misF l (bss pl) ∧ ListAt w' ma mc ms ∧ (∀ sb so, ma = some ⟨sb, so, none⟩ → w.heap.size ≤ sb ∧ sb < w'.heap.size) ∧ ∀ p ∈ ms, p ∈ pl)
set_option maxRecDepth 100000 in
set_option maxHeartbeats 1000000 in
theorem missing_any (ls : List Ct) (ca : Option Addr) (cc : Nat) (da : Option Addr) (dc : Nat) (ds : List Part) (au rd : Int) (ba : Option Addr) (bn bc : Nat) (pl : List Part) (pa : Option Addr) (pc : Nat) (w : World) (hs : StockAt w ca cc ls da dc ds) (hpl : pl.length ≤ 4) (hrd : 1 ≤ rd ∧ rd ≤ 1048576) (hp : PartsAt w pa pl) :
    Calls Tryd.prog 39 #[.agg #[.slice ca ls.length cc, .slice da ls.length dc], .agg #[.int .i64 au, .int .i64 rd, .slice ba bn bc, .slice pa pl.length pc]] w fun e w' => MisAt w w' e (cvs ls) rd pl ∧ Below w.heap.size w w' := by
  have hA : Below w.heap.size w ((w.alloc (.cells #[.slice ca ls.length cc, .slice da ls.length dc] 56)).alloc (.cells #[.int .i64 au, .int .i64 rd, .slice ba bn bc, .slice pa pl.length pc] 32)) := ((Below.refl _ _).alloc (Nat.le_refl _) _).alloc (by rw [size_alloc]; omega) _
  have r0 := heap_alloc2_old w (.cells #[.slice ca ls.length cc, .slice da ls.length dc] 56) (.cells #[.int .i64 au, .int .i64 rd, .slice ba bn bc, .slice pa pl.length pc] 32)
  have r1 : ((w.alloc (.cells #[.slice ca ls.length cc, .slice da ls.length dc] 56)).alloc (.cells #[.int .i64 au, .int .i64 rd, .slice ba bn bc, .slice pa pl.length pc] 32)).heap[w.heap.size + 1]? = some (.cells #[.int .i64 au, .int .i64 rd, .slice ba bn bc, .slice pa pl.length pc] 32 (0, 0)) := by
    have := heap_alloc_new (w.alloc (.cells #[.slice ca ls.length cc, .slice da ls.length dc] 56)) (.cells #[.int .i64 au, .int .i64 rd, .slice ba bn bc, .slice pa pl.length pc] 32)
    rw [size_alloc] at this; exact this
  obtain ⟨i, hi, hz0, hz1, hz2⟩ := info_parts infoBs
  have hsm := hs.small
  have hcl := hs.cle
  have hcm := hs.cmax
  go_enter Tryd.func39, Tryd.ntmps39
  go_wp2_with fail
  generalize (w.alloc (.cells #[.slice ca ls.length cc, .slice da ls.length dc] 56)).alloc (.cells #[.int .i64 au, .int .i64 rd, .slice ba bn bc, .slice pa pl.length pc] 32) = W0 at hA r0 r1 ⊢
  have hlt0 : w.heap.size < W0.heap.size := lt_of_heap r0
  have hlt1 : w.heap.size + 1 < W0.heap.size := lt_of_heap r1
  go_loopw [13, 6] (fun j v wr => ∃ (m : Nat) (ms : List Part), m ≤ pl.length ∧ j = .int .i64 m ∧ bss ms = misTo (cvs ls) (bss pl) m ∧ (∀ p ∈ ms, p ∈ pl) ∧ parTo (cvs ls) rd (bss pl) m ≠ 9 ∧ wr.ownsRow W0.heap.size 29 1 v ms.length (pv ms) ∧ Below W0.heap.size W0 wr) (fun j _ _ => pl.length - (intOf j).toNat)
  case atStart => exact ⟨0, [], Nat.zero_le _, rfl, rfl, (fun p hp => by cases hp), by rw [parTo]; decide, World.ownsRow_nil _ _ _ _, Below.refl _ _⟩
  case round =>
    obtain ⟨m, ms, hm, rfl, hS, hin, hno, ho, hbr⟩ := hrel
    have hAr := hA.trans (hbr.mono hA.size)
    have s0 := (hbr.block _ hlt0).trans r0
    have s1 := (hbr.block _ hlt1).trans r1
    have b0 : wr.cell? ⟨w.heap.size, 0, none⟩ = some (.slice ca ls.length cc) := cells_at s0 0 _ rfl
    have b1 : wr.cell? ⟨w.heap.size, 1, none⟩ = some (.slice da ls.length dc) := cells_at s0 1 _ rfl
    have d1 : wr.cell? ⟨w.heap.size + 1, 1, none⟩ = some (.int .i64 rd) := cells_at s1 1 _ rfl
    have hsr := hs.below hAr
    have hpr := hp.below hAr
    have hml : ms.length ≤ m := by
      have := congrArg List.length hS
      rw [bss_length] at this
      rw [this]; exact misTo_length _ _ _
    by_cases hlt : m < pl.length
    · rcases hpr.cells with hcc | ⟨pb, po, rfl, hcc⟩
      · subst hcc; simp at hlt
      have ck := hcc m hlt
      have hx := hpr.each (pl[m]) (List.getElem_mem hlt)
      have hmem : pl[m] ∈ pl := List.getElem_mem hlt
      have hltI : (m : Int) < pl.length := by omega
      have hg := bss_get pl m hlt
      have hlb : m < (bss pl).length := by rw [bss_length]; exact hlt
      have Hn : Hid (pOf (cvs ls) (pl[m]).bs < 0 → parTo (cvs ls) rd (bss pl) (m + 1) ≠ 9 ∧ misTo (cvs ls) (bss pl) (m + 1) = bss ms ++ [(pl[m]).bs]) := by
        show _ → _
        intro h
        refine ⟨?_, ?_⟩
        · rw [parTo_none _ _ _ m hno (by rw [hg]; exact h)]; decide
        · rw [misTo, hg, if_pos h, hS]
      have Ho : Hid (¬ pOf (cvs ls) (pl[m]).bs < 0 → (cvAt (cvs ls) (pOf (cvs ls) (pl[m]).bs).toNat).rd ≠ rd - 1 → parF (cvs ls) rd (bss pl) = 9) := by
        show _ → _ → _
        intro h1 h2
        exact parTo_order _ _ _ m (by rw [hg]; exact h1) (by rw [hg]; exact h2) hlb
      have Hk : Hid (¬ pOf (cvs ls) (pl[m]).bs < 0 → (cvAt (cvs ls) (pOf (cvs ls) (pl[m]).bs).toNat).rd = rd - 1 → parTo (cvs ls) rd (bss pl) (m + 1) ≠ 9 ∧ bss ms = misTo (cvs ls) (bss pl) (m + 1)) := by
        show _ → _ → _
        intro h1 h2
        refine ⟨?_, ?_⟩
        · rw [parTo_ok _ _ _ m (by rw [hg]; exact h1) (by rw [hg]; exact h2)]; exact hno
        · rw [misTo, hg, if_neg h1, hS]
      have hB := pOf_bounds (cvs ls) (pl[m]).bs
      rw [cvs_length] at hB
      have hcl' : ∀ k : Nat, k < ls.length → ∃ sb so, ca = some ⟨sb, so, none⟩ ∧ wr.cell? ⟨sb, so + k * 5 + 1, none⟩ = some (.int .i64 (cvAt (cvs ls) k).rd) := fun k hk => by
        obtain ⟨sb, so, e, _, c1, _⟩ := hsr.certs.at k hk
        exact ⟨sb, so, e, by rw [cvAt_get ls k hk]; exact c1⟩
      have HCL : Hid _ := hcl'
      have HIN : Hid (∀ p ∈ ms, p ∈ pl) := hin
      have HMEM : Hid (pl[m] ∈ pl) := hmem
      clear hno hg hcc hlb hcl' hS hin hmem
      generalize pl[m] = p at *
      go_wp2_with fail
      refine (withDigest_any ls ca _ cc da _ dc ds p.bs p.sa _ p.cap wr rfl hsr rfl hx).mono ?_
      rintro e w1 ⟨he, hb1⟩
      subst he
      dsimp only
      have hB1 := hbr.trans (hb1.mono hbr.size)
      have hob := owns_keep ho hb1
      have t1 := (hb1.cell (p := ⟨w.heap.size + 1, 1, none⟩) (block_lt_of_cell d1)).trans d1
      have t0 := (hb1.cell (p := ⟨w.heap.size, 0, none⟩) (block_lt_of_cell b0)).trans b0
      generalize pOf (cvs ls) p.bs = r at *
      by_cases hr : r < 0
      · obtain ⟨H1, H2⟩ := Hn.out hr
        have HX : Hid _ := H1
        have HY : Hid _ := H2
        clear Hn Ho Hk HCL H1 H2
        obtain rfl : r = -1 := by omega
        go_wp2_with (at_builtin; refine wpList_append_own_at _ rfl _ _ 30 rfl W0.heap.size 29 i (.slice none 0 0) 1 24 Tryd.underlying30 hi hz0 hz1 hz2 rfl (by decide) _ ms.length _ rfl (World.ownsRow.alloc hob _) ⟨w1.heap.size, 0, none⟩ 1 1 [.slice p.sa p.bs.length p.cap] rfl rfl (cells_new _ _ _) (by intro u hu; simp at hu; subst hu; rfl) (by unfold maxLen; omega) (by omega) (le_alloc hB1.size _) ?_; intro v1 w3 ho3 hg3 _ hat)
        have hB3 := Below.grown (hB1.alloc hB1.size _) hg3 (le_alloc hB1.size _) (fun q e => (hob.lt q e).1)
        go_roundw
        case rel =>
          have hR : ∃ (m' : Nat) (ms' : List Part), m' ≤ pl.length ∧ (Value.int .i64 ((m : Int) + 1)) = .int .i64 m' ∧ bss ms' = misTo (cvs ls) (bss pl) m' ∧ (∀ p ∈ ms', p ∈ pl) ∧ parTo (cvs ls) rd (bss pl) m' ≠ 9 ∧ w3.ownsRow W0.heap.size 29 1 v1 ms'.length (pv ms') ∧ Below W0.heap.size W0 w3 :=
            ⟨m + 1, ms ++ [p], by omega, by go_num, by rw [HY.out]; simp [bss], (fun q hq => by
              rcases List.mem_append.1 hq with hq | hq
              · exact HIN.out q hq
              · obtain rfl : q = p := by simpa using hq
                exact HMEM.out), HX.out, by simpa [pv, Part.val] using ho3, hB3⟩
          first | exact hR | ((repeat apply Exists.intro); exact ⟨hR, rfl⟩)
        case measure => simp [intOf]; omega
      · obtain ⟨k, rfl⟩ : ∃ k : Nat, r = k := ⟨r.toNat, by omega⟩
        obtain ⟨sb, so, rfl, c1⟩ := HCL.out k (by omega)
        replace c1 := (hb1.cell (p := ⟨sb, so + k * 5 + 1, none⟩) (block_lt_of_cell c1)).trans c1
        simp only [Int.toNat_natCast] at Ho Hk
        clear Hn HCL
        generalize (cvAt (cvs ls) k).rd = y at *
        have hwr : IntKind.i64.wrap (rd - 1) = rd - 1 := by rw [IntKind.wrap_i64]; omega
        have hkI : (k : Int) < ls.length := by omega
        by_cases hy : y = rd - 1
        · obtain ⟨H1, H2⟩ := Hk.out (by omega) hy
          have HX : Hid _ := H1
          have HY : Hid _ := H2
          subst hy
          clear Hk Ho H1 H2
          have hwe : (rd - 1 != IntKind.i64.wrap (rd - 1)) = false := by rw [hwr]; simp
          go_wp2_with fail
          go_region_held3 (fun w' => w'.cell? ⟨w.heap.size, 0, none⟩ = some (.slice (some ⟨sb, so, none⟩) ls.length cc) ∧ w'.cell? ⟨w.heap.size + 1, 1, none⟩ = some (.int .i64 rd) ∧ w'.cell? ⟨sb, so + k * 5 + 1, none⟩ = some (.int .i64 (rd - 1))) (go_keep) (fail)
          all_goals
            go_wp2_with fail
            go_roundw
            case rel =>
              have hR : ∃ (m' : Nat) (ms' : List Part), m' ≤ pl.length ∧ (Value.int .i64 ((m : Int) + 1)) = .int .i64 m' ∧ bss ms' = misTo (cvs ls) (bss pl) m' ∧ (∀ p ∈ ms', p ∈ pl) ∧ parTo (cvs ls) rd (bss pl) m' ≠ 9 ∧ w1.drew.ownsRow W0.heap.size 29 1 u6 ms'.length (pv ms') ∧ Below W0.heap.size W0 w1.drew :=
                ⟨m + 1, ms, by omega, by go_num, HY.out, HIN.out, HX.out, hob.drew, hB1.drew⟩
              first | exact hR | ((repeat apply Exists.intro); exact ⟨hR, rfl⟩)
            case measure => simp [intOf]; omega
        · have He : Hid (parF (cvs ls) rd (bss pl) = 9) := Ho.out (by omega) hy
          clear Hk Ho
          have hwe : (y != IntKind.i64.wrap (rd - 1)) = true := by rw [hwr]; simpa using hy
          go_wp2_with fail
          go_region_held3 (fun w' => w'.cell? ⟨w.heap.size, 0, none⟩ = some (.slice (some ⟨sb, so, none⟩) ls.length cc) ∧ w'.cell? ⟨w.heap.size + 1, 1, none⟩ = some (.int .i64 rd) ∧ w'.cell? ⟨sb, so + k * 5 + 1, none⟩ = some (.int .i64 y)) (go_keep) (fail)
          all_goals
            go_wp2_with fail
            go_ret2
            exact ⟨.inl ⟨He.out, rfl⟩, (hA.trans (hB1.mono hA.size)).drew⟩
    · obtain rfl : m = pl.length := by omega
      have HF : Hid (parF (cvs ls) rd (bss pl) ≠ 9) := by
        show parTo _ _ _ _ ≠ 9
        rw [bss_length]; exact hno
      have HM : Hid (bss ms = misF (cvs ls) (bss pl)) := by
        show bss ms = misTo _ _ _
        rw [bss_length]; exact hS
      clear hno hS
      obtain ⟨ra, rc, hv, hl, hL, hfr⟩ := list_of_owns ho (fun p hq => (hp.each p (hin p hq)).below hAr) (by omega)
      subst hv
      have HIN : Hid (∀ p ∈ ms, p ∈ pl) := hin
      clear hin
      go_wp2_with fail
      go_ret2
      exact ⟨.inr ⟨HF.out, ra, rc, ms, rfl, HM.out, hL, fun sb so e => ⟨Nat.le_trans hA.size (hfr sb so e).1, (hfr sb so e).2⟩, HIN.out⟩, hAr⟩
set_option maxRecDepth 100000 in
set_option maxHeartbeats 1000000 in
theorem takes_any (ls : List Ct) (ca : Option Addr) (cc : Nat) (da : Option Addr) (dc : Nat) (ds : List Part) (au rd : Int) (ba : Option Addr) (bn bc : Nat) (pl : List Part) (pa : Option Addr) (pc : Nat) (w : World) (hs : StockAt w ca cc ls da dc ds) (hpl : pl.length ≤ 4) (hrd : 1 ≤ rd ∧ rd ≤ 1048576) (hp : PartsAt w pa pl) :
    Calls Tryd.prog 45 #[.agg #[.slice ca ls.length cc, .slice da ls.length dc], .agg #[.int .i64 au, .int .i64 rd, .slice ba bn bc, .slice pa pl.length pc]] w fun e w' => e = .returned (.int .i64 (takF (cvs ls) au rd (bss pl))) ∧ Below w.heap.size w w' := by
  have hA : Below w.heap.size w ((w.alloc (.cells #[.slice ca ls.length cc, .slice da ls.length dc] 56)).alloc (.cells #[.int .i64 au, .int .i64 rd, .slice ba bn bc, .slice pa pl.length pc] 32)) := ((Below.refl _ _).alloc (Nat.le_refl _) _).alloc (by rw [size_alloc]; omega) _
  have r0 := heap_alloc2_old w (.cells #[.slice ca ls.length cc, .slice da ls.length dc] 56) (.cells #[.int .i64 au, .int .i64 rd, .slice ba bn bc, .slice pa pl.length pc] 32)
  have r1 : ((w.alloc (.cells #[.slice ca ls.length cc, .slice da ls.length dc] 56)).alloc (.cells #[.int .i64 au, .int .i64 rd, .slice ba bn bc, .slice pa pl.length pc] 32)).heap[w.heap.size + 1]? = some (.cells #[.int .i64 au, .int .i64 rd, .slice ba bn bc, .slice pa pl.length pc] 32 (0, 0)) := by
    have := heap_alloc_new (w.alloc (.cells #[.slice ca ls.length cc, .slice da ls.length dc] 56)) (.cells #[.int .i64 au, .int .i64 rd, .slice ba bn bc, .slice pa pl.length pc] 32)
    rw [size_alloc] at this; exact this
  go_enter Tryd.func45, Tryd.ntmps45
  go_wp2_with fail
  generalize (w.alloc (.cells #[.slice ca ls.length cc, .slice da ls.length dc] 56)).alloc (.cells #[.int .i64 au, .int .i64 rd, .slice ba bn bc, .slice pa pl.length pc] 32) = W0 at hA r0 r1 ⊢
  refine (of_any ls ca _ cc da _ dc ds au rd W0 rfl (hs.below hA)).mono ?_
  rintro e w1 ⟨he, hb1⟩
  subst he
  dsimp only
  have hB1 := hA.trans (hb1.mono hA.size)
  have H7 : Hid (0 ≤ cOf (cvs ls) au rd → takF (cvs ls) au rd (bss pl) = 7) := by
    show _ → _
    intro h; rw [takF, if_pos h]
  have H8 : Hid (¬ 0 ≤ cOf (cvs ls) au rd → takF (cvs ls) au rd (bss pl) = parF (cvs ls) rd (bss pl)) := by
    show _ → _
    intro h; rw [takF, if_neg h]
  generalize cOf (cvs ls) au rd = r at *
  by_cases hr : 0 ≤ r
  · have He : Hid _ := H7.out hr
    clear H7 H8
    go_wp2_with fail
    go_ret
    exact ⟨ret_int He.out.symm, hB1⟩
  · have He : Hid _ := H8.out hr
    clear H7 H8
    have s0 := (hb1.block _ (lt_of_heap r0)).trans r0
    have s1 := (hb1.block _ (lt_of_heap r1)).trans r1
    have b0 := cells_at s0 0 _ rfl
    have b1 := cells_at s0 1 _ rfl
    have d0 := cells_at s1 0 _ rfl
    have d1 := cells_at s1 1 _ rfl
    have d2 := cells_at s1 2 _ rfl
    have d3 := cells_at s1 3 _ rfl
    go_wp2_with fail
    refine (missing_any ls ca cc da dc ds au rd ba bn bc pl pa pc w1 (hs.below hB1) hpl hrd (hp.below hB1)).mono ?_
    rintro e w2 ⟨hM, hb2⟩
    have hB2 := hB1.trans (hb2.mono hB1.size)
    rcases hM with ⟨h9, he⟩ | ⟨h9, ma, mc, ms, he, hS, _⟩
    · have HE : Hid _ := He.out.trans h9
      clear He h9
      subst he
      dsimp only
      go_wp2_with fail
      go_ret
      exact ⟨ret_int HE.out.symm, hB2⟩
    · have hlen : ms.length = (misF (cvs ls) (bss pl)).length := by rw [← hS, bss_length]
      have HP : Hid (takF (cvs ls) au rd (bss pl) = if ms.length = 0 then 0 else 8) := by
        show _ = _
        rw [He.out, hlen]
        exact parTo_mis _ _ _ _ h9
      clear He h9 hS hlen
      subst he
      dsimp only
      by_cases hz : ms.length = 0
      · have HE : Hid (takF (cvs ls) au rd (bss pl) = 0) := by
          show _ = _
          rw [HP.out, if_pos hz]
        rw [hz]
        clear HP
        go_wp2_with fail
        go_ret
        exact ⟨ret_int HE.out.symm, hB2⟩
      · have HE : Hid (takF (cvs ls) au rd (bss pl) = 8) := by
          show _ = _
          rw [HP.out, if_neg hz]
        have hzI : (0 : Int) < ms.length := by omega
        clear HP
        go_wp2_with fail
        go_ret
        exact ⟨ret_int HE.out.symm, hB2⟩
end Go.Proofs.YtocclphjpofnoaaDoor
