/- stock: Insert. -/
import Derived.Test.YtgbomdikhidkoaaDoorCertF
import Derived.Test.YtgbomdikhidkoaaDoorCHead
import Derived.Test.YtgbomdikhidkoaaDoorDagChecksM0
import Derived.Test.YtgbomdikhidkoaaDoorCtFar
import Derived.OwnWalk
import Derived.Deep.RegionLaw
namespace Go.Proofs.YtgbomdikhidkoaaDoor
open Go.RowKit

set_option maxRecDepth 100000 in
set_option maxHeartbeats 1000000 in
theorem checkCert_any (au rd : Int) (ba : Option Addr) (bc : Nat) (bl : List Part) (pa : Option Addr) (pc : Nat) (pl : List Part) (va : Option Addr) (vc : Nat) (vl : List Int) (w : World) (hb : ListAt w ba bc bl) (hp : ListAt w pa pc pl) (hv : IntsAt w va vl) (hvm : vl.length ≤ 9000000000000000000) :
    Calls Tryd.prog 71 #[.agg #[.int .i64 au, .int .i64 rd, .slice ba bl.length bc, .slice pa pl.length pc, .slice va vl.length vc]] w fun e w' => e = .returned (.int .i64 (certF au rd bl pl vl)) ∧ Below w.heap.size w w' := by
  have hA : Below w.heap.size w (w.alloc (.cells #[.int .i64 au, .int .i64 rd, .slice ba bl.length bc, .slice pa pl.length pc, .slice va vl.length vc] 35)) := (Below.refl _ _).alloc (Nat.le_refl _) _
  go_enter Tryd.func71, Tryd.ntmps71
  go_wp2_with fail
  refine (checkHeader_any au rd ba bc bl pa pc pl _ (hb.below hA) (hp.below hA)).mono ?_
  rintro e w1 ⟨he, hb1⟩
  subst he
  dsimp only
  have r1 := row_new hb1
  replace hb1 := below_alloc hb1
  have c4 : w1.cell? ⟨w.heap.size, 4, none⟩ = some (.slice va vl.length vc) := cells_at r1 4 _ rfl
  by_cases h1 : headerF au rd bl pl = 0
  · rw [h1]
    by_cases h2 : 4 < vl.length
    · have hF : Hid (certF au rd bl pl vl = 1) := by show _ = _; rw [certF, if_neg (by simp [h1]), if_pos h2]
      have h2I : (4 : Int) < vl.length := by omega
      go_wp2_with fail
      go_ret
      exact ⟨ret_int hF.out.symm, hb1⟩
    · have hF : Hid (certF au rd bl pl vl = votersF vl) := by show _ = _; rw [certF, if_neg (by simp [h1]), if_neg h2]
      have h2I : ¬ (4 : Int) < vl.length := by omega
      clear h1
      go_wp2_with fail
      go_loop [19] (fun i => ∃ k : Nat, k ≤ vl.length ∧ i = .int .i64 k ∧ vTo vl k = 0) (fun i => vl.length - (intOf i).toNat)
      case atStart => exact ⟨0, Nat.zero_le _, rfl, rfl⟩
      case round =>
        obtain ⟨k, hk, rfl, h0⟩ := hrel
        by_cases hlt : k < vl.length
        · obtain ⟨sb, so, rfl, hc⟩ : ∃ sb so, va = some ⟨sb, so, none⟩ ∧ ∀ j, j < vl.length → w1.cell? ⟨sb, so + j, none⟩ = some (.int .i64 (vl.getD j 0)) := by
            rcases (hv.below hb1).cells with h | h
            · rw [h] at hlt; simp at hlt
            · exact h
          have ck := hc k hlt
          have hltI : (k : Int) < vl.length := by omega
          have hVf : Hid (vAt vl k ≠ 0 → votersF vl = vAt vl k) := by
            show _ → _
            intro h
            rw [votersF, vTo_at vl k hlt h0 h, if_pos h]
          have hVs : Hid (vAt vl k = 0 → vTo vl (k + 1) = 0) := by
            show _ → _
            intro h
            rw [vTo, h0, h]; rfl
          have hVa : Hid (vAt vl k = if ¬ (0 ≤ vl.getD k 0 ∧ vl.getD k 0 < 4) then 2 else if 0 < k ∧ vl.getD k 0 ≤ vl.getD (k - 1) 0 then 9 else 0) := rfl
          by_cases hkz : k = 0
          · subst hkz
            clear hc
            rw [Nat.add_zero] at ck
            generalize vl.getD 0 0 = x at *
            by_cases hn : 0 ≤ x ∧ x < 4
            · have hst := hVs.out (by rw [hVa.out, if_neg (by simp [hn]), if_neg (by omega)])
              clear hVf hVs hVa
              go_wp2_with (go_at_call 53; first | (refine (isNode_true _ _ (by omega)).mono ?_; rintro e w' ⟨rfl, rfl⟩) | (refine (isNode_false _ _ (by omega)).mono ?_; rintro e w' ⟨rfl, rfl⟩))
              go_round
              case rel => exact ⟨0 + 1, by omega, by go_num, hst⟩
              case measure => simp [intOf]; omega
            · have e2 : Hid (certF au rd bl pl vl = 2) := by
                show _ = _
                have : vAt vl 0 = 2 := by rw [hVa.out, if_pos hn]
                rw [hF.out, hVf.out (by rw [this]; decide), this]
              clear hVf hVs hVa hF
              go_wp2_with (go_at_call 53; first | (refine (isNode_true _ _ (by omega)).mono ?_; rintro e w' ⟨rfl, rfl⟩) | (refine (isNode_false _ _ (by omega)).mono ?_; rintro e w' ⟨rfl, rfl⟩))
              go_ret
              exact ⟨ret_int e2.out.symm, hb1⟩
          · have cp := hc (k - 1) (by omega)
            have hkI : (0 : Int) < k := by omega
            have t0 : ((k : Int) - 1).toNat = k - 1 := by omega
            have u0_ : IntKind.i64.wrap ((k : Int) - 1) = (k : Int) - 1 := by rw [IntKind.wrap_i64]; omega
            have z0 : (0 : Int) ≤ (k : Int) - 1 := by omega
            have z1 : (k : Int) - 1 < vl.length := by omega
            clear hc
            generalize vl.getD k 0 = x at *
            generalize vl.getD (k - 1) 0 = y at *
            by_cases hn : 0 ≤ x ∧ x < 4
            · by_cases hxy : x ≤ y
              · have e9 : Hid (certF au rd bl pl vl = 9) := by
                  show _ = _
                  have : vAt vl k = 9 := by rw [hVa.out, if_neg (by simp [hn]), if_pos (by omega)]
                  rw [hF.out, hVf.out (by rw [this]; decide), this]
                clear hVf hVs hVa hF
                go_wp2_with (go_at_call 53; first | (refine (isNode_true _ _ (by omega)).mono ?_; rintro e w' ⟨rfl, rfl⟩) | (refine (isNode_false _ _ (by omega)).mono ?_; rintro e w' ⟨rfl, rfl⟩))
                go_ret
                exact ⟨ret_int e9.out.symm, hb1⟩
              · have hst := hVs.out (by rw [hVa.out, if_neg (by simp [hn]), if_neg (by omega)])
                clear hVf hVs hVa
                go_wp2_with (go_at_call 53; first | (refine (isNode_true _ _ (by omega)).mono ?_; rintro e w' ⟨rfl, rfl⟩) | (refine (isNode_false _ _ (by omega)).mono ?_; rintro e w' ⟨rfl, rfl⟩))
                go_round
                case rel => exact ⟨k + 1, by omega, by go_num, hst⟩
                case measure => simp [intOf]; omega
            · have e2 : Hid (certF au rd bl pl vl = 2) := by
                show _ = _
                have : vAt vl k = 2 := by rw [hVa.out, if_pos hn]
                rw [hF.out, hVf.out (by rw [this]; decide), this]
              clear hVf hVs hVa hF
              go_wp2_with (go_at_call 53; first | (refine (isNode_true _ _ (by omega)).mono ?_; rintro e w' ⟨rfl, rfl⟩) | (refine (isNode_false _ _ (by omega)).mono ?_; rintro e w' ⟨rfl, rfl⟩))
              go_ret
              exact ⟨ret_int e2.out.symm, hb1⟩
        · obtain rfl : k = vl.length := by omega
          by_cases h3 : vl.length < 3
          · have e10 : Hid (certF au rd bl pl vl = 10) := by show _ = _; rw [hF.out, votersF, if_neg (by simp [h0]), if_pos h3]
            have h3I : (vl.length : Int) < 3 := by omega
            clear hF h0
            go_wp2_with fail
            go_ret
            exact ⟨ret_int e10.out.symm, hb1⟩
          · have e0 : Hid (certF au rd bl pl vl = 0) := by show _ = _; rw [hF.out, votersF, if_neg (by simp [h0]), if_neg h3]
            have h3I : ¬ (vl.length : Int) < 3 := by omega
            clear hF h0
            go_wp2_with fail
            go_ret
            exact ⟨ret_int e0.out.symm, hb1⟩
  · have hF : Hid (certF au rd bl pl vl = headerF au rd bl pl) := by show _ = _; rw [certF, if_pos h1]
    generalize headerF au rd bl pl = z at *
    go_wp2_with fail
    go_ret
    exact ⟨ret_int hF.out.symm, hb1⟩
end Go.Proofs.YtgbomdikhidkoaaDoor

namespace Go.Proofs.YtgbomdikhidkoaaDoor
open Go.RowKit

/-- What Missing answers. -/
def MisAt (w w' : World) (e : Ending) (l : List CV) (rd : Int) (pl : List Part) : Prop :=
  (parF l rd (bss pl) = 9 ∧ e = .returned (.tuple #[.slice none 0 0, .int .i64 9])) ∨ (parF l rd (bss pl) ≠ 9 ∧ ∃ ma mc ms, e = .returned (.tuple #[.slice ma (List.length ms) mc, .int .i64 0]) ∧ bss ms = misF l (bss pl) ∧ ListAt w' ma mc ms ∧ Fresh w.heap.size ma ms)
set_option maxRecDepth 100000 in
set_option maxHeartbeats 1000000 in
theorem missing_any (ls : List Ct) (s : Nat) (ca : Option Addr) (cc : Nat) (da : Option Addr) (dc : Nat) (ds : List Part) (au rd : Int) (ba : Option Addr) (bn bc : Nat) (pl : List Part) (pa : Option Addr) (pc : Nat) (w : World) (hs : StkAt w s ls ca cc da dc ds) (hpl : pl.length ≤ 4) (hrd : 1 ≤ rd ∧ rd ≤ 1048576) (hp : PartsAt w pa pl) (hre : ∀ p ∈ pl, p.bs.length ≤ 140737488355328) :
    Calls Tryd.prog 38 #[.pointer (some ⟨s, 0, none⟩), .agg #[.int .i64 au, .int .i64 rd, .slice ba bn bc, .slice pa pl.length pc]] w fun e w' => MisAt w w' e (cvs ls) rd pl ∧ Below w.heap.size w w' := by
  have hA : Below w.heap.size w (w.alloc (.cells #[.int .i64 au, .int .i64 rd, .slice ba bn bc, .slice pa pl.length pc] 32)) := (Below.refl _ _).alloc (Nat.le_refl _) _
  have r1 := heap_alloc_new w (.cells #[.int .i64 au, .int .i64 rd, .slice ba bn bc, .slice pa pl.length pc] 32)
  obtain ⟨i, hi, hz0, hz1, hz2⟩ := info_parts infoBs
  have hsm := hs.at'.small
  have hcl := hs.at'.cle
  have hcm := hs.at'.cmax
  go_enter Tryd.func38, Tryd.ntmps38
  go_wp2_with fail
  generalize w.alloc (.cells #[.int .i64 au, .int .i64 rd, .slice ba bn bc, .slice pa pl.length pc] 32) = W0 at hA r1 ⊢
  have hlt1 : w.heap.size < W0.heap.size := lt_of_heap r1
  go_loopw [13, 6] (fun j v wr => ∃ (m : Nat) (ms : List Part), m ≤ pl.length ∧ j = .int .i64 m ∧ bss ms = misTo (cvs ls) (bss pl) m ∧ Apart wr W0.heap.size v ms ∧ parTo (cvs ls) rd (bss pl) m ≠ 9 ∧ wr.ownsRow W0.heap.size 29 1 v ms.length (pv ms) ∧ Below W0.heap.size W0 wr) (fun j _ _ => pl.length - (intOf j).toNat)
  case atStart => exact ⟨0, [], Nat.zero_le _, rfl, rfl, (fun p hp => by cases hp), by rw [parTo]; decide, World.ownsRow_nil _ _ _ _, Below.refl _ _⟩
  case round =>
    obtain ⟨m, ms, hm, rfl, hS, hap, hno, ho, hbr⟩ := hrel
    have hAr := hA.trans (hbr.mono hA.size)
    have s1 := (hbr.block _ hlt1).trans r1
    have d1 : wr.cell? ⟨w.heap.size, 1, none⟩ = some (.int .i64 rd) := cells_at s1 1 _ rfl
    have hsr := hs.below hAr
    have hbx := hsr.box
    have b0 : wr.cell? ⟨s, 0, none⟩ = some (.slice ca ls.length cc) := cells_at hbx 0 _ rfl
    have hpr := hp.below hAr
    have hml : ms.length ≤ m := by
      have := congrArg List.length hS
      rw [bss_length] at this
      rw [this]; exact misTo_length _ _ _
    by_cases hlt : m < pl.length
    · rcases hpr.cells with hcc | ⟨pb, po, rfl, hcc⟩
      · subst hcc; simp at hlt
      have ck := hcc m hlt
      have hx := hpr.each (pl[m]) (List.getElem_mem hlt)
      have hxr := hre (pl[m]) (List.getElem_mem hlt)
      have hltI : (m : Int) < pl.length := by omega
      have hg := bss_get pl m hlt
      have hlb : m < (bss pl).length := by rw [bss_length]; exact hlt
      have Hn : Hid (pOf (cvs ls) (pl[m]).bs < 0 → parTo (cvs ls) rd (bss pl) (m + 1) ≠ 9 ∧ misTo (cvs ls) (bss pl) (m + 1) = bss ms ++ [(pl[m]).bs]) := by
        show _ → _
        intro h
        refine ⟨?_, ?_⟩
        · rw [parTo_none _ _ _ m hno (by rw [hg]; exact h)]; decide
        · rw [misTo, hg, if_pos h, hS]
      have Ho : Hid (¬ pOf (cvs ls) (pl[m]).bs < 0 → (cvAt (cvs ls) (pOf (cvs ls) (pl[m]).bs).toNat).rd ≠ rd - 1 → parF (cvs ls) rd (bss pl) = 9) := by
        show _ → _ → _
        intro h1 h2
        exact parTo_order _ _ _ m (by rw [hg]; exact h1) (by rw [hg]; exact h2) hlb
      have Hk : Hid (¬ pOf (cvs ls) (pl[m]).bs < 0 → (cvAt (cvs ls) (pOf (cvs ls) (pl[m]).bs).toNat).rd = rd - 1 → parTo (cvs ls) rd (bss pl) (m + 1) ≠ 9 ∧ bss ms = misTo (cvs ls) (bss pl) (m + 1)) := by
        show _ → _ → _
        intro h1 h2
        refine ⟨?_, ?_⟩
        · rw [parTo_ok _ _ _ m (by rw [hg]; exact h1) (by rw [hg]; exact h2)]; exact hno
        · rw [misTo, hg, if_neg h1, hS]
      have hB := pOf_bounds (cvs ls) (pl[m]).bs
      rw [cvs_length] at hB
      have hcl' : ∀ k : Nat, k < ls.length → ∃ sb so, ca = some ⟨sb, so, none⟩ ∧ wr.cell? ⟨sb, so + k * 5 + 1, none⟩ = some (.int .i64 (cvAt (cvs ls) k).rd) := fun k hk => by
        obtain ⟨sb, so, e, _, c1, _⟩ := hsr.at'.certs.at k hk
        exact ⟨sb, so, e, by rw [cvAt_get ls k hk]; exact c1⟩
      have HCL : Hid _ := hcl'
      clear hno hg hcc hlb hcl' hS
      generalize pl[m] = p at *
      go_wp2_with fail
      refine (withDigest_any ls s ca cc da dc ds p.bs p.sa _ p.cap wr hsr rfl hx).mono ?_
      rintro e w1 ⟨he, hb1⟩
      subst he
      dsimp only
      have hB1 := hbr.trans (hb1.mono hbr.size)
      have hob := owns_keep ho hb1
      have t1 := (hb1.cell (p := ⟨w.heap.size, 1, none⟩) (block_lt_of_cell d1)).trans d1
      have t0 := (hb1.cell (p := ⟨s, 0, none⟩) (block_lt_of_cell b0)).trans b0
      have hap1 : Apart w1 W0.heap.size _ ms := hap.same hb1.size (fun p hp b so e => hb1.block b ((hap p hp).2 b so e).2.1)
      generalize pOf (cvs ls) p.bs = r at *
      by_cases hr : r < 0
      · obtain ⟨H1, H2⟩ := Hn.out hr
        have HX : Hid _ := H1
        have HY : Hid _ := H2
        clear Hn Ho Hk HCL H1 H2
        obtain rfl : r = -1 := by omega
        go_wp2_with fail
        refine (clone_any p.bs p.sa _ p.cap w1 rfl (hx.below hb1) hxr).mono ?_
        rintro e w2 ⟨ra, rc, he, hs2, hrow, hb2⟩
        subst he
        dsimp only
        have hB2 := hB1.trans (hb2.mono hB1.size)
        have hob2 := owns_keep hob hb2
        go_wp2_with (at_builtin; refine wpList_append_own_at _ rfl _ _ 30 rfl W0.heap.size 29 i (.slice none 0 0) 1 24 Tryd.underlying30 hi hz0 hz1 hz2 rfl (by decide) _ ms.length _ rfl (World.ownsRow.alloc hob2 _) ⟨w2.heap.size, 0, none⟩ 1 1 [.slice ra p.bs.length rc] rfl rfl (cells_new _ _ _) (by intro u hu; simp at hu; subst hu; rfl) (by unfold maxLen; omega) (by omega) (le_alloc hB2.size _) ?_; intro v1 w3 ho3 hg3 _ hat)
        have G := Grew.of hg3 hat
        have hb12 := hb1.trans (hb2.mono hb1.size)
        have hap3 := hap.more_at (q := ⟨ra, rc, p.bs⟩) hbr.size ho hb12 (fun sb so e => ⟨Nat.le_trans hb1.size (hrow sb so e).1, (hrow sb so e).2⟩) hs2 G
        have hB3 := Below.grown (hB2.alloc hB2.size _) hg3 (le_alloc hB2.size _) (fun q e => (hob2.lt q e).1)
        go_roundw
        case rel =>
          have hR : ∃ (m' : Nat) (ms' : List Part), m' ≤ pl.length ∧ (Value.int .i64 ((m : Int) + 1)) = .int .i64 m' ∧ bss ms' = misTo (cvs ls) (bss pl) m' ∧ Apart w3 W0.heap.size v1 ms' ∧ parTo (cvs ls) rd (bss pl) m' ≠ 9 ∧ w3.ownsRow W0.heap.size 29 1 v1 ms'.length (pv ms') ∧ Below W0.heap.size W0 w3 :=
            ⟨m + 1, ms ++ [⟨ra, rc, p.bs⟩], by omega, by go_num, by rw [HY.out]; simp [bss], hap3, HX.out, by simpa [pv, Part.val] using ho3, hB3⟩
          first | exact hR | ((repeat apply Exists.intro); exact ⟨hR, rfl⟩)
        case measure => simp [intOf]; omega
      · obtain ⟨k, rfl⟩ : ∃ k : Nat, r = k := ⟨r.toNat, by omega⟩
        obtain ⟨sb, so, rfl, c1⟩ := HCL.out k (by omega)
        replace c1 := (hb1.cell (p := ⟨sb, so + k * 5 + 1, none⟩) (block_lt_of_cell c1)).trans c1
        simp only [Int.toNat_natCast] at Ho Hk
        clear Hn HCL
        generalize (cvAt (cvs ls) k).rd = y at *
        have hwr : IntKind.i64.wrap (rd - 1) = rd - 1 := by rw [IntKind.wrap_i64]; omega
        have hkI : (k : Int) < ls.length := by omega
        by_cases hy : y = rd - 1
        · obtain ⟨H1, H2⟩ := Hk.out (by omega) hy
          have HX : Hid _ := H1
          have HY : Hid _ := H2
          subst hy
          clear Hk Ho H1 H2
          have hwe : (rd - 1 != IntKind.i64.wrap (rd - 1)) = false := by rw [hwr]; simp
          go_wp2_with fail
          go_region_held3 (fun w' => w'.cell? ⟨s, 0, none⟩ = some (.slice (some ⟨sb, so, none⟩) ls.length cc) ∧ w'.cell? ⟨w.heap.size, 1, none⟩ = some (.int .i64 rd) ∧ w'.cell? ⟨sb, so + k * 5 + 1, none⟩ = some (.int .i64 (rd - 1))) (go_keep) (fail)
          all_goals
            go_wp2_with fail
            go_roundw
            case rel =>
              have hR : ∃ (m' : Nat) (ms' : List Part), m' ≤ pl.length ∧ (Value.int .i64 ((m : Int) + 1)) = .int .i64 m' ∧ bss ms' = misTo (cvs ls) (bss pl) m' ∧ Apart w1.drew W0.heap.size u6 ms' ∧ parTo (cvs ls) rd (bss pl) m' ≠ 9 ∧ w1.drew.ownsRow W0.heap.size 29 1 u6 ms'.length (pv ms') ∧ Below W0.heap.size W0 w1.drew :=
                ⟨m + 1, ms, by omega, by go_num, HY.out, hap1.same (Nat.le_refl _) (fun p hp b so e => rfl), HX.out, hob.drew, hB1.drew⟩
              first | exact hR | ((repeat apply Exists.intro); exact ⟨hR, rfl⟩)
            case measure => simp [intOf]; omega
        · have He : Hid (parF (cvs ls) rd (bss pl) = 9) := Ho.out (by omega) hy
          clear Hk Ho
          have hwe : (y != IntKind.i64.wrap (rd - 1)) = true := by rw [hwr]; simpa using hy
          go_wp2_with fail
          go_region_held3 (fun w' => w'.cell? ⟨s, 0, none⟩ = some (.slice (some ⟨sb, so, none⟩) ls.length cc) ∧ w'.cell? ⟨w.heap.size, 1, none⟩ = some (.int .i64 rd) ∧ w'.cell? ⟨sb, so + k * 5 + 1, none⟩ = some (.int .i64 y)) (go_keep) (fail)
          all_goals
            go_wp2_with fail
            go_ret2
            exact ⟨.inl ⟨He.out, rfl⟩, (hA.trans (hB1.mono hA.size)).drew⟩
    · obtain rfl : m = pl.length := by omega
      have HF : Hid (parF (cvs ls) rd (bss pl) ≠ 9) := by
        show parTo _ _ _ _ ≠ 9
        rw [bss_length]; exact hno
      have HM : Hid (bss ms = misF (cvs ls) (bss pl)) := by
        show bss ms = misTo _ _ _
        rw [bss_length]; exact hS
      clear hno hS
      obtain ⟨ra, rc, hv, hl, hL, hfr⟩ := listAt_of_owns ho hap
      subst hv
      go_wp2_with fail
      go_ret2
      exact ⟨.inr ⟨HF.out, ra, rc, ms, rfl, HM.out, hL (by omega), ⟨fun sb so e => Nat.le_trans hA.size (hfr.row sb so e), fun p hp sb so e => Nat.le_trans hA.size (hfr.each p hp sb so e)⟩⟩, hAr⟩
set_option maxRecDepth 100000 in
set_option maxHeartbeats 1000000 in
theorem takes_any (ls : List Ct) (s : Nat) (ca : Option Addr) (cc : Nat) (da : Option Addr) (dc : Nat) (ds : List Part) (c : Ct) (w : World) (hs : StkAt w s ls ca cc da dc ds) (hc : CtAt w c) :
    Calls Tryd.prog 59 #[.pointer (some ⟨s, 0, none⟩), .agg #[.int .i64 c.au, .int .i64 c.rd, .slice c.ba c.bl.length c.bc, .slice c.pa c.pl.length c.pc, .slice c.va c.vl.length c.vc]] w fun e w' => e = .returned (.int .i64 (stkE (cvs ls) c.v)) ∧ Below w.heap.size w w' := by
  have hA := (Below.refl w.heap.size w).alloc (Nat.le_refl _) (.cells #[.int .i64 c.au, .int .i64 c.rd, .slice c.ba c.bl.length c.bc, .slice c.pa c.pl.length c.pc, .slice c.va c.vl.length c.vc] 35)
  have r0 := heap_alloc_new w (.cells #[.int .i64 c.au, .int .i64 c.rd, .slice c.ba c.bl.length c.bc, .slice c.pa c.pl.length c.pc, .slice c.va c.vl.length c.vc] 35)
  have HE : Hid (stkE (cvs ls) c.v = if c.v.f ≠ 0 then c.v.f else if takF (cvs ls) c.au c.rd (bss c.pl) ≠ 0 then takF (cvs ls) c.au c.rd (bss c.pl) else if 400 ≤ ls.length then 6 else 0) := by
    show _ = _
    rw [stkE, cvs_length]; rfl
  have hsm := hs.at'.small
  go_enter Tryd.func59, Tryd.ntmps59
  go_wp2_with fail
  generalize w.alloc (.cells #[.int .i64 c.au, .int .i64 c.rd, .slice c.ba c.bl.length c.bc, .slice c.pa c.pl.length c.pc, .slice c.va c.vl.length c.vc] 35) = W0 at hA r0 ⊢
  have c0 := hc.below hA
  have HCK := checkCert_any c.au c.rd c.ba c.bc c.bl c.pa c.pc c.pl c.va c.vc c.vl W0 c0.hat.lb c0.hat.lp c0.ints c0.vle
  rw [Ct.f_v] at HCK
  refine HCK.mono ?_
  rintro e w1 ⟨he, hb1⟩
  subst he
  dsimp only
  clear HCK c0
  have hB1 := hA.trans (hb1.mono hA.size)
  have r1 := (hb1.block _ (lt_of_heap r0)).trans r0
  by_cases hx : c.v.f = 0
  · have HE1 : Hid (stkE (cvs ls) c.v = if takF (cvs ls) c.au c.rd (bss c.pl) ≠ 0 then takF (cvs ls) c.au c.rd (bss c.pl) else if 400 ≤ ls.length then 6 else 0) := by
      show _ = _
      rw [HE.out, if_neg (fun h => h hx)]
    obtain ⟨y1, y2, y3, y4, y5, y6⟩ := headerF_ok (certF_head (vl := c.vl) (by rw [Ct.f_v]; exact hx))
    have HP6 : Hid (∀ p ∈ c.pl, p.bs.length ≤ 140737488355328) := by
      show ∀ p, _
      exact fun p hp => by rw [y6 p hp]; decide
    rw [hx]
    clear hx HE y1 y3 y5 y6
    have d0 := cells_at r1 0 _ rfl
    have d1 := cells_at r1 1 _ rfl
    go_wp2_with fail
    refine (has_stk ls s ca cc da dc ds c.au c.rd w1 (hs.below hB1)).mono ?_
    rintro e w2 ⟨he, hb2⟩
    subst he
    dsimp only
    have hB2 := hB1.trans (hb2.mono hB1.size)
    have r2 := (hb2.block _ (lt_of_heap r1)).trans r1
    clear d0 d1
    by_cases hh : 0 ≤ cOf (cvs ls) c.au c.rd
    · have HT : Hid (stkE (cvs ls) c.v = 7) := by
        show _ = _
        have e7 : takF (cvs ls) c.au c.rd (bss c.pl) = 7 := by rw [takF, if_pos hh]
        rw [HE1.out, e7]; rfl
      rw [decide_eq_true hh]
      clear hh HE1
      go_wp2_with fail
      go_ret
      exact ⟨ret_int HT.out.symm, hB2⟩
    · have HE2 : Hid (takF (cvs ls) c.au c.rd (bss c.pl) = parF (cvs ls) c.rd (bss c.pl)) := by
        show _ = _
        rw [takF, if_neg hh]
      rw [decide_eq_false hh]
      clear hh
      have d0 := cells_at r2 0 _ rfl
      have d1 := cells_at r2 1 _ rfl
      have d2 := cells_at r2 2 _ rfl
      have d3 := cells_at r2 3 _ rfl
      go_wp2_with fail
      refine (missing_any ls s ca cc da dc ds c.au c.rd c.ba c.bl.length c.bc c.pl c.pa c.pc w2 (hs.below hB2) y4 y2 (hc.below hB2).hat.lp.parts HP6.out).mono ?_
      rintro e w3 ⟨hM, hb3⟩
      have hB3 := hB2.trans (hb3.mono hB2.size)
      have b0 := cells_at (hs.below hB3).box 0 _ rfl
      clear d0 d1 d2 d3
      rcases hM with ⟨h9, he⟩ | ⟨h9, ma, mc, ms, he, hS, -, -⟩
      · have HT : Hid (stkE (cvs ls) c.v = 9) := by
          show _ = _
          rw [HE1.out, HE2.out, h9]; rfl
        clear h9 HE1 HE2
        subst he
        dsimp only
        go_wp2_with fail
        go_ret
        exact ⟨ret_int HT.out.symm, hB3⟩
      · have hlen : ms.length = (misF (cvs ls) (bss c.pl)).length := by rw [← hS, bss_length]
        have HP : Hid (parF (cvs ls) c.rd (bss c.pl) = if ms.length = 0 then 0 else 8) := by
          show _ = _
          rw [hlen]
          exact parTo_mis _ _ _ _ h9
        clear h9 hS hlen
        subst he
        dsimp only
        by_cases hz : ms.length = 0
        · rw [hz]
          by_cases h4 : 400 ≤ ls.length
          · have HT : Hid (stkE (cvs ls) c.v = 6) := by
              show _ = _
              rw [HE1.out, HE2.out, HP.out, if_pos hz, if_neg (by simp), if_pos h4]
            have h4I : (400 : Int) ≤ ls.length := by omega
            clear HP HE1 HE2
            go_wp2_with fail
            go_ret
            exact ⟨ret_int HT.out.symm, hB3⟩
          · have HT : Hid (stkE (cvs ls) c.v = 0) := by
              show _ = _
              rw [HE1.out, HE2.out, HP.out, if_pos hz, if_neg (by simp), if_neg h4]
            have h4I : ¬ (400 : Int) ≤ ls.length := by omega
            clear HP HE1 HE2
            go_wp2_with fail
            go_ret
            exact ⟨ret_int HT.out.symm, hB3⟩
        · have HT : Hid (stkE (cvs ls) c.v = 8) := by
            show _ = _
            rw [HE1.out, HE2.out, HP.out, if_neg hz]; rfl
          have hzI : (0 : Int) < ms.length := by omega
          clear HP HE1 HE2
          go_wp2_with fail
          go_ret
          exact ⟨ret_int HT.out.symm, hB3⟩
  · have HT : Hid (stkE (cvs ls) c.v = c.v.f) := by
      show _ = _
      rw [HE.out, if_pos hx]
    have hxn : (c.v.f != 0) = true := by simpa using hx
    clear HE
    generalize c.v.f = x at *
    go_wp2_with fail
    go_ret
    exact ⟨ret_int HT.out.symm, hB1⟩
end Go.Proofs.YtgbomdikhidkoaaDoor

namespace Go.Proofs.YtgbomdikhidkoaaDoor
open Go.RowKit

set_option maxRecDepth 100000 in
theorem infoInt2 : (Tryd.prog.info? 3).map (fun i => (i.zero, i.size, i.bytes)) = some (some (.int .i64 0), 1, 8) := by kernel_rfl
def iv (vl : List Int) : List Value := vl.map (Value.int .i64)
set_option maxRecDepth 100000 in
theorem iv_length (vl : List Int) : (iv vl).length = vl.length := by simp [iv]
set_option maxRecDepth 100000 in
theorem iv_one (vl : List Int) : ∀ u ∈ iv vl, u.oneCell' = true := by
  intro u hu; simp [iv] at hu; obtain ⟨x, _, rfl⟩ := hu; rfl
set_option maxRecDepth 100000 in
theorem intsAt_of_owns {w : World} {base n : Nat} {v : Value} {vl : List Int} (h : w.ownsRow base 3 1 v n (iv vl)) : ∃ za zc, v = .slice za n zc ∧ n = vl.length ∧ IntsAt w za vl ∧ ∀ sb so, za = some ⟨sb, so, none⟩ → base ≤ sb := by
  have hl : n = vl.length := by have := h.1; rw [iv_length] at this; omega
  rcases h.2 with ⟨rfl, hn⟩ | ⟨g, cap, cur, rfl, _⟩
  · have hb : vl = [] := List.eq_nil_of_length_eq_zero (by omega)
    subst hn hb
    exact ⟨none, 0, rfl, rfl, ⟨.inl rfl⟩, fun _ _ e => by cases e⟩
  · refine ⟨some ⟨g, 0, none⟩, cap, rfl, hl, ⟨.inr ⟨g, 0, rfl, fun j hj => ?_⟩⟩, fun sb so e => by cases e; exact (h.lt _ rfl).1⟩
    rw [Nat.zero_add, World.ownsRow.cellAt h j (by omega)]
    simp [iv, hj]
set_option maxRecDepth 100000 in
theorem IntsAt.setCell {w : World} {va : Option Addr} {vl : List Int} (h : IntsAt w va vl) (b j : Nat) (v : Value) (hne : ∀ sb so, va = some ⟨sb, so, none⟩ → b ≠ sb) : IntsAt (w.setCell ⟨b, j, none⟩ v) va vl := by
  refine ⟨?_⟩
  rcases h.cells with h | ⟨sb, so, rfl, hc⟩
  · exact .inl h
  · exact .inr ⟨sb, so, rfl, fun k hk => (World.cell?_setCell_far _ _ _ _ (hne sb so rfl)).trans (hc k hk)⟩
end Go.Proofs.YtgbomdikhidkoaaDoor

namespace Go.Proofs.YtgbomdikhidkoaaDoor
open Go.RowKit

set_option maxRecDepth 100000 in
set_option maxHeartbeats 1000000 in
theorem cloneDigests_any (ps : List Part) (sa : Option Addr) (n cap : Nat) (w : World) (hn : n = ps.length) (hl4 : ps.length ≤ 1000) (hre : ∀ p ∈ ps, p.bs.length ≤ 140737488355328) (hp : PartsAt w sa ps) :
    Calls Tryd.prog 67 #[.slice sa n cap] w fun e w' => ∃ ra rc qs, e = .returned (.slice ra ps.length rc) ∧ Same qs ps ∧ ListAt w' ra rc qs ∧ Below w.heap.size w w' ∧ Fresh w.heap.size ra qs ∧ (∀ sb so, ra = some ⟨sb, so, none⟩ → sb < w'.heap.size) := by
  subst hn
  obtain ⟨i, hi, hz0, hz1, hz2⟩ := info_parts infoBs
  go_enter Tryd.func67, Tryd.ntmps67
  go_wp2_with fail
  go_loopw [8, 3] (fun j v wr => ∃ (k : Nat) (qs : List Part), k ≤ ps.length ∧ j = .int .i64 k ∧ Same qs (ps.take k) ∧ wr.ownsRow w.heap.size 29 1 v k (pv qs) ∧ Apart wr w.heap.size v qs ∧ Below w.heap.size w wr) (fun j _ _ => ps.length - (intOf j).toNat)
  case atStart => exact ⟨0, [], Nat.zero_le _, rfl, by simp [Same], World.ownsRow_nil _ _ _ _, (fun p hp => by cases hp), Below.refl _ _⟩
  case round =>
    obtain ⟨k, qs, hk, rfl, hS, ho, hap, hb⟩ := hrel
    by_cases hlt : k < ps.length
    · have hpw := hp.below hb
      obtain ⟨sb, so, rfl, hc⟩ : ∃ sb so, sa = some ⟨sb, so, none⟩ ∧ ∀ j (h : j < ps.length), wr.cell? ⟨sb, so + j, none⟩ = some (.slice (ps[j]).sa (ps[j]).bs.length (ps[j]).cap) := by
        rcases hpw.cells with h | h
        · rw [h] at hlt; simp at hlt
        · exact h
      have ck := hc k hlt
      have hx := hpw.each (ps[k]) (List.getElem_mem hlt)
      have hxr := hre (ps[k]) (List.getElem_mem hlt)
      have hst : Hid (ps.take (k + 1) = ps.take k ++ [ps[k]]) := List.take_succ_eq_append_getElem hlt
      have hltI : (k : Int) < ps.length := by omega
      clear hc
      generalize ps[k] = p at *
      go_wp2_with fail
      refine (clone_any p.bs p.sa _ p.cap wr rfl hx hxr).mono ?_
      rintro e w2 ⟨ra, rc, he, hs2, hrow, hb2⟩
      subst he
      dsimp only
      have hob := owns_keep ho hb2
      have hB2 := hb.trans (hb2.mono hb.size)
      go_wp2_with (at_builtin; refine wpList_append_own_at _ rfl _ _ 30 rfl w.heap.size 29 i (.slice none 0 0) 1 24 Tryd.underlying30 hi hz0 hz1 hz2 rfl (by decide) _ k _ rfl (World.ownsRow.alloc hob _) ⟨w2.heap.size, 0, none⟩ 1 1 [.slice ra p.bs.length rc] rfl rfl (cells_new _ _ _) (by intro u hu; simp at hu; subst hu; rfl) (by unfold maxLen; omega) (by omega) (le_alloc hB2.size _) ?_; intro v1 w3 ho3 hg3 _ hat)
      have G := Grew.of hg3 hat
      have hap3 := hap.more_at (q := ⟨ra, rc, p.bs⟩) hb.size ho hb2 hrow hs2 G
      have hB3 := Below.grown (hB2.alloc hB2.size _) hg3 (le_alloc hB2.size _) (fun q e => (hob.lt q e).1)
      go_wp2_with fail
      go_roundw
      case rel =>
        have hR : ∃ (k' : Nat) (qs' : List Part), k' ≤ ps.length ∧ (Value.int .i64 ((k : Int) + 1)) = .int .i64 k' ∧ Same qs' (ps.take k') ∧ w3.ownsRow w.heap.size 29 1 v1 k' (pv qs') ∧ Apart w3 w.heap.size v1 qs' ∧ Below w.heap.size w w3 :=
          ⟨k + 1, qs ++ [⟨ra, rc, p.bs⟩], by omega, by go_num, by rw [hst.out]; simp only [Same, List.map_append] at hS ⊢; rw [hS]; rfl, by simpa [pv, Part.val] using ho3, hap3, hB3⟩
        first | exact hR | ((repeat apply Exists.intro); exact ⟨hR, rfl⟩)
      case measure => simp [intOf]; omega
    · obtain rfl : k = ps.length := by omega
      rw [List.take_of_length_le (Nat.le_refl _)] at hS
      obtain ⟨ra, rc, hv, hl, hL, hfr⟩ := listAt_of_owns ho hap
      subst hv
      go_wp2_with fail
      go_ret
      exact ⟨ra, rc, qs, rfl, hS, hL (by omega), hb, hfr, fun sb so e => by subst e; exact (ho.lt sb rfl).2⟩
set_option maxRecDepth 100000 in
theorem infoIntC : (Tryd.prog.info? 3).map (fun i => (i.zero, i.size, i.bytes)) = some (some (.int .i64 0), 1, 8) := by kernel_rfl
set_option maxRecDepth 100000 in
set_option maxHeartbeats 400000 in
theorem cloneInts_any (vl : List Int) (va : Option Addr) (n cap : Nat) (w : World) (hn : n = vl.length) (hl : vl.length ≤ 1000) (hs : IntsAt w va vl) :
    Calls Tryd.prog 68 #[.slice va n cap] w fun e w' => ∃ ra rc, e = .returned (.slice ra vl.length rc) ∧ IntsAt w' ra vl ∧ (∀ sb so, ra = some ⟨sb, so, none⟩ → w.heap.size ≤ sb ∧ sb < w'.heap.size) ∧ Below w.heap.size w w' := by
  subst hn
  obtain ⟨i, hi, hz0, hz1, hz2⟩ := info_parts infoIntC
  cases va with
  | none =>
    have hb : vl = [] := by
      rcases hs.cells with h | ⟨_, _, h, _⟩
      · exact h
      · cases h
    subst hb
    have he : ∀ w : World, (binOp .eql 33 (.slice none 0 cap) (.slice none 0 0)).run Tryd.prog w = .ok (.bool true) w := fun _ => rfl
    go_enter Tryd.func68, Tryd.ntmps68
    go_wp2_with fail
    go_ret
    exact ⟨none, 0, rfl, ⟨.inl rfl⟩, (fun _ _ e => by cases e), Below.refl _ _⟩
  | some ad =>
    have he : ∀ w : World, (binOp .eql 33 (.slice (some ad) vl.length cap) (.slice none 0 0)).run Tryd.prog w = .ok (.bool false) w := fun _ => rfl
    have hA : Below w.heap.size w (w.alloc (.cells #[] 3)) := (Below.refl _ _).alloc (Nat.le_refl _) _
    have hcells : ∀ j u, (iv vl)[j]? = some u → (w.alloc (.cells #[] 3)).cell? (ad.add j) = some u := fun j u hu => by
      have hj : j < vl.length := by
        rcases Nat.lt_or_ge j vl.length with h | h
        · exact h
        · rw [List.getElem?_eq_none (by rw [iv_length]; exact h)] at hu; cases hu
      rcases (hs.below hA).cells with h | ⟨sb, so, e, hc⟩
      · rw [h] at hj; simp at hj
      · cases e
        have e2 := hc j hj
        simp only [iv, List.getElem?_map, List.getElem?_eq_getElem hj, Option.map_some, Option.some.injEq] at hu
        subst hu
        have e3 : (⟨sb, so, none⟩ : Addr).add j = ⟨sb, so + j, none⟩ := by
          simp only [Addr.add]
          split
          · rename_i h
            subst h
            rfl
          · rfl
        rw [e3, e2]
        simp [List.getD, hj]
    go_enter Tryd.func68, Tryd.ntmps68
    go_wp2_with (at_builtin; refine wpList_append_own_at _ rfl _ _ 33 rfl w.heap.size 3 i (.int .i64 0) 1 8 Tryd.underlying33 hi hz0 hz1 hz2 rfl (by decide) _ 0 [] rfl (World.ownsRow_made _ _ 0 (Nat.le_refl _) (by decide) rfl) ad vl.length cap (iv vl) rfl (by simp [iv]) hcells (iv_one vl) (by unfold maxLen; omega) (by omega) hA.size ?_; intro v1 w1 ho1 hg1 _ hat)
    rw [List.nil_append, Nat.zero_add] at ho1
    obtain ⟨ra, rc, hv, _, hI, hfr⟩ := intsAt_of_owns ho1
    have hlt := ho1.lt
    subst hv
    go_ret
    refine ⟨ra, rc, rfl, hI, (fun sb so e => hlt sb (by rw [e]; rfl)), ?_⟩
    exact Below.grown hA hg1 hA.size (fun q e => (World.ownsRow.lt (World.ownsRow_made (e := 3) (size := 1) w #[] 0 (Nat.le_refl _) (by decide) rfl) q e).1)
end Go.Proofs.YtgbomdikhidkoaaDoor

namespace Go.Proofs.YtgbomdikhidkoaaDoor
open Go.RowKit

set_option maxRecDepth 100000 in
set_option maxHeartbeats 1000000 in
theorem cloneCert_any (c : Ct) (w : World) (hc : CtAt w c) (h1 : c.bl.length ≤ 1000) (h2 : c.pl.length ≤ 1000) (h3 : c.vl.length ≤ 1000) (h4 : ∀ p ∈ c.bl, p.bs.length ≤ 140737488355328) (h5 : ∀ p ∈ c.pl, p.bs.length ≤ 140737488355328) :
    Calls Tryd.prog 51 #[.agg #[.int .i64 c.au, .int .i64 c.rd, .slice c.ba c.bl.length c.bc, .slice c.pa c.pl.length c.pc, .slice c.va c.vl.length c.vc]] w fun e w' => ∃ k : Ct, e = .returned (.agg #[.int .i64 k.au, .int .i64 k.rd, .slice k.ba k.bl.length k.bc, .slice k.pa k.pl.length k.pc, .slice k.va k.vl.length k.vc]) ∧ k.v = c.v ∧ CtAt w' k ∧ (∀ b, CtIn k b → w.heap.size ≤ b) ∧ Below w.heap.size w w' := by
  have HB : Hid (∀ p ∈ c.bl, p.bs.length ≤ 140737488355328) := h4
  have HP : Hid (∀ p ∈ c.pl, p.bs.length ≤ 140737488355328) := h5
  clear h4 h5
  have hA : Below w.heap.size w ((w.alloc (.cells #[.int .i64 c.au, .int .i64 c.rd, .slice c.ba c.bl.length c.bc, .slice c.pa c.pl.length c.pc, .slice c.va c.vl.length c.vc] 35)).alloc (.cells #[.int .i64 0, .int .i64 0, .slice none 0 0, .slice none 0 0, .slice none 0 0] 35)) := ((Below.refl _ _).alloc (Nat.le_refl _) _).alloc (by rw [size_alloc]; omega) _
  have q0 := heap_alloc2_old w (.cells #[.int .i64 c.au, .int .i64 c.rd, .slice c.ba c.bl.length c.bc, .slice c.pa c.pl.length c.pc, .slice c.va c.vl.length c.vc] 35) (.cells #[.int .i64 0, .int .i64 0, .slice none 0 0, .slice none 0 0, .slice none 0 0] 35)
  have q1 : ((w.alloc (.cells #[.int .i64 c.au, .int .i64 c.rd, .slice c.ba c.bl.length c.bc, .slice c.pa c.pl.length c.pc, .slice c.va c.vl.length c.vc] 35)).alloc (.cells #[.int .i64 0, .int .i64 0, .slice none 0 0, .slice none 0 0, .slice none 0 0] 35)).heap[w.heap.size + 1]? = some (.cells #[.int .i64 0, .int .i64 0, .slice none 0 0, .slice none 0 0, .slice none 0 0] 35 (0, 0)) := by
    have := heap_alloc_new (w.alloc (.cells #[.int .i64 c.au, .int .i64 c.rd, .slice c.ba c.bl.length c.bc, .slice c.pa c.pl.length c.pc, .slice c.va c.vl.length c.vc] 35)) (.cells #[.int .i64 0, .int .i64 0, .slice none 0 0, .slice none 0 0, .slice none 0 0] 35)
    rw [size_alloc] at this; exact this
  go_enter Tryd.func51, Tryd.ntmps51
  go_wp2_with fail
  generalize (w.alloc (.cells #[.int .i64 c.au, .int .i64 c.rd, .slice c.ba c.bl.length c.bc, .slice c.pa c.pl.length c.pc, .slice c.va c.vl.length c.vc] 35)).alloc (.cells #[.int .i64 0, .int .i64 0, .slice none 0 0, .slice none 0 0, .slice none 0 0] 35) = W0 at hA q0 q1 ⊢
  have l1 : w.heap.size + 1 < W0.heap.size := lt_of_heap q1
  have l0 : w.heap.size < W0.heap.size := lt_of_heap q0
  have c0 := hc.below hA
  refine (cloneDigests_any c.bl c.ba _ c.bc W0 rfl h1 HB.out c0.hat.lb.parts).mono ?_
  rintro e w1 ⟨xa, xc, xs, he, hS1, hL1, hb1, hF1, hU1⟩
  subst he
  dsimp only
  have r0 := (hb1.block _ l0).trans q0
  have r1 := (hb1.block _ l1).trans q1
  have e2 := cells_at r0 2 _ rfl
  have f2 := frozen_at r0 2
  have e3 := cells_at r0 3 _ rfl
  have hB1 := hA.trans (hb1.mono hA.size)
  have s0 := heap_setCell_same _ _ 2 _ _ (.slice xa c.bl.length xc) r0
  have s1 := heap_far (b := w.heap.size) (j := 2) (v := .slice xa c.bl.length xc) r1 (Nat.succ_ne_self _)
  have hX1 := hB1.setCell (p := ⟨w.heap.size, 2, none⟩) (Nat.le_refl _) (.slice xa c.bl.length xc)
  have hL1 := hL1.setCell hF1 w.heap.size 2 (.slice xa c.bl.length xc) l0
  have hz1 : W0.heap.size ≤ (w1.setCell ⟨w.heap.size, 2, none⟩ (.slice xa c.bl.length xc)).heap.size := by simpa using hb1.size
  have hU1' : ∀ sb so, xa = some ⟨sb, so, none⟩ → sb < (w1.setCell ⟨w.heap.size, 2, none⟩ (.slice xa c.bl.length xc)).heap.size := fun sb so e => by simpa using hU1 sb so e
  go_wp2_with fail
  generalize w1.setCell ⟨w.heap.size, 2, none⟩ (.slice xa c.bl.length xc) = X1 at s0 s1 hX1 hL1 hz1 hU1' ⊢
  have s0' : X1.heap[w.heap.size]? = some (.cells #[.int .i64 c.au, .int .i64 c.rd, .slice xa c.bl.length xc, .slice c.pa c.pl.length c.pc, .slice c.va c.vl.length c.vc] 35 (0, 0)) := by simpa using s0
  clear s0 e2 f2 e3 r0 r1
  have c1 := hc.below hX1
  refine (cloneDigests_any c.pl c.pa _ c.pc X1 rfl h2 HP.out c1.hat.lp.parts).mono ?_
  rintro e w2 ⟨ya, yc, ys, he, hS2, hL2, hb2, hF2, hU2⟩
  subst he
  dsimp only
  have t0 := (hb2.block _ (lt_of_heap s0')).trans s0'
  have t1 := (hb2.block _ (lt_of_heap s1)).trans s1
  have e3 := cells_at t0 3 _ rfl
  have f3 := frozen_at t0 3
  have e4 := cells_at t0 4 _ rfl
  have hB2 := hX1.trans (hb2.mono hX1.size)
  have u0 := heap_setCell_same _ _ 3 _ _ (.slice ya c.pl.length yc) t0
  have u1 := heap_far (b := w.heap.size) (j := 3) (v := .slice ya c.pl.length yc) t1 (Nat.succ_ne_self _)
  have hX2 := hB2.setCell (p := ⟨w.heap.size, 3, none⟩) (Nat.le_refl _) (.slice ya c.pl.length yc)
  have hF2' : Fresh W0.heap.size ya ys := ⟨fun sb so e => Nat.le_trans hz1 (hF2.row sb so e), fun p hp sb so e => Nat.le_trans hz1 (hF2.each p hp sb so e)⟩
  have hL1 := (hL1.below hb2).setCell hF1 w.heap.size 3 (.slice ya c.pl.length yc) l0
  have hL2 := hL2.setCell hF2' w.heap.size 3 (.slice ya c.pl.length yc) l0
  have hz2 : W0.heap.size ≤ (w2.setCell ⟨w.heap.size, 3, none⟩ (.slice ya c.pl.length yc)).heap.size := by have := hb2.size; simp; omega
  have hV1 : ∀ sb so, xa = some ⟨sb, so, none⟩ → sb < (w2.setCell ⟨w.heap.size, 3, none⟩ (.slice ya c.pl.length yc)).heap.size := fun sb so e => by have := hU1' sb so e; have := hb2.size; simp; omega
  have hV2 : ∀ sb so, ya = some ⟨sb, so, none⟩ → sb < (w2.setCell ⟨w.heap.size, 3, none⟩ (.slice ya c.pl.length yc)).heap.size := fun sb so e => by simpa using hU2 sb so e
  go_wp2_with fail
  generalize w2.setCell ⟨w.heap.size, 3, none⟩ (.slice ya c.pl.length yc) = X2 at u0 u1 hX2 hL1 hL2 hz2 hV1 hV2 ⊢
  have u0' : X2.heap[w.heap.size]? = some (.cells #[.int .i64 c.au, .int .i64 c.rd, .slice xa c.bl.length xc, .slice ya c.pl.length yc, .slice c.va c.vl.length c.vc] 35 (0, 0)) := by simpa using u0
  clear u0 e3 f3 e4 t0 t1 s0' s1
  have c2 := hc.below hX2
  refine (cloneInts_any c.vl c.va _ c.vc X2 rfl h3 c2.ints).mono ?_
  rintro e w3 ⟨za, zc, he, hZ, hF3, hb3⟩
  subst he
  dsimp only
  have v0 := (hb3.block _ (lt_of_heap u0')).trans u0'
  have v1 := (hb3.block _ (lt_of_heap u1)).trans u1
  have g0 := cells_at v0 0 _ rfl
  have g1 := cells_at v0 1 _ rfl
  have g2 := cells_at v0 2 _ rfl
  have g3 := cells_at v0 3 _ rfl
  have g4 := cells_at v0 4 _ rfl
  have gf4 := frozen_at v0 4
  have d0 := cells_at v1 0 _ rfl
  have d1 := cells_at v1 1 _ rfl
  have d2 := cells_at v1 2 _ rfl
  have d3 := cells_at v1 3 _ rfl
  have d4 := cells_at v1 4 _ rfl
  have f0 := frozen_at v1 0
  have f1 := frozen_at v1 1
  have f2 := frozen_at v1 2
  have f3 := frozen_at v1 3
  have f4 := frozen_at v1 4
  have hne : w.heap.size ≠ w.heap.size + 1 := by omega
  have hB3 := hX2.trans (hb3.mono hX2.size)
  have hLx := (hL1.below hb3).setCell hF1 w.heap.size 4 (.slice za c.vl.length zc) l0
  have hLy := (hL2.below hb3).setCell hF2' w.heap.size 4 (.slice za c.vl.length zc) l0
  have hzn0 : ∀ sb so, za = some ⟨sb, so, none⟩ → w.heap.size ≠ sb := fun sb so e => by have := (hF3 sb so e).1; omega
  have hzn1 : ∀ sb so, za = some ⟨sb, so, none⟩ → w.heap.size + 1 ≠ sb := fun sb so e => by have := (hF3 sb so e).1; omega
  have hZx := hZ.setCell w.heap.size 4 (.slice za c.vl.length zc) hzn0
  have hBx := hB3.setCell (p := ⟨w.heap.size, 4, none⟩) (Nat.le_refl _) (.slice za c.vl.length zc)
  have E1 : Hid (xs.length = c.bl.length) := hS1.length
  have E2 : Hid (ys.length = c.pl.length) := hS2.length
  have HV : Hid ((⟨c.au, c.rd, xa, xc, xs, ya, yc, ys, za, zc, c.vl⟩ : Ct).v = c.v) := by
    show Ct.v _ = _
    simp only [Ct.v]
    rw [bss_same hS1, bss_same hS2]
  go_wp2_with fail
  refine bodyPost_ret (v := .agg #[.int .i64 c.au, .int .i64 c.rd, .slice xa c.bl.length xc, .slice ya c.pl.length yc, .slice za c.vl.length zc]) (by simp [results, Tryd.results51, go_sem, d0, d1, d2, d3, d4]) rfl ⟨⟨c.au, c.rd, xa, xc, xs, ya, yc, ys, za, zc, c.vl⟩, by rw [E1.out, E2.out], HV.out, ⟨⟨?_, ?_, ?_, ?_⟩, ?_, hc.vle⟩, ?_, ?_⟩
  · exact ((((hLx.setCell hF1 _ _ _ l1).setCell hF1 _ _ _ l1).setCell hF1 _ _ _ l1).setCell hF1 _ _ _ l1).setCell hF1 _ _ _ l1
  · exact ((((hLy.setCell hF2' _ _ _ l1).setCell hF2' _ _ _ l1).setCell hF2' _ _ _ l1).setCell hF2' _ _ _ l1).setCell hF2' _ _ _ l1
  · intro sb so e
    have := hV1 sb so e
    have := hb3.size
    simp; omega
  · intro sb so e
    have := hV2 sb so e
    have := hb3.size
    simp; omega
  · exact ((((hZx.setCell _ _ _ hzn1).setCell _ _ _ hzn1).setCell _ _ _ hzn1).setCell _ _ _ hzn1).setCell _ _ _ hzn1
  · rintro b (⟨so, e⟩ | ⟨so, e⟩ | ⟨p, hp, _, so, e⟩ | ⟨_, so, e⟩)
    · have := hF1.row b so e; omega
    · have := hF2'.row b so e; omega
    · rcases List.mem_append.1 hp with hp | hp
      · have := hF1.each p hp b so e; omega
      · have := hF2'.each p hp b so e; omega
    · have := (hF3 b so e).1; omega
  · exact ((((hBx.setCell (Nat.le_succ _) _).setCell (Nat.le_succ _) _).setCell (Nat.le_succ _) _).setCell (Nat.le_succ _) _).setCell (Nat.le_succ _) _
end Go.Proofs.YtgbomdikhidkoaaDoor

namespace Go.Proofs.YtgbomdikhidkoaaDoor
open Go.RowKit

/-- What Insert does. -/
structure InsS (w w' : World) (e : Ending) (B s : Nat) (ls : List Ct) (c : CV) : Prop where
  told : e = .returned (.int .i64 (stkE (cvs ls) c))
  below : Below B w w'
  own : (stkE (cvs ls) c ≠ 0 ∧ StkOwn w' B s ls) ∨ (stkE (cvs ls) c = 0 ∧ ∃ x : Ct, x.v = c ∧ StkOwn w' B s (ls ++ [x]))
set_option maxRecDepth 100000 in
set_option maxHeartbeats 2000000 in
theorem insert_stk (ls : List Ct) (B s : Nat) (c : Ct) (w : World) (hs : StkOwn w B s ls) (hB : B ≤ w.heap.size) (hc : CtAt w c) (hT : Tabs w) :
    Calls Tryd.prog 42 #[.pointer (some ⟨s, 0, none⟩), .agg #[.int .i64 c.au, .int .i64 c.rd, .slice c.ba c.bl.length c.bc, .slice c.pa c.pl.length c.pc, .slice c.va c.vl.length c.vc]] w fun e w' => InsS w w' e B s ls c.v := by
  obtain ⟨vc, vd, ds, hk, hsame, hsm⟩ := hs.out
  obtain ⟨ca, cc, da, dc, e1, e2, hat⟩ := hk.at hsame hsm
  subst e1 e2
  obtain ⟨i, hi, hz0, hz1, hz2⟩ := info_parts infoCert
  obtain ⟨i', hi', hz0', hz1', hz2'⟩ := info_parts infoBs
  have HSM : Hid _ := hsame
  have HDL : Hid (ds.length = ls.length) := hat.at'.len
  have hA := (Below.refl w.heap.size w).alloc (Nat.le_refl _) (.cells #[.int .i64 c.au, .int .i64 c.rd, .slice c.ba c.bl.length c.bc, .slice c.pa c.pl.length c.pc, .slice c.va c.vl.length c.vc] 35)
  have r0 := heap_alloc_new w (.cells #[.int .i64 c.au, .int .i64 c.rd, .slice c.ba c.bl.length c.bc, .slice c.pa c.pl.length c.pc, .slice c.va c.vl.length c.vc] 35)
  go_enter Tryd.func42, Tryd.ntmps42
  go_wp2_with fail
  generalize w.alloc (.cells #[.int .i64 c.au, .int .i64 c.rd, .slice c.ba c.bl.length c.bc, .slice c.pa c.pl.length c.pc, .slice c.va c.vl.length c.vc] 35) = W0 at hA r0 ⊢
  refine (takes_any ls s ca cc da dc ds c W0 (hat.below hA) (hc.below hA)).mono ?_
  rintro e w1 ⟨he, hb1⟩
  subst he
  dsimp only
  have hB1 := hA.trans (hb1.mono hA.size)
  have r1 := (hb1.block _ (lt_of_heap r0)).trans r0
  have HOW : Hid (StkOwn w1 B s ls) := hs.below hB1
  by_cases hx : stkE (cvs ls) c.v = 0
  · have HX : Hid _ := hx
    obtain ⟨f1, f2, f3⟩ := stkE_ok hx
    rw [cvs_length] at f3
    have hHF := certF_head (vl := c.vl) (by rw [Ct.f_v]; exact f1)
    have HDG := headerDigest_hat (hc.below hB1).hat hHF (hT.below hB1)
    obtain ⟨m1, m2, m3, m4, m5⟩ := ct_small f1
    have HCC : Hid (∀ W : World, Below w.heap.size w W → _) := fun W hW => cloneCert_any c W (hc.below hW) m1 m2 (by omega) m4 m5
    rw [hx]
    clear hx f1 f2 hHF m1 m2 m3 m4 m5 hsame hs
    have d0 := cells_at r1 0 _ rfl
    have d1 := cells_at r1 1 _ rfl
    have d2 := cells_at r1 2 _ rfl
    have d3 := cells_at r1 3 _ rfl
    go_wp2_with fail
    refine HDG.mono ?_
    rintro e w2 ⟨b, he, hge, hb2, hsD⟩
    subst he
    dsimp only
    clear HDG d0 d1 d2 d3
    have hB2 := hB1.trans (hb2.mono hB1.size)
    have r2 := (hb2.block _ (lt_of_heap r1)).trans r1
    have hk2 := hk.below hB2
    have hB2B : B ≤ w2.heap.size := Nat.le_trans hB hB2.size
    have hblt : b < w2.heap.size := slice_block_lt hsD (by intro h; have h9 := hDig_length c.au c.rd c.bl c.pl; rw [h] at h9; simp at h9) b 0 rfl
    have hslt : s < w.heap.size := lt_of_heap hk.box
    have hbw : w.heap.size ≤ b := Nat.le_trans hB1.size hge
    have HD32 : Hid ((hDig c.au c.rd c.bl c.pl).length = 32) := hDig_length _ _ _ _
    have HDV : Hid (hDig c.au c.rd c.bl c.pl = c.v.d) := c.d_v
    have hb2s := hk2.box
    have k0 := cells_at hb2s 0 _ rfl
    have k0d : w2.drew.cell? ⟨s, 0, none⟩ = some (.slice ca ls.length cc) := k0
    have e0 := cells_at r2 0 _ rfl
    have e1 := cells_at r2 1 _ rfl
    have e2 := cells_at r2 2 _ rfl
    have e3 := cells_at r2 3 _ rfl
    have e4 := cells_at r2 4 _ rfl
    have hcS : (Value.slice ca ls.length cc).ownBlock ≠ some s := row_box hk2.rc hb2s (by decide)
    have Hent : Hid _ := enters_of Tryd.func51 (by kernel_rfl) rfl
    go_wp2_with fail
    go_region_law (first
      | (refine step_calls rfl 51 _ _ rfl [.agg #[.int .i64 c.au, .int .i64 c.rd, .slice c.ba c.bl.length c.bc, .slice c.pa c.pl.length c.pc, .slice c.va c.vl.length c.vc]] rfl Hent.out (fun u w9 => ∃ x : Ct, u = .agg #[.int .i64 x.au, .int .i64 x.rd, .slice x.ba x.bl.length x.bc, .slice x.pa x.pl.length x.pc, .slice x.va x.vl.length x.vc] ∧ x.v = c.v ∧ CtAt w9 x ∧ (∀ b, CtIn x b → w2.heap.size ≤ b) ∧ Below w2.heap.size w2 w9) ((HCC.out w2.drew hB2.drew).mono (fun e w9 ⟨x, he, h1, h2, h3, h4⟩ => ⟨_, he, x, rfl, h1, h2, h3, below_drew h4⟩)) ?_; rintro u w4 ⟨x, rfl, hxv, hxa, hxin, hb4⟩; have hk4 := hk2.below hb4; have b4 := hk4.box; have m0 := cells_at b4 0 _ rfl; have m0a : (w4.alloc (.cells #[.int .i64 x.au, .int .i64 x.rd, .slice x.ba x.bl.length x.bc, .slice x.pa x.pl.length x.pc, .slice x.va x.vl.length x.vc] 35)).cell? ⟨s, 0, none⟩ = some (.slice ca ls.length cc) := cells_at (heap_keep b4) 0 _ rfl; have hw4 : B ≤ w4.heap.size := Nat.le_trans hB2B hb4.size)
      | (refine step_append_at rfl _ _ 22 rfl B 35 i (.agg #[.int .i64 0, .int .i64 0, .slice none 0 0, .slice none 0 0, .slice none 0 0]) 5 88 Tryd.underlying22 hi hz0 hz1 hz2 rfl (by decide) (.slice ca ls.length cc) ls.length (ctv ls) rfl (World.ownsRow.alloc hk4.rc _) ⟨w4.heap.size, 0, none⟩ 1 1 [.int .i64 x.au, .int .i64 x.rd, .slice x.ba x.bl.length x.bc, .slice x.pa x.pl.length x.pc, .slice x.va x.vl.length x.vc] rfl rfl (cells_new _ _ _) (by intro u hu; simp at hu; rcases hu with rfl | rfl | rfl | rfl | rfl <;> rfl) (by unfold maxLen; omega) (by omega) (le_alloc hw4 _) ?_; intro v6 w6 ho6 G6; have x2 := G6.row (heap_keep b4) hcS; have xd0 := cells_at x2 0 _ rfl; have xf0 := frozen_at x2 0; obtain ⟨fa, fc, hvf⟩ := owns_shape ho6; subst hvf))
    all_goals
      obtain ⟨hk7, hb7, hK7, hF7⟩ := hk2.moreC hB2B hb4 hxa hxin G6 ho6
      have hsD7 : SliceAt (w6.setCell ⟨s, 0, none⟩ (.slice fa (ls.length + 1) fc)) (some ⟨b, 0, none⟩) 32 (hDig c.au c.rd c.bl c.pl) := slice_keep hsD (fun q so _ e => by
        cases e
        exact hK7 b hblt (by omega) (fun e2 => by have := (hk.rc.lt b e2).2; omega))
      have hIN : Hid (∀ sb so, some (⟨b, 0, none⟩ : Addr) = some ⟨sb, so, none⟩ → B ≤ sb ∧ sb < (w6.setCell ⟨s, 0, none⟩ (.slice fa (ls.length + 1) fc)).heap.size ∧ sb ≠ s ∧ (Value.slice fa (ls.length + 1) fc).ownBlock ≠ some sb ∧ (Value.slice da ls.length dc).ownBlock ≠ some sb) := by
        show ∀ sb, _
        intro sb so e
        cases e
        exact ⟨by omega, Nat.lt_of_lt_of_le hblt hb7.size, by omega, fun e2 => by have := (hk.rc.lt b (hF7 b hblt e2)).2; omega, fun e2 => by have := (hk.rd.lt b e2).2; omega⟩
      have HXV : Hid (x.v = c.v) := hxv
      clear xd0 xf0 x2 hK7 hF7 hxv hxin hxa m0 m0a b4 hk4 k0 k0d e0 e1 e2 e3 e4
      go_upto_region 8 with fail
      generalize w6.setCell ⟨s, 0, none⟩ (.slice fa (ls.length + 1) fc) = X7 at hk7 hb7 hsD7 hIN ⊢
      have hB7 : B ≤ X7.heap.size := Nat.le_trans hB2B hb7.size
      have b7 := hk7.box
      have n1 := cells_at b7 1 _ rfl
      have hdS : (Value.slice da ls.length dc).ownBlock ≠ some s := row_box hk7.rd b7 (by decide)
      have hdl := HDL.out
      go_wp2_with (at_builtin; refine wpList_append_own_at _ rfl _ _ 30 rfl B 29 i' (.slice none 0 0) 1 24 Tryd.underlying30 hi' hz0' hz1' hz2' rfl (by decide) _ ds.length (pv ds) rfl (World.ownsRow.alloc hk7.rd _) ⟨X7.heap.size, 0, none⟩ 1 1 [.slice (some ⟨b, 0, none⟩) 32 32] rfl rfl (cells_new _ _ _) (by intro u hu; simp at hu; subst hu; rfl) (by unfold maxLen; omega) (by omega) (le_alloc hB7 _) ?_; intro v8 w8 ho8 hg8 _ hat8; have G8 := Grew.of hg8 hat8; have x8 := G8.row (heap_keep b7) hdS; have xd1 := cells_at x8 1 _ rfl; have xf1 := frozen_at x8 1; obtain ⟨ga, gc, hvg⟩ := owns_shape ho8; subst hvg)
      obtain ⟨hk9, hb9⟩ := hk7.moreD (p := ⟨some ⟨b, 0, none⟩, 32, hDig c.au c.rd c.bl c.pl⟩) hB7 (Below.refl _ _) hsD7 hIN.out G8 (by simpa [Part.val, HD32.out] using ho8)
      have HS9 : Hid (bss (ds ++ [(⟨some ⟨b, 0, none⟩, 32, hDig c.au c.rd c.bl c.pl⟩ : Part)]) = (cvs (ls ++ [x])).map CV.d) := by
        show _ = _
        have h9 := HSM.out
        simp only [bss, cvs, List.map_append, List.map_cons, List.map_nil] at h9 ⊢
        rw [h9, HDV.out, HXV.out]
      have hBF : Below B w (w8.setCell ⟨s, 1, none⟩ (.slice ga (ds.length + 1) gc)) := ((hB2.mono hB).trans hb7).trans hb9
      clear hdl
      rw [HDL.out] at hk9 hBF
      go_wp2_with fail
      go_ret
      exact ⟨ret_int HX.out.symm, hBF, .inr ⟨HX.out, x, HXV.out, ⟨_, _, _, hk9, HS9.out, by simp; omega⟩⟩⟩
  · have HX : Hid _ := hx
    have hxn : (stkE (cvs ls) c.v != 0) = true := by simpa using hx
    have HS : Hid (stkE (cvs ls) c.v = stkE (cvs ls) c.v) := rfl
    generalize hE : stkE (cvs ls) c.v = x at *
    have HE : Hid _ := hE
    clear hE hx
    go_wp2_with fail
    go_ret
    exact ⟨ret_int HE.out.symm, hB1.mono hB, .inl ⟨by rw [HE.out]; exact HX.out, HOW.out⟩⟩
end Go.Proofs.YtgbomdikhidkoaaDoor
