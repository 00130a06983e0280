/- Rows of numbers. -/
import Derived.Test.YtbmodfegcmaieaaDoorGCerts
import Derived.Test.YtbmodfegcmaieaaDoorGK
import Derived.Test.YtbmodfegcmaieaaDoorGClone
import Derived.Test.YtbmodfegcmaieaaDoorGCalls
namespace Go.Proofs.YtbmodfegcmaieaaDoor
open Go.RowKit

set_option maxRecDepth 100000 in
set_option maxHeartbeats 1000000 in
theorem checkCert_any (au rd : Int) (ba : Option Addr) (bc : Nat) (bl : List Part) (pa : Option Addr) (pc : Nat) (pl : List Part) (va : Option Addr) (vc : Nat) (vl : List Int) (w : World) (hb : ListAt w ba bc bl) (hp : ListAt w pa pc pl) (hv : IntsAt w va vl) (hvm : vl.length ≤ 9000000000000000000) :
    Calls Tryd.prog 125 #[.agg #[.int .i64 au, .int .i64 rd, .slice ba bl.length bc, .slice pa pl.length pc, .slice va vl.length vc]] w fun e w' => e = .returned (.int .i64 (certF au rd bl pl vl)) ∧ Below w.heap.size w w' := by
  have hA : Below w.heap.size w (w.alloc (.cells #[.int .i64 au, .int .i64 rd, .slice ba bl.length bc, .slice pa pl.length pc, .slice va vl.length vc] 63)) := (Below.refl _ _).alloc (Nat.le_refl _) _
  go_enter Tryd.func125, Tryd.ntmps125
  go_wp2_with fail
  refine (checkHeader_any au rd ba bc bl pa pc pl _ (hb.below hA) (hp.below hA)).mono ?_
  rintro e w1 ⟨he, hb1⟩
  subst he
  dsimp only
  have r1 := row_new hb1
  replace hb1 := below_alloc hb1
  have c4 : w1.cell? ⟨w.heap.size, 4, none⟩ = some (.slice va vl.length vc) := cells_at r1 4 _ rfl
  by_cases h1 : headerF au rd bl pl = 0
  · rw [h1]
    by_cases h2 : 4 < vl.length
    · have hF : Hid (certF au rd bl pl vl = 1) := by show _ = _; rw [certF, if_neg (by simp [h1]), if_pos h2]
      have h2I : (4 : Int) < vl.length := by omega
      go_wp2_with fail
      go_ret
      exact ⟨ret_int hF.out.symm, hb1⟩
    · have hF : Hid (certF au rd bl pl vl = votersF vl) := by show _ = _; rw [certF, if_neg (by simp [h1]), if_neg h2]
      have h2I : ¬ (4 : Int) < vl.length := by omega
      clear h1
      go_wp2_with fail
      go_loop [19] (fun i => ∃ k : Nat, k ≤ vl.length ∧ i = .int .i64 k ∧ vTo vl k = 0) (fun i => vl.length - (intOf i).toNat)
      case atStart => exact ⟨0, Nat.zero_le _, rfl, rfl⟩
      case round =>
        obtain ⟨k, hk, rfl, h0⟩ := hrel
        by_cases hlt : k < vl.length
        · obtain ⟨sb, so, rfl, hc⟩ : ∃ sb so, va = some ⟨sb, so, none⟩ ∧ ∀ j, j < vl.length → w1.cell? ⟨sb, so + j, none⟩ = some (.int .i64 (vl.getD j 0)) := by
            rcases (hv.below hb1).cells with h | h
            · rw [h] at hlt; simp at hlt
            · exact h
          have ck := hc k hlt
          have hltI : (k : Int) < vl.length := by omega
          have hVf : Hid (vAt vl k ≠ 0 → votersF vl = vAt vl k) := by
            show _ → _
            intro h
            rw [votersF, vTo_at vl k hlt h0 h, if_pos h]
          have hVs : Hid (vAt vl k = 0 → vTo vl (k + 1) = 0) := by
            show _ → _
            intro h
            rw [vTo, h0, h]; rfl
          have hVa : Hid (vAt vl k = if ¬ (0 ≤ vl.getD k 0 ∧ vl.getD k 0 < 4) then 2 else if 0 < k ∧ vl.getD k 0 ≤ vl.getD (k - 1) 0 then 9 else 0) := rfl
          by_cases hkz : k = 0
          · subst hkz
            clear hc
            rw [Nat.add_zero] at ck
            generalize vl.getD 0 0 = x at *
            by_cases hn : 0 ≤ x ∧ x < 4
            · have hst := hVs.out (by rw [hVa.out, if_neg (by simp [hn]), if_neg (by omega)])
              clear hVf hVs hVa
              go_wp2_with (go_at_call 81; first | (refine (isNode_true _ _ (by omega)).mono ?_; rintro e w' ⟨rfl, rfl⟩) | (refine (isNode_false _ _ (by omega)).mono ?_; rintro e w' ⟨rfl, rfl⟩))
              go_round
              case rel => exact ⟨0 + 1, by omega, by go_num, hst⟩
              case measure => simp [intOf]; omega
            · have e2 : Hid (certF au rd bl pl vl = 2) := by
                show _ = _
                have : vAt vl 0 = 2 := by rw [hVa.out, if_pos hn]
                rw [hF.out, hVf.out (by rw [this]; decide), this]
              clear hVf hVs hVa hF
              go_wp2_with (go_at_call 81; first | (refine (isNode_true _ _ (by omega)).mono ?_; rintro e w' ⟨rfl, rfl⟩) | (refine (isNode_false _ _ (by omega)).mono ?_; rintro e w' ⟨rfl, rfl⟩))
              go_ret
              exact ⟨ret_int e2.out.symm, hb1⟩
          · have cp := hc (k - 1) (by omega)
            have hkI : (0 : Int) < k := by omega
            have t0 : ((k : Int) - 1).toNat = k - 1 := by omega
            have u0_ : IntKind.i64.wrap ((k : Int) - 1) = (k : Int) - 1 := by rw [IntKind.wrap_i64]; omega
            have z0 : (0 : Int) ≤ (k : Int) - 1 := by omega
            have z1 : (k : Int) - 1 < vl.length := by omega
            clear hc
            generalize vl.getD k 0 = x at *
            generalize vl.getD (k - 1) 0 = y at *
            by_cases hn : 0 ≤ x ∧ x < 4
            · by_cases hxy : x ≤ y
              · have e9 : Hid (certF au rd bl pl vl = 9) := by
                  show _ = _
                  have : vAt vl k = 9 := by rw [hVa.out, if_neg (by simp [hn]), if_pos (by omega)]
                  rw [hF.out, hVf.out (by rw [this]; decide), this]
                clear hVf hVs hVa hF
                go_wp2_with (go_at_call 81; first | (refine (isNode_true _ _ (by omega)).mono ?_; rintro e w' ⟨rfl, rfl⟩) | (refine (isNode_false _ _ (by omega)).mono ?_; rintro e w' ⟨rfl, rfl⟩))
                go_ret
                exact ⟨ret_int e9.out.symm, hb1⟩
              · have hst := hVs.out (by rw [hVa.out, if_neg (by simp [hn]), if_neg (by omega)])
                clear hVf hVs hVa
                go_wp2_with (go_at_call 81; first | (refine (isNode_true _ _ (by omega)).mono ?_; rintro e w' ⟨rfl, rfl⟩) | (refine (isNode_false _ _ (by omega)).mono ?_; rintro e w' ⟨rfl, rfl⟩))
                go_round
                case rel => exact ⟨k + 1, by omega, by go_num, hst⟩
                case measure => simp [intOf]; omega
            · have e2 : Hid (certF au rd bl pl vl = 2) := by
                show _ = _
                have : vAt vl k = 2 := by rw [hVa.out, if_pos hn]
                rw [hF.out, hVf.out (by rw [this]; decide), this]
              clear hVf hVs hVa hF
              go_wp2_with (go_at_call 81; first | (refine (isNode_true _ _ (by omega)).mono ?_; rintro e w' ⟨rfl, rfl⟩) | (refine (isNode_false _ _ (by omega)).mono ?_; rintro e w' ⟨rfl, rfl⟩))
              go_ret
              exact ⟨ret_int e2.out.symm, hb1⟩
        · obtain rfl : k = vl.length := by omega
          by_cases h3 : vl.length < 3
          · have e10 : Hid (certF au rd bl pl vl = 10) := by show _ = _; rw [hF.out, votersF, if_neg (by simp [h0]), if_pos h3]
            have h3I : (vl.length : Int) < 3 := by omega
            clear hF h0
            go_wp2_with fail
            go_ret
            exact ⟨ret_int e10.out.symm, hb1⟩
          · have e0 : Hid (certF au rd bl pl vl = 0) := by show _ = _; rw [hF.out, votersF, if_neg (by simp [h0]), if_neg h3]
            have h3I : ¬ (vl.length : Int) < 3 := by omega
            clear hF h0
            go_wp2_with fail
            go_ret
            exact ⟨ret_int e0.out.symm, hb1⟩
  · have hF : Hid (certF au rd bl pl vl = headerF au rd bl pl) := by show _ = _; rw [certF, if_pos h1]
    generalize headerF au rd bl pl = z at *
    go_wp2_with fail
    go_ret
    exact ⟨ret_int hF.out.symm, hb1⟩
end Go.Proofs.YtbmodfegcmaieaaDoor

namespace Go.Proofs.YtbmodfegcmaieaaDoor
open Go.RowKit

/-- What Missing answers. -/
def MisAt (w w' : World) (e : Ending) (l : List CV) (rd : Int) (pl : List Part) : Prop :=
  (parF l rd (bss pl) = 9 ∧ e = .returned (.tuple #[.slice none 0 0, .int .i64 9])) ∨ (parF l rd (bss pl) ≠ 9 ∧ ∃ ma mc ms, e = .returned (.tuple #[.slice ma (List.length ms) mc, .int .i64 0]) ∧ bss ms = misF l (bss pl) ∧ ListAt w' ma mc ms ∧ Fresh w.heap.size ma ms)
set_option maxRecDepth 100000 in
set_option maxHeartbeats 1000000 in
theorem missing_any (ls : List Ct) (s : Nat) (ca : Option Addr) (cc : Nat) (da : Option Addr) (dc : Nat) (ds : List Part) (au rd : Int) (ba : Option Addr) (bn bc : Nat) (pl : List Part) (pa : Option Addr) (pc : Nat) (w : World) (hs : StkAt w s ls ca cc da dc ds) (hpl : pl.length ≤ 4) (hrd : 1 ≤ rd ∧ rd ≤ 1048576) (hp : PartsAt w pa pl) (hre : ∀ p ∈ pl, p.bs.length ≤ 140737488355328) :
    Calls Tryd.prog 127 #[.pointer (some ⟨s, 0, none⟩), .agg #[.int .i64 au, .int .i64 rd, .slice ba bn bc, .slice pa pl.length pc]] w fun e w' => MisAt w w' e (cvs ls) rd pl ∧ Below w.heap.size w w' := by
  have hA : Below w.heap.size w (w.alloc (.cells #[.int .i64 au, .int .i64 rd, .slice ba bn bc, .slice pa pl.length pc] 60)) := (Below.refl _ _).alloc (Nat.le_refl _) _
  have r1 := heap_alloc_new w (.cells #[.int .i64 au, .int .i64 rd, .slice ba bn bc, .slice pa pl.length pc] 60)
  obtain ⟨i, hi, hz0, hz1, hz2⟩ := info_parts infoBs
  have hsm := hs.at'.small
  have hcl := hs.at'.cle
  have hcm := hs.at'.cmax
  go_enter Tryd.func127, Tryd.ntmps127
  go_wp2_with fail
  generalize w.alloc (.cells #[.int .i64 au, .int .i64 rd, .slice ba bn bc, .slice pa pl.length pc] 60) = W0 at hA r1 ⊢
  have hlt1 : w.heap.size < W0.heap.size := lt_of_heap r1
  go_loopw [13, 6] (fun j v wr => ∃ (m : Nat) (ms : List Part), m ≤ pl.length ∧ j = .int .i64 m ∧ bss ms = misTo (cvs ls) (bss pl) m ∧ Apart wr W0.heap.size v ms ∧ parTo (cvs ls) rd (bss pl) m ≠ 9 ∧ wr.ownsRow W0.heap.size 46 1 v ms.length (pv ms) ∧ Below W0.heap.size W0 wr) (fun j _ _ => pl.length - (intOf j).toNat)
  case atStart => exact ⟨0, [], Nat.zero_le _, rfl, rfl, (fun p hp => by cases hp), by rw [parTo]; decide, World.ownsRow_nil _ _ _ _, Below.refl _ _⟩
  case round =>
    obtain ⟨m, ms, hm, rfl, hS, hap, hno, ho, hbr⟩ := hrel
    have hAr := hA.trans (hbr.mono hA.size)
    have s1 := (hbr.block _ hlt1).trans r1
    have d1 : wr.cell? ⟨w.heap.size, 1, none⟩ = some (.int .i64 rd) := cells_at s1 1 _ rfl
    have hsr := hs.below hAr
    have hbx := hsr.box
    have b0 : wr.cell? ⟨s, 0, none⟩ = some (.slice ca ls.length cc) := cells_at hbx 0 _ rfl
    have hpr := hp.below hAr
    have hml : ms.length ≤ m := by
      have := congrArg List.length hS
      rw [bss_length] at this
      rw [this]; exact misTo_length _ _ _
    by_cases hlt : m < pl.length
    · rcases hpr.cells with hcc | ⟨pb, po, rfl, hcc⟩
      · subst hcc; simp at hlt
      have ck := hcc m hlt
      have hx := hpr.each (pl[m]) (List.getElem_mem hlt)
      have hxr := hre (pl[m]) (List.getElem_mem hlt)
      have hltI : (m : Int) < pl.length := by omega
      have hg := bss_get pl m hlt
      have hlb : m < (bss pl).length := by rw [bss_length]; exact hlt
      have Hn : Hid (pOf (cvs ls) (pl[m]).bs < 0 → parTo (cvs ls) rd (bss pl) (m + 1) ≠ 9 ∧ misTo (cvs ls) (bss pl) (m + 1) = bss ms ++ [(pl[m]).bs]) := by
        show _ → _
        intro h
        refine ⟨?_, ?_⟩
        · rw [parTo_none _ _ _ m hno (by rw [hg]; exact h)]; decide
        · rw [misTo, hg, if_pos h, hS]
      have Ho : Hid (¬ pOf (cvs ls) (pl[m]).bs < 0 → (cvAt (cvs ls) (pOf (cvs ls) (pl[m]).bs).toNat).rd ≠ rd - 1 → parF (cvs ls) rd (bss pl) = 9) := by
        show _ → _ → _
        intro h1 h2
        exact parTo_order _ _ _ m (by rw [hg]; exact h1) (by rw [hg]; exact h2) hlb
      have Hk : Hid (¬ pOf (cvs ls) (pl[m]).bs < 0 → (cvAt (cvs ls) (pOf (cvs ls) (pl[m]).bs).toNat).rd = rd - 1 → parTo (cvs ls) rd (bss pl) (m + 1) ≠ 9 ∧ bss ms = misTo (cvs ls) (bss pl) (m + 1)) := by
        show _ → _ → _
        intro h1 h2
        refine ⟨?_, ?_⟩
        · rw [parTo_ok _ _ _ m (by rw [hg]; exact h1) (by rw [hg]; exact h2)]; exact hno
        · rw [misTo, hg, if_neg h1, hS]
      have hB := pOf_bounds (cvs ls) (pl[m]).bs
      rw [cvs_length] at hB
      have hcl' : ∀ k : Nat, k < ls.length → ∃ sb so, ca = some ⟨sb, so, none⟩ ∧ wr.cell? ⟨sb, so + k * 5 + 1, none⟩ = some (.int .i64 (cvAt (cvs ls) k).rd) := fun k hk => by
        obtain ⟨sb, so, e, _, c1, _⟩ := hsr.at'.certs.at k hk
        exact ⟨sb, so, e, by rw [cvAt_get ls k hk]; exact c1⟩
      have HCL : Hid _ := hcl'
      clear hno hg hcc hlb hcl' hS
      generalize pl[m] = p at *
      go_wp2_with fail
      refine (withDigest_any ls s ca cc da dc ds p.bs p.sa _ p.cap wr hsr rfl hx).mono ?_
      rintro e w1 ⟨he, hb1⟩
      subst he
      dsimp only
      have hB1 := hbr.trans (hb1.mono hbr.size)
      have hob := owns_keep ho hb1
      have t1 := (hb1.cell (p := ⟨w.heap.size, 1, none⟩) (block_lt_of_cell d1)).trans d1
      have t0 := (hb1.cell (p := ⟨s, 0, none⟩) (block_lt_of_cell b0)).trans b0
      have hap1 : Apart w1 W0.heap.size _ ms := hap.same hb1.size (fun p hp b so e => hb1.block b ((hap p hp).2 b so e).2.1)
      generalize pOf (cvs ls) p.bs = r at *
      by_cases hr : r < 0
      · obtain ⟨H1, H2⟩ := Hn.out hr
        have HX : Hid _ := H1
        have HY : Hid _ := H2
        clear Hn Ho Hk HCL H1 H2
        obtain rfl : r = -1 := by omega
        go_wp2_with fail
        refine (clone_any p.bs p.sa _ p.cap w1 rfl (hx.below hb1) hxr).mono ?_
        rintro e w2 ⟨ra, rc, he, hs2, hrow, hb2⟩
        subst he
        dsimp only
        have hB2 := hB1.trans (hb2.mono hB1.size)
        have hob2 := owns_keep hob hb2
        go_wp2_with (at_builtin; refine wpList_append_own_at _ rfl _ _ 44 rfl W0.heap.size 46 i (.slice none 0 0) 1 24 Tryd.underlying44 hi hz0 hz1 hz2 rfl (by decide) _ ms.length _ rfl (World.ownsRow.alloc hob2 _) ⟨w2.heap.size, 0, none⟩ 1 1 [.slice ra p.bs.length rc] rfl rfl (cells_new _ _ _) (by intro u hu; simp at hu; subst hu; rfl) (by unfold maxLen; omega) (by omega) (le_alloc hB2.size _) ?_; intro v1 w3 ho3 hg3 _ hat)
        have G := Grew.of hg3 hat
        have hb12 := hb1.trans (hb2.mono hb1.size)
        have hap3 := hap.more_at (q := ⟨ra, rc, p.bs⟩) hbr.size ho hb12 (fun sb so e => ⟨Nat.le_trans hb1.size (hrow sb so e).1, (hrow sb so e).2⟩) hs2 G
        have hB3 := Below.grown (hB2.alloc hB2.size _) hg3 (le_alloc hB2.size _) (fun q e => (hob2.lt q e).1)
        go_roundw
        case rel =>
          have hR : ∃ (m' : Nat) (ms' : List Part), m' ≤ pl.length ∧ (Value.int .i64 ((m : Int) + 1)) = .int .i64 m' ∧ bss ms' = misTo (cvs ls) (bss pl) m' ∧ Apart w3 W0.heap.size v1 ms' ∧ parTo (cvs ls) rd (bss pl) m' ≠ 9 ∧ w3.ownsRow W0.heap.size 46 1 v1 ms'.length (pv ms') ∧ Below W0.heap.size W0 w3 :=
            ⟨m + 1, ms ++ [⟨ra, rc, p.bs⟩], by omega, by go_num, by rw [HY.out]; simp [bss], hap3, HX.out, by simpa [pv, Part.val] using ho3, hB3⟩
          first | exact hR | ((repeat apply Exists.intro); exact ⟨hR, rfl⟩)
        case measure => simp [intOf]; omega
      · obtain ⟨k, rfl⟩ : ∃ k : Nat, r = k := ⟨r.toNat, by omega⟩
        obtain ⟨sb, so, rfl, c1⟩ := HCL.out k (by omega)
        replace c1 := (hb1.cell (p := ⟨sb, so + k * 5 + 1, none⟩) (block_lt_of_cell c1)).trans c1
        simp only [Int.toNat_natCast] at Ho Hk
        clear Hn HCL
        generalize (cvAt (cvs ls) k).rd = y at *
        have hwr : IntKind.i64.wrap (rd - 1) = rd - 1 := by rw [IntKind.wrap_i64]; omega
        have hkI : (k : Int) < ls.length := by omega
        by_cases hy : y = rd - 1
        · obtain ⟨H1, H2⟩ := Hk.out (by omega) hy
          have HX : Hid _ := H1
          have HY : Hid _ := H2
          subst hy
          clear Hk Ho H1 H2
          have hwe : (rd - 1 != IntKind.i64.wrap (rd - 1)) = false := by rw [hwr]; simp
          go_wp2_with fail
          go_region_held3 (fun w' => w'.cell? ⟨s, 0, none⟩ = some (.slice (some ⟨sb, so, none⟩) ls.length cc) ∧ w'.cell? ⟨w.heap.size, 1, none⟩ = some (.int .i64 rd) ∧ w'.cell? ⟨sb, so + k * 5 + 1, none⟩ = some (.int .i64 (rd - 1))) (go_keep) (fail)
          all_goals
            go_wp2_with fail
            go_roundw
            case rel =>
              have hR : ∃ (m' : Nat) (ms' : List Part), m' ≤ pl.length ∧ (Value.int .i64 ((m : Int) + 1)) = .int .i64 m' ∧ bss ms' = misTo (cvs ls) (bss pl) m' ∧ Apart w1.drew W0.heap.size u6 ms' ∧ parTo (cvs ls) rd (bss pl) m' ≠ 9 ∧ w1.drew.ownsRow W0.heap.size 46 1 u6 ms'.length (pv ms') ∧ Below W0.heap.size W0 w1.drew :=
                ⟨m + 1, ms, by omega, by go_num, HY.out, hap1.same (Nat.le_refl _) (fun p hp b so e => rfl), HX.out, hob.drew, hB1.drew⟩
              first | exact hR | ((repeat apply Exists.intro); exact ⟨hR, rfl⟩)
            case measure => simp [intOf]; omega
        · have He : Hid (parF (cvs ls) rd (bss pl) = 9) := Ho.out (by omega) hy
          clear Hk Ho
          have hwe : (y != IntKind.i64.wrap (rd - 1)) = true := by rw [hwr]; simpa using hy
          go_wp2_with fail
          go_region_held3 (fun w' => w'.cell? ⟨s, 0, none⟩ = some (.slice (some ⟨sb, so, none⟩) ls.length cc) ∧ w'.cell? ⟨w.heap.size, 1, none⟩ = some (.int .i64 rd) ∧ w'.cell? ⟨sb, so + k * 5 + 1, none⟩ = some (.int .i64 y)) (go_keep) (fail)
          all_goals
            go_wp2_with fail
            go_ret2
            exact ⟨.inl ⟨He.out, rfl⟩, (hA.trans (hB1.mono hA.size)).drew⟩
    · obtain rfl : m = pl.length := by omega
      have HF : Hid (parF (cvs ls) rd (bss pl) ≠ 9) := by
        show parTo _ _ _ _ ≠ 9
        rw [bss_length]; exact hno
      have HM : Hid (bss ms = misF (cvs ls) (bss pl)) := by
        show bss ms = misTo _ _ _
        rw [bss_length]; exact hS
      clear hno hS
      obtain ⟨ra, rc, hv, hl, hL, hfr⟩ := listAt_of_owns ho hap
      subst hv
      go_wp2_with fail
      go_ret2
      exact ⟨.inr ⟨HF.out, ra, rc, ms, rfl, HM.out, hL (by omega), ⟨fun sb so e => Nat.le_trans hA.size (hfr.row sb so e), fun p hp sb so e => Nat.le_trans hA.size (hfr.each p hp sb so e)⟩⟩, hAr⟩
set_option maxRecDepth 100000 in
set_option maxHeartbeats 1000000 in
theorem takes_any (ls : List Ct) (s : Nat) (ca : Option Addr) (cc : Nat) (da : Option Addr) (dc : Nat) (ds : List Part) (c : Ct) (w : World) (hs : StkAt w s ls ca cc da dc ds) (hc : CtAt w c) :
    Calls Tryd.prog 99 #[.pointer (some ⟨s, 0, none⟩), .agg #[.int .i64 c.au, .int .i64 c.rd, .slice c.ba c.bl.length c.bc, .slice c.pa c.pl.length c.pc, .slice c.va c.vl.length c.vc]] w fun e w' => e = .returned (.int .i64 (stkE (cvs ls) c.v)) ∧ Below w.heap.size w w' := by
  have hA := (Below.refl w.heap.size w).alloc (Nat.le_refl _) (.cells #[.int .i64 c.au, .int .i64 c.rd, .slice c.ba c.bl.length c.bc, .slice c.pa c.pl.length c.pc, .slice c.va c.vl.length c.vc] 63)
  have r0 := heap_alloc_new w (.cells #[.int .i64 c.au, .int .i64 c.rd, .slice c.ba c.bl.length c.bc, .slice c.pa c.pl.length c.pc, .slice c.va c.vl.length c.vc] 63)
  have HE : Hid (stkE (cvs ls) c.v = if c.v.f ≠ 0 then c.v.f else if takF (cvs ls) c.au c.rd (bss c.pl) ≠ 0 then takF (cvs ls) c.au c.rd (bss c.pl) else if 400 ≤ ls.length then 6 else 0) := by
    show _ = _
    rw [stkE, cvs_length]; rfl
  have hsm := hs.at'.small
  go_enter Tryd.func99, Tryd.ntmps99
  go_wp2_with fail
  generalize w.alloc (.cells #[.int .i64 c.au, .int .i64 c.rd, .slice c.ba c.bl.length c.bc, .slice c.pa c.pl.length c.pc, .slice c.va c.vl.length c.vc] 63) = W0 at hA r0 ⊢
  have c0 := hc.below hA
  have HCK := checkCert_any c.au c.rd c.ba c.bc c.bl c.pa c.pc c.pl c.va c.vc c.vl W0 c0.hat.lb c0.hat.lp c0.ints c0.vle
  rw [Ct.f_v] at HCK
  refine HCK.mono ?_
  rintro e w1 ⟨he, hb1⟩
  subst he
  dsimp only
  clear HCK c0
  have hB1 := hA.trans (hb1.mono hA.size)
  have r1 := (hb1.block _ (lt_of_heap r0)).trans r0
  by_cases hx : c.v.f = 0
  · have HE1 : Hid (stkE (cvs ls) c.v = if takF (cvs ls) c.au c.rd (bss c.pl) ≠ 0 then takF (cvs ls) c.au c.rd (bss c.pl) else if 400 ≤ ls.length then 6 else 0) := by
      show _ = _
      rw [HE.out, if_neg (fun h => h hx)]
    obtain ⟨y1, y2, y3, y4, y5, y6⟩ := headerF_ok (certF_head (vl := c.vl) (by rw [Ct.f_v]; exact hx))
    have HP6 : Hid (∀ p ∈ c.pl, p.bs.length ≤ 140737488355328) := by
      show ∀ p, _
      exact fun p hp => by rw [y6 p hp]; decide
    rw [hx]
    clear hx HE y1 y3 y5 y6
    have d0 := cells_at r1 0 _ rfl
    have d1 := cells_at r1 1 _ rfl
    go_wp2_with fail
    refine (has_stk ls s ca cc da dc ds c.au c.rd w1 (hs.below hB1)).mono ?_
    rintro e w2 ⟨he, hb2⟩
    subst he
    dsimp only
    have hB2 := hB1.trans (hb2.mono hB1.size)
    have r2 := (hb2.block _ (lt_of_heap r1)).trans r1
    clear d0 d1
    by_cases hh : 0 ≤ cOf (cvs ls) c.au c.rd
    · have HT : Hid (stkE (cvs ls) c.v = 7) := by
        show _ = _
        have e7 : takF (cvs ls) c.au c.rd (bss c.pl) = 7 := by rw [takF, if_pos hh]
        rw [HE1.out, e7]; rfl
      rw [decide_eq_true hh]
      clear hh HE1
      go_wp2_with fail
      go_ret
      exact ⟨ret_int HT.out.symm, hB2⟩
    · have HE2 : Hid (takF (cvs ls) c.au c.rd (bss c.pl) = parF (cvs ls) c.rd (bss c.pl)) := by
        show _ = _
        rw [takF, if_neg hh]
      rw [decide_eq_false hh]
      clear hh
      have d0 := cells_at r2 0 _ rfl
      have d1 := cells_at r2 1 _ rfl
      have d2 := cells_at r2 2 _ rfl
      have d3 := cells_at r2 3 _ rfl
      go_wp2_with fail
      refine (missing_any ls s ca cc da dc ds c.au c.rd c.ba c.bl.length c.bc c.pl c.pa c.pc w2 (hs.below hB2) y4 y2 (hc.below hB2).hat.lp.parts HP6.out).mono ?_
      rintro e w3 ⟨hM, hb3⟩
      have hB3 := hB2.trans (hb3.mono hB2.size)
      have b0 := cells_at (hs.below hB3).box 0 _ rfl
      clear d0 d1 d2 d3
      rcases hM with ⟨h9, he⟩ | ⟨h9, ma, mc, ms, he, hS, -, -⟩
      · have HT : Hid (stkE (cvs ls) c.v = 9) := by
          show _ = _
          rw [HE1.out, HE2.out, h9]; rfl
        clear h9 HE1 HE2
        subst he
        dsimp only
        go_wp2_with fail
        go_ret
        exact ⟨ret_int HT.out.symm, hB3⟩
      · have hlen : ms.length = (misF (cvs ls) (bss c.pl)).length := by rw [← hS, bss_length]
        have HP : Hid (parF (cvs ls) c.rd (bss c.pl) = if ms.length = 0 then 0 else 8) := by
          show _ = _
          rw [hlen]
          exact parTo_mis _ _ _ _ h9
        clear h9 hS hlen
        subst he
        dsimp only
        by_cases hz : ms.length = 0
        · rw [hz]
          by_cases h4 : 400 ≤ ls.length
          · have HT : Hid (stkE (cvs ls) c.v = 6) := by
              show _ = _
              rw [HE1.out, HE2.out, HP.out, if_pos hz, if_neg (by simp), if_pos h4]
            have h4I : (400 : Int) ≤ ls.length := by omega
            clear HP HE1 HE2
            go_wp2_with fail
            go_ret
            exact ⟨ret_int HT.out.symm, hB3⟩
          · have HT : Hid (stkE (cvs ls) c.v = 0) := by
              show _ = _
              rw [HE1.out, HE2.out, HP.out, if_pos hz, if_neg (by simp), if_neg h4]
            have h4I : ¬ (400 : Int) ≤ ls.length := by omega
            clear HP HE1 HE2
            go_wp2_with fail
            go_ret
            exact ⟨ret_int HT.out.symm, hB3⟩
        · have HT : Hid (stkE (cvs ls) c.v = 8) := by
            show _ = _
            rw [HE1.out, HE2.out, HP.out, if_neg hz]; rfl
          have hzI : (0 : Int) < ms.length := by omega
          clear HP HE1 HE2
          go_wp2_with fail
          go_ret
          exact ⟨ret_int HT.out.symm, hB3⟩
  · have HT : Hid (stkE (cvs ls) c.v = c.v.f) := by
      show _ = _
      rw [HE.out, if_pos hx]
    have hxn : (c.v.f != 0) = true := by simpa using hx
    clear HE
    generalize c.v.f = x at *
    go_wp2_with fail
    go_ret
    exact ⟨ret_int HT.out.symm, hB1⟩
end Go.Proofs.YtbmodfegcmaieaaDoor

namespace Go.Proofs.YtbmodfegcmaieaaDoor
open Go.RowKit

set_option maxRecDepth 100000 in
theorem infoInt2 : (Tryd.prog.info? 3).map (fun i => (i.zero, i.size, i.bytes)) = some (some (.int .i64 0), 1, 8) := by kernel_rfl
def iv (vl : List Int) : List Value := vl.map (Value.int .i64)
set_option maxRecDepth 100000 in
theorem iv_length (vl : List Int) : (iv vl).length = vl.length := by simp [iv]
set_option maxRecDepth 100000 in
theorem iv_one (vl : List Int) : ∀ u ∈ iv vl, u.oneCell' = true := by
  intro u hu; simp [iv] at hu; obtain ⟨x, _, rfl⟩ := hu; rfl
set_option maxRecDepth 100000 in
theorem intsAt_of_owns {w : World} {base n : Nat} {v : Value} {vl : List Int} (h : w.ownsRow base 3 1 v n (iv vl)) : ∃ za zc, v = .slice za n zc ∧ n = vl.length ∧ IntsAt w za vl ∧ ∀ sb so, za = some ⟨sb, so, none⟩ → base ≤ sb := by
  have hl : n = vl.length := by have := h.1; rw [iv_length] at this; omega
  rcases h.2 with ⟨rfl, hn⟩ | ⟨g, cap, cur, rfl, _⟩
  · have hb : vl = [] := List.eq_nil_of_length_eq_zero (by omega)
    subst hn hb
    exact ⟨none, 0, rfl, rfl, ⟨.inl rfl⟩, fun _ _ e => by cases e⟩
  · refine ⟨some ⟨g, 0, none⟩, cap, rfl, hl, ⟨.inr ⟨g, 0, rfl, fun j hj => ?_⟩⟩, fun sb so e => by cases e; exact (h.lt _ rfl).1⟩
    rw [Nat.zero_add, World.ownsRow.cellAt h j (by omega)]
    simp [iv, hj]
set_option maxRecDepth 100000 in
theorem IntsAt.setCell {w : World} {va : Option Addr} {vl : List Int} (h : IntsAt w va vl) (b j : Nat) (v : Value) (hne : ∀ sb so, va = some ⟨sb, so, none⟩ → b ≠ sb) : IntsAt (w.setCell ⟨b, j, none⟩ v) va vl := by
  refine ⟨?_⟩
  rcases h.cells with h | ⟨sb, so, rfl, hc⟩
  · exact .inl h
  · exact .inr ⟨sb, so, rfl, fun k hk => (World.cell?_setCell_far _ _ _ _ (hne sb so rfl)).trans (hc k hk)⟩
end Go.Proofs.YtbmodfegcmaieaaDoor
