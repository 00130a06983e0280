/- The law sheaveskeep.TableAll answers true for every argument, and each argument reads behind the call as it read before: the tied card. Its conditions: the three tables of package blake hold what the program's text lays (the card ties that); the form's own reach. -/
import Derived.Test.YtfnpkiaedbfekaaDoorApp
import Derived.Test.YtfnpkiaedbfekaaDoorTableAllM6
import Derived.Test.YtfnpkiaedbfekaaDoorRows
import Derived.Test.YtfnpkiaedbfekaaDoorK
import Derived.Test.YtfnpkiaedbfekaaDoorTableAllM0
import Derived.Lib.LaidTab
import Derived.OpenShut
import Derived.Stop.LaidErr
import Derived.Test.YtfnpkiaedbfekaaDoorLib
import Derived.ProofKit
import Derived.Test.YtfnpkiaedbfekaaDoorCards
import Derived.Test.YtfnpkiaedbfekaaDoorTie
import Derived.WalkKit
import Derived.Deep.DeepHandedRow
import Derived.SevenTiedAt
import Derived.Below
namespace Go.Proofs.YtfnpkiaedbfekaaDoor
open Go.RowKit

set_option maxRecDepth 100000 in
set_option maxHeartbeats 400000 in
theorem same_eq (bs : List Int) (sa sb : Option Addr) (n m c d : Nat) (w : World) (hn : n = bs.length) (hm : m = bs.length) (ha : SliceAt w sa c bs) (hb : SliceAt w sb d bs) :
    Calls Tryd.prog 16 #[.slice sa n c, .slice sb m d] w fun e w' => e = .returned (.bool true) ∧ w = w' := by
  have h1 := run_text w sa n c bs hn ha
  have h2 := run_text w sb m d bs hm hb
  clear hn hm ha hb
  go_enter Tryd.func16, Tryd.ntmps16
  go_wp2_with fail
  go_ret
  exact ⟨by simp, rfl⟩
end Go.Proofs.YtfnpkiaedbfekaaDoor

namespace Go.Proofs.YtfnpkiaedbfekaaDoor
open Go.RowKit

set_option maxRecDepth 100000 in
theorem voted_noneT {au rd e : Int} {bs : List Int} (h : VotedIs [] au rd e bs) : e = 8 := by
  rcases h with ⟨h, _, _⟩ | ⟨_, _, he, _⟩ | ⟨m, _, hm, _, _, _, _⟩
  · exact absurd (tabF_nil.symm.trans h) (by decide)
  · exact he
  · exact absurd hm (by simp)
set_option maxRecDepth 100000 in
theorem keyEq_vals (r s : Rw) : (keyEq r s = true ∧ pk r.a 4 = pk s.a 4 ∧ 1 + pk r.b 9 = 1 + pk s.b 9) ∨ (keyEq r s = false ∧ ¬ (pk r.a 4 = pk s.a 4)) ∨ (keyEq r s = false ∧ pk r.a 4 = pk s.a 4 ∧ ¬ (1 + pk r.b 9 = 1 + pk s.b 9)) := by
  by_cases h1 : pk r.a 4 = pk s.a 4
  · by_cases h2 : 1 + pk r.b 9 = 1 + pk s.b 9
    · exact .inl ⟨decide_eq_true ⟨h1, h2⟩, h1, h2⟩
    · exact .inr (.inr ⟨decide_eq_false (fun h => h2 h.2), h1, h2⟩)
  · exact .inr (.inl ⟨decide_eq_false (fun h => h1 h.1), h1⟩)
set_option maxRecDepth 100000 in
set_option maxHeartbeats 4000000 in
theorem tableAll_walk (sa : Option Addr) (cap : Nat) (rs : List Rw) (w : World) (hr : RawsAt w sa rs) (_hl : rs.length ≤ cap) (hT : Tabs w) :
    Calls Tryd.prog 6 #[.slice sa rs.length cap] w fun e w' => e = .returned (.bool true) ∧ Below w.heap.size w w' := by
  have hsm := hr.small
  have HEND : Hid (∀ (W : World), Calls Tryd.prog 15 #[.slice none 0 0, .int .i64 0, .int .i64 1] W fun e w' => ∃ (ra : Option Addr) (rc : Nat) (bs : List Int), e = .returned (.tuple #[.slice ra bs.length rc, .int .i64 8]) ∧ Below W.heap.size W w') := by
    show ∀ W, _
    intro W
    refine (voted_any [] none 0 0 0 1 W rfl (tab_nil _)).mono ?_
    rintro e w' ⟨ra, rc, bs, er, he, hV, _, _, hb⟩
    obtain rfl := voted_noneT hV
    exact ⟨ra, rc, bs, he, hb⟩
  go_enter Tryd.func6, Tryd.ntmps6
  go_wp2_with fail
  refine (table_any rs sa _ cap w rfl hr hT).mono ?_
  rintro e w1 ⟨xa, xc, ks, he, hv, ht, hb1⟩
  subst he
  dsimp only
  have HV : Hid (vs ks = tabR rs) := hv
  clear hv
  go_wp2_with fail
  go_loopw [5, 4] (fun i n wr => ∃ k : Nat, k ≤ rs.length ∧ k ≤ 30 ∧ i = .int .i64 k ∧ n = .int .i64 ((tabTo rs k).length : Nat) ∧ Below w1.heap.size w1 wr) (fun i _ _ => rs.length - (intOf i).toNat)
  case atStart => exact ⟨0, Nat.zero_le _, by omega, rfl, rfl, Below.refl _ _⟩
  case round =>
    obtain ⟨k, hk, hk30, rfl, rfl, hb⟩ := hrel
    have hBw := hb1.trans (hb.mono hb1.size)
    by_cases hlt : k < rs.length
    · by_cases h30 : k < 30
      · have hpw := hr.below hBw
        obtain ⟨sb, so, rfl, hc⟩ : ∃ sb so, sa = some ⟨sb, so, none⟩ ∧ ∀ j (h : j < rs.length), wr.cell? ⟨sb, so + j * 5, none⟩ = some (.int .i64 (rs[j]).ki) ∧ wr.cell? ⟨sb, so + j * 5 + 1, none⟩ = some (.int .i64 (rs[j]).a) ∧ wr.cell? ⟨sb, so + j * 5 + 2, none⟩ = some (.int .i64 (rs[j]).b) ∧ wr.cell? ⟨sb, so + j * 5 + 3, none⟩ = some (.int .i64 (rs[j]).c) ∧ wr.cell? ⟨sb, so + j * 5 + 4, none⟩ = some (.slice (rs[j]).sa (rs[j]).n (rs[j]).cap) := by
          rcases hpw.cells with h | h
          · rw [h] at hlt; simp at hlt
          · exact h
        obtain ⟨c0, c1, c2, c3, c4⟩ := hc k hlt
        have hi := hr.each (rs[k]) (List.getElem_mem hlt)
        have hltI : (k : Int) < rs.length := by omega
        have h30I : (k : Int) < 30 := by omega
        have HK : Hid (rwAt rs k = rs[k]) := rwAt_get rs k hlt
        have HH : Hid (I64 (rs[k]).a ∧ I64 (rs[k]).b ∧ I64 (rs[k]).c) := hi
        clear hc hpw hi
        generalize rs[k] = r at *
        go_wp2_with fail
        refine (header_hat r wr HH.out).mono ?_
        rintro e w2 ⟨ba, bc, bl, pa, pc, pl, he, hH, hbl, hpl, hb2, _, _⟩
        subst he
        dsimp only
        have HF : Hid (headerF (pk r.a 4) (1 + pk r.b 9) bl pl = 0) := headerF_raw r.a r.b r.c bl pl hbl hpl
        have HD : Hid (hDig (pk r.a 4) (1 + pk r.b 9) bl pl = rDig r) := hDig_raw r bl pl hbl hpl
        clear hbl hpl c0 c1 c2 c3 c4
        have hB2 := hb.trans (hb2.mono hb.size)
        have hA2 : Below w2.heap.size w2 (w2.alloc (.cells #[.int .i64 (pk r.a 4), .int .i64 (1 + pk r.b 9), .slice ba bl.length bc, .slice pa pl.length pc] 25)) := (Below.refl _ _).alloc (Nat.le_refl _) _
        have u2 := heap_alloc_new w2 (.cells #[.int .i64 (pk r.a 4), .int .i64 (1 + pk r.b 9), .slice ba bl.length bc, .slice pa pl.length pc] 25)
        have hB3 := hB2.trans (hA2.mono hB2.size)
        have hH3 := hH.below hA2
        go_wp2_with fail
        generalize w2.alloc (.cells #[.int .i64 (pk r.a 4), .int .i64 (1 + pk r.b 9), .slice ba bl.length bc, .slice pa pl.length pc] 25) = w3 at hA2 u2 hB3 hH3 ⊢
        go_loopw [8, 7] (fun i f wq => ∃ m : Nat, m ≤ k ∧ i = .int .i64 m ∧ f = .bool (fstTo rs r m) ∧ Below w3.heap.size w3 wq) (fun i _ _ => k - (intOf i).toNat)
        case atStart => exact ⟨0, Nat.zero_le _, rfl, rfl, Below.refl _ _⟩
        case round =>
          obtain ⟨m, hm, rfl, rfl, hbq⟩ := hrel
          have hBq := hB3.trans (hbq.mono hB3.size)
          have hBwq := hb1.trans (hBq.mono hb1.size)
          have u3 := (hbq.block _ (lt_of_heap u2)).trans u2
          have d0 := cells_at u3 0 _ rfl
          have d1 := cells_at u3 1 _ rfl
          have d2 := cells_at u3 2 _ rfl
          have d3 := cells_at u3 3 _ rfl
          by_cases hmk : m < k
          · have hmr : m < rs.length := by omega
            have hpq := hr.below hBwq
            have hcm : ∀ j (h : j < rs.length), wr.cell? ⟨sb, so + j * 5, none⟩ = some (.int .i64 (rs[j]).ki) ∧ wr.cell? ⟨sb, so + j * 5 + 1, none⟩ = some (.int .i64 (rs[j]).a) ∧ wr.cell? ⟨sb, so + j * 5 + 2, none⟩ = some (.int .i64 (rs[j]).b) ∧ wr.cell? ⟨sb, so + j * 5 + 3, none⟩ = some (.int .i64 (rs[j]).c) ∧ wr.cell? ⟨sb, so + j * 5 + 4, none⟩ = some (.slice (rs[j]).sa (rs[j]).n (rs[j]).cap) := by
              rcases hpq.cells with h | ⟨sb', so', e, h⟩
              · rw [h] at hlt; simp at hlt
              · cases e; exact h
            obtain ⟨c0, c1, c2, c3, c4⟩ := hcm m hmr
            have hmI : (m : Int) < k := by omega
            have hmI2 : (m : Int) < rs.length := by omega
            have HG : Hid (I64 (rs[m]).a ∧ I64 (rs[m]).b ∧ I64 (rs[m]).c) := hr.each (rs[m]) (List.getElem_mem hmr)
            have HS : Hid (fstTo rs r (m + 1) = (fstTo rs r m && !keyEq (rs[m]) r)) := by
              show _ = _
              rw [fstTo, rwAt_get rs m hmr]
            clear hcm hpq
            generalize rs[m] = g at *
            go_wp2_with fail
            refine (header_hat g wr HG.out).mono ?_
            rintro e w4 ⟨ba', bc', bl', pa', pc', pl', he, _, _, _, hb4, _, _⟩
            subst he
            dsimp only
            clear c0 c1 c2 c3 c4 d0 d1 d2 d3
            have u4 := heap_keep (o := .cells #[.int .i64 (pk g.a 4), .int .i64 (1 + pk g.b 9), .slice ba' bl'.length bc', .slice pa' pl'.length pc'] 25) ((hb4.block _ (lt_of_heap u3)).trans u3)
            have v4 := heap_alloc_new w4 (.cells #[.int .i64 (pk g.a 4), .int .i64 (1 + pk g.b 9), .slice ba' bl'.length bc', .slice pa' pl'.length pc'] 25)
            have hB4 := hbq.trans (hb4.mono hbq.size)
            have hB5 := hB4.alloc hB4.size (.cells #[.int .i64 (pk g.a 4), .int .i64 (1 + pk g.b 9), .slice ba' bl'.length bc', .slice pa' pl'.length pc'] 25)
            have d0 := cells_at u4 0 _ rfl
            have d1 := cells_at u4 1 _ rfl
            have e0 := cells_at v4 0 _ rfl
            have e1 := cells_at v4 1 _ rfl
            have hE : ∃ b : Bool, fstTo rs r m = b ∧ ((b = false ∧ fstTo rs r (m + 1) = false) ∨ (b = true ∧ ((fstTo rs r (m + 1) = true ∧ (pk g.a 4 != pk r.a 4) = true) ∨ (fstTo rs r (m + 1) = true ∧ (pk g.a 4 != pk r.a 4) = false ∧ (1 + pk g.b 9 != 1 + pk r.b 9) = true) ∨ (fstTo rs r (m + 1) = false ∧ (pk g.a 4 != pk r.a 4) = false ∧ (1 + pk g.b 9 != 1 + pk r.b 9) = false)))) := by
              rw [HS.out]
              refine ⟨_, rfl, ?_⟩
              cases fstTo rs r m
              · exact .inl ⟨rfl, rfl⟩
              · refine .inr ⟨rfl, ?_⟩
                rcases keyEq_vals g r with ⟨h1, h2, h3⟩ | ⟨h1, h2⟩ | ⟨h1, h2, h3⟩
                · exact .inr (.inr ⟨by rw [h1]; rfl, by simp [h2], by simp [h3]⟩)
                · exact .inl ⟨by rw [h1]; rfl, by simp [h2]⟩
                · exact .inr (.inl ⟨by rw [h1]; rfl, by simp [h2], by simp; omega⟩)
            clear HS
            obtain ⟨b, hbe, hE⟩ := hE
            rw [hbe]
            generalize hN : fstTo rs r (m + 1) = b' at hE
            have HN : Hid (fstTo rs r (m + 1) = b') := hN
            clear hN hbe
            generalize pk g.a 4 = GA at *
            generalize 1 + pk g.b 9 = GB at *
            rcases hE with ⟨rfl, rfl⟩ | ⟨rfl, ⟨rfl, hx⟩ | ⟨rfl, hx, hy⟩ | ⟨rfl, hx, hy⟩⟩
            all_goals
              go_wp2_with fail
              go_roundw
              case rel =>
                have hR : ∀ (bb : Bool) (W : World), fstTo rs r (m + 1) = bb → Below w3.heap.size w3 W → ∃ m' : Nat, m' ≤ k ∧ (Value.int .i64 ((m : Int) + 1)) = .int .i64 m' ∧ (Value.bool bb) = .bool (fstTo rs r m') ∧ Below w3.heap.size w3 W := fun bb W h1 h2 => ⟨m + 1, by omega, by go_num, by rw [h1], h2⟩
                have hR2 := hR _ _ HN.out hB5
                first | exact hR2 | ((repeat apply Exists.intro); exact ⟨hR2, rfl⟩)
              case measure => simp [intOf]; omega
          · obtain rfl : m = k := by omega
            cases hfst : fstTo rs r m with
            | false =>
              have HL : Hid (tabTo rs (m + 1) = tabTo rs m) := by
                show _ = _
                refine tabTo_later h30 ?_
                rw [HK.out]; exact hfst
              go_wp2_with fail
              go_roundw
              case rel =>
                have hR : ∃ k' : Nat, k' ≤ rs.length ∧ k' ≤ 30 ∧ (Value.int .i64 ((m : Int) + 1)) = .int .i64 k' ∧ (Value.int .i64 ((tabTo rs m).length : Nat)) = .int .i64 ((tabTo rs k').length : Nat) ∧ Below w1.heap.size w1 wr := ⟨m + 1, by omega, by omega, by go_num, by rw [HL.out], hBq⟩
                first | exact hR | ((repeat apply Exists.intro); exact ⟨hR, rfl⟩)
              case measure => simp [intOf]; omega
            | true =>
              have hfst' : fstTo rs (rwAt rs m) m = true := by rw [HK.out]; exact hfst
              have HL : Hid ((tabTo rs (m + 1)).length = (tabTo rs m).length + 1) := by
                show _ = _
                rw [(tabTo_first h30 hfst').2]; simp
              have HVT : Hid (VotedIs (vs ks) (pk r.a 4) (1 + pk r.b 9) 0 (rDig r)) := by
                show VotedIs _ _ _ _ _
                have := voted_first (n := min rs.length 30) h30 (by omega) hfst'
                rw [HK.out] at this
                rw [HV.out]; exact this
              have hlen30 : (tabTo rs m).length ≤ 30 := Nat.le_trans (tabTo_ok rs m).le (by omega)
              have HDG := headerDigest_hat (hH3.below hbq) HF.out (hT.below hBwq)
              rw [HD.out] at HDG
              have HTA := ht.below hBq
              have hD32 := rDig_length r
              clear hfst' HK HF HD
              generalize rDig r = DD at *
              generalize pk r.a 4 = RA at *
              generalize 1 + pk r.b 9 = RB at *
              generalize (tabTo rs m).length = nn at *
              go_wp2_with fail
              refine HDG.mono ?_
              rintro e w5 ⟨b5, he, hbb5, hb5, hs5⟩
              subst he
              dsimp only
              clear d0 d1 d2 d3 HDG
              have u5 := (hb5.block _ (lt_of_heap u3)).trans u3
              have d0 := cells_at u5 0 _ rfl
              have d1 := cells_at u5 1 _ rfl
              have hB5 := hBq.trans (hb5.mono hBq.size)
              have HD32 : Hid (DD.length = 32) := hD32
              clear hD32
              go_wp2_with fail
              refine (voted_any ks xa _ xc RA RB w5 rfl (HTA.below hb5)).mono ?_
              rintro e w6 ⟨ya, yc, ys, er, he, hV6, hys, _, hb6⟩
              subst he
              dsimp only
              obtain ⟨rfl, rfl⟩ := hV6.one HVT.out
              clear hV6 HVT
              have hB6 := hB5.trans (hb6.mono hB5.size)
              have hE := same_eq ys (some ⟨b5, 0, none⟩) ya 32 ys.length 32 yc w6 HD32.out.symm rfl (hs5.below hb6) hys
              go_wp2_with (go_at_call 16; refine hE.mono ?_; rintro e w' ⟨rfl, rfl⟩)
              go_roundw
              case rel =>
                have hR : ∃ k' : Nat, k' ≤ rs.length ∧ k' ≤ 30 ∧ (Value.int .i64 ((m : Int) + 1)) = .int .i64 k' ∧ (Value.int .i64 ((nn : Int) + 1)) = .int .i64 ((tabTo rs k').length : Nat) ∧ Below w1.heap.size w1 w6 := ⟨m + 1, by omega, by omega, by go_num, by rw [HL.out]; go_num, hB6⟩
                first | exact hR | ((repeat apply Exists.intro); exact ⟨hR, rfl⟩)
              case measure => simp [intOf]; omega
      · obtain rfl : k = 30 := by omega
        have hltJ : (30 : Int) < rs.length := by omega
        have hE : Hid ((tabTo rs 30).length = ks.length) := by
          show _ = _
          have := congrArg List.length HV.out
          rw [vs_length, tabR, Nat.min_eq_right (by omega)] at this
          exact this.symm
        rw [hE.out]
        go_wp2_with fail
        refine (HEND.out wr).mono ?_
        rintro e w9 ⟨ya, yc, ys, he, hb9⟩
        subst he
        dsimp only
        go_wp2_with fail
        go_ret
        exact ⟨by first | rfl | simp, hBw.trans (hb9.mono hBw.size)⟩
    · obtain rfl : k = rs.length := by omega
      have hE : Hid ((tabTo rs rs.length).length = ks.length) := by
        show _ = _
        have := congrArg List.length HV.out
        rw [vs_length, tabR, Nat.min_eq_left hk30] at this
        exact this.symm
      rw [hE.out]
      go_wp2_with fail
      refine (HEND.out wr).mono ?_
      rintro e w9 ⟨ya, yc, ys, he, hb9⟩
      subst he
      dsimp only
      go_wp2_with fail
      go_ret
      exact ⟨by first | rfl | simp, hBw.trans (hb9.mono hBw.size)⟩
end Go.Proofs.YtfnpkiaedbfekaaDoor

namespace Go.Proofs.YtfnpkiaedbfekaaDoor
open Go.RowKit

set_option maxRecDepth 100000 in
/-- An array of arrays of integers that reads as a table of rows holds the rows' numbers, cell for cell. -/
theorem cells_of_tab2 {H : Type} {enc : TypeId × Value → H} {P : Program} {w : World} {base : Nat} {sp : Nat → Bool} {held : Bool} {fuel : Nat} {t e i : TypeId} {n m : Nat} {k : IntKind} {cs : List Value} {rows : List (List Int)} {p : List MemPlace}
    (ht : P.underlying t = some (.array n e)) (he : P.underlying e = some (.array m i)) (hi : P.underlying i = some (.int k)) (hci : P.cellsOf i = 1) (hce : P.cellsOf e = m) (hm : 0 < m)
    (h : DataW.trod enc P w base sp held fuel t cs = some (.agg (rows.map (Lib.tabData k)), p)) (q : Nat) (hq : q < n * m) : cs[q]? = ((rows.getD (q / m) []).map (Value.int k))[q % m]? := by
  obtain ⟨xs, f, rfl, hx, hl, hn, hr⟩ := DataW.trod_array ht h
  have hin : q / m < n := Nat.div_lt_of_lt_mul (by rw [Nat.mul_comm]; exact hq)
  have hrow := hr (q / m) hin
  have hxs : xs.map (·.1) = rows.map (Lib.tabData k) := by
    have := congrArg Prod.fst hx
    simpa using this.symm
  have hg : (xs.map (·.1))[q / m]? = some (xs[q / m]'(by omega)).1 := by simp [hn, hin]
  rw [hxs] at hg
  simp only [List.getElem?_map, Option.map_eq_some_iff] at hg
  obtain ⟨r, hr1, hr2⟩ := hg
  rw [List.getElem?_eq_getElem (by omega), hce] at hrow
  have hrow' : DataW.trod enc P w base sp held f e ((cs.drop (q / m * m)).take m) = some (Lib.tabData k r, (xs[q / m]'(by omega)).2) := by
    rw [hrow, hr2]
  have hc := Lib.cells_of_tab he hi hci hce hrow'
  have hj : q % m < m := Nat.mod_lt _ hm
  have e1 : ((cs.drop (q / m * m)).take m)[q % m]? = cs[q]? := by
    rw [List.getElem?_take, if_pos hj, List.getElem?_drop, Nat.mul_comm, Nat.div_add_mod]
  rw [← e1, hc]
  simp [List.getD, hr1]

set_option maxRecDepth 100000 in
theorem tFirst : (Tryd.prog.globals[0]?).map (·.type) = some 83 := by kernel_rfl
set_option maxRecDepth 100000 in
theorem tOrders : (Tryd.prog.globals[1]?).map (·.type) = some 97 := by kernel_rfl
set_option maxRecDepth 100000 in
theorem tLanes : (Tryd.prog.globals[2]?).map (·.type) = some 99 := by kernel_rfl
set_option maxRecDepth 100000 in
theorem cU32 : Tryd.prog.cellsOf 82 = 1 := by kernel_rfl
set_option maxRecDepth 100000 in
theorem c8U32 : Tryd.prog.cellsOf 83 = 8 := by kernel_rfl
set_option maxRecDepth 100000 in
theorem c16U8 : Tryd.prog.cellsOf 96 = 16 := by kernel_rfl
set_option maxRecDepth 100000 in
theorem c4U8 : Tryd.prog.cellsOf 98 = 4 := by kernel_rfl
def ordRows : List (List Int) := [[0, 1, 2, 3, 4, 5, 6, 7, 8, 9, 10, 11, 12, 13, 14, 15], [14, 10, 4, 8, 9, 15, 13, 6, 1, 12, 0, 2, 11, 7, 5, 3], [11, 8, 12, 0, 5, 2, 15, 13, 10, 14, 3, 6, 7, 1, 9, 4], [7, 9, 3, 1, 13, 12, 11, 14, 2, 6, 5, 10, 4, 0, 15, 8], [9, 0, 5, 7, 2, 4, 10, 15, 14, 1, 11, 12, 6, 8, 3, 13], [2, 12, 6, 10, 0, 11, 8, 3, 4, 13, 7, 5, 15, 14, 1, 9], [12, 5, 1, 15, 14, 13, 4, 10, 0, 7, 6, 3, 9, 2, 8, 11], [13, 11, 7, 14, 12, 1, 3, 9, 5, 0, 15, 4, 8, 6, 2, 10], [6, 15, 14, 9, 11, 3, 0, 8, 12, 2, 13, 7, 1, 4, 10, 5], [10, 2, 8, 4, 7, 6, 1, 5, 15, 11, 9, 14, 3, 12, 13, 0]]
def laneRows : List (List Int) := [[0, 4, 8, 12], [1, 5, 9, 13], [2, 6, 10, 14], [3, 7, 11, 15], [0, 5, 10, 15], [1, 6, 11, 12], [2, 7, 8, 13], [3, 4, 9, 14]]
set_option maxRecDepth 100000 in
theorem ordRows_flat : ∀ q, q < 160 → (ordRows.getD (q / 16) [])[q % 16]? = some ((ordF.getD q 0 : Nat) : Int) := by decide +kernel
set_option maxRecDepth 100000 in
theorem laneRows_flat : ∀ q, q < 32 → (laneRows.getD (q / 4) [])[q % 4]? = some ((laneF.getD q 0 : Nat) : Int) := by decide +kernel
set_option maxRecDepth 100000 in
theorem dFirst : Rows.laid_sheaves_blake_firstWords (H := Unit) = Lib.tabData .u32 fw := rfl
set_option maxRecDepth 100000 in
theorem dOrders : Rows.laid_sheaves_blake_orders (H := Unit) = .agg (ordRows.map (Lib.tabData .u8)) := rfl
set_option maxRecDepth 100000 in
theorem dLanes : Rows.laid_sheaves_blake_lanes (H := Unit) = .agg (laneRows.map (Lib.tabData .u8)) := rfl

set_option maxRecDepth 100000 in
theorem tabs_of_laid {W : World} {n1 n2 n3 : String} (gFirst : Tryd.prog.globalNamed n1 = some 0) (gOrders : Tryd.prog.globalNamed n2 = some 1) (gLanes : Tryd.prog.globalNamed n3 = some 2)
    (h : laidMetH Tryd.prog [(n1, Rows.laid_sheaves_blake_firstWords), (n2, Rows.laid_sheaves_blake_orders), (n3, Rows.laid_sheaves_blake_lanes)] W) : Tabs W := by
  have h1 : laidMet Tryd.prog [(n1, Rows.laid_sheaves_blake_firstWords), (n2, Rows.laid_sheaves_blake_orders), (n3, Rows.laid_sheaves_blake_lanes)] W := h
  clear h
  have h2 := h1.tail
  have h3 := h2.tail
  rw [dFirst] at h1
  rw [dOrders] at h2
  rw [dLanes] at h3
  have t1 := Lib.tabIs_of_head gFirst tFirst Tryd.underlying83 Tryd.underlying82 cU32 c8U32 h1
  refine ⟨fun i hi => t1.cell gFirst i hi, fun i hi => ?_, fun i hi => ?_⟩
  · obtain ⟨ps, ⟨g', t', cs, fuel, p, q, hg', ht', hvar, hd, _, _⟩, _⟩ := h2
    obtain rfl := Option.some.inj (gOrders.symm.trans hg')
    obtain rfl := Option.some.inj (tOrders.symm.trans ht')
    have hc := World.var?_cell gOrders hvar i
    have he := cells_of_tab2 Tryd.underlying97 Tryd.underlying96 Tryd.underlying5 cU8 c16U8 (by decide) hd i hi
    rw [hc]
    have := ordRows_flat i hi
    simp only [List.getElem?_map, this, Option.map_some] at he
    simpa using he
  · obtain ⟨ps, ⟨g', t', cs, fuel, p, q, hg', ht', hvar, hd, _, _⟩, _⟩ := h3
    obtain rfl := Option.some.inj (gLanes.symm.trans hg')
    obtain rfl := Option.some.inj (tLanes.symm.trans ht')
    have hc := World.var?_cell gLanes hvar i
    have he := cells_of_tab2 Tryd.underlying99 Tryd.underlying98 Tryd.underlying5 cU8 c4U8 (by decide) hd i hi
    rw [hc]
    have := laneRows_flat i hi
    simp only [List.getElem?_map, this, Option.map_some] at he
    simpa using he
end Go.Proofs.YtfnpkiaedbfekaaDoor

namespace Go.Proofs.YtfnpkiaedbfekaaDoor
open Go.ChangeShapes Go.WideShapes Go.ChangeAt Go.RowKit

/-- What the initialisers of the three tables lay, in the first blocks. -/
def layBlock (c : Array Value) : Obj → Obj
  | .cells _ t frozen => .cells c t frozen
  | o => o
def layTabs (w : World) : World :=
  { w with heap := ((w.heap.modify 0 (layBlock (ua fw))).modify 1 (layBlock (ub (ordF.map Int.ofNat)).toArray)).modify 2 (layBlock (ub (laneF.map Int.ofNat)).toArray) }
end Go.Proofs.YtfnpkiaedbfekaaDoor

namespace Go.Proofs.YtfnpkiaedbfekaaDoor.tableAll
open Go.ChangeShapes Go.WideShapes Go.ChangeAt Go.RowKit

set_option maxRecDepth 100000 in
/-- What the walk gives, for every argument and every world that holds the tables. -/
theorem contract (H : Type) (enc : TypeId × Value → H) (W : World) (base : Nat) (args : Array Value) (ds gs : List (DataW H)) (before : List MemPlace)
    (hval : ∀ (j : Nat) t v, Tryd.f6.params[j]? = some t → args[j]? = some v → Value.okWide Tryd.prog W .any base t v)
    (hW : DataW.Whole enc Tryd.prog Tryd.f6.params.toList Rows.tableAllSpec.vars false W args.toList ds gs before) (hsz : (DataW.weightsEach Tryd.prog (Tryd.f6.params.toList ++ (OpenSpec.ofChange Rows.tableAllSpec).bare.plain.varTypes Tryd.prog) (ds ++ gs)).all (· ≤ reachBytes) = true) (hL : laidMetH Tryd.prog Rows.tableAllRow.laid W) :
    Calls Tryd.prog 6 args W fun e W' => ∃ v, e = .returned v ∧ Rows.tableAllSpec.post enc Tryd.prog Tryd.f6 false true false false W args v W' := by
  have hW' := hW
  obtain ⟨p, q, hA0, hV, rfl, hfz, hnd⟩ := hW
  have hA : DataW.TrodAll enc Tryd.prog W 0 (fun _ => true) true Tryd.f6.params.toList args.toList ds p := hA0
  rw [Tryd.params6] at hA hval hsz
  obtain ⟨v0, vs0, d0, ds0, p0, q0, hargs, rfl, rfl, h0, r0⟩ := trodAll_cons hA
  obtain ⟨rfl, rfl, rfl⟩ := trodAll_nil r0
  obtain rfl : args = #[v0] := by cases args; simp_all
  obtain ⟨rfl, rfl⟩ := trodVars_none hV
  have k0 := h0
  have lt0 : ∀ x ∈ p0, x.block < W.heap.size := by obtain ⟨m, hm⟩ := k0; exact DataW.trod_lt m _ _ _ hm
  obtain ⟨sa0, cap0, rs0, rfl, q0_0, q0_1⟩ := open_raws (hval 0 37 v0 rfl rfl) h0 (fit_each hsz (j := 0) rfl rfl)
  clear hA0
  have hT : Tabs W := tabs_of_laid (by kernel_rfl) (by kernel_rfl) (by kernel_rfl) hL
  refine (tableAll_walk sa0 cap0 rs0 W q0_0 q0_1 hT).mono fun e W' ⟨he, bel⟩ => ?_
  subst he
  exact ⟨_, rfl, _, _, _, [], _, [], hW', trodAll_mk1 (shut_bool Tryd.underlying4 _), (trodAll_cons_mk (Below.trod laidOut (by kernel_rfl) (of_decide_eq_true (by kernel_rfl)) k0 bel lt0) trodAll_mk0), rfl, bel.frame _, fun h => by cases h⟩

set_option maxRecDepth 100000 in
theorem laid_met (os : Os) : laidMet Tryd.prog Rows.tableAllRow.laid ((layTabs (World.holding Tryd.prog os ⟨#[], #[], []⟩)).forCall (fun _ _ => 0) ⟨#[], #[.slice none 0 0], []⟩).memory :=
  laidMet_of_run' 8 (by kernel_rfl) (by kernel_rfl)
set_option maxRecDepth 100000 in
theorem reads (os : Os) {H : Type} (enc : TypeId × Value → H) : ∃ places, DataW.whole enc Tryd.prog ((layTabs (World.holding Tryd.prog os ⟨#[], #[], []⟩)).forCall (fun _ _ => 0) ⟨#[], #[.slice none 0 0], []⟩).memory Tryd.f6.params.toList Rows.tableAllSpec.vars false (#[.slice none 0 0] : Array Value).toList 8 = some ([.nil], [], places) :=
  ⟨[], by kernel_rfl⟩

set_option maxRecDepth 100000 in
theorem lifted (os : Os) (started : os.Started) (H : Type) (enc : TypeId × Value → H) (F : Stop.Interp) :
    ReturnsInHanded {} Tryd.checked os 6 .any ((OpenSpec.ofChange Rows.tableAllSpec).preRow enc Tryd.prog Tryd.f6 Rows.tableAllRow.domain false Rows.tableAllRow.laid) (((OpenSpec.ofChange Rows.tableAllSpec).at F).post enc Tryd.prog Tryd.f6 false true false false) := by
  obtain ⟨places, hx⟩ := reads os enc
  refine returnsInHanded_of_row (C := Tryd.checked) (s := OpenSpec.ofChange Rows.tableAllSpec) own started (by kernel_rfl) Tryd.func6
    (witness_row_at (enc := enc) (C := Tryd.checked) false (layTabs (World.holding Tryd.prog os ⟨#[], #[], []⟩)) #[.slice none 0 0] rfl (by kernel_rfl) (by kernel_rfl) (by kernel_rfl)
      (OpenSpec.preRow_of_cond 8 hx (by kernel_rfl) (fun k hk => by cases hk) (by kernel_rfl) (laid_met os))) ?_
  intro W base args ds gs before hval hW _ _ hsz hL _ _
  exact contract H enc W base args ds gs before hval hW hsz hL

set_option maxRecDepth 100000 in
theorem said : Rows.TableAllSaid :=
  OpenClaim.holds_of_cond 6 Tryd.f6 rfl rfl rfl rfl rfl rfl rfl ⟨rfl, rfl, rfl, rfl, rfl⟩ rfl rfl rfl rfl rfl (by kernel_rfl) Tryd.func6 (by kernel_rfl)
    (of_decide_eq_true (by kernel_rfl)) (by unfold Func.isWrapper; first | (rw [if_pos (by decide +kernel)]; kernel_rfl) | (rw [if_neg (by decide +kernel)]; exact ⟨rfl, rfl⟩))
    (fun os started H enc _ F => by rw [OpenClaim.pre_eq_preRow]; exact lifted os started H enc F)

set_option maxRecDepth 100000 in
theorem plain (f : FuncId) (fn : Func) (hf : Tryd.pinned.checked.prog.funcNamed Rows.tableAllRow.func = some f) (hfn : Tryd.pinned.checked.prog.funcs[f]? = some fn) :
    false = Tryd.pinned.checked.prog.looks [] ∧ ∀ (j : Nat) t, fn.params[j]? = some t → Tryd.pinned.checked.prog.wantsStandIn t = false := by
  obtain rfl : f = 6 := Option.some.inj ((show Tryd.prog.funcNamed Rows.tableAllRow.func = some 6 by kernel_rfl).symm.trans hf) |>.symm
  obtain rfl : fn = Tryd.f6 := (Option.some.inj (Tryd.func6.symm.trans hfn)).symm
  refine ⟨by kernel_rfl, fun j t ht => ?_⟩
  rw [Tryd.params6] at ht
  have hm : t = 37 := by simpa using Array.mem_of_getElem? ht
  rcases hm with rfl
  · exact (show Tryd.prog.wantsStandIn 37 = false by kernel_rfl)

set_option maxRecDepth 100000 in
/-- THE CARD. -/
theorem card : Rows.TableAllCardSaid :=
  Claim7.holds_tied_plain_at .later [] _ _ _ _ said (fun _ h => by cases h) (by kernel_rfl) (fun _ h => by cases h) tableAll_row_tie rfl ⟨rfl, rfl⟩ (by kernel_rfl) rfl plain (by kernel_rfl)
end Go.Proofs.YtfnpkiaedbfekaaDoor.tableAll
namespace Go.Proofs.YtfnpkiaedbfekaaDoor
set_option maxRecDepth 100000 in
theorem tableAll_holds : Rows.TableAllCardSaid := tableAll.card
#print axioms tableAll_holds
end Go.Proofs.YtfnpkiaedbfekaaDoor
