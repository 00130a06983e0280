/- The document's parentsFault, for every list. -/
import Derived.Test.YtocclphjpofnoaaDoorRDag1
namespace Go.Proofs.YtocclphjpofnoaaDoor
open Go.RowKit

set_option maxRecDepth 100000 in
set_option maxHeartbeats 1000000 in
theorem parentsFault_any (ls : List Ct) (ca : Option Addr) (cn cc : Nat) (ds : List Part) (da : Option Addr) (dn dc : Nat) (au rd : Int) (ba : Option Addr) (bn bc : Nat) (pl : List Part) (pa : Option Addr) (pn pc : Nat) (w : World) (hcn : cn = ls.length) (hdn : dn = ls.length) (hpn : pn = pl.length) (hS : bss ds = (cvs ls).map CV.d) (hk2 : ls.length ≤ 3000000000000000000) (hpl : pl.length ≤ 4) (hrd : 1 ≤ rd ∧ rd ≤ 1048576) (hd : PartsAt w da ds) (hc : CertsAt w ca ls) (hp : PartsAt w pa pl) :
    Calls Tryd.prog 32 #[.slice ca cn cc, .slice da dn dc, .agg #[.int .i64 au, .int .i64 rd, .slice ba bn bc, .slice pa pn pc]] w fun e w' => e = .returned (.int .i64 (parF (cvs ls) rd (bss pl))) ∧ Below w.heap.size w w' := by
  have hA := (Below.refl w.heap.size w).alloc (Nat.le_refl _) (.cells #[.int .i64 au, .int .i64 rd, .slice ba bn bc, .slice pa pn pc] 32)
  have r0 := heap_alloc_new w (.cells #[.int .i64 au, .int .i64 rd, .slice ba bn bc, .slice pa pn pc] 32)
  subst hcn hpn
  have hdl : dn = ds.length := by rw [digs_length hS, cvs_length]; exact hdn
  have HS : Hid (bss ds = (cvs ls).map CV.d) := hS
  clear hS
  have HD : Hid (dn = ds.length) := hdl
  clear hdl
  subst hdn
  go_enter Tryd.func32, Tryd.ntmps32
  go_wp2_with fail
  generalize w.alloc (.cells #[.int .i64 au, .int .i64 rd, .slice ba bn bc, .slice pa pl.length pc] 32) = W0 at hA r0 ⊢
  have d1 : W0.cell? ⟨w.heap.size, 1, none⟩ = some (.int .i64 rd) := cells_at r0 1 _ rfl
  have d3 : W0.cell? ⟨w.heap.size, 3, none⟩ = some (.slice pa pl.length pc) := cells_at r0 3 _ rfl
  have hd0 := hd.below hA
  have hc0 := hc.below hA
  have hp0 := hp.below hA
  have hlt0 : w.heap.size < W0.heap.size := lt_of_heap r0
  clear hd hc hp
  go_loopw [8, 7] (fun i e wr => ∃ m : Nat, m ≤ pl.length ∧ i = .int .i64 m ∧ e = .int .i64 (parTo (cvs ls) rd (bss pl) m) ∧ parTo (cvs ls) rd (bss pl) m ≠ 9 ∧ Below W0.heap.size W0 wr) (fun i _ _ => pl.length - (intOf i).toNat)
  case atStart => exact ⟨0, Nat.zero_le _, rfl, rfl, by rw [parTo]; decide, Below.refl _ _⟩
  case round =>
    obtain ⟨m, hm, rfl, rfl, hno, hbr⟩ := hrel
    replace d1 := (hbr.cell (p := ⟨w.heap.size, 1, none⟩) hlt0).trans d1
    replace d3 := (hbr.cell (p := ⟨w.heap.size, 3, none⟩) hlt0).trans d3
    replace hd0 := hd0.below hbr
    replace hc0 := hc0.below hbr
    replace hp0 := hp0.below hbr
    have hAr := hA.trans (hbr.mono hA.size)
    by_cases hlt : m < pl.length
    · rcases hp0.cells with hcc | ⟨pb, po, rfl, hcc⟩
      · subst hcc; simp at hlt
      have ck := hcc m hlt
      have hx := hp0.each (pl[m]) (List.getElem_mem hlt)
      have hltI : (m : Int) < pl.length := by omega
      have hg := bss_get pl m hlt
      have hlb : m < (bss pl).length := by rw [bss_length]; exact hlt
      have Hn : Hid (pOf (cvs ls) (pl[m]).bs < 0 → parTo (cvs ls) rd (bss pl) (m + 1) = 8) := by
        show _ → _
        intro h
        exact parTo_none _ _ _ m hno (by rw [hg]; exact h)
      have Ho : Hid (¬ pOf (cvs ls) (pl[m]).bs < 0 → (cvAt (cvs ls) (pOf (cvs ls) (pl[m]).bs).toNat).rd ≠ rd - 1 → parF (cvs ls) rd (bss pl) = 9) := by
        show _ → _ → _
        intro h1 h2
        exact parTo_order _ _ _ m (by rw [hg]; exact h1) (by rw [hg]; exact h2) hlb
      have Hk : Hid (¬ pOf (cvs ls) (pl[m]).bs < 0 → (cvAt (cvs ls) (pOf (cvs ls) (pl[m]).bs).toNat).rd = rd - 1 → parTo (cvs ls) rd (bss pl) (m + 1) = parTo (cvs ls) rd (bss pl) m) := by
        show _ → _ → _
        intro h1 h2
        exact parTo_ok _ _ _ m (by rw [hg]; exact h1) (by rw [hg]; exact h2)
      have HN : Hid (parTo (cvs ls) rd (bss pl) m ≠ 9) := hno
      clear hno hg hcc hlb
      generalize pl[m] = p at *
      have hB := pOf_bounds (cvs ls) p.bs
      rw [cvs_length] at hB
      have hcl : ∀ k : Nat, k < ls.length → ∃ sb so, ca = some ⟨sb, so, none⟩ ∧ wr.cell? ⟨sb, so + k * 5 + 1, none⟩ = some (.int .i64 (cvAt (cvs ls) k).rd) := fun k hk => by
        obtain ⟨sb, so, e, _, c1, _⟩ := hc0.at k hk
        exact ⟨sb, so, e, by rw [cvAt_get ls k hk]; exact c1⟩
      have HCL : Hid _ := hcl
      clear hcl
      generalize parTo (cvs ls) rd (bss pl) m = E at *
      go_wp2_with fail
      refine (placeOf_any (cvs ls) ds da _ dc p.bs p.sa _ p.cap wr HD.out HS.out hk2 hd0 rfl hx).mono ?_
      rintro e w1 ⟨he, rfl⟩
      subst he
      dsimp only
      generalize pOf (cvs ls) p.bs = r at *
      by_cases hr : r < 0
      · have He : Hid (parTo (cvs ls) rd (bss pl) (m + 1) = 8) := Hn.out hr
        clear Hn Ho Hk HCL
        obtain rfl : r = -1 := by omega
        go_wp2_with fail
        refine wp_region_held_drew (S := fun w' => w'.cell? ⟨w.heap.size, 1, none⟩ = some (.int .i64 rd)) (by kernel_rfl) d1 (fun hHeld => ?_)
        refine take_dst (i := 0) (d := 24) (v := .int .i64 (-1)) rfl rfl (by kernel_rfl) (by kernel_rfl) (by kernel_rfl) (fun _ _ _ h => h) (Or.inl ⟨by rfl, ?_⟩) hHeld ?_
        · (intro w0 hSw; (try dsimp only at hSw); go_simp)
        simp only [Act.put, List.setIfInBounds_toArray, List.set_cons_zero, List.set_cons_succ]
        refine take_dst (i := 1) (d := 25) (v := .bool false) rfl rfl (by kernel_rfl) (by kernel_rfl) (by kernel_rfl) (fun _ _ _ h => h) (Or.inl ⟨by rfl, ?_⟩) hHeld ?_
        · (intro w0 hSw; (try dsimp only at hSw); go_simp)
        simp only [Act.put, List.setIfInBounds_toArray, List.set_cons_zero, List.set_cons_succ]
        refine take_dst (i := 2) (d := 26) (v := .bool false) rfl rfl (by kernel_rfl) (by kernel_rfl) (by kernel_rfl) (fun _ _ _ h => h) (Or.inl ⟨by rfl, ?_⟩) hHeld ?_
        · (intro w0 hSw; (try dsimp only at hSw); go_simp)
        simp only [Act.put, List.setIfInBounds_toArray, List.set_cons_zero, List.set_cons_succ]
        refine take_dst (i := 3) (d := 27) (v := undef) rfl rfl (by kernel_rfl) (by kernel_rfl) (by kernel_rfl) (fun _ _ _ h => h) (Or.inr ⟨by rfl, rfl⟩) hHeld ?_
        simp only [Act.put, List.setIfInBounds_toArray, List.set_cons_zero, List.set_cons_succ]
        refine take_dst (i := 4) (d := 28) (v := undef) rfl rfl (by kernel_rfl) (by kernel_rfl) (by kernel_rfl) (fun _ _ _ h => h) (Or.inr ⟨by rfl, rfl⟩) hHeld ?_
        simp only [Act.put, List.setIfInBounds_toArray, List.set_cons_zero, List.set_cons_succ]
        refine take_dst (i := 5) (d := 29) (v := undef) rfl rfl (by kernel_rfl) (by kernel_rfl) (by kernel_rfl) (fun _ _ _ h => h) (Or.inr ⟨by rfl, rfl⟩) hHeld ?_
        simp only [Act.put, List.setIfInBounds_toArray, List.set_cons_zero, List.set_cons_succ]
        refine take_dst (i := 6) (d := 30) (v := undef) rfl rfl (by kernel_rfl) (by kernel_rfl) (by kernel_rfl) (fun _ _ _ h => h) (Or.inr ⟨by rfl, rfl⟩) hHeld ?_
        simp only [Act.put, List.setIfInBounds_toArray, List.set_cons_zero, List.set_cons_succ]
        refine take_dst (i := 7) (d := 31) (v := undef) rfl rfl (by kernel_rfl) (by kernel_rfl) (by kernel_rfl) (fun _ _ _ h => h) (Or.inr ⟨by rfl, rfl⟩) hHeld ?_
        simp only [Act.put, List.setIfInBounds_toArray, List.set_cons_zero, List.set_cons_succ]
        refine take_dst (i := 8) (d := 32) (v := undef) rfl rfl (by kernel_rfl) (by kernel_rfl) (by kernel_rfl) (fun _ _ _ h => h) (Or.inr ⟨by rfl, rfl⟩) hHeld ?_
        simp only [Act.put, List.setIfInBounds_toArray, List.set_cons_zero, List.set_cons_succ]
        refine take_dst (i := 9) (d := 33) (v := undef) rfl rfl (by kernel_rfl) (by kernel_rfl) (by kernel_rfl) (fun _ _ _ h => h) (Or.inr ⟨by rfl, rfl⟩) hHeld ?_
        simp only [Act.put, List.setIfInBounds_toArray, List.set_cons_zero, List.set_cons_succ]
        refine take_dst (i := 10) (d := 34) (v := undef) rfl rfl (by kernel_rfl) (by kernel_rfl) (by kernel_rfl) (fun _ _ _ h => h) (Or.inr ⟨by rfl, rfl⟩) hHeld ?_
        simp only [Act.put, List.setIfInBounds_toArray, List.set_cons_zero, List.set_cons_succ]
        refine take_dst (i := 11) (d := 35) (v := undef) rfl rfl (by kernel_rfl) (by kernel_rfl) (by kernel_rfl) (fun _ _ _ h => h) (Or.inr ⟨by rfl, rfl⟩) hHeld ?_
        simp only [Act.put, List.setIfInBounds_toArray, List.set_cons_zero, List.set_cons_succ]
        refine take_dst (i := 12) (d := 36) (v := undef) rfl rfl (by kernel_rfl) (by kernel_rfl) (by kernel_rfl) (fun _ _ _ h => h) (Or.inr ⟨by rfl, rfl⟩) hHeld ?_
        simp only [Act.put, List.setIfInBounds_toArray, List.set_cons_zero, List.set_cons_succ]
        refine take_dst (i := 13) (d := 37) (v := .bool false) rfl rfl (by kernel_rfl) (by kernel_rfl) (by kernel_rfl) (fun _ _ _ h => h) (Or.inl ⟨by rfl, ?_⟩) hHeld ?_
        · (intro w0 hSw; (try dsimp only at hSw); go_simp)
        simp only [Act.put, List.setIfInBounds_toArray, List.set_cons_zero, List.set_cons_succ]
        refine wpAnyH_done (by kernel_rfl) ?_ _
        go_wp2_with fail
        go_roundw
        case rel =>
          have hR : ∃ m' : Nat, m' ≤ pl.length ∧ (Value.int .i64 ((m : Int) + 1)) = .int .i64 m' ∧ (Value.int .i64 8) = .int .i64 (parTo (cvs ls) rd (bss pl) m') ∧ parTo (cvs ls) rd (bss pl) m' ≠ 9 ∧ Below W0.heap.size W0 wr.drew := ⟨m + 1, by omega, by go_num, by rw [He.out], by rw [He.out]; decide, hbr.drew⟩
          first | exact hR | ((repeat apply Exists.intro); exact ⟨hR, rfl⟩)
        case measure => simp [intOf]; omega
      · obtain ⟨k, rfl⟩ : ∃ k : Nat, r = k := ⟨r.toNat, by omega⟩
        obtain ⟨sb, so, rfl, c1⟩ := HCL.out k (by omega)
        simp only [Int.toNat_natCast] at Ho Hk
        clear Hn HCL
        generalize (cvAt (cvs ls) k).rd = y at *
        have hwr : IntKind.i64.wrap (rd - 1) = rd - 1 := by rw [IntKind.wrap_i64]; omega
        by_cases hy : y = rd - 1
        · have He : Hid (parTo (cvs ls) rd (bss pl) (m + 1) = E) := Hk.out (by omega) hy
          subst hy
          clear Hk Ho
          have hwe : (rd - 1 != IntKind.i64.wrap (rd - 1)) = false := by rw [hwr]; simp
          go_wp2_with fail
          go_region_held3 (fun w' => w'.cell? ⟨w.heap.size, 1, none⟩ = some (.int .i64 rd) ∧ w'.cell? ⟨sb, so + k * 5 + 1, none⟩ = some (.int .i64 (rd - 1))) (go_keep) (fail)
          all_goals
            go_wp2_with fail
            go_roundw
            case rel =>
              have hR : ∃ m' : Nat, m' ≤ pl.length ∧ (Value.int .i64 ((m : Int) + 1)) = .int .i64 m' ∧ (Value.int .i64 E) = .int .i64 (parTo (cvs ls) rd (bss pl) m') ∧ parTo (cvs ls) rd (bss pl) m' ≠ 9 ∧ Below W0.heap.size W0 wr.drew := ⟨m + 1, by omega, by go_num, by rw [He.out], by rw [He.out]; exact HN.out, hbr.drew⟩
              first | exact hR | ((repeat apply Exists.intro); exact ⟨hR, rfl⟩)
            case measure => simp [intOf]; omega
        · have He : Hid (parF (cvs ls) rd (bss pl) = 9) := Ho.out (by omega) hy
          clear Hk Ho
          have hwe : (y != IntKind.i64.wrap (rd - 1)) = true := by rw [hwr]; simpa using hy
          go_wp2_with fail
          go_region_held3 (fun w' => w'.cell? ⟨w.heap.size, 1, none⟩ = some (.int .i64 rd) ∧ w'.cell? ⟨sb, so + k * 5 + 1, none⟩ = some (.int .i64 y)) (go_keep) (fail)
          all_goals
            go_wp2_with fail
            go_ret
            exact ⟨ret_int He.out.symm, hAr.drew⟩
    · obtain rfl : m = pl.length := by omega
      have He : Hid (parF (cvs ls) rd (bss pl) = parTo (cvs ls) rd (bss pl) pl.length) := by
        show parTo _ _ _ _ = _
        rw [bss_length]
      clear hno
      generalize parTo (cvs ls) rd (bss pl) pl.length = E at *
      go_wp2_with fail
      go_ret
      exact ⟨ret_int He.out.symm, hAr⟩
end Go.Proofs.YtocclphjpofnoaaDoor
