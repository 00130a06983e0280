/- The document's CertCopy, and where the new lists lie. -/
import Derived.Test.YtgbomdikhidkoaaDoorDagInsertsM48
import Derived.Test.YtgbomdikhidkoaaDoorDgs
import Derived.Test.YtgbomdikhidkoaaDoorDagInsertsM12
import Derived.Test.YtgbomdikhidkoaaDoorDagInsertsM24
import Derived.Test.YtgbomdikhidkoaaDoorDagInsertsM6
import Derived.Test.YtgbomdikhidkoaaDoorDagInsertsM0
import Derived.Deep.CutRange
import Derived.Deep.DeepCutAuto
import Derived.Deep.RegionLaw
namespace Go.Proofs.YtgbomdikhidkoaaDoor
open Go.RowKit

set_option maxRecDepth 100000 in
theorem PartsAt.take {w : World} {sa : Option Addr} {ps : List Part} (h : PartsAt w sa ps) (k : Nat) : PartsAt w sa (ps.take k) := by
  refine ⟨?_, fun p hp => h.each p (List.mem_of_mem_take hp)⟩
  rcases h.cells with h | ⟨sb, so, rfl, hc⟩
  · left; simp [h]
  · refine .inr ⟨sb, so, rfl, fun j hj => ?_⟩
    have hj' : j < ps.length := by simp at hj; omega
    have := hc j hj'
    simpa [List.getElem_take] using this
set_option maxRecDepth 100000 in
set_option maxHeartbeats 2000000 in
theorem dagFault_any (ls : List Ct) (sa : Option Addr) (n cap : Nat) (w : World) (hn : n = ls.length) (hd : DagRd w sa cap ls) :
    Calls Tryd.prog 11 #[.agg #[.slice sa n cap]] w fun e w' => e = .returned (.int .i64 (dagF (cvs ls))) ∧ Below w.heap.size w w' := by
  subst hn
  have hle := hd.le
  have hmx := hd.max
  have hA := (Below.refl w.heap.size w).alloc (Nat.le_refl _) (.cells #[.slice sa ls.length cap] 24)
  have r0 := heap_alloc_new w (.cells #[.slice sa ls.length cap] 24)
  by_cases hlong : 400 < ls.length
  · have hF : Hid (dagF (cvs ls) = 12) := dagF_long _ (by rw [cvs_length]; exact hlong)
    have hI : (400 : Int) < ls.length := by omega
    go_enter Tryd.func11, Tryd.ntmps11
    go_wp2_with fail
    go_ret
    exact ⟨ret_int hF.out.symm, hA⟩
  have hI : ¬ (400 : Int) < ls.length := by omega
  have HC : Hid (∀ W : World, Below w.heap.size w W → CertsAt W sa ls) := by
    show ∀ W, _
    exact fun W hW => hd.certs.below hW
  have HE : Hid (∀ W : World, Below w.heap.size w W → ∀ c ∈ ls, CtRd W c) := by
    show ∀ W, _
    exact fun W hW c hc => (hd.each c hc).below hW
  clear hd
  go_enter Tryd.func11, Tryd.ntmps11
  go_wp2_with fail
  generalize w.alloc (.cells #[.slice sa ls.length cap] 24) = W0 at hA r0 ⊢
  have hlt0 : w.heap.size < W0.heap.size := lt_of_heap r0
  go_loopw [3] (fun j wr => ∃ m : Nat, m ≤ ls.length ∧ j = .int .i64 m ∧ (∀ j, j < m → (cvAt (cvs ls) j).f = 0) ∧ Below W0.heap.size W0 wr) (fun j _ => ls.length - (intOf j).toNat)
  case atStart => exact ⟨0, Nat.zero_le _, rfl, (fun j hj => by omega), Below.refl _ _⟩
  case round =>
    obtain ⟨m, hm, rfl, hno, hbr⟩ := hrel
    have HNO : Hid (∀ j, j < m → (cvAt (cvs ls) j).f = 0) := hno
    clear hno
    have hAr := hA.trans (hbr.mono hA.size)
    have s0 := (hbr.block _ hlt0).trans r0
    have b0 : wr.cell? ⟨w.heap.size, 0, none⟩ = some (.slice sa ls.length cap) := cells_at s0 0 _ rfl
    by_cases hlt : m < ls.length
    · obtain ⟨sb, so, rfl, c0, c1, c2, c3, c4⟩ := (HC.out wr hAr).at m hlt
      have hR := HE.out wr hAr (ls[m]) (List.getElem_mem hlt)
      have hltI : (m : Int) < ls.length := by omega
      have hB : Hid ((ls[m]).v.f ≠ 0 → dagF (cvs ls) = 12) := by
        show _ → _
        intro h
        exact dagF_bad _ m (by rw [cvs_length]; exact hlt) (badC_first _ _ (by rw [cvAt_get ls m hlt]; exact h))
      have hN : Hid ((ls[m]).v.f = 0 → ∀ j, j < m + 1 → (cvAt (cvs ls) j).f = 0) := by
        show _ → _
        intro h j hj
        rcases Nat.lt_or_ge j m with g | g
        · exact HNO.out j g
        · obtain rfl : j = m := by omega
          rw [cvAt_get ls j hlt]; exact h
      have HK := certFault_any (ls[m]).au (ls[m]).rd (ls[m]).ba (ls[m]).bc (ls[m]).bl (ls[m]).pa (ls[m]).pc (ls[m]).pl (ls[m]).va (ls[m]).vc (ls[m]).vl wr hR.rb.list hR.rp.list hR.nums.ints (by have := hR.nums.le; have := hR.nums.reach; omega)
      rw [Ct.f_v] at HK
      clear hR
      generalize ls[m] = s at *
      go_wp2_with fail
      refine HK.mono ?_
      rintro e w1 ⟨he, hb1⟩
      subst he
      dsimp only
      have hB1 := hbr.trans (hb1.mono hbr.size)
      clear HK
      generalize s.v.f = x at *
      by_cases hx : x = 0
      · have hn := hN.out hx
        have HNN : Hid _ := hn
        clear hB hN hn
        subst hx
        go_wp2_with fail
        go_roundw
        case rel =>
          have hR : ∃ m' : Nat, m' ≤ ls.length ∧ (Value.int .i64 ((m : Int) + 1)) = .int .i64 m' ∧ (∀ j, j < m' → (cvAt (cvs ls) j).f = 0) ∧ Below W0.heap.size W0 w1 := ⟨m + 1, by omega, by go_num, HNN.out, hB1⟩
          first | exact hR | ((repeat apply Exists.intro); exact ⟨hR, rfl⟩)
        case measure => simp [intOf]; omega
      · have hn : Hid (dagF (cvs ls) = 12) := hB.out hx
        clear hB hN
        have hxn : (x != 0) = true := by simpa using hx
        go_wp2_with fail
        go_ret
        exact ⟨ret_int hn.out.symm, hA.trans (hB1.mono hA.size)⟩
    · obtain rfl : m = ls.length := by omega
      have HF : Hid (∀ c ∈ ls, c.v.f = 0) := by
        show ∀ c ∈ ls, _
        intro c hc
        obtain ⟨j, hj, rfl⟩ := List.getElem_of_mem hc
        rw [← cvAt_get ls j hj]; exact HNO.out j hj
      have HD := digestsOf_any ls sa _ cap wr rfl (by omega) (HC.out wr hAr) (HE.out wr hAr) HF.out
      clear HNO
      go_wp2_with fail
      refine HD.mono ?_
      rintro e W1 ⟨ra, rc, ds, he, hS, hL, hbW⟩
      subst he
      dsimp only
      clear HD
      have HS : Hid (bss ds = (cvs ls).map CV.d) := hS
      have hdl : ds.length = ls.length := by rw [digs_length hS, cvs_length]
      have HL : Hid (ds.length = ls.length) := hdl
      clear hS hdl
      have hAW := hAr.trans (hbW.mono hAr.size)
      have sW := (hbW.block _ (lt_of_heap s0)).trans s0
      have hltW : w.heap.size < W1.heap.size := lt_of_heap sW
      have hrcl := hL.le
      have hrcm := hL.max
      rw [HL.out] at hrcl
      clear b0 s0 hbr hAr hbW r0 hA
      go_wp2_with fail
      go_loopw [5] (fun j wq => ∃ m : Nat, m ≤ ls.length ∧ j = .int .i64 m ∧ (∀ j, j < m → badC (cvs ls) j = false) ∧ Below W1.heap.size W1 wq) (fun j _ => ls.length - (intOf j).toNat)
      case atStart => exact ⟨0, Nat.zero_le _, rfl, (fun j hj => by omega), Below.refl _ _⟩
      case round =>
        obtain ⟨m, hm, rfl, hno, hbq⟩ := hrel
        have HNO : Hid (∀ j, j < m → badC (cvs ls) j = false) := hno
        clear hno
        have hAq := hAW.trans (hbq.mono hAW.size)
        have s0 := (hbq.block _ hltW).trans sW
        have b0 : wr.cell? ⟨w.heap.size, 0, none⟩ = some (.slice sa ls.length cap) := cells_at s0 0 _ rfl
        by_cases hlt : m < ls.length
        · obtain ⟨sb, so, rfl, c0, c1, c2, c3, _⟩ := (HC.out wr hAq).at m hlt
          obtain ⟨db, dof, rfl⟩ : ∃ db dof, ra = some ⟨db, dof, none⟩ := by
            rcases hL.parts.cells with h | ⟨db, dof, e, _⟩
            · have := HL.out; rw [h] at this; simp at this; omega
            · exact ⟨db, dof, e⟩
          have hLq := hL.below hbq
          have hR := HE.out wr hAq (ls[m]) (List.getElem_mem hlt)
          have hf := HF.out (ls[m]) (List.getElem_mem hlt)
          have hltI : (m : Int) < ls.length := by omega
          have hmc : (m : Int) ≤ cap := by omega
          have hmr : (m : Int) ≤ rc := by omega
          have hAt := badC_eq ls m hlt hf
          have hB : Hid (takF (cvs (ls.take m)) (ls[m]).au (ls[m]).rd (bss (ls[m]).pl) ≠ 0 → dagF (cvs ls) = 12) := by
            show _ → _
            intro h
            exact dagF_bad _ m (by rw [cvs_length]; exact hlt) (by rw [hAt]; simpa using h)
          have hN : Hid (takF (cvs (ls.take m)) (ls[m]).au (ls[m]).rd (bss (ls[m]).pl) = 0 → ∀ j, j < m + 1 → badC (cvs ls) j = false) := by
            show _ → _
            intro h j hj
            rcases Nat.lt_or_ge j m with g | g
            · exact HNO.out j g
            · obtain rfl : j = m := by omega
              rw [hAt]; simpa using h
          have hlen : (ls.take m).length = m := by simp; omega
          obtain ⟨y1, y2, y3, y4, _, _⟩ := headerF_ok (certF_head (vl := (ls[m]).vl) (by rw [Ct.f_v]; exact hf))
          have HA : Hid (∀ W : World, Below wr.heap.size wr W → Calls Tryd.prog 31 #[.slice (some ⟨sb, so, none⟩) m cap, .int .i64 (ls[m]).au, .int .i64 (ls[m]).rd] W fun e w' => e = .returned (.int .i64 (cOf (cvs (ls.take m)) (ls[m]).au (ls[m]).rd)) ∧ W = w') := by
            show ∀ W, _
            intro W hW
            exact certOf_any (ls.take m) (some ⟨sb, so, none⟩) m cap (ls[m]).au (ls[m]).rd W hlen.symm (by omega) (((HC.out wr hAq).take m).below hW)
          have HP : Hid (∀ W : World, Below wr.heap.size wr W → Calls Tryd.prog 32 #[.slice (some ⟨sb, so, none⟩) m cap, .slice (some ⟨db, dof, none⟩) m rc, .agg #[.int .i64 (ls[m]).au, .int .i64 (ls[m]).rd, .slice (ls[m]).ba (ls[m]).bl.length (ls[m]).bc, .slice (ls[m]).pa (ls[m]).pl.length (ls[m]).pc]] W fun e w' => e = .returned (.int .i64 (parF (cvs (ls.take m)) (ls[m]).rd (bss (ls[m]).pl))) ∧ Below W.heap.size W w') := by
            show ∀ W, _
            intro W hW
            exact parentsFault_any (ls.take m) (some ⟨sb, so, none⟩) m cap (ds.take m) (some ⟨db, dof, none⟩) m rc (ls[m]).au (ls[m]).rd (ls[m]).ba _ (ls[m]).bc (ls[m]).pl (ls[m]).pa _ (ls[m]).pc W hlen.symm hlen.symm rfl (by have := HS.out; rw [cvs_take, List.map_take, ← this]; simp [bss, List.map_take]) (by omega) y4 y2 ((hLq.parts.take m).below hW) (((HC.out wr hAq).take m).below hW) (hR.rp.list.parts.below hW)
          have HT : Hid (takF (cvs (ls.take m)) (ls[m]).au (ls[m]).rd (bss (ls[m]).pl) = if 0 ≤ cOf (cvs (ls.take m)) (ls[m]).au (ls[m]).rd then 7 else parF (cvs (ls.take m)) (ls[m]).rd (bss (ls[m]).pl)) := rfl
          have hcb := cOf_bounds (cvs (ls.take m)) (ls[m]).au (ls[m]).rd
          rw [cvs_length, hlen] at hcb
          clear hAt hR hf hLq y1 y2 y3 y4 hlen
          generalize hsg : ls[m] = s at *
          clear hsg
          generalize takF (cvs (ls.take m)) s.au s.rd (bss s.pl) = T at *
          generalize cOf (cvs (ls.take m)) s.au s.rd = C at *
          generalize parF (cvs (ls.take m)) s.rd (bss s.pl) = F at *
          have hA2 := (Below.refl wr.heap.size wr).alloc (Nat.le_refl _) (.cells #[.int .i64 s.au, .int .i64 s.rd, .slice s.ba s.bl.length s.bc, .slice s.pa s.pl.length s.pc] 32)
          have q0 := heap_alloc_new wr (.cells #[.int .i64 s.au, .int .i64 s.rd, .slice s.ba s.bl.length s.bc, .slice s.pa s.pl.length s.pc] 32)
          have z0 := heap_keep (o := .cells #[.int .i64 s.au, .int .i64 s.rd, .slice s.ba s.bl.length s.bc, .slice s.pa s.pl.length s.pc] 32) s0
          go_wp2_with fail
          generalize wr.alloc (.cells #[.int .i64 s.au, .int .i64 s.rd, .slice s.ba s.bl.length s.bc, .slice s.pa s.pl.length s.pc] 32) = W2 at hA2 q0 z0 ⊢
          have k0 : W2.cell? ⟨wr.heap.size, 0, none⟩ = some (.int .i64 s.au) := cells_at q0 0 _ rfl
          have k1 : W2.cell? ⟨wr.heap.size, 1, none⟩ = some (.int .i64 s.rd) := cells_at q0 1 _ rfl
          have k2 : W2.cell? ⟨wr.heap.size, 2, none⟩ = some (.slice s.ba s.bl.length s.bc) := cells_at q0 2 _ rfl
          have k3 : W2.cell? ⟨wr.heap.size, 3, none⟩ = some (.slice s.pa s.pl.length s.pc) := cells_at q0 3 _ rfl
          have k4 : W2.cell? ⟨w.heap.size, 0, none⟩ = some (.slice (some ⟨sb, so, none⟩) ls.length cap) := cells_at z0 0 _ rfl
          have hblt : wr.heap.size < W2.heap.size := lt_of_heap q0
          have hblt0 : w.heap.size < W2.heap.size := lt_of_heap z0
          clear c0 c1 c2 c3 b0 q0 z0 s0
          by_cases hC : 0 ≤ C
          · have h12 : Hid (dagF (cvs ls) = 12) := hB.out (by rw [HT.out, if_pos hC]; decide)
            clear hB hN HT HP
            have hCn : decide (0 ≤ C) = true := by simpa using hC
            refine wp_region_held_drew (S := fun w' => w'.cell? ⟨wr.heap.size, 0, none⟩ = some (.int .i64 s.au) ∧ w'.cell? ⟨wr.heap.size, 1, none⟩ = some (.int .i64 s.rd) ∧ w'.cell? ⟨w.heap.size, 0, none⟩ = some (.slice (some ⟨sb, so, none⟩) ls.length cap)) (by kernel_rfl) ⟨k0, k1, k4⟩ (fun hHeld => ?_)
            refine take_dst (i := 0) (d := 41) (v := .pointer (some ⟨w.heap.size, 0, none⟩)) rfl rfl (by kernel_rfl) (by kernel_rfl) (by kernel_rfl) (fun _ _ _ h => h) (Or.inl ⟨by rfl, ?_⟩) hHeld ?_
            · (intro w0 hSw; (try dsimp only at hSw); go_simp)
            simp only [Act.put, List.setIfInBounds_toArray, List.set_cons_zero, List.set_cons_succ]
            refine take_dst (i := 1) (d := 42) (v := .slice (some ⟨sb, so, none⟩) ls.length cap) rfl rfl (by kernel_rfl) (by kernel_rfl) (by kernel_rfl) (fun _ _ _ h => h) (Or.inl ⟨by rfl, ?_⟩) hHeld ?_
            · (intro w0 hSw; (try dsimp only at hSw); go_simp)
            simp only [Act.put, List.setIfInBounds_toArray, List.set_cons_zero, List.set_cons_succ]
            refine take_dst (i := 2) (d := 43) (v := .int .i64 m) rfl rfl (by kernel_rfl) (by kernel_rfl) (by kernel_rfl) (fun _ _ _ h => h) (Or.inl ⟨by rfl, ?_⟩) hHeld ?_
            · (intro w0 hSw; (try dsimp only at hSw); go_simp)
            simp only [Act.put, List.setIfInBounds_toArray, List.set_cons_zero, List.set_cons_succ]
            refine take_dst (i := 3) (d := 44) (v := .slice (some ⟨sb, so, none⟩) m cap) rfl rfl (by kernel_rfl) (by kernel_rfl) (by kernel_rfl) (fun _ _ _ h => h) (Or.inl ⟨by rfl, ?_⟩) hHeld ?_
            · (intro w0 hSw; (try dsimp only at hSw); go_simp)
            simp only [Act.put, List.setIfInBounds_toArray, List.set_cons_zero, List.set_cons_succ]
            refine take_dst (i := 4) (d := 45) (v := .pointer (some ⟨wr.heap.size, 0, none⟩)) rfl rfl (by kernel_rfl) (by kernel_rfl) (by kernel_rfl) (fun _ _ _ h => h) (Or.inl ⟨by rfl, ?_⟩) hHeld ?_
            · (intro w0 hSw; (try dsimp only at hSw); go_simp)
            simp only [Act.put, List.setIfInBounds_toArray, List.set_cons_zero, List.set_cons_succ]
            refine take_dst (i := 5) (d := 46) (v := .int .i64 s.au) rfl rfl (by kernel_rfl) (by kernel_rfl) (by kernel_rfl) (fun _ _ _ h => h) (Or.inl ⟨by rfl, ?_⟩) hHeld ?_
            · (intro w0 hSw; (try dsimp only at hSw); go_simp)
            simp only [Act.put, List.setIfInBounds_toArray, List.set_cons_zero, List.set_cons_succ]
            refine take_dst (i := 6) (d := 47) (v := .pointer (some ⟨wr.heap.size, 1, none⟩)) rfl rfl (by kernel_rfl) (by kernel_rfl) (by kernel_rfl) (fun _ _ _ h => h) (Or.inl ⟨by rfl, ?_⟩) hHeld ?_
            · (intro w0 hSw; (try dsimp only at hSw); go_simp)
            simp only [Act.put, List.setIfInBounds_toArray, List.set_cons_zero, List.set_cons_succ]
            refine take_dst (i := 7) (d := 48) (v := .int .i64 s.rd) rfl rfl (by kernel_rfl) (by kernel_rfl) (by kernel_rfl) (fun _ _ _ h => h) (Or.inl ⟨by rfl, ?_⟩) hHeld ?_
            · (intro w0 hSw; (try dsimp only at hSw); go_simp)
            simp only [Act.put, List.setIfInBounds_toArray, List.set_cons_zero, List.set_cons_succ]
            refine wpAnyH_ready (rs := [8]) (by kernel_rfl) (by simp) (AllReadyH.cons rfl (fun K hK => ?_) AllReadyH.nil)
            refine step_calls_dst rfl 49 rfl 31 [.tmp 44, .tmp 46, .tmp 48] #[22, 3, 3] rfl [.slice (some ⟨sb, so, none⟩) m cap, .int .i64 s.au, .int .i64 s.rd] rfl (enters_of Tryd.func31 (by kernel_rfl) rfl) (fun v w' => v = .int .i64 C ∧ w' = W2.drew) ((HA.out _ hA2.drew).mono (fun e w2 h => ⟨_, h.1, rfl, h.2.symm⟩)) ?_
            rintro v w2 ⟨rfl, rfl⟩
            refine hK.out _ _ ⟨k0, k1, k4⟩ (fun hHeld => ?_)
            simp only [Act.put, List.setIfInBounds_toArray, List.set_cons_zero, List.set_cons_succ]
            refine take_dst (i := 9) (d := 50) (v := .bool true) rfl rfl (by kernel_rfl) (by kernel_rfl) (by kernel_rfl) (fun _ _ _ h => h) (Or.inl ⟨by rfl, ?_⟩) hHeld ?_
            · (intro w0 hSw; (try dsimp only at hSw); go_simp)
            simp only [Act.put, List.setIfInBounds_toArray, List.set_cons_zero, List.set_cons_succ]
            refine take_dst (i := 10) (d := 51) (v := .bool true) rfl rfl (by kernel_rfl) (by kernel_rfl) (by kernel_rfl) (fun _ _ _ h => h) (Or.inl ⟨by rfl, ?_⟩) hHeld ?_
            · (intro w0 hSw; (try dsimp only at hSw); go_simp)
            simp only [Act.put, List.setIfInBounds_toArray, List.set_cons_zero, List.set_cons_succ]
            refine take_dst (i := 11) (d := 52) (v := undef) rfl rfl (by kernel_rfl) (by kernel_rfl) (by kernel_rfl) (fun _ _ _ h => h) (Or.inr ⟨by rfl, rfl⟩) hHeld ?_
            simp only [Act.put, List.setIfInBounds_toArray, List.set_cons_zero, List.set_cons_succ]
            refine take_dst (i := 12) (d := 53) (v := undef) rfl rfl (by kernel_rfl) (by kernel_rfl) (by kernel_rfl) (fun _ _ _ h => h) (Or.inr ⟨by rfl, rfl⟩) hHeld ?_
            simp only [Act.put, List.setIfInBounds_toArray, List.set_cons_zero, List.set_cons_succ]
            refine take_dst (i := 13) (d := 54) (v := undef) rfl rfl (by kernel_rfl) (by kernel_rfl) (by kernel_rfl) (fun _ _ _ h => h) (Or.inr ⟨by rfl, rfl⟩) hHeld ?_
            simp only [Act.put, List.setIfInBounds_toArray, List.set_cons_zero, List.set_cons_succ]
            refine take_dst (i := 14) (d := 55) (v := undef) rfl rfl (by kernel_rfl) (by kernel_rfl) (by kernel_rfl) (fun _ _ _ h => h) (Or.inr ⟨by rfl, rfl⟩) hHeld ?_
            simp only [Act.put, List.setIfInBounds_toArray, List.set_cons_zero, List.set_cons_succ]
            refine take_dst (i := 15) (d := 56) (v := undef) rfl rfl (by kernel_rfl) (by kernel_rfl) (by kernel_rfl) (fun _ _ _ h => h) (Or.inr ⟨by rfl, rfl⟩) hHeld ?_
            simp only [Act.put, List.setIfInBounds_toArray, List.set_cons_zero, List.set_cons_succ]
            refine take_dst (i := 16) (d := 57) (v := undef) rfl rfl (by kernel_rfl) (by kernel_rfl) (by kernel_rfl) (fun _ _ _ h => h) (Or.inr ⟨by rfl, rfl⟩) hHeld ?_
            simp only [Act.put, List.setIfInBounds_toArray, List.set_cons_zero, List.set_cons_succ]
            refine take_dst (i := 17) (d := 58) (v := undef) rfl rfl (by kernel_rfl) (by kernel_rfl) (by kernel_rfl) (fun _ _ _ h => h) (Or.inr ⟨by rfl, rfl⟩) hHeld ?_
            simp only [Act.put, List.setIfInBounds_toArray, List.set_cons_zero, List.set_cons_succ]
            refine take_dst (i := 18) (d := 59) (v := undef) rfl rfl (by kernel_rfl) (by kernel_rfl) (by kernel_rfl) (fun _ _ _ h => h) (Or.inr ⟨by rfl, rfl⟩) hHeld ?_
            simp only [Act.put, List.setIfInBounds_toArray, List.set_cons_zero, List.set_cons_succ]
            refine take_dst (i := 19) (d := 60) (v := undef) rfl rfl (by kernel_rfl) (by kernel_rfl) (by kernel_rfl) (fun _ _ _ h => h) (Or.inr ⟨by rfl, rfl⟩) hHeld ?_
            simp only [Act.put, List.setIfInBounds_toArray, List.set_cons_zero, List.set_cons_succ]
            refine take_dst (i := 20) (d := 61) (v := undef) rfl rfl (by kernel_rfl) (by kernel_rfl) (by kernel_rfl) (fun _ _ _ h => h) (Or.inr ⟨by rfl, rfl⟩) hHeld ?_
            simp only [Act.put, List.setIfInBounds_toArray, List.set_cons_zero, List.set_cons_succ]
            refine take_dst (i := 21) (d := 62) (v := .bool true) rfl rfl (by kernel_rfl) (by kernel_rfl) (by kernel_rfl) (fun _ _ _ h => h) (Or.inl ⟨by rfl, ?_⟩) hHeld ?_
            · (intro w0 hSw; (try dsimp only at hSw); go_simp)
            simp only [Act.put, List.setIfInBounds_toArray, List.set_cons_zero, List.set_cons_succ]
            refine wpAnyH_done (by kernel_rfl) ?_ _
            go_wp2_with fail
            go_ret
            exact ⟨ret_int h12.out.symm, (hAq.trans (hA2.mono hAq.size)).drew⟩
          · have HT' : Hid (T = F) := by
              show _ = _
              rw [HT.out, if_neg hC]
            obtain rfl : C = -1 := by omega
            clear HT hC
            by_cases hx : F = 0
            · have HN : Hid (∀ j, j < m + 1 → badC (cvs ls) j = false) := hN.out (by rw [HT'.out]; exact hx)
              clear hN hB HT'
              subst hx
              go_region_held3 (fun w' => w'.cell? ⟨wr.heap.size, 0, none⟩ = some (.int .i64 s.au) ∧ w'.cell? ⟨wr.heap.size, 1, none⟩ = some (.int .i64 s.rd) ∧ w'.cell? ⟨wr.heap.size, 2, none⟩ = some (.slice s.ba s.bl.length s.bc) ∧ w'.cell? ⟨wr.heap.size, 3, none⟩ = some (.slice s.pa s.pl.length s.pc) ∧ w'.cell? ⟨w.heap.size, 0, none⟩ = some (.slice (some ⟨sb, so, none⟩) ls.length cap)) (go_keep) (first | (go_at_call 32; refine (HP.out _ hA2.drew).mono ?_; rintro e w3 ⟨rfl, hb3⟩; have hb4 : Below W2.heap.size W2 w3 := below_drew hb3; have e0 := (hb4.cell (p := ⟨wr.heap.size, 0, none⟩) hblt).trans k0; have e1 := (hb4.cell (p := ⟨wr.heap.size, 1, none⟩) hblt).trans k1; have e2 := (hb4.cell (p := ⟨wr.heap.size, 2, none⟩) hblt).trans k2; have e3 := (hb4.cell (p := ⟨wr.heap.size, 3, none⟩) hblt).trans k3; have e4 := (hb4.cell (p := ⟨w.heap.size, 0, none⟩) hblt0).trans k4) | (go_at_call 31; refine (HA.out _ hA2.drew).mono ?_; rintro e w2 ⟨rfl, rfl⟩))
              all_goals
                have hbC := hbq.trans ((hA2.trans (hb4.mono hA2.size)).mono hbq.size)
                go_wp2_with fail
                go_roundw
                case rel =>
                  have hR : ∃ m' : Nat, m' ≤ ls.length ∧ (Value.int .i64 ((m : Int) + 1)) = .int .i64 m' ∧ (∀ j, j < m' → badC (cvs ls) j = false) ∧ Below W1.heap.size W1 w3 := ⟨m + 1, by omega, by go_num, HN.out, hbC⟩
                  first | exact hR | ((repeat apply Exists.intro); exact ⟨hR, rfl⟩)
                case measure => simp [intOf]; omega
            · have h12 : Hid (dagF (cvs ls) = 12) := hB.out (by rw [HT'.out]; exact hx)
              clear hN hB HT'
              have hxn : (F != 0) = true := by simpa using hx
              go_region_held3 (fun w' => w'.cell? ⟨wr.heap.size, 0, none⟩ = some (.int .i64 s.au) ∧ w'.cell? ⟨wr.heap.size, 1, none⟩ = some (.int .i64 s.rd) ∧ w'.cell? ⟨wr.heap.size, 2, none⟩ = some (.slice s.ba s.bl.length s.bc) ∧ w'.cell? ⟨wr.heap.size, 3, none⟩ = some (.slice s.pa s.pl.length s.pc) ∧ w'.cell? ⟨w.heap.size, 0, none⟩ = some (.slice (some ⟨sb, so, none⟩) ls.length cap)) (go_keep) (first | (go_at_call 32; refine (HP.out _ hA2.drew).mono ?_; rintro e w3 ⟨rfl, hb3⟩; have hb4 : Below W2.heap.size W2 w3 := below_drew hb3; have e0 := (hb4.cell (p := ⟨wr.heap.size, 0, none⟩) hblt).trans k0; have e1 := (hb4.cell (p := ⟨wr.heap.size, 1, none⟩) hblt).trans k1; have e2 := (hb4.cell (p := ⟨wr.heap.size, 2, none⟩) hblt).trans k2; have e3 := (hb4.cell (p := ⟨wr.heap.size, 3, none⟩) hblt).trans k3; have e4 := (hb4.cell (p := ⟨w.heap.size, 0, none⟩) hblt0).trans k4) | (go_at_call 31; refine (HA.out _ hA2.drew).mono ?_; rintro e w2 ⟨rfl, rfl⟩))
              all_goals
                have hbC := hAq.trans ((hA2.trans (hb4.mono hA2.size)).mono hAq.size)
                go_wp2_with fail
                go_ret
                exact ⟨ret_int h12.out.symm, hbC⟩
        · obtain rfl : m = ls.length := by omega
          have hF : Hid (dagF (cvs ls) = 0) := dagF_ok _ (by rw [cvs_length]; omega) (fun k hk => HNO.out k (by rw [cvs_length] at hk; exact hk))
          clear HNO
          go_wp2_with fail
          go_ret
          exact ⟨ret_int hF.out.symm, hAq⟩
end Go.Proofs.YtgbomdikhidkoaaDoor

namespace Go.Proofs.YtgbomdikhidkoaaDoor
open Go.RowKit

set_option maxRecDepth 100000 in
set_option maxHeartbeats 1000000 in
theorem digestsAt_any (ls : List Ct) (sa : Option Addr) (cap : Nat) (rd : Int) (w : World) (hl4 : ls.length ≤ 400) (hc : CertsAt w sa ls) (he : ∀ c ∈ ls, CtRd w c) (hf : ∀ c ∈ ls, c.v.f = 0) :
    Calls Tryd.prog 47 #[.agg #[.slice sa ls.length cap], .int .i64 rd] w fun e w' => ∃ ra rc qs, e = .returned (.slice ra (List.length qs) rc) ∧ bss qs = dgF (cvs ls) rd ∧ ListAt w' ra rc qs ∧ Below w.heap.size w w' := by
  obtain ⟨i, hi, hz0, hz1, hz2⟩ := info_parts infoBs
  have HE : Hid (∀ c ∈ ls, CtRd w c) := he
  have HF : Hid (∀ c ∈ ls, c.v.f = 0) := hf
  clear he hf
  have hA : Below w.heap.size w (w.alloc (.cells #[.slice sa ls.length cap] 24)) := (Below.refl _ _).alloc (Nat.le_refl _) _
  have r0 := heap_alloc_new w (.cells #[.slice sa ls.length cap] 24)
  go_enter Tryd.func47, Tryd.ntmps47
  go_wp2_with fail
  generalize w.alloc (.cells #[.slice sa ls.length cap] 24) = W0 at hA r0 ⊢
  have hlt0 : w.heap.size < W0.heap.size := lt_of_heap r0
  go_loopw [6, 5] (fun j v wr => ∃ (m : Nat) (qs : List Part), m ≤ 4 ∧ j = .int .i64 m ∧ bss qs = dgTo (cvs ls) rd m ∧ wr.ownsRow W0.heap.size 29 1 v qs.length (pv qs) ∧ Apart wr W0.heap.size v qs ∧ Below W0.heap.size W0 wr) (fun j _ _ => 4 - (intOf j).toNat)
  case atStart => exact ⟨0, [], Nat.zero_le _, rfl, rfl, World.ownsRow_nil _ _ _ _, (fun p hp => by cases hp), Below.refl _ _⟩
  case round =>
    obtain ⟨m, qs, hm, rfl, hS, ho, hap, hb⟩ := hrel
    have hAr := hA.trans (hb.mono hA.size)
    have s0 := (hb.block _ hlt0).trans r0
    have b0 : wr.cell? ⟨w.heap.size, 0, none⟩ = some (.slice sa ls.length cap) := cells_at s0 0 _ rfl
    have hml : qs.length ≤ m := by
      have := congrArg List.length hS
      rw [bss_length] at this
      rw [this]; exact dgTo_length _ _ _
    by_cases hlt : m < 4
    · have hltI : (m : Int) < 4 := by omega
      have Hy : Hid (0 ≤ cOf (cvs ls) m rd → dgTo (cvs ls) rd (m + 1) = bss qs ++ [(cvAt (cvs ls) (cOf (cvs ls) m rd).toNat).d]) := by
        show _ → _
        intro h
        rw [dgTo, if_pos h, hS]
      have Hn : Hid (¬ 0 ≤ cOf (cvs ls) m rd → bss qs = dgTo (cvs ls) rd (m + 1)) := by
        show _ → _
        intro h
        rw [dgTo, if_neg h, hS]
      have hB := cOf_bounds (cvs ls) m rd
      rw [cvs_length] at hB
      clear hS
      go_wp2_with fail
      refine (certOf_any ls sa _ cap m rd wr rfl (by omega) (hc.below hAr)).mono ?_
      rintro e w1 ⟨he, rfl⟩
      subst he
      dsimp only
      generalize cOf (cvs ls) m rd = r at *
      by_cases hr : 0 ≤ r
      · obtain ⟨k, rfl⟩ : ∃ k : Nat, r = k := ⟨r.toNat, by omega⟩
        have hk : k < ls.length := by omega
        have hkI : (k : Int) < ls.length := by omega
        have HX := Hy.out hr
        rw [Int.toNat_natCast, cvAt_get ls k hk, ← Ct.d_v] at HX
        have HY : Hid (dgTo (cvs ls) rd (m + 1) = bss qs ++ [tagD 2 (headB (ls[k]).au (ls[k]).rd (ls[k]).bl (ls[k]).pl)]) := HX
        clear Hy Hn HX
        obtain ⟨sb, so, rfl, c0, c1, c2, c3, _⟩ := (hc.below hAr).at k hk
        have hR := (HE.out (ls[k]) (List.getElem_mem hk)).below hAr
        have hF0 := HF.out (ls[k]) (List.getElem_mem hk)
        have hH : headerF (ls[k]).au (ls[k]).rd (ls[k]).bl (ls[k]).pl = 0 := certF_head (vl := (ls[k]).vl) (by rw [Ct.f_v]; exact hF0)
        clear hF0
        generalize ls[k] = s at *
        have HD := rHeaderDigest_new s.au s.rd s.ba _ s.bc s.bl s.pa _ s.pc s.pl wr rfl rfl hR.rb.list hR.rp.list hR.ub hR.up hH
        clear hR hH
        go_wp2_with fail
        refine HD.mono ?_
        rintro e w2 ⟨g, gc, he, hs2, hb2, hge⟩
        subst he
        dsimp only
        have h32 : (tagD 2 (headB s.au s.rd s.bl s.pl)).length = 32 := tagD_length _ _
        have hob := owns_keep ho hb2
        have hB2 := hb.trans (hb2.mono hb.size)
        have hlt2 : g < w2.heap.size := slice_block_lt hs2 (by intro h; rw [h] at h32; simp at h32) g 0 rfl
        clear HD
        generalize tagD 2 (headB s.au s.rd s.bl s.pl) = D at *
        have H32 : Hid (D.length = 32) := h32
        clear h32
        go_wp2_with (at_builtin; refine wpList_append_own_at _ rfl _ _ 30 rfl W0.heap.size 29 i (.slice none 0 0) 1 24 Tryd.underlying30 hi hz0 hz1 hz2 rfl (by decide) _ qs.length _ rfl (World.ownsRow.alloc hob _) ⟨w2.heap.size, 0, none⟩ 1 1 [.slice (some ⟨g, 0, none⟩) 32 gc] rfl rfl (cells_new _ _ _) (by intro u hu; simp at hu; subst hu; rfl) (by unfold maxLen; omega) (by omega) (le_alloc hB2.size _) ?_; intro v1 w3 ho3 hg3 _ hat)
        have G := Grew.of hg3 hat
        have hap3 := hap.more_at (q := ⟨some ⟨g, 0, none⟩, gc, D⟩) hb.size ho hb2 (fun sb so e => by cases e; exact ⟨hge, hlt2⟩) hs2 G
        have hB3 := Below.grown (hB2.alloc hB2.size _) hg3 (le_alloc hB2.size _) (fun q e => (hob.lt q e).1)
        go_roundw
        case rel =>
          have hR : ∃ (m' : Nat) (qs' : List Part), m' ≤ 4 ∧ (Value.int .i64 ((m : Int) + 1)) = .int .i64 m' ∧ bss qs' = dgTo (cvs ls) rd m' ∧ w3.ownsRow W0.heap.size 29 1 v1 qs'.length (pv qs') ∧ Apart w3 W0.heap.size v1 qs' ∧ Below W0.heap.size W0 w3 :=
            ⟨m + 1, qs ++ [⟨some ⟨g, 0, none⟩, gc, D⟩], by omega, by go_num, by rw [HY.out]; simp [bss], by simpa [pv, Part.val, H32.out] using ho3, hap3, hB3⟩
          first | exact hR | ((repeat apply Exists.intro); exact ⟨hR, rfl⟩)
        case measure => simp [intOf]; omega
      · have HY : Hid (bss qs = dgTo (cvs ls) rd (m + 1)) := Hn.out (by omega)
        obtain rfl : r = -1 := by omega
        clear Hy Hn
        go_wp2_with fail
        go_roundw
        case rel =>
          have hR : ∃ (m' : Nat) (qs' : List Part), m' ≤ 4 ∧ (Value.int .i64 ((m : Int) + 1)) = .int .i64 m' ∧ bss qs' = dgTo (cvs ls) rd m' ∧ wr.ownsRow W0.heap.size 29 1 u5 qs'.length (pv qs') ∧ Apart wr W0.heap.size u5 qs' ∧ Below W0.heap.size W0 wr :=
            ⟨m + 1, qs, by omega, by go_num, HY.out, ho, hap, hb⟩
          first | exact hR | ((repeat apply Exists.intro); exact ⟨hR, rfl⟩)
        case measure => simp [intOf]; omega
    · obtain rfl : m = 4 := by omega
      have HM : Hid (bss qs = dgF (cvs ls) rd) := hS
      clear hS
      obtain ⟨ra, rc, hv, hl, hL, hfr⟩ := listAt_of_owns ho hap
      subst hv
      have hLL := hL (by omega)
      go_wp2_with fail
      go_ret
      exact ⟨ra, rc, qs, rfl, HM.out, hLL, hAr⟩
end Go.Proofs.YtgbomdikhidkoaaDoor

namespace Go.Proofs.YtgbomdikhidkoaaDoor
open Go.RowKit

set_option maxRecDepth 100000 in
set_option maxHeartbeats 1000000 in
theorem rDigestsAt_any (ls : List Ct) (sa : Option Addr) (n cap : Nat) (rd : Int) (w : World) (hn : n = ls.length) (hd : DagRd w sa cap ls) :
    Calls Tryd.prog 27 #[.agg #[.slice sa n cap], .int .i64 rd] w fun e w' => DigAt w' e (cvs ls) rd ∧ Below w.heap.size w w' := by
  subst hn
  have hA := (Below.refl w.heap.size w).alloc (Nat.le_refl _) (.cells #[.slice sa ls.length cap] 24)
  have r0 := heap_alloc_new w (.cells #[.slice sa ls.length cap] 24)
  go_enter Tryd.func27, Tryd.ntmps27
  go_wp2_with fail
  generalize w.alloc (.cells #[.slice sa ls.length cap] 24) = W0 at hA r0 ⊢
  refine (dagFault_any ls sa _ cap W0 rfl (hd.below hA)).mono ?_
  rintro e w1 ⟨he, hb1⟩
  subst he
  dsimp only
  have hB1 := hA.trans (hb1.mono hA.size)
  have r1 := (hb1.block _ (lt_of_heap r0)).trans r0
  have c0 := cells_at r1 0 _ rfl
  rcases dagF_or (cvs ls) with h | h
  · have HF : Hid _ := h
    have hd1 := hd.below hB1
    have HD := digestsAt_any ls sa cap rd w1 (dag_le h) hd1.certs hd1.each (all_f h)
    rw [h]
    clear h
    go_wp2_with fail
    refine HD.mono ?_
    rintro e w2 ⟨ma, mc, ms, he, hM, hL, hb2⟩
    have HM : Hid _ := hM
    clear hM
    subst he
    dsimp only
    go_wp2_with fail
    go_ret2
    exact ⟨.inr ⟨HF.out, ma, mc, ms, rfl, HM.out, hL⟩, hB1.trans (hb2.mono hB1.size)⟩
  · have HF : Hid _ := h
    rw [h]
    clear h
    go_wp2_with fail
    go_ret2
    exact ⟨.inl ⟨HF.out, rfl⟩, hB1⟩
end Go.Proofs.YtgbomdikhidkoaaDoor

namespace Go.Proofs.YtgbomdikhidkoaaDoor
open Go.RowKit

/-- What Find answers, as memory of its own. -/
structure FndO (w w' : World) (e : Ending) (l : List CV) (k : List Int) : Prop where
  below : Below w.heap.size w w'
  out : (∃ ec : Int, e = .returned (.tuple #[.agg #[.int .i64 0, .int .i64 0, .slice none 0 0, .slice none 0 0, .slice none 0 0], .int .i64 ec]) ∧ ((dagF l = 12 ∧ ec = 12) ∨ (dagF l = 0 ∧ pOf l k = -1 ∧ ec = 8))) ∨ (dagF l = 0 ∧ 0 ≤ pOf l k ∧ ∃ c : Ct, e = .returned (.tuple #[.agg #[.int .i64 c.au, .int .i64 c.rd, .slice c.ba c.bl.length c.bc, .slice c.pa c.pl.length c.pc, .slice c.va c.vl.length c.vc], .int .i64 0]) ∧ c.v = cvAt l (pOf l k).toNat ∧ CtAt w' c ∧ (∀ b, CtIn c b → w.heap.size < b))
set_option maxRecDepth 100000 in
set_option maxHeartbeats 1000000 in
theorem dagFind_own (ls : List Ct) (sa : Option Addr) (n cap : Nat) (bs : List Int) (ka : Option Addr) (kn kc : Nat) (w : World) (hn : n = ls.length) (hkn : kn = bs.length) (hd : DagAt w sa cap ls) (hk : SliceAt w ka kc bs) (hT : Tabs w) :
    Calls Tryd.prog 12 #[.agg #[.slice sa n cap], .slice ka kn kc] w fun e w' => FndO w w' e (cvs ls) bs := by
  subst hn hkn
  have hA : Below w.heap.size w ((w.alloc (.cells #[.slice sa ls.length cap] 24)).alloc (.cells #[.int .i64 0, .int .i64 0, .slice none 0 0, .slice none 0 0, .slice none 0 0] 35)) := ((Below.refl _ _).alloc (Nat.le_refl _) _).alloc (by rw [size_alloc]; omega) _
  have q1 : ((w.alloc (.cells #[.slice sa ls.length cap] 24)).alloc (.cells #[.int .i64 0, .int .i64 0, .slice none 0 0, .slice none 0 0, .slice none 0 0] 35)).heap[w.heap.size + 1]? = some (.cells #[.int .i64 0, .int .i64 0, .slice none 0 0, .slice none 0 0, .slice none 0 0] 35 (0, 0)) := by
    have := heap_alloc_new (w.alloc (.cells #[.slice sa ls.length cap] 24)) (.cells #[.int .i64 0, .int .i64 0, .slice none 0 0, .slice none 0 0, .slice none 0 0] 35)
    rw [size_alloc] at this; exact this
  go_enter Tryd.func12, Tryd.ntmps12
  go_wp2_with fail
  generalize (w.alloc (.cells #[.slice sa ls.length cap] 24)).alloc (.cells #[.int .i64 0, .int .i64 0, .slice none 0 0, .slice none 0 0, .slice none 0 0] 35) = W0 at hA q1 ⊢
  refine (open_any ls sa _ cap W0 rfl (hd.below hA) (hT.below hA)).mono ?_
  intro e w1 hO
  have hb1 := hO.below
  have hOo := hO.out
  clear hO
  have hB1 := hA.trans (hb1.mono hA.size)
  have r2 := (hb1.block _ (lt_of_heap q1)).trans q1
  rcases hOo with ⟨hF, he⟩ | ⟨hF, s, ks, he, hcv, hown⟩
  · have HF : Hid _ := hF
    clear hF
    subst he
    dsimp only
    have d0 := cells_at r2 0 _ rfl
    have d1 := cells_at r2 1 _ rfl
    have d2 := cells_at r2 2 _ rfl
    have d3 := cells_at r2 3 _ rfl
    have d4 := cells_at r2 4 _ rfl
    have f0 := frozen_at r2 0
    have f1 := frozen_at r2 1
    have f2 := frozen_at r2 2
    have f3 := frozen_at r2 3
    have f4 := frozen_at r2 4
    go_wp2_with fail
    refine bodyPost_ret (v := .tuple #[.agg #[.int .i64 0, .int .i64 0, .slice none 0 0, .slice none 0 0, .slice none 0 0], .int .i64 12]) (by simp [results, Tryd.results12, go_sem, d0, d1, d2, d3, d4]) rfl ⟨?_, .inl ⟨12, rfl, .inl ⟨HF.out, rfl⟩⟩⟩
    exact ((((hB1.setCell (Nat.le_succ _) _).setCell (Nat.le_succ _) _).setCell (Nat.le_succ _) _).setCell (Nat.le_succ _) _).setCell (Nat.le_succ _) _
  · have HF : Hid _ := hF
    have HCV : Hid _ := hcv
    clear hF hcv
    subst he
    dsimp only
    obtain ⟨vc, vd, ds, hkk, hsame, hsm⟩ := hown.out
    obtain ⟨ca, cc, da, dc, e1, e2, hat⟩ := hkk.at hsame hsm
    subst e1 e2
    have HFD := find_stk ks s ca cc da dc ds bs ka _ kc w1 hat (all_f (by rw [HCV.out]; exact HF.out)) rfl (hk.below hB1)
    clear hsame hown hkk
    go_wp2_with fail
    refine HFD.mono ?_
    intro e w2 h2
    have hb2 := h2.below
    have h2o := h2.out
    rw [HCV.out] at h2o
    clear h2 HFD
    have hB2 := hB1.trans (hb2.mono hB1.size)
    have r2 := (hb2.block _ (lt_of_heap r2)).trans r2
    rcases h2o with ⟨hp, he⟩ | ⟨hp, x, he, hxv, hxa, hxin⟩
    · have HP : Hid _ := hp
      clear hp
      subst he
      dsimp only
      have d0 := cells_at r2 0 _ rfl
      have d1 := cells_at r2 1 _ rfl
      have d2 := cells_at r2 2 _ rfl
      have d3 := cells_at r2 3 _ rfl
      have d4 := cells_at r2 4 _ rfl
      have f0 := frozen_at r2 0
      have f1 := frozen_at r2 1
      have f2 := frozen_at r2 2
      have f3 := frozen_at r2 3
      have f4 := frozen_at r2 4
      go_wp2_with fail
      refine bodyPost_ret (v := .tuple #[.agg #[.int .i64 0, .int .i64 0, .slice none 0 0, .slice none 0 0, .slice none 0 0], .int .i64 8]) (by simp [results, Tryd.results12, go_sem, d0, d1, d2, d3, d4]) rfl ⟨?_, .inl ⟨8, rfl, .inr ⟨HF.out, HP.out, rfl⟩⟩⟩
      exact ((((hB2.setCell (Nat.le_succ _) _).setCell (Nat.le_succ _) _).setCell (Nat.le_succ _) _).setCell (Nat.le_succ _) _).setCell (Nat.le_succ _) _
    · have HP : Hid _ := hp
      have HXV : Hid _ := hxv
      have HIN : Hid (∀ b, CtIn x b → w1.heap.size < b) := hxin
      have hlt : w.heap.size + 1 < w1.heap.size := Nat.lt_of_lt_of_le (lt_of_heap q1) hb1.size
      clear hp hxv hxin
      subst he
      dsimp only
      have d0 := cells_at r2 0 _ rfl
      have d1 := cells_at r2 1 _ rfl
      have d2 := cells_at r2 2 _ rfl
      have d3 := cells_at r2 3 _ rfl
      have d4 := cells_at r2 4 _ rfl
      have f0 := frozen_at r2 0
      have f1 := frozen_at r2 1
      have f2 := frozen_at r2 2
      have f3 := frozen_at r2 3
      have f4 := frozen_at r2 4
      go_wp2_with fail
      refine bodyPost_ret (v := .tuple #[.agg #[.int .i64 x.au, .int .i64 x.rd, .slice x.ba x.bl.length x.bc, .slice x.pa x.pl.length x.pc, .slice x.va x.vl.length x.vc], .int .i64 0]) (by simp [results, Tryd.results12, go_sem, d0, d1, d2, d3, d4]) rfl ⟨?_, .inr ⟨HF.out, HP.out, x, rfl, HXV.out, ?_, ?_⟩⟩
      · exact ((((hB2.setCell (Nat.le_succ _) _).setCell (Nat.le_succ _) _).setCell (Nat.le_succ _) _).setCell (Nat.le_succ _) _).setCell (Nat.le_succ _) _
      · refine CtAt.keep hxa (by simp) (fun b hb => ?_)
        have hge := HIN.out b hb
        have hne : b ≠ w.heap.size + 1 := by omega
        rw [heap_setCell_other _ _ b _ hne, heap_setCell_other _ _ b _ hne, heap_setCell_other _ _ b _ hne, heap_setCell_other _ _ b _ hne, heap_setCell_other _ _ b _ hne]
      · intro b hb
        have := HIN.out b hb
        omega
end Go.Proofs.YtgbomdikhidkoaaDoor

namespace Go.Proofs.YtgbomdikhidkoaaDoor
open Go.RowKit

set_option maxRecDepth 100000 in
set_option maxHeartbeats 1000000 in
theorem bytesCopiesU_any (ps : List Part) (sa : Option Addr) (n cap : Nat) (w : World) (hn : n = ps.length) (hr : ps.length * 24 ≤ 140737488355328) (hre : ∀ p ∈ ps, p.bs.length ≤ 140737488355328) (hp : PartsAt w sa ps) :
    Calls Tryd.prog 39 #[.slice sa n cap] w fun e w' => ∃ ra rc qs, e = .returned (.slice ra ps.length rc) ∧ Same qs ps ∧ ListAt w' ra rc qs ∧ Below w.heap.size w w' ∧ Fresh w.heap.size ra qs ∧ (∀ sb so, ra = some ⟨sb, so, none⟩ → sb < w'.heap.size) := by
  subst hn
  obtain ⟨i, hi, hz0, hz1, hz2⟩ := info_parts infoBs
  go_enter Tryd.func39, Tryd.ntmps39
  go_wp2_with fail
  go_loopw [4, 3] (fun j v wr => ∃ (k : Nat) (qs : List Part), k ≤ ps.length ∧ j = .int .i64 k ∧ Same qs (ps.take k) ∧ wr.ownsRow w.heap.size 29 1 v k (pv qs) ∧ Apart wr w.heap.size v qs ∧ Below w.heap.size w wr) (fun j _ _ => ps.length - (intOf j).toNat)
  case atStart => exact ⟨0, [], Nat.zero_le _, rfl, by simp [Same], World.ownsRow_nil _ _ _ _, (fun p hp => by cases hp), Below.refl _ _⟩
  case round =>
    obtain ⟨k, qs, hk, rfl, hS, ho, hap, hb⟩ := hrel
    by_cases hlt : k < ps.length
    · have hpw := hp.below hb
      obtain ⟨sb, so, rfl, hc⟩ : ∃ sb so, sa = some ⟨sb, so, none⟩ ∧ ∀ j (h : j < ps.length), wr.cell? ⟨sb, so + j, none⟩ = some (.slice (ps[j]).sa (ps[j]).bs.length (ps[j]).cap) := by
        rcases hpw.cells with h | h
        · rw [h] at hlt; simp at hlt
        · exact h
      have ck := hc k hlt
      have hx := hpw.each (ps[k]) (List.getElem_mem hlt)
      have hxr := hre (ps[k]) (List.getElem_mem hlt)
      have hst : Hid (ps.take (k + 1) = ps.take k ++ [ps[k]]) := List.take_succ_eq_append_getElem hlt
      have hltI : (k : Int) < ps.length := by omega
      clear hc
      generalize ps[k] = p at *
      go_wp2_with fail
      refine (joined_any p.bs [] p.sa none _ _ p.cap 0 wr rfl rfl hx (nilSlice _) (by simpa using hxr)).mono ?_
      rintro e w2 ⟨v2, he, ho2, hb2⟩
      subst he
      dsimp only
      simp only [List.append_nil, List.length_nil, Nat.add_zero] at ho2
      obtain ⟨ra, rc, hv, _, hs2⟩ := owns_form ho2
      subst hv
      have hob := owns_keep ho hb2
      have hB2 := hb.trans (hb2.mono hb.size)
      go_wp2_with (at_builtin; refine wpList_append_own_at _ rfl _ _ 30 rfl w.heap.size 29 i (.slice none 0 0) 1 24 Tryd.underlying30 hi hz0 hz1 hz2 rfl (by decide) _ k _ rfl (World.ownsRow.alloc hob _) ⟨w2.heap.size, 0, none⟩ 1 1 [.slice ra p.bs.length rc] rfl rfl (cells_new _ _ _) (by intro u hu; simp at hu; subst hu; rfl) (by unfold maxLen; omega) (by omega) (le_alloc hB2.size _) ?_; intro v1 w3 ho3 hg3 _ hat)
      have G := Grew.of hg3 hat
      have hap3 := hap.more (q := ⟨ra, rc, p.bs⟩) hb.size ho hb2 ho2 hs2 G
      have hB3 := Below.grown (hB2.alloc hB2.size _) hg3 (le_alloc hB2.size _) (fun q e => (hob.lt q e).1)
      go_roundw
      case rel =>
        have hR : ∃ (k' : Nat) (qs' : List Part), k' ≤ ps.length ∧ (Value.int .i64 ((k : Int) + 1)) = .int .i64 k' ∧ Same qs' (ps.take k') ∧ w3.ownsRow w.heap.size 29 1 v1 k' (pv qs') ∧ Apart w3 w.heap.size v1 qs' ∧ Below w.heap.size w w3 :=
          ⟨k + 1, qs ++ [⟨ra, rc, p.bs⟩], by omega, by go_num, by rw [hst.out]; simp only [Same, List.map_append] at hS ⊢; rw [hS]; rfl, by simpa [pv, Part.val] using ho3, hap3, hB3⟩
        first | exact hR | ((repeat apply Exists.intro); exact ⟨hR, rfl⟩)
      case measure => simp [intOf]; omega
    · obtain rfl : k = ps.length := by omega
      rw [List.take_of_length_le (Nat.le_refl _)] at hS
      obtain ⟨ra, rc, hv, hl, hL, hfr⟩ := listAt_of_owns ho hap
      subst hv
      go_wp2_with fail
      go_ret
      exact ⟨ra, rc, qs, rfl, hS, hL (by omega), hb, hfr, fun sb so e => by subst e; exact (ho.lt sb rfl).2⟩
set_option maxRecDepth 100000 in
set_option maxHeartbeats 1000000 in
theorem headerCopyU_any (au rd : Int) (ba : Option Addr) (bc : Nat) (bl : List Part) (pa : Option Addr) (pc : Nat) (pl : List Part) (w : World) (hb : ReadAt w ba bc bl) (hp : ReadAt w pa pc pl) :
    Calls Tryd.prog 17 #[.agg #[.int .i64 au, .int .i64 rd, .slice ba bl.length bc, .slice pa pl.length pc]] w fun e w' => ∃ xa xc xs ya yc ys, e = .returned (.agg #[.int .i64 au, .int .i64 rd, .slice xa bl.length xc, .slice ya pl.length yc]) ∧ Same xs bl ∧ Same ys pl ∧ ListAt w' xa xc xs ∧ ListAt w' ya yc ys ∧ Below w.heap.size w w' ∧ Fresh w.heap.size xa xs ∧ Fresh w.heap.size ya ys ∧ (∀ sb so, xa = some ⟨sb, so, none⟩ → sb < w'.heap.size) ∧ (∀ sb so, ya = some ⟨sb, so, none⟩ → sb < w'.heap.size) := by
  have hR : Below w.heap.size w ((w.alloc (.cells #[.int .i64 au, .int .i64 rd, .slice ba bl.length bc, .slice pa pl.length pc] 32)).alloc (.cells #[.int .i64 0, .int .i64 0, .slice none 0 0, .slice none 0 0] 32)) := ((Below.refl _ _).alloc (Nat.le_refl _) _).alloc (by simp) _
  have q0 := heap_alloc2_old w (.cells #[.int .i64 au, .int .i64 rd, .slice ba bl.length bc, .slice pa pl.length pc] 32) (.cells #[.int .i64 0, .int .i64 0, .slice none 0 0, .slice none 0 0] 32)
  have k0 : ((w.alloc (.cells #[.int .i64 au, .int .i64 rd, .slice ba bl.length bc, .slice pa pl.length pc] 32)).alloc (.cells #[.int .i64 0, .int .i64 0, .slice none 0 0, .slice none 0 0] 32)).cell? ⟨w.heap.size, 0, none⟩ = some (.int .i64 au) := cells_at q0 0 _ rfl
  have k1 : ((w.alloc (.cells #[.int .i64 au, .int .i64 rd, .slice ba bl.length bc, .slice pa pl.length pc] 32)).alloc (.cells #[.int .i64 0, .int .i64 0, .slice none 0 0, .slice none 0 0] 32)).cell? ⟨w.heap.size, 1, none⟩ = some (.int .i64 rd) := cells_at q0 1 _ rfl
  have k2 : ((w.alloc (.cells #[.int .i64 au, .int .i64 rd, .slice ba bl.length bc, .slice pa pl.length pc] 32)).alloc (.cells #[.int .i64 0, .int .i64 0, .slice none 0 0, .slice none 0 0] 32)).cell? ⟨w.heap.size, 2, none⟩ = some (.slice ba bl.length bc) := cells_at q0 2 _ rfl
  have k3 : ((w.alloc (.cells #[.int .i64 au, .int .i64 rd, .slice ba bl.length bc, .slice pa pl.length pc] 32)).alloc (.cells #[.int .i64 0, .int .i64 0, .slice none 0 0, .slice none 0 0] 32)).cell? ⟨w.heap.size, 3, none⟩ = some (.slice pa pl.length pc) := cells_at q0 3 _ rfl
  go_enter Tryd.func17, Tryd.ntmps17
  go_wp2_with fail
  go_region_held2 (fun w' => w'.cell? ⟨w.heap.size, 0, none⟩ = some (.int .i64 au) ∧ w'.cell? ⟨w.heap.size, 1, none⟩ = some (.int .i64 rd) ∧ w'.cell? ⟨w.heap.size, 2, none⟩ = some (.slice ba bl.length bc) ∧ w'.cell? ⟨w.heap.size, 3, none⟩ = some (.slice pa pl.length pc)) (go_keep) (first | (go_at_call 39; refine (bytesCopiesU_any pl pa _ pc w1 rfl hp.reach hp.each (hp.list.below (below_alloc (below_alloc hb1))).parts).mono ?_; rintro e w2 ⟨ya, yc, ys, rfl, hS2, hL2, hb2, hF2, hU2⟩; have s0 := (hb2.block _ (lt_of_heap r0)).trans r0; have s1 := (hb2.block _ (lt_of_heap r1)).trans r1; have e0 : w2.cell? ⟨w.heap.size, 0, none⟩ = some (.int .i64 au) := cells_at s0 0 _ rfl; have e1 : w2.cell? ⟨w.heap.size, 1, none⟩ = some (.int .i64 rd) := cells_at s0 1 _ rfl; have e2 : w2.cell? ⟨w.heap.size, 2, none⟩ = some (.slice ba bl.length bc) := cells_at s0 2 _ rfl; have e3 : w2.cell? ⟨w.heap.size, 3, none⟩ = some (.slice pa pl.length pc) := cells_at s0 3 _ rfl; have d0 := cells_at s1 0 _ rfl; have d1 := cells_at s1 1 _ rfl; have d2 := cells_at s1 2 _ rfl; have d3 := cells_at s1 3 _ rfl; have f0 := frozen_at s1 0; have f1 := frozen_at s1 1; have f2 := frozen_at s1 2; have f3 := frozen_at s1 3) | (go_at_call 39; refine (bytesCopiesU_any bl ba _ bc ((w.alloc (.cells #[.int .i64 au, .int .i64 rd, .slice ba bl.length bc, .slice pa pl.length pc] 32)).alloc (.cells #[.int .i64 0, .int .i64 0, .slice none 0 0, .slice none 0 0] 32)).drew rfl hb.reach hb.each (hb.list.below hR.drew).parts).mono ?_; rintro e w1 ⟨xa, xc, xs, rfl, hS1, hL1, hb1, hF1, hU1⟩; replace hb1 := below_drew hb1; rw [heap_drew, size_alloc, size_alloc] at hF1; have r1 := row_new hb1; have r0 := row_new (below_alloc hb1); rw [size_alloc] at r1; have c0 : w1.cell? ⟨w.heap.size, 0, none⟩ = some (.int .i64 au) := cells_at r0 0 _ rfl; have c1 : w1.cell? ⟨w.heap.size, 1, none⟩ = some (.int .i64 rd) := cells_at r0 1 _ rfl; have c2 : w1.cell? ⟨w.heap.size, 2, none⟩ = some (.slice ba bl.length bc) := cells_at r0 2 _ rfl; have c3 : w1.cell? ⟨w.heap.size, 3, none⟩ = some (.slice pa pl.length pc) := cells_at r0 3 _ rfl))
  all_goals
    go_wp2_with fail
    have hsz : w.heap.size + 1 + 1 ≤ w1.heap.size := by have := hb1.size; rw [size_alloc, size_alloc] at this; exact this
    have g1 : w.heap.size + 1 < w.heap.size + 1 + 1 := Nat.lt_succ_self _
    have g2 : w.heap.size + 1 < w1.heap.size := by omega
    have hW1 := below_alloc (below_alloc hb1)
    have hW2 := hW1.trans (hb2.mono hW1.size)
    refine bodyPost_ret (v := .agg #[.int .i64 au, .int .i64 rd, .slice xa bl.length xc, .slice ya pl.length yc]) (by simp [results, Tryd.results17, go_sem, d0, d1, d2, d3]) rfl ⟨xa, xc, xs, ya, yc, ys, rfl, hS1, hS2, ?_, ?_, ?_, hF1.mono (by omega), hF2.mono hW1.size, fun sb so e => by simpa using Nat.lt_of_lt_of_le (hU1 sb so e) hb2.size, fun sb so e => by simpa using hU2 sb so e⟩
    · exact ((((hL1.below hb2).setCell hF1 _ _ _ g1).setCell hF1 _ _ _ g1).setCell hF1 _ _ _ g1).setCell hF1 _ _ _ g1
    · exact (((hL2.setCell hF2 _ _ _ g2).setCell hF2 _ _ _ g2).setCell hF2 _ _ _ g2).setCell hF2 _ _ _ g2
    · exact (((hW2.setCell (Nat.le_succ _) _).setCell (Nat.le_succ _) _).setCell (Nat.le_succ _) _).setCell (Nat.le_succ _) _
end Go.Proofs.YtgbomdikhidkoaaDoor

namespace Go.Proofs.YtgbomdikhidkoaaDoor
open Go.RowKit

set_option maxRecDepth 100000 in
set_option maxHeartbeats 1000000 in
theorem certCopyU_any (au rd : Int) (ba : Option Addr) (bc : Nat) (bl : List Part) (pa : Option Addr) (pc : Nat) (pl : List Part) (va : Option Addr) (vc : Nat) (vl : List Int) (w : World) (hb : ReadAt w ba bc bl) (hp : ReadAt w pa pc pl) (hv : IntsAt w va vl) (hvr : vl.length * 8 ≤ 140737488355328) :
    Calls Tryd.prog 21 #[.agg #[.int .i64 au, .int .i64 rd, .slice ba bl.length bc, .slice pa pl.length pc, .slice va vl.length vc]] w fun e w' => ∃ xa xc xs ya yc ys za zc, e = .returned (.agg #[.int .i64 au, .int .i64 rd, .slice xa bl.length xc, .slice ya pl.length yc, .slice za vl.length zc]) ∧ Same xs bl ∧ Same ys pl ∧ ListAt w' xa xc xs ∧ ListAt w' ya yc ys ∧ IntsAt w' za vl ∧ Below w.heap.size w w' ∧ Fresh w.heap.size xa xs ∧ Fresh w.heap.size ya ys ∧ (∀ sb so, za = some ⟨sb, so, none⟩ → w.heap.size ≤ sb) ∧ (∀ sb so, xa = some ⟨sb, so, none⟩ → sb < w'.heap.size) ∧ (∀ sb so, ya = some ⟨sb, so, none⟩ → sb < w'.heap.size) := by
  go_enter Tryd.func21, Tryd.ntmps21
  go_wp2_with fail
  have hR : Below w.heap.size w ((w.alloc (.cells #[.int .i64 au, .int .i64 rd, .slice ba bl.length bc, .slice pa pl.length pc, .slice va vl.length vc] 35)).alloc (.cells #[.int .i64 0, .int .i64 0, .slice none 0 0, .slice none 0 0, .slice none 0 0] 35)) := ((Below.refl _ _).alloc (Nat.le_refl _) _).alloc (by simp) _
  refine (headerCopyU_any au rd ba bc bl pa pc pl _ (hb.below hR) (hp.below hR)).mono ?_
  rintro e w1 ⟨xa, xc, xs, ya, yc, ys, he, hS1, hS2, hL1, hL2, hb1, hF1, hF2, hU1, hU2⟩
  subst he
  dsimp only
  have r1 := row_new hb1
  have r0 := row_new (below_alloc hb1)
  rw [size_alloc] at r1
  rw [size_alloc, size_alloc] at hF1 hF2
  have hW1 := below_alloc (below_alloc hb1)
  have hlt1 : w.heap.size + 1 < w1.heap.size := lt_of_heap r1
  have hv1 := hv.below hW1
  clear hb1 hR
  obtain ⟨i, hi, hz0, hz1, hz2⟩ := info_parts infoInt2
  go_wp2_with fail
  go_loopw [4] (fun j wr => ∃ (k : Nat) (v : Value), k ≤ vl.length ∧ j = .int .i64 k ∧ Below w1.heap.size w1 wr ∧ wr.heap[w1.heap.size]? = some (.cells #[.int .i64 au, .int .i64 rd, .slice xa bl.length xc, .slice ya pl.length yc, v] 35 (0, 0)) ∧ wr.ownsRow (w1.heap.size + 1) 3 1 v k (iv (vl.take k))) (fun j _ => vl.length - (intOf j).toNat)
  case atStart => exact ⟨0, _, Nat.zero_le _, rfl, (Below.refl _ _).alloc (Nat.le_refl _) _, heap_alloc_new _ _, World.ownsRow_nil _ _ _ _⟩
  case round =>
    obtain ⟨k, v, hk, rfl, hbw, hro, ho⟩ := hrel
    have hrc := (hbw.block _ (lt_of_heap r0)).trans r0
    have c4 : wr.cell? ⟨w.heap.size, 4, none⟩ = some (.slice va vl.length vc) := cells_at hrc 4 _ rfl
    have o4 : wr.cell? ⟨w1.heap.size, 4, none⟩ = some v := cells_at hro 4 _ rfl
    have of4 := frozen_at hro 4
    have hsz : w1.heap.size < wr.heap.size := lt_of_heap hro
    by_cases hlt : k < vl.length
    · obtain ⟨sb, so, rfl, hc⟩ : ∃ sb so, va = some ⟨sb, so, none⟩ ∧ ∀ j, j < vl.length → wr.cell? ⟨sb, so + j, none⟩ = some (.int .i64 (vl.getD j 0)) := by
        rcases (hv1.below hbw).cells with h | h
        · rw [h] at hlt; simp at hlt
        · exact h
      have ck := hc k hlt
      have hltI : (k : Int) < vl.length := by omega
      have hst : Hid (vl.take (k + 1) = vl.take k ++ [vl.getD k 0]) := by
        show _ = _
        rw [List.take_succ_eq_append_getElem hlt]
        simp [List.getD, hlt]
      have hvb : v.ownBlock ≠ some w1.heap.size := fun e => by have := (ho.lt _ e).1; omega
      clear hc
      generalize vl.getD k 0 = x at ck hst
      have hroA : (wr.alloc (.cells #[.int .i64 x] 3)).drew.heap[w1.heap.size]? = some (.cells #[.int .i64 au, .int .i64 rd, .slice xa bl.length xc, .slice ya pl.length yc, v] 35 (0, 0)) := row_old (w1 := wr.alloc (.cells #[.int .i64 x] 3)) hro (Below.refl _ _)
      have hszA : w1.heap.size < (wr.alloc (.cells #[.int .i64 x] 3)).drew.heap.size := lt_of_heap hroA
      go_wp2_with fail
      go_region_law (refine step_append_own rfl _ _ 33 rfl (w1.heap.size + 1) 3 i (.int .i64 0) 1 8 Tryd.underlying33 hi hz0 hz1 hz2 rfl (by decide) _ k _ rfl (World.ownsRow.alloc ho.drew _) ⟨wr.heap.size, 0, none⟩ 1 1 [.int .i64 x] rfl rfl (cells_new _ _ _) (iv_one [_]) (by unfold maxLen; omega) (by omega) (le_alloc hsz _) ?_; intro v1 w2 ho1 hg1; have hr2 := (hg1.block w1.heap.size hszA (fun e => hvb e.symm)).trans hroA; have p4 : w2.cell? ⟨w1.heap.size, 4, none⟩ = some v := cells_at hr2 4 _ rfl; have pf4 := frozen_at hr2 4; obtain ⟨qa, qc, hq⟩ := owns_shape ho1; subst hq)
      all_goals
        go_wp2_with fail
        go_roundw
        case rel =>
          have hb2 : Below w1.heap.size w1 w2 := Below.grown (hbw.drew.alloc hbw.size _) hg1 (le_alloc hbw.size _) (fun q e => Nat.le_trans (Nat.le_succ _) (ho.lt q e).1)
          have hR : ∃ (k' : Nat) (v' : Value), k' ≤ vl.length ∧ (Value.int .i64 ((k : Int) + 1)) = .int .i64 k' ∧ Below w1.heap.size w1 (w2.setCell ⟨w1.heap.size, 4, none⟩ (.slice qa (k + 1) qc)) ∧ (w2.setCell ⟨w1.heap.size, 4, none⟩ (.slice qa (k + 1) qc)).heap[w1.heap.size]? = some (.cells #[.int .i64 au, .int .i64 rd, .slice xa bl.length xc, .slice ya pl.length yc, v'] 35 (0, 0)) ∧ (w2.setCell ⟨w1.heap.size, 4, none⟩ (.slice qa (k + 1) qc)).ownsRow (w1.heap.size + 1) 3 1 v' k' (iv (vl.take k')) :=
            ⟨k + 1, .slice qa (k + 1) qc, by omega, by go_num, hb2.setCell (Nat.le_refl _) _, by simpa using heap_setCell_same _ _ 4 _ _ (.slice qa (k + 1) qc) hr2, by rw [hst.out]; exact owns_far (by simpa [iv] using ho1) _ _ _ (by omega)⟩
          first | exact hR | ((repeat apply Exists.intro); exact ⟨hR, rfl⟩)
        case measure => simp [intOf]; omega
    · obtain rfl : k = vl.length := by omega
      rw [List.take_of_length_le (Nat.le_refl _)] at ho
      obtain ⟨za, zc, hz, _, hZ, hzf⟩ := intsAt_of_owns ho
      subst hz
      have s1 := (hbw.block _ (lt_of_heap r1)).trans r1
      have d0 := cells_at s1 0 _ rfl
      have d1 := cells_at s1 1 _ rfl
      have d2 := cells_at s1 2 _ rfl
      have d3 := cells_at s1 3 _ rfl
      have d4 := cells_at s1 4 _ rfl
      have f0 := frozen_at s1 0
      have f1 := frozen_at s1 1
      have f2 := frozen_at s1 2
      have f3 := frozen_at s1 3
      have f4 := frozen_at s1 4
      have o0 : wr.cell? ⟨w1.heap.size, 0, none⟩ = some (.int .i64 au) := cells_at hro 0 _ rfl
      have o1 : wr.cell? ⟨w1.heap.size, 1, none⟩ = some (.int .i64 rd) := cells_at hro 1 _ rfl
      have o2 : wr.cell? ⟨w1.heap.size, 2, none⟩ = some (.slice xa bl.length xc) := cells_at hro 2 _ rfl
      have o3 : wr.cell? ⟨w1.heap.size, 3, none⟩ = some (.slice ya pl.length yc) := cells_at hro 3 _ rfl
      have g1 : w.heap.size + 1 < w.heap.size + 1 + 1 := Nat.lt_succ_self _
      have hne : ∀ sb so, za = some ⟨sb, so, none⟩ → w.heap.size + 1 ≠ sb := fun sb so e => by have := hzf sb so e; omega
      have hWr := hW1.trans (hbw.mono hW1.size)
      have hL1r := hL1.below hbw
      have hL2r := hL2.below hbw
      go_wp2_with fail
      refine bodyPost_ret (v := .agg #[.int .i64 au, .int .i64 rd, .slice xa bl.length xc, .slice ya pl.length yc, .slice za vl.length zc]) (by simp [results, Tryd.results21, go_sem, d0, d1, d2, d3, d4]) rfl ?_
      refine ⟨xa, xc, xs, ya, yc, ys, za, ⟨zc, rfl⟩, hS1, hS2, ?_, ?_, ?_, ?_, hF1.mono (by omega), hF2.mono (by omega), fun sb so e => by have := hzf sb so e; omega, fun sb so e => by simpa using Nat.lt_of_lt_of_le (hU1 sb so e) hbw.size, fun sb so e => by simpa using Nat.lt_of_lt_of_le (hU2 sb so e) hbw.size⟩
      · exact ((((hL1r.setCell hF1 _ _ _ g1).setCell hF1 _ _ _ g1).setCell hF1 _ _ _ g1).setCell hF1 _ _ _ g1).setCell hF1 _ _ _ g1
      · exact ((((hL2r.setCell hF2 _ _ _ g1).setCell hF2 _ _ _ g1).setCell hF2 _ _ _ g1).setCell hF2 _ _ _ g1).setCell hF2 _ _ _ g1
      · exact ((((hZ.setCell _ _ _ hne).setCell _ _ _ hne).setCell _ _ _ hne).setCell _ _ _ hne).setCell _ _ _ hne
      · exact ((((hWr.setCell (Nat.le_succ _) _).setCell (Nat.le_succ _) _).setCell (Nat.le_succ _) _).setCell (Nat.le_succ _) _).setCell (Nat.le_succ _) _
end Go.Proofs.YtgbomdikhidkoaaDoor
