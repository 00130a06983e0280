/- sheaveskeep.oneSum, of batches that may be, two of which are unlike and have one digest. -/
import Derived.Test.YtbmodfegcmaieaaDoorQOneSum
import Derived.Test.YtbmodfegcmaieaaDoorGBcF
import Derived.Test.YtbmodfegcmaieaaDoorGBstr
import Derived.Test.YtbmodfegcmaieaaDoorQKDigs
import Derived.Test.YtbmodfegcmaieaaDoorQSameT
namespace Go.Proofs.YtbmodfegcmaieaaDoor
open Go.RowKit

def bcAt (bl : List Bc) (k : Nat) : Bc := bl.getD k ⟨⟨0, 0, []⟩, none, 0⟩
set_option maxRecDepth 100000 in
theorem bcAt_get (bl : List Bc) (k : Nat) (h : k < bl.length) : bcAt bl k = bl[k] := by simp [bcAt, h]
set_option maxRecDepth 100000 in
set_option maxHeartbeats 8000000 in
theorem oneSum_batches (hs : List Hd) (sa : Option Addr) (n cap : Nat) (bl : List Bc) (ta : Option Addr) (m tcap : Nat) (w : World) (I K : Nat) (hn : n = hs.length) (hm : m = bl.length) (hl : hs.length ≤ 100000) (hl2 : bl.length ≤ 100000) (hK : K < I) (hI : I < bl.length) (hS : HsAt w sa hs) (hB : BcsAt w ta bl) (hf : ∀ b ∈ bl, b.v.f = 0) (hD : (bcAt bl I).v.d = (bcAt bl K).v.d) (hU : (bcAt bl I).v ≠ (bcAt bl K).v) (hT : Tabs w) :
    Calls Tryd.prog 25 #[.slice sa n cap, .slice ta m tcap] w fun e w' => e = .returned (.bool true) ∧ Below w.heap.size w w' := by
  subst hn hm
  have HC : Hid (∀ j, j < hs.length → ∃ sb so, sa = some ⟨sb, so, none⟩ ∧ ∀ j, j < hs.length → ∀ W : World, Below w.heap.size w W → W.cell? ⟨sb, so + j * 4, none⟩ = some (.int .i64 (hdAt hs j).au) ∧ W.cell? ⟨sb, so + j * 4 + 1, none⟩ = some (.int .i64 (hdAt hs j).rd) ∧ W.cell? ⟨sb, so + j * 4 + 2, none⟩ = some (.slice (hdAt hs j).ba (hdAt hs j).bl.length (hdAt hs j).bc) ∧ W.cell? ⟨sb, so + j * 4 + 3, none⟩ = some (.slice (hdAt hs j).pa (hdAt hs j).pl.length (hdAt hs j).pc)) := by
    show ∀ j, _
    intro j hj
    rcases hS.cells with h | ⟨sb, so, e, hc⟩
    · rw [h] at hj; simp at hj
    · refine ⟨sb, so, e, fun j hj W hW => ?_⟩
      obtain ⟨h0, h1, h2, h3⟩ := hc j hj
      have hlt : sb < w.heap.size := block_lt_of_cell h0
      exact ⟨(hW.cell (p := ⟨sb, so + j * 4, none⟩) hlt).trans h0, (hW.cell (p := ⟨sb, so + j * 4 + 1, none⟩) hlt).trans h1, (hW.cell (p := ⟨sb, so + j * 4 + 2, none⟩) hlt).trans h2, (hW.cell (p := ⟨sb, so + j * 4 + 3, none⟩) hlt).trans h3⟩
  have HA : Hid (∀ j, j < hs.length → ∀ W : World, Below w.heap.size w W → HdAt W (hdAt hs j)) := by
    show ∀ j, _
    intro j hj W hW
    rw [hdAt_get hs j hj]
    exact (hS.each _ (List.getElem_mem hj)).below hW
  obtain ⟨tb, tq, rfl, hcb⟩ : ∃ tb tq, ta = some ⟨tb, tq, none⟩ ∧ ∀ j (h : j < bl.length), _ := by
    rcases hB.cells with h | h
    · rw [h] at hI; simp at hI
    · exact h
  have HCB : Hid (∀ j, j < bl.length → ∀ W : World, Below w.heap.size w W → W.cell? ⟨tb, tq + j * 3, none⟩ = some (.int .i64 (bcAt bl j).v.au) ∧ W.cell? ⟨tb, tq + j * 3 + 1, none⟩ = some (.int .i64 (bcAt bl j).v.nu) ∧ W.cell? ⟨tb, tq + j * 3 + 2, none⟩ = some (.slice (bcAt bl j).ta (bcAt bl j).v.ss.length (bcAt bl j).tc)) := by
    show ∀ j, _
    intro j hj W hW
    rw [bcAt_get bl j hj]
    obtain ⟨h0, h1, h2⟩ := hcb j hj
    have hlt : tb < w.heap.size := block_lt_of_cell h0
    exact ⟨(hW.cell (p := ⟨tb, tq + j * 3, none⟩) hlt).trans h0, (hW.cell (p := ⟨tb, tq + j * 3 + 1, none⟩) hlt).trans h1, (hW.cell (p := ⟨tb, tq + j * 3 + 2, none⟩) hlt).trans h2⟩
  have HAB : Hid (∀ j, j < bl.length → ∀ W : World, Below w.heap.size w W → BcAt W (bcAt bl j) ∧ (bcAt bl j).v.f = 0) := by
    show ∀ j, _
    intro j hj W hW
    rw [bcAt_get bl j hj]
    exact ⟨(hB.each _ (List.getElem_mem hj)).below hW, hf _ (List.getElem_mem hj)⟩
  have HT : Hid (∀ W : World, Below w.heap.size w W → Tabs W) := by
    show ∀ W, _
    exact fun W hW => hT.below hW
  have HDU : Hid ((bcAt bl I).v.d = (bcAt bl K).v.d ∧ (bcAt bl I).v ≠ (bcAt bl K).v) := ⟨hD, hU⟩
  have HKI : Hid (K < I) := hK
  have HIL : Hid (I < bl.length) := hI
  clear hS hcb hT hD hU hK hI hB hf
  go_enter Tryd.func25, Tryd.ntmps25
  go_wp2_with fail
  go_loopw [5] (fun j wr => ∃ i : Nat, i ≤ hs.length ∧ j = .int .i64 i ∧ Below w.heap.size w wr) (fun j _ => hs.length - (intOf j).toNat)
  case atStart => exact ⟨0, Nat.zero_le _, rfl, Below.refl _ _⟩
  case round =>
    obtain ⟨i, hi, rfl, hb⟩ := hrel
    by_cases hiL : i < hs.length
    · have hiI : (i : Int) < hs.length := by omega
      obtain ⟨sb, so, rfl, HCC⟩ := HC.out i hiL
      have HCC : Hid _ := HCC
      go_wp2_with fail
      go_loopw [6] (fun j wr => ∃ k : Nat, k ≤ i ∧ j = .int .i64 k ∧ Below w.heap.size w wr) (fun j _ => i - (intOf j).toNat)
      case atStart => exact ⟨0, Nat.zero_le _, rfl, hb⟩
      case round =>
        obtain ⟨k, hk, rfl, hb0⟩ := hrel
        by_cases hlt : k < i
        · have hltI : (k : Int) < i := by omega
          have hkL : k < hs.length := by omega
          have hkI : (k : Int) < hs.length := by omega
          obtain ⟨x, hxe⟩ : ∃ x, hdAt hs i = x := ⟨_, rfl⟩
          obtain ⟨y, hye⟩ : ∃ y, hdAt hs k = y := ⟨_, rfl⟩
          obtain ⟨c0, c1, c2, c3⟩ := HCC.out i hiL wr hb0
          rw [hxe] at c0 c1 c2 c3
          have HX : Hid (∀ W : World, Below w.heap.size w W → HdAt W x) := by
            show ∀ W, _
            intro W hW
            rw [← hxe]; exact HA.out i hiL W hW
          have HY : Hid (∀ W : World, Below w.heap.size w W → HdAt W y) := by
            show ∀ W, _
            intro W hW
            rw [← hye]; exact HA.out k hkL W hW
          go_wp2_with fail
          refine (headerDigest_hat (HX.out wr hb0).hat (HX.out wr hb0).ok (HT.out wr hb0)).mono ?_
          rintro e w2 ⟨bx, he, hgx, hb2, hsx⟩
          subst he
          dsimp only
          have hB2 := hb0.trans (hb2.mono hb0.size)
          clear c0 c1 c2 c3
          obtain ⟨c0, c1, c2, c3⟩ := HCC.out k hkL w2 hB2
          rw [hye] at c0 c1 c2 c3
          go_wp2_with fail
          refine (headerDigest_hat (HY.out w2 hB2).hat (HY.out w2 hB2).ok (HT.out w2 hB2)).mono ?_
          rintro e VR ⟨by', he, hgy, hb4, hsy⟩
          subst he
          dsimp only
          have hB4 := hB2.trans (hb4.mono hB2.size)
          clear c0 c1 c2 c3
          have hsx4 := hsx.below hb4
          obtain ⟨B, hBe⟩ : ∃ B : Bool, decide (txL (hDig x.au x.rd x.bl x.pl) = txL (hDig y.au y.rd y.bl y.pl)) = B := ⟨_, rfl⟩
          have HSB : Hid (∀ V : World, Below VR.heap.size VR V → Calls Tryd.prog 37 #[.slice (some ⟨bx, 0, none⟩) 32 32, .slice (some ⟨by', 0, none⟩) 32 32] V fun e w' => e = .returned (.bool B) ∧ V = w') := by
            show ∀ V, _
            intro V hV
            rw [← hBe]
            exact same_tx _ _ (some ⟨bx, 0, none⟩) (some ⟨by', 0, none⟩) 32 32 32 32 V (hDig_length _ _ _ _).symm (hDig_length _ _ _ _).symm (hsx4.below hV) (hsy.below hV)
          obtain ⟨Q, hQe⟩ : ∃ Q : Bool, decide (x.au = y.au ∧ x.rd = y.rd ∧ bsOf x.bl = bsOf y.bl ∧ bsOf x.pl = bsOf y.pl) = Q := ⟨_, rfl⟩
          have HSH : Hid (∀ V : World, Below VR.heap.size VR V → Calls Tryd.prog 46 #[.agg #[.int .i64 x.au, .int .i64 x.rd, .slice x.ba x.bl.length x.bc, .slice x.pa x.pl.length x.pc], .agg #[.int .i64 y.au, .int .i64 y.rd, .slice y.ba y.bl.length y.bc, .slice y.pa y.pl.length y.pc]] V fun e w' => e = .returned (.bool Q) ∧ Below V.heap.size V w') := by
            show ∀ V, _
            intro V hV
            have hBV := hB4.trans (hV.mono hB4.size)
            rw [← hQe]
            exact sameHeader_any x.au x.rd y.au y.rd x.ba _ x.bc x.bl x.pa _ x.pc x.pl y.ba _ y.bc y.bl y.pa _ y.pc y.pl V (HX.out V hBV).head (HY.out V hBV).head
          obtain ⟨g0, g1, g2, g3⟩ := HCC.out i hiL VR hB4
          obtain ⟨h0, h1, h2, h3⟩ := HCC.out k hkL VR hB4
          rw [hxe] at g0 g1 g2 g3
          rw [hye] at h0 h1 h2 h3
          clear hsx hsy hsx4 hgx hgy hBe hQe
          go_upto_region 9 with fail
          cases B with
          | false =>
            have hV0 : Below VR.heap.size VR VR.drew := (Below.refl _ _).drew
            refine wp_region_held_drew (S := fun w' => True) (by kernel_rfl) ⟨⟩ (fun hHeld => ?_)
            generalize VR.drew = V0 at hV0  hHeld ⊢
            refine take_dst (i := 0) (d := 44) (v := .int .i64 0) rfl rfl (by kernel_rfl) (by kernel_rfl) (by kernel_rfl) (fun _ _ _ h => h) (Or.inl ⟨by rfl, ?_⟩) hHeld ?_
            · (intro w0 hSw; (try dsimp only at hSw); go_simp)
            simp only [Act.put, List.setIfInBounds_toArray, List.set_cons_zero, List.set_cons_succ]
            refine take_dst (i := 1) (d := 45) (v := .bool true) rfl rfl (by kernel_rfl) (by kernel_rfl) (by kernel_rfl) (fun _ _ _ h => h) (Or.inl ⟨by rfl, ?_⟩) hHeld ?_
            · (intro w0 hSw; (try dsimp only at hSw); go_simp)
            simp only [Act.put, List.setIfInBounds_toArray, List.set_cons_zero, List.set_cons_succ]
            refine take_dst (i := 2) (d := 46) (v := .bool true) rfl rfl (by kernel_rfl) (by kernel_rfl) (by kernel_rfl) (fun _ _ _ h => h) (Or.inl ⟨by rfl, ?_⟩) hHeld ?_
            · (intro w0 hSw; (try dsimp only at hSw); go_simp)
            simp only [Act.put, List.setIfInBounds_toArray, List.set_cons_zero, List.set_cons_succ]
            refine take_dst (i := 3) (d := 47) (v := .int .i64 0) rfl rfl (by kernel_rfl) (by kernel_rfl) (by kernel_rfl) (fun _ _ _ h => h) (Or.inl ⟨by rfl, ?_⟩) hHeld ?_
            · (intro w0 hSw; (try dsimp only at hSw); go_simp)
            simp only [Act.put, List.setIfInBounds_toArray, List.set_cons_zero, List.set_cons_succ]
            refine take_dst (i := 4) (d := 48) (v := .bool true) rfl rfl (by kernel_rfl) (by kernel_rfl) (by kernel_rfl) (fun _ _ _ h => h) (Or.inl ⟨by rfl, ?_⟩) hHeld ?_
            · (intro w0 hSw; (try dsimp only at hSw); go_simp)
            simp only [Act.put, List.setIfInBounds_toArray, List.set_cons_zero, List.set_cons_succ]
            refine take_dst (i := 5) (d := 49) (v := .bool true) rfl rfl (by kernel_rfl) (by kernel_rfl) (by kernel_rfl) (fun _ _ _ h => h) (Or.inl ⟨by rfl, ?_⟩) hHeld ?_
            · (intro w0 hSw; (try dsimp only at hSw); go_simp)
            simp only [Act.put, List.setIfInBounds_toArray, List.set_cons_zero, List.set_cons_succ]
            refine take_dst (i := 6) (d := 50) (v := .bool true) rfl rfl (by kernel_rfl) (by kernel_rfl) (by kernel_rfl) (fun _ _ _ h => h) (Or.inl ⟨by rfl, ?_⟩) hHeld ?_
            · (intro w0 hSw; (try dsimp only at hSw); go_simp)
            simp only [Act.put, List.setIfInBounds_toArray, List.set_cons_zero, List.set_cons_succ]
            refine take_dst (i := 7) (d := 51) (v := .slice (some ⟨bx, 0, none⟩) 32 32) rfl rfl (by kernel_rfl) (by kernel_rfl) (by kernel_rfl) (fun _ _ _ h => h) (Or.inl ⟨by rfl, ?_⟩) hHeld ?_
            · (intro w0 hSw; (try dsimp only at hSw); go_simp)
            simp only [Act.put, List.setIfInBounds_toArray, List.set_cons_zero, List.set_cons_succ]
            refine take_dst (i := 8) (d := 52) (v := .int .i64 32) rfl rfl (by kernel_rfl) (by kernel_rfl) (by kernel_rfl) (fun _ _ _ h => h) (Or.inl ⟨by rfl, ?_⟩) hHeld ?_
            · (intro w0 hSw; (try dsimp only at hSw); go_simp)
            simp only [Act.put, List.setIfInBounds_toArray, List.set_cons_zero, List.set_cons_succ]
            refine take_dst (i := 9) (d := 53) (v := .bool true) rfl rfl (by kernel_rfl) (by kernel_rfl) (by kernel_rfl) (fun _ _ _ h => h) (Or.inl ⟨by rfl, ?_⟩) hHeld ?_
            · (intro w0 hSw; (try dsimp only at hSw); go_simp)
            simp only [Act.put, List.setIfInBounds_toArray, List.set_cons_zero, List.set_cons_succ]
            refine take_dst (i := 10) (d := 54) (v := .bool true) rfl rfl (by kernel_rfl) (by kernel_rfl) (by kernel_rfl) (fun _ _ _ h => h) (Or.inl ⟨by rfl, ?_⟩) hHeld ?_
            · (intro w0 hSw; (try dsimp only at hSw); go_simp)
            simp only [Act.put, List.setIfInBounds_toArray, List.set_cons_zero, List.set_cons_succ]
            refine take_dst (i := 11) (d := 55) (v := .bool true) rfl rfl (by kernel_rfl) (by kernel_rfl) (by kernel_rfl) (fun _ _ _ h => h) (Or.inl ⟨by rfl, ?_⟩) hHeld ?_
            · (intro w0 hSw; (try dsimp only at hSw); go_simp)
            simp only [Act.put, List.setIfInBounds_toArray, List.set_cons_zero, List.set_cons_succ]
            refine take_dst (i := 12) (d := 56) (v := .slice (some ⟨bx, 0, none⟩) 32 32) rfl rfl (by kernel_rfl) (by kernel_rfl) (by kernel_rfl) (fun _ _ _ h => h) (Or.inl ⟨by rfl, ?_⟩) hHeld ?_
            · (intro w0 hSw; (try dsimp only at hSw); go_simp)
            simp only [Act.put, List.setIfInBounds_toArray, List.set_cons_zero, List.set_cons_succ]
            refine take_dst (i := 13) (d := 57) (v := .slice (some ⟨by', 0, none⟩) 32 32) rfl rfl (by kernel_rfl) (by kernel_rfl) (by kernel_rfl) (fun _ _ _ h => h) (Or.inl ⟨by rfl, ?_⟩) hHeld ?_
            · (intro w0 hSw; (try dsimp only at hSw); go_simp)
            simp only [Act.put, List.setIfInBounds_toArray, List.set_cons_zero, List.set_cons_succ]
            clear hHeld
            refine any_named (fun GO hGo hGi => ?_)
            refine act_named (fun A0 hA0 => ?_)
            have st_A : Hid (∀ (V : World), Below VR.heap.size VR V → GO 0 #[true, true, true, true, true, true, true, true, true, true, true, true, true, true, true, true, true, true, true, true, true, true, true, true, true, true, true, true] ((((((((((((((A0.put (some 58) (.bool false)).put (some 59) (.bool false)).put (some 60) (.bool false)).put (some 61) undef).put (some 62) undef).put (some 63) undef).put (some 64) undef).put (some 65) undef).put (some 66) undef).put (some 67) undef).put (some 68) undef).put (some 69) undef).put (some 70) undef).put (some 71) (.bool false)) V) := by
              show ∀ V, _
              intro V  hB 
              refine hGo.out _ _ _ _ ?_
              rw [← hA0.out]
              try simp only [Act.put, List.setIfInBounds_toArray, List.set_cons_zero, List.set_cons_succ]
              refine wpAnyH_done (by kernel_rfl) ?_ _
              (try go_wp2_with fail)
              go_roundw
              case rel =>
                have hBB := hB4.trans (hB.mono hB4.size)
                have hR : ∃ k' : Nat, k' ≤ i ∧ (Value.int .i64 ((k : Int) + 1)) = .int .i64 k' ∧ Below w.heap.size w V := ⟨k + 1, by omega, by go_num, hBB⟩
                first | exact hR | ((repeat apply Exists.intro); exact ⟨hR, rfl⟩)
              case measure => simp [intOf]; omega
            have st_0 : Hid (∀ (V : World), Below VR.heap.size VR V → GO 14 #[true, true, true, true, true, true, true, true, true, true, true, true, true, true, false, false, false, false, false, false, false, false, false, false, false, false, false, false] A0 V) := by
              show ∀ V, _
              intro V  hB 
              refine hGo.out _ _ _ _ ?_
              rw [← hA0.out]
              try simp only [Act.put, List.setIfInBounds_toArray, List.set_cons_zero, List.set_cons_succ]
              refine wpAnyH_ready (rs := [14]) (by kernel_rfl) (by simp) (AllReadyH.cons rfl (fun K hK => ?_) AllReadyH.nil)
              refine step_calls_on (by rfl) 58 rfl 37 [.tmp 56, .tmp 57] #[46, 46] rfl [.slice (some ⟨bx, 0, none⟩) 32 32, .slice (some ⟨by', 0, none⟩) 32 32] rfl (enters_of Tryd.func37 (by kernel_rfl) rfl) (fun v w' => v = .bool false ∧ V = w') ((HSB.out V hB).mono (fun e w2 h => ⟨_, h.1, rfl, h.2⟩)) ?_
              rintro v W' ⟨rfl, hwq⟩
              subst hwq
              refine hK.out _ _ ⟨⟩ (fun hHeld => ?_)
              simp only [Act.put, List.setIfInBounds_toArray, List.set_cons_zero, List.set_cons_succ]
              refine take_dst (i := 15) (d := 59) (v := .bool false) rfl rfl (by kernel_rfl) (by kernel_rfl) (by kernel_rfl) (fun _ _ _ h => h) (Or.inl ⟨by rfl, ?_⟩) hHeld ?_
              · (intro w0 hSw; (try dsimp only at hSw); go_simp)
              simp only [Act.put, List.setIfInBounds_toArray, List.set_cons_zero, List.set_cons_succ]
              refine take_dst (i := 16) (d := 60) (v := .bool false) rfl rfl (by kernel_rfl) (by kernel_rfl) (by kernel_rfl) (fun _ _ _ h => h) (Or.inl ⟨by rfl, ?_⟩) hHeld ?_
              · (intro w0 hSw; (try dsimp only at hSw); go_simp)
              simp only [Act.put, List.setIfInBounds_toArray, List.set_cons_zero, List.set_cons_succ]
              refine take_dst (i := 17) (d := 61) (v := undef) rfl rfl (by kernel_rfl) (by kernel_rfl) (by kernel_rfl) (fun _ _ _ h => h) (Or.inr ⟨by rfl, rfl⟩) hHeld ?_
              simp only [Act.put, List.setIfInBounds_toArray, List.set_cons_zero, List.set_cons_succ]
              refine take_dst (i := 18) (d := 62) (v := undef) rfl rfl (by kernel_rfl) (by kernel_rfl) (by kernel_rfl) (fun _ _ _ h => h) (Or.inr ⟨by rfl, rfl⟩) hHeld ?_
              simp only [Act.put, List.setIfInBounds_toArray, List.set_cons_zero, List.set_cons_succ]
              refine take_dst (i := 19) (d := 63) (v := undef) rfl rfl (by kernel_rfl) (by kernel_rfl) (by kernel_rfl) (fun _ _ _ h => h) (Or.inr ⟨by rfl, rfl⟩) hHeld ?_
              simp only [Act.put, List.setIfInBounds_toArray, List.set_cons_zero, List.set_cons_succ]
              refine take_dst (i := 20) (d := 64) (v := undef) rfl rfl (by kernel_rfl) (by kernel_rfl) (by kernel_rfl) (fun _ _ _ h => h) (Or.inr ⟨by rfl, rfl⟩) hHeld ?_
              simp only [Act.put, List.setIfInBounds_toArray, List.set_cons_zero, List.set_cons_succ]
              refine take_dst (i := 21) (d := 65) (v := undef) rfl rfl (by kernel_rfl) (by kernel_rfl) (by kernel_rfl) (fun _ _ _ h => h) (Or.inr ⟨by rfl, rfl⟩) hHeld ?_
              simp only [Act.put, List.setIfInBounds_toArray, List.set_cons_zero, List.set_cons_succ]
              refine take_dst (i := 22) (d := 66) (v := undef) rfl rfl (by kernel_rfl) (by kernel_rfl) (by kernel_rfl) (fun _ _ _ h => h) (Or.inr ⟨by rfl, rfl⟩) hHeld ?_
              simp only [Act.put, List.setIfInBounds_toArray, List.set_cons_zero, List.set_cons_succ]
              refine take_dst (i := 23) (d := 67) (v := undef) rfl rfl (by kernel_rfl) (by kernel_rfl) (by kernel_rfl) (fun _ _ _ h => h) (Or.inr ⟨by rfl, rfl⟩) hHeld ?_
              simp only [Act.put, List.setIfInBounds_toArray, List.set_cons_zero, List.set_cons_succ]
              refine take_dst (i := 24) (d := 68) (v := undef) rfl rfl (by kernel_rfl) (by kernel_rfl) (by kernel_rfl) (fun _ _ _ h => h) (Or.inr ⟨by rfl, rfl⟩) hHeld ?_
              simp only [Act.put, List.setIfInBounds_toArray, List.set_cons_zero, List.set_cons_succ]
              refine take_dst (i := 25) (d := 69) (v := undef) rfl rfl (by kernel_rfl) (by kernel_rfl) (by kernel_rfl) (fun _ _ _ h => h) (Or.inr ⟨by rfl, rfl⟩) hHeld ?_
              simp only [Act.put, List.setIfInBounds_toArray, List.set_cons_zero, List.set_cons_succ]
              refine take_dst (i := 26) (d := 70) (v := undef) rfl rfl (by kernel_rfl) (by kernel_rfl) (by kernel_rfl) (fun _ _ _ h => h) (Or.inr ⟨by rfl, rfl⟩) hHeld ?_
              simp only [Act.put, List.setIfInBounds_toArray, List.set_cons_zero, List.set_cons_succ]
              refine take_dst (i := 27) (d := 71) (v := .bool false) rfl rfl (by kernel_rfl) (by kernel_rfl) (by kernel_rfl) (fun _ _ _ h => h) (Or.inl ⟨by rfl, ?_⟩) hHeld ?_
              · (intro w0 hSw; (try dsimp only at hSw); go_simp)
              simp only [Act.put, List.setIfInBounds_toArray, List.set_cons_zero, List.set_cons_succ]
              clear hHeld
              have h := st_A.out V hB
              rw [← hA0.out] at h
              (try simp only [Act.put, List.setIfInBounds_toArray, List.set_cons_zero, List.set_cons_succ] at h)
              (try simp only [Act.put, List.setIfInBounds_toArray, List.set_cons_zero, List.set_cons_succ])
              exact hGi.out _ _ _ _ h
            exact st_0.out V0 hV0 
          | true =>
            cases Q with
            | true =>
              have hV0 : Below VR.heap.size VR VR.drew := (Below.refl _ _).drew
              refine wp_region_held_drew (S := fun w' => w'.cell? ⟨sb, so + i * 4, none⟩ = some (.int .i64 x.au) ∧ w'.cell? ⟨sb, so + i * 4 + 1, none⟩ = some (.int .i64 x.rd) ∧ w'.cell? ⟨sb, so + i * 4 + 2, none⟩ = some (.slice x.ba x.bl.length x.bc) ∧ w'.cell? ⟨sb, so + i * 4 + 3, none⟩ = some (.slice x.pa x.pl.length x.pc) ∧ w'.cell? ⟨sb, so + k * 4, none⟩ = some (.int .i64 y.au) ∧ w'.cell? ⟨sb, so + k * 4 + 1, none⟩ = some (.int .i64 y.rd) ∧ w'.cell? ⟨sb, so + k * 4 + 2, none⟩ = some (.slice y.ba y.bl.length y.bc) ∧ w'.cell? ⟨sb, so + k * 4 + 3, none⟩ = some (.slice y.pa y.pl.length y.pc)) (by kernel_rfl) ⟨(hV0.cell (p := ⟨sb, so + i * 4, none⟩) (block_lt_of_cell g0)).trans g0, (hV0.cell (p := ⟨sb, so + i * 4 + 1, none⟩) (block_lt_of_cell g1)).trans g1, (hV0.cell (p := ⟨sb, so + i * 4 + 2, none⟩) (block_lt_of_cell g2)).trans g2, (hV0.cell (p := ⟨sb, so + i * 4 + 3, none⟩) (block_lt_of_cell g3)).trans g3, (hV0.cell (p := ⟨sb, so + k * 4, none⟩) (block_lt_of_cell h0)).trans h0, (hV0.cell (p := ⟨sb, so + k * 4 + 1, none⟩) (block_lt_of_cell h1)).trans h1, (hV0.cell (p := ⟨sb, so + k * 4 + 2, none⟩) (block_lt_of_cell h2)).trans h2, (hV0.cell (p := ⟨sb, so + k * 4 + 3, none⟩) (block_lt_of_cell h3)).trans h3⟩ (fun hHeld => ?_)
              generalize VR.drew = V0 at hV0  hHeld ⊢
              refine take_dst (i := 0) (d := 44) (v := .int .i64 0) rfl rfl (by kernel_rfl) (by kernel_rfl) (by kernel_rfl) (fun _ _ _ h => h) (Or.inl ⟨by rfl, ?_⟩) hHeld ?_
              · (intro w0 hSw; (try dsimp only at hSw); go_simp)
              simp only [Act.put, List.setIfInBounds_toArray, List.set_cons_zero, List.set_cons_succ]
              refine take_dst (i := 1) (d := 45) (v := .bool true) rfl rfl (by kernel_rfl) (by kernel_rfl) (by kernel_rfl) (fun _ _ _ h => h) (Or.inl ⟨by rfl, ?_⟩) hHeld ?_
              · (intro w0 hSw; (try dsimp only at hSw); go_simp)
              simp only [Act.put, List.setIfInBounds_toArray, List.set_cons_zero, List.set_cons_succ]
              refine take_dst (i := 2) (d := 46) (v := .bool true) rfl rfl (by kernel_rfl) (by kernel_rfl) (by kernel_rfl) (fun _ _ _ h => h) (Or.inl ⟨by rfl, ?_⟩) hHeld ?_
              · (intro w0 hSw; (try dsimp only at hSw); go_simp)
              simp only [Act.put, List.setIfInBounds_toArray, List.set_cons_zero, List.set_cons_succ]
              refine take_dst (i := 3) (d := 47) (v := .int .i64 0) rfl rfl (by kernel_rfl) (by kernel_rfl) (by kernel_rfl) (fun _ _ _ h => h) (Or.inl ⟨by rfl, ?_⟩) hHeld ?_
              · (intro w0 hSw; (try dsimp only at hSw); go_simp)
              simp only [Act.put, List.setIfInBounds_toArray, List.set_cons_zero, List.set_cons_succ]
              refine take_dst (i := 4) (d := 48) (v := .bool true) rfl rfl (by kernel_rfl) (by kernel_rfl) (by kernel_rfl) (fun _ _ _ h => h) (Or.inl ⟨by rfl, ?_⟩) hHeld ?_
              · (intro w0 hSw; (try dsimp only at hSw); go_simp)
              simp only [Act.put, List.setIfInBounds_toArray, List.set_cons_zero, List.set_cons_succ]
              refine take_dst (i := 5) (d := 49) (v := .bool true) rfl rfl (by kernel_rfl) (by kernel_rfl) (by kernel_rfl) (fun _ _ _ h => h) (Or.inl ⟨by rfl, ?_⟩) hHeld ?_
              · (intro w0 hSw; (try dsimp only at hSw); go_simp)
              simp only [Act.put, List.setIfInBounds_toArray, List.set_cons_zero, List.set_cons_succ]
              refine take_dst (i := 6) (d := 50) (v := .bool true) rfl rfl (by kernel_rfl) (by kernel_rfl) (by kernel_rfl) (fun _ _ _ h => h) (Or.inl ⟨by rfl, ?_⟩) hHeld ?_
              · (intro w0 hSw; (try dsimp only at hSw); go_simp)
              simp only [Act.put, List.setIfInBounds_toArray, List.set_cons_zero, List.set_cons_succ]
              refine take_dst (i := 7) (d := 51) (v := .slice (some ⟨bx, 0, none⟩) 32 32) rfl rfl (by kernel_rfl) (by kernel_rfl) (by kernel_rfl) (fun _ _ _ h => h) (Or.inl ⟨by rfl, ?_⟩) hHeld ?_
              · (intro w0 hSw; (try dsimp only at hSw); go_simp)
              simp only [Act.put, List.setIfInBounds_toArray, List.set_cons_zero, List.set_cons_succ]
              refine take_dst (i := 8) (d := 52) (v := .int .i64 32) rfl rfl (by kernel_rfl) (by kernel_rfl) (by kernel_rfl) (fun _ _ _ h => h) (Or.inl ⟨by rfl, ?_⟩) hHeld ?_
              · (intro w0 hSw; (try dsimp only at hSw); go_simp)
              simp only [Act.put, List.setIfInBounds_toArray, List.set_cons_zero, List.set_cons_succ]
              refine take_dst (i := 9) (d := 53) (v := .bool true) rfl rfl (by kernel_rfl) (by kernel_rfl) (by kernel_rfl) (fun _ _ _ h => h) (Or.inl ⟨by rfl, ?_⟩) hHeld ?_
              · (intro w0 hSw; (try dsimp only at hSw); go_simp)
              simp only [Act.put, List.setIfInBounds_toArray, List.set_cons_zero, List.set_cons_succ]
              refine take_dst (i := 10) (d := 54) (v := .bool true) rfl rfl (by kernel_rfl) (by kernel_rfl) (by kernel_rfl) (fun _ _ _ h => h) (Or.inl ⟨by rfl, ?_⟩) hHeld ?_
              · (intro w0 hSw; (try dsimp only at hSw); go_simp)
              simp only [Act.put, List.setIfInBounds_toArray, List.set_cons_zero, List.set_cons_succ]
              refine take_dst (i := 11) (d := 55) (v := .bool true) rfl rfl (by kernel_rfl) (by kernel_rfl) (by kernel_rfl) (fun _ _ _ h => h) (Or.inl ⟨by rfl, ?_⟩) hHeld ?_
              · (intro w0 hSw; (try dsimp only at hSw); go_simp)
              simp only [Act.put, List.setIfInBounds_toArray, List.set_cons_zero, List.set_cons_succ]
              refine take_dst (i := 12) (d := 56) (v := .slice (some ⟨bx, 0, none⟩) 32 32) rfl rfl (by kernel_rfl) (by kernel_rfl) (by kernel_rfl) (fun _ _ _ h => h) (Or.inl ⟨by rfl, ?_⟩) hHeld ?_
              · (intro w0 hSw; (try dsimp only at hSw); go_simp)
              simp only [Act.put, List.setIfInBounds_toArray, List.set_cons_zero, List.set_cons_succ]
              refine take_dst (i := 13) (d := 57) (v := .slice (some ⟨by', 0, none⟩) 32 32) rfl rfl (by kernel_rfl) (by kernel_rfl) (by kernel_rfl) (fun _ _ _ h => h) (Or.inl ⟨by rfl, ?_⟩) hHeld ?_
              · (intro w0 hSw; (try dsimp only at hSw); go_simp)
              simp only [Act.put, List.setIfInBounds_toArray, List.set_cons_zero, List.set_cons_succ]
              clear hHeld
              refine any_named (fun GO hGo hGi => ?_)
              refine act_named (fun A0 hA0 => ?_)
              have st_AH : Hid (∀ (V : World), Below VR.heap.size VR V → GO 0 #[true, true, true, true, true, true, true, true, true, true, true, true, true, true, true, true, true, true, true, true, true, true, true, true, true, true, true, true] ((((((((((((((A0.put (some 58) (.bool true)).put (some 59) (.bool true)).put (some 60) (.bool true)).put (some 61) (.slice (some ⟨sb, so, none⟩) hs.length cap)).put (some 62) (.int .i64 (i : Int))).put (some 63) (.pointer (some ⟨sb, so + i * 4, none⟩))).put (some 64) (.agg #[.int .i64 x.au, .int .i64 x.rd, .slice x.ba x.bl.length x.bc, .slice x.pa x.pl.length x.pc])).put (some 65) (.slice (some ⟨sb, so, none⟩) hs.length cap)).put (some 66) (.int .i64 (k : Int))).put (some 67) (.pointer (some ⟨sb, so + k * 4, none⟩))).put (some 68) (.agg #[.int .i64 y.au, .int .i64 y.rd, .slice y.ba y.bl.length y.bc, .slice y.pa y.pl.length y.pc])).put (some 69) (.bool true)).put (some 70) (.bool false)).put (some 71) (.bool false)) V) := by
                show ∀ V, _
                intro V  hB 
                refine hGo.out _ _ _ _ ?_
                rw [← hA0.out]
                try simp only [Act.put, List.setIfInBounds_toArray, List.set_cons_zero, List.set_cons_succ]
                refine wpAnyH_done (by kernel_rfl) ?_ _
                (try go_wp2_with fail)
                go_roundw
                case rel =>
                  have hBB := hB4.trans (hB.mono hB4.size)
                  have hR : ∃ k' : Nat, k' ≤ i ∧ (Value.int .i64 ((k : Int) + 1)) = .int .i64 k' ∧ Below w.heap.size w V := ⟨k + 1, by omega, by go_num, hBB⟩
                  first | exact hR | ((repeat apply Exists.intro); exact ⟨hR, rfl⟩)
                case measure => simp [intOf]; omega
              have st_A : Hid (∀ (V : World), Below VR.heap.size VR V → GO 3 #[true, true, true, true, true, true, true, true, true, true, true, true, true, true, true, true, true, true, true, true, true, true, true, true, true, false, false, false] (((((((((((A0.put (some 58) (.bool true)).put (some 59) (.bool true)).put (some 60) (.bool true)).put (some 61) (.slice (some ⟨sb, so, none⟩) hs.length cap)).put (some 62) (.int .i64 (i : Int))).put (some 63) (.pointer (some ⟨sb, so + i * 4, none⟩))).put (some 64) (.agg #[.int .i64 x.au, .int .i64 x.rd, .slice x.ba x.bl.length x.bc, .slice x.pa x.pl.length x.pc])).put (some 65) (.slice (some ⟨sb, so, none⟩) hs.length cap)).put (some 66) (.int .i64 (k : Int))).put (some 67) (.pointer (some ⟨sb, so + k * 4, none⟩))).put (some 68) (.agg #[.int .i64 y.au, .int .i64 y.rd, .slice y.ba y.bl.length y.bc, .slice y.pa y.pl.length y.pc])) V) := by
                show ∀ V, _
                intro V  hB 
                refine hGo.out _ _ _ _ ?_
                rw [← hA0.out]
                try simp only [Act.put, List.setIfInBounds_toArray, List.set_cons_zero, List.set_cons_succ]
                refine wpAnyH_ready (rs := [25]) (by kernel_rfl) (by simp) (AllReadyH.cons rfl (fun K hK => ?_) AllReadyH.nil)
                refine step_calls_on (by rfl) 69 rfl 46 [.tmp 64, .tmp 68] #[60, 60] rfl [.agg #[.int .i64 x.au, .int .i64 x.rd, .slice x.ba x.bl.length x.bc, .slice x.pa x.pl.length x.pc], .agg #[.int .i64 y.au, .int .i64 y.rd, .slice y.ba y.bl.length y.bc, .slice y.pa y.pl.length y.pc]] rfl (enters_of Tryd.func46 (by kernel_rfl) rfl) (fun v w' => v = .bool true ∧ Below V.heap.size V w') ((HSH.out V hB).mono (fun e w2 h => ⟨_, h.1, rfl, h.2⟩)) ?_
                rintro v W' ⟨rfl, hb⟩
                have hBn := hB.trans (hb.mono hB.size)
                refine hK.out _ _ ⟨(hBn.cell (p := ⟨sb, so + i * 4, none⟩) (block_lt_of_cell g0)).trans g0, (hBn.cell (p := ⟨sb, so + i * 4 + 1, none⟩) (block_lt_of_cell g1)).trans g1, (hBn.cell (p := ⟨sb, so + i * 4 + 2, none⟩) (block_lt_of_cell g2)).trans g2, (hBn.cell (p := ⟨sb, so + i * 4 + 3, none⟩) (block_lt_of_cell g3)).trans g3, (hBn.cell (p := ⟨sb, so + k * 4, none⟩) (block_lt_of_cell h0)).trans h0, (hBn.cell (p := ⟨sb, so + k * 4 + 1, none⟩) (block_lt_of_cell h1)).trans h1, (hBn.cell (p := ⟨sb, so + k * 4 + 2, none⟩) (block_lt_of_cell h2)).trans h2, (hBn.cell (p := ⟨sb, so + k * 4 + 3, none⟩) (block_lt_of_cell h3)).trans h3⟩ (fun hHeld => ?_)
                simp only [Act.put, List.setIfInBounds_toArray, List.set_cons_zero, List.set_cons_succ]
                refine take_dst (i := 26) (d := 70) (v := .bool false) rfl rfl (by kernel_rfl) (by kernel_rfl) (by kernel_rfl) (fun _ _ _ h => h) (Or.inl ⟨by rfl, ?_⟩) hHeld ?_
                · (intro w0 hSw; (try dsimp only at hSw); go_simp)
                simp only [Act.put, List.setIfInBounds_toArray, List.set_cons_zero, List.set_cons_succ]
                refine take_dst (i := 27) (d := 71) (v := .bool false) rfl rfl (by kernel_rfl) (by kernel_rfl) (by kernel_rfl) (fun _ _ _ h => h) (Or.inl ⟨by rfl, ?_⟩) hHeld ?_
                · (intro w0 hSw; (try dsimp only at hSw); go_simp)
                simp only [Act.put, List.setIfInBounds_toArray, List.set_cons_zero, List.set_cons_succ]
                clear hHeld
                have h := st_AH.out W' hBn
                rw [← hA0.out] at h
                (try simp only [Act.put, List.setIfInBounds_toArray, List.set_cons_zero, List.set_cons_succ] at h)
                (try simp only [Act.put, List.setIfInBounds_toArray, List.set_cons_zero, List.set_cons_succ])
                exact hGi.out _ _ _ _ h
              have st_0 : Hid (∀ (V : World), Below VR.heap.size VR V → GO 14 #[true, true, true, true, true, true, true, true, true, true, true, true, true, true, false, false, false, false, false, false, false, false, false, false, false, false, false, false] A0 V) := by
                show ∀ V, _
                intro V  hB 
                refine hGo.out _ _ _ _ ?_
                rw [← hA0.out]
                try simp only [Act.put, List.setIfInBounds_toArray, List.set_cons_zero, List.set_cons_succ]
                refine wpAnyH_ready (rs := [14]) (by kernel_rfl) (by simp) (AllReadyH.cons rfl (fun K hK => ?_) AllReadyH.nil)
                refine step_calls_on (by rfl) 58 rfl 37 [.tmp 56, .tmp 57] #[46, 46] rfl [.slice (some ⟨bx, 0, none⟩) 32 32, .slice (some ⟨by', 0, none⟩) 32 32] rfl (enters_of Tryd.func37 (by kernel_rfl) rfl) (fun v w' => v = .bool true ∧ V = w') ((HSB.out V hB).mono (fun e w2 h => ⟨_, h.1, rfl, h.2⟩)) ?_
                rintro v W' ⟨rfl, hwq⟩
                subst hwq
                refine hK.out _ _ ⟨(hB.cell (p := ⟨sb, so + i * 4, none⟩) (block_lt_of_cell g0)).trans g0, (hB.cell (p := ⟨sb, so + i * 4 + 1, none⟩) (block_lt_of_cell g1)).trans g1, (hB.cell (p := ⟨sb, so + i * 4 + 2, none⟩) (block_lt_of_cell g2)).trans g2, (hB.cell (p := ⟨sb, so + i * 4 + 3, none⟩) (block_lt_of_cell g3)).trans g3, (hB.cell (p := ⟨sb, so + k * 4, none⟩) (block_lt_of_cell h0)).trans h0, (hB.cell (p := ⟨sb, so + k * 4 + 1, none⟩) (block_lt_of_cell h1)).trans h1, (hB.cell (p := ⟨sb, so + k * 4 + 2, none⟩) (block_lt_of_cell h2)).trans h2, (hB.cell (p := ⟨sb, so + k * 4 + 3, none⟩) (block_lt_of_cell h3)).trans h3⟩ (fun hHeld => ?_)
                simp only [Act.put, List.setIfInBounds_toArray, List.set_cons_zero, List.set_cons_succ]
                refine take_dst (i := 15) (d := 59) (v := .bool true) rfl rfl (by kernel_rfl) (by kernel_rfl) (by kernel_rfl) (fun _ _ _ h => h) (Or.inl ⟨by rfl, ?_⟩) hHeld ?_
                · (intro w0 hSw; (try dsimp only at hSw); go_simp)
                simp only [Act.put, List.setIfInBounds_toArray, List.set_cons_zero, List.set_cons_succ]
                refine take_dst (i := 16) (d := 60) (v := .bool true) rfl rfl (by kernel_rfl) (by kernel_rfl) (by kernel_rfl) (fun _ _ _ h => h) (Or.inl ⟨by rfl, ?_⟩) hHeld ?_
                · (intro w0 hSw; (try dsimp only at hSw); go_simp)
                simp only [Act.put, List.setIfInBounds_toArray, List.set_cons_zero, List.set_cons_succ]
                refine take_dst (i := 17) (d := 61) (v := .slice (some ⟨sb, so, none⟩) hs.length cap) rfl rfl (by kernel_rfl) (by kernel_rfl) (by kernel_rfl) (fun _ _ _ h => h) (Or.inl ⟨by rfl, ?_⟩) hHeld ?_
                · (intro w0 hSw; (try dsimp only at hSw); go_simp)
                simp only [Act.put, List.setIfInBounds_toArray, List.set_cons_zero, List.set_cons_succ]
                refine take_dst (i := 18) (d := 62) (v := .int .i64 (i : Int)) rfl rfl (by kernel_rfl) (by kernel_rfl) (by kernel_rfl) (fun _ _ _ h => h) (Or.inl ⟨by rfl, ?_⟩) hHeld ?_
                · (intro w0 hSw; (try dsimp only at hSw); go_simp)
                simp only [Act.put, List.setIfInBounds_toArray, List.set_cons_zero, List.set_cons_succ]
                refine take_dst (i := 19) (d := 63) (v := .pointer (some ⟨sb, so + i * 4, none⟩)) rfl rfl (by kernel_rfl) (by kernel_rfl) (by kernel_rfl) (fun _ _ _ h => h) (Or.inl ⟨by rfl, ?_⟩) hHeld ?_
                · (intro w0 hSw; (try dsimp only at hSw); go_simp)
                simp only [Act.put, List.setIfInBounds_toArray, List.set_cons_zero, List.set_cons_succ]
                refine take_dst (i := 20) (d := 64) (v := .agg #[.int .i64 x.au, .int .i64 x.rd, .slice x.ba x.bl.length x.bc, .slice x.pa x.pl.length x.pc]) rfl rfl (by kernel_rfl) (by kernel_rfl) (by kernel_rfl) (fun _ _ _ h => h) (Or.inl ⟨by rfl, ?_⟩) hHeld ?_
                · (intro w0 hSw; (try dsimp only at hSw); go_simp)
                simp only [Act.put, List.setIfInBounds_toArray, List.set_cons_zero, List.set_cons_succ]
                refine take_dst (i := 21) (d := 65) (v := .slice (some ⟨sb, so, none⟩) hs.length cap) rfl rfl (by kernel_rfl) (by kernel_rfl) (by kernel_rfl) (fun _ _ _ h => h) (Or.inl ⟨by rfl, ?_⟩) hHeld ?_
                · (intro w0 hSw; (try dsimp only at hSw); go_simp)
                simp only [Act.put, List.setIfInBounds_toArray, List.set_cons_zero, List.set_cons_succ]
                refine take_dst (i := 22) (d := 66) (v := .int .i64 (k : Int)) rfl rfl (by kernel_rfl) (by kernel_rfl) (by kernel_rfl) (fun _ _ _ h => h) (Or.inl ⟨by rfl, ?_⟩) hHeld ?_
                · (intro w0 hSw; (try dsimp only at hSw); go_simp)
                simp only [Act.put, List.setIfInBounds_toArray, List.set_cons_zero, List.set_cons_succ]
                refine take_dst (i := 23) (d := 67) (v := .pointer (some ⟨sb, so + k * 4, none⟩)) rfl rfl (by kernel_rfl) (by kernel_rfl) (by kernel_rfl) (fun _ _ _ h => h) (Or.inl ⟨by rfl, ?_⟩) hHeld ?_
                · (intro w0 hSw; (try dsimp only at hSw); go_simp)
                simp only [Act.put, List.setIfInBounds_toArray, List.set_cons_zero, List.set_cons_succ]
                refine take_dst (i := 24) (d := 68) (v := .agg #[.int .i64 y.au, .int .i64 y.rd, .slice y.ba y.bl.length y.bc, .slice y.pa y.pl.length y.pc]) rfl rfl (by kernel_rfl) (by kernel_rfl) (by kernel_rfl) (fun _ _ _ h => h) (Or.inl ⟨by rfl, ?_⟩) hHeld ?_
                · (intro w0 hSw; (try dsimp only at hSw); go_simp)
                simp only [Act.put, List.setIfInBounds_toArray, List.set_cons_zero, List.set_cons_succ]
                clear hHeld
                have h := st_A.out V hB
                rw [← hA0.out] at h
                (try simp only [Act.put, List.setIfInBounds_toArray, List.set_cons_zero, List.set_cons_succ] at h)
                (try simp only [Act.put, List.setIfInBounds_toArray, List.set_cons_zero, List.set_cons_succ])
                exact hGi.out _ _ _ _ h
              exact st_0.out V0 hV0 
            | false =>
              have hV0 : Below VR.heap.size VR VR.drew := (Below.refl _ _).drew
              refine wp_region_held_drew (S := fun w' => w'.cell? ⟨sb, so + i * 4, none⟩ = some (.int .i64 x.au) ∧ w'.cell? ⟨sb, so + i * 4 + 1, none⟩ = some (.int .i64 x.rd) ∧ w'.cell? ⟨sb, so + i * 4 + 2, none⟩ = some (.slice x.ba x.bl.length x.bc) ∧ w'.cell? ⟨sb, so + i * 4 + 3, none⟩ = some (.slice x.pa x.pl.length x.pc) ∧ w'.cell? ⟨sb, so + k * 4, none⟩ = some (.int .i64 y.au) ∧ w'.cell? ⟨sb, so + k * 4 + 1, none⟩ = some (.int .i64 y.rd) ∧ w'.cell? ⟨sb, so + k * 4 + 2, none⟩ = some (.slice y.ba y.bl.length y.bc) ∧ w'.cell? ⟨sb, so + k * 4 + 3, none⟩ = some (.slice y.pa y.pl.length y.pc)) (by kernel_rfl) ⟨(hV0.cell (p := ⟨sb, so + i * 4, none⟩) (block_lt_of_cell g0)).trans g0, (hV0.cell (p := ⟨sb, so + i * 4 + 1, none⟩) (block_lt_of_cell g1)).trans g1, (hV0.cell (p := ⟨sb, so + i * 4 + 2, none⟩) (block_lt_of_cell g2)).trans g2, (hV0.cell (p := ⟨sb, so + i * 4 + 3, none⟩) (block_lt_of_cell g3)).trans g3, (hV0.cell (p := ⟨sb, so + k * 4, none⟩) (block_lt_of_cell h0)).trans h0, (hV0.cell (p := ⟨sb, so + k * 4 + 1, none⟩) (block_lt_of_cell h1)).trans h1, (hV0.cell (p := ⟨sb, so + k * 4 + 2, none⟩) (block_lt_of_cell h2)).trans h2, (hV0.cell (p := ⟨sb, so + k * 4 + 3, none⟩) (block_lt_of_cell h3)).trans h3⟩ (fun hHeld => ?_)
              generalize VR.drew = V0 at hV0  hHeld ⊢
              refine take_dst (i := 0) (d := 44) (v := .int .i64 0) rfl rfl (by kernel_rfl) (by kernel_rfl) (by kernel_rfl) (fun _ _ _ h => h) (Or.inl ⟨by rfl, ?_⟩) hHeld ?_
              · (intro w0 hSw; (try dsimp only at hSw); go_simp)
              simp only [Act.put, List.setIfInBounds_toArray, List.set_cons_zero, List.set_cons_succ]
              refine take_dst (i := 1) (d := 45) (v := .bool true) rfl rfl (by kernel_rfl) (by kernel_rfl) (by kernel_rfl) (fun _ _ _ h => h) (Or.inl ⟨by rfl, ?_⟩) hHeld ?_
              · (intro w0 hSw; (try dsimp only at hSw); go_simp)
              simp only [Act.put, List.setIfInBounds_toArray, List.set_cons_zero, List.set_cons_succ]
              refine take_dst (i := 2) (d := 46) (v := .bool true) rfl rfl (by kernel_rfl) (by kernel_rfl) (by kernel_rfl) (fun _ _ _ h => h) (Or.inl ⟨by rfl, ?_⟩) hHeld ?_
              · (intro w0 hSw; (try dsimp only at hSw); go_simp)
              simp only [Act.put, List.setIfInBounds_toArray, List.set_cons_zero, List.set_cons_succ]
              refine take_dst (i := 3) (d := 47) (v := .int .i64 0) rfl rfl (by kernel_rfl) (by kernel_rfl) (by kernel_rfl) (fun _ _ _ h => h) (Or.inl ⟨by rfl, ?_⟩) hHeld ?_
              · (intro w0 hSw; (try dsimp only at hSw); go_simp)
              simp only [Act.put, List.setIfInBounds_toArray, List.set_cons_zero, List.set_cons_succ]
              refine take_dst (i := 4) (d := 48) (v := .bool true) rfl rfl (by kernel_rfl) (by kernel_rfl) (by kernel_rfl) (fun _ _ _ h => h) (Or.inl ⟨by rfl, ?_⟩) hHeld ?_
              · (intro w0 hSw; (try dsimp only at hSw); go_simp)
              simp only [Act.put, List.setIfInBounds_toArray, List.set_cons_zero, List.set_cons_succ]
              refine take_dst (i := 5) (d := 49) (v := .bool true) rfl rfl (by kernel_rfl) (by kernel_rfl) (by kernel_rfl) (fun _ _ _ h => h) (Or.inl ⟨by rfl, ?_⟩) hHeld ?_
              · (intro w0 hSw; (try dsimp only at hSw); go_simp)
              simp only [Act.put, List.setIfInBounds_toArray, List.set_cons_zero, List.set_cons_succ]
              refine take_dst (i := 6) (d := 50) (v := .bool true) rfl rfl (by kernel_rfl) (by kernel_rfl) (by kernel_rfl) (fun _ _ _ h => h) (Or.inl ⟨by rfl, ?_⟩) hHeld ?_
              · (intro w0 hSw; (try dsimp only at hSw); go_simp)
              simp only [Act.put, List.setIfInBounds_toArray, List.set_cons_zero, List.set_cons_succ]
              refine take_dst (i := 7) (d := 51) (v := .slice (some ⟨bx, 0, none⟩) 32 32) rfl rfl (by kernel_rfl) (by kernel_rfl) (by kernel_rfl) (fun _ _ _ h => h) (Or.inl ⟨by rfl, ?_⟩) hHeld ?_
              · (intro w0 hSw; (try dsimp only at hSw); go_simp)
              simp only [Act.put, List.setIfInBounds_toArray, List.set_cons_zero, List.set_cons_succ]
              refine take_dst (i := 8) (d := 52) (v := .int .i64 32) rfl rfl (by kernel_rfl) (by kernel_rfl) (by kernel_rfl) (fun _ _ _ h => h) (Or.inl ⟨by rfl, ?_⟩) hHeld ?_
              · (intro w0 hSw; (try dsimp only at hSw); go_simp)
              simp only [Act.put, List.setIfInBounds_toArray, List.set_cons_zero, List.set_cons_succ]
              refine take_dst (i := 9) (d := 53) (v := .bool true) rfl rfl (by kernel_rfl) (by kernel_rfl) (by kernel_rfl) (fun _ _ _ h => h) (Or.inl ⟨by rfl, ?_⟩) hHeld ?_
              · (intro w0 hSw; (try dsimp only at hSw); go_simp)
              simp only [Act.put, List.setIfInBounds_toArray, List.set_cons_zero, List.set_cons_succ]
              refine take_dst (i := 10) (d := 54) (v := .bool true) rfl rfl (by kernel_rfl) (by kernel_rfl) (by kernel_rfl) (fun _ _ _ h => h) (Or.inl ⟨by rfl, ?_⟩) hHeld ?_
              · (intro w0 hSw; (try dsimp only at hSw); go_simp)
              simp only [Act.put, List.setIfInBounds_toArray, List.set_cons_zero, List.set_cons_succ]
              refine take_dst (i := 11) (d := 55) (v := .bool true) rfl rfl (by kernel_rfl) (by kernel_rfl) (by kernel_rfl) (fun _ _ _ h => h) (Or.inl ⟨by rfl, ?_⟩) hHeld ?_
              · (intro w0 hSw; (try dsimp only at hSw); go_simp)
              simp only [Act.put, List.setIfInBounds_toArray, List.set_cons_zero, List.set_cons_succ]
              refine take_dst (i := 12) (d := 56) (v := .slice (some ⟨bx, 0, none⟩) 32 32) rfl rfl (by kernel_rfl) (by kernel_rfl) (by kernel_rfl) (fun _ _ _ h => h) (Or.inl ⟨by rfl, ?_⟩) hHeld ?_
              · (intro w0 hSw; (try dsimp only at hSw); go_simp)
              simp only [Act.put, List.setIfInBounds_toArray, List.set_cons_zero, List.set_cons_succ]
              refine take_dst (i := 13) (d := 57) (v := .slice (some ⟨by', 0, none⟩) 32 32) rfl rfl (by kernel_rfl) (by kernel_rfl) (by kernel_rfl) (fun _ _ _ h => h) (Or.inl ⟨by rfl, ?_⟩) hHeld ?_
              · (intro w0 hSw; (try dsimp only at hSw); go_simp)
              simp only [Act.put, List.setIfInBounds_toArray, List.set_cons_zero, List.set_cons_succ]
              clear hHeld
              refine any_named (fun GO hGo hGi => ?_)
              refine act_named (fun A0 hA0 => ?_)
              have st_AH : Hid (∀ (V : World), Below VR.heap.size VR V → GO 0 #[true, true, true, true, true, true, true, true, true, true, true, true, true, true, true, true, true, true, true, true, true, true, true, true, true, true, true, true] ((((((((((((((A0.put (some 58) (.bool true)).put (some 59) (.bool true)).put (some 60) (.bool true)).put (some 61) (.slice (some ⟨sb, so, none⟩) hs.length cap)).put (some 62) (.int .i64 (i : Int))).put (some 63) (.pointer (some ⟨sb, so + i * 4, none⟩))).put (some 64) (.agg #[.int .i64 x.au, .int .i64 x.rd, .slice x.ba x.bl.length x.bc, .slice x.pa x.pl.length x.pc])).put (some 65) (.slice (some ⟨sb, so, none⟩) hs.length cap)).put (some 66) (.int .i64 (k : Int))).put (some 67) (.pointer (some ⟨sb, so + k * 4, none⟩))).put (some 68) (.agg #[.int .i64 y.au, .int .i64 y.rd, .slice y.ba y.bl.length y.bc, .slice y.pa y.pl.length y.pc])).put (some 69) (.bool false)).put (some 70) (.bool true)).put (some 71) (.bool true)) V) := by
                show ∀ V, _
                intro V  hB 
                refine hGo.out _ _ _ _ ?_
                rw [← hA0.out]
                try simp only [Act.put, List.setIfInBounds_toArray, List.set_cons_zero, List.set_cons_succ]
                refine wpAnyH_done (by kernel_rfl) ?_ _
                have hBB := hB4.trans (hB.mono hB4.size)
                (try go_wp2_with fail)
                go_ret
                exact ⟨rfl, hBB⟩
              have st_A : Hid (∀ (V : World), Below VR.heap.size VR V → GO 3 #[true, true, true, true, true, true, true, true, true, true, true, true, true, true, true, true, true, true, true, true, true, true, true, true, true, false, false, false] (((((((((((A0.put (some 58) (.bool true)).put (some 59) (.bool true)).put (some 60) (.bool true)).put (some 61) (.slice (some ⟨sb, so, none⟩) hs.length cap)).put (some 62) (.int .i64 (i : Int))).put (some 63) (.pointer (some ⟨sb, so + i * 4, none⟩))).put (some 64) (.agg #[.int .i64 x.au, .int .i64 x.rd, .slice x.ba x.bl.length x.bc, .slice x.pa x.pl.length x.pc])).put (some 65) (.slice (some ⟨sb, so, none⟩) hs.length cap)).put (some 66) (.int .i64 (k : Int))).put (some 67) (.pointer (some ⟨sb, so + k * 4, none⟩))).put (some 68) (.agg #[.int .i64 y.au, .int .i64 y.rd, .slice y.ba y.bl.length y.bc, .slice y.pa y.pl.length y.pc])) V) := by
                show ∀ V, _
                intro V  hB 
                refine hGo.out _ _ _ _ ?_
                rw [← hA0.out]
                try simp only [Act.put, List.setIfInBounds_toArray, List.set_cons_zero, List.set_cons_succ]
                refine wpAnyH_ready (rs := [25]) (by kernel_rfl) (by simp) (AllReadyH.cons rfl (fun K hK => ?_) AllReadyH.nil)
                refine step_calls_on (by rfl) 69 rfl 46 [.tmp 64, .tmp 68] #[60, 60] rfl [.agg #[.int .i64 x.au, .int .i64 x.rd, .slice x.ba x.bl.length x.bc, .slice x.pa x.pl.length x.pc], .agg #[.int .i64 y.au, .int .i64 y.rd, .slice y.ba y.bl.length y.bc, .slice y.pa y.pl.length y.pc]] rfl (enters_of Tryd.func46 (by kernel_rfl) rfl) (fun v w' => v = .bool false ∧ Below V.heap.size V w') ((HSH.out V hB).mono (fun e w2 h => ⟨_, h.1, rfl, h.2⟩)) ?_
                rintro v W' ⟨rfl, hb⟩
                have hBn := hB.trans (hb.mono hB.size)
                refine hK.out _ _ ⟨(hBn.cell (p := ⟨sb, so + i * 4, none⟩) (block_lt_of_cell g0)).trans g0, (hBn.cell (p := ⟨sb, so + i * 4 + 1, none⟩) (block_lt_of_cell g1)).trans g1, (hBn.cell (p := ⟨sb, so + i * 4 + 2, none⟩) (block_lt_of_cell g2)).trans g2, (hBn.cell (p := ⟨sb, so + i * 4 + 3, none⟩) (block_lt_of_cell g3)).trans g3, (hBn.cell (p := ⟨sb, so + k * 4, none⟩) (block_lt_of_cell h0)).trans h0, (hBn.cell (p := ⟨sb, so + k * 4 + 1, none⟩) (block_lt_of_cell h1)).trans h1, (hBn.cell (p := ⟨sb, so + k * 4 + 2, none⟩) (block_lt_of_cell h2)).trans h2, (hBn.cell (p := ⟨sb, so + k * 4 + 3, none⟩) (block_lt_of_cell h3)).trans h3⟩ (fun hHeld => ?_)
                simp only [Act.put, List.setIfInBounds_toArray, List.set_cons_zero, List.set_cons_succ]
                refine take_dst (i := 26) (d := 70) (v := .bool true) rfl rfl (by kernel_rfl) (by kernel_rfl) (by kernel_rfl) (fun _ _ _ h => h) (Or.inl ⟨by rfl, ?_⟩) hHeld ?_
                · (intro w0 hSw; (try dsimp only at hSw); go_simp)
                simp only [Act.put, List.setIfInBounds_toArray, List.set_cons_zero, List.set_cons_succ]
                refine take_dst (i := 27) (d := 71) (v := .bool true) rfl rfl (by kernel_rfl) (by kernel_rfl) (by kernel_rfl) (fun _ _ _ h => h) (Or.inl ⟨by rfl, ?_⟩) hHeld ?_
                · (intro w0 hSw; (try dsimp only at hSw); go_simp)
                simp only [Act.put, List.setIfInBounds_toArray, List.set_cons_zero, List.set_cons_succ]
                clear hHeld
                have h := st_AH.out W' hBn
                rw [← hA0.out] at h
                (try simp only [Act.put, List.setIfInBounds_toArray, List.set_cons_zero, List.set_cons_succ] at h)
                (try simp only [Act.put, List.setIfInBounds_toArray, List.set_cons_zero, List.set_cons_succ])
                exact hGi.out _ _ _ _ h
              have st_0 : Hid (∀ (V : World), Below VR.heap.size VR V → GO 14 #[true, true, true, true, true, true, true, true, true, true, true, true, true, true, false, false, false, false, false, false, false, false, false, false, false, false, false, false] A0 V) := by
                show ∀ V, _
                intro V  hB 
                refine hGo.out _ _ _ _ ?_
                rw [← hA0.out]
                try simp only [Act.put, List.setIfInBounds_toArray, List.set_cons_zero, List.set_cons_succ]
                refine wpAnyH_ready (rs := [14]) (by kernel_rfl) (by simp) (AllReadyH.cons rfl (fun K hK => ?_) AllReadyH.nil)
                refine step_calls_on (by rfl) 58 rfl 37 [.tmp 56, .tmp 57] #[46, 46] rfl [.slice (some ⟨bx, 0, none⟩) 32 32, .slice (some ⟨by', 0, none⟩) 32 32] rfl (enters_of Tryd.func37 (by kernel_rfl) rfl) (fun v w' => v = .bool true ∧ V = w') ((HSB.out V hB).mono (fun e w2 h => ⟨_, h.1, rfl, h.2⟩)) ?_
                rintro v W' ⟨rfl, hwq⟩
                subst hwq
                refine hK.out _ _ ⟨(hB.cell (p := ⟨sb, so + i * 4, none⟩) (block_lt_of_cell g0)).trans g0, (hB.cell (p := ⟨sb, so + i * 4 + 1, none⟩) (block_lt_of_cell g1)).trans g1, (hB.cell (p := ⟨sb, so + i * 4 + 2, none⟩) (block_lt_of_cell g2)).trans g2, (hB.cell (p := ⟨sb, so + i * 4 + 3, none⟩) (block_lt_of_cell g3)).trans g3, (hB.cell (p := ⟨sb, so + k * 4, none⟩) (block_lt_of_cell h0)).trans h0, (hB.cell (p := ⟨sb, so + k * 4 + 1, none⟩) (block_lt_of_cell h1)).trans h1, (hB.cell (p := ⟨sb, so + k * 4 + 2, none⟩) (block_lt_of_cell h2)).trans h2, (hB.cell (p := ⟨sb, so + k * 4 + 3, none⟩) (block_lt_of_cell h3)).trans h3⟩ (fun hHeld => ?_)
                simp only [Act.put, List.setIfInBounds_toArray, List.set_cons_zero, List.set_cons_succ]
                refine take_dst (i := 15) (d := 59) (v := .bool true) rfl rfl (by kernel_rfl) (by kernel_rfl) (by kernel_rfl) (fun _ _ _ h => h) (Or.inl ⟨by rfl, ?_⟩) hHeld ?_
                · (intro w0 hSw; (try dsimp only at hSw); go_simp)
                simp only [Act.put, List.setIfInBounds_toArray, List.set_cons_zero, List.set_cons_succ]
                refine take_dst (i := 16) (d := 60) (v := .bool true) rfl rfl (by kernel_rfl) (by kernel_rfl) (by kernel_rfl) (fun _ _ _ h => h) (Or.inl ⟨by rfl, ?_⟩) hHeld ?_
                · (intro w0 hSw; (try dsimp only at hSw); go_simp)
                simp only [Act.put, List.setIfInBounds_toArray, List.set_cons_zero, List.set_cons_succ]
                refine take_dst (i := 17) (d := 61) (v := .slice (some ⟨sb, so, none⟩) hs.length cap) rfl rfl (by kernel_rfl) (by kernel_rfl) (by kernel_rfl) (fun _ _ _ h => h) (Or.inl ⟨by rfl, ?_⟩) hHeld ?_
                · (intro w0 hSw; (try dsimp only at hSw); go_simp)
                simp only [Act.put, List.setIfInBounds_toArray, List.set_cons_zero, List.set_cons_succ]
                refine take_dst (i := 18) (d := 62) (v := .int .i64 (i : Int)) rfl rfl (by kernel_rfl) (by kernel_rfl) (by kernel_rfl) (fun _ _ _ h => h) (Or.inl ⟨by rfl, ?_⟩) hHeld ?_
                · (intro w0 hSw; (try dsimp only at hSw); go_simp)
                simp only [Act.put, List.setIfInBounds_toArray, List.set_cons_zero, List.set_cons_succ]
                refine take_dst (i := 19) (d := 63) (v := .pointer (some ⟨sb, so + i * 4, none⟩)) rfl rfl (by kernel_rfl) (by kernel_rfl) (by kernel_rfl) (fun _ _ _ h => h) (Or.inl ⟨by rfl, ?_⟩) hHeld ?_
                · (intro w0 hSw; (try dsimp only at hSw); go_simp)
                simp only [Act.put, List.setIfInBounds_toArray, List.set_cons_zero, List.set_cons_succ]
                refine take_dst (i := 20) (d := 64) (v := .agg #[.int .i64 x.au, .int .i64 x.rd, .slice x.ba x.bl.length x.bc, .slice x.pa x.pl.length x.pc]) rfl rfl (by kernel_rfl) (by kernel_rfl) (by kernel_rfl) (fun _ _ _ h => h) (Or.inl ⟨by rfl, ?_⟩) hHeld ?_
                · (intro w0 hSw; (try dsimp only at hSw); go_simp)
                simp only [Act.put, List.setIfInBounds_toArray, List.set_cons_zero, List.set_cons_succ]
                refine take_dst (i := 21) (d := 65) (v := .slice (some ⟨sb, so, none⟩) hs.length cap) rfl rfl (by kernel_rfl) (by kernel_rfl) (by kernel_rfl) (fun _ _ _ h => h) (Or.inl ⟨by rfl, ?_⟩) hHeld ?_
                · (intro w0 hSw; (try dsimp only at hSw); go_simp)
                simp only [Act.put, List.setIfInBounds_toArray, List.set_cons_zero, List.set_cons_succ]
                refine take_dst (i := 22) (d := 66) (v := .int .i64 (k : Int)) rfl rfl (by kernel_rfl) (by kernel_rfl) (by kernel_rfl) (fun _ _ _ h => h) (Or.inl ⟨by rfl, ?_⟩) hHeld ?_
                · (intro w0 hSw; (try dsimp only at hSw); go_simp)
                simp only [Act.put, List.setIfInBounds_toArray, List.set_cons_zero, List.set_cons_succ]
                refine take_dst (i := 23) (d := 67) (v := .pointer (some ⟨sb, so + k * 4, none⟩)) rfl rfl (by kernel_rfl) (by kernel_rfl) (by kernel_rfl) (fun _ _ _ h => h) (Or.inl ⟨by rfl, ?_⟩) hHeld ?_
                · (intro w0 hSw; (try dsimp only at hSw); go_simp)
                simp only [Act.put, List.setIfInBounds_toArray, List.set_cons_zero, List.set_cons_succ]
                refine take_dst (i := 24) (d := 68) (v := .agg #[.int .i64 y.au, .int .i64 y.rd, .slice y.ba y.bl.length y.bc, .slice y.pa y.pl.length y.pc]) rfl rfl (by kernel_rfl) (by kernel_rfl) (by kernel_rfl) (fun _ _ _ h => h) (Or.inl ⟨by rfl, ?_⟩) hHeld ?_
                · (intro w0 hSw; (try dsimp only at hSw); go_simp)
                simp only [Act.put, List.setIfInBounds_toArray, List.set_cons_zero, List.set_cons_succ]
                clear hHeld
                have h := st_A.out V hB
                rw [← hA0.out] at h
                (try simp only [Act.put, List.setIfInBounds_toArray, List.set_cons_zero, List.set_cons_succ] at h)
                (try simp only [Act.put, List.setIfInBounds_toArray, List.set_cons_zero, List.set_cons_succ])
                exact hGi.out _ _ _ _ h
              exact st_0.out V0 hV0 
        · obtain rfl : k = i := by omega
          have hltI : ¬ (k : Int) < k := by omega
          go_wp2_with fail
          go_roundw
          case rel =>
            have hR : ∃ i' : Nat, i' ≤ hs.length ∧ (Value.int .i64 ((k : Int) + 1)) = .int .i64 i' ∧ Below w.heap.size w wr := ⟨k + 1, by omega, by go_num, hb0⟩
            first | exact hR | ((repeat apply Exists.intro); exact ⟨hR, rfl⟩)
          case measure => simp [intOf]; omega
    · obtain rfl : i = hs.length := by omega
      have hltI : ¬ (hs.length : Int) < hs.length := by omega
      clear HC HA
      go_wp2_with fail
      go_loopw [11] (fun j wr => ∃ i : Nat, i ≤ I ∧ j = .int .i64 i ∧ Below w.heap.size w wr) (fun j _ => bl.length - (intOf j).toNat)
      case atStart => exact ⟨0, Nat.zero_le _, rfl, hb⟩
      case round =>
        obtain ⟨i, hi, rfl, hb⟩ := hrel
        have hiL : i < bl.length := by have := HIL.out; omega
        have hiI : (i : Int) < bl.length := by omega
        go_wp2_with fail
        go_loopw [12] (fun j wr => ∃ k : Nat, (k ≤ i ∧ (i = I → k ≤ K)) ∧ j = .int .i64 k ∧ Below w.heap.size w wr) (fun j _ => i - (intOf j).toNat)
        case atStart => exact ⟨0, ⟨Nat.zero_le _, fun _ => Nat.zero_le _⟩, rfl, hb⟩
        case round =>
          obtain ⟨k, ⟨hk, hkK⟩, rfl, hb0⟩ := hrel
          have HKK : Hid _ := hkK
          clear hkK
          by_cases hlt : k < i
          · have hltI : (k : Int) < i := by omega
            have hkL : k < bl.length := by omega
            have hkI : (k : Int) < bl.length := by omega
            obtain ⟨x, hxe⟩ : ∃ x, bcAt bl i = x := ⟨_, rfl⟩
            obtain ⟨y, hye⟩ : ∃ y, bcAt bl k = y := ⟨_, rfl⟩
            obtain ⟨c0, c1, c2⟩ := HCB.out i hiL wr hb0
            rw [hxe] at c0 c1 c2
            have HX : Hid (∀ W : World, Below w.heap.size w W → BcAt W x ∧ x.v.f = 0) := by
              show ∀ W, _
              intro W hW
              rw [← hxe]; exact HAB.out i hiL W hW
            have HY : Hid (∀ W : World, Below w.heap.size w W → BcAt W y ∧ y.v.f = 0) := by
              show ∀ W, _
              intro W hW
              rw [← hye]; exact HAB.out k hkL W hW
            have HNX : Hid ((i = I → k = K → False) → i = I → k + 1 ≤ K) := by
              show _ → _
              intro h1 h2
              have h3 := HKK.out h2
              have h4 : ¬ k = K := h1 h2
              omega
            have HHIT : Hid (i = I → k = K → x.v.d = y.v.d ∧ x.v ≠ y.v) := by
              show _ → _
              intro h1 h2
              rw [← hxe, ← hye, h1, h2]
              exact HDU.out
            have HDX : Hid (∀ W : World, Below w.heap.size w W → Calls Tryd.prog 42 #[.agg #[.int .i64 x.v.au, .int .i64 x.v.nu, .slice x.ta x.v.ss.length x.tc]] W fun e w' => ∃ b, e = .returned (.tuple #[.slice (some ⟨b, 0, none⟩) 32 32, .int .i64 0]) ∧ W.heap.size ≤ b ∧ Below W.heap.size W w' ∧ SliceAt w' (some ⟨b, 0, none⟩) 32 x.v.d) := by
              show ∀ W, _
              intro W hW
              obtain ⟨y1, y2, y3, y4⟩ := batchF_ok (HX.out W hW).2
              exact batchDigest_ok x.v.au x.v.nu x.ta _ x.tc x.v.ss W rfl (HX.out W hW).1.strs (HX.out W hW).2 y1 (by omega) y3.2 (fun s hs => (y4 s hs).2) (HX.out W hW).1.lt (HT.out W hW)
            have HDY : Hid (∀ W : World, Below w.heap.size w W → Calls Tryd.prog 42 #[.agg #[.int .i64 y.v.au, .int .i64 y.v.nu, .slice y.ta y.v.ss.length y.tc]] W fun e w' => ∃ b, e = .returned (.tuple #[.slice (some ⟨b, 0, none⟩) 32 32, .int .i64 0]) ∧ W.heap.size ≤ b ∧ Below W.heap.size W w' ∧ SliceAt w' (some ⟨b, 0, none⟩) 32 y.v.d) := by
              show ∀ W, _
              intro W hW
              obtain ⟨y1, y2, y3, y4⟩ := batchF_ok (HY.out W hW).2
              exact batchDigest_ok y.v.au y.v.nu y.ta _ y.tc y.v.ss W rfl (HY.out W hW).1.strs (HY.out W hW).2 y1 (by omega) y3.2 (fun s hs => (y4 s hs).2) (HY.out W hW).1.lt (HT.out W hW)
            have HXL : Hid (x.v.ss.length ≤ 1000 ∧ y.v.ss.length ≤ 1000) := by
              have a1 := (batchF_ok (HX.out wr hb0).2).2.2.1
              have a2 := (batchF_ok (HY.out wr hb0).2).2.2.1
              exact ⟨by omega, by omega⟩
            go_wp2_with fail
            refine (HDX.out wr hb0).mono ?_
            rintro e w2 ⟨bx, he, hgx, hb2, hsx⟩
            subst he
            dsimp only
            have hB2 := hb0.trans (hb2.mono hb0.size)
            clear c0 c1 c2
            obtain ⟨c0, c1, c2⟩ := HCB.out k hkL w2 hB2
            rw [hye] at c0 c1 c2
            go_wp2_with fail
            refine (HDY.out w2 hB2).mono ?_
            rintro e VR ⟨by', he, hgy, hb4, hsy⟩
            subst he
            dsimp only
            have hB4 := hB2.trans (hb4.mono hB2.size)
            clear c0 c1 c2
            have hsx4 := hsx.below hb4
            obtain ⟨B, hBe⟩ : ∃ B : Bool, decide (txL x.v.d = txL y.v.d) = B := ⟨_, rfl⟩
            have HSB : Hid (∀ V : World, Below VR.heap.size VR V → Calls Tryd.prog 37 #[.slice (some ⟨bx, 0, none⟩) 32 32, .slice (some ⟨by', 0, none⟩) 32 32] V fun e w' => e = .returned (.bool B) ∧ V = w') := by
              show ∀ V, _
              intro V hV
              rw [← hBe]
              exact same_tx _ _ (some ⟨bx, 0, none⟩) (some ⟨by', 0, none⟩) 32 32 32 32 V (tagD_length _ _).symm (tagD_length _ _).symm (hsx4.below hV) (hsy.below hV)
            have HBE : Hid _ := hBe
            obtain ⟨Q, hQe⟩ : ∃ Q : Bool, decide (x.v.au = y.v.au ∧ x.v.nu = y.v.nu ∧ x.v.ss = y.v.ss) = Q := ⟨_, rfl⟩
            have HSH : Hid (∀ V : World, Below VR.heap.size VR V → Calls Tryd.prog 47 #[.agg #[.int .i64 x.v.au, .int .i64 x.v.nu, .slice x.ta x.v.ss.length x.tc], .agg #[.int .i64 y.v.au, .int .i64 y.v.nu, .slice y.ta y.v.ss.length y.tc]] V fun e w' => e = .returned (.bool Q) ∧ Below V.heap.size V w') := by
              show ∀ V, _
              intro V hV
              have hBV := hB4.trans (hV.mono hB4.size)
              rw [← hQe]
              exact sameBatch_any x.v.au x.v.nu y.v.au y.v.nu x.v.ss y.v.ss x.ta y.ta _ _ x.tc y.tc V rfl rfl HXL.out.1 HXL.out.2 (HX.out V hBV).1.strs (HY.out V hBV).1.strs
            have HQE : Hid _ := hQe
            obtain ⟨g0, g1, g2⟩ := HCB.out i hiL VR hB4
            obtain ⟨h0, h1, h2⟩ := HCB.out k hkL VR hB4
            rw [hxe] at g0 g1 g2
            rw [hye] at h0 h1 h2
            clear hsx hsy hsx4 hgx hgy hBe hQe
            go_upto_region 19 with fail
            cases B with
            | false =>
              have HNX2 : Hid (i = I → k + 1 ≤ K) := HNX.out (fun h1 h2 => of_decide_eq_false HBE.out (by rw [(HHIT.out h1 h2).1]))
              have hV0 : Below VR.heap.size VR VR.drew := (Below.refl _ _).drew
              refine wp_region_held_drew (S := fun w' => True) (by kernel_rfl) ⟨⟩ (fun hHeld => ?_)
              generalize VR.drew = V0 at hV0  hHeld ⊢
              refine take_dst (i := 0) (d := 99) (v := .int .i64 0) rfl rfl (by kernel_rfl) (by kernel_rfl) (by kernel_rfl) (fun _ _ _ h => h) (Or.inl ⟨by rfl, ?_⟩) hHeld ?_
              · (intro w0 hSw; (try dsimp only at hSw); go_simp)
              simp only [Act.put, List.setIfInBounds_toArray, List.set_cons_zero, List.set_cons_succ]
              refine take_dst (i := 1) (d := 100) (v := .bool true) rfl rfl (by kernel_rfl) (by kernel_rfl) (by kernel_rfl) (fun _ _ _ h => h) (Or.inl ⟨by rfl, ?_⟩) hHeld ?_
              · (intro w0 hSw; (try dsimp only at hSw); go_simp)
              simp only [Act.put, List.setIfInBounds_toArray, List.set_cons_zero, List.set_cons_succ]
              refine take_dst (i := 2) (d := 101) (v := .bool true) rfl rfl (by kernel_rfl) (by kernel_rfl) (by kernel_rfl) (fun _ _ _ h => h) (Or.inl ⟨by rfl, ?_⟩) hHeld ?_
              · (intro w0 hSw; (try dsimp only at hSw); go_simp)
              simp only [Act.put, List.setIfInBounds_toArray, List.set_cons_zero, List.set_cons_succ]
              refine take_dst (i := 3) (d := 102) (v := .int .i64 0) rfl rfl (by kernel_rfl) (by kernel_rfl) (by kernel_rfl) (fun _ _ _ h => h) (Or.inl ⟨by rfl, ?_⟩) hHeld ?_
              · (intro w0 hSw; (try dsimp only at hSw); go_simp)
              simp only [Act.put, List.setIfInBounds_toArray, List.set_cons_zero, List.set_cons_succ]
              refine take_dst (i := 4) (d := 103) (v := .bool true) rfl rfl (by kernel_rfl) (by kernel_rfl) (by kernel_rfl) (fun _ _ _ h => h) (Or.inl ⟨by rfl, ?_⟩) hHeld ?_
              · (intro w0 hSw; (try dsimp only at hSw); go_simp)
              simp only [Act.put, List.setIfInBounds_toArray, List.set_cons_zero, List.set_cons_succ]
              refine take_dst (i := 5) (d := 104) (v := .bool true) rfl rfl (by kernel_rfl) (by kernel_rfl) (by kernel_rfl) (fun _ _ _ h => h) (Or.inl ⟨by rfl, ?_⟩) hHeld ?_
              · (intro w0 hSw; (try dsimp only at hSw); go_simp)
              simp only [Act.put, List.setIfInBounds_toArray, List.set_cons_zero, List.set_cons_succ]
              refine take_dst (i := 6) (d := 105) (v := .bool true) rfl rfl (by kernel_rfl) (by kernel_rfl) (by kernel_rfl) (fun _ _ _ h => h) (Or.inl ⟨by rfl, ?_⟩) hHeld ?_
              · (intro w0 hSw; (try dsimp only at hSw); go_simp)
              simp only [Act.put, List.setIfInBounds_toArray, List.set_cons_zero, List.set_cons_succ]
              refine take_dst (i := 7) (d := 106) (v := .slice (some ⟨bx, 0, none⟩) 32 32) rfl rfl (by kernel_rfl) (by kernel_rfl) (by kernel_rfl) (fun _ _ _ h => h) (Or.inl ⟨by rfl, ?_⟩) hHeld ?_
              · (intro w0 hSw; (try dsimp only at hSw); go_simp)
              simp only [Act.put, List.setIfInBounds_toArray, List.set_cons_zero, List.set_cons_succ]
              refine take_dst (i := 8) (d := 107) (v := .int .i64 32) rfl rfl (by kernel_rfl) (by kernel_rfl) (by kernel_rfl) (fun _ _ _ h => h) (Or.inl ⟨by rfl, ?_⟩) hHeld ?_
              · (intro w0 hSw; (try dsimp only at hSw); go_simp)
              simp only [Act.put, List.setIfInBounds_toArray, List.set_cons_zero, List.set_cons_succ]
              refine take_dst (i := 9) (d := 108) (v := .bool true) rfl rfl (by kernel_rfl) (by kernel_rfl) (by kernel_rfl) (fun _ _ _ h => h) (Or.inl ⟨by rfl, ?_⟩) hHeld ?_
              · (intro w0 hSw; (try dsimp only at hSw); go_simp)
              simp only [Act.put, List.setIfInBounds_toArray, List.set_cons_zero, List.set_cons_succ]
              refine take_dst (i := 10) (d := 109) (v := .bool true) rfl rfl (by kernel_rfl) (by kernel_rfl) (by kernel_rfl) (fun _ _ _ h => h) (Or.inl ⟨by rfl, ?_⟩) hHeld ?_
              · (intro w0 hSw; (try dsimp only at hSw); go_simp)
              simp only [Act.put, List.setIfInBounds_toArray, List.set_cons_zero, List.set_cons_succ]
              refine take_dst (i := 11) (d := 110) (v := .bool true) rfl rfl (by kernel_rfl) (by kernel_rfl) (by kernel_rfl) (fun _ _ _ h => h) (Or.inl ⟨by rfl, ?_⟩) hHeld ?_
              · (intro w0 hSw; (try dsimp only at hSw); go_simp)
              simp only [Act.put, List.setIfInBounds_toArray, List.set_cons_zero, List.set_cons_succ]
              refine take_dst (i := 12) (d := 111) (v := .slice (some ⟨bx, 0, none⟩) 32 32) rfl rfl (by kernel_rfl) (by kernel_rfl) (by kernel_rfl) (fun _ _ _ h => h) (Or.inl ⟨by rfl, ?_⟩) hHeld ?_
              · (intro w0 hSw; (try dsimp only at hSw); go_simp)
              simp only [Act.put, List.setIfInBounds_toArray, List.set_cons_zero, List.set_cons_succ]
              refine take_dst (i := 13) (d := 112) (v := .slice (some ⟨by', 0, none⟩) 32 32) rfl rfl (by kernel_rfl) (by kernel_rfl) (by kernel_rfl) (fun _ _ _ h => h) (Or.inl ⟨by rfl, ?_⟩) hHeld ?_
              · (intro w0 hSw; (try dsimp only at hSw); go_simp)
              simp only [Act.put, List.setIfInBounds_toArray, List.set_cons_zero, List.set_cons_succ]
              clear hHeld
              refine any_named (fun GO hGo hGi => ?_)
              refine act_named (fun A0 hA0 => ?_)
              have st_A : Hid (∀ (V : World), Below VR.heap.size VR V → GO 0 #[true, true, true, true, true, true, true, true, true, true, true, true, true, true, true, true, true, true, true, true, true, true, true, true, true, true, true, true] ((((((((((((((A0.put (some 113) (.bool false)).put (some 114) (.bool false)).put (some 115) (.bool false)).put (some 116) undef).put (some 117) undef).put (some 118) undef).put (some 119) undef).put (some 120) undef).put (some 121) undef).put (some 122) undef).put (some 123) undef).put (some 124) undef).put (some 125) undef).put (some 126) (.bool false)) V) := by
                show ∀ V, _
                intro V  hB 
                refine hGo.out _ _ _ _ ?_
                rw [← hA0.out]
                try simp only [Act.put, List.setIfInBounds_toArray, List.set_cons_zero, List.set_cons_succ]
                refine wpAnyH_done (by kernel_rfl) ?_ _
                (try go_wp2_with fail)
                go_roundw
                case rel =>
                  have hBB := hB4.trans (hB.mono hB4.size)
                  have hR : ∃ k' : Nat, (k' ≤ i ∧ (i = I → k' ≤ K)) ∧ (Value.int .i64 ((k : Int) + 1)) = .int .i64 k' ∧ Below w.heap.size w V := ⟨k + 1, ⟨by omega, HNX2.out⟩, by go_num, hBB⟩
                  first | exact hR | ((repeat apply Exists.intro); exact ⟨hR, rfl⟩)
                case measure => simp [intOf]; omega
              have st_0 : Hid (∀ (V : World), Below VR.heap.size VR V → GO 14 #[true, true, true, true, true, true, true, true, true, true, true, true, true, true, false, false, false, false, false, false, false, false, false, false, false, false, false, false] A0 V) := by
                show ∀ V, _
                intro V  hB 
                refine hGo.out _ _ _ _ ?_
                rw [← hA0.out]
                try simp only [Act.put, List.setIfInBounds_toArray, List.set_cons_zero, List.set_cons_succ]
                refine wpAnyH_ready (rs := [14]) (by kernel_rfl) (by simp) (AllReadyH.cons rfl (fun K hK => ?_) AllReadyH.nil)
                refine step_calls_on (by rfl) 113 rfl 37 [.tmp 111, .tmp 112] #[46, 46] rfl [.slice (some ⟨bx, 0, none⟩) 32 32, .slice (some ⟨by', 0, none⟩) 32 32] rfl (enters_of Tryd.func37 (by kernel_rfl) rfl) (fun v w' => v = .bool false ∧ V = w') ((HSB.out V hB).mono (fun e w2 h => ⟨_, h.1, rfl, h.2⟩)) ?_
                rintro v W' ⟨rfl, hwq⟩
                subst hwq
                refine hK.out _ _ ⟨⟩ (fun hHeld => ?_)
                simp only [Act.put, List.setIfInBounds_toArray, List.set_cons_zero, List.set_cons_succ]
                refine take_dst (i := 15) (d := 114) (v := .bool false) rfl rfl (by kernel_rfl) (by kernel_rfl) (by kernel_rfl) (fun _ _ _ h => h) (Or.inl ⟨by rfl, ?_⟩) hHeld ?_
                · (intro w0 hSw; (try dsimp only at hSw); go_simp)
                simp only [Act.put, List.setIfInBounds_toArray, List.set_cons_zero, List.set_cons_succ]
                refine take_dst (i := 16) (d := 115) (v := .bool false) rfl rfl (by kernel_rfl) (by kernel_rfl) (by kernel_rfl) (fun _ _ _ h => h) (Or.inl ⟨by rfl, ?_⟩) hHeld ?_
                · (intro w0 hSw; (try dsimp only at hSw); go_simp)
                simp only [Act.put, List.setIfInBounds_toArray, List.set_cons_zero, List.set_cons_succ]
                refine take_dst (i := 17) (d := 116) (v := undef) rfl rfl (by kernel_rfl) (by kernel_rfl) (by kernel_rfl) (fun _ _ _ h => h) (Or.inr ⟨by rfl, rfl⟩) hHeld ?_
                simp only [Act.put, List.setIfInBounds_toArray, List.set_cons_zero, List.set_cons_succ]
                refine take_dst (i := 18) (d := 117) (v := undef) rfl rfl (by kernel_rfl) (by kernel_rfl) (by kernel_rfl) (fun _ _ _ h => h) (Or.inr ⟨by rfl, rfl⟩) hHeld ?_
                simp only [Act.put, List.setIfInBounds_toArray, List.set_cons_zero, List.set_cons_succ]
                refine take_dst (i := 19) (d := 118) (v := undef) rfl rfl (by kernel_rfl) (by kernel_rfl) (by kernel_rfl) (fun _ _ _ h => h) (Or.inr ⟨by rfl, rfl⟩) hHeld ?_
                simp only [Act.put, List.setIfInBounds_toArray, List.set_cons_zero, List.set_cons_succ]
                refine take_dst (i := 20) (d := 119) (v := undef) rfl rfl (by kernel_rfl) (by kernel_rfl) (by kernel_rfl) (fun _ _ _ h => h) (Or.inr ⟨by rfl, rfl⟩) hHeld ?_
                simp only [Act.put, List.setIfInBounds_toArray, List.set_cons_zero, List.set_cons_succ]
                refine take_dst (i := 21) (d := 120) (v := undef) rfl rfl (by kernel_rfl) (by kernel_rfl) (by kernel_rfl) (fun _ _ _ h => h) (Or.inr ⟨by rfl, rfl⟩) hHeld ?_
                simp only [Act.put, List.setIfInBounds_toArray, List.set_cons_zero, List.set_cons_succ]
                refine take_dst (i := 22) (d := 121) (v := undef) rfl rfl (by kernel_rfl) (by kernel_rfl) (by kernel_rfl) (fun _ _ _ h => h) (Or.inr ⟨by rfl, rfl⟩) hHeld ?_
                simp only [Act.put, List.setIfInBounds_toArray, List.set_cons_zero, List.set_cons_succ]
                refine take_dst (i := 23) (d := 122) (v := undef) rfl rfl (by kernel_rfl) (by kernel_rfl) (by kernel_rfl) (fun _ _ _ h => h) (Or.inr ⟨by rfl, rfl⟩) hHeld ?_
                simp only [Act.put, List.setIfInBounds_toArray, List.set_cons_zero, List.set_cons_succ]
                refine take_dst (i := 24) (d := 123) (v := undef) rfl rfl (by kernel_rfl) (by kernel_rfl) (by kernel_rfl) (fun _ _ _ h => h) (Or.inr ⟨by rfl, rfl⟩) hHeld ?_
                simp only [Act.put, List.setIfInBounds_toArray, List.set_cons_zero, List.set_cons_succ]
                refine take_dst (i := 25) (d := 124) (v := undef) rfl rfl (by kernel_rfl) (by kernel_rfl) (by kernel_rfl) (fun _ _ _ h => h) (Or.inr ⟨by rfl, rfl⟩) hHeld ?_
                simp only [Act.put, List.setIfInBounds_toArray, List.set_cons_zero, List.set_cons_succ]
                refine take_dst (i := 26) (d := 125) (v := undef) rfl rfl (by kernel_rfl) (by kernel_rfl) (by kernel_rfl) (fun _ _ _ h => h) (Or.inr ⟨by rfl, rfl⟩) hHeld ?_
                simp only [Act.put, List.setIfInBounds_toArray, List.set_cons_zero, List.set_cons_succ]
                refine take_dst (i := 27) (d := 126) (v := .bool false) rfl rfl (by kernel_rfl) (by kernel_rfl) (by kernel_rfl) (fun _ _ _ h => h) (Or.inl ⟨by rfl, ?_⟩) hHeld ?_
                · (intro w0 hSw; (try dsimp only at hSw); go_simp)
                simp only [Act.put, List.setIfInBounds_toArray, List.set_cons_zero, List.set_cons_succ]
                clear hHeld
                have h := st_A.out V hB
                rw [← hA0.out] at h
                (try simp only [Act.put, List.setIfInBounds_toArray, List.set_cons_zero, List.set_cons_succ] at h)
                (try simp only [Act.put, List.setIfInBounds_toArray, List.set_cons_zero, List.set_cons_succ])
                exact hGi.out _ _ _ _ h
              exact st_0.out V0 hV0 
            | true =>
              cases Q with
              | true =>
                have HNX2 : Hid (i = I → k + 1 ≤ K) := HNX.out (fun h1 h2 => (HHIT.out h1 h2).2 (by
                  obtain ⟨a1, a2, a3⟩ := of_decide_eq_true HQE.out
                  cases hxv : x.v with
                  | mk p q r =>
                    cases hyv : y.v with
                    | mk p' q' r' =>
                      rw [hxv, hyv] at a1 a2 a3
                      simp only at a1 a2 a3
                      rw [a1, a2, a3]))
                have hV0 : Below VR.heap.size VR VR.drew := (Below.refl _ _).drew
                refine wp_region_held_drew (S := fun w' => w'.cell? ⟨tb, tq + i * 3, none⟩ = some (.int .i64 x.v.au) ∧ w'.cell? ⟨tb, tq + i * 3 + 1, none⟩ = some (.int .i64 x.v.nu) ∧ w'.cell? ⟨tb, tq + i * 3 + 2, none⟩ = some (.slice x.ta x.v.ss.length x.tc) ∧ w'.cell? ⟨tb, tq + k * 3, none⟩ = some (.int .i64 y.v.au) ∧ w'.cell? ⟨tb, tq + k * 3 + 1, none⟩ = some (.int .i64 y.v.nu) ∧ w'.cell? ⟨tb, tq + k * 3 + 2, none⟩ = some (.slice y.ta y.v.ss.length y.tc)) (by kernel_rfl) ⟨(hV0.cell (p := ⟨tb, tq + i * 3, none⟩) (block_lt_of_cell g0)).trans g0, (hV0.cell (p := ⟨tb, tq + i * 3 + 1, none⟩) (block_lt_of_cell g1)).trans g1, (hV0.cell (p := ⟨tb, tq + i * 3 + 2, none⟩) (block_lt_of_cell g2)).trans g2, (hV0.cell (p := ⟨tb, tq + k * 3, none⟩) (block_lt_of_cell h0)).trans h0, (hV0.cell (p := ⟨tb, tq + k * 3 + 1, none⟩) (block_lt_of_cell h1)).trans h1, (hV0.cell (p := ⟨tb, tq + k * 3 + 2, none⟩) (block_lt_of_cell h2)).trans h2⟩ (fun hHeld => ?_)
                generalize VR.drew = V0 at hV0  hHeld ⊢
                refine take_dst (i := 0) (d := 99) (v := .int .i64 0) rfl rfl (by kernel_rfl) (by kernel_rfl) (by kernel_rfl) (fun _ _ _ h => h) (Or.inl ⟨by rfl, ?_⟩) hHeld ?_
                · (intro w0 hSw; (try dsimp only at hSw); go_simp)
                simp only [Act.put, List.setIfInBounds_toArray, List.set_cons_zero, List.set_cons_succ]
                refine take_dst (i := 1) (d := 100) (v := .bool true) rfl rfl (by kernel_rfl) (by kernel_rfl) (by kernel_rfl) (fun _ _ _ h => h) (Or.inl ⟨by rfl, ?_⟩) hHeld ?_
                · (intro w0 hSw; (try dsimp only at hSw); go_simp)
                simp only [Act.put, List.setIfInBounds_toArray, List.set_cons_zero, List.set_cons_succ]
                refine take_dst (i := 2) (d := 101) (v := .bool true) rfl rfl (by kernel_rfl) (by kernel_rfl) (by kernel_rfl) (fun _ _ _ h => h) (Or.inl ⟨by rfl, ?_⟩) hHeld ?_
                · (intro w0 hSw; (try dsimp only at hSw); go_simp)
                simp only [Act.put, List.setIfInBounds_toArray, List.set_cons_zero, List.set_cons_succ]
                refine take_dst (i := 3) (d := 102) (v := .int .i64 0) rfl rfl (by kernel_rfl) (by kernel_rfl) (by kernel_rfl) (fun _ _ _ h => h) (Or.inl ⟨by rfl, ?_⟩) hHeld ?_
                · (intro w0 hSw; (try dsimp only at hSw); go_simp)
                simp only [Act.put, List.setIfInBounds_toArray, List.set_cons_zero, List.set_cons_succ]
                refine take_dst (i := 4) (d := 103) (v := .bool true) rfl rfl (by kernel_rfl) (by kernel_rfl) (by kernel_rfl) (fun _ _ _ h => h) (Or.inl ⟨by rfl, ?_⟩) hHeld ?_
                · (intro w0 hSw; (try dsimp only at hSw); go_simp)
                simp only [Act.put, List.setIfInBounds_toArray, List.set_cons_zero, List.set_cons_succ]
                refine take_dst (i := 5) (d := 104) (v := .bool true) rfl rfl (by kernel_rfl) (by kernel_rfl) (by kernel_rfl) (fun _ _ _ h => h) (Or.inl ⟨by rfl, ?_⟩) hHeld ?_
                · (intro w0 hSw; (try dsimp only at hSw); go_simp)
                simp only [Act.put, List.setIfInBounds_toArray, List.set_cons_zero, List.set_cons_succ]
                refine take_dst (i := 6) (d := 105) (v := .bool true) rfl rfl (by kernel_rfl) (by kernel_rfl) (by kernel_rfl) (fun _ _ _ h => h) (Or.inl ⟨by rfl, ?_⟩) hHeld ?_
                · (intro w0 hSw; (try dsimp only at hSw); go_simp)
                simp only [Act.put, List.setIfInBounds_toArray, List.set_cons_zero, List.set_cons_succ]
                refine take_dst (i := 7) (d := 106) (v := .slice (some ⟨bx, 0, none⟩) 32 32) rfl rfl (by kernel_rfl) (by kernel_rfl) (by kernel_rfl) (fun _ _ _ h => h) (Or.inl ⟨by rfl, ?_⟩) hHeld ?_
                · (intro w0 hSw; (try dsimp only at hSw); go_simp)
                simp only [Act.put, List.setIfInBounds_toArray, List.set_cons_zero, List.set_cons_succ]
                refine take_dst (i := 8) (d := 107) (v := .int .i64 32) rfl rfl (by kernel_rfl) (by kernel_rfl) (by kernel_rfl) (fun _ _ _ h => h) (Or.inl ⟨by rfl, ?_⟩) hHeld ?_
                · (intro w0 hSw; (try dsimp only at hSw); go_simp)
                simp only [Act.put, List.setIfInBounds_toArray, List.set_cons_zero, List.set_cons_succ]
                refine take_dst (i := 9) (d := 108) (v := .bool true) rfl rfl (by kernel_rfl) (by kernel_rfl) (by kernel_rfl) (fun _ _ _ h => h) (Or.inl ⟨by rfl, ?_⟩) hHeld ?_
                · (intro w0 hSw; (try dsimp only at hSw); go_simp)
                simp only [Act.put, List.setIfInBounds_toArray, List.set_cons_zero, List.set_cons_succ]
                refine take_dst (i := 10) (d := 109) (v := .bool true) rfl rfl (by kernel_rfl) (by kernel_rfl) (by kernel_rfl) (fun _ _ _ h => h) (Or.inl ⟨by rfl, ?_⟩) hHeld ?_
                · (intro w0 hSw; (try dsimp only at hSw); go_simp)
                simp only [Act.put, List.setIfInBounds_toArray, List.set_cons_zero, List.set_cons_succ]
                refine take_dst (i := 11) (d := 110) (v := .bool true) rfl rfl (by kernel_rfl) (by kernel_rfl) (by kernel_rfl) (fun _ _ _ h => h) (Or.inl ⟨by rfl, ?_⟩) hHeld ?_
                · (intro w0 hSw; (try dsimp only at hSw); go_simp)
                simp only [Act.put, List.setIfInBounds_toArray, List.set_cons_zero, List.set_cons_succ]
                refine take_dst (i := 12) (d := 111) (v := .slice (some ⟨bx, 0, none⟩) 32 32) rfl rfl (by kernel_rfl) (by kernel_rfl) (by kernel_rfl) (fun _ _ _ h => h) (Or.inl ⟨by rfl, ?_⟩) hHeld ?_
                · (intro w0 hSw; (try dsimp only at hSw); go_simp)
                simp only [Act.put, List.setIfInBounds_toArray, List.set_cons_zero, List.set_cons_succ]
                refine take_dst (i := 13) (d := 112) (v := .slice (some ⟨by', 0, none⟩) 32 32) rfl rfl (by kernel_rfl) (by kernel_rfl) (by kernel_rfl) (fun _ _ _ h => h) (Or.inl ⟨by rfl, ?_⟩) hHeld ?_
                · (intro w0 hSw; (try dsimp only at hSw); go_simp)
                simp only [Act.put, List.setIfInBounds_toArray, List.set_cons_zero, List.set_cons_succ]
                clear hHeld
                refine any_named (fun GO hGo hGi => ?_)
                refine act_named (fun A0 hA0 => ?_)
                have st_AH : Hid (∀ (V : World), Below VR.heap.size VR V → GO 0 #[true, true, true, true, true, true, true, true, true, true, true, true, true, true, true, true, true, true, true, true, true, true, true, true, true, true, true, true] ((((((((((((((A0.put (some 113) (.bool true)).put (some 114) (.bool true)).put (some 115) (.bool true)).put (some 116) (.slice (some ⟨tb, tq, none⟩) bl.length tcap)).put (some 117) (.int .i64 (i : Int))).put (some 118) (.pointer (some ⟨tb, tq + i * 3, none⟩))).put (some 119) (.agg #[.int .i64 x.v.au, .int .i64 x.v.nu, .slice x.ta x.v.ss.length x.tc])).put (some 120) (.slice (some ⟨tb, tq, none⟩) bl.length tcap)).put (some 121) (.int .i64 (k : Int))).put (some 122) (.pointer (some ⟨tb, tq + k * 3, none⟩))).put (some 123) (.agg #[.int .i64 y.v.au, .int .i64 y.v.nu, .slice y.ta y.v.ss.length y.tc])).put (some 124) (.bool true)).put (some 125) (.bool false)).put (some 126) (.bool false)) V) := by
                  show ∀ V, _
                  intro V  hB 
                  refine hGo.out _ _ _ _ ?_
                  rw [← hA0.out]
                  try simp only [Act.put, List.setIfInBounds_toArray, List.set_cons_zero, List.set_cons_succ]
                  refine wpAnyH_done (by kernel_rfl) ?_ _
                  (try go_wp2_with fail)
                  go_roundw
                  case rel =>
                    have hBB := hB4.trans (hB.mono hB4.size)
                    have hR : ∃ k' : Nat, (k' ≤ i ∧ (i = I → k' ≤ K)) ∧ (Value.int .i64 ((k : Int) + 1)) = .int .i64 k' ∧ Below w.heap.size w V := ⟨k + 1, ⟨by omega, HNX2.out⟩, by go_num, hBB⟩
                    first | exact hR | ((repeat apply Exists.intro); exact ⟨hR, rfl⟩)
                  case measure => simp [intOf]; omega
                have st_A : Hid (∀ (V : World), Below VR.heap.size VR V → GO 3 #[true, true, true, true, true, true, true, true, true, true, true, true, true, true, true, true, true, true, true, true, true, true, true, true, true, false, false, false] (((((((((((A0.put (some 113) (.bool true)).put (some 114) (.bool true)).put (some 115) (.bool true)).put (some 116) (.slice (some ⟨tb, tq, none⟩) bl.length tcap)).put (some 117) (.int .i64 (i : Int))).put (some 118) (.pointer (some ⟨tb, tq + i * 3, none⟩))).put (some 119) (.agg #[.int .i64 x.v.au, .int .i64 x.v.nu, .slice x.ta x.v.ss.length x.tc])).put (some 120) (.slice (some ⟨tb, tq, none⟩) bl.length tcap)).put (some 121) (.int .i64 (k : Int))).put (some 122) (.pointer (some ⟨tb, tq + k * 3, none⟩))).put (some 123) (.agg #[.int .i64 y.v.au, .int .i64 y.v.nu, .slice y.ta y.v.ss.length y.tc])) V) := by
                  show ∀ V, _
                  intro V  hB 
                  refine hGo.out _ _ _ _ ?_
                  rw [← hA0.out]
                  try simp only [Act.put, List.setIfInBounds_toArray, List.set_cons_zero, List.set_cons_succ]
                  refine wpAnyH_ready (rs := [25]) (by kernel_rfl) (by simp) (AllReadyH.cons rfl (fun K hK => ?_) AllReadyH.nil)
                  refine step_calls_on (by rfl) 124 rfl 47 [.tmp 119, .tmp 123] #[42, 42] rfl [.agg #[.int .i64 x.v.au, .int .i64 x.v.nu, .slice x.ta x.v.ss.length x.tc], .agg #[.int .i64 y.v.au, .int .i64 y.v.nu, .slice y.ta y.v.ss.length y.tc]] rfl (enters_of Tryd.func47 (by kernel_rfl) rfl) (fun v w' => v = .bool true ∧ Below V.heap.size V w') ((HSH.out V hB).mono (fun e w2 h => ⟨_, h.1, rfl, h.2⟩)) ?_
                  rintro v W' ⟨rfl, hb⟩
                  have hBn := hB.trans (hb.mono hB.size)
                  refine hK.out _ _ ⟨(hBn.cell (p := ⟨tb, tq + i * 3, none⟩) (block_lt_of_cell g0)).trans g0, (hBn.cell (p := ⟨tb, tq + i * 3 + 1, none⟩) (block_lt_of_cell g1)).trans g1, (hBn.cell (p := ⟨tb, tq + i * 3 + 2, none⟩) (block_lt_of_cell g2)).trans g2, (hBn.cell (p := ⟨tb, tq + k * 3, none⟩) (block_lt_of_cell h0)).trans h0, (hBn.cell (p := ⟨tb, tq + k * 3 + 1, none⟩) (block_lt_of_cell h1)).trans h1, (hBn.cell (p := ⟨tb, tq + k * 3 + 2, none⟩) (block_lt_of_cell h2)).trans h2⟩ (fun hHeld => ?_)
                  simp only [Act.put, List.setIfInBounds_toArray, List.set_cons_zero, List.set_cons_succ]
                  refine take_dst (i := 26) (d := 125) (v := .bool false) rfl rfl (by kernel_rfl) (by kernel_rfl) (by kernel_rfl) (fun _ _ _ h => h) (Or.inl ⟨by rfl, ?_⟩) hHeld ?_
                  · (intro w0 hSw; (try dsimp only at hSw); go_simp)
                  simp only [Act.put, List.setIfInBounds_toArray, List.set_cons_zero, List.set_cons_succ]
                  refine take_dst (i := 27) (d := 126) (v := .bool false) rfl rfl (by kernel_rfl) (by kernel_rfl) (by kernel_rfl) (fun _ _ _ h => h) (Or.inl ⟨by rfl, ?_⟩) hHeld ?_
                  · (intro w0 hSw; (try dsimp only at hSw); go_simp)
                  simp only [Act.put, List.setIfInBounds_toArray, List.set_cons_zero, List.set_cons_succ]
                  clear hHeld
                  have h := st_AH.out W' hBn
                  rw [← hA0.out] at h
                  (try simp only [Act.put, List.setIfInBounds_toArray, List.set_cons_zero, List.set_cons_succ] at h)
                  (try simp only [Act.put, List.setIfInBounds_toArray, List.set_cons_zero, List.set_cons_succ])
                  exact hGi.out _ _ _ _ h
                have st_0 : Hid (∀ (V : World), Below VR.heap.size VR V → GO 14 #[true, true, true, true, true, true, true, true, true, true, true, true, true, true, false, false, false, false, false, false, false, false, false, false, false, false, false, false] A0 V) := by
                  show ∀ V, _
                  intro V  hB 
                  refine hGo.out _ _ _ _ ?_
                  rw [← hA0.out]
                  try simp only [Act.put, List.setIfInBounds_toArray, List.set_cons_zero, List.set_cons_succ]
                  refine wpAnyH_ready (rs := [14]) (by kernel_rfl) (by simp) (AllReadyH.cons rfl (fun K hK => ?_) AllReadyH.nil)
                  refine step_calls_on (by rfl) 113 rfl 37 [.tmp 111, .tmp 112] #[46, 46] rfl [.slice (some ⟨bx, 0, none⟩) 32 32, .slice (some ⟨by', 0, none⟩) 32 32] rfl (enters_of Tryd.func37 (by kernel_rfl) rfl) (fun v w' => v = .bool true ∧ V = w') ((HSB.out V hB).mono (fun e w2 h => ⟨_, h.1, rfl, h.2⟩)) ?_
                  rintro v W' ⟨rfl, hwq⟩
                  subst hwq
                  refine hK.out _ _ ⟨(hB.cell (p := ⟨tb, tq + i * 3, none⟩) (block_lt_of_cell g0)).trans g0, (hB.cell (p := ⟨tb, tq + i * 3 + 1, none⟩) (block_lt_of_cell g1)).trans g1, (hB.cell (p := ⟨tb, tq + i * 3 + 2, none⟩) (block_lt_of_cell g2)).trans g2, (hB.cell (p := ⟨tb, tq + k * 3, none⟩) (block_lt_of_cell h0)).trans h0, (hB.cell (p := ⟨tb, tq + k * 3 + 1, none⟩) (block_lt_of_cell h1)).trans h1, (hB.cell (p := ⟨tb, tq + k * 3 + 2, none⟩) (block_lt_of_cell h2)).trans h2⟩ (fun hHeld => ?_)
                  simp only [Act.put, List.setIfInBounds_toArray, List.set_cons_zero, List.set_cons_succ]
                  refine take_dst (i := 15) (d := 114) (v := .bool true) rfl rfl (by kernel_rfl) (by kernel_rfl) (by kernel_rfl) (fun _ _ _ h => h) (Or.inl ⟨by rfl, ?_⟩) hHeld ?_
                  · (intro w0 hSw; (try dsimp only at hSw); go_simp)
                  simp only [Act.put, List.setIfInBounds_toArray, List.set_cons_zero, List.set_cons_succ]
                  refine take_dst (i := 16) (d := 115) (v := .bool true) rfl rfl (by kernel_rfl) (by kernel_rfl) (by kernel_rfl) (fun _ _ _ h => h) (Or.inl ⟨by rfl, ?_⟩) hHeld ?_
                  · (intro w0 hSw; (try dsimp only at hSw); go_simp)
                  simp only [Act.put, List.setIfInBounds_toArray, List.set_cons_zero, List.set_cons_succ]
                  refine take_dst (i := 17) (d := 116) (v := .slice (some ⟨tb, tq, none⟩) bl.length tcap) rfl rfl (by kernel_rfl) (by kernel_rfl) (by kernel_rfl) (fun _ _ _ h => h) (Or.inl ⟨by rfl, ?_⟩) hHeld ?_
                  · (intro w0 hSw; (try dsimp only at hSw); go_simp)
                  simp only [Act.put, List.setIfInBounds_toArray, List.set_cons_zero, List.set_cons_succ]
                  refine take_dst (i := 18) (d := 117) (v := .int .i64 (i : Int)) rfl rfl (by kernel_rfl) (by kernel_rfl) (by kernel_rfl) (fun _ _ _ h => h) (Or.inl ⟨by rfl, ?_⟩) hHeld ?_
                  · (intro w0 hSw; (try dsimp only at hSw); go_simp)
                  simp only [Act.put, List.setIfInBounds_toArray, List.set_cons_zero, List.set_cons_succ]
                  refine take_dst (i := 19) (d := 118) (v := .pointer (some ⟨tb, tq + i * 3, none⟩)) rfl rfl (by kernel_rfl) (by kernel_rfl) (by kernel_rfl) (fun _ _ _ h => h) (Or.inl ⟨by rfl, ?_⟩) hHeld ?_
                  · (intro w0 hSw; (try dsimp only at hSw); go_simp)
                  simp only [Act.put, List.setIfInBounds_toArray, List.set_cons_zero, List.set_cons_succ]
                  refine take_dst (i := 20) (d := 119) (v := .agg #[.int .i64 x.v.au, .int .i64 x.v.nu, .slice x.ta x.v.ss.length x.tc]) rfl rfl (by kernel_rfl) (by kernel_rfl) (by kernel_rfl) (fun _ _ _ h => h) (Or.inl ⟨by rfl, ?_⟩) hHeld ?_
                  · (intro w0 hSw; (try dsimp only at hSw); go_simp)
                  simp only [Act.put, List.setIfInBounds_toArray, List.set_cons_zero, List.set_cons_succ]
                  refine take_dst (i := 21) (d := 120) (v := .slice (some ⟨tb, tq, none⟩) bl.length tcap) rfl rfl (by kernel_rfl) (by kernel_rfl) (by kernel_rfl) (fun _ _ _ h => h) (Or.inl ⟨by rfl, ?_⟩) hHeld ?_
                  · (intro w0 hSw; (try dsimp only at hSw); go_simp)
                  simp only [Act.put, List.setIfInBounds_toArray, List.set_cons_zero, List.set_cons_succ]
                  refine take_dst (i := 22) (d := 121) (v := .int .i64 (k : Int)) rfl rfl (by kernel_rfl) (by kernel_rfl) (by kernel_rfl) (fun _ _ _ h => h) (Or.inl ⟨by rfl, ?_⟩) hHeld ?_
                  · (intro w0 hSw; (try dsimp only at hSw); go_simp)
                  simp only [Act.put, List.setIfInBounds_toArray, List.set_cons_zero, List.set_cons_succ]
                  refine take_dst (i := 23) (d := 122) (v := .pointer (some ⟨tb, tq + k * 3, none⟩)) rfl rfl (by kernel_rfl) (by kernel_rfl) (by kernel_rfl) (fun _ _ _ h => h) (Or.inl ⟨by rfl, ?_⟩) hHeld ?_
                  · (intro w0 hSw; (try dsimp only at hSw); go_simp)
                  simp only [Act.put, List.setIfInBounds_toArray, List.set_cons_zero, List.set_cons_succ]
                  refine take_dst (i := 24) (d := 123) (v := .agg #[.int .i64 y.v.au, .int .i64 y.v.nu, .slice y.ta y.v.ss.length y.tc]) rfl rfl (by kernel_rfl) (by kernel_rfl) (by kernel_rfl) (fun _ _ _ h => h) (Or.inl ⟨by rfl, ?_⟩) hHeld ?_
                  · (intro w0 hSw; (try dsimp only at hSw); go_simp)
                  simp only [Act.put, List.setIfInBounds_toArray, List.set_cons_zero, List.set_cons_succ]
                  clear hHeld
                  have h := st_A.out V hB
                  rw [← hA0.out] at h
                  (try simp only [Act.put, List.setIfInBounds_toArray, List.set_cons_zero, List.set_cons_succ] at h)
                  (try simp only [Act.put, List.setIfInBounds_toArray, List.set_cons_zero, List.set_cons_succ])
                  exact hGi.out _ _ _ _ h
                exact st_0.out V0 hV0 
              | false =>
                have hV0 : Below VR.heap.size VR VR.drew := (Below.refl _ _).drew
                refine wp_region_held_drew (S := fun w' => w'.cell? ⟨tb, tq + i * 3, none⟩ = some (.int .i64 x.v.au) ∧ w'.cell? ⟨tb, tq + i * 3 + 1, none⟩ = some (.int .i64 x.v.nu) ∧ w'.cell? ⟨tb, tq + i * 3 + 2, none⟩ = some (.slice x.ta x.v.ss.length x.tc) ∧ w'.cell? ⟨tb, tq + k * 3, none⟩ = some (.int .i64 y.v.au) ∧ w'.cell? ⟨tb, tq + k * 3 + 1, none⟩ = some (.int .i64 y.v.nu) ∧ w'.cell? ⟨tb, tq + k * 3 + 2, none⟩ = some (.slice y.ta y.v.ss.length y.tc)) (by kernel_rfl) ⟨(hV0.cell (p := ⟨tb, tq + i * 3, none⟩) (block_lt_of_cell g0)).trans g0, (hV0.cell (p := ⟨tb, tq + i * 3 + 1, none⟩) (block_lt_of_cell g1)).trans g1, (hV0.cell (p := ⟨tb, tq + i * 3 + 2, none⟩) (block_lt_of_cell g2)).trans g2, (hV0.cell (p := ⟨tb, tq + k * 3, none⟩) (block_lt_of_cell h0)).trans h0, (hV0.cell (p := ⟨tb, tq + k * 3 + 1, none⟩) (block_lt_of_cell h1)).trans h1, (hV0.cell (p := ⟨tb, tq + k * 3 + 2, none⟩) (block_lt_of_cell h2)).trans h2⟩ (fun hHeld => ?_)
                generalize VR.drew = V0 at hV0  hHeld ⊢
                refine take_dst (i := 0) (d := 99) (v := .int .i64 0) rfl rfl (by kernel_rfl) (by kernel_rfl) (by kernel_rfl) (fun _ _ _ h => h) (Or.inl ⟨by rfl, ?_⟩) hHeld ?_
                · (intro w0 hSw; (try dsimp only at hSw); go_simp)
                simp only [Act.put, List.setIfInBounds_toArray, List.set_cons_zero, List.set_cons_succ]
                refine take_dst (i := 1) (d := 100) (v := .bool true) rfl rfl (by kernel_rfl) (by kernel_rfl) (by kernel_rfl) (fun _ _ _ h => h) (Or.inl ⟨by rfl, ?_⟩) hHeld ?_
                · (intro w0 hSw; (try dsimp only at hSw); go_simp)
                simp only [Act.put, List.setIfInBounds_toArray, List.set_cons_zero, List.set_cons_succ]
                refine take_dst (i := 2) (d := 101) (v := .bool true) rfl rfl (by kernel_rfl) (by kernel_rfl) (by kernel_rfl) (fun _ _ _ h => h) (Or.inl ⟨by rfl, ?_⟩) hHeld ?_
                · (intro w0 hSw; (try dsimp only at hSw); go_simp)
                simp only [Act.put, List.setIfInBounds_toArray, List.set_cons_zero, List.set_cons_succ]
                refine take_dst (i := 3) (d := 102) (v := .int .i64 0) rfl rfl (by kernel_rfl) (by kernel_rfl) (by kernel_rfl) (fun _ _ _ h => h) (Or.inl ⟨by rfl, ?_⟩) hHeld ?_
                · (intro w0 hSw; (try dsimp only at hSw); go_simp)
                simp only [Act.put, List.setIfInBounds_toArray, List.set_cons_zero, List.set_cons_succ]
                refine take_dst (i := 4) (d := 103) (v := .bool true) rfl rfl (by kernel_rfl) (by kernel_rfl) (by kernel_rfl) (fun _ _ _ h => h) (Or.inl ⟨by rfl, ?_⟩) hHeld ?_
                · (intro w0 hSw; (try dsimp only at hSw); go_simp)
                simp only [Act.put, List.setIfInBounds_toArray, List.set_cons_zero, List.set_cons_succ]
                refine take_dst (i := 5) (d := 104) (v := .bool true) rfl rfl (by kernel_rfl) (by kernel_rfl) (by kernel_rfl) (fun _ _ _ h => h) (Or.inl ⟨by rfl, ?_⟩) hHeld ?_
                · (intro w0 hSw; (try dsimp only at hSw); go_simp)
                simp only [Act.put, List.setIfInBounds_toArray, List.set_cons_zero, List.set_cons_succ]
                refine take_dst (i := 6) (d := 105) (v := .bool true) rfl rfl (by kernel_rfl) (by kernel_rfl) (by kernel_rfl) (fun _ _ _ h => h) (Or.inl ⟨by rfl, ?_⟩) hHeld ?_
                · (intro w0 hSw; (try dsimp only at hSw); go_simp)
                simp only [Act.put, List.setIfInBounds_toArray, List.set_cons_zero, List.set_cons_succ]
                refine take_dst (i := 7) (d := 106) (v := .slice (some ⟨bx, 0, none⟩) 32 32) rfl rfl (by kernel_rfl) (by kernel_rfl) (by kernel_rfl) (fun _ _ _ h => h) (Or.inl ⟨by rfl, ?_⟩) hHeld ?_
                · (intro w0 hSw; (try dsimp only at hSw); go_simp)
                simp only [Act.put, List.setIfInBounds_toArray, List.set_cons_zero, List.set_cons_succ]
                refine take_dst (i := 8) (d := 107) (v := .int .i64 32) rfl rfl (by kernel_rfl) (by kernel_rfl) (by kernel_rfl) (fun _ _ _ h => h) (Or.inl ⟨by rfl, ?_⟩) hHeld ?_
                · (intro w0 hSw; (try dsimp only at hSw); go_simp)
                simp only [Act.put, List.setIfInBounds_toArray, List.set_cons_zero, List.set_cons_succ]
                refine take_dst (i := 9) (d := 108) (v := .bool true) rfl rfl (by kernel_rfl) (by kernel_rfl) (by kernel_rfl) (fun _ _ _ h => h) (Or.inl ⟨by rfl, ?_⟩) hHeld ?_
                · (intro w0 hSw; (try dsimp only at hSw); go_simp)
                simp only [Act.put, List.setIfInBounds_toArray, List.set_cons_zero, List.set_cons_succ]
                refine take_dst (i := 10) (d := 109) (v := .bool true) rfl rfl (by kernel_rfl) (by kernel_rfl) (by kernel_rfl) (fun _ _ _ h => h) (Or.inl ⟨by rfl, ?_⟩) hHeld ?_
                · (intro w0 hSw; (try dsimp only at hSw); go_simp)
                simp only [Act.put, List.setIfInBounds_toArray, List.set_cons_zero, List.set_cons_succ]
                refine take_dst (i := 11) (d := 110) (v := .bool true) rfl rfl (by kernel_rfl) (by kernel_rfl) (by kernel_rfl) (fun _ _ _ h => h) (Or.inl ⟨by rfl, ?_⟩) hHeld ?_
                · (intro w0 hSw; (try dsimp only at hSw); go_simp)
                simp only [Act.put, List.setIfInBounds_toArray, List.set_cons_zero, List.set_cons_succ]
                refine take_dst (i := 12) (d := 111) (v := .slice (some ⟨bx, 0, none⟩) 32 32) rfl rfl (by kernel_rfl) (by kernel_rfl) (by kernel_rfl) (fun _ _ _ h => h) (Or.inl ⟨by rfl, ?_⟩) hHeld ?_
                · (intro w0 hSw; (try dsimp only at hSw); go_simp)
                simp only [Act.put, List.setIfInBounds_toArray, List.set_cons_zero, List.set_cons_succ]
                refine take_dst (i := 13) (d := 112) (v := .slice (some ⟨by', 0, none⟩) 32 32) rfl rfl (by kernel_rfl) (by kernel_rfl) (by kernel_rfl) (fun _ _ _ h => h) (Or.inl ⟨by rfl, ?_⟩) hHeld ?_
                · (intro w0 hSw; (try dsimp only at hSw); go_simp)
                simp only [Act.put, List.setIfInBounds_toArray, List.set_cons_zero, List.set_cons_succ]
                clear hHeld
                refine any_named (fun GO hGo hGi => ?_)
                refine act_named (fun A0 hA0 => ?_)
                have st_AH : Hid (∀ (V : World), Below VR.heap.size VR V → GO 0 #[true, true, true, true, true, true, true, true, true, true, true, true, true, true, true, true, true, true, true, true, true, true, true, true, true, true, true, true] ((((((((((((((A0.put (some 113) (.bool true)).put (some 114) (.bool true)).put (some 115) (.bool true)).put (some 116) (.slice (some ⟨tb, tq, none⟩) bl.length tcap)).put (some 117) (.int .i64 (i : Int))).put (some 118) (.pointer (some ⟨tb, tq + i * 3, none⟩))).put (some 119) (.agg #[.int .i64 x.v.au, .int .i64 x.v.nu, .slice x.ta x.v.ss.length x.tc])).put (some 120) (.slice (some ⟨tb, tq, none⟩) bl.length tcap)).put (some 121) (.int .i64 (k : Int))).put (some 122) (.pointer (some ⟨tb, tq + k * 3, none⟩))).put (some 123) (.agg #[.int .i64 y.v.au, .int .i64 y.v.nu, .slice y.ta y.v.ss.length y.tc])).put (some 124) (.bool false)).put (some 125) (.bool true)).put (some 126) (.bool true)) V) := by
                  show ∀ V, _
                  intro V  hB 
                  refine hGo.out _ _ _ _ ?_
                  rw [← hA0.out]
                  try simp only [Act.put, List.setIfInBounds_toArray, List.set_cons_zero, List.set_cons_succ]
                  refine wpAnyH_done (by kernel_rfl) ?_ _
                  have hBB := hB4.trans (hB.mono hB4.size)
                  (try go_wp2_with fail)
                  go_ret
                  exact ⟨rfl, hBB⟩
                have st_A : Hid (∀ (V : World), Below VR.heap.size VR V → GO 3 #[true, true, true, true, true, true, true, true, true, true, true, true, true, true, true, true, true, true, true, true, true, true, true, true, true, false, false, false] (((((((((((A0.put (some 113) (.bool true)).put (some 114) (.bool true)).put (some 115) (.bool true)).put (some 116) (.slice (some ⟨tb, tq, none⟩) bl.length tcap)).put (some 117) (.int .i64 (i : Int))).put (some 118) (.pointer (some ⟨tb, tq + i * 3, none⟩))).put (some 119) (.agg #[.int .i64 x.v.au, .int .i64 x.v.nu, .slice x.ta x.v.ss.length x.tc])).put (some 120) (.slice (some ⟨tb, tq, none⟩) bl.length tcap)).put (some 121) (.int .i64 (k : Int))).put (some 122) (.pointer (some ⟨tb, tq + k * 3, none⟩))).put (some 123) (.agg #[.int .i64 y.v.au, .int .i64 y.v.nu, .slice y.ta y.v.ss.length y.tc])) V) := by
                  show ∀ V, _
                  intro V  hB 
                  refine hGo.out _ _ _ _ ?_
                  rw [← hA0.out]
                  try simp only [Act.put, List.setIfInBounds_toArray, List.set_cons_zero, List.set_cons_succ]
                  refine wpAnyH_ready (rs := [25]) (by kernel_rfl) (by simp) (AllReadyH.cons rfl (fun K hK => ?_) AllReadyH.nil)
                  refine step_calls_on (by rfl) 124 rfl 47 [.tmp 119, .tmp 123] #[42, 42] rfl [.agg #[.int .i64 x.v.au, .int .i64 x.v.nu, .slice x.ta x.v.ss.length x.tc], .agg #[.int .i64 y.v.au, .int .i64 y.v.nu, .slice y.ta y.v.ss.length y.tc]] rfl (enters_of Tryd.func47 (by kernel_rfl) rfl) (fun v w' => v = .bool false ∧ Below V.heap.size V w') ((HSH.out V hB).mono (fun e w2 h => ⟨_, h.1, rfl, h.2⟩)) ?_
                  rintro v W' ⟨rfl, hb⟩
                  have hBn := hB.trans (hb.mono hB.size)
                  refine hK.out _ _ ⟨(hBn.cell (p := ⟨tb, tq + i * 3, none⟩) (block_lt_of_cell g0)).trans g0, (hBn.cell (p := ⟨tb, tq + i * 3 + 1, none⟩) (block_lt_of_cell g1)).trans g1, (hBn.cell (p := ⟨tb, tq + i * 3 + 2, none⟩) (block_lt_of_cell g2)).trans g2, (hBn.cell (p := ⟨tb, tq + k * 3, none⟩) (block_lt_of_cell h0)).trans h0, (hBn.cell (p := ⟨tb, tq + k * 3 + 1, none⟩) (block_lt_of_cell h1)).trans h1, (hBn.cell (p := ⟨tb, tq + k * 3 + 2, none⟩) (block_lt_of_cell h2)).trans h2⟩ (fun hHeld => ?_)
                  simp only [Act.put, List.setIfInBounds_toArray, List.set_cons_zero, List.set_cons_succ]
                  refine take_dst (i := 26) (d := 125) (v := .bool true) rfl rfl (by kernel_rfl) (by kernel_rfl) (by kernel_rfl) (fun _ _ _ h => h) (Or.inl ⟨by rfl, ?_⟩) hHeld ?_
                  · (intro w0 hSw; (try dsimp only at hSw); go_simp)
                  simp only [Act.put, List.setIfInBounds_toArray, List.set_cons_zero, List.set_cons_succ]
                  refine take_dst (i := 27) (d := 126) (v := .bool true) rfl rfl (by kernel_rfl) (by kernel_rfl) (by kernel_rfl) (fun _ _ _ h => h) (Or.inl ⟨by rfl, ?_⟩) hHeld ?_
                  · (intro w0 hSw; (try dsimp only at hSw); go_simp)
                  simp only [Act.put, List.setIfInBounds_toArray, List.set_cons_zero, List.set_cons_succ]
                  clear hHeld
                  have h := st_AH.out W' hBn
                  rw [← hA0.out] at h
                  (try simp only [Act.put, List.setIfInBounds_toArray, List.set_cons_zero, List.set_cons_succ] at h)
                  (try simp only [Act.put, List.setIfInBounds_toArray, List.set_cons_zero, List.set_cons_succ])
                  exact hGi.out _ _ _ _ h
                have st_0 : Hid (∀ (V : World), Below VR.heap.size VR V → GO 14 #[true, true, true, true, true, true, true, true, true, true, true, true, true, true, false, false, false, false, false, false, false, false, false, false, false, false, false, false] A0 V) := by
                  show ∀ V, _
                  intro V  hB 
                  refine hGo.out _ _ _ _ ?_
                  rw [← hA0.out]
                  try simp only [Act.put, List.setIfInBounds_toArray, List.set_cons_zero, List.set_cons_succ]
                  refine wpAnyH_ready (rs := [14]) (by kernel_rfl) (by simp) (AllReadyH.cons rfl (fun K hK => ?_) AllReadyH.nil)
                  refine step_calls_on (by rfl) 113 rfl 37 [.tmp 111, .tmp 112] #[46, 46] rfl [.slice (some ⟨bx, 0, none⟩) 32 32, .slice (some ⟨by', 0, none⟩) 32 32] rfl (enters_of Tryd.func37 (by kernel_rfl) rfl) (fun v w' => v = .bool true ∧ V = w') ((HSB.out V hB).mono (fun e w2 h => ⟨_, h.1, rfl, h.2⟩)) ?_
                  rintro v W' ⟨rfl, hwq⟩
                  subst hwq
                  refine hK.out _ _ ⟨(hB.cell (p := ⟨tb, tq + i * 3, none⟩) (block_lt_of_cell g0)).trans g0, (hB.cell (p := ⟨tb, tq + i * 3 + 1, none⟩) (block_lt_of_cell g1)).trans g1, (hB.cell (p := ⟨tb, tq + i * 3 + 2, none⟩) (block_lt_of_cell g2)).trans g2, (hB.cell (p := ⟨tb, tq + k * 3, none⟩) (block_lt_of_cell h0)).trans h0, (hB.cell (p := ⟨tb, tq + k * 3 + 1, none⟩) (block_lt_of_cell h1)).trans h1, (hB.cell (p := ⟨tb, tq + k * 3 + 2, none⟩) (block_lt_of_cell h2)).trans h2⟩ (fun hHeld => ?_)
                  simp only [Act.put, List.setIfInBounds_toArray, List.set_cons_zero, List.set_cons_succ]
                  refine take_dst (i := 15) (d := 114) (v := .bool true) rfl rfl (by kernel_rfl) (by kernel_rfl) (by kernel_rfl) (fun _ _ _ h => h) (Or.inl ⟨by rfl, ?_⟩) hHeld ?_
                  · (intro w0 hSw; (try dsimp only at hSw); go_simp)
                  simp only [Act.put, List.setIfInBounds_toArray, List.set_cons_zero, List.set_cons_succ]
                  refine take_dst (i := 16) (d := 115) (v := .bool true) rfl rfl (by kernel_rfl) (by kernel_rfl) (by kernel_rfl) (fun _ _ _ h => h) (Or.inl ⟨by rfl, ?_⟩) hHeld ?_
                  · (intro w0 hSw; (try dsimp only at hSw); go_simp)
                  simp only [Act.put, List.setIfInBounds_toArray, List.set_cons_zero, List.set_cons_succ]
                  refine take_dst (i := 17) (d := 116) (v := .slice (some ⟨tb, tq, none⟩) bl.length tcap) rfl rfl (by kernel_rfl) (by kernel_rfl) (by kernel_rfl) (fun _ _ _ h => h) (Or.inl ⟨by rfl, ?_⟩) hHeld ?_
                  · (intro w0 hSw; (try dsimp only at hSw); go_simp)
                  simp only [Act.put, List.setIfInBounds_toArray, List.set_cons_zero, List.set_cons_succ]
                  refine take_dst (i := 18) (d := 117) (v := .int .i64 (i : Int)) rfl rfl (by kernel_rfl) (by kernel_rfl) (by kernel_rfl) (fun _ _ _ h => h) (Or.inl ⟨by rfl, ?_⟩) hHeld ?_
                  · (intro w0 hSw; (try dsimp only at hSw); go_simp)
                  simp only [Act.put, List.setIfInBounds_toArray, List.set_cons_zero, List.set_cons_succ]
                  refine take_dst (i := 19) (d := 118) (v := .pointer (some ⟨tb, tq + i * 3, none⟩)) rfl rfl (by kernel_rfl) (by kernel_rfl) (by kernel_rfl) (fun _ _ _ h => h) (Or.inl ⟨by rfl, ?_⟩) hHeld ?_
                  · (intro w0 hSw; (try dsimp only at hSw); go_simp)
                  simp only [Act.put, List.setIfInBounds_toArray, List.set_cons_zero, List.set_cons_succ]
                  refine take_dst (i := 20) (d := 119) (v := .agg #[.int .i64 x.v.au, .int .i64 x.v.nu, .slice x.ta x.v.ss.length x.tc]) rfl rfl (by kernel_rfl) (by kernel_rfl) (by kernel_rfl) (fun _ _ _ h => h) (Or.inl ⟨by rfl, ?_⟩) hHeld ?_
                  · (intro w0 hSw; (try dsimp only at hSw); go_simp)
                  simp only [Act.put, List.setIfInBounds_toArray, List.set_cons_zero, List.set_cons_succ]
                  refine take_dst (i := 21) (d := 120) (v := .slice (some ⟨tb, tq, none⟩) bl.length tcap) rfl rfl (by kernel_rfl) (by kernel_rfl) (by kernel_rfl) (fun _ _ _ h => h) (Or.inl ⟨by rfl, ?_⟩) hHeld ?_
                  · (intro w0 hSw; (try dsimp only at hSw); go_simp)
                  simp only [Act.put, List.setIfInBounds_toArray, List.set_cons_zero, List.set_cons_succ]
                  refine take_dst (i := 22) (d := 121) (v := .int .i64 (k : Int)) rfl rfl (by kernel_rfl) (by kernel_rfl) (by kernel_rfl) (fun _ _ _ h => h) (Or.inl ⟨by rfl, ?_⟩) hHeld ?_
                  · (intro w0 hSw; (try dsimp only at hSw); go_simp)
                  simp only [Act.put, List.setIfInBounds_toArray, List.set_cons_zero, List.set_cons_succ]
                  refine take_dst (i := 23) (d := 122) (v := .pointer (some ⟨tb, tq + k * 3, none⟩)) rfl rfl (by kernel_rfl) (by kernel_rfl) (by kernel_rfl) (fun _ _ _ h => h) (Or.inl ⟨by rfl, ?_⟩) hHeld ?_
                  · (intro w0 hSw; (try dsimp only at hSw); go_simp)
                  simp only [Act.put, List.setIfInBounds_toArray, List.set_cons_zero, List.set_cons_succ]
                  refine take_dst (i := 24) (d := 123) (v := .agg #[.int .i64 y.v.au, .int .i64 y.v.nu, .slice y.ta y.v.ss.length y.tc]) rfl rfl (by kernel_rfl) (by kernel_rfl) (by kernel_rfl) (fun _ _ _ h => h) (Or.inl ⟨by rfl, ?_⟩) hHeld ?_
                  · (intro w0 hSw; (try dsimp only at hSw); go_simp)
                  simp only [Act.put, List.setIfInBounds_toArray, List.set_cons_zero, List.set_cons_succ]
                  clear hHeld
                  have h := st_A.out V hB
                  rw [← hA0.out] at h
                  (try simp only [Act.put, List.setIfInBounds_toArray, List.set_cons_zero, List.set_cons_succ] at h)
                  (try simp only [Act.put, List.setIfInBounds_toArray, List.set_cons_zero, List.set_cons_succ])
                  exact hGi.out _ _ _ _ h
                exact st_0.out V0 hV0 
          · obtain rfl : k = i := by omega
            have hltI : ¬ (k : Int) < k := by omega
            have hne : k ≠ I := fun h => by have := HKK.out h; have := HKI.out; omega
            go_wp2_with fail
            go_roundw
            case rel =>
              have hR : ∃ i' : Nat, i' ≤ I ∧ (Value.int .i64 ((k : Int) + 1)) = .int .i64 i' ∧ Below w.heap.size w wr := ⟨k + 1, by omega, by go_num, hb0⟩
              first | exact hR | ((repeat apply Exists.intro); exact ⟨hR, rfl⟩)
            case measure => simp [intOf]; omega
end Go.Proofs.YtbmodfegcmaieaaDoor
