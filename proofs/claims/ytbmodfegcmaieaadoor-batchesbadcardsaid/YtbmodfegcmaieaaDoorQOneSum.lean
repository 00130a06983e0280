/- sheaveskeep.oneSum, of headers that may be, two of which are unlike and have one digest. -/
import Derived.Test.YtbmodfegcmaieaaDoorGIntsL
import Derived.Test.YtbmodfegcmaieaaDoorQSameL
import Derived.Test.YtbmodfegcmaieaaDoorGGrowG
import Derived.Deep.RegionHeld3
namespace Go.Proofs.YtbmodfegcmaieaaDoor
open Go.RowKit

/-- A header, and where its lists lie. -/
structure Hd where
  (au rd : Int) (ba : Option Addr) (bc : Nat) (bl : List Part) (pa : Option Addr) (pc : Nat) (pl : List Part)
def Hd.d (h : Hd) : List Int := hDig h.au h.rd h.bl h.pl
/-- A header that may be, and that is read. -/
structure HdAt (w : World) (h : Hd) : Prop where
  hat : HAt w h.ba h.bc h.bl h.pa h.pc h.pl
  ok : headerF h.au h.rd h.bl h.pl = 0
  bu : ∀ p ∈ h.bl, ∀ x ∈ p.bs, 0 ≤ x ∧ x ≤ 255
  pu : ∀ p ∈ h.pl, ∀ x ∈ p.bs, 0 ≤ x ∧ x ≤ 255
set_option maxRecDepth 100000 in
theorem HdAt.below {w w' : World} {h : Hd} (H : HdAt w h) (hb : Below w.heap.size w w') : HdAt w' h := ⟨H.hat.below hb, H.ok, H.bu, H.pu⟩
def hdAt (hs : List Hd) (k : Nat) : Hd := hs.getD k ⟨0, 0, none, 0, [], none, 0, []⟩
set_option maxRecDepth 100000 in
theorem hdAt_get (hs : List Hd) (k : Nat) (h : k < hs.length) : hdAt hs k = hs[k] := by simp [hdAt, h]
/-- The headers of a slice of headers. -/
structure HsAt (w : World) (sa : Option Addr) (hs : List Hd) : Prop where
  cells : hs = [] ∨ ∃ sb so, sa = some ⟨sb, so, none⟩ ∧ ∀ j, j < hs.length → w.cell? ⟨sb, so + j * 4, none⟩ = some (.int .i64 (hdAt hs j).au) ∧ w.cell? ⟨sb, so + j * 4 + 1, none⟩ = some (.int .i64 (hdAt hs j).rd) ∧ w.cell? ⟨sb, so + j * 4 + 2, none⟩ = some (.slice (hdAt hs j).ba (hdAt hs j).bl.length (hdAt hs j).bc) ∧ w.cell? ⟨sb, so + j * 4 + 3, none⟩ = some (.slice (hdAt hs j).pa (hdAt hs j).pl.length (hdAt hs j).pc)
  each : ∀ h ∈ hs, HdAt w h
set_option maxRecDepth 100000 in
theorem HsAt.below {w w' : World} {sa : Option Addr} {hs : List Hd} (H : HsAt w sa hs) (hb : Below w.heap.size w w') : HsAt w' sa hs := by
  refine ⟨?_, fun h hh => (H.each h hh).below hb⟩
  rcases H.cells with h | ⟨sb, so, rfl, hc⟩
  · exact .inl h
  · refine .inr ⟨sb, so, rfl, fun j hj => ?_⟩
    obtain ⟨h0, h1, h2, h3⟩ := hc j hj
    have hlt : sb < w.heap.size := block_lt_of_cell h0
    exact ⟨(hb.cell (p := ⟨sb, so + j * 4, none⟩) hlt).trans h0, (hb.cell (p := ⟨sb, so + j * 4 + 1, none⟩) hlt).trans h1, (hb.cell (p := ⟨sb, so + j * 4 + 2, none⟩) hlt).trans h2, (hb.cell (p := ⟨sb, so + j * 4 + 3, none⟩) hlt).trans h3⟩
/-- Do two headers differ? -/
def unlike (x y : Hd) : Prop := ¬ (x.au = y.au ∧ x.rd = y.rd ∧ bsOf x.bl = bsOf y.bl ∧ bsOf x.pl = bsOf y.pl)
set_option maxRecDepth 100000 in
theorem HdAt.head {w : World} {h : Hd} (H : HdAt w h) : HeadAt w h.ba h.bl.length h.bc h.bl h.pa h.pl.length h.pc h.pl := by
  obtain ⟨_, _, y3, y4, _, _⟩ := headerF_ok H.ok
  exact ⟨rfl, rfl, by omega, by omega, H.hat.lb, H.hat.lp, H.bu, H.pu⟩
set_option maxRecDepth 100000 in
set_option maxHeartbeats 4000000 in
theorem oneSum_true (hs : List Hd) (sa : Option Addr) (n cap : Nat) (bv : Value) (w : World) (I K : Nat) (hn : n = hs.length) (hl : hs.length ≤ 100000) (hK : K < I) (hI : I < hs.length) (hS : HsAt w sa hs) (hD : (hdAt hs I).d = (hdAt hs K).d) (hU : unlike (hdAt hs I) (hdAt hs K)) (hT : Tabs w) :
    Calls Tryd.prog 25 #[.slice sa n cap, bv] w fun e w' => e = .returned (.bool true) ∧ Below w.heap.size w w' := by
  subst hn
  obtain ⟨sb, so, rfl, hc⟩ : ∃ sb so, sa = some ⟨sb, so, none⟩ ∧ ∀ j, j < hs.length → w.cell? ⟨sb, so + j * 4, none⟩ = some (.int .i64 (hdAt hs j).au) ∧ w.cell? ⟨sb, so + j * 4 + 1, none⟩ = some (.int .i64 (hdAt hs j).rd) ∧ w.cell? ⟨sb, so + j * 4 + 2, none⟩ = some (.slice (hdAt hs j).ba (hdAt hs j).bl.length (hdAt hs j).bc) ∧ w.cell? ⟨sb, so + j * 4 + 3, none⟩ = some (.slice (hdAt hs j).pa (hdAt hs j).pl.length (hdAt hs j).pc) := by
    rcases hS.cells with h | h
    · rw [h] at hI; simp at hI
    · exact h
  have HC : Hid (∀ j, j < hs.length → ∀ W : World, Below w.heap.size w W → W.cell? ⟨sb, so + j * 4, none⟩ = some (.int .i64 (hdAt hs j).au) ∧ W.cell? ⟨sb, so + j * 4 + 1, none⟩ = some (.int .i64 (hdAt hs j).rd) ∧ W.cell? ⟨sb, so + j * 4 + 2, none⟩ = some (.slice (hdAt hs j).ba (hdAt hs j).bl.length (hdAt hs j).bc) ∧ W.cell? ⟨sb, so + j * 4 + 3, none⟩ = some (.slice (hdAt hs j).pa (hdAt hs j).pl.length (hdAt hs j).pc)) := by
    show ∀ j, _
    intro j hj W hW
    obtain ⟨h0, h1, h2, h3⟩ := hc j hj
    have hlt : sb < w.heap.size := block_lt_of_cell h0
    exact ⟨(hW.cell (p := ⟨sb, so + j * 4, none⟩) hlt).trans h0, (hW.cell (p := ⟨sb, so + j * 4 + 1, none⟩) hlt).trans h1, (hW.cell (p := ⟨sb, so + j * 4 + 2, none⟩) hlt).trans h2, (hW.cell (p := ⟨sb, so + j * 4 + 3, none⟩) hlt).trans h3⟩
  have HA : Hid (∀ j, j < hs.length → ∀ W : World, Below w.heap.size w W → HdAt W (hdAt hs j)) := by
    show ∀ j, _
    intro j hj W hW
    rw [hdAt_get hs j hj]
    exact (hS.each _ (List.getElem_mem hj)).below hW
  have HT : Hid (∀ W : World, Below w.heap.size w W → Tabs W) := by
    show ∀ W, _
    exact fun W hW => hT.below hW
  have HD : Hid _ := hD
  have HU : Hid _ := hU
  have HKI : Hid (K < I) := hK
  have HIL : Hid (I < hs.length) := hI
  clear hS hc hT hD hU hK hI
  go_enter Tryd.func25, Tryd.ntmps25
  go_wp2_with fail
  go_loopw [5] (fun j wr => ∃ i : Nat, i ≤ I ∧ j = .int .i64 i ∧ Below w.heap.size w wr) (fun j _ => hs.length - (intOf j).toNat)
  case atStart => exact ⟨0, Nat.zero_le _, rfl, Below.refl _ _⟩
  case round =>
    obtain ⟨i, hi, rfl, hb⟩ := hrel
    have hiL : i < hs.length := by have := HIL.out; omega
    have hiI : (i : Int) < hs.length := by omega
    go_wp2_with fail
    go_loopw [6] (fun j wr => ∃ k : Nat, (k ≤ i ∧ (i = I → k ≤ K)) ∧ j = .int .i64 k ∧ Below w.heap.size w wr) (fun j _ => i - (intOf j).toNat)
    case atStart => exact ⟨0, ⟨Nat.zero_le _, fun _ => Nat.zero_le _⟩, rfl, hb⟩
    case round =>
      obtain ⟨k, ⟨hk, hkK⟩, rfl, hb0⟩ := hrel
      have HKK : Hid _ := hkK
      clear hkK
      by_cases hlt : k < i
      · have hltI : (k : Int) < i := by omega
        have hkL : k < hs.length := by omega
        have hkI : (k : Int) < hs.length := by omega
        obtain ⟨x, hxe⟩ : ∃ x, hdAt hs i = x := ⟨_, rfl⟩
        obtain ⟨y, hye⟩ : ∃ y, hdAt hs k = y := ⟨_, rfl⟩
        obtain ⟨c0, c1, c2, c3⟩ := HC.out i hiL wr hb0
        rw [hxe] at c0 c1 c2 c3
        have HX : Hid (∀ W : World, Below w.heap.size w W → HdAt W x) := by
          show ∀ W, _
          intro W hW
          rw [← hxe]; exact HA.out i hiL W hW
        have HY : Hid (∀ W : World, Below w.heap.size w W → HdAt W y) := by
          show ∀ W, _
          intro W hW
          rw [← hye]; exact HA.out k hkL W hW
        have HNX : Hid ((i = I → k = K → False) → i = I → k + 1 ≤ K) := by
          show _ → _
          intro h1 h2
          have h3 := HKK.out h2
          have h4 : ¬ k = K := h1 h2
          omega
        have HHIT : Hid (i = I → k = K → x.d = y.d ∧ unlike x y) := by
          show _ → _
          intro h1 h2
          rw [← hxe, ← hye, h1, h2]
          exact ⟨HD.out, HU.out⟩
        go_wp2_with fail
        refine (headerDigest_hat (HX.out wr hb0).hat (HX.out wr hb0).ok (HT.out wr hb0)).mono ?_
        rintro e w2 ⟨bx, he, hgx, hb2, hsx⟩
        subst he
        dsimp only
        have hB2 := hb0.trans (hb2.mono hb0.size)
        clear c0 c1 c2 c3
        obtain ⟨c0, c1, c2, c3⟩ := HC.out k hkL w2 hB2
        rw [hye] at c0 c1 c2 c3
        go_wp2_with fail
        refine (headerDigest_hat (HY.out w2 hB2).hat (HY.out w2 hB2).ok (HT.out w2 hB2)).mono ?_
        rintro e w4 ⟨by', he, hgy, hb4, hsy⟩
        subst he
        dsimp only
        have hB4 := hB2.trans (hb4.mono hB2.size)
        have hb4d := hb4
        clear c0 c1 c2 c3
        have hsx4 := (hsx.below hb4).below ((Below.refl w4.heap.size w4).drew)
        have hsy4 := hsy.below ((Below.refl w4.heap.size w4).drew)
        obtain ⟨B, hBe⟩ : ∃ B : Bool, decide (x.d = y.d) = B := ⟨_, rfl⟩
        have HSB : Hid (Calls Tryd.prog 37 #[.slice (some ⟨bx, 0, none⟩) 32 32, .slice (some ⟨by', 0, none⟩) 32 32] w4.drew fun e w' => e = .returned (.bool B) ∧ w4.drew = w') := by
          show Calls _ _ _ _ _
          have h := same_any (hDig x.au x.rd x.bl x.pl) (hDig y.au y.rd y.bl y.pl) (some ⟨bx, 0, none⟩) (some ⟨by', 0, none⟩) 32 32 32 32 w4.drew (hDig_length _ _ _ _).symm (hDig_length _ _ _ _).symm hsx4 hsy4 (digU8 _ _ _ _) (digU8 _ _ _ _)
          have h2 : decide (hDig x.au x.rd x.bl x.pl = hDig y.au y.rd y.bl y.pl) = B := hBe
          rw [h2] at h
          exact h
        have HBE : Hid _ := hBe
        clear hsx hsy hsx4 hsy4 hgx hgy hBe
        cases B with
        | false =>
          have HNX : Hid (i = I → k + 1 ≤ K) := HNX.out (fun h1 h2 => of_decide_eq_false HBE.out (HHIT.out h1 h2).1)
          go_upto_region 9 with fail
          have hBd := hB4.drew
          have hbd4 := hb4d
          obtain ⟨g0, g1, g2, g3⟩ := HC.out i hiL w4.drew hBd
          obtain ⟨g4, g5, g6, g7⟩ := HC.out k hkL w4.drew hBd
          rw [hxe] at g0 g1 g2 g3
          rw [hye] at g4 g5 g6 g7
          refine wp_region_held_drew (S := fun w' => w'.cell? ⟨sb, so + i * 4, none⟩ = some (.int .i64 x.au) ∧ w'.cell? ⟨sb, so + i * 4 + 1, none⟩ = some (.int .i64 x.rd) ∧ w'.cell? ⟨sb, so + i * 4 + 2, none⟩ = some (.slice x.ba x.bl.length x.bc) ∧ w'.cell? ⟨sb, so + i * 4 + 3, none⟩ = some (.slice x.pa x.pl.length x.pc) ∧ w'.cell? ⟨sb, so + k * 4, none⟩ = some (.int .i64 y.au) ∧ w'.cell? ⟨sb, so + k * 4 + 1, none⟩ = some (.int .i64 y.rd) ∧ w'.cell? ⟨sb, so + k * 4 + 2, none⟩ = some (.slice y.ba y.bl.length y.bc) ∧ w'.cell? ⟨sb, so + k * 4 + 3, none⟩ = some (.slice y.pa y.pl.length y.pc)) (by kernel_rfl) ⟨g0, g1, g2, g3, g4, g5, g6, g7⟩ (fun hHeld => ?_)
          refine take_dst (i := 0) (d := 44) (v := .int .i64 0) rfl rfl (by kernel_rfl) (by kernel_rfl) (by kernel_rfl) (fun _ _ _ h => h) (Or.inl ⟨by rfl, ?_⟩) hHeld ?_
          · (intro w0 hSw; (try dsimp only at hSw); go_simp)
          simp only [Act.put, List.setIfInBounds_toArray, List.set_cons_zero, List.set_cons_succ]
          refine take_dst (i := 1) (d := 45) (v := .bool true) rfl rfl (by kernel_rfl) (by kernel_rfl) (by kernel_rfl) (fun _ _ _ h => h) (Or.inl ⟨by rfl, ?_⟩) hHeld ?_
          · (intro w0 hSw; (try dsimp only at hSw); go_simp)
          simp only [Act.put, List.setIfInBounds_toArray, List.set_cons_zero, List.set_cons_succ]
          refine take_dst (i := 2) (d := 46) (v := .bool true) rfl rfl (by kernel_rfl) (by kernel_rfl) (by kernel_rfl) (fun _ _ _ h => h) (Or.inl ⟨by rfl, ?_⟩) hHeld ?_
          · (intro w0 hSw; (try dsimp only at hSw); go_simp)
          simp only [Act.put, List.setIfInBounds_toArray, List.set_cons_zero, List.set_cons_succ]
          refine take_dst (i := 3) (d := 47) (v := .int .i64 0) rfl rfl (by kernel_rfl) (by kernel_rfl) (by kernel_rfl) (fun _ _ _ h => h) (Or.inl ⟨by rfl, ?_⟩) hHeld ?_
          · (intro w0 hSw; (try dsimp only at hSw); go_simp)
          simp only [Act.put, List.setIfInBounds_toArray, List.set_cons_zero, List.set_cons_succ]
          refine take_dst (i := 4) (d := 48) (v := .bool true) rfl rfl (by kernel_rfl) (by kernel_rfl) (by kernel_rfl) (fun _ _ _ h => h) (Or.inl ⟨by rfl, ?_⟩) hHeld ?_
          · (intro w0 hSw; (try dsimp only at hSw); go_simp)
          simp only [Act.put, List.setIfInBounds_toArray, List.set_cons_zero, List.set_cons_succ]
          refine take_dst (i := 5) (d := 49) (v := .bool true) rfl rfl (by kernel_rfl) (by kernel_rfl) (by kernel_rfl) (fun _ _ _ h => h) (Or.inl ⟨by rfl, ?_⟩) hHeld ?_
          · (intro w0 hSw; (try dsimp only at hSw); go_simp)
          simp only [Act.put, List.setIfInBounds_toArray, List.set_cons_zero, List.set_cons_succ]
          refine take_dst (i := 6) (d := 50) (v := .bool true) rfl rfl (by kernel_rfl) (by kernel_rfl) (by kernel_rfl) (fun _ _ _ h => h) (Or.inl ⟨by rfl, ?_⟩) hHeld ?_
          · (intro w0 hSw; (try dsimp only at hSw); go_simp)
          simp only [Act.put, List.setIfInBounds_toArray, List.set_cons_zero, List.set_cons_succ]
          refine take_dst (i := 7) (d := 51) (v := .slice (some ⟨bx, 0, none⟩) 32 32) rfl rfl (by kernel_rfl) (by kernel_rfl) (by kernel_rfl) (fun _ _ _ h => h) (Or.inl ⟨by rfl, ?_⟩) hHeld ?_
          · (intro w0 hSw; (try dsimp only at hSw); go_simp)
          simp only [Act.put, List.setIfInBounds_toArray, List.set_cons_zero, List.set_cons_succ]
          refine take_dst (i := 8) (d := 52) (v := .int .i64 32) rfl rfl (by kernel_rfl) (by kernel_rfl) (by kernel_rfl) (fun _ _ _ h => h) (Or.inl ⟨by rfl, ?_⟩) hHeld ?_
          · (intro w0 hSw; (try dsimp only at hSw); go_simp)
          simp only [Act.put, List.setIfInBounds_toArray, List.set_cons_zero, List.set_cons_succ]
          refine take_dst (i := 9) (d := 53) (v := .bool true) rfl rfl (by kernel_rfl) (by kernel_rfl) (by kernel_rfl) (fun _ _ _ h => h) (Or.inl ⟨by rfl, ?_⟩) hHeld ?_
          · (intro w0 hSw; (try dsimp only at hSw); go_simp)
          simp only [Act.put, List.setIfInBounds_toArray, List.set_cons_zero, List.set_cons_succ]
          refine take_dst (i := 10) (d := 54) (v := .bool true) rfl rfl (by kernel_rfl) (by kernel_rfl) (by kernel_rfl) (fun _ _ _ h => h) (Or.inl ⟨by rfl, ?_⟩) hHeld ?_
          · (intro w0 hSw; (try dsimp only at hSw); go_simp)
          simp only [Act.put, List.setIfInBounds_toArray, List.set_cons_zero, List.set_cons_succ]
          refine take_dst (i := 11) (d := 55) (v := .bool true) rfl rfl (by kernel_rfl) (by kernel_rfl) (by kernel_rfl) (fun _ _ _ h => h) (Or.inl ⟨by rfl, ?_⟩) hHeld ?_
          · (intro w0 hSw; (try dsimp only at hSw); go_simp)
          simp only [Act.put, List.setIfInBounds_toArray, List.set_cons_zero, List.set_cons_succ]
          refine take_dst (i := 12) (d := 56) (v := .slice (some ⟨bx, 0, none⟩) 32 32) rfl rfl (by kernel_rfl) (by kernel_rfl) (by kernel_rfl) (fun _ _ _ h => h) (Or.inl ⟨by rfl, ?_⟩) hHeld ?_
          · (intro w0 hSw; (try dsimp only at hSw); go_simp)
          simp only [Act.put, List.setIfInBounds_toArray, List.set_cons_zero, List.set_cons_succ]
          refine take_dst (i := 13) (d := 57) (v := .slice (some ⟨by', 0, none⟩) 32 32) rfl rfl (by kernel_rfl) (by kernel_rfl) (by kernel_rfl) (fun _ _ _ h => h) (Or.inl ⟨by rfl, ?_⟩) hHeld ?_
          · (intro w0 hSw; (try dsimp only at hSw); go_simp)
          simp only [Act.put, List.setIfInBounds_toArray, List.set_cons_zero, List.set_cons_succ]
          refine wpAnyH_ready (rs := [14]) (by kernel_rfl) (by simp) (AllReadyH.cons rfl (fun KK hK => ?_) AllReadyH.nil)
          refine step_calls_on (by rfl) 58 rfl 37 [.tmp 56, .tmp 57] #[46, 46] rfl [.slice (some ⟨bx, 0, none⟩) 32 32, .slice (some ⟨by', 0, none⟩) 32 32] rfl (enters_of Tryd.func37 (by kernel_rfl) rfl) (fun v w' => v = .bool false ∧ w4.drew = w') (HSB.out.mono (by rintro e w' ⟨rfl, h⟩; exact ⟨_, rfl, rfl, h⟩)) ?_
          rintro v w5 ⟨rfl, rfl⟩
          refine hK.out _ _ hHeld (fun hHeld => ?_)
          simp only [Act.put, List.setIfInBounds_toArray, List.set_cons_zero, List.set_cons_succ]
          refine take_dst (i := 15) (d := 59) (v := .bool false) rfl rfl (by kernel_rfl) (by kernel_rfl) (by kernel_rfl) (fun _ _ _ h => h) (Or.inl ⟨by rfl, ?_⟩) hHeld ?_
          · (intro w0 hSw; (try dsimp only at hSw); go_simp)
          simp only [Act.put, List.setIfInBounds_toArray, List.set_cons_zero, List.set_cons_succ]
          refine take_dst (i := 16) (d := 60) (v := .bool false) rfl rfl (by kernel_rfl) (by kernel_rfl) (by kernel_rfl) (fun _ _ _ h => h) (Or.inl ⟨by rfl, ?_⟩) hHeld ?_
          · (intro w0 hSw; (try dsimp only at hSw); go_simp)
          simp only [Act.put, List.setIfInBounds_toArray, List.set_cons_zero, List.set_cons_succ]
          refine take_dst (i := 17) (d := 61) (v := undef) rfl rfl (by kernel_rfl) (by kernel_rfl) (by kernel_rfl) (fun _ _ _ h => h) (Or.inr ⟨by rfl, rfl⟩) hHeld ?_
          simp only [Act.put, List.setIfInBounds_toArray, List.set_cons_zero, List.set_cons_succ]
          refine take_dst (i := 18) (d := 62) (v := undef) rfl rfl (by kernel_rfl) (by kernel_rfl) (by kernel_rfl) (fun _ _ _ h => h) (Or.inr ⟨by rfl, rfl⟩) hHeld ?_
          simp only [Act.put, List.setIfInBounds_toArray, List.set_cons_zero, List.set_cons_succ]
          refine take_dst (i := 19) (d := 63) (v := undef) rfl rfl (by kernel_rfl) (by kernel_rfl) (by kernel_rfl) (fun _ _ _ h => h) (Or.inr ⟨by rfl, rfl⟩) hHeld ?_
          simp only [Act.put, List.setIfInBounds_toArray, List.set_cons_zero, List.set_cons_succ]
          refine take_dst (i := 20) (d := 64) (v := undef) rfl rfl (by kernel_rfl) (by kernel_rfl) (by kernel_rfl) (fun _ _ _ h => h) (Or.inr ⟨by rfl, rfl⟩) hHeld ?_
          simp only [Act.put, List.setIfInBounds_toArray, List.set_cons_zero, List.set_cons_succ]
          refine take_dst (i := 21) (d := 65) (v := undef) rfl rfl (by kernel_rfl) (by kernel_rfl) (by kernel_rfl) (fun _ _ _ h => h) (Or.inr ⟨by rfl, rfl⟩) hHeld ?_
          simp only [Act.put, List.setIfInBounds_toArray, List.set_cons_zero, List.set_cons_succ]
          refine take_dst (i := 22) (d := 66) (v := undef) rfl rfl (by kernel_rfl) (by kernel_rfl) (by kernel_rfl) (fun _ _ _ h => h) (Or.inr ⟨by rfl, rfl⟩) hHeld ?_
          simp only [Act.put, List.setIfInBounds_toArray, List.set_cons_zero, List.set_cons_succ]
          refine take_dst (i := 23) (d := 67) (v := undef) rfl rfl (by kernel_rfl) (by kernel_rfl) (by kernel_rfl) (fun _ _ _ h => h) (Or.inr ⟨by rfl, rfl⟩) hHeld ?_
          simp only [Act.put, List.setIfInBounds_toArray, List.set_cons_zero, List.set_cons_succ]
          refine take_dst (i := 24) (d := 68) (v := undef) rfl rfl (by kernel_rfl) (by kernel_rfl) (by kernel_rfl) (fun _ _ _ h => h) (Or.inr ⟨by rfl, rfl⟩) hHeld ?_
          simp only [Act.put, List.setIfInBounds_toArray, List.set_cons_zero, List.set_cons_succ]
          refine take_dst (i := 25) (d := 69) (v := undef) rfl rfl (by kernel_rfl) (by kernel_rfl) (by kernel_rfl) (fun _ _ _ h => h) (Or.inr ⟨by rfl, rfl⟩) hHeld ?_
          simp only [Act.put, List.setIfInBounds_toArray, List.set_cons_zero, List.set_cons_succ]
          refine take_dst (i := 26) (d := 70) (v := undef) rfl rfl (by kernel_rfl) (by kernel_rfl) (by kernel_rfl) (fun _ _ _ h => h) (Or.inr ⟨by rfl, rfl⟩) hHeld ?_
          simp only [Act.put, List.setIfInBounds_toArray, List.set_cons_zero, List.set_cons_succ]
          refine take_dst (i := 27) (d := 71) (v := .bool false) rfl rfl (by kernel_rfl) (by kernel_rfl) (by kernel_rfl) (fun _ _ _ h => h) (Or.inl ⟨by rfl, ?_⟩) hHeld ?_
          · (intro w0 hSw; (try dsimp only at hSw); go_simp)
          simp only [Act.put, List.setIfInBounds_toArray, List.set_cons_zero, List.set_cons_succ]
          refine wpAnyH_done (by kernel_rfl) ?_ _
          have HBW := hBd
          (try go_wp2_with fail)
          go_roundw
          case rel =>
            have hR : ∃ k' : Nat, (k' ≤ i ∧ (i = I → k' ≤ K)) ∧ (Value.int .i64 ((k : Int) + 1)) = .int .i64 k' ∧ Below w.heap.size w w4.drew := ⟨k + 1, ⟨by omega, HNX.out⟩, by go_num, HBW⟩
            first | exact hR | ((repeat apply Exists.intro); exact ⟨hR, rfl⟩)
          case measure => simp [intOf]; omega
        | true =>
          obtain ⟨Q, hQe⟩ : ∃ Q : Bool, decide (x.au = y.au ∧ x.rd = y.rd ∧ bsOf x.bl = bsOf y.bl ∧ bsOf x.pl = bsOf y.pl) = Q := ⟨_, rfl⟩
          have HSH : Hid (Calls Tryd.prog 46 #[.agg #[.int .i64 x.au, .int .i64 x.rd, .slice x.ba x.bl.length x.bc, .slice x.pa x.pl.length x.pc], .agg #[.int .i64 y.au, .int .i64 y.rd, .slice y.ba y.bl.length y.bc, .slice y.pa y.pl.length y.pc]] w4.drew fun e w' => e = .returned (.bool Q) ∧ Below w4.drew.heap.size w4.drew w') := by
            show Calls _ _ _ _ _
            have h := sameHeader_any x.au x.rd y.au y.rd x.ba _ x.bc x.bl x.pa _ x.pc x.pl y.ba _ y.bc y.bl y.pa _ y.pc y.pl w4.drew (HX.out w4.drew hB4.drew).head (HY.out w4.drew hB4.drew).head
            rw [hQe] at h
            exact h
          have HQE : Hid _ := hQe
          clear hQe
          cases Q with
          | true =>
            have HNX : Hid (i = I → k + 1 ≤ K) := HNX.out (fun h1 h2 => (HHIT.out h1 h2).2 (of_decide_eq_true HQE.out))
            go_upto_region 9 with fail
            have hBd := hB4.drew
            have hbd4 := hb4d
            obtain ⟨g0, g1, g2, g3⟩ := HC.out i hiL w4.drew hBd
            obtain ⟨g4, g5, g6, g7⟩ := HC.out k hkL w4.drew hBd
            rw [hxe] at g0 g1 g2 g3
            rw [hye] at g4 g5 g6 g7
            refine wp_region_held_drew (S := fun w' => w'.cell? ⟨sb, so + i * 4, none⟩ = some (.int .i64 x.au) ∧ w'.cell? ⟨sb, so + i * 4 + 1, none⟩ = some (.int .i64 x.rd) ∧ w'.cell? ⟨sb, so + i * 4 + 2, none⟩ = some (.slice x.ba x.bl.length x.bc) ∧ w'.cell? ⟨sb, so + i * 4 + 3, none⟩ = some (.slice x.pa x.pl.length x.pc) ∧ w'.cell? ⟨sb, so + k * 4, none⟩ = some (.int .i64 y.au) ∧ w'.cell? ⟨sb, so + k * 4 + 1, none⟩ = some (.int .i64 y.rd) ∧ w'.cell? ⟨sb, so + k * 4 + 2, none⟩ = some (.slice y.ba y.bl.length y.bc) ∧ w'.cell? ⟨sb, so + k * 4 + 3, none⟩ = some (.slice y.pa y.pl.length y.pc)) (by kernel_rfl) ⟨g0, g1, g2, g3, g4, g5, g6, g7⟩ (fun hHeld => ?_)
            refine take_dst (i := 0) (d := 44) (v := .int .i64 0) rfl rfl (by kernel_rfl) (by kernel_rfl) (by kernel_rfl) (fun _ _ _ h => h) (Or.inl ⟨by rfl, ?_⟩) hHeld ?_
            · (intro w0 hSw; (try dsimp only at hSw); go_simp)
            simp only [Act.put, List.setIfInBounds_toArray, List.set_cons_zero, List.set_cons_succ]
            refine take_dst (i := 1) (d := 45) (v := .bool true) rfl rfl (by kernel_rfl) (by kernel_rfl) (by kernel_rfl) (fun _ _ _ h => h) (Or.inl ⟨by rfl, ?_⟩) hHeld ?_
            · (intro w0 hSw; (try dsimp only at hSw); go_simp)
            simp only [Act.put, List.setIfInBounds_toArray, List.set_cons_zero, List.set_cons_succ]
            refine take_dst (i := 2) (d := 46) (v := .bool true) rfl rfl (by kernel_rfl) (by kernel_rfl) (by kernel_rfl) (fun _ _ _ h => h) (Or.inl ⟨by rfl, ?_⟩) hHeld ?_
            · (intro w0 hSw; (try dsimp only at hSw); go_simp)
            simp only [Act.put, List.setIfInBounds_toArray, List.set_cons_zero, List.set_cons_succ]
            refine take_dst (i := 3) (d := 47) (v := .int .i64 0) rfl rfl (by kernel_rfl) (by kernel_rfl) (by kernel_rfl) (fun _ _ _ h => h) (Or.inl ⟨by rfl, ?_⟩) hHeld ?_
            · (intro w0 hSw; (try dsimp only at hSw); go_simp)
            simp only [Act.put, List.setIfInBounds_toArray, List.set_cons_zero, List.set_cons_succ]
            refine take_dst (i := 4) (d := 48) (v := .bool true) rfl rfl (by kernel_rfl) (by kernel_rfl) (by kernel_rfl) (fun _ _ _ h => h) (Or.inl ⟨by rfl, ?_⟩) hHeld ?_
            · (intro w0 hSw; (try dsimp only at hSw); go_simp)
            simp only [Act.put, List.setIfInBounds_toArray, List.set_cons_zero, List.set_cons_succ]
            refine take_dst (i := 5) (d := 49) (v := .bool true) rfl rfl (by kernel_rfl) (by kernel_rfl) (by kernel_rfl) (fun _ _ _ h => h) (Or.inl ⟨by rfl, ?_⟩) hHeld ?_
            · (intro w0 hSw; (try dsimp only at hSw); go_simp)
            simp only [Act.put, List.setIfInBounds_toArray, List.set_cons_zero, List.set_cons_succ]
            refine take_dst (i := 6) (d := 50) (v := .bool true) rfl rfl (by kernel_rfl) (by kernel_rfl) (by kernel_rfl) (fun _ _ _ h => h) (Or.inl ⟨by rfl, ?_⟩) hHeld ?_
            · (intro w0 hSw; (try dsimp only at hSw); go_simp)
            simp only [Act.put, List.setIfInBounds_toArray, List.set_cons_zero, List.set_cons_succ]
            refine take_dst (i := 7) (d := 51) (v := .slice (some ⟨bx, 0, none⟩) 32 32) rfl rfl (by kernel_rfl) (by kernel_rfl) (by kernel_rfl) (fun _ _ _ h => h) (Or.inl ⟨by rfl, ?_⟩) hHeld ?_
            · (intro w0 hSw; (try dsimp only at hSw); go_simp)
            simp only [Act.put, List.setIfInBounds_toArray, List.set_cons_zero, List.set_cons_succ]
            refine take_dst (i := 8) (d := 52) (v := .int .i64 32) rfl rfl (by kernel_rfl) (by kernel_rfl) (by kernel_rfl) (fun _ _ _ h => h) (Or.inl ⟨by rfl, ?_⟩) hHeld ?_
            · (intro w0 hSw; (try dsimp only at hSw); go_simp)
            simp only [Act.put, List.setIfInBounds_toArray, List.set_cons_zero, List.set_cons_succ]
            refine take_dst (i := 9) (d := 53) (v := .bool true) rfl rfl (by kernel_rfl) (by kernel_rfl) (by kernel_rfl) (fun _ _ _ h => h) (Or.inl ⟨by rfl, ?_⟩) hHeld ?_
            · (intro w0 hSw; (try dsimp only at hSw); go_simp)
            simp only [Act.put, List.setIfInBounds_toArray, List.set_cons_zero, List.set_cons_succ]
            refine take_dst (i := 10) (d := 54) (v := .bool true) rfl rfl (by kernel_rfl) (by kernel_rfl) (by kernel_rfl) (fun _ _ _ h => h) (Or.inl ⟨by rfl, ?_⟩) hHeld ?_
            · (intro w0 hSw; (try dsimp only at hSw); go_simp)
            simp only [Act.put, List.setIfInBounds_toArray, List.set_cons_zero, List.set_cons_succ]
            refine take_dst (i := 11) (d := 55) (v := .bool true) rfl rfl (by kernel_rfl) (by kernel_rfl) (by kernel_rfl) (fun _ _ _ h => h) (Or.inl ⟨by rfl, ?_⟩) hHeld ?_
            · (intro w0 hSw; (try dsimp only at hSw); go_simp)
            simp only [Act.put, List.setIfInBounds_toArray, List.set_cons_zero, List.set_cons_succ]
            refine take_dst (i := 12) (d := 56) (v := .slice (some ⟨bx, 0, none⟩) 32 32) rfl rfl (by kernel_rfl) (by kernel_rfl) (by kernel_rfl) (fun _ _ _ h => h) (Or.inl ⟨by rfl, ?_⟩) hHeld ?_
            · (intro w0 hSw; (try dsimp only at hSw); go_simp)
            simp only [Act.put, List.setIfInBounds_toArray, List.set_cons_zero, List.set_cons_succ]
            refine take_dst (i := 13) (d := 57) (v := .slice (some ⟨by', 0, none⟩) 32 32) rfl rfl (by kernel_rfl) (by kernel_rfl) (by kernel_rfl) (fun _ _ _ h => h) (Or.inl ⟨by rfl, ?_⟩) hHeld ?_
            · (intro w0 hSw; (try dsimp only at hSw); go_simp)
            simp only [Act.put, List.setIfInBounds_toArray, List.set_cons_zero, List.set_cons_succ]
            refine wpAnyH_ready (rs := [14]) (by kernel_rfl) (by simp) (AllReadyH.cons rfl (fun KK hK => ?_) AllReadyH.nil)
            refine step_calls_on (by rfl) 58 rfl 37 [.tmp 56, .tmp 57] #[46, 46] rfl [.slice (some ⟨bx, 0, none⟩) 32 32, .slice (some ⟨by', 0, none⟩) 32 32] rfl (enters_of Tryd.func37 (by kernel_rfl) rfl) (fun v w' => v = .bool true ∧ w4.drew = w') (HSB.out.mono (by rintro e w' ⟨rfl, h⟩; exact ⟨_, rfl, rfl, h⟩)) ?_
            rintro v w5 ⟨rfl, rfl⟩
            refine hK.out _ _ hHeld (fun hHeld => ?_)
            simp only [Act.put, List.setIfInBounds_toArray, List.set_cons_zero, List.set_cons_succ]
            refine take_dst (i := 15) (d := 59) (v := .bool true) rfl rfl (by kernel_rfl) (by kernel_rfl) (by kernel_rfl) (fun _ _ _ h => h) (Or.inl ⟨by rfl, ?_⟩) hHeld ?_
            · (intro w0 hSw; (try dsimp only at hSw); go_simp)
            simp only [Act.put, List.setIfInBounds_toArray, List.set_cons_zero, List.set_cons_succ]
            refine take_dst (i := 16) (d := 60) (v := .bool true) rfl rfl (by kernel_rfl) (by kernel_rfl) (by kernel_rfl) (fun _ _ _ h => h) (Or.inl ⟨by rfl, ?_⟩) hHeld ?_
            · (intro w0 hSw; (try dsimp only at hSw); go_simp)
            simp only [Act.put, List.setIfInBounds_toArray, List.set_cons_zero, List.set_cons_succ]
            refine take_dst (i := 17) (d := 61) (v := .slice (some ⟨sb, so, none⟩) hs.length cap) rfl rfl (by kernel_rfl) (by kernel_rfl) (by kernel_rfl) (fun _ _ _ h => h) (Or.inl ⟨by rfl, ?_⟩) hHeld ?_
            · (intro w0 hSw; (try dsimp only at hSw); go_simp)
            simp only [Act.put, List.setIfInBounds_toArray, List.set_cons_zero, List.set_cons_succ]
            refine take_dst (i := 18) (d := 62) (v := .int .i64 (i : Int)) rfl rfl (by kernel_rfl) (by kernel_rfl) (by kernel_rfl) (fun _ _ _ h => h) (Or.inl ⟨by rfl, ?_⟩) hHeld ?_
            · (intro w0 hSw; (try dsimp only at hSw); go_simp)
            simp only [Act.put, List.setIfInBounds_toArray, List.set_cons_zero, List.set_cons_succ]
            refine take_dst (i := 19) (d := 63) (v := .pointer (some ⟨sb, so + i * 4, none⟩)) rfl rfl (by kernel_rfl) (by kernel_rfl) (by kernel_rfl) (fun _ _ _ h => h) (Or.inl ⟨by rfl, ?_⟩) hHeld ?_
            · (intro w0 hSw; (try dsimp only at hSw); go_simp)
            simp only [Act.put, List.setIfInBounds_toArray, List.set_cons_zero, List.set_cons_succ]
            refine take_dst (i := 20) (d := 64) (v := .agg #[.int .i64 x.au, .int .i64 x.rd, .slice x.ba x.bl.length x.bc, .slice x.pa x.pl.length x.pc]) rfl rfl (by kernel_rfl) (by kernel_rfl) (by kernel_rfl) (fun _ _ _ h => h) (Or.inl ⟨by rfl, ?_⟩) hHeld ?_
            · (intro w0 hSw; (try dsimp only at hSw); go_simp)
            simp only [Act.put, List.setIfInBounds_toArray, List.set_cons_zero, List.set_cons_succ]
            refine take_dst (i := 21) (d := 65) (v := .slice (some ⟨sb, so, none⟩) hs.length cap) rfl rfl (by kernel_rfl) (by kernel_rfl) (by kernel_rfl) (fun _ _ _ h => h) (Or.inl ⟨by rfl, ?_⟩) hHeld ?_
            · (intro w0 hSw; (try dsimp only at hSw); go_simp)
            simp only [Act.put, List.setIfInBounds_toArray, List.set_cons_zero, List.set_cons_succ]
            refine take_dst (i := 22) (d := 66) (v := .int .i64 (k : Int)) rfl rfl (by kernel_rfl) (by kernel_rfl) (by kernel_rfl) (fun _ _ _ h => h) (Or.inl ⟨by rfl, ?_⟩) hHeld ?_
            · (intro w0 hSw; (try dsimp only at hSw); go_simp)
            simp only [Act.put, List.setIfInBounds_toArray, List.set_cons_zero, List.set_cons_succ]
            refine take_dst (i := 23) (d := 67) (v := .pointer (some ⟨sb, so + k * 4, none⟩)) rfl rfl (by kernel_rfl) (by kernel_rfl) (by kernel_rfl) (fun _ _ _ h => h) (Or.inl ⟨by rfl, ?_⟩) hHeld ?_
            · (intro w0 hSw; (try dsimp only at hSw); go_simp)
            simp only [Act.put, List.setIfInBounds_toArray, List.set_cons_zero, List.set_cons_succ]
            refine take_dst (i := 24) (d := 68) (v := .agg #[.int .i64 y.au, .int .i64 y.rd, .slice y.ba y.bl.length y.bc, .slice y.pa y.pl.length y.pc]) rfl rfl (by kernel_rfl) (by kernel_rfl) (by kernel_rfl) (fun _ _ _ h => h) (Or.inl ⟨by rfl, ?_⟩) hHeld ?_
            · (intro w0 hSw; (try dsimp only at hSw); go_simp)
            simp only [Act.put, List.setIfInBounds_toArray, List.set_cons_zero, List.set_cons_succ]
            refine wpAnyH_ready (rs := [25]) (by kernel_rfl) (by simp) (AllReadyH.cons rfl (fun KK hK => ?_) AllReadyH.nil)
            refine step_calls_on (by rfl) 69 rfl 46 [.tmp 64, .tmp 68] #[60, 60] rfl [.agg #[.int .i64 x.au, .int .i64 x.rd, .slice x.ba x.bl.length x.bc, .slice x.pa x.pl.length x.pc], .agg #[.int .i64 y.au, .int .i64 y.rd, .slice y.ba y.bl.length y.bc, .slice y.pa y.pl.length y.pc]] rfl (enters_of Tryd.func46 (by kernel_rfl) rfl) (fun v w' => v = .bool true ∧ Below w4.drew.heap.size w4.drew w') (HSH.out.mono (by rintro e w' ⟨rfl, h⟩; exact ⟨_, rfl, rfl, h⟩)) ?_
            rintro v w6 ⟨rfl, hb6⟩
            have hB6 := hBd.trans (hb6.mono hBd.size)
            obtain ⟨g0, g1, g2, g3⟩ := HC.out i hiL w6 hB6
            obtain ⟨g4, g5, g6, g7⟩ := HC.out k hkL w6 hB6
            rw [hxe] at g0 g1 g2 g3
            rw [hye] at g4 g5 g6 g7
            refine hK.out _ _ ⟨g0, g1, g2, g3, g4, g5, g6, g7⟩ (fun hHeld => ?_)
            simp only [Act.put, List.setIfInBounds_toArray, List.set_cons_zero, List.set_cons_succ]
            refine take_dst (i := 26) (d := 70) (v := .bool false) rfl rfl (by kernel_rfl) (by kernel_rfl) (by kernel_rfl) (fun _ _ _ h => h) (Or.inl ⟨by rfl, ?_⟩) hHeld ?_
            · (intro w0 hSw; (try dsimp only at hSw); go_simp)
            simp only [Act.put, List.setIfInBounds_toArray, List.set_cons_zero, List.set_cons_succ]
            refine take_dst (i := 27) (d := 71) (v := .bool false) rfl rfl (by kernel_rfl) (by kernel_rfl) (by kernel_rfl) (fun _ _ _ h => h) (Or.inl ⟨by rfl, ?_⟩) hHeld ?_
            · (intro w0 hSw; (try dsimp only at hSw); go_simp)
            simp only [Act.put, List.setIfInBounds_toArray, List.set_cons_zero, List.set_cons_succ]
            refine wpAnyH_done (by kernel_rfl) ?_ _
            have HBW := hB6
            (try go_wp2_with fail)
            go_roundw
            case rel =>
              have hR : ∃ k' : Nat, (k' ≤ i ∧ (i = I → k' ≤ K)) ∧ (Value.int .i64 ((k : Int) + 1)) = .int .i64 k' ∧ Below w.heap.size w w6 := ⟨k + 1, ⟨by omega, HNX.out⟩, by go_num, HBW⟩
              first | exact hR | ((repeat apply Exists.intro); exact ⟨hR, rfl⟩)
            case measure => simp [intOf]; omega
          | false =>
            go_upto_region 9 with fail
            have hBd := hB4.drew
            have hbd4 := hb4d
            obtain ⟨g0, g1, g2, g3⟩ := HC.out i hiL w4.drew hBd
            obtain ⟨g4, g5, g6, g7⟩ := HC.out k hkL w4.drew hBd
            rw [hxe] at g0 g1 g2 g3
            rw [hye] at g4 g5 g6 g7
            refine wp_region_held_drew (S := fun w' => w'.cell? ⟨sb, so + i * 4, none⟩ = some (.int .i64 x.au) ∧ w'.cell? ⟨sb, so + i * 4 + 1, none⟩ = some (.int .i64 x.rd) ∧ w'.cell? ⟨sb, so + i * 4 + 2, none⟩ = some (.slice x.ba x.bl.length x.bc) ∧ w'.cell? ⟨sb, so + i * 4 + 3, none⟩ = some (.slice x.pa x.pl.length x.pc) ∧ w'.cell? ⟨sb, so + k * 4, none⟩ = some (.int .i64 y.au) ∧ w'.cell? ⟨sb, so + k * 4 + 1, none⟩ = some (.int .i64 y.rd) ∧ w'.cell? ⟨sb, so + k * 4 + 2, none⟩ = some (.slice y.ba y.bl.length y.bc) ∧ w'.cell? ⟨sb, so + k * 4 + 3, none⟩ = some (.slice y.pa y.pl.length y.pc)) (by kernel_rfl) ⟨g0, g1, g2, g3, g4, g5, g6, g7⟩ (fun hHeld => ?_)
            refine take_dst (i := 0) (d := 44) (v := .int .i64 0) rfl rfl (by kernel_rfl) (by kernel_rfl) (by kernel_rfl) (fun _ _ _ h => h) (Or.inl ⟨by rfl, ?_⟩) hHeld ?_
            · (intro w0 hSw; (try dsimp only at hSw); go_simp)
            simp only [Act.put, List.setIfInBounds_toArray, List.set_cons_zero, List.set_cons_succ]
            refine take_dst (i := 1) (d := 45) (v := .bool true) rfl rfl (by kernel_rfl) (by kernel_rfl) (by kernel_rfl) (fun _ _ _ h => h) (Or.inl ⟨by rfl, ?_⟩) hHeld ?_
            · (intro w0 hSw; (try dsimp only at hSw); go_simp)
            simp only [Act.put, List.setIfInBounds_toArray, List.set_cons_zero, List.set_cons_succ]
            refine take_dst (i := 2) (d := 46) (v := .bool true) rfl rfl (by kernel_rfl) (by kernel_rfl) (by kernel_rfl) (fun _ _ _ h => h) (Or.inl ⟨by rfl, ?_⟩) hHeld ?_
            · (intro w0 hSw; (try dsimp only at hSw); go_simp)
            simp only [Act.put, List.setIfInBounds_toArray, List.set_cons_zero, List.set_cons_succ]
            refine take_dst (i := 3) (d := 47) (v := .int .i64 0) rfl rfl (by kernel_rfl) (by kernel_rfl) (by kernel_rfl) (fun _ _ _ h => h) (Or.inl ⟨by rfl, ?_⟩) hHeld ?_
            · (intro w0 hSw; (try dsimp only at hSw); go_simp)
            simp only [Act.put, List.setIfInBounds_toArray, List.set_cons_zero, List.set_cons_succ]
            refine take_dst (i := 4) (d := 48) (v := .bool true) rfl rfl (by kernel_rfl) (by kernel_rfl) (by kernel_rfl) (fun _ _ _ h => h) (Or.inl ⟨by rfl, ?_⟩) hHeld ?_
            · (intro w0 hSw; (try dsimp only at hSw); go_simp)
            simp only [Act.put, List.setIfInBounds_toArray, List.set_cons_zero, List.set_cons_succ]
            refine take_dst (i := 5) (d := 49) (v := .bool true) rfl rfl (by kernel_rfl) (by kernel_rfl) (by kernel_rfl) (fun _ _ _ h => h) (Or.inl ⟨by rfl, ?_⟩) hHeld ?_
            · (intro w0 hSw; (try dsimp only at hSw); go_simp)
            simp only [Act.put, List.setIfInBounds_toArray, List.set_cons_zero, List.set_cons_succ]
            refine take_dst (i := 6) (d := 50) (v := .bool true) rfl rfl (by kernel_rfl) (by kernel_rfl) (by kernel_rfl) (fun _ _ _ h => h) (Or.inl ⟨by rfl, ?_⟩) hHeld ?_
            · (intro w0 hSw; (try dsimp only at hSw); go_simp)
            simp only [Act.put, List.setIfInBounds_toArray, List.set_cons_zero, List.set_cons_succ]
            refine take_dst (i := 7) (d := 51) (v := .slice (some ⟨bx, 0, none⟩) 32 32) rfl rfl (by kernel_rfl) (by kernel_rfl) (by kernel_rfl) (fun _ _ _ h => h) (Or.inl ⟨by rfl, ?_⟩) hHeld ?_
            · (intro w0 hSw; (try dsimp only at hSw); go_simp)
            simp only [Act.put, List.setIfInBounds_toArray, List.set_cons_zero, List.set_cons_succ]
            refine take_dst (i := 8) (d := 52) (v := .int .i64 32) rfl rfl (by kernel_rfl) (by kernel_rfl) (by kernel_rfl) (fun _ _ _ h => h) (Or.inl ⟨by rfl, ?_⟩) hHeld ?_
            · (intro w0 hSw; (try dsimp only at hSw); go_simp)
            simp only [Act.put, List.setIfInBounds_toArray, List.set_cons_zero, List.set_cons_succ]
            refine take_dst (i := 9) (d := 53) (v := .bool true) rfl rfl (by kernel_rfl) (by kernel_rfl) (by kernel_rfl) (fun _ _ _ h => h) (Or.inl ⟨by rfl, ?_⟩) hHeld ?_
            · (intro w0 hSw; (try dsimp only at hSw); go_simp)
            simp only [Act.put, List.setIfInBounds_toArray, List.set_cons_zero, List.set_cons_succ]
            refine take_dst (i := 10) (d := 54) (v := .bool true) rfl rfl (by kernel_rfl) (by kernel_rfl) (by kernel_rfl) (fun _ _ _ h => h) (Or.inl ⟨by rfl, ?_⟩) hHeld ?_
            · (intro w0 hSw; (try dsimp only at hSw); go_simp)
            simp only [Act.put, List.setIfInBounds_toArray, List.set_cons_zero, List.set_cons_succ]
            refine take_dst (i := 11) (d := 55) (v := .bool true) rfl rfl (by kernel_rfl) (by kernel_rfl) (by kernel_rfl) (fun _ _ _ h => h) (Or.inl ⟨by rfl, ?_⟩) hHeld ?_
            · (intro w0 hSw; (try dsimp only at hSw); go_simp)
            simp only [Act.put, List.setIfInBounds_toArray, List.set_cons_zero, List.set_cons_succ]
            refine take_dst (i := 12) (d := 56) (v := .slice (some ⟨bx, 0, none⟩) 32 32) rfl rfl (by kernel_rfl) (by kernel_rfl) (by kernel_rfl) (fun _ _ _ h => h) (Or.inl ⟨by rfl, ?_⟩) hHeld ?_
            · (intro w0 hSw; (try dsimp only at hSw); go_simp)
            simp only [Act.put, List.setIfInBounds_toArray, List.set_cons_zero, List.set_cons_succ]
            refine take_dst (i := 13) (d := 57) (v := .slice (some ⟨by', 0, none⟩) 32 32) rfl rfl (by kernel_rfl) (by kernel_rfl) (by kernel_rfl) (fun _ _ _ h => h) (Or.inl ⟨by rfl, ?_⟩) hHeld ?_
            · (intro w0 hSw; (try dsimp only at hSw); go_simp)
            simp only [Act.put, List.setIfInBounds_toArray, List.set_cons_zero, List.set_cons_succ]
            refine wpAnyH_ready (rs := [14]) (by kernel_rfl) (by simp) (AllReadyH.cons rfl (fun KK hK => ?_) AllReadyH.nil)
            refine step_calls_on (by rfl) 58 rfl 37 [.tmp 56, .tmp 57] #[46, 46] rfl [.slice (some ⟨bx, 0, none⟩) 32 32, .slice (some ⟨by', 0, none⟩) 32 32] rfl (enters_of Tryd.func37 (by kernel_rfl) rfl) (fun v w' => v = .bool true ∧ w4.drew = w') (HSB.out.mono (by rintro e w' ⟨rfl, h⟩; exact ⟨_, rfl, rfl, h⟩)) ?_
            rintro v w5 ⟨rfl, rfl⟩
            refine hK.out _ _ hHeld (fun hHeld => ?_)
            simp only [Act.put, List.setIfInBounds_toArray, List.set_cons_zero, List.set_cons_succ]
            refine take_dst (i := 15) (d := 59) (v := .bool true) rfl rfl (by kernel_rfl) (by kernel_rfl) (by kernel_rfl) (fun _ _ _ h => h) (Or.inl ⟨by rfl, ?_⟩) hHeld ?_
            · (intro w0 hSw; (try dsimp only at hSw); go_simp)
            simp only [Act.put, List.setIfInBounds_toArray, List.set_cons_zero, List.set_cons_succ]
            refine take_dst (i := 16) (d := 60) (v := .bool true) rfl rfl (by kernel_rfl) (by kernel_rfl) (by kernel_rfl) (fun _ _ _ h => h) (Or.inl ⟨by rfl, ?_⟩) hHeld ?_
            · (intro w0 hSw; (try dsimp only at hSw); go_simp)
            simp only [Act.put, List.setIfInBounds_toArray, List.set_cons_zero, List.set_cons_succ]
            refine take_dst (i := 17) (d := 61) (v := .slice (some ⟨sb, so, none⟩) hs.length cap) rfl rfl (by kernel_rfl) (by kernel_rfl) (by kernel_rfl) (fun _ _ _ h => h) (Or.inl ⟨by rfl, ?_⟩) hHeld ?_
            · (intro w0 hSw; (try dsimp only at hSw); go_simp)
            simp only [Act.put, List.setIfInBounds_toArray, List.set_cons_zero, List.set_cons_succ]
            refine take_dst (i := 18) (d := 62) (v := .int .i64 (i : Int)) rfl rfl (by kernel_rfl) (by kernel_rfl) (by kernel_rfl) (fun _ _ _ h => h) (Or.inl ⟨by rfl, ?_⟩) hHeld ?_
            · (intro w0 hSw; (try dsimp only at hSw); go_simp)
            simp only [Act.put, List.setIfInBounds_toArray, List.set_cons_zero, List.set_cons_succ]
            refine take_dst (i := 19) (d := 63) (v := .pointer (some ⟨sb, so + i * 4, none⟩)) rfl rfl (by kernel_rfl) (by kernel_rfl) (by kernel_rfl) (fun _ _ _ h => h) (Or.inl ⟨by rfl, ?_⟩) hHeld ?_
            · (intro w0 hSw; (try dsimp only at hSw); go_simp)
            simp only [Act.put, List.setIfInBounds_toArray, List.set_cons_zero, List.set_cons_succ]
            refine take_dst (i := 20) (d := 64) (v := .agg #[.int .i64 x.au, .int .i64 x.rd, .slice x.ba x.bl.length x.bc, .slice x.pa x.pl.length x.pc]) rfl rfl (by kernel_rfl) (by kernel_rfl) (by kernel_rfl) (fun _ _ _ h => h) (Or.inl ⟨by rfl, ?_⟩) hHeld ?_
            · (intro w0 hSw; (try dsimp only at hSw); go_simp)
            simp only [Act.put, List.setIfInBounds_toArray, List.set_cons_zero, List.set_cons_succ]
            refine take_dst (i := 21) (d := 65) (v := .slice (some ⟨sb, so, none⟩) hs.length cap) rfl rfl (by kernel_rfl) (by kernel_rfl) (by kernel_rfl) (fun _ _ _ h => h) (Or.inl ⟨by rfl, ?_⟩) hHeld ?_
            · (intro w0 hSw; (try dsimp only at hSw); go_simp)
            simp only [Act.put, List.setIfInBounds_toArray, List.set_cons_zero, List.set_cons_succ]
            refine take_dst (i := 22) (d := 66) (v := .int .i64 (k : Int)) rfl rfl (by kernel_rfl) (by kernel_rfl) (by kernel_rfl) (fun _ _ _ h => h) (Or.inl ⟨by rfl, ?_⟩) hHeld ?_
            · (intro w0 hSw; (try dsimp only at hSw); go_simp)
            simp only [Act.put, List.setIfInBounds_toArray, List.set_cons_zero, List.set_cons_succ]
            refine take_dst (i := 23) (d := 67) (v := .pointer (some ⟨sb, so + k * 4, none⟩)) rfl rfl (by kernel_rfl) (by kernel_rfl) (by kernel_rfl) (fun _ _ _ h => h) (Or.inl ⟨by rfl, ?_⟩) hHeld ?_
            · (intro w0 hSw; (try dsimp only at hSw); go_simp)
            simp only [Act.put, List.setIfInBounds_toArray, List.set_cons_zero, List.set_cons_succ]
            refine take_dst (i := 24) (d := 68) (v := .agg #[.int .i64 y.au, .int .i64 y.rd, .slice y.ba y.bl.length y.bc, .slice y.pa y.pl.length y.pc]) rfl rfl (by kernel_rfl) (by kernel_rfl) (by kernel_rfl) (fun _ _ _ h => h) (Or.inl ⟨by rfl, ?_⟩) hHeld ?_
            · (intro w0 hSw; (try dsimp only at hSw); go_simp)
            simp only [Act.put, List.setIfInBounds_toArray, List.set_cons_zero, List.set_cons_succ]
            refine wpAnyH_ready (rs := [25]) (by kernel_rfl) (by simp) (AllReadyH.cons rfl (fun KK hK => ?_) AllReadyH.nil)
            refine step_calls_on (by rfl) 69 rfl 46 [.tmp 64, .tmp 68] #[60, 60] rfl [.agg #[.int .i64 x.au, .int .i64 x.rd, .slice x.ba x.bl.length x.bc, .slice x.pa x.pl.length x.pc], .agg #[.int .i64 y.au, .int .i64 y.rd, .slice y.ba y.bl.length y.bc, .slice y.pa y.pl.length y.pc]] rfl (enters_of Tryd.func46 (by kernel_rfl) rfl) (fun v w' => v = .bool false ∧ Below w4.drew.heap.size w4.drew w') (HSH.out.mono (by rintro e w' ⟨rfl, h⟩; exact ⟨_, rfl, rfl, h⟩)) ?_
            rintro v w6 ⟨rfl, hb6⟩
            have hB6 := hBd.trans (hb6.mono hBd.size)
            obtain ⟨g0, g1, g2, g3⟩ := HC.out i hiL w6 hB6
            obtain ⟨g4, g5, g6, g7⟩ := HC.out k hkL w6 hB6
            rw [hxe] at g0 g1 g2 g3
            rw [hye] at g4 g5 g6 g7
            refine hK.out _ _ ⟨g0, g1, g2, g3, g4, g5, g6, g7⟩ (fun hHeld => ?_)
            simp only [Act.put, List.setIfInBounds_toArray, List.set_cons_zero, List.set_cons_succ]
            refine take_dst (i := 26) (d := 70) (v := .bool true) rfl rfl (by kernel_rfl) (by kernel_rfl) (by kernel_rfl) (fun _ _ _ h => h) (Or.inl ⟨by rfl, ?_⟩) hHeld ?_
            · (intro w0 hSw; (try dsimp only at hSw); go_simp)
            simp only [Act.put, List.setIfInBounds_toArray, List.set_cons_zero, List.set_cons_succ]
            refine take_dst (i := 27) (d := 71) (v := .bool true) rfl rfl (by kernel_rfl) (by kernel_rfl) (by kernel_rfl) (fun _ _ _ h => h) (Or.inl ⟨by rfl, ?_⟩) hHeld ?_
            · (intro w0 hSw; (try dsimp only at hSw); go_simp)
            simp only [Act.put, List.setIfInBounds_toArray, List.set_cons_zero, List.set_cons_succ]
            refine wpAnyH_done (by kernel_rfl) ?_ _
            (try go_wp2_with fail)
            go_ret
            exact ⟨rfl, hB6⟩
      · obtain rfl : k = i := by omega
        have hltI : ¬ (k : Int) < k := by omega
        have hne : k ≠ I := fun h => by have := HKK.out h; have := HKI.out; omega
        go_wp2_with fail
        go_roundw
        case rel =>
          have hR : ∃ i' : Nat, i' ≤ I ∧ (Value.int .i64 ((k : Int) + 1)) = .int .i64 i' ∧ Below w.heap.size w wr := ⟨k + 1, by omega, by go_num, hb0⟩
          first | exact hR | ((repeat apply Exists.intro); exact ⟨hR, rfl⟩)
        case measure => simp [intOf]; omega
end Go.Proofs.YtbmodfegcmaieaaDoor
