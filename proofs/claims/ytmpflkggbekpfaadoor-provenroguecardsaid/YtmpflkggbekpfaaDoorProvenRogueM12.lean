/- Headers of raw numbers may be. -/
import Derived.Test.YtmpflkggbekpfaaDoorCSet
import Derived.Test.YtmpflkggbekpfaaDoorCCert
import Derived.Test.YtmpflkggbekpfaaDoorProvenRogueM6
import Derived.Test.YtmpflkggbekpfaaDoorBase
import Derived.Test.YtmpflkggbekpfaaDoorApp
import Derived.Test.YtmpflkggbekpfaaDoorSx
import Derived.Deep.RegionHeld
import Derived.Test.YtmpflkggbekpfaaDoorOwnL
import Derived.Test.YtmpflkggbekpfaaDoorCalls
import Derived.Test.YtmpflkggbekpfaaDoorAppD
import Derived.Deep.RegionHeld3
import Derived.Deep.CutRange
import Derived.Deep.DeepCutAuto
import Derived.Test.YtmpflkggbekpfaaDoorBstr
namespace Go.Proofs.YtmpflkggbekpfaaDoor
open Go.RowKit

/-- Who is not the bad one, and has not signed. -/
def lacksF (l : List GV) (bad au rd : Int) (dg : List Int) (nd : Int) : Bool := decide (nd ≠ bad) && !decide ((nd, au, rd, dg) ∈ l)
/-- P3.4 -/
def provF (l : List GV) (bad au rd : Int) (cf : Int) (dg vl : List Int) : Int := if setF l bad ≠ 0 then setF l bad else if cf ≠ 0 then cf else if lacksF l bad au rd dg au || vl.any (lacksF l bad au rd dg) then 11 else 0
set_option maxRecDepth 100000 in
theorem digTo_u8 (s : List Int) (k : Nat) : AllU8 (digTo s k) := by
  induction k with
  | zero => intro x hx; cases hx
  | succ k ih =>
    intro x hx
    rw [digTo] at hx
    rcases List.mem_append.1 hx with h | h
    · exact ih x h
    · simp at h
      omega
set_option maxRecDepth 100000 in
theorem hDig_u8 (au rd : Int) (bl pl : List Part) : AllU8 (hDig au rd bl pl) := digTo_u8 _ _
set_option maxRecDepth 100000 in
set_option maxHeartbeats 2000000 in
theorem lacks_any (ls : List Sg) (sa : Option Addr) (cap : Nat) (bad au rd nd : Int) (b c : Nat) (dg : List Int) (L G S : Nat) (w : World) (hl : ls.length ≤ 2932031007400) (hp : SignsAt w sa ls) (hs : SliceAt w (some ⟨b, 0, none⟩) c dg) (hd : dg.length = 32) (hu : AllU8 dg)
    (qG : w.heap[G]? = some (.cells #[.int .i64 bad] 3 (0, 0))) (qL : w.heap[L]? = some (.cells #[.slice sa ls.length cap] 22 (0, 0))) (qS : w.heap[S]? = some (.cells #[.int .i64 au, .int .i64 rd, .slice (some ⟨b, 0, none⟩) 32 c] 47 (0, 0))) :
    Calls Tryd.prog 20 #[.int .i64 nd, .pointer (some ⟨G, 0, none⟩), .pointer (some ⟨L, 0, none⟩), .pointer (some ⟨S, 0, none⟩)] w fun e w' => e = .returned (.bool (lacksF (gvs ls) bad au rd dg nd)) ∧ Below w.heap.size w w' := by
  have g0 := cells_at qG 0 _ rfl
  have l0 := cells_at qL 0 _ rfl
  have s0 := cells_at qS 0 _ rfl
  have s1 := cells_at qS 1 _ rfl
  have s2 := cells_at qS 2 _ rfl
  by_cases hn : nd = bad
  · have hF : Hid (lacksF (gvs ls) bad au rd dg nd = false) := by show _ = _; simp [lacksF, hn]
    have hnb : (nd != bad) = false := by simpa using hn
    clear hn
    go_enter Tryd.func20, Tryd.ntmps20
    go_wp2_with fail
    go_ret
    exact ⟨ret_bool hF.out.symm, Below.refl _ _⟩
  · have hF : Hid (lacksF (gvs ls) bad au rd dg nd = !decide ((nd, au, rd, dg) ∈ gvs ls)) := by show _ = _; simp [lacksF, hn]
    have hnb : (nd != bad) = true := by simpa using hn
    have HC := has_any ls sa _ cap ⟨nd, au, rd, ⟨some ⟨b, 0, none⟩, c, dg⟩⟩ w rfl hl hp ⟨hs, hu⟩
    simp only [hd, Sg.v] at HC
    clear hn hd
    go_enter Tryd.func20, Tryd.ntmps20
    go_wp2_with fail
    refine HC.mono ?_
    rintro e w1 ⟨he, hb⟩
    subst he
    dsimp only
    go_wp2_with fail
    go_ret
    exact ⟨ret_bool (by rw [hF.out]; exact congrArg _ (decide_eq_decide.2 Iff.rfl)), hb⟩
set_option maxRecDepth 100000 in
set_option maxHeartbeats 4000000 in
set_option maxHeartbeats 4000000 in
set_option maxHeartbeats 4000000 in
/-- seal.Proven. -/
theorem proven_any (ls : List Sg) (sa : Option Addr) (n cap : Nat) (bad au rd : Int) (ba : Option Addr) (bc : Nat) (bl : List Part) (pa : Option Addr) (pc : Nat) (pl : List Part) (va : Option Addr) (vc : Nat) (vl : List Int) (w : World) (hn : n = ls.length) (hl : ls.length ≤ 2932031007400) (hp : SignsAt w sa ls) (h : HAt w ba bc bl pa pc pl) (hv : IntsAt w va vl) (hvm : vl.length ≤ 9000000000000000000) (hT : Tabs w) :
    Calls Tryd.prog 8 #[.slice sa n cap, .int .i64 bad, .agg #[.int .i64 au, .int .i64 rd, .slice ba bl.length bc, .slice pa pl.length pc, .slice va vl.length vc]] w fun e w' => e = .returned (.int .i64 (provF (gvs ls) bad au rd (certF au rd bl pl vl) (hDig au rd bl pl) vl)) ∧ Below w.heap.size w w' := by
  subst hn
  have a1 := heap_alloc_new w (.cells #[.slice sa ls.length cap] 22)
  have a2 := heap_alloc_new (w.alloc (.cells #[.slice sa ls.length cap] 22)) (.cells #[.int .i64 bad] 3)
  have a3 := heap_alloc_new ((w.alloc (.cells #[.slice sa ls.length cap] 22)).alloc (.cells #[.int .i64 bad] 3)) (.cells #[.int .i64 au, .int .i64 rd, .slice ba bl.length bc, .slice pa pl.length pc, .slice va vl.length vc] 28)
  rw [size_alloc] at a2
  rw [size_alloc, size_alloc] at a3
  have q1 := heap_keep (o := .cells #[.int .i64 au, .int .i64 rd, .slice ba bl.length bc, .slice pa pl.length pc, .slice va vl.length vc] 28) (heap_keep (o := .cells #[.int .i64 bad] 3) a1)
  have q2 := heap_keep (o := .cells #[.int .i64 au, .int .i64 rd, .slice ba bl.length bc, .slice pa pl.length pc, .slice va vl.length vc] 28) a2
  have q3 := a3
  clear a1 a2 a3
  have hA : Below w.heap.size w (((w.alloc (.cells #[.slice sa ls.length cap] 22)).alloc (.cells #[.int .i64 bad] 3)).alloc (.cells #[.int .i64 au, .int .i64 rd, .slice ba bl.length bc, .slice pa pl.length pc, .slice va vl.length vc] 28)) := (((Below.refl _ _).alloc (Nat.le_refl _) _).alloc (by simp) _).alloc (by simp; omega) _
  go_enter Tryd.func8, Tryd.ntmps8
  go_wp2_with fail
  generalize ((w.alloc (.cells #[.slice sa ls.length cap] 22)).alloc (.cells #[.int .i64 bad] 3)).alloc (.cells #[.int .i64 au, .int .i64 rd, .slice ba bl.length bc, .slice pa pl.length pc, .slice va vl.length vc] 28) = W0 at hA q1 q2 q3 ⊢
  have HB := hA
  replace hp := hp.below hA
  replace h := h.below hA
  replace hv := hv.below hA
  replace hT := hT.below hA
  clear hA
  have HC := setting_any ls sa _ cap bad W0 rfl hl hp
  by_cases hs : setF (gvs ls) bad = 0
  · rw [hs] at HC
    have HSet : Hid (setF (gvs ls) bad = 0) := hs
    clear hs
    refine HC.mono ?_
    rintro e w1 ⟨he, hb1⟩
    subst he
    dsimp only
    clear HC
    replace q1 := (hb1.block _ (lt_of_heap q1)).trans q1
    replace q2 := (hb1.block _ (lt_of_heap q2)).trans q2
    replace q3 := (hb1.block _ (lt_of_heap q3)).trans q3
    replace hp := hp.below hb1
    replace h := h.below hb1
    replace hv := hv.below hb1
    replace hT := hT.below hb1
    replace HB := HB.trans (hb1.mono HB.size)
    have HK := checkCert_any au rd ba bc bl pa pc pl va vc vl w1 h.lb h.lp hv hvm
    by_cases hc : certF au rd bl pl vl = 0
    · rw [hc] at HK
      have HCf : Hid (certF au rd bl pl vl = 0) := hc
      have hF0 : headerF au rd bl pl = 0 := by
        unfold certF at hc
        split at hc
        · exact absurd hc (by assumption)
        · rename_i g; simpa using g
      have HF0 : Hid (headerF au rd bl pl = 0) := hF0
      clear hc hF0
      have q3_c0 := cells_at q3 0 _ rfl
      have q3_c1 := cells_at q3 1 _ rfl
      have q3_c2 := cells_at q3 2 _ rfl
      have q3_c3 := cells_at q3 3 _ rfl
      have q3_c4 := cells_at q3 4 _ rfl
      go_wp2_with fail
      refine HK.mono ?_
      rintro e w2 ⟨he, hb2⟩
      subst he
      dsimp only
      clear HK
      clear q3_c0 q3_c1 q3_c2 q3_c3 q3_c4
      replace q1 := (hb2.block _ (lt_of_heap q1)).trans q1
      replace q2 := (hb2.block _ (lt_of_heap q2)).trans q2
      replace q3 := (hb2.block _ (lt_of_heap q3)).trans q3
      replace hp := hp.below hb2
      replace h := h.below hb2
      replace hv := hv.below hb2
      replace hT := hT.below hb2
      replace HB := HB.trans (hb2.mono HB.size)
      have q3_c0 := cells_at q3 0 _ rfl
      have q3_c1 := cells_at q3 1 _ rfl
      have q3_c2 := cells_at q3 2 _ rfl
      have q3_c3 := cells_at q3 3 _ rfl
      have q3_c4 := cells_at q3 4 _ rfl
      go_wp2_with fail
      refine (slotOf_ok au rd ba bc bl pa pc pl w2 h HF0.out hT).mono ?_
      rintro e w3 ⟨b, he, hbb, hbl, hs3, hb3⟩
      subst he
      dsimp only
      clear q3_c0 q3_c1 q3_c2 q3_c3 q3_c4
      replace q1 := (hb3.block _ (lt_of_heap q1)).trans q1
      replace q2 := (hb3.block _ (lt_of_heap q2)).trans q2
      replace q3 := (hb3.block _ (lt_of_heap q3)).trans q3
      replace hp := hp.below hb3
      replace h := h.below hb3
      replace hv := hv.below hb3
      replace hT := hT.below hb3
      replace HB := HB.trans (hb3.mono HB.size)
      have hA1 := (Below.refl w3.heap.size w3).alloc (Nat.le_refl _) (.cells #[.int .i64 au, .int .i64 rd, .slice (some ⟨b, 0, none⟩) 32 32] 47)
      have q9 := heap_alloc_new w3 (.cells #[.int .i64 au, .int .i64 rd, .slice (some ⟨b, 0, none⟩) 32 32] 47)
      have k3 := heap_keep (o := .cells #[.int .i64 au, .int .i64 rd, .slice (some ⟨b, 0, none⟩) 32 32] 47) q3
      have k3_0 := cells_at k3 0 _ rfl
      have k3_1 := cells_at k3 1 _ rfl
      have k3_2 := cells_at k3 2 _ rfl
      have k3_3 := cells_at k3 3 _ rfl
      have k3_4 := cells_at k3 4 _ rfl
      go_wp2_with fail
      clear k3_0 k3_1 k3_2 k3_3 k3_4 k3
      generalize hG : w3.alloc (.cells #[.int .i64 au, .int .i64 rd, .slice (some ⟨b, 0, none⟩) 32 32] 47) = w4 at hA1 q9 ⊢
      clear hG
      replace q1 := (hA1.block _ (lt_of_heap q1)).trans q1
      replace q2 := (hA1.block _ (lt_of_heap q2)).trans q2
      replace q3 := (hA1.block _ (lt_of_heap q3)).trans q3
      replace hp := hp.below hA1
      replace h := h.below hA1
      replace hv := hv.below hA1
      replace hT := hT.below hA1
      replace hs3 := hs3.below hA1
      replace HB := HB.trans (hA1.mono HB.size)
      generalize hS9 : w3.heap.size = S9 at q9 ⊢
      clear hS9
      have HA : ∀ nd, ∀ W, Below w4.heap.size w4 W → Calls Tryd.prog 20 #[.int .i64 nd, .pointer (some ⟨w.heap.size + 1, 0, none⟩), .pointer (some ⟨w.heap.size, 0, none⟩), .pointer (some ⟨S9, 0, none⟩)] W fun e w' => e = .returned (.bool (lacksF (gvs ls) bad au rd (hDig au rd bl pl) nd)) ∧ Below W.heap.size W w' := fun nd W hW =>
        lacks_any ls sa cap bad au rd nd b 32 (hDig au rd bl pl) w.heap.size (w.heap.size + 1) S9 W hl (hp.below hW) (hs3.below hW) (hDig_length _ _ _ _) (hDig_u8 _ _ _ _) ((hW.block _ (lt_of_heap q2)).trans q2) ((hW.block _ (lt_of_heap q1)).trans q1) ((hW.block _ (lt_of_heap q9)).trans q9)
      have HCI := fun W (hW : Below w4.heap.size w4 W) => containsFuncI_any 20 #[.pointer (some ⟨w.heap.size + 1, 0, none⟩), .pointer (some ⟨w.heap.size, 0, none⟩), .pointer (some ⟨S9, 0, none⟩)] (lacksF (gvs ls) bad au rd (hDig au rd bl pl)) (enters_of Tryd.func20 (by kernel_rfl) rfl) vl va _ vc W rfl hvm (hv.below hW) (fun nd _ W2 hW2 => HA nd W2 (hW.trans (hW2.mono hW.size)))
      have HA1 := HA au w4 (Below.refl _ _)
      have HPF : Hid (provF (gvs ls) bad au rd (certF au rd bl pl vl) (hDig au rd bl pl) vl = if lacksF (gvs ls) bad au rd (hDig au rd bl pl) au || vl.any (lacksF (gvs ls) bad au rd (hDig au rd bl pl)) then 11 else 0) := by
        show _ = _
        rw [provF, if_neg (by simpa using HSet.out), if_neg (by simpa using HCf.out)]
      clear HA
      cases hz : lacksF (gvs ls) bad au rd (hDig au rd bl pl) au with
      | true =>
        rw [hz] at HA1
        have hF : Hid (provF (gvs ls) bad au rd (certF au rd bl pl vl) (hDig au rd bl pl) vl = 11) := by show _ = _; rw [HPF.out, hz]; rfl
        clear hz HPF HCI
        refine HA1.mono ?_
        rintro e w5 ⟨he, hb5⟩
        subst he
        dsimp only
        go_wp2_with fail
        go_ret
        exact ⟨ret_int hF.out.symm, HB.trans (hb5.mono HB.size)⟩
      | false =>
        rw [hz] at HA1
        refine HA1.mono ?_
        rintro e w5 ⟨he, hb5⟩
        subst he
        dsimp only
        have HC5 := HCI w5 hb5
        have r3 := (hb5.block _ (lt_of_heap q3)).trans q3
        have r3_0 := cells_at r3 0 _ rfl
        have r3_1 := cells_at r3 1 _ rfl
        have r3_2 := cells_at r3 2 _ rfl
        have r3_3 := cells_at r3 3 _ rfl
        have r3_4 := cells_at r3 4 _ rfl
        have hF : Hid (provF (gvs ls) bad au rd (certF au rd bl pl vl) (hDig au rd bl pl) vl = if vl.any (lacksF (gvs ls) bad au rd (hDig au rd bl pl)) then 11 else 0) := by show _ = _; rw [HPF.out, hz]; rfl
        clear hz HPF HCI HA1
        generalize vl.any (lacksF (gvs ls) bad au rd (hDig au rd bl pl)) = r at HC5 hF
        replace HB := HB.trans (hb5.mono HB.size)
        go_wp2_with fail
        refine HC5.mono ?_
        rintro e w6 ⟨he, hb6⟩
        subst he
        dsimp only
        replace HB := HB.trans (hb6.mono HB.size)
        clear HC5
        cases r with
        | true =>
          go_wp2_with fail
          go_ret
          exact ⟨ret_int hF.out.symm, HB⟩
        | false =>
          go_wp2_with fail
          go_ret
          exact ⟨ret_int hF.out.symm, HB⟩
    · have hF : Hid (provF (gvs ls) bad au rd (certF au rd bl pl vl) (hDig au rd bl pl) vl = certF au rd bl pl vl) := by show _ = _; rw [provF, if_neg (by simpa using HSet.out), if_pos hc]
      generalize hy0 : certF au rd bl pl vl = y at HK hc
      have HY0 : Hid (certF au rd bl pl vl = y) := hy0
      clear hy0
      have hy : (y != 0) = true := by simpa using hc
      have q3_c0 := cells_at q3 0 _ rfl
      have q3_c1 := cells_at q3 1 _ rfl
      have q3_c2 := cells_at q3 2 _ rfl
      have q3_c3 := cells_at q3 3 _ rfl
      have q3_c4 := cells_at q3 4 _ rfl
      go_wp2_with fail
      refine HK.mono ?_
      rintro e w2 ⟨he, hb2⟩
      subst he
      dsimp only
      go_wp2_with fail
      go_ret
      exact ⟨ret_int (hF.out.trans HY0.out).symm, HB.trans (hb2.mono HB.size)⟩
  · have hF : Hid (provF (gvs ls) bad au rd (certF au rd bl pl vl) (hDig au rd bl pl) vl = setF (gvs ls) bad) := by show _ = _; rw [provF, if_pos hs]
    generalize hy0 : setF (gvs ls) bad = y at HC hs
    have HY0 : Hid (setF (gvs ls) bad = y) := hy0
    clear hy0
    have hy : (y != 0) = true := by simpa using hs
    refine HC.mono ?_
    rintro e w1 ⟨he, hb1⟩
    subst he
    dsimp only
    go_wp2_with fail
    go_ret
    exact ⟨ret_int (hF.out.trans HY0.out).symm, HB.trans (hb1.mono HB.size)⟩
end Go.Proofs.YtmpflkggbekpfaaDoor

namespace Go.Proofs.YtmpflkggbekpfaaDoor
open Go.RowKit

/-- The number that a test takes out of a raw one. -/
def pk (n m : Int) : Int := if n < 0 then -(n + 1) % m else n % m
set_option maxRecDepth 100000 in
theorem pk_bounds (n m : Int) (hm : 0 < m) : 0 ≤ pk n m ∧ pk n m < m := by
  unfold pk; split
  · exact ⟨Int.emod_nonneg _ (by omega), Int.emod_lt_of_pos _ hm⟩
  · exact ⟨Int.emod_nonneg _ (by omega), Int.emod_lt_of_pos _ hm⟩
set_option maxRecDepth 100000 in
set_option maxHeartbeats 400000 in
theorem picked_any (n m : Int) (w : World) (h0 : -9223372036854775808 ≤ n) (h1 : n ≤ 9223372036854775807) (hm : 0 < m) (hm2 : m ≤ 9223372036854775807) :
    Calls Tryd.prog 15 #[.int .i64 n, .int .i64 m] w fun e w' => e = .returned (.int .i64 (pk n m)) ∧ w = w' := by
  have hm0 : (m == 0) = false := beq_eq_false_iff_ne.2 (by omega)
  by_cases h : n < 0
  · have hx : Hid (pk n m = -((n + 1).tmod m)) := by
      show _ = _
      rw [pk, if_pos h, ← Int.neg_tmod, Int.tmod_eq_emod_of_nonneg (by omega)]
    go_enter Tryd.func15, Tryd.ntmps15
    go_wp2
    go_ret
    exact ⟨ret_int hx.out.symm, rfl⟩
  · have hx : Hid (pk n m = n % m) := if_neg h
    go_enter Tryd.func15, Tryd.ntmps15
    go_wp2
    go_ret
    exact ⟨ret_int hx.out.symm, rfl⟩
end Go.Proofs.YtmpflkggbekpfaaDoor

namespace Go.Proofs.YtmpflkggbekpfaaDoor
open Go.RowKit

def someL (n m : Int) : List Int := (((List.replicate 32 0).set 0 (pk n 256)).set 1 (m % 256)).set 31 1
set_option maxRecDepth 100000 in
theorem someL_length (n m : Int) : (someL n m).length = 32 := by simp [someL]
set_option maxRecDepth 100000 in
theorem makeSome (w : World) : (Instr.makeSlice 42 (.int .i64 32) (.int .i64 32)).run Tryd.prog w = .ok (.slice (some ⟨w.heap.size, 0, none⟩) 32 32) (w.alloc (.cells (ub (List.replicate 32 0)).toArray 5)) := by kernel_rfl
set_option maxRecDepth 100000 in
theorem ub_set (l : List Int) (i : Nat) (x : Int) : (ub l).set i (.int .u8 x) = ub (l.set i x) := by simp [ub, List.map_set]

set_option maxRecDepth 100000 in
set_option maxHeartbeats 1000000 in
theorem some_any (n m : Int) (w : World) (hn : I64 n) :
    Calls Tryd.prog 16 #[.int .i64 n, .int .i64 m] w fun e w' => e = .returned (.slice (some ⟨w.heap.size, 0, none⟩) 32 32) ∧ w'.ownsRow w.heap.size 5 1 (.slice (some ⟨w.heap.size, 0, none⟩) 32 32) 32 (ub (someL n m)) ∧ Below w.heap.size w w' := by
  have hmk := fun w => makeSome w
  have ho := World.ownsRow_lit (base := w.heap.size) (e := 5) (size := 1) w (ub (List.replicate 32 0)).toArray 32 (Nat.le_refl _) (by decide) rfl
  have c0 := (World.ownsRow.cellAt ho 0 (by omega))
  have c1 := (World.ownsRow.cellAt ho 1 (by omega))
  have c31 := (World.ownsRow.cellAt ho 31 (by omega))
  have f0 := World.ownsRow.frozenAt ho 0
  have f1 := World.ownsRow.frozenAt ho 1
  have f31 := World.ownsRow.frozenAt ho 31
  obtain ⟨hp0, hp1⟩ := pk_bounds n 256 (by decide)
  have hO := World.ownsRow_lit (base := w.heap.size) (e := 5) (size := 1) w (ub (someL n m)).toArray 32 (Nat.le_refl _) (by decide) (by simp [ub, someL])
  go_enter Tryd.func16, Tryd.ntmps16
  go_wp2_with (go_at_call 15; refine (picked_any n 256 _ hn.1 hn.2 (by decide) (by decide)).mono ?_; rintro e w' ⟨rfl, rfl⟩)
  go_ret
  refine ⟨rfl, ?_, (Below.refl _ _).alloc (Nat.le_refl _) _⟩
  rw [ub_set, ub_set, ub_set]
  exact hO
end Go.Proofs.YtmpflkggbekpfaaDoor

namespace Go.Proofs.YtmpflkggbekpfaaDoor
open Go.RowKit

set_option maxRecDepth 100000 in
theorem owns_shape {w : World} {base n : Nat} {e : TypeId} {s : Nat} {v : Value} {xs : List Value} (h : w.ownsRow base e s v n xs) : ∃ za zc, v = .slice za n zc := by
  rcases h.2 with ⟨rfl, hn⟩ | ⟨g, cap, cur, rfl, _⟩
  · subst hn; exact ⟨none, 0, rfl⟩
  · exact ⟨some ⟨g, 0, none⟩, cap, rfl⟩
set_option maxRecDepth 100000 in
/-- A row stays where a block below its base is rewritten. -/
theorem owns_far {w : World} {base n : Nat} {e : TypeId} {s : Nat} {v : Value} {xs : List Value} (h : w.ownsRow base e s v n xs) (b j : Nat) (x : Value) (hb : b < base) : (w.setCell ⟨b, j, none⟩ x).ownsRow base e s v n xs := by
  obtain ⟨h1, h2⟩ := h
  refine ⟨h1, ?_⟩
  rcases h2 with h2 | ⟨g, cap, cur, rfl, hg, hc, r⟩
  · exact .inl h2
  · exact .inr ⟨g, cap, cur, rfl, hg, (heap_setCell_other w ⟨b, j, none⟩ g x (by show g ≠ b; omega)).trans hc, r⟩
end Go.Proofs.YtmpflkggbekpfaaDoor

namespace Go.Proofs.YtmpflkggbekpfaaDoor
open Go.RowKit

/-- The batches of a raw header. -/
def hBats (rc : Int) : List (List Int) := (List.range (pk rc 4).toNat).map fun (i : Nat) => someL rc i
/-- The parents of a raw header. -/
def hPars (ra rb rc : Int) : List (List Int) := if pk rb 9 = 0 then [] else (List.range (3 + pk rc 2).toNat).map fun (i : Nat) => someL ra (10 + i)
set_option maxRecDepth 100000 in
theorem Apart.far {w : World} {B : Nat} {v : Value} {qs : List Part} (h : Apart w B v qs) (b j : Nat) (x : Value) (hb : b < B) : Apart (w.setCell ⟨b, j, none⟩ x) B v qs := fun p hp => by
  obtain ⟨h1, h2⟩ := h p hp
  refine ⟨⟨h1.le, h1.max, h1.some, h1.nil, ?_⟩, fun sb so e => ?_⟩
  · rcases h1.bytes with hc | ⟨sb, so, e, hc⟩
    · exact .inl hc
    · exact .inr ⟨sb, so, e, fun k hk => (World.cell?_setCell_far _ _ _ _ (by have := (h2 sb so e).1; show b ≠ sb; omega)).trans (hc k hk)⟩
  · obtain ⟨a1, a2, a3⟩ := h2 sb so e
    exact ⟨a1, by simpa using a2, a3⟩
set_option maxRecDepth 100000 in
theorem Off.far {w : World} {v : Value} {ra : Option Addr} {qs : List Part} (h : Off w v ra qs) (b j : Nat) (x : Value) : Off (w.setCell ⟨b, j, none⟩ x) v ra qs :=
  ⟨fun sb so e => ⟨by simpa using (h.row sb so e).1, (h.row sb so e).2⟩, fun p hp sb so e => ⟨by simpa using (h.each p hp sb so e).1, (h.each p hp sb so e).2⟩⟩
set_option maxRecDepth 100000 in
theorem Off.below {w w' : World} {v : Value} {ra : Option Addr} {qs : List Part} (h : Off w v ra qs) (hb : Below w.heap.size w w') : Off w' v ra qs :=
  ⟨fun sb so e => ⟨Nat.lt_of_lt_of_le (h.row sb so e).1 hb.size, (h.row sb so e).2⟩, fun p hp sb so e => ⟨Nat.lt_of_lt_of_le (h.each p hp sb so e).1 hb.size, (h.each p hp sb so e).2⟩⟩
set_option maxRecDepth 100000 in
theorem off_of_owns {w : World} {base m : Nat} {e : TypeId} {xs : List Value} {ra : Option Addr} {rc : Nat} {qs : List Part} (h : w.ownsRow base e 1 (.slice ra m rc) m xs) (ha : Apart w base (.slice ra m rc) qs) : Off w (.slice none 0 0) ra qs :=
  ⟨fun sb so e => ⟨by subst e; exact (h.lt sb rfl).2, fun e => by cases e⟩, fun p hp sb so e => ⟨((ha p hp).2 sb so e).2.1, fun e => by cases e⟩⟩
set_option maxRecDepth 100000 in
theorem apart_nil (w : World) (B : Nat) (v : Value) : Apart w B v [] := fun p hp => by cases hp
set_option maxRecDepth 100000 in
set_option maxHeartbeats 2000000 in
theorem header_raw2 (ki ra rb rc : Int) (sa : Option Addr) (n cap : Nat) (w : World) (h2 : I64 ra) (h3 : I64 rb) (h4 : I64 rc) :
    Calls Tryd.prog 12 #[.agg #[.int .i64 ki, .int .i64 ra, .int .i64 rb, .int .i64 rc, .slice sa n cap]] w fun e w' => ∃ ba bc bl pa pc pl, e = .returned (.agg #[.int .i64 (pk ra 4), .int .i64 (1 + pk rb 9), .slice ba (List.length bl) bc, .slice pa (List.length pl) pc]) ∧ ListAt w' ba bc bl ∧ ListAt w' pa pc pl ∧ Off w' (.slice none 0 0) ba bl ∧ Off w' (.slice none 0 0) pa pl ∧ bl.map (·.bs) = hBats rc ∧ pl.map (·.bs) = hPars ra rb rc ∧ Below w.heap.size w w' ∧ Fresh w.heap.size ba bl ∧ Fresh w.heap.size pa pl := by
  obtain ⟨pa0, pa1⟩ := pk_bounds ra 4 (by decide)
  obtain ⟨pb0, pb1⟩ := pk_bounds rb 9 (by decide)
  obtain ⟨pc0, pc1⟩ := pk_bounds rc 4 (by decide)
  obtain ⟨pd0, pd1⟩ := pk_bounds rc 2 (by decide)
  have q0 := heap_alloc2_old w (.cells #[.int .i64 ki, .int .i64 ra, .int .i64 rb, .int .i64 rc, .slice sa n cap] 36) (.cells #[.int .i64 0, .int .i64 0, .slice none 0 0, .slice none 0 0] 25)
  have k1 := cells_at q0 1 _ rfl
  have k2 := cells_at q0 2 _ rfl
  have hw : IntKind.i64.wrap (1 + pk rb 9) = 1 + pk rb 9 := by rw [IntKind.wrap_i64]; omega
  go_enter Tryd.func12, Tryd.ntmps12
  go_upto_region 1 with (fail)
  go_cut [3] (fun v wx => v = .pointer (some ⟨w.heap.size + 2, 0, none⟩) ∧ Below w.heap.size w wx ∧ wx.heap[w.heap.size]? = some (.cells #[.int .i64 ki, .int .i64 ra, .int .i64 rb, .int .i64 rc, .slice sa n cap] 36 (0, 0)) ∧ wx.heap[w.heap.size + 1]? = some (.cells #[.int .i64 0, .int .i64 0, .slice none 0 0, .slice none 0 0] 25 (0, 0)) ∧ wx.heap[w.heap.size + 2]? = some (.cells #[.int .i64 (pk ra 4), .int .i64 (1 + pk rb 9), .slice none 0 0, .slice none 0 0] 25 (0, 0)))
  case first =>
    go_region_held3 (fun w' => w'.cell? ⟨w.heap.size, 1, none⟩ = some (.int .i64 ra) ∧ w'.cell? ⟨w.heap.size, 2, none⟩ = some (.int .i64 rb)) (go_keep) (first | (go_at_call 15; refine (picked_any _ _ _ (by first | exact h2.1 | exact h3.1) (by first | exact h2.2 | exact h3.2) (by omega) (by omega)).mono ?_; rintro e w9 ⟨rfl, rfl⟩))
    all_goals
      go_wp2_with fail
      go_meet
      case rel =>
        refine ⟨rfl, ((((Below.refl _ _).alloc (Nat.le_refl _) _).alloc (by simp) _).alloc (by simp; omega) _).drew, ?_, ?_, ?_⟩
        · exact heap_keep (heap_keep (heap_alloc_new w _))
        · exact heap_keep (heap_new_at _ _ _ (by simp))
        · exact heap_new_at _ _ _ (by simp)
  case rest =>
    obtain ⟨rfl, hW, r0, r1, r2⟩ := hcut
    clear k1 k2 q0 hw
    obtain ⟨i, hi, hz0, hz1, hz2⟩ := info_parts infoBs
    have hent := enters_of Tryd.func16 (by kernel_rfl) rfl
    have Hent : Hid _ := hent
    clear hent
    go_wp2_with fail
    go_loopw [4] (fun j wr => ∃ (k : Nat) (v : Value) (qs : List Part), (k : Int) ≤ pk rc 4 ∧ j = .int .i64 k ∧ Below w.heap.size w wr ∧ wr.heap[w.heap.size]? = some (.cells #[.int .i64 ki, .int .i64 ra, .int .i64 rb, .int .i64 rc, .slice sa n cap] 36 (0, 0)) ∧ wr.heap[w.heap.size + 1]? = some (.cells #[.int .i64 0, .int .i64 0, .slice none 0 0, .slice none 0 0] 25 (0, 0)) ∧ wr.heap[w.heap.size + 2]? = some (.cells #[.int .i64 (pk ra 4), .int .i64 (1 + pk rb 9), v, .slice none 0 0] 25 (0, 0)) ∧ wr.ownsRow (w.heap.size + 3) 42 1 v k (pv qs) ∧ Apart wr (w.heap.size + 3) v qs ∧ Hid (qs.map (·.bs) = (List.range k).map fun (i : Nat) => someL rc i)) (fun j _ => (pk rc 4 - intOf j).toNat)
    case atStart => exact ⟨0, _, [], by omega, rfl, hW, r0, r1, r2, World.ownsRow_nil _ _ _ _, apart_nil _ _ _, by show _ = _; simp⟩
    case round =>
      clear hW r0 r1 r2
      obtain ⟨k, v, qs, hk, rfl, hW, r0, r1, r2, ho, hap, hst⟩ := hrel
      have c3 : wr.cell? ⟨w.heap.size, 3, none⟩ = some (.int .i64 rc) := cells_at r0 3 _ rfl
      have o2 : wr.cell? ⟨w.heap.size + 2, 2, none⟩ = some v := cells_at r2 2 _ rfl
      have of2 := frozen_at r2 2
      have hN : w.heap.size + 2 < wr.heap.size := lt_of_heap r2
      by_cases hlt : (k : Int) < pk rc 4
      · have hvb : v.ownBlock ≠ some (w.heap.size + 2) := fun e => by have := (ho.lt _ e).1; omega
        have hv0 : v.ownBlock ≠ some w.heap.size := fun e => by have := (ho.lt _ e).1; omega
        have hv1 : v.ownBlock ≠ some (w.heap.size + 1) := fun e => by have := (ho.lt _ e).1; omega
        go_wp2_with (go_at_call 15; refine (picked_any rc 4 _ h4.1 h4.2 (by omega) (by omega)).mono ?_; rintro e w9 ⟨rfl, rfl⟩)
        go_region_law (first | (refine step_calls rfl 16 _ _ rfl [.int .i64 rc, .int .i64 k] rfl Hent.out (fun u w9 => u = .slice (some ⟨wr.heap.size, 0, none⟩) 32 32 ∧ w9.ownsRow wr.heap.size 5 1 u 32 (ub (someL rc k)) ∧ Below wr.heap.size wr w9) ((some_any rc k _ h4).mono (fun e w9 ⟨he, ho9, hb9⟩ => ⟨_, he, rfl, ho9, below_drew hb9⟩)) ?_; rintro u w9 ⟨rfl, ho9, hb9⟩; have s0 := (hb9.block _ (lt_of_heap r0)).trans r0; have s1 := (hb9.block _ (lt_of_heap r1)).trans r1; have s2 := (hb9.block _ (lt_of_heap r2)).trans r2; have p2 : w9.cell? ⟨w.heap.size + 2, 2, none⟩ = some v := cells_at s2 2 _ rfl; have p3 : w9.cell? ⟨w.heap.size, 3, none⟩ = some (.int .i64 rc) := cells_at s0 3 _ rfl; have pf2 := frozen_at s2 2; have hN9 : w.heap.size + 2 < w9.heap.size := lt_of_heap s2; have ho9' := owns_keep ho hb9) | (refine step_append_at rfl _ _ 23 rfl (w.heap.size + 3) 42 i (.slice none 0 0) 1 24 Tryd.underlying23 hi hz0 hz1 hz2 rfl (by decide) _ k _ rfl (World.ownsRow.alloc ho9' _) ⟨w9.heap.size, 0, none⟩ 1 1 [.slice (some ⟨wr.heap.size, 0, none⟩) 32 32] rfl rfl (cells_new _ _ _) (by intro u hu; simp at hu; subst hu; rfl) (by unfold maxLen; omega) (by omega) (le_alloc hN9 _) ?_; intro v1 w3 ho3 G3; have t0 := G3.row (heap_keep s0) hv0; have t1 := G3.row (heap_keep s1) hv1; have t2 := G3.row (heap_keep s2) hvb; have g2 : w3.cell? ⟨w.heap.size + 2, 2, none⟩ = some v := cells_at t2 2 _ rfl; have gf2 := frozen_at t2 2; obtain ⟨qa, qc, hq⟩ := owns_shape ho3; subst hq))
        all_goals
          go_wp2_with fail
          go_roundw
          case rel =>
            have hb3 : Below w.heap.size w w3 := (hW.trans (hb9.mono hW.size)).trans (G3.alloc.below (Nat.le_trans hW.size hb9.size) (fun q e => by have := (ho9'.lt q e).1; omega))
            have hs9 := (sliceAt_of_owns ho9).2
            have hap3 := hap.more (q := ⟨some ⟨wr.heap.size, 0, none⟩, 32, someL rc k⟩) (by omega) ho hb9 ho9 hs9 G3
            have hR : ∃ (k' : Nat) (v' : Value) (qs' : List Part), (k' : Int) ≤ pk rc 4 ∧ (Value.int .i64 ((k : Int) + 1)) = .int .i64 k' ∧ Below w.heap.size w (w3.setCell ⟨w.heap.size + 2, 2, none⟩ (.slice qa (k + 1) qc)) ∧ (w3.setCell ⟨w.heap.size + 2, 2, none⟩ (.slice qa (k + 1) qc)).heap[w.heap.size]? = some (.cells #[.int .i64 ki, .int .i64 ra, .int .i64 rb, .int .i64 rc, .slice sa n cap] 36 (0, 0)) ∧ (w3.setCell ⟨w.heap.size + 2, 2, none⟩ (.slice qa (k + 1) qc)).heap[w.heap.size + 1]? = some (.cells #[.int .i64 0, .int .i64 0, .slice none 0 0, .slice none 0 0] 25 (0, 0)) ∧ (w3.setCell ⟨w.heap.size + 2, 2, none⟩ (.slice qa (k + 1) qc)).heap[w.heap.size + 2]? = some (.cells #[.int .i64 (pk ra 4), .int .i64 (1 + pk rb 9), v', .slice none 0 0] 25 (0, 0)) ∧ (w3.setCell ⟨w.heap.size + 2, 2, none⟩ (.slice qa (k + 1) qc)).ownsRow (w.heap.size + 3) 42 1 v' k' (pv qs') ∧ Apart (w3.setCell ⟨w.heap.size + 2, 2, none⟩ (.slice qa (k + 1) qc)) (w.heap.size + 3) v' qs' ∧ Hid (qs'.map (·.bs) = (List.range k').map fun (i : Nat) => someL rc i) :=
              ⟨k + 1, .slice qa (k + 1) qc, qs ++ [⟨some ⟨wr.heap.size, 0, none⟩, 32, someL rc k⟩], by omega, by go_num, hb3.setCell (by simp) _, heap_far t0 (by omega), heap_far t1 (by omega), by simpa using heap_setCell_same _ _ 2 _ _ (.slice qa (k + 1) qc) t2, owns_far (by simpa [pv, Part.val, someL_length] using ho3) _ _ _ (by omega), hap3.far _ _ _ (by omega), by show _ = _; rw [List.map_append, hst.out, List.range_succ, List.map_append]; rfl⟩
            first | exact hR | ((repeat apply Exists.intro); exact ⟨hR, rfl⟩)
          case measure => simp [intOf]; omega
      · have hkI : (k : Int) = pk rc 4 := by omega
        obtain ⟨ba, bc, hv, hl, hL, hFr⟩ := listAt_of_owns ho hap
        subst hv
        have hL' := hL (by omega)
        have hOf := off_of_owns ho hap
        have hbs : Hid (qs.map (·.bs) = hBats rc) := by show _ = _; rw [hst.out, hBats, ← hkI]; rfl
        have Hl : Hid (k = qs.length) := hl
        have Hk : Hid ((k : Int) = pk rc 4) := hkI
        have hk3 : k ≤ 3 := by omega
        clear hl hkI hL hst
        have d0 : wr.cell? ⟨w.heap.size + 1, 0, none⟩ = some (.int .i64 0) := cells_at r1 0 _ rfl
        have d1 : wr.cell? ⟨w.heap.size + 1, 1, none⟩ = some (.int .i64 0) := cells_at r1 1 _ rfl
        have d2 : wr.cell? ⟨w.heap.size + 1, 2, none⟩ = some (.slice none 0 0) := cells_at r1 2 _ rfl
        have d3 : wr.cell? ⟨w.heap.size + 1, 3, none⟩ = some (.slice none 0 0) := cells_at r1 3 _ rfl
        have f0 := frozen_at r1 0
        have f1 := frozen_at r1 1
        have f2 := frozen_at r1 2
        have f3 := frozen_at r1 3
        have e0 : wr.cell? ⟨w.heap.size + 2, 0, none⟩ = some (.int .i64 (pk ra 4)) := cells_at r2 0 _ rfl
        have e1 : wr.cell? ⟨w.heap.size + 2, 1, none⟩ = some (.int .i64 (1 + pk rb 9)) := cells_at r2 1 _ rfl
        have e3 : wr.cell? ⟨w.heap.size + 2, 3, none⟩ = some (.slice none 0 0) := cells_at r2 3 _ rfl
        by_cases hrd : pk rb 9 = 0
        · have hps : Hid (hPars ra rb rc = []) := by show _ = _; rw [hPars, if_pos hrd]
          have hrI : ¬ (1 : Int) < 1 + pk rb 9 := by omega
          have Hrd : Hid (pk rb 9 = 0) := hrd
          clear hrd
          go_wp2_with (go_at_call 15; refine (picked_any rc 4 _ h4.1 h4.2 (by omega) (by omega)).mono ?_; rintro e w9 ⟨rfl, rfl⟩)
          have g1 : w.heap.size + 1 < w.heap.size + 3 := by omega
          refine bodyPost_ret (v := .agg #[.int .i64 (pk ra 4), .int .i64 (1 + pk rb 9), .slice ba k bc, .slice none 0 0]) (by simp [results, Tryd.results12, go_sem, d0, d1, d2, d3]) rfl ?_
          refine ⟨ba, bc, qs, none, 0, [], by rw [← Hl.out]; rfl, ?_, ?_, ?_, ?_, hbs.out, by rw [hps.out]; rfl, ?_, ⟨fun sb so e => by have := hFr.row sb so e; omega, fun p hp sb so e => by have := hFr.each p hp sb so e; omega⟩, ⟨(fun sb so e => by cases e), (fun p hp => by cases hp)⟩⟩
          · exact (((hL'.setCell hFr _ _ _ g1).setCell hFr _ _ _ g1).setCell hFr _ _ _ g1).setCell hFr _ _ _ g1
          · exact ⟨Nat.le_refl _, by decide, by decide, .inl rfl, ⟨.inl rfl, fun p hp => by cases hp⟩⟩
          · exact (((hOf.far _ _ _).far _ _ _).far _ _ _).far _ _ _
          · exact ⟨(fun sb so e => by cases e), (fun p hp => by cases hp)⟩
          · exact ((((hW.setCell (by simp) _).setCell (by simp) _).setCell (by simp) _).setCell (by simp) _)
        · have hrI : (1 : Int) < 1 + pk rb 9 := by omega
          have hps : Hid (hPars ra rb rc = (List.range (3 + pk rc 2).toNat).map fun (i : Nat) => someL ra (10 + i)) := by show _ = _; rw [hPars, if_neg hrd]
          go_wp2_with (go_at_call 15; refine (picked_any rc 4 _ h4.1 h4.2 (by omega) (by omega)).mono ?_; rintro e w9 ⟨rfl, rfl⟩)
          rename World => wl
          have hoff0 : Off wl (.slice none 0 0) ba qs := hOf
          have hwl : w.heap.size + 3 ≤ wl.heap.size := hN
          go_loopw [5] (fun j wr => ∃ (m : Nat) (v : Value) (ps : List Part), (m : Int) ≤ 3 + pk rc 2 ∧ j = .int .i64 m ∧ Below w.heap.size w wr ∧ wr.heap[w.heap.size]? = some (.cells #[.int .i64 ki, .int .i64 ra, .int .i64 rb, .int .i64 rc, .slice sa n cap] 36 (0, 0)) ∧ wr.heap[w.heap.size + 1]? = some (.cells #[.int .i64 0, .int .i64 0, .slice none 0 0, .slice none 0 0] 25 (0, 0)) ∧ wr.heap[w.heap.size + 2]? = some (.cells #[.int .i64 (pk ra 4), .int .i64 (1 + pk rb 9), .slice ba k bc, v] 25 (0, 0)) ∧ wr.ownsRow wl.heap.size 42 1 v m (pv ps) ∧ Apart wr wl.heap.size v ps ∧ Hid (ps.map (·.bs) = (List.range m).map fun (i : Nat) => someL ra (10 + i)) ∧ ListAt wr ba bc qs ∧ Off wr v ba qs ∧ wl.heap.size ≤ wr.heap.size) (fun j _ => (3 + pk rc 2 - intOf j).toNat)
          case atStart => exact ⟨0, _, [], by omega, rfl, hW, r0, r1, r2, World.ownsRow_nil _ _ _ _, apart_nil _ _ _, (by show _ = _; simp), hL', hoff0, Nat.le_refl _⟩
          case round =>
            clear hW r0 r1 r2 hap ho hL' hOf hoff0 c3 o2 of2 hN d0 d1 d2 d3 f0 f1 f2 f3 e0 e1 e3
            obtain ⟨m, v, ps, hm, rfl, hW, r0, r1, r2, ho, hap, hst, hLb, hOb, hBl⟩ := hrel
            have c3 : wr.cell? ⟨w.heap.size, 3, none⟩ = some (.int .i64 rc) := cells_at r0 3 _ rfl
            have c1 : wr.cell? ⟨w.heap.size, 1, none⟩ = some (.int .i64 ra) := cells_at r0 1 _ rfl
            have o3 : wr.cell? ⟨w.heap.size + 2, 3, none⟩ = some v := cells_at r2 3 _ rfl
            have of3 := frozen_at r2 3
            have hN : w.heap.size + 2 < wr.heap.size := lt_of_heap r2
            by_cases hlt : (m : Int) < 3 + pk rc 2
            · have hvb : v.ownBlock ≠ some (w.heap.size + 2) := fun e => by have := (ho.lt _ e).1; omega
              have hv0 : v.ownBlock ≠ some w.heap.size := fun e => by have := (ho.lt _ e).1; omega
              have hv1 : v.ownBlock ≠ some (w.heap.size + 1) := fun e => by have := (ho.lt _ e).1; omega
              have hw10 : IntKind.i64.wrap (10 + (m : Int)) = 10 + (m : Int) := by rw [IntKind.wrap_i64]; omega
              go_wp2_with (go_at_call 15; refine (picked_any rc 2 _ h4.1 h4.2 (by omega) (by omega)).mono ?_; rintro e w9 ⟨rfl, rfl⟩)
              go_region_law (first | (refine step_calls rfl 16 _ _ rfl [.int .i64 ra, .int .i64 (10 + (m : Int))] rfl Hent.out (fun u w9 => u = .slice (some ⟨wr.heap.size, 0, none⟩) 32 32 ∧ w9.ownsRow wr.heap.size 5 1 u 32 (ub (someL ra (10 + m))) ∧ Below wr.heap.size wr w9) ((some_any ra (10 + m) _ h2).mono (fun e w9 ⟨he, ho9, hb9⟩ => ⟨_, he, rfl, ho9, below_drew hb9⟩)) ?_; rintro u w9 ⟨rfl, ho9, hb9⟩; have s0 := (hb9.block _ (lt_of_heap r0)).trans r0; have s1 := (hb9.block _ (lt_of_heap r1)).trans r1; have s2 := (hb9.block _ (lt_of_heap r2)).trans r2; have p3 : w9.cell? ⟨w.heap.size + 2, 3, none⟩ = some v := cells_at s2 3 _ rfl; have p1 : w9.cell? ⟨w.heap.size, 1, none⟩ = some (.int .i64 ra) := cells_at s0 1 _ rfl; have pf3 := frozen_at s2 3; have hN8 : w.heap.size + 2 < w9.heap.size := lt_of_heap s2; have hN9 : wl.heap.size ≤ w9.heap.size := Nat.le_trans hBl hb9.size; have ho9' := owns_keep ho hb9) | (refine step_append_at rfl _ _ 23 rfl wl.heap.size 42 i (.slice none 0 0) 1 24 Tryd.underlying23 hi hz0 hz1 hz2 rfl (by decide) _ m _ rfl (World.ownsRow.alloc ho9' _) ⟨w9.heap.size, 0, none⟩ 1 1 [.slice (some ⟨wr.heap.size, 0, none⟩) 32 32] rfl rfl (cells_new _ _ _) (by intro u hu; simp at hu; subst hu; rfl) (by unfold maxLen; omega) (by omega) (le_alloc hN9 _) ?_; intro v1 w3 ho3 G3; have t0 := G3.row (heap_keep s0) hv0; have t1 := G3.row (heap_keep s1) hv1; have t2 := G3.row (heap_keep s2) hvb; have g3 : w3.cell? ⟨w.heap.size + 2, 3, none⟩ = some v := cells_at t2 3 _ rfl; have gf3 := frozen_at t2 3; obtain ⟨qa, qc, hq⟩ := owns_shape ho3; subst hq))
              all_goals
                go_wp2_with fail
                go_roundw
                case rel =>
                  have hb3 : Below w.heap.size w w3 := (hW.trans (hb9.mono hW.size)).trans (G3.alloc.below (Nat.le_trans hW.size hb9.size) (fun q e => by have := (ho9'.lt q e).1; omega))
                  have hs9 := (sliceAt_of_owns ho9).2
                  have hap3 := hap.more (q := ⟨some ⟨wr.heap.size, 0, none⟩, 32, someL ra (10 + m)⟩) hBl ho hb9 ho9 hs9 G3
                  have hA9 : Below w9.heap.size w9 (w9.alloc (.cells #[.slice (some ⟨wr.heap.size, 0, none⟩) 32 32] 42)) := (Below.refl _ _).alloc (Nat.le_refl _) _
                  have hOb9 := (hOb.below hb9).alloc (.cells #[.slice (some ⟨wr.heap.size, 0, none⟩) 32 32] 42)
                  have hLb3 := G3.list ((hLb.below hb9).below hA9) hOb9
                  have hOb3 := G3.off hOb9
                  have hR : ∃ (m' : Nat) (v' : Value) (ps' : List Part), (m' : Int) ≤ 3 + pk rc 2 ∧ (Value.int .i64 ((m : Int) + 1)) = .int .i64 m' ∧ Below w.heap.size w (w3.setCell ⟨w.heap.size + 2, 3, none⟩ (.slice qa (m + 1) qc)) ∧ (w3.setCell ⟨w.heap.size + 2, 3, none⟩ (.slice qa (m + 1) qc)).heap[w.heap.size]? = some (.cells #[.int .i64 ki, .int .i64 ra, .int .i64 rb, .int .i64 rc, .slice sa n cap] 36 (0, 0)) ∧ (w3.setCell ⟨w.heap.size + 2, 3, none⟩ (.slice qa (m + 1) qc)).heap[w.heap.size + 1]? = some (.cells #[.int .i64 0, .int .i64 0, .slice none 0 0, .slice none 0 0] 25 (0, 0)) ∧ (w3.setCell ⟨w.heap.size + 2, 3, none⟩ (.slice qa (m + 1) qc)).heap[w.heap.size + 2]? = some (.cells #[.int .i64 (pk ra 4), .int .i64 (1 + pk rb 9), .slice ba k bc, v'] 25 (0, 0)) ∧ (w3.setCell ⟨w.heap.size + 2, 3, none⟩ (.slice qa (m + 1) qc)).ownsRow wl.heap.size 42 1 v' m' (pv ps') ∧ Apart (w3.setCell ⟨w.heap.size + 2, 3, none⟩ (.slice qa (m + 1) qc)) wl.heap.size v' ps' ∧ Hid (ps'.map (·.bs) = (List.range m').map fun (i : Nat) => someL ra (10 + i)) ∧ ListAt (w3.setCell ⟨w.heap.size + 2, 3, none⟩ (.slice qa (m + 1) qc)) ba bc qs ∧ Off (w3.setCell ⟨w.heap.size + 2, 3, none⟩ (.slice qa (m + 1) qc)) v' ba qs ∧ wl.heap.size ≤ (w3.setCell ⟨w.heap.size + 2, 3, none⟩ (.slice qa (m + 1) qc)).heap.size :=
                    ⟨m + 1, .slice qa (m + 1) qc, ps ++ [⟨some ⟨wr.heap.size, 0, none⟩, 32, someL ra (10 + m)⟩], by omega, by go_num, hb3.setCell (by simp) _, heap_far t0 (by omega), heap_far t1 (by omega), by simpa using heap_setCell_same _ _ 3 _ _ (.slice qa (m + 1) qc) t2, owns_far (by simpa [pv, Part.val, someL_length] using ho3) _ _ _ (by omega), hap3.far _ _ _ (by omega), (by show _ = _; rw [List.map_append, hst.out, List.range_succ, List.map_append]; rfl), hLb3.setCell hFr _ _ _ (by omega), hOb3.far _ _ _, by simpa using Nat.le_trans (le_alloc hN9 _) G3.grown.size⟩
                  first | exact hR | ((repeat apply Exists.intro); exact ⟨hR, rfl⟩)
                case measure => simp [intOf]; omega
            · have hkI : (m : Int) = 3 + pk rc 2 := by omega
              obtain ⟨qa, qc, hv, hl, hL, hFp⟩ := listAt_of_owns ho hap
              subst hv
              have hLp := hL (by omega)
              have hOp := off_of_owns ho hap
              have hpp : Hid (ps.map (·.bs) = hPars ra rb rc) := by show _ = _; rw [hst.out, hps.out, ← hkI]; rfl
              have Hlp : Hid (m = ps.length) := hl
              have hOb' : Off wr (.slice none 0 0) ba qs := ⟨fun sb so e => ⟨(hOb.row sb so e).1, fun e => by cases e⟩, fun p hp sb so e => ⟨(hOb.each p hp sb so e).1, fun e => by cases e⟩⟩
              have hm4 : m ≤ 4 := by omega
              have Hm : Hid ((m : Int) = 3 + pk rc 2) := hkI
              clear hl hkI hL hst
              have d0 : wr.cell? ⟨w.heap.size + 1, 0, none⟩ = some (.int .i64 0) := cells_at r1 0 _ rfl
              have d1 : wr.cell? ⟨w.heap.size + 1, 1, none⟩ = some (.int .i64 0) := cells_at r1 1 _ rfl
              have d2 : wr.cell? ⟨w.heap.size + 1, 2, none⟩ = some (.slice none 0 0) := cells_at r1 2 _ rfl
              have d3 : wr.cell? ⟨w.heap.size + 1, 3, none⟩ = some (.slice none 0 0) := cells_at r1 3 _ rfl
              have f0 := frozen_at r1 0
              have f1 := frozen_at r1 1
              have f2 := frozen_at r1 2
              have f3 := frozen_at r1 3
              have e0 : wr.cell? ⟨w.heap.size + 2, 0, none⟩ = some (.int .i64 (pk ra 4)) := cells_at r2 0 _ rfl
              have e1 : wr.cell? ⟨w.heap.size + 2, 1, none⟩ = some (.int .i64 (1 + pk rb 9)) := cells_at r2 1 _ rfl
              have e2 : wr.cell? ⟨w.heap.size + 2, 2, none⟩ = some (.slice ba k bc) := cells_at r2 2 _ rfl
              go_wp2_with (go_at_call 15; refine (picked_any rc 2 _ h4.1 h4.2 (by omega) (by omega)).mono ?_; rintro e w9 ⟨rfl, rfl⟩)
              have g1 : w.heap.size + 1 < w.heap.size + 3 := by omega
              have g2 : w.heap.size + 1 < wl.heap.size := by omega
              refine bodyPost_ret (v := .agg #[.int .i64 (pk ra 4), .int .i64 (1 + pk rb 9), .slice ba k bc, .slice qa m qc]) (by simp [results, Tryd.results12, go_sem, d0, d1, d2, d3]) rfl ?_
              refine ⟨ba, bc, qs, qa, qc, ps, by rw [← Hl.out, ← Hlp.out], ?_, ?_, ?_, ?_, hbs.out, hpp.out, ?_, ⟨fun sb so e => by have := hFr.row sb so e; omega, fun p hp sb so e => by have := hFr.each p hp sb so e; omega⟩, ⟨fun sb so e => by have := hFp.row sb so e; omega, fun p hp sb so e => by have := hFp.each p hp sb so e; omega⟩⟩
              · exact (((hLb.setCell hFr _ _ _ g1).setCell hFr _ _ _ g1).setCell hFr _ _ _ g1).setCell hFr _ _ _ g1
              · exact (((hLp.setCell hFp _ _ _ g2).setCell hFp _ _ _ g2).setCell hFp _ _ _ g2).setCell hFp _ _ _ g2
              · exact (((hOb'.far _ _ _).far _ _ _).far _ _ _).far _ _ _
              · exact (((hOp.far _ _ _).far _ _ _).far _ _ _).far _ _ _
              · exact ((((hW.setCell (by simp) _).setCell (by simp) _).setCell (by simp) _).setCell (by simp) _)
set_option maxRecDepth 100000 in
theorem header_raw (ki ra rb rc : Int) (sa : Option Addr) (n cap : Nat) (w : World) (h2 : I64 ra) (h3 : I64 rb) (h4 : I64 rc) :
    Calls Tryd.prog 12 #[.agg #[.int .i64 ki, .int .i64 ra, .int .i64 rb, .int .i64 rc, .slice sa n cap]] w fun e w' => ∃ ba bc bl pa pc pl, e = .returned (.agg #[.int .i64 (pk ra 4), .int .i64 (1 + pk rb 9), .slice ba (List.length bl) bc, .slice pa (List.length pl) pc]) ∧ ListAt w' ba bc bl ∧ ListAt w' pa pc pl ∧ Off w' (.slice none 0 0) ba bl ∧ Off w' (.slice none 0 0) pa pl ∧ bl.map (·.bs) = hBats rc ∧ pl.map (·.bs) = hPars ra rb rc ∧ Below w.heap.size w w' := by
  refine (header_raw2 ki ra rb rc sa n cap w h2 h3 h4).mono ?_
  rintro e w' ⟨ba, bc, bl, pa, pc, pl, he, a1, a2, a3, a4, a5, a6, a7, _, _⟩
  exact ⟨ba, bc, bl, pa, pc, pl, he, a1, a2, a3, a4, a5, a6, a7⟩
end Go.Proofs.YtmpflkggbekpfaaDoor

namespace Go.Proofs.YtmpflkggbekpfaaDoor
open Go.RowKit

set_option maxRecDepth 100000 in
theorem someL_u8 (n m : Int) : ∀ x ∈ someL n m, 0 ≤ x ∧ x ≤ 255 := by
  obtain ⟨hp0, hp1⟩ := pk_bounds n 256 (by decide)
  intro x hx
  rcases List.mem_or_eq_of_mem_set hx with hx | rfl
  · rcases List.mem_or_eq_of_mem_set hx with hx | rfl
    · rcases List.mem_or_eq_of_mem_set hx with hx | rfl
      · rw [List.mem_replicate] at hx; omega
      · omega
    · omega
  · omega
set_option maxRecDepth 100000 in
theorem someL_inj {a : Int} {i j : Int} (hi : 0 ≤ i ∧ i < 256) (hj : 0 ≤ j ∧ j < 256) (h : someL a i = someL a j) : i = j := by
  have h1 : (someL a i)[1]? = (someL a j)[1]? := by rw [h]
  simp [someL] at h1
  omega
set_option maxRecDepth 100000 in
/-- Digests of raw numbers are whole, and all different. -/
theorem digF_some (ps : List Part) (a c : Int) (n : Nat) (hc : 0 ≤ c ∧ c + n ≤ 256) (h : ps.map (·.bs) = (List.range n).map fun (i : Nat) => someL a (c + i)) : digF ps = 0 := by
  have hl : ps.length = n := by have := congrArg List.length h; simpa using this
  have hg : ∀ k, k < ps.length → (partAt ps k).bs = someL a (c + k) := by
    intro k hk
    rw [partAt_get ps k hk]
    have h1 : (ps.map (·.bs))[k]? = ((List.range n).map fun (i : Nat) => someL a (c + i))[k]? := by rw [h]
    simp [hk, show k < n by omega] at h1
    exact h1
  have hall : ∀ k, k ≤ ps.length → digTo1 ps k = 0 := by
    intro k
    induction k with
    | zero => intro _; rfl
    | succ k ih =>
      intro hk
      rw [digTo1, ih (by omega)]
      simp only [ne_eq, not_true_eq_false, if_false]
      have htw : twice ps k = false := by
        rw [twice, List.any_eq_false]
        intro j hj
        rw [List.mem_range] at hj
        rw [hg j (by omega), hg k (by omega)]
        intro e
        have e' := of_decide_eq_true e
        unfold txL at e'
        have e2 : someL a (c + j) = someL a (c + k) := bstr_inj (someL_u8 _ _) (someL_u8 _ _) (ba_ext e')
        have := someL_inj (by omega) (by omega) e2
        omega
      rw [digAt, hg k (by omega), someL_length, htw]
      simp
  exact hall ps.length (Nat.le_refl _)
set_option maxRecDepth 100000 in
theorem headerF_raw (ra rb rc : Int) (bl pl : List Part) (hb : bl.map (·.bs) = hBats rc) (hp : pl.map (·.bs) = hPars ra rb rc) : headerF (pk ra 4) (1 + pk rb 9) bl pl = 0 := by
  obtain ⟨pa0, pa1⟩ := pk_bounds ra 4 (by decide)
  obtain ⟨pb0, pb1⟩ := pk_bounds rb 9 (by decide)
  obtain ⟨pc0, pc1⟩ := pk_bounds rc 4 (by decide)
  obtain ⟨pd0, pd1⟩ := pk_bounds rc 2 (by decide)
  have hbl : bl.length = (pk rc 4).toNat := by have := congrArg List.length hb; simpa [hBats] using this
  have hdb : digF bl = 0 := digF_some bl rc 0 (pk rc 4).toNat (by omega) (by rw [hb, hBats]; simp)
  by_cases h0 : pk rb 9 = 0
  · rw [hPars, if_pos h0] at hp
    have hpl : pl = [] := by simpa using hp
    subst hpl
    rw [headerF, if_neg (by omega), if_neg (by simp; omega), if_neg (by simp [hdb]), if_neg (by simp [digF, digTo1])]
    simp [parentsF, h0]
  · rw [hPars, if_neg h0] at hp
    have hpl : pl.length = (3 + pk rc 2).toNat := by have := congrArg List.length hp; simpa using this
    have hdp : digF pl = 0 := digF_some pl ra 10 (3 + pk rc 2).toNat (by omega) hp
    rw [headerF, if_neg (by omega), if_neg (by omega), if_neg (by simp [hdb]), if_neg (by simp [hdp]), parentsF, if_neg (by omega)]
end Go.Proofs.YtmpflkggbekpfaaDoor
