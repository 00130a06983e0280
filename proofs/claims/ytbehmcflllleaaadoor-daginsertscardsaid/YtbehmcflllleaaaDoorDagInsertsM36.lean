/- The document's digestsAt: P5.6. -/
import Derived.Test.YtbehmcflllleaaaDoorCertF
import Derived.Test.YtbehmcflllleaaaDoorDagInsertsM30
import Derived.Deep.RegionHeld2
import Derived.Test.YtbehmcflllleaaaDoorDagInsertsM6
import Derived.Test.YtbehmcflllleaaaDoorCtFar
import Derived.Test.YtbehmcflllleaaaDoorRawU
import Derived.OwnWalk
import Derived.Deep.RegionLaw
import Derived.Test.YtbehmcflllleaaaDoorCerts
namespace Go.Proofs.YtbehmcflllleaaaDoor
open Go.RowKit

set_option maxRecDepth 100000 in
set_option maxHeartbeats 1000000 in
theorem certFault_any (au rd : Int) (ba : Option Addr) (bc : Nat) (bl : List Part) (pa : Option Addr) (pc : Nat) (pl : List Part) (va : Option Addr) (vc : Nat) (vl : List Int) (w : World) (hb : ListAt w ba bc bl) (hp : ListAt w pa pc pl) (hv : IntsAt w va vl) (hvm : vl.length ≤ 9000000000000000000) :
    Calls Tryd.prog 29 #[.agg #[.int .i64 au, .int .i64 rd, .slice ba bl.length bc, .slice pa pl.length pc, .slice va vl.length vc]] w fun e w' => e = .returned (.int .i64 (certF au rd bl pl vl)) ∧ Below w.heap.size w w' := by
  have hA : Below w.heap.size w (w.alloc (.cells #[.int .i64 au, .int .i64 rd, .slice ba bl.length bc, .slice pa pl.length pc, .slice va vl.length vc] 35)) := (Below.refl _ _).alloc (Nat.le_refl _) _
  go_enter Tryd.func29, Tryd.ntmps29
  go_wp2_with fail
  refine (headerFault_any au rd ba bc bl pa pc pl _ (hb.below hA) (hp.below hA)).mono ?_
  rintro e w1 ⟨he, hb1⟩
  subst he
  dsimp only
  have r1 := row_new hb1
  replace hb1 := below_alloc hb1
  have c4 : w1.cell? ⟨w.heap.size, 4, none⟩ = some (.slice va vl.length vc) := cells_at r1 4 _ rfl
  by_cases h1 : headerF au rd bl pl = 0
  · rw [h1]
    by_cases h2 : 4 < vl.length
    · have hF : Hid (certF au rd bl pl vl = 1) := by show _ = _; rw [certF, if_neg (by simp [h1]), if_pos h2]
      have h2I : (4 : Int) < vl.length := by omega
      go_wp2_with fail
      go_loop [4, 3] (fun i e => i = .int .i64 0 ∧ e = .int .i64 (1)) (fun _ _ => 0)
      case atStart => exact ⟨rfl, rfl⟩
      case round =>
        obtain ⟨rfl, rfl⟩ := hrel
        have hlI : (0 : Int) < vl.length := by omega
        go_wp2_with fail
        go_ret
        exact ⟨ret_int hF.out.symm, hb1⟩
    · have hF : Hid (certF au rd bl pl vl = votersF vl) := by show _ = _; rw [certF, if_neg (by simp [h1]), if_neg h2]
      have h2I : ¬ (4 : Int) < vl.length := by omega
      clear h1
      go_wp2_with fail
      go_loopw [4, 3] (fun i e wr => ∃ k : Nat, k ≤ vl.length ∧ i = .int .i64 k ∧ e = .int .i64 (vTo vl k) ∧ Below w.heap.size w wr ∧ wr.cell? ⟨w.heap.size, 4, none⟩ = some (.slice va vl.length vc)) (fun i _ _ => vl.length - (intOf i).toNat)
      case atStart => exact ⟨0, Nat.zero_le _, rfl, rfl, hb1, c4⟩
      case round =>
        clear c4 r1 hb1
        obtain ⟨k, hk, rfl, rfl, hb1, c4⟩ := hrel
        by_cases hlt : k < vl.length
        · have hltI : (k : Int) < vl.length := by omega
          by_cases h0 : vTo vl k = 0
          · obtain ⟨sb, so, rfl, hc⟩ : ∃ sb so, va = some ⟨sb, so, none⟩ ∧ ∀ j, j < vl.length → wr.cell? ⟨sb, so + j, none⟩ = some (.int .i64 (vl.getD j 0)) := by
              rcases (hv.below hb1).cells with h | h
              · rw [h] at hlt; simp at hlt
              · exact h
            have ck := hc k hlt
            have hVs : Hid (vTo vl (k + 1) = vAt vl k) := by
              show _ = _
              rw [vTo, h0]; simp
            have hVa : Hid (vAt vl k = if ¬ (0 ≤ vl.getD k 0 ∧ vl.getD k 0 < 4) then 2 else if 0 < k ∧ vl.getD k 0 ≤ vl.getD (k - 1) 0 then 9 else 0) := rfl
            rw [h0]
            by_cases hkz : k = 0
            · subst hkz
              clear hc
              rw [Nat.add_zero] at ck
              generalize vl.getD 0 0 = x at *
              by_cases hn : 0 ≤ x ∧ x < 4
              · have hst : Hid (vTo vl 1 = 0) := by show _ = _; exact hVs.out.trans (by rw [hVa.out, if_neg (by simp [hn]), if_neg (by omega)])
                clear hVs hVa
                go_wp2_with (go_at_call 51; first | (refine (in_true _ _ _ _ (by omega)).mono ?_; rintro e w' ⟨rfl, rfl⟩) | (refine (in_false _ _ _ _ (by omega)).mono ?_; rintro e w' ⟨rfl, rfl⟩))
                go_region
                go_wp2_with fail
                go_roundw
                case rel =>
                  have hR : ∃ k' : Nat, k' ≤ vl.length ∧ (Value.int .i64 (1)) = .int .i64 k' ∧ (Value.int .i64 0) = .int .i64 (vTo vl k') ∧ Below w.heap.size w wr.drew ∧ wr.drew.cell? ⟨w.heap.size, 4, none⟩ = some (.slice (some ⟨sb, so, none⟩) vl.length vc) := ⟨1, by omega, by go_num, by rw [hst.out], hb1.drew, c4⟩
                  first | exact hR | ((repeat apply Exists.intro); exact ⟨hR, rfl⟩)
                case measure => simp [intOf]; omega
              · have hst : Hid (vTo vl 1 = 2) := by show _ = _; exact hVs.out.trans (by rw [hVa.out, if_pos hn])
                clear hVs hVa
                go_wp2_with (go_at_call 51; first | (refine (in_true _ _ _ _ (by omega)).mono ?_; rintro e w' ⟨rfl, rfl⟩) | (refine (in_false _ _ _ _ (by omega)).mono ?_; rintro e w' ⟨rfl, rfl⟩))
                go_roundw
                case rel =>
                  have hR : ∃ k' : Nat, k' ≤ vl.length ∧ (Value.int .i64 (1)) = .int .i64 k' ∧ (Value.int .i64 2) = .int .i64 (vTo vl k') ∧ Below w.heap.size w wr ∧ wr.cell? ⟨w.heap.size, 4, none⟩ = some (.slice (some ⟨sb, so, none⟩) vl.length vc) := ⟨1, by omega, by go_num, by rw [hst.out], hb1, c4⟩
                  first | exact hR | ((repeat apply Exists.intro); exact ⟨hR, rfl⟩)
                case measure => simp [intOf]; omega
            · have cp := hc (k - 1) (by omega)
              have hkI : (0 : Int) < k := by omega
              have hkD : decide ((0 : Int) < (k : Int)) = true := decide_eq_true hkI
              have hkN : 0 < k := by omega
              have t0 : ((k : Int) - 1).toNat = k - 1 := by omega
              have u0_ : IntKind.i64.wrap ((k : Int) - 1) = (k : Int) - 1 := by rw [IntKind.wrap_i64]; omega
              have z0 : (0 : Int) ≤ (k : Int) - 1 := by omega
              have z1 : (k : Int) - 1 < vl.length := by omega
              clear hc
              generalize vl.getD k 0 = x at *
              generalize vl.getD (k - 1) 0 = y at *
              by_cases hn : 0 ≤ x ∧ x < 4
              · by_cases hxy : x ≤ y
                · have hst : Hid (vTo vl (k + 1) = 9) := by show _ = _; exact hVs.out.trans (by rw [hVa.out, if_neg (by simp [hn]), if_pos (by omega)])
                  clear hVs hVa
                  go_wp2_with (go_at_call 51; first | (refine (in_true _ _ _ _ (by omega)).mono ?_; rintro e w' ⟨rfl, rfl⟩) | (refine (in_false _ _ _ _ (by omega)).mono ?_; rintro e w' ⟨rfl, rfl⟩))
                  go_region
                  go_wp2_with fail
                  go_roundw
                  case rel =>
                    have hR : ∃ k' : Nat, k' ≤ vl.length ∧ (Value.int .i64 ((k : Int) + 1)) = .int .i64 k' ∧ (Value.int .i64 9) = .int .i64 (vTo vl k') ∧ Below w.heap.size w wr.drew ∧ wr.drew.cell? ⟨w.heap.size, 4, none⟩ = some (.slice (some ⟨sb, so, none⟩) vl.length vc) := ⟨k + 1, by omega, by go_num, by rw [hst.out], hb1.drew, c4⟩
                    first | exact hR | ((repeat apply Exists.intro); exact ⟨hR, rfl⟩)
                  case measure => simp [intOf]; omega
                · have hst : Hid (vTo vl (k + 1) = 0) := by show _ = _; exact hVs.out.trans (by rw [hVa.out, if_neg (by simp [hn]), if_neg (by omega)])
                  clear hVs hVa
                  go_wp2_with (go_at_call 51; first | (refine (in_true _ _ _ _ (by omega)).mono ?_; rintro e w' ⟨rfl, rfl⟩) | (refine (in_false _ _ _ _ (by omega)).mono ?_; rintro e w' ⟨rfl, rfl⟩))
                  go_region
                  go_wp2_with fail
                  go_roundw
                  case rel =>
                    have hR : ∃ k' : Nat, k' ≤ vl.length ∧ (Value.int .i64 ((k : Int) + 1)) = .int .i64 k' ∧ (Value.int .i64 0) = .int .i64 (vTo vl k') ∧ Below w.heap.size w wr.drew ∧ wr.drew.cell? ⟨w.heap.size, 4, none⟩ = some (.slice (some ⟨sb, so, none⟩) vl.length vc) := ⟨k + 1, by omega, by go_num, by rw [hst.out], hb1.drew, c4⟩
                    first | exact hR | ((repeat apply Exists.intro); exact ⟨hR, rfl⟩)
                  case measure => simp [intOf]; omega
              · have hst : Hid (vTo vl (k + 1) = 2) := by show _ = _; exact hVs.out.trans (by rw [hVa.out, if_pos hn])
                clear hVs hVa
                go_wp2_with (go_at_call 51; first | (refine (in_true _ _ _ _ (by omega)).mono ?_; rintro e w' ⟨rfl, rfl⟩) | (refine (in_false _ _ _ _ (by omega)).mono ?_; rintro e w' ⟨rfl, rfl⟩))
                go_roundw
                case rel =>
                  have hR : ∃ k' : Nat, k' ≤ vl.length ∧ (Value.int .i64 ((k : Int) + 1)) = .int .i64 k' ∧ (Value.int .i64 2) = .int .i64 (vTo vl k') ∧ Below w.heap.size w wr ∧ wr.cell? ⟨w.heap.size, 4, none⟩ = some (.slice (some ⟨sb, so, none⟩) vl.length vc) := ⟨k + 1, by omega, by go_num, by rw [hst.out], hb1, c4⟩
                  first | exact hR | ((repeat apply Exists.intro); exact ⟨hR, rfl⟩)
                case measure => simp [intOf]; omega
          · have hG : Hid (certF au rd bl pl vl = vTo vl k) := by
              show _ = _
              have e := vTo_stays vl k vl.length h0 hk
              rw [hF.out, votersF, e, if_pos h0]
            clear hF
            generalize vTo vl k = z at *
            go_wp2_with fail
            go_ret
            exact ⟨ret_int hG.out.symm, hb1⟩
        · obtain rfl : k = vl.length := by omega
          by_cases h0 : vTo vl vl.length = 0
          · by_cases h3 : vl.length < 3
            · have e10 : Hid (certF au rd bl pl vl = 10) := by show _ = _; rw [hF.out, votersF, if_neg (by simp [h0]), if_pos h3]
              have h3I : (vl.length : Int) < 3 := by omega
              clear hF
              rw [h0]
              go_wp2_with fail
              go_ret
              exact ⟨ret_int e10.out.symm, hb1⟩
            · have e0 : Hid (certF au rd bl pl vl = 0) := by show _ = _; rw [hF.out, votersF, if_neg (by simp [h0]), if_neg h3]
              have h3I : ¬ (vl.length : Int) < 3 := by omega
              clear hF
              rw [h0]
              go_wp2_with fail
              go_ret
              exact ⟨ret_int e0.out.symm, hb1⟩
          · have hG : Hid (certF au rd bl pl vl = vTo vl vl.length) := by show _ = _; rw [hF.out, votersF, if_pos h0]
            clear hF
            generalize vTo vl vl.length = z at *
            go_wp2_with fail
            go_ret
            exact ⟨ret_int hG.out.symm, hb1⟩
  · have hF : Hid (certF au rd bl pl vl = headerF au rd bl pl) := by show _ = _; rw [certF, if_pos h1]
    generalize headerF au rd bl pl = z at *
    go_wp2_with fail
    go_loop [4, 3] (fun i e => i = .int .i64 0 ∧ e = .int .i64 (z)) (fun _ _ => 0)
    case atStart => exact ⟨rfl, rfl⟩
    case round =>
      obtain ⟨rfl, rfl⟩ := hrel
      by_cases hl0 : vl.length = 0
      · rw [hl0] at c4 ⊢
        go_wp2_with fail
        go_ret
        exact ⟨ret_int hF.out.symm, hb1⟩
      · have hlI : (0 : Int) < vl.length := by omega
        go_wp2_with fail
        go_ret
        exact ⟨ret_int hF.out.symm, hb1⟩
end Go.Proofs.YtbehmcflllleaaaDoor

namespace Go.Proofs.YtbehmcflllleaaaDoor
open Go.RowKit

set_option maxRecDepth 100000 in
theorem PartsAt.take {w : World} {sa : Option Addr} {ps : List Part} (h : PartsAt w sa ps) (k : Nat) : PartsAt w sa (ps.take k) := by
  refine ⟨?_, fun p hp => h.each p (List.mem_of_mem_take hp)⟩
  rcases h.cells with h | ⟨sb, so, rfl, hc⟩
  · left; simp [h]
  · refine .inr ⟨sb, so, rfl, fun j hj => ?_⟩
    have hj' : j < ps.length := by simp at hj; omega
    have := hc j hj'
    simpa [List.getElem_take] using this
set_option maxRecDepth 100000 in
theorem badC_first (l : List CV) (k : Nat) (h : (cvAt l k).f ≠ 0) : badC l k = true := by simp [badC, h]
set_option maxRecDepth 100000 in
theorem badC_eq (ls : List Ct) (k : Nat) (hk : k < ls.length) (h : (ls[k]).v.f = 0) : badC (cvs ls) k = decide (takF (cvs (ls.take k)) (ls[k]).au (ls[k]).rd (bss (ls[k]).pl) ≠ 0) := by
  rw [badC, cvAt_get ls k hk, h, cvs_take]
  rfl
set_option maxRecDepth 100000 in
set_option maxHeartbeats 2000000 in
theorem dagFault_any (ls : List Ct) (sa : Option Addr) (n cap : Nat) (w : World) (hn : n = ls.length) (hd : DagRd w sa cap ls) :
    Calls Tryd.prog 11 #[.agg #[.slice sa n cap]] w fun e w' => e = .returned (.int .i64 (dagF (cvs ls))) ∧ Below w.heap.size w w' := by
  subst hn
  have hle := hd.le
  have hmx := hd.max
  have hA := (Below.refl w.heap.size w).alloc (Nat.le_refl _) (.cells #[.slice sa ls.length cap] 24)
  have r0 := heap_alloc_new w (.cells #[.slice sa ls.length cap] 24)
  by_cases hlong : 400 < ls.length
  · have hF : Hid (dagF (cvs ls) = 12) := dagF_long _ (by rw [cvs_length]; exact hlong)
    have hI : (400 : Int) < ls.length := by omega
    go_enter Tryd.func11, Tryd.ntmps11
    go_wp2_with fail
    go_ret
    exact ⟨ret_int hF.out.symm, hA⟩
  have hI : ¬ (400 : Int) < ls.length := by omega
  have HC : Hid (∀ W : World, Below w.heap.size w W → CertsAt W sa ls) := by
    show ∀ W, _
    exact fun W hW => hd.certs.below hW
  have HE : Hid (∀ W : World, Below w.heap.size w W → ∀ c ∈ ls, CtRd W c) := by
    show ∀ W, _
    exact fun W hW c hc => (hd.each c hc).below hW
  clear hd
  go_enter Tryd.func11, Tryd.ntmps11
  go_wp2_with fail
  generalize w.alloc (.cells #[.slice sa ls.length cap] 24) = W0 at hA r0 ⊢
  have hlt0 : w.heap.size < W0.heap.size := lt_of_heap r0
  go_loopw [3] (fun j wr => ∃ m : Nat, m ≤ ls.length ∧ j = .int .i64 m ∧ (∀ j, j < m → (cvAt (cvs ls) j).f = 0) ∧ Below W0.heap.size W0 wr) (fun j _ => ls.length - (intOf j).toNat)
  case atStart => exact ⟨0, Nat.zero_le _, rfl, (fun j hj => by omega), Below.refl _ _⟩
  case round =>
    obtain ⟨m, hm, rfl, hno, hbr⟩ := hrel
    have HNO : Hid (∀ j, j < m → (cvAt (cvs ls) j).f = 0) := hno
    clear hno
    have hAr := hA.trans (hbr.mono hA.size)
    have s0 := (hbr.block _ hlt0).trans r0
    have b0 : wr.cell? ⟨w.heap.size, 0, none⟩ = some (.slice sa ls.length cap) := cells_at s0 0 _ rfl
    by_cases hlt : m < ls.length
    · obtain ⟨sb, so, rfl, c0, c1, c2, c3, c4⟩ := (HC.out wr hAr).at m hlt
      have hR := HE.out wr hAr (ls[m]) (List.getElem_mem hlt)
      have hltI : (m : Int) < ls.length := by omega
      have hB : Hid ((ls[m]).v.f ≠ 0 → dagF (cvs ls) = 12) := by
        show _ → _
        intro h
        exact dagF_bad _ m (by rw [cvs_length]; exact hlt) (badC_first _ _ (by rw [cvAt_get ls m hlt]; exact h))
      have hN : Hid ((ls[m]).v.f = 0 → ∀ j, j < m + 1 → (cvAt (cvs ls) j).f = 0) := by
        show _ → _
        intro h j hj
        rcases Nat.lt_or_ge j m with g | g
        · exact HNO.out j g
        · obtain rfl : j = m := by omega
          rw [cvAt_get ls j hlt]; exact h
      have HK := certFault_any (ls[m]).au (ls[m]).rd (ls[m]).ba (ls[m]).bc (ls[m]).bl (ls[m]).pa (ls[m]).pc (ls[m]).pl (ls[m]).va (ls[m]).vc (ls[m]).vl wr hR.rb.list hR.rp.list hR.nums.ints (by have := hR.nums.le; have := hR.nums.reach; omega)
      rw [Ct.f_v] at HK
      clear hR
      generalize ls[m] = s at *
      go_wp2_with fail
      refine HK.mono ?_
      rintro e w1 ⟨he, hb1⟩
      subst he
      dsimp only
      have hB1 := hbr.trans (hb1.mono hbr.size)
      clear HK
      generalize s.v.f = x at *
      by_cases hx : x = 0
      · have hn := hN.out hx
        have HNN : Hid _ := hn
        clear hB hN hn
        subst hx
        go_wp2_with fail
        go_roundw
        case rel =>
          have hR : ∃ m' : Nat, m' ≤ ls.length ∧ (Value.int .i64 ((m : Int) + 1)) = .int .i64 m' ∧ (∀ j, j < m' → (cvAt (cvs ls) j).f = 0) ∧ Below W0.heap.size W0 w1 := ⟨m + 1, by omega, by go_num, HNN.out, hB1⟩
          first | exact hR | ((repeat apply Exists.intro); exact ⟨hR, rfl⟩)
        case measure => simp [intOf]; omega
      · have hn : Hid (dagF (cvs ls) = 12) := hB.out hx
        clear hB hN
        have hxn : (x != 0) = true := by simpa using hx
        go_wp2_with fail
        go_ret
        exact ⟨ret_int hn.out.symm, hA.trans (hB1.mono hA.size)⟩
    · obtain rfl : m = ls.length := by omega
      have HF : Hid (∀ c ∈ ls, c.v.f = 0) := by
        show ∀ c ∈ ls, _
        intro c hc
        obtain ⟨j, hj, rfl⟩ := List.getElem_of_mem hc
        rw [← cvAt_get ls j hj]; exact HNO.out j hj
      have HD := digestsOf_any ls sa _ cap wr rfl (by omega) (HC.out wr hAr) (HE.out wr hAr) HF.out
      clear HNO
      go_wp2_with fail
      refine HD.mono ?_
      rintro e W1 ⟨ra, rc, ds, he, hS, hL, hbW⟩
      subst he
      dsimp only
      clear HD
      have HS : Hid (bss ds = (cvs ls).map CV.d) := hS
      have hdl : ds.length = ls.length := by rw [digs_length hS, cvs_length]
      have HL : Hid (ds.length = ls.length) := hdl
      clear hS hdl
      have hAW := hAr.trans (hbW.mono hAr.size)
      have sW := (hbW.block _ (lt_of_heap s0)).trans s0
      have hltW : w.heap.size < W1.heap.size := lt_of_heap sW
      have hrcl := hL.le
      have hrcm := hL.max
      rw [HL.out] at hrcl
      clear b0 s0 hbr hAr hbW r0 hA
      go_wp2_with fail
      go_loopw [5] (fun j wq => ∃ m : Nat, m ≤ ls.length ∧ j = .int .i64 m ∧ (∀ j, j < m → badC (cvs ls) j = false) ∧ Below W1.heap.size W1 wq) (fun j _ => ls.length - (intOf j).toNat)
      case atStart => exact ⟨0, Nat.zero_le _, rfl, (fun j hj => by omega), Below.refl _ _⟩
      case round =>
        obtain ⟨m, hm, rfl, hno, hbq⟩ := hrel
        have HNO : Hid (∀ j, j < m → badC (cvs ls) j = false) := hno
        clear hno
        have hAq := hAW.trans (hbq.mono hAW.size)
        have s0 := (hbq.block _ hltW).trans sW
        have b0 : wr.cell? ⟨w.heap.size, 0, none⟩ = some (.slice sa ls.length cap) := cells_at s0 0 _ rfl
        by_cases hlt : m < ls.length
        · obtain ⟨sb, so, rfl, c0, c1, c2, c3, _⟩ := (HC.out wr hAq).at m hlt
          obtain ⟨db, dof, rfl⟩ : ∃ db dof, ra = some ⟨db, dof, none⟩ := by
            rcases hL.parts.cells with h | ⟨db, dof, e, _⟩
            · have := HL.out; rw [h] at this; simp at this; omega
            · exact ⟨db, dof, e⟩
          have hLq := hL.below hbq
          have hR := HE.out wr hAq (ls[m]) (List.getElem_mem hlt)
          have hf := HF.out (ls[m]) (List.getElem_mem hlt)
          have hltI : (m : Int) < ls.length := by omega
          have hmc : (m : Int) ≤ cap := by omega
          have hmr : (m : Int) ≤ rc := by omega
          have hAt := badC_eq ls m hlt hf
          have hB : Hid (takF (cvs (ls.take m)) (ls[m]).au (ls[m]).rd (bss (ls[m]).pl) ≠ 0 → dagF (cvs ls) = 12) := by
            show _ → _
            intro h
            exact dagF_bad _ m (by rw [cvs_length]; exact hlt) (by rw [hAt]; simpa using h)
          have hN : Hid (takF (cvs (ls.take m)) (ls[m]).au (ls[m]).rd (bss (ls[m]).pl) = 0 → ∀ j, j < m + 1 → badC (cvs ls) j = false) := by
            show _ → _
            intro h j hj
            rcases Nat.lt_or_ge j m with g | g
            · exact HNO.out j g
            · obtain rfl : j = m := by omega
              rw [hAt]; simpa using h
          have hlen : (ls.take m).length = m := by simp; omega
          obtain ⟨y1, y2, y3, y4, _, _⟩ := headerF_ok (certF_head (vl := (ls[m]).vl) (by rw [Ct.f_v]; exact hf))
          have HA : Hid (∀ W : World, Below wr.heap.size wr W → Calls Tryd.prog 31 #[.slice (some ⟨sb, so, none⟩) m cap, .int .i64 (ls[m]).au, .int .i64 (ls[m]).rd] W fun e w' => e = .returned (.int .i64 (cOf (cvs (ls.take m)) (ls[m]).au (ls[m]).rd)) ∧ W = w') := by
            show ∀ W, _
            intro W hW
            exact certOf_any (ls.take m) (some ⟨sb, so, none⟩) m cap (ls[m]).au (ls[m]).rd W hlen.symm (by omega) (((HC.out wr hAq).take m).below hW)
          have HP : Hid (∀ W : World, Below wr.heap.size wr W → Calls Tryd.prog 32 #[.slice (some ⟨sb, so, none⟩) m cap, .slice (some ⟨db, dof, none⟩) m rc, .agg #[.int .i64 (ls[m]).au, .int .i64 (ls[m]).rd, .slice (ls[m]).ba (ls[m]).bl.length (ls[m]).bc, .slice (ls[m]).pa (ls[m]).pl.length (ls[m]).pc]] W fun e w' => e = .returned (.int .i64 (parF (cvs (ls.take m)) (ls[m]).rd (bss (ls[m]).pl))) ∧ Below W.heap.size W w') := by
            show ∀ W, _
            intro W hW
            exact parentsFault_any (ls.take m) (some ⟨sb, so, none⟩) m cap (ds.take m) (some ⟨db, dof, none⟩) m rc (ls[m]).au (ls[m]).rd (ls[m]).ba _ (ls[m]).bc (ls[m]).pl (ls[m]).pa _ (ls[m]).pc W hlen.symm hlen.symm rfl (by have := HS.out; rw [cvs_take, List.map_take, ← this]; simp [bss, List.map_take]) (by omega) y4 y2 ((hLq.parts.take m).below hW) (((HC.out wr hAq).take m).below hW) (hR.rp.list.parts.below hW)
          have HT : Hid (takF (cvs (ls.take m)) (ls[m]).au (ls[m]).rd (bss (ls[m]).pl) = if 0 ≤ cOf (cvs (ls.take m)) (ls[m]).au (ls[m]).rd then 7 else parF (cvs (ls.take m)) (ls[m]).rd (bss (ls[m]).pl)) := rfl
          have hcb := cOf_bounds (cvs (ls.take m)) (ls[m]).au (ls[m]).rd
          rw [cvs_length, hlen] at hcb
          clear hAt hR hf hLq y1 y2 y3 y4 hlen
          generalize hsg : ls[m] = s at *
          clear hsg
          generalize takF (cvs (ls.take m)) s.au s.rd (bss s.pl) = T at *
          generalize cOf (cvs (ls.take m)) s.au s.rd = C at *
          generalize parF (cvs (ls.take m)) s.rd (bss s.pl) = F at *
          have hA2 := (Below.refl wr.heap.size wr).alloc (Nat.le_refl _) (.cells #[.int .i64 s.au, .int .i64 s.rd, .slice s.ba s.bl.length s.bc, .slice s.pa s.pl.length s.pc] 32)
          have q0 := heap_alloc_new wr (.cells #[.int .i64 s.au, .int .i64 s.rd, .slice s.ba s.bl.length s.bc, .slice s.pa s.pl.length s.pc] 32)
          have z0 := heap_keep (o := .cells #[.int .i64 s.au, .int .i64 s.rd, .slice s.ba s.bl.length s.bc, .slice s.pa s.pl.length s.pc] 32) s0
          go_wp2_with fail
          generalize wr.alloc (.cells #[.int .i64 s.au, .int .i64 s.rd, .slice s.ba s.bl.length s.bc, .slice s.pa s.pl.length s.pc] 32) = W2 at hA2 q0 z0 ⊢
          have k0 : W2.cell? ⟨wr.heap.size, 0, none⟩ = some (.int .i64 s.au) := cells_at q0 0 _ rfl
          have k1 : W2.cell? ⟨wr.heap.size, 1, none⟩ = some (.int .i64 s.rd) := cells_at q0 1 _ rfl
          have k2 : W2.cell? ⟨wr.heap.size, 2, none⟩ = some (.slice s.ba s.bl.length s.bc) := cells_at q0 2 _ rfl
          have k3 : W2.cell? ⟨wr.heap.size, 3, none⟩ = some (.slice s.pa s.pl.length s.pc) := cells_at q0 3 _ rfl
          have k4 : W2.cell? ⟨w.heap.size, 0, none⟩ = some (.slice (some ⟨sb, so, none⟩) ls.length cap) := cells_at z0 0 _ rfl
          have hblt : wr.heap.size < W2.heap.size := lt_of_heap q0
          have hblt0 : w.heap.size < W2.heap.size := lt_of_heap z0
          clear c0 c1 c2 c3 b0 q0 z0 s0
          by_cases hC : 0 ≤ C
          · have h12 : Hid (dagF (cvs ls) = 12) := hB.out (by rw [HT.out, if_pos hC]; decide)
            clear hB hN HT HP
            have hCn : decide (0 ≤ C) = true := by simpa using hC
            refine wp_region_held_drew (S := fun w' => w'.cell? ⟨wr.heap.size, 0, none⟩ = some (.int .i64 s.au) ∧ w'.cell? ⟨wr.heap.size, 1, none⟩ = some (.int .i64 s.rd) ∧ w'.cell? ⟨w.heap.size, 0, none⟩ = some (.slice (some ⟨sb, so, none⟩) ls.length cap)) (by kernel_rfl) ⟨k0, k1, k4⟩ (fun hHeld => ?_)
            refine take_dst (i := 0) (d := 41) (v := .pointer (some ⟨w.heap.size, 0, none⟩)) rfl rfl (by kernel_rfl) (by kernel_rfl) (by kernel_rfl) (fun _ _ _ h => h) (Or.inl ⟨by rfl, ?_⟩) hHeld ?_
            · (intro w0 hSw; (try dsimp only at hSw); go_simp)
            simp only [Act.put, List.setIfInBounds_toArray, List.set_cons_zero, List.set_cons_succ]
            refine take_dst (i := 1) (d := 42) (v := .slice (some ⟨sb, so, none⟩) ls.length cap) rfl rfl (by kernel_rfl) (by kernel_rfl) (by kernel_rfl) (fun _ _ _ h => h) (Or.inl ⟨by rfl, ?_⟩) hHeld ?_
            · (intro w0 hSw; (try dsimp only at hSw); go_simp)
            simp only [Act.put, List.setIfInBounds_toArray, List.set_cons_zero, List.set_cons_succ]
            refine take_dst (i := 2) (d := 43) (v := .int .i64 m) rfl rfl (by kernel_rfl) (by kernel_rfl) (by kernel_rfl) (fun _ _ _ h => h) (Or.inl ⟨by rfl, ?_⟩) hHeld ?_
            · (intro w0 hSw; (try dsimp only at hSw); go_simp)
            simp only [Act.put, List.setIfInBounds_toArray, List.set_cons_zero, List.set_cons_succ]
            refine take_dst (i := 3) (d := 44) (v := .slice (some ⟨sb, so, none⟩) m cap) rfl rfl (by kernel_rfl) (by kernel_rfl) (by kernel_rfl) (fun _ _ _ h => h) (Or.inl ⟨by rfl, ?_⟩) hHeld ?_
            · (intro w0 hSw; (try dsimp only at hSw); go_simp)
            simp only [Act.put, List.setIfInBounds_toArray, List.set_cons_zero, List.set_cons_succ]
            refine take_dst (i := 4) (d := 45) (v := .pointer (some ⟨wr.heap.size, 0, none⟩)) rfl rfl (by kernel_rfl) (by kernel_rfl) (by kernel_rfl) (fun _ _ _ h => h) (Or.inl ⟨by rfl, ?_⟩) hHeld ?_
            · (intro w0 hSw; (try dsimp only at hSw); go_simp)
            simp only [Act.put, List.setIfInBounds_toArray, List.set_cons_zero, List.set_cons_succ]
            refine take_dst (i := 5) (d := 46) (v := .int .i64 s.au) rfl rfl (by kernel_rfl) (by kernel_rfl) (by kernel_rfl) (fun _ _ _ h => h) (Or.inl ⟨by rfl, ?_⟩) hHeld ?_
            · (intro w0 hSw; (try dsimp only at hSw); go_simp)
            simp only [Act.put, List.setIfInBounds_toArray, List.set_cons_zero, List.set_cons_succ]
            refine take_dst (i := 6) (d := 47) (v := .pointer (some ⟨wr.heap.size, 1, none⟩)) rfl rfl (by kernel_rfl) (by kernel_rfl) (by kernel_rfl) (fun _ _ _ h => h) (Or.inl ⟨by rfl, ?_⟩) hHeld ?_
            · (intro w0 hSw; (try dsimp only at hSw); go_simp)
            simp only [Act.put, List.setIfInBounds_toArray, List.set_cons_zero, List.set_cons_succ]
            refine take_dst (i := 7) (d := 48) (v := .int .i64 s.rd) rfl rfl (by kernel_rfl) (by kernel_rfl) (by kernel_rfl) (fun _ _ _ h => h) (Or.inl ⟨by rfl, ?_⟩) hHeld ?_
            · (intro w0 hSw; (try dsimp only at hSw); go_simp)
            simp only [Act.put, List.setIfInBounds_toArray, List.set_cons_zero, List.set_cons_succ]
            refine wpAnyH_ready (rs := [8]) (by kernel_rfl) (by simp) (AllReadyH.cons rfl (fun K hK => ?_) AllReadyH.nil)
            refine step_calls_dst rfl 49 rfl 31 [.tmp 44, .tmp 46, .tmp 48] #[22, 3, 3] rfl [.slice (some ⟨sb, so, none⟩) m cap, .int .i64 s.au, .int .i64 s.rd] rfl (enters_of Tryd.func31 (by kernel_rfl) rfl) (fun v w' => v = .int .i64 C ∧ w' = W2.drew) ((HA.out _ hA2.drew).mono (fun e w2 h => ⟨_, h.1, rfl, h.2.symm⟩)) ?_
            rintro v w2 ⟨rfl, rfl⟩
            refine hK.out _ _ ⟨k0, k1, k4⟩ (fun hHeld => ?_)
            simp only [Act.put, List.setIfInBounds_toArray, List.set_cons_zero, List.set_cons_succ]
            refine take_dst (i := 9) (d := 50) (v := .bool true) rfl rfl (by kernel_rfl) (by kernel_rfl) (by kernel_rfl) (fun _ _ _ h => h) (Or.inl ⟨by rfl, ?_⟩) hHeld ?_
            · (intro w0 hSw; (try dsimp only at hSw); go_simp)
            simp only [Act.put, List.setIfInBounds_toArray, List.set_cons_zero, List.set_cons_succ]
            refine take_dst (i := 10) (d := 51) (v := .bool true) rfl rfl (by kernel_rfl) (by kernel_rfl) (by kernel_rfl) (fun _ _ _ h => h) (Or.inl ⟨by rfl, ?_⟩) hHeld ?_
            · (intro w0 hSw; (try dsimp only at hSw); go_simp)
            simp only [Act.put, List.setIfInBounds_toArray, List.set_cons_zero, List.set_cons_succ]
            refine take_dst (i := 11) (d := 52) (v := undef) rfl rfl (by kernel_rfl) (by kernel_rfl) (by kernel_rfl) (fun _ _ _ h => h) (Or.inr ⟨by rfl, rfl⟩) hHeld ?_
            simp only [Act.put, List.setIfInBounds_toArray, List.set_cons_zero, List.set_cons_succ]
            refine take_dst (i := 12) (d := 53) (v := undef) rfl rfl (by kernel_rfl) (by kernel_rfl) (by kernel_rfl) (fun _ _ _ h => h) (Or.inr ⟨by rfl, rfl⟩) hHeld ?_
            simp only [Act.put, List.setIfInBounds_toArray, List.set_cons_zero, List.set_cons_succ]
            refine take_dst (i := 13) (d := 54) (v := undef) rfl rfl (by kernel_rfl) (by kernel_rfl) (by kernel_rfl) (fun _ _ _ h => h) (Or.inr ⟨by rfl, rfl⟩) hHeld ?_
            simp only [Act.put, List.setIfInBounds_toArray, List.set_cons_zero, List.set_cons_succ]
            refine take_dst (i := 14) (d := 55) (v := undef) rfl rfl (by kernel_rfl) (by kernel_rfl) (by kernel_rfl) (fun _ _ _ h => h) (Or.inr ⟨by rfl, rfl⟩) hHeld ?_
            simp only [Act.put, List.setIfInBounds_toArray, List.set_cons_zero, List.set_cons_succ]
            refine take_dst (i := 15) (d := 56) (v := undef) rfl rfl (by kernel_rfl) (by kernel_rfl) (by kernel_rfl) (fun _ _ _ h => h) (Or.inr ⟨by rfl, rfl⟩) hHeld ?_
            simp only [Act.put, List.setIfInBounds_toArray, List.set_cons_zero, List.set_cons_succ]
            refine take_dst (i := 16) (d := 57) (v := undef) rfl rfl (by kernel_rfl) (by kernel_rfl) (by kernel_rfl) (fun _ _ _ h => h) (Or.inr ⟨by rfl, rfl⟩) hHeld ?_
            simp only [Act.put, List.setIfInBounds_toArray, List.set_cons_zero, List.set_cons_succ]
            refine take_dst (i := 17) (d := 58) (v := undef) rfl rfl (by kernel_rfl) (by kernel_rfl) (by kernel_rfl) (fun _ _ _ h => h) (Or.inr ⟨by rfl, rfl⟩) hHeld ?_
            simp only [Act.put, List.setIfInBounds_toArray, List.set_cons_zero, List.set_cons_succ]
            refine take_dst (i := 18) (d := 59) (v := undef) rfl rfl (by kernel_rfl) (by kernel_rfl) (by kernel_rfl) (fun _ _ _ h => h) (Or.inr ⟨by rfl, rfl⟩) hHeld ?_
            simp only [Act.put, List.setIfInBounds_toArray, List.set_cons_zero, List.set_cons_succ]
            refine take_dst (i := 19) (d := 60) (v := undef) rfl rfl (by kernel_rfl) (by kernel_rfl) (by kernel_rfl) (fun _ _ _ h => h) (Or.inr ⟨by rfl, rfl⟩) hHeld ?_
            simp only [Act.put, List.setIfInBounds_toArray, List.set_cons_zero, List.set_cons_succ]
            refine take_dst (i := 20) (d := 61) (v := undef) rfl rfl (by kernel_rfl) (by kernel_rfl) (by kernel_rfl) (fun _ _ _ h => h) (Or.inr ⟨by rfl, rfl⟩) hHeld ?_
            simp only [Act.put, List.setIfInBounds_toArray, List.set_cons_zero, List.set_cons_succ]
            refine take_dst (i := 21) (d := 62) (v := .bool true) rfl rfl (by kernel_rfl) (by kernel_rfl) (by kernel_rfl) (fun _ _ _ h => h) (Or.inl ⟨by rfl, ?_⟩) hHeld ?_
            · (intro w0 hSw; (try dsimp only at hSw); go_simp)
            simp only [Act.put, List.setIfInBounds_toArray, List.set_cons_zero, List.set_cons_succ]
            refine wpAnyH_done (by kernel_rfl) ?_ _
            go_wp2_with fail
            go_ret
            exact ⟨ret_int h12.out.symm, (hAq.trans (hA2.mono hAq.size)).drew⟩
          · have HT' : Hid (T = F) := by
              show _ = _
              rw [HT.out, if_neg hC]
            obtain rfl : C = -1 := by omega
            clear HT hC
            by_cases hx : F = 0
            · have HN : Hid (∀ j, j < m + 1 → badC (cvs ls) j = false) := hN.out (by rw [HT'.out]; exact hx)
              clear hN hB HT'
              subst hx
              go_region_held3 (fun w' => w'.cell? ⟨wr.heap.size, 0, none⟩ = some (.int .i64 s.au) ∧ w'.cell? ⟨wr.heap.size, 1, none⟩ = some (.int .i64 s.rd) ∧ w'.cell? ⟨wr.heap.size, 2, none⟩ = some (.slice s.ba s.bl.length s.bc) ∧ w'.cell? ⟨wr.heap.size, 3, none⟩ = some (.slice s.pa s.pl.length s.pc) ∧ w'.cell? ⟨w.heap.size, 0, none⟩ = some (.slice (some ⟨sb, so, none⟩) ls.length cap)) (go_keep) (first | (go_at_call 32; refine (HP.out _ hA2.drew).mono ?_; rintro e w3 ⟨rfl, hb3⟩; have hb4 : Below W2.heap.size W2 w3 := below_drew hb3; have e0 := (hb4.cell (p := ⟨wr.heap.size, 0, none⟩) hblt).trans k0; have e1 := (hb4.cell (p := ⟨wr.heap.size, 1, none⟩) hblt).trans k1; have e2 := (hb4.cell (p := ⟨wr.heap.size, 2, none⟩) hblt).trans k2; have e3 := (hb4.cell (p := ⟨wr.heap.size, 3, none⟩) hblt).trans k3; have e4 := (hb4.cell (p := ⟨w.heap.size, 0, none⟩) hblt0).trans k4) | (go_at_call 31; refine (HA.out _ hA2.drew).mono ?_; rintro e w2 ⟨rfl, rfl⟩))
              all_goals
                have hbC := hbq.trans ((hA2.trans (hb4.mono hA2.size)).mono hbq.size)
                go_wp2_with fail
                go_roundw
                case rel =>
                  have hR : ∃ m' : Nat, m' ≤ ls.length ∧ (Value.int .i64 ((m : Int) + 1)) = .int .i64 m' ∧ (∀ j, j < m' → badC (cvs ls) j = false) ∧ Below W1.heap.size W1 w3 := ⟨m + 1, by omega, by go_num, HN.out, hbC⟩
                  first | exact hR | ((repeat apply Exists.intro); exact ⟨hR, rfl⟩)
                case measure => simp [intOf]; omega
            · have h12 : Hid (dagF (cvs ls) = 12) := hB.out (by rw [HT'.out]; exact hx)
              clear hN hB HT'
              have hxn : (F != 0) = true := by simpa using hx
              go_region_held3 (fun w' => w'.cell? ⟨wr.heap.size, 0, none⟩ = some (.int .i64 s.au) ∧ w'.cell? ⟨wr.heap.size, 1, none⟩ = some (.int .i64 s.rd) ∧ w'.cell? ⟨wr.heap.size, 2, none⟩ = some (.slice s.ba s.bl.length s.bc) ∧ w'.cell? ⟨wr.heap.size, 3, none⟩ = some (.slice s.pa s.pl.length s.pc) ∧ w'.cell? ⟨w.heap.size, 0, none⟩ = some (.slice (some ⟨sb, so, none⟩) ls.length cap)) (go_keep) (first | (go_at_call 32; refine (HP.out _ hA2.drew).mono ?_; rintro e w3 ⟨rfl, hb3⟩; have hb4 : Below W2.heap.size W2 w3 := below_drew hb3; have e0 := (hb4.cell (p := ⟨wr.heap.size, 0, none⟩) hblt).trans k0; have e1 := (hb4.cell (p := ⟨wr.heap.size, 1, none⟩) hblt).trans k1; have e2 := (hb4.cell (p := ⟨wr.heap.size, 2, none⟩) hblt).trans k2; have e3 := (hb4.cell (p := ⟨wr.heap.size, 3, none⟩) hblt).trans k3; have e4 := (hb4.cell (p := ⟨w.heap.size, 0, none⟩) hblt0).trans k4) | (go_at_call 31; refine (HA.out _ hA2.drew).mono ?_; rintro e w2 ⟨rfl, rfl⟩))
              all_goals
                have hbC := hAq.trans ((hA2.trans (hb4.mono hA2.size)).mono hAq.size)
                go_wp2_with fail
                go_ret
                exact ⟨ret_int h12.out.symm, hbC⟩
        · obtain rfl : m = ls.length := by omega
          have hF : Hid (dagF (cvs ls) = 0) := dagF_ok _ (by rw [cvs_length]; omega) (fun k hk => HNO.out k (by rw [cvs_length] at hk; exact hk))
          clear HNO
          go_wp2_with fail
          go_ret
          exact ⟨ret_int hF.out.symm, hAq⟩
end Go.Proofs.YtbehmcflllleaaaDoor

namespace Go.Proofs.YtbehmcflllleaaaDoor
open Go.RowKit

/-- What open answers. -/
def OpenAt (w' : World) (e : Ending) (ls : List Ct) : Prop :=
  (dagF (cvs ls) = 12 ∧ e = .returned (.tuple #[.agg #[.slice none 0 0, .slice none 0 0], .int .i64 12])) ∨ (dagF (cvs ls) = 0 ∧ ∃ ca cc da dc ds, e = .returned (.tuple #[.agg #[.slice ca ls.length cc, .slice da ls.length dc], .int .i64 0]) ∧ StockAt w' ca cc ls da dc ds)
set_option maxRecDepth 100000 in
theorem take_nil_certs (w : World) (sa : Option Addr) (ls : List Ct) : CertsAt w sa (ls.take 0) := ⟨.inl (by simp)⟩
set_option maxRecDepth 100000 in
theorem owns_else {w : World} {base n : Nat} {e : TypeId} {s : Nat} {v : Value} {xs : List Value} (h : w.ownsRow base e s v n xs) (b j : Nat) (x : Value) (hb : v.ownBlock ≠ some b) : (w.setCell ⟨b, j, none⟩ x).ownsRow base e s v n xs := by
  have hB : ∀ q, v.ownBlock = some q → q ≠ b := fun q e hq => hb (by rw [e, hq])
  obtain ⟨h1, h2⟩ := h
  refine ⟨h1, ?_⟩
  rcases h2 with h2 | ⟨g, cap, cur, rfl, hg, hc, r⟩
  · exact .inl h2
  · exact .inr ⟨g, cap, cur, rfl, hg, (heap_setCell_other w ⟨b, j, none⟩ g x (hB g rfl)).trans hc, r⟩
set_option maxRecDepth 100000 in
theorem Apart.other {w : World} {B : Nat} {v : Value} {ps : List Part} (h : Apart w B v ps) (b j : Nat) (x : Value) (hb : ∀ p ∈ ps, ∀ so, p.sa ≠ some ⟨b, so, none⟩) : Apart (w.setCell ⟨b, j, none⟩ x) B v ps := fun p hp => by
  obtain ⟨h1, h2⟩ := h p hp
  refine ⟨slice_keep h1 (fun q so _ e => heap_setCell_other w ⟨b, j, none⟩ q x (fun hq => ?_)), fun sb so e => ?_⟩
  · have hq' : q = b := hq
    exact hb p hp so (by rw [e, hq'])
  · obtain ⟨a1, a2, a3⟩ := h2 sb so e
    exact ⟨a1, by simpa using a2, a3⟩
set_option maxRecDepth 100000 in
set_option maxHeartbeats 2000000 in
theorem open_any (ls : List Ct) (sa : Option Addr) (n cap : Nat) (w : World) (hn : n = ls.length) (hd : DagAt w sa cap ls) (hT : Tabs w) :
    Calls Tryd.prog 28 #[.agg #[.slice sa n cap]] w fun e w' => OpenAt w' e ls ∧ Below w.heap.size w w' := by
  subst hn
  have hle := hd.le
  have hmx := hd.max
  obtain ⟨i, hi, hz0, hz1, hz2⟩ := info_parts infoBs
  have hA : Below w.heap.size w ((w.alloc (.cells #[.slice sa ls.length cap] 24)).alloc (.cells #[.slice none 0 0, .slice none 0 0] 56)) := ((Below.refl _ _).alloc (Nat.le_refl _) _).alloc (by rw [size_alloc]; omega) _
  have r0 := heap_alloc2_old w (.cells #[.slice sa ls.length cap] 24) (.cells #[.slice none 0 0, .slice none 0 0] 56)
  have r1 : ((w.alloc (.cells #[.slice sa ls.length cap] 24)).alloc (.cells #[.slice none 0 0, .slice none 0 0] 56)).heap[w.heap.size + 1]? = some (.cells #[.slice none 0 0, .slice none 0 0] 56 (0, 0)) := by
    have := heap_alloc_new (w.alloc (.cells #[.slice sa ls.length cap] 24)) (.cells #[.slice none 0 0, .slice none 0 0] 56)
    rw [size_alloc] at this; exact this
  by_cases hlong : 400 < ls.length
  · have hF : Hid (dagF (cvs ls) = 12) := dagF_long _ (by rw [cvs_length]; exact hlong)
    have hI : (400 : Int) < ls.length := by omega
    go_enter Tryd.func28, Tryd.ntmps28
    have d0 := cells_at r1 0 _ rfl
    have d1 := cells_at r1 1 _ rfl
    go_wp2_with fail
    refine bodyPost_ret (v := .tuple #[.agg #[.slice none 0 0, .slice none 0 0], .int .i64 12]) (by simp [results, Tryd.results28, go_sem, d0, d1]) rfl ⟨.inl ⟨hF.out, rfl⟩, hA⟩
  have hI : ¬ (400 : Int) < ls.length := by omega
  have HC : Hid (∀ W : World, Below w.heap.size w W → CertsAt W sa ls) := by
    show ∀ W, _
    exact fun W hW => hd.certs.below hW
  have HE : Hid (∀ W : World, Below w.heap.size w W → ∀ c ∈ ls, CtAt W c) := by
    show ∀ W, _
    exact fun W hW c hc => (hd.each c hc).below hW
  have HT : Hid (∀ W : World, Below w.heap.size w W → Tabs W) := by
    show ∀ W, _
    exact fun W hW => hT.below hW
  clear hd hT
  go_enter Tryd.func28, Tryd.ntmps28
  go_wp2_with (at_make; generalize (w.alloc (.cells #[.slice sa ls.length cap] 24)).alloc (.cells #[.slice none 0 0, .slice none 0 0] 56) = W0 at hA r0 r1 ⊢; refine wpList_make_own _ rfl _ _ 30 rfl W0.heap.size 29 i (.slice none 0 0) 1 Tryd.underlying30 hi hz0 hz1 .i64 .i64 _ ls.length rfl rfl (by go_num) (by rw [hz2]; omega) (by unfold maxLen; omega) (Nat.le_refl _) ?_; intro w1 ho1 hg1; have x0 := (hg1.block w.heap.size (lt_of_heap r0) (fun e => by cases e)).trans r0; have x1 := (hg1.block (w.heap.size + 1) (lt_of_heap r1) (fun e => by cases e)).trans r1; have x0A := heap_keep (o := .cells #[.slice none 0 0, .slice (some ⟨W0.heap.size, 0, none⟩) 0 ls.length] 56) x0; have y0 := cells_at x0A 0 _ rfl)
  have hlt0 : w.heap.size < W0.heap.size := lt_of_heap r0
  have hlt1 : w.heap.size + 1 < W0.heap.size := lt_of_heap r1
  have hb1 : Below W0.heap.size W0 w1 := grown_none hg1
  have h1lt : W0.heap.size < w1.heap.size := (ho1.lt _ rfl).2
  have hnS : ∀ S : Nat, S = w1.heap.size → (Value.slice (some ⟨W0.heap.size, 0, none⟩) 0 ls.length).ownBlock ≠ some S := fun S e h => by
    have h2 : W0.heap.size = S := by simpa [Value.ownBlock] using h
    omega
  clear y0 x0A
  go_loopw [22] (fun j wr => ∃ (m : Nat) (cx : Option Addr) (cy : Nat) (v : Value) (qs : List Part), m ≤ ls.length ∧ j = .int .i64 m ∧ ((m = 0 ∧ cx = none ∧ cy = 0) ∨ (cx = sa ∧ cy = cap)) ∧ bss qs = ((cvs ls).map CV.d).take m ∧ (∀ j, j < m → badC (cvs ls) j = false) ∧ wr.heap[w1.heap.size]? = some (.cells #[.slice cx m cy, v] 56 (0, 0)) ∧ wr.ownsRow W0.heap.size 29 1 v m (pv qs) ∧ v.ownBlock ≠ some w1.heap.size ∧ Apart wr W0.heap.size v qs ∧ (∀ p ∈ qs, ∀ so, p.sa ≠ some ⟨w1.heap.size, so, none⟩) ∧ Below W0.heap.size W0 wr) (fun j _ => ls.length - (intOf j).toNat)
  case atStart => exact ⟨0, none, 0, _, [], Nat.zero_le _, rfl, .inl ⟨rfl, rfl, rfl⟩, rfl, (fun j hj => by omega), heap_alloc_new _ _, World.ownsRow.alloc ho1 _, hnS _ rfl, (fun p hp => by cases hp), (fun p hp => by cases hp), hb1.alloc hb1.size _⟩
  case round =>
    clear ho1 hnS x0 x1
    obtain ⟨m, cx, cy, v, qs, hm, rfl, hxy, hS, hno, hbox, ho, hvS, hap, hpS, hbr⟩ := hrel
    have HNO : Hid (∀ j, j < m → badC (cvs ls) j = false) := hno
    have HS : Hid (bss qs = ((cvs ls).map CV.d).take m) := hS
    have HXY : Hid ((m = 0 ∧ cx = none ∧ cy = 0) ∨ (cx = sa ∧ cy = cap)) := hxy
    have HPS : Hid (∀ p ∈ qs, ∀ so, p.sa ≠ some ⟨w1.heap.size, so, none⟩) := hpS
    clear hno hS hxy hpS
    obtain ⟨da, dc, hve⟩ := owns_shape ho
    subst hve
    have hAr := hA.trans (hbr.mono hA.size)
    have s0 := (hbr.block _ hlt0).trans r0
    have s1 := (hbr.block _ hlt1).trans r1
    have hltS : w1.heap.size < wr.heap.size := lt_of_heap hbox
    by_cases hlt : m < ls.length
    · obtain ⟨sb, so, rfl, c0, c1, c2, c3, c4⟩ := (HC.out wr hAr).at m hlt
      have hct := HE.out wr hAr (ls[m]) (List.getElem_mem hlt)
      have hltI : (m : Int) < ls.length := by omega
      have hmc : (m : Int) + 1 ≤ cap := by omega
      have hAt : Hid ((ls[m]).v.f = 0 → badC (cvs ls) m = decide (takF (cvs (ls.take m)) (ls[m]).au (ls[m]).rd (bss (ls[m]).pl) ≠ 0)) := by
        show _ → _
        exact badC_eq ls m hlt
      have hBf : Hid ((ls[m]).v.f ≠ 0 → dagF (cvs ls) = 12) := by
        show _ → _
        intro h
        exact dagF_bad _ m (by rw [cvs_length]; exact hlt) (badC_first _ _ (by rw [cvAt_get ls m hlt]; exact h))
      have hBt : Hid ((ls[m]).v.f = 0 → takF (cvs (ls.take m)) (ls[m]).au (ls[m]).rd (bss (ls[m]).pl) ≠ 0 → dagF (cvs ls) = 12) := by
        show _ → _ → _
        intro h0 h
        exact dagF_bad _ m (by rw [cvs_length]; exact hlt) (by rw [hAt.out h0]; simpa using h)
      have hN : Hid ((ls[m]).v.f = 0 → takF (cvs (ls.take m)) (ls[m]).au (ls[m]).rd (bss (ls[m]).pl) = 0 → ∀ j, j < m + 1 → badC (cvs ls) j = false) := by
        show _ → _ → _
        intro h0 h j hj
        rcases Nat.lt_or_ge j m with g | g
        · exact HNO.out j g
        · obtain rfl : j = m := by omega
          rw [hAt.out h0]; simpa using h
      have hlen : (ls.take m).length = m := by simp; omega
      have hst : Hid (((cvs ls).map CV.d).take (m + 1) = ((cvs ls).map CV.d).take m ++ [hDig (ls[m]).au (ls[m]).rd (ls[m]).bl (ls[m]).pl]) := by
        show _ = _
        rw [List.take_succ_eq_append_getElem (by simp [cvs]; exact hlt)]
        simp [cvs, Ct.d_v]
      have hstock : StockAt wr cx cy (ls.take m) da dc qs := by
        obtain ⟨ra, rc, hv, hl, hL, _⟩ := listAt_of_owns ho hap
        cases hv
        refine ⟨?_, hL (by omega), by rw [HS.out, cvs_take, List.map_take], by omega, ?_, ?_⟩
        · rcases HXY.out with ⟨h, _, _⟩ | ⟨h, _⟩
          · rw [h]; exact take_nil_certs _ _ _
          · rw [h]; exact (HC.out wr hAr).take m
        · rcases HXY.out with ⟨h, _, h3⟩ | ⟨_, h⟩
          · rw [h3, hlen, h]; exact Nat.le_refl _
          · rw [h, hlen]; omega
        · rcases HXY.out with ⟨_, _, h3⟩ | ⟨_, h⟩
          · rw [h3]; decide
          · rw [h]; exact hmx
      have HCK : Hid (∀ W : World, Below wr.heap.size wr W → Calls Tryd.prog 44 #[.agg #[.int .i64 (ls[m]).au, .int .i64 (ls[m]).rd, .slice (ls[m]).ba (ls[m]).bl.length (ls[m]).bc, .slice (ls[m]).pa (ls[m]).pl.length (ls[m]).pc, .slice (ls[m]).va (ls[m]).vl.length (ls[m]).vc]] W fun e w' => e = .returned (.int .i64 (ls[m]).v.f) ∧ Below W.heap.size W w') := by
        show ∀ W, _
        intro W hW
        have h2 := hct.below hW
        have := checkCert_any (ls[m]).au (ls[m]).rd (ls[m]).ba (ls[m]).bc (ls[m]).bl (ls[m]).pa (ls[m]).pc (ls[m]).pl (ls[m]).va (ls[m]).vc (ls[m]).vl W h2.hat.lb h2.hat.lp h2.ints h2.vle
        rw [Ct.f_v] at this
        exact this
      have HHF : Hid ((ls[m]).v.f = 0 → headerF (ls[m]).au (ls[m]).rd (ls[m]).bl (ls[m]).pl = 0) := by
        show _ → _
        intro h
        exact certF_head (vl := (ls[m]).vl) (by rw [Ct.f_v]; exact h)
      have HTK : Hid ((ls[m]).v.f = 0 → ∀ W : World, Below wr.heap.size wr W → Calls Tryd.prog 45 #[.agg #[.slice cx m cy, .slice da m dc], .agg #[.int .i64 (ls[m]).au, .int .i64 (ls[m]).rd, .slice (ls[m]).ba (ls[m]).bl.length (ls[m]).bc, .slice (ls[m]).pa (ls[m]).pl.length (ls[m]).pc]] W fun e w' => e = .returned (.int .i64 (takF (cvs (ls.take m)) (ls[m]).au (ls[m]).rd (bss (ls[m]).pl))) ∧ Below W.heap.size W w') := by
        show _ → ∀ W, _
        intro h W hW
        obtain ⟨y1, y2, y3, y4, _, _⟩ := headerF_ok (HHF.out h)
        have := takes_any (ls.take m) cx cy da dc qs (ls[m]).au (ls[m]).rd (ls[m]).ba (ls[m]).bl.length (ls[m]).bc (ls[m]).pl (ls[m]).pa (ls[m]).pc W (hstock.below hW) y4 y2 ((hct.below hW).hat.lp.parts)
        rw [hlen] at this
        exact this
      have HDG : Hid ((ls[m]).v.f = 0 → ∀ W : World, Below wr.heap.size wr W → Calls Tryd.prog 50 #[.agg #[.int .i64 (ls[m]).au, .int .i64 (ls[m]).rd, .slice (ls[m]).ba (ls[m]).bl.length (ls[m]).bc, .slice (ls[m]).pa (ls[m]).pl.length (ls[m]).pc]] W fun e w' => ∃ b, e = .returned (.tuple #[.slice (some ⟨b, 0, none⟩) 32 32, .int .i64 0]) ∧ W.heap.size ≤ b ∧ Below W.heap.size W w' ∧ SliceAt w' (some ⟨b, 0, none⟩) 32 (hDig (ls[m]).au (ls[m]).rd (ls[m]).bl (ls[m]).pl)) := by
        show _ → ∀ W, _
        intro h W hW
        exact headerDigest_hat (hct.below hW).hat (HHF.out h) (HT.out W (hAr.trans (hW.mono hAr.size)))
      clear hct hstock hlen hAt HHF
      have HD32 : Hid ((hDig (ls[m]).au (ls[m]).rd (ls[m]).bl (ls[m]).pl).length = 32) := hDig_length _ _ _ _
      generalize hsg : ls[m] = s at *
      clear hsg
      generalize takF (cvs (ls.take m)) s.au s.rd (bss s.pl) = T at *
      generalize s.v.f = x at *
      generalize hDig s.au s.rd s.bl s.pl = D at *
      have hA2 := (Below.refl wr.heap.size wr).alloc (Nat.le_refl _) (.cells #[.int .i64 s.au, .int .i64 s.rd, .slice s.ba s.bl.length s.bc, .slice s.pa s.pl.length s.pc, .slice s.va s.vl.length s.vc] 35)
      have q0 := heap_alloc_new wr (.cells #[.int .i64 s.au, .int .i64 s.rd, .slice s.ba s.bl.length s.bc, .slice s.pa s.pl.length s.pc, .slice s.va s.vl.length s.vc] 35)
      go_wp2_with fail
      generalize wr.alloc (.cells #[.int .i64 s.au, .int .i64 s.rd, .slice s.ba s.bl.length s.bc, .slice s.pa s.pl.length s.pc, .slice s.va s.vl.length s.vc] 35) = W2 at hA2 q0 ⊢
      refine (HCK.out W2 hA2).mono ?_
      rintro e w2 ⟨he, hb2⟩
      subst he
      dsimp only
      clear HCK c0 c1 c2 c3 c4
      have hA3 := hA2.trans (hb2.mono hA2.size)
      have z1 := (hA3.block _ (lt_of_heap s1)).trans s1
      have zf0 := frozen_at z1 0
      have zf1 := frozen_at z1 1
      have zc0 := cells_at z1 0 _ rfl
      have zc1 := cells_at z1 1 _ rfl
      have hAr3 := hAr.trans (hA3.mono hAr.size)
      by_cases hx : x = 0
      · have HTK' := HTK.out hx
        have HTQ : Hid _ := HTK'
        have hN' : Hid _ := hN.out hx
        have hBt' : Hid _ := hBt.out hx
        have HDG' : Hid _ := HDG.out hx
        subst hx
        clear HTK HTK' hBf hN hBt HDG
        have zb := (hA3.block _ hltS).trans hbox
        have zbc0 := cells_at zb 0 _ rfl
        have zbc1 := cells_at zb 1 _ rfl
        have p0 := (hb2.block _ (lt_of_heap q0)).trans q0
        have pc0 := cells_at p0 0 _ rfl
        have pc1 := cells_at p0 1 _ rfl
        have pc2 := cells_at p0 2 _ rfl
        have pc3 := cells_at p0 3 _ rfl
        go_wp2_with fail
        refine (HTQ.out w2 hA3).mono ?_
        rintro e w3 ⟨he, hb3⟩
        subst he
        dsimp only
        have hA4 := hA3.trans (hb3.mono hA3.size)
        have hAr4 := hAr.trans (hA4.mono hAr.size)
        clear HTQ zbc0 zbc1 pc0 pc1 pc2 pc3 zf0 zf1 zc0 zc1
        by_cases hy : T = 0
        · have HN : Hid _ := hN'.out hy
          clear hN' hBt'
          subst hy
          have p0 := (hb3.block _ (lt_of_heap p0)).trans p0
          have pc0 := cells_at p0 0 _ rfl
          have pc1 := cells_at p0 1 _ rfl
          have pc2 := cells_at p0 2 _ rfl
          have pc3 := cells_at p0 3 _ rfl
          go_wp2_with fail
          refine (HDG'.out w3 hA4).mono ?_
          rintro e w4 ⟨b, he, hge, hb4, hsD⟩
          subst he
          dsimp only
          clear HDG'
          have hA5 := hA4.trans (hb4.mono hA4.size)
          have hob := owns_keep ho hA5
          have zb := (hA5.block _ hltS).trans hbox
          have zbc1 : w4.cell? ⟨w1.heap.size, 1, none⟩ = some (.slice da m dc) := cells_at zb 1 _ rfl
          have zbf0 := frozen_at zb 0
          have zbf1 := frozen_at zb 1
          have zbc0 := cells_at zb 0 _ rfl
          have s0A := (hA5.block _ (lt_of_heap s0)).trans s0
          have dc0 : w4.cell? ⟨w.heap.size, 0, none⟩ = some (.slice (some ⟨sb, so, none⟩) ls.length cap) := cells_at s0A 0 _ rfl
          have hw4 : W0.heap.size ≤ w4.heap.size := Nat.le_trans hbr.size hA5.size
          have hwrap : IntKind.i64.wrap ((m : Int) + 1) = (m : Int) + 1 := by rw [IntKind.wrap_i64]; omega
          clear pc0 pc1 pc2 pc3 p0
          have s0d : w4.drew.heap[w.heap.size]? = some (.cells #[.slice (some ⟨sb, so, none⟩) ls.length cap] 24 (0, 0)) := s0A
          have zbd : w4.drew.heap[w1.heap.size]? = some (.cells #[.slice cx m cy, .slice da m dc] 56 (0, 0)) := zb
          have zbA : (w4.alloc (.cells #[.slice (some ⟨b, 0, none⟩) 32 32] 29)).drew.heap[w1.heap.size]? = some (.cells #[.slice cx m cy, .slice da m dc] 56 (0, 0)) := heap_keep zb
          have s0B : (w4.alloc (.cells #[.slice (some ⟨b, 0, none⟩) 32 32] 29)).drew.heap[w.heap.size]? = some (.cells #[.slice (some ⟨sb, so, none⟩) ls.length cap] 24 (0, 0)) := heap_keep s0A
          have zA0 := cells_at zbA 0 _ rfl
          have zA1 := cells_at zbA 1 _ rfl
          have sA0 := cells_at s0B 0 _ rfl
          have hm0 : (0 : Int) ≤ (m : Int) + 1 := by omega
          have hv0 : (Value.slice da m dc).ownBlock ≠ some w.heap.size := fun e => by have := (ho.lt _ e).1; omega
          have hbw : w1.heap.size < b := by have := hA4.size; omega
          have hblt : b < w4.heap.size := slice_block_lt hsD (by intro h; have := HD32.out; rw [h] at this; simp at this) b 0 rfl
          go_wp2_with fail
          go_region_law (refine step_append_at rfl _ _ 30 rfl W0.heap.size 29 i (.slice none 0 0) 1 24 Tryd.underlying30 hi hz0 hz1 hz2 rfl (by decide) _ m (pv qs) rfl (World.ownsRow.alloc hob.drew _) ⟨w4.heap.size, 0, none⟩ 1 1 [.slice (some ⟨b, 0, none⟩) 32 32] rfl rfl (cells_new _ _ _) (by intro u hu; simp at hu; subst hu; rfl) (by unfold maxLen; omega) (by omega) (le_alloc hw4 _) ?_; intro v5 w5 ho5 G5; obtain ⟨fa, fc, hvf⟩ := owns_shape ho5; subst hvf; have u0 := Grew.row G5 (heap_keep s0d) hv0; have uc0 := cells_at u0 0 _ rfl; have ub := Grew.row G5 (heap_keep zbd) hvS; have ubc0 := cells_at ub 0 _ rfl; have ubc1 := cells_at ub 1 _ rfl; have ubf0 := frozen_at ub 0; have ubf1 := frozen_at ub 1)
          all_goals
            go_wp2_with fail
            go_roundw
            case rel =>
              have hwd : Below wr.heap.size wr w4.drew := hA5.drew
              have hap5 := hap.more_at (q := ⟨some ⟨b, 0, none⟩, 32, D⟩) hbr.size ho hwd (fun sb so e => by cases e; exact ⟨Nat.le_trans hA4.size hge, hblt⟩) (hsD.below ((Below.refl _ _).drew)) G5
              have hps5 : ∀ p ∈ qs ++ [(⟨some ⟨b, 0, none⟩, 32, D⟩ : Part)], ∀ so, p.sa ≠ some ⟨w1.heap.size, so, none⟩ := fun p hp so e => by
                rcases List.mem_append.1 hp with hp | hp
                · exact HPS.out p hp so e
                · obtain rfl : p = ⟨some ⟨b, 0, none⟩, 32, D⟩ := by simpa using hp
                  cases e
                  omega
              have hvS5 : (Value.slice fa (m + 1) fc).ownBlock ≠ some w1.heap.size := fun e => by
                rcases G5.fresh _ e with g | g
                · exact hvS g
                · rw [heap_drew, size_alloc] at g
                  have := hA5.size
                  omega
              have hB5 : Below W0.heap.size W0 w5 := Below.grown ((hbr.trans (hwd.mono hbr.size)).alloc hw4 _) G5.grown (le_alloc hw4 _) (fun q e => (ho.lt q e).1)
              have hR : ∃ (m' : Nat) (cx' : Option Addr) (cy' : Nat) (v' : Value) (qs' : List Part), m' ≤ ls.length ∧ (Value.int .i64 ((m : Int) + 1)) = .int .i64 m' ∧ ((m' = 0 ∧ cx' = none ∧ cy' = 0) ∨ (cx' = some ⟨sb, so, none⟩ ∧ cy' = cap)) ∧ bss qs' = ((cvs ls).map CV.d).take m' ∧ (∀ j, j < m' → badC (cvs ls) j = false) ∧ ((w5.setCell ⟨w1.heap.size, 0, none⟩ (.slice (some ⟨sb, so, none⟩) (m + 1) cap)).setCell ⟨w1.heap.size, 1, none⟩ (.slice fa (m + 1) fc)).heap[w1.heap.size]? = some (.cells #[.slice cx' m' cy', v'] 56 (0, 0)) ∧ ((w5.setCell ⟨w1.heap.size, 0, none⟩ (.slice (some ⟨sb, so, none⟩) (m + 1) cap)).setCell ⟨w1.heap.size, 1, none⟩ (.slice fa (m + 1) fc)).ownsRow W0.heap.size 29 1 v' m' (pv qs') ∧ v'.ownBlock ≠ some w1.heap.size ∧ Apart ((w5.setCell ⟨w1.heap.size, 0, none⟩ (.slice (some ⟨sb, so, none⟩) (m + 1) cap)).setCell ⟨w1.heap.size, 1, none⟩ (.slice fa (m + 1) fc)) W0.heap.size v' qs' ∧ (∀ p ∈ qs', ∀ so, p.sa ≠ some ⟨w1.heap.size, so, none⟩) ∧ Below W0.heap.size W0 ((w5.setCell ⟨w1.heap.size, 0, none⟩ (.slice (some ⟨sb, so, none⟩) (m + 1) cap)).setCell ⟨w1.heap.size, 1, none⟩ (.slice fa (m + 1) fc)) :=
                ⟨m + 1, some ⟨sb, so, none⟩, cap, .slice fa (m + 1) fc, qs ++ [⟨some ⟨b, 0, none⟩, 32, D⟩], by omega, by go_num, .inr ⟨rfl, rfl⟩, by rw [hst.out, ← HS.out]; simp [bss], HN.out, by simpa using heap_setCell_same _ _ 1 _ _ (.slice fa (m + 1) fc) (heap_setCell_same _ _ 0 _ _ (.slice (some ⟨sb, so, none⟩) (m + 1) cap) ub), owns_else (owns_else (by simpa [pv, Part.val, HD32.out] using ho5) _ _ _ hvS5) _ _ _ hvS5, hvS5, (hap5.other _ _ _ hps5).other _ _ _ hps5, hps5, (hB5.setCell (Nat.le_of_lt h1lt) _).setCell (Nat.le_of_lt h1lt) _⟩
              first | exact hR | ((repeat apply Exists.intro); exact ⟨hR, rfl⟩)
            case measure => simp [intOf]; omega
        · have h12 : Hid (dagF (cvs ls) = 12) := hBt'.out hy
          clear hN' hBt'
          have hyn : (T != 0) = true := by simpa using hy
          have z1 := (hb3.block _ (lt_of_heap z1)).trans z1
          have zf0 := frozen_at z1 0
          have zf1 := frozen_at z1 1
          have zc0 := cells_at z1 0 _ rfl
          have zc1 := cells_at z1 1 _ rfl
          go_wp2_with fail
          refine bodyPost_ret (v := .tuple #[.agg #[.slice none 0 0, .slice none 0 0], .int .i64 12]) (by simp [results, Tryd.results28, go_sem, zc0, zc1]) rfl ⟨.inl ⟨h12.out, rfl⟩, (hAr4.setCell (Nat.le_succ _) _).setCell (Nat.le_succ _) _⟩
      · have h12 : Hid (dagF (cvs ls) = 12) := hBf.out hx
        clear hBf hBt hN HTK HDG
        have hxn : (x != 0) = true := by simpa using hx
        go_wp2_with fail
        refine bodyPost_ret (v := .tuple #[.agg #[.slice none 0 0, .slice none 0 0], .int .i64 12]) (by simp [results, Tryd.results28, go_sem, zc0, zc1]) rfl ⟨.inl ⟨h12.out, rfl⟩, (hAr3.setCell (Nat.le_succ _) _).setCell (Nat.le_succ _) _⟩
    · obtain rfl : m = ls.length := by omega
      have hF : Hid (dagF (cvs ls) = 0) := dagF_ok _ (by rw [cvs_length]; omega) (fun k hk => HNO.out k (by rw [cvs_length] at hk; exact hk))
      clear HNO
      have zbc0 := cells_at hbox 0 _ rfl
      have zbc1 := cells_at hbox 1 _ rfl
      have zf0 := frozen_at s1 0
      have zf1 := frozen_at s1 1
      have zc0 := cells_at s1 0 _ rfl
      have zc1 := cells_at s1 1 _ rfl
      obtain ⟨ra, rc, hv, hl, hL, hfr⟩ := listAt_of_owns ho hap
      cases hv
      clear hl
      have hX := (hAr.setCell (p := ⟨w.heap.size + 1, 0, none⟩) (Nat.le_succ _) (.slice cx ls.length cy)).setCell (p := ⟨w.heap.size + 1, 1, none⟩) (Nat.le_succ _) (.slice da ls.length dc)
      have hLL := ((hL (by omega)).setCell hfr (w.heap.size + 1) 0 (.slice cx ls.length cy) hlt1).setCell hfr (w.heap.size + 1) 1 (.slice da ls.length dc) hlt1
      have hSS : Hid (bss qs = (cvs ls).map CV.d) := by
        show _ = _
        rw [HS.out, List.take_of_length_le (by simp [cvs])]
      go_wp2_with fail
      refine bodyPost_ret (v := .tuple #[.agg #[.slice cx ls.length cy, .slice da ls.length dc], .int .i64 0]) (by simp [results, Tryd.results28, go_sem, zc0, zc1]) rfl ⟨.inr ⟨hF.out, cx, cy, da, dc, qs, rfl, ⟨?_, hLL, hSS.out, by omega, ?_, ?_⟩⟩, hX⟩
      · rcases HXY.out with ⟨h, _, _⟩ | ⟨h, _⟩
        · exact ⟨.inl (List.eq_nil_of_length_eq_zero h)⟩
        · subst h; exact HC.out _ hX
      · rcases HXY.out with ⟨h, _, h3⟩ | ⟨_, h⟩
        · rw [h3, h]; exact Nat.le_refl _
        · rw [h]; exact hle
      · rcases HXY.out with ⟨_, _, h3⟩ | ⟨_, h⟩
        · rw [h3]; decide
        · rw [h]; exact hmx
end Go.Proofs.YtbehmcflllleaaaDoor

namespace Go.Proofs.YtbehmcflllleaaaDoor
open Go.RowKit

/-- The digests of a round, of the first authors. -/
def dgTo (l : List CV) (rd : Int) : Nat → List (List Int)
  | 0 => []
  | n + 1 => if 0 ≤ cOf l n rd then dgTo l rd n ++ [(cvAt l (cOf l n rd).toNat).d] else dgTo l rd n
/-- P5.6 -/
def dgF (l : List CV) (rd : Int) : List (List Int) := dgTo l rd 4
set_option maxRecDepth 100000 in
theorem dgTo_length (l : List CV) (rd : Int) (n : Nat) : (dgTo l rd n).length ≤ n := by
  induction n with
  | zero => simp [dgTo]
  | succ n ih =>
    rw [dgTo]
    split
    · simp; omega
    · omega
set_option maxRecDepth 100000 in
theorem dgTo_some (l : List CV) (rd : Int) (n : Nat) (h : 0 < (dgTo l rd n).length) : ∃ j, j < l.length ∧ (cvAt l j).rd = rd := by
  induction n with
  | zero => simp [dgTo] at h
  | succ n ih =>
    by_cases g : 0 ≤ cOf l n rd
    · have hy := fidx_yes (cHit l n rd) l.length g
      have hb := cOf_bounds l n rd
      refine ⟨(cOf l n rd).toNat, by omega, ?_⟩
      simp only [cHit, decide_eq_true_eq] at hy
      exact hy.2
    · rw [dgTo, if_neg g] at h
      exact ih h
/-- How many are of that round or behind it. -/
def cnt (l : List CV) (r : Int) : Nat := (l.filter fun c => decide (r ≤ c.rd)).length
set_option maxRecDepth 100000 in
theorem cnt_le (l : List CV) (r : Int) : cnt l (r + 1) ≤ cnt l r := by
  induction l with
  | nil => simp [cnt]
  | cons c l ih =>
    simp only [cnt, List.filter_cons] at ih ⊢
    by_cases h1 : r + 1 ≤ c.rd
    · have h2 : r ≤ c.rd := by omega
      simp [h1, h2]; exact ih
    · by_cases h2 : r ≤ c.rd
      · simp [h1, h2]; omega
      · simp [h1, h2]; exact ih
set_option maxRecDepth 100000 in
theorem cnt_lt (l : List CV) (r : Int) (h : ∃ j, j < l.length ∧ (cvAt l j).rd = r) : cnt l (r + 1) < cnt l r := by
  induction l with
  | nil => obtain ⟨j, hj, _⟩ := h; simp at hj
  | cons c l ih =>
    by_cases hc : c.rd = r
    · have := cnt_le l r
      have h1 : ¬ r + 1 ≤ c.rd := by omega
      have h2 : r ≤ c.rd := by omega
      simp only [cnt, List.filter_cons] at this ⊢
      simp [h1, h2]; omega
    · obtain ⟨j, hj, e⟩ := h
      have hi : cnt l (r + 1) < cnt l r := by
        apply ih
        cases j with
        | zero => exact absurd (by simpa [cvAt] using e) hc
        | succ j => exact ⟨j, by simpa using hj, by simpa [cvAt] using e⟩
      simp only [cnt, List.filter_cons] at hi ⊢
      by_cases h1 : r + 1 ≤ c.rd
      · have h2 : r ≤ c.rd := by omega
        simp [h1, h2]; exact hi
      · by_cases h2 : r ≤ c.rd
        · omega
        · simp [h1, h2]; exact hi
/-- P5.5 -/
def NextR (l : List CV) (r : Int) : Prop := 1 ≤ r ∧ (∀ k : Int, 1 ≤ k → k < r → 3 ≤ (dgF l k).length) ∧ (dgF l r).length < 3
set_option maxRecDepth 100000 in
theorem NextR.one {l : List CV} {r s : Int} (h : NextR l r) (g : NextR l s) : r = s := by
  obtain ⟨h1, h2, h3⟩ := h
  obtain ⟨g1, g2, g3⟩ := g
  rcases Int.lt_trichotomy r s with q | q | q
  · have := g2 r h1 q; omega
  · exact q
  · have := h2 s g1 q; omega
set_option maxRecDepth 100000 in
theorem f_round {c : CV} (h : c.f = 0) : 1 ≤ c.rd ∧ c.rd ≤ 1048576 := (headerF_ok (certF_head (vl := c.vl) h)).2.1
set_option maxRecDepth 100000 in
theorem dagF_f {l : List CV} (h : dagF l = 0) (j : Nat) (hj : j < l.length) : (cvAt l j).f = 0 := badC_f l j ((dagF_zero h).2 j hj)
end Go.Proofs.YtbehmcflllleaaaDoor

namespace Go.Proofs.YtbehmcflllleaaaDoor
open Go.RowKit

set_option maxRecDepth 100000 in
set_option maxHeartbeats 1000000 in
theorem digestsOfC_any (ls : List Ct) (ca : Option Addr) (cc : Nat) (da : Option Addr) (dc : Nat) (ds : List Part) (rd : Int) (w : World) (hs : StockAt w ca cc ls da dc ds) :
    Calls Tryd.prog 47 #[.agg #[.slice ca ls.length cc, .slice da ls.length dc], .int .i64 rd] w fun e w' => ∃ ma mc ms, e = .returned (.slice ma (List.length ms) mc) ∧ bss ms = dgF (cvs ls) rd ∧ ListAt w' ma mc ms ∧ (∀ p ∈ ms, p ∈ ds) ∧ Below w.heap.size w w' := by
  have hA : Below w.heap.size w (w.alloc (.cells #[.slice ca ls.length cc, .slice da ls.length dc] 56)) := (Below.refl _ _).alloc (Nat.le_refl _) _
  have r0 := heap_alloc_new w (.cells #[.slice ca ls.length cc, .slice da ls.length dc] 56)
  obtain ⟨i, hi, hz0, hz1, hz2⟩ := info_parts infoBs
  have hsm := hs.small
  have HL : Hid (ds.length = ls.length) := hs.len
  have HSM : Hid (bss ds = (cvs ls).map CV.d) := hs.same
  go_enter Tryd.func47, Tryd.ntmps47
  go_wp2_with fail
  generalize w.alloc (.cells #[.slice ca ls.length cc, .slice da ls.length dc] 56) = W0 at hA r0 ⊢
  have hlt0 : w.heap.size < W0.heap.size := lt_of_heap r0
  go_loopw [8, 5] (fun j v wr => ∃ (m : Nat) (ms : List Part), m ≤ 4 ∧ j = .int .i64 m ∧ bss ms = dgTo (cvs ls) rd m ∧ (∀ p ∈ ms, p ∈ ds) ∧ wr.ownsRow W0.heap.size 29 1 v ms.length (pv ms) ∧ Below W0.heap.size W0 wr) (fun j _ _ => 4 - (intOf j).toNat)
  case atStart => exact ⟨0, [], Nat.zero_le _, rfl, rfl, (fun p hp => by cases hp), World.ownsRow_nil _ _ _ _, Below.refl _ _⟩
  case round =>
    obtain ⟨m, ms, hm, rfl, hS, hin, ho, hbr⟩ := hrel
    have hAr := hA.trans (hbr.mono hA.size)
    have s0 := (hbr.block _ hlt0).trans r0
    have b0 : wr.cell? ⟨w.heap.size, 0, none⟩ = some (.slice ca ls.length cc) := cells_at s0 0 _ rfl
    have b1 : wr.cell? ⟨w.heap.size, 1, none⟩ = some (.slice da ls.length dc) := cells_at s0 1 _ rfl
    have hsr := hs.below hAr
    have hml : ms.length ≤ m := by
      have := congrArg List.length hS
      rw [bss_length] at this
      rw [this]; exact dgTo_length _ _ _
    by_cases hlt : m < 4
    · have hltI : (m : Int) < 4 := by omega
      have Hy : Hid (0 ≤ cOf (cvs ls) m rd → dgTo (cvs ls) rd (m + 1) = bss ms ++ [(cvAt (cvs ls) (cOf (cvs ls) m rd).toNat).d]) := by
        show _ → _
        intro h
        rw [dgTo, if_pos h, hS]
      have Hn : Hid (¬ 0 ≤ cOf (cvs ls) m rd → bss ms = dgTo (cvs ls) rd (m + 1)) := by
        show _ → _
        intro h
        rw [dgTo, if_neg h, hS]
      have HIN : Hid (∀ p ∈ ms, p ∈ ds) := hin
      have hB := cOf_bounds (cvs ls) m rd
      rw [cvs_length] at hB
      clear hS hin
      go_wp2_with fail
      refine (of_any ls ca _ cc da _ dc ds m rd wr rfl hsr).mono ?_
      rintro e w1 ⟨he, hb1⟩
      subst he
      dsimp only
      have hB1 := hbr.trans (hb1.mono hbr.size)
      have hob := owns_keep ho hb1
      have t1 := (hb1.cell (p := ⟨w.heap.size, 1, none⟩) (block_lt_of_cell b1)).trans b1
      have hs1 := hsr.below hb1
      generalize cOf (cvs ls) m rd = r at *
      by_cases hr : 0 ≤ r
      · obtain ⟨k, rfl⟩ : ∃ k : Nat, r = k := ⟨r.toNat, by omega⟩
        have hkd : k < ds.length := by rw [HL.out]; omega
        have hkI : (k : Int) < ls.length := by omega
        have HX := Hy.out hr
        rw [Int.toNat_natCast, digs_get HSM.out k hkd] at HX
        have HY : Hid (dgTo (cvs ls) rd (m + 1) = bss ms ++ [(ds[k]).bs]) := HX
        clear Hy Hn HX
        have hmem : Hid (ds[k] ∈ ds) := List.getElem_mem hkd
        rcases hs1.digs.parts.cells with hcc | ⟨db, dof, rfl, hcc⟩
        · rw [hcc] at hkd; simp at hkd
        have ck := hcc k hkd
        clear hcc hs1 hsr hs
        generalize ds[k] = p at *
        go_wp2_with (at_builtin; refine wpList_append_own_at _ rfl _ _ 30 rfl W0.heap.size 29 i (.slice none 0 0) 1 24 Tryd.underlying30 hi hz0 hz1 hz2 rfl (by decide) _ ms.length _ rfl (World.ownsRow.alloc hob _) ⟨w1.heap.size, 0, none⟩ 1 1 [.slice p.sa p.bs.length p.cap] rfl rfl (cells_new _ _ _) (by intro u hu; simp at hu; subst hu; rfl) (by unfold maxLen; omega) (by omega) (le_alloc hB1.size _) ?_; intro v1 w3 ho3 hg3 _ hat)
        have hB3 := Below.grown (hB1.alloc hB1.size _) hg3 (le_alloc hB1.size _) (fun q e => (hob.lt q e).1)
        go_roundw
        case rel =>
          have hR : ∃ (m' : Nat) (ms' : List Part), m' ≤ 4 ∧ (Value.int .i64 ((m : Int) + 1)) = .int .i64 m' ∧ bss ms' = dgTo (cvs ls) rd m' ∧ (∀ p ∈ ms', p ∈ ds) ∧ w3.ownsRow W0.heap.size 29 1 v1 ms'.length (pv ms') ∧ Below W0.heap.size W0 w3 :=
            ⟨m + 1, ms ++ [p], by omega, by go_num, by rw [HY.out]; simp [bss], (fun q hq => by
              rcases List.mem_append.1 hq with hq | hq
              · exact HIN.out q hq
              · obtain rfl : q = p := by simpa using hq
                exact hmem.out), by simpa [pv, Part.val] using ho3, hB3⟩
          first | exact hR | ((repeat apply Exists.intro); exact ⟨hR, rfl⟩)
        case measure => simp [intOf]; omega
      · have HY : Hid (bss ms = dgTo (cvs ls) rd (m + 1)) := Hn.out (by omega)
        obtain rfl : r = -1 := by omega
        clear Hy Hn
        go_wp2_with fail
        go_roundw
        case rel =>
          have hR : ∃ (m' : Nat) (ms' : List Part), m' ≤ 4 ∧ (Value.int .i64 ((m : Int) + 1)) = .int .i64 m' ∧ bss ms' = dgTo (cvs ls) rd m' ∧ (∀ p ∈ ms', p ∈ ds) ∧ w1.ownsRow W0.heap.size 29 1 u5 ms'.length (pv ms') ∧ Below W0.heap.size W0 w1 :=
            ⟨m + 1, ms, by omega, by go_num, HY.out, HIN.out, hob, hB1⟩
          first | exact hR | ((repeat apply Exists.intro); exact ⟨hR, rfl⟩)
        case measure => simp [intOf]; omega
    · obtain rfl : m = 4 := by omega
      have HM : Hid (bss ms = dgF (cvs ls) rd) := hS
      clear hS
      obtain ⟨ra, rc, hv, hl, hL, hfr⟩ := list_of_owns ho (fun p hq => (hs.digs.parts.each p (hin p hq)).below hAr) (by omega)
      subst hv
      have HIN : Hid (∀ p ∈ ms, p ∈ ds) := hin
      clear hin
      go_wp2_with fail
      go_ret
      exact ⟨ra, rc, ms, rfl, HM.out, hL, HIN.out, hAr⟩
end Go.Proofs.YtbehmcflllleaaaDoor

namespace Go.Proofs.YtbehmcflllleaaaDoor
open Go.RowKit

set_option maxRecDepth 100000 in
set_option maxHeartbeats 1000000 in
theorem digestsAt_any (ls : List Ct) (sa : Option Addr) (cap : Nat) (rd : Int) (w : World) (hl4 : ls.length ≤ 400) (hc : CertsAt w sa ls) (he : ∀ c ∈ ls, CtRd w c) (hf : ∀ c ∈ ls, c.v.f = 0) :
    Calls Tryd.prog 49 #[.agg #[.slice sa ls.length cap], .int .i64 rd] w fun e w' => ∃ ra rc qs, e = .returned (.slice ra (List.length qs) rc) ∧ bss qs = dgF (cvs ls) rd ∧ ListAt w' ra rc qs ∧ Below w.heap.size w w' := by
  obtain ⟨i, hi, hz0, hz1, hz2⟩ := info_parts infoBs
  have HE : Hid (∀ c ∈ ls, CtRd w c) := he
  have HF : Hid (∀ c ∈ ls, c.v.f = 0) := hf
  clear he hf
  have hA : Below w.heap.size w (w.alloc (.cells #[.slice sa ls.length cap] 24)) := (Below.refl _ _).alloc (Nat.le_refl _) _
  have r0 := heap_alloc_new w (.cells #[.slice sa ls.length cap] 24)
  go_enter Tryd.func49, Tryd.ntmps49
  go_wp2_with fail
  generalize w.alloc (.cells #[.slice sa ls.length cap] 24) = W0 at hA r0 ⊢
  have hlt0 : w.heap.size < W0.heap.size := lt_of_heap r0
  go_loopw [6, 5] (fun j v wr => ∃ (m : Nat) (qs : List Part), m ≤ 4 ∧ j = .int .i64 m ∧ bss qs = dgTo (cvs ls) rd m ∧ wr.ownsRow W0.heap.size 29 1 v qs.length (pv qs) ∧ Apart wr W0.heap.size v qs ∧ Below W0.heap.size W0 wr) (fun j _ _ => 4 - (intOf j).toNat)
  case atStart => exact ⟨0, [], Nat.zero_le _, rfl, rfl, World.ownsRow_nil _ _ _ _, (fun p hp => by cases hp), Below.refl _ _⟩
  case round =>
    obtain ⟨m, qs, hm, rfl, hS, ho, hap, hb⟩ := hrel
    have hAr := hA.trans (hb.mono hA.size)
    have s0 := (hb.block _ hlt0).trans r0
    have b0 : wr.cell? ⟨w.heap.size, 0, none⟩ = some (.slice sa ls.length cap) := cells_at s0 0 _ rfl
    have hml : qs.length ≤ m := by
      have := congrArg List.length hS
      rw [bss_length] at this
      rw [this]; exact dgTo_length _ _ _
    by_cases hlt : m < 4
    · have hltI : (m : Int) < 4 := by omega
      have Hy : Hid (0 ≤ cOf (cvs ls) m rd → dgTo (cvs ls) rd (m + 1) = bss qs ++ [(cvAt (cvs ls) (cOf (cvs ls) m rd).toNat).d]) := by
        show _ → _
        intro h
        rw [dgTo, if_pos h, hS]
      have Hn : Hid (¬ 0 ≤ cOf (cvs ls) m rd → bss qs = dgTo (cvs ls) rd (m + 1)) := by
        show _ → _
        intro h
        rw [dgTo, if_neg h, hS]
      have hB := cOf_bounds (cvs ls) m rd
      rw [cvs_length] at hB
      clear hS
      go_wp2_with fail
      refine (certOf_any ls sa _ cap m rd wr rfl (by omega) (hc.below hAr)).mono ?_
      rintro e w1 ⟨he, rfl⟩
      subst he
      dsimp only
      generalize cOf (cvs ls) m rd = r at *
      by_cases hr : 0 ≤ r
      · obtain ⟨k, rfl⟩ : ∃ k : Nat, r = k := ⟨r.toNat, by omega⟩
        have hk : k < ls.length := by omega
        have hkI : (k : Int) < ls.length := by omega
        have HX := Hy.out hr
        rw [Int.toNat_natCast, cvAt_get ls k hk, ← Ct.d_v] at HX
        have HY : Hid (dgTo (cvs ls) rd (m + 1) = bss qs ++ [tagD 2 (headB (ls[k]).au (ls[k]).rd (ls[k]).bl (ls[k]).pl)]) := HX
        clear Hy Hn HX
        obtain ⟨sb, so, rfl, c0, c1, c2, c3, _⟩ := (hc.below hAr).at k hk
        have hR := (HE.out (ls[k]) (List.getElem_mem hk)).below hAr
        have hF0 := HF.out (ls[k]) (List.getElem_mem hk)
        have hH : headerF (ls[k]).au (ls[k]).rd (ls[k]).bl (ls[k]).pl = 0 := certF_head (vl := (ls[k]).vl) (by rw [Ct.f_v]; exact hF0)
        clear hF0
        generalize ls[k] = s at *
        have HD := rHeaderDigest_new s.au s.rd s.ba _ s.bc s.bl s.pa _ s.pc s.pl wr rfl rfl hR.rb.list hR.rp.list hR.ub hR.up hH
        clear hR hH
        go_wp2_with fail
        refine HD.mono ?_
        rintro e w2 ⟨g, gc, he, hs2, hb2, hge⟩
        subst he
        dsimp only
        have h32 : (tagD 2 (headB s.au s.rd s.bl s.pl)).length = 32 := tagD_length _ _
        have hob := owns_keep ho hb2
        have hB2 := hb.trans (hb2.mono hb.size)
        have hlt2 : g < w2.heap.size := slice_block_lt hs2 (by intro h; rw [h] at h32; simp at h32) g 0 rfl
        clear HD
        generalize tagD 2 (headB s.au s.rd s.bl s.pl) = D at *
        have H32 : Hid (D.length = 32) := h32
        clear h32
        go_wp2_with (at_builtin; refine wpList_append_own_at _ rfl _ _ 30 rfl W0.heap.size 29 i (.slice none 0 0) 1 24 Tryd.underlying30 hi hz0 hz1 hz2 rfl (by decide) _ qs.length _ rfl (World.ownsRow.alloc hob _) ⟨w2.heap.size, 0, none⟩ 1 1 [.slice (some ⟨g, 0, none⟩) 32 gc] rfl rfl (cells_new _ _ _) (by intro u hu; simp at hu; subst hu; rfl) (by unfold maxLen; omega) (by omega) (le_alloc hB2.size _) ?_; intro v1 w3 ho3 hg3 _ hat)
        have G := Grew.of hg3 hat
        have hap3 := hap.more_at (q := ⟨some ⟨g, 0, none⟩, gc, D⟩) hb.size ho hb2 (fun sb so e => by cases e; exact ⟨hge, hlt2⟩) hs2 G
        have hB3 := Below.grown (hB2.alloc hB2.size _) hg3 (le_alloc hB2.size _) (fun q e => (hob.lt q e).1)
        go_roundw
        case rel =>
          have hR : ∃ (m' : Nat) (qs' : List Part), m' ≤ 4 ∧ (Value.int .i64 ((m : Int) + 1)) = .int .i64 m' ∧ bss qs' = dgTo (cvs ls) rd m' ∧ w3.ownsRow W0.heap.size 29 1 v1 qs'.length (pv qs') ∧ Apart w3 W0.heap.size v1 qs' ∧ Below W0.heap.size W0 w3 :=
            ⟨m + 1, qs ++ [⟨some ⟨g, 0, none⟩, gc, D⟩], by omega, by go_num, by rw [HY.out]; simp [bss], by simpa [pv, Part.val, H32.out] using ho3, hap3, hB3⟩
          first | exact hR | ((repeat apply Exists.intro); exact ⟨hR, rfl⟩)
        case measure => simp [intOf]; omega
      · have HY : Hid (bss qs = dgTo (cvs ls) rd (m + 1)) := Hn.out (by omega)
        obtain rfl : r = -1 := by omega
        clear Hy Hn
        go_wp2_with fail
        go_roundw
        case rel =>
          have hR : ∃ (m' : Nat) (qs' : List Part), m' ≤ 4 ∧ (Value.int .i64 ((m : Int) + 1)) = .int .i64 m' ∧ bss qs' = dgTo (cvs ls) rd m' ∧ wr.ownsRow W0.heap.size 29 1 u5 qs'.length (pv qs') ∧ Apart wr W0.heap.size u5 qs' ∧ Below W0.heap.size W0 wr :=
            ⟨m + 1, qs, by omega, by go_num, HY.out, ho, hap, hb⟩
          first | exact hR | ((repeat apply Exists.intro); exact ⟨hR, rfl⟩)
        case measure => simp [intOf]; omega
    · obtain rfl : m = 4 := by omega
      have HM : Hid (bss qs = dgF (cvs ls) rd) := hS
      clear hS
      obtain ⟨ra, rc, hv, hl, hL, hfr⟩ := listAt_of_owns ho hap
      subst hv
      have hLL := hL (by omega)
      go_wp2_with fail
      go_ret
      exact ⟨ra, rc, qs, rfl, HM.out, hLL, hAr⟩
end Go.Proofs.YtbehmcflllleaaaDoor
