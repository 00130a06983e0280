/- sheaveskeep.digestsOf and at. -/
import Derived.Test.YtbmodfegcmaieaaDoorGKDag0
import Derived.Test.YtbmodfegcmaieaaDoorGGrowG
namespace Go.Proofs.YtbmodfegcmaieaaDoor
open Go.RowKit

/-- What digestsOf answers. -/
structure DgsIs (w w' : World) (e : Ending) (l : List CV) : Prop where
  below : Below w.heap.size w w'
  out : ∃ ra rc ds, e = .returned (.slice ra (List.length ds) rc) ∧ bss ds = l.map CV.d ∧ ListAt w' ra rc ds ∧ Fresh w.heap.size ra ds
set_option maxRecDepth 100000 in
set_option maxHeartbeats 1000000 in
theorem digestsOf_any (ks : List Ct) (ka : Option Addr) (n kc : Nat) (w : World) (hn : n = ks.length) (hle : ks.length ≤ 1000) (hd : DagAt w ka kc ks) (hH : ∀ c ∈ ks, headerF c.au c.rd c.bl c.pl = 0) (hT : Tabs w) :
    Calls Tryd.prog 34 #[.agg #[.slice ka n kc]] w fun e w' => DgsIs w w' e (cvs ks) := by
  subst hn
  have hA : Below w.heap.size w (w.alloc (.cells #[.slice ka ks.length kc] 51)) := (Below.refl _ _).alloc (Nat.le_refl _) _
  have r1 := heap_alloc_new w (.cells #[.slice ka ks.length kc] 51)
  obtain ⟨i, hi, hz0, hz1, hz2⟩ := info_parts infoBs
  have HH : Hid _ := hH
  have HT : Hid (∀ W : World, Below w.heap.size w W → Tabs W) := by
    show ∀ W, _
    exact fun W hW => hT.below hW
  clear hH hT
  go_enter Tryd.func34, Tryd.ntmps34
  go_wp2_with fail
  generalize w.alloc (.cells #[.slice ka ks.length kc] 51) = W0 at hA r1 ⊢
  have hlt1 : w.heap.size < W0.heap.size := lt_of_heap r1
  go_loopw [4, 3] (fun j v wr => ∃ (m : Nat) (ms : List Part), m ≤ ks.length ∧ j = .int .i64 m ∧ ms.length = m ∧ Hid (bss ms = (cvs (ks.take m)).map CV.d) ∧ Apart wr W0.heap.size v ms ∧ wr.ownsRow W0.heap.size 46 1 v m (pv ms) ∧ Below W0.heap.size W0 wr) (fun j _ _ => ks.length - (intOf j).toNat)
  case atStart => exact ⟨0, [], Nat.zero_le _, rfl, rfl, (show _ = _ from rfl), (fun p hp => by cases hp), World.ownsRow_nil _ _ _ _, Below.refl _ _⟩
  case round =>
    obtain ⟨m, ms, hm, rfl, hml, HS, hap, ho, hbr⟩ := hrel
    have HML : Hid _ := hml
    clear hml
    have hAr := hA.trans (hbr.mono hA.size)
    have s1 := (hbr.block _ hlt1).trans r1
    have d0 := cells_at s1 0 _ rfl
    by_cases hlt : m < ks.length
    · have hltI : (m : Int) < ks.length := by omega
      have hdr := hd.below hAr
      obtain ⟨kb, ko, rfl, hcc⟩ : ∃ kb ko, ka = some ⟨kb, ko, none⟩ ∧ _ := by
        rcases hdr.certs.cells with h | h
        · rw [h] at hlt; simp at hlt
        · exact h
      obtain ⟨c0, c1, c2, c3, c4⟩ := hcc m hlt
      have hCt := hdr.each (ks[m]) (List.getElem_mem hlt)
      have HF : Hid (headerF (ks[m]).au (ks[m]).rd (ks[m]).bl (ks[m]).pl = 0) := HH.out _ (List.getElem_mem hlt)
      have HST : Hid (bss ms ++ [hDig (ks[m]).au (ks[m]).rd (ks[m]).bl (ks[m]).pl] = (cvs (ks.take (m + 1))).map CV.d) := by
        show _ = _
        rw [HS.out, List.take_succ_eq_append_getElem hlt, cvs, cvs, List.map_append, List.map_append]
        simp [Ct.d_v]
      clear hcc HS
      generalize ks[m] = c at c0 c1 c2 c3 c4 hCt HF HST
      go_wp2_with fail
      refine (headerDigest_hat hCt.hat HF.out (HT.out wr hAr)).mono ?_
      rintro e w2 ⟨b, he, hg, hb2, hs2⟩
      subst he
      dsimp only
      have hB2 := hbr.trans (hb2.mono hbr.size)
      have hob := owns_keep ho hb2
      clear c0 c1 c2 c3 c4
      go_wp2_with (at_builtin; refine wpList_append_own_at _ rfl _ _ 44 rfl W0.heap.size 46 i (.slice none 0 0) 1 24 Tryd.underlying44 hi hz0 hz1 hz2 rfl (by decide) _ m _ rfl (World.ownsRow.alloc hob _) ⟨w2.heap.size, 0, none⟩ 1 1 [.slice (some ⟨b, 0, none⟩) 32 32] rfl rfl (cells_new _ _ _) (by intro u hu; simp at hu; subst hu; rfl) (by unfold maxLen; omega) (by omega) (le_alloc hB2.size _) ?_; intro v1 w3 ho3 hg3 _ hat)
      have G := Grew.of hg3 hat
      have hap3 := hap.more_at (q := ⟨some ⟨b, 0, none⟩, 32, hDig c.au c.rd c.bl c.pl⟩) hbr.size ho hb2 (fun sb so e => by cases e; exact ⟨hg, slice_block_lt hs2 (by intro h; have := congrArg List.length h; rw [hDig_length] at this; cases this) b 0 rfl⟩) hs2 G
      have hB3 := Below.grown (hB2.alloc hB2.size _) hg3 (le_alloc hB2.size _) (fun q e => (hob.lt q e).1)
      go_roundw
      case rel =>
        refine ⟨m + 1, ms ++ [⟨some ⟨b, 0, none⟩, 32, hDig c.au c.rd c.bl c.pl⟩], by omega, by go_num, by simp [HML.out], ?_, hap3, by simpa [pv, Part.val, hDig_length] using ho3, hB3⟩
        show _ = _
        rw [← HST.out]; simp [bss]
      case measure => simp [intOf]; omega
    · obtain rfl : m = ks.length := by omega
      have HM : Hid (bss ms = (cvs ks).map CV.d) := by
        show _ = _
        rw [HS.out, List.take_length]
      obtain ⟨ra, rc, hv, hl, hL, hfr⟩ := listAt_of_owns ho hap
      subst hv
      clear HS
      go_wp2_with fail
      go_ret
      exact ⟨hAr, ra, rc, ms, (by rw [HML.out]; rfl), HM.out, hL (by omega), ⟨fun sb so e => Nat.le_trans hA.size (hfr.row sb so e), fun p hp sb so e => Nat.le_trans hA.size (hfr.each p hp sb so e)⟩⟩
set_option maxRecDepth 100000 in
/-- sheaveskeep.same, for all bytes. -/
theorem same_tx (xs ys : List Int) (sa sb : Option Addr) (n m c d : Nat) (w : World) (hn : n = xs.length) (hm : m = ys.length) (ha : SliceAt w sa c xs) (hb : SliceAt w sb d ys) :
    Calls Tryd.prog 37 #[.slice sa n c, .slice sb m d] w fun e w' => e = .returned (.bool (decide (txL xs = txL ys))) ∧ w = w' := by
  have h1 := run_text w sa n c xs hn ha
  have h2 := run_text w sb m d ys hm hb
  have hF : Hid (((bstr xs).toList == (bstr ys).toList) = decide (txL xs = txL ys)) := by
    show _ = _
    rw [txL, txL]
    by_cases h : (bstr xs).toList = (bstr ys).toList
    · rw [decide_eq_true h, h]; simp
    · rw [decide_eq_false h]; simpa using h
  clear hn hm ha hb
  generalize decide (txL xs = txL ys) = D at *
  generalize bstr xs = A at *
  generalize bstr ys = B at *
  go_enter Tryd.func37, Tryd.ntmps37
  go_wp2_with fail
  go_ret
  exact ⟨ret_bool (by rw [← hF.out]), rfl⟩
/-- The place of a digest; -1: it is not there. -/
def atF (ls : List (List Int)) (d : List Int) : Int := fidx (fun j => decide (txL (ls.getD j []) = txL d)) ls.length
set_option maxRecDepth 100000 in
theorem atF_pOf (l : List CV) (d : List Int) : atF (l.map CV.d) d = pOf l d := by
  rw [atF, pOf, List.length_map]
  refine fidx_congr _ _ _ (fun j hj => ?_)
  simp [dHit, cvAt, hj]
set_option maxRecDepth 100000 in
set_option maxHeartbeats 1000000 in
theorem at_any (ls : List Part) (la : Option Addr) (n lc : Nat) (bs : List Int) (da : Option Addr) (m dc : Nat) (w : World) (hn : n = ls.length) (hm : m = bs.length) (hl : ListAt w la lc ls) (hs : SliceAt w da dc bs) :
    Calls Tryd.prog 39 #[.slice la n lc, .slice da m dc] w fun e w' => e = .returned (.int .i64 (atF (bss ls) bs)) ∧ w = w' := by
  subst hn
  have HM : Hid _ := hm
  clear hm
  have hle := hl.small
  go_enter Tryd.func39, Tryd.ntmps39
  go_wp2_with fail
  go_loopw [5] (fun j wr => ∃ k : Nat, k ≤ ls.length ∧ j = .int .i64 k ∧ Hid (fidx (fun j => decide (txL ((bss ls).getD j []) = txL bs)) k = -1) ∧ w = wr) (fun j _ => ls.length - (intOf j).toNat)
  case atStart => exact ⟨0, Nat.zero_le _, rfl, (show _ = _ from rfl), rfl⟩
  case round =>
    obtain ⟨k, hk, rfl, HF, rfl⟩ := hrel
    by_cases hlt : k < ls.length
    · have hltI : (k : Int) < ls.length := by omega
      obtain ⟨sb, so, rfl, hc⟩ : ∃ sb so, la = some ⟨sb, so, none⟩ ∧ ∀ j (h : j < ls.length), w.cell? ⟨sb, so + j, none⟩ = some (.slice (ls[j]).sa (ls[j]).bs.length (ls[j]).cap) := by
        rcases hl.parts.cells with h | h
        · subst h; simp at hlt
        · exact h
      have ck := hc k hlt
      have hp := hl.parts.each (ls[k]) (List.getElem_mem hlt)
      have hg : (bss ls).getD k [] = (ls[k]).bs := bss_get ls k hlt
      have HY : Hid (∀ B : Bool, decide (txL (ls[k]).bs = txL bs) = B → (B = true → atF (bss ls) bs = k) ∧ (B = false → fidx (fun j => decide (txL ((bss ls).getD j []) = txL bs)) (k + 1) = -1)) := by
        show ∀ B, _
        intro B hB
        refine ⟨fun h => ?_, fun h => ?_⟩
        · exact fidx_hit _ k _ HF.out (by show decide _ = _; rw [hg, hB, h]) (by rw [bss_length]; exact hlt)
        · exact fidx_step _ k HF.out (by show decide _ = _; rw [hg, hB, h])
      clear hc hg HF
      generalize ls[k] = p at ck hp HY
      go_wp2_with fail
      refine (same_tx p.bs bs p.sa da _ m p.cap dc w rfl HM.out hp hs).mono ?_
      rintro e wq ⟨he, hwq⟩
      subst hwq
      obtain ⟨B, hB⟩ : ∃ B, decide (txL p.bs = txL bs) = B := ⟨_, rfl⟩
      rw [hB] at he
      obtain ⟨y1, y2⟩ := HY.out B hB
      have Y1 : Hid _ := y1
      have Y2 : Hid _ := y2
      subst he
      dsimp only
      clear hB y1 y2 HY
      cases B with
      | true =>
        go_wp2_with fail
        go_ret
        exact ⟨ret_int (Y1.out trivial).symm, rfl⟩
      | false =>
        go_wp2_with fail
        go_roundw
        case rel => exact ⟨k + 1, by omega, by go_num, Y2.out rfl, by trivial⟩
        case measure => simp [intOf]; omega
    · obtain rfl : k = ls.length := by omega
      have HE : Hid (atF (bss ls) bs = -1) := by
        show fidx _ _ = _
        rw [bss_length]; exact HF.out
      clear HF
      go_wp2_with fail
      go_ret
      exact ⟨ret_int HE.out.symm, rfl⟩
end Go.Proofs.YtbmodfegcmaieaaDoor
