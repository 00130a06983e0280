/- The document's HeaderCopy, and where the new lists lie. -/
import Derived.Test.YtocclphjpofnoaaDoorApp
import Derived.Test.YtocclphjpofnoaaDoorSx
import Derived.Test.YtocclphjpofnoaaDoorCertF
import Derived.Test.YtocclphjpofnoaaDoorRawU
import Derived.Test.YtocclphjpofnoaaDoorCtFar
import Derived.Test.YtocclphjpofnoaaDoorDagMissingM0
import Derived.OwnWalk
import Derived.Test.YtocclphjpofnoaaDoorDagMissingM30
import Derived.Test.YtocclphjpofnoaaDoorCHead
import Derived.Test.YtocclphjpofnoaaDoorDagMissingM24
namespace Go.Proofs.YtocclphjpofnoaaDoor
open Go.RowKit

set_option maxRecDepth 100000 in
set_option maxHeartbeats 400000 in
theorem clone_any (bs : List Int) (sa : Option Addr) (n cap : Nat) (w : World) (hn : n = bs.length) (hs : SliceAt w sa cap bs) (hl : bs.length ≤ 140737488355328) :
    Calls Tryd.prog 62 #[.slice sa n cap] w fun e w' => ∃ ra rc, e = .returned (.slice ra bs.length rc) ∧ SliceAt w' ra rc bs ∧ (∀ sb so, ra = some ⟨sb, so, none⟩ → w.heap.size ≤ sb ∧ sb < w'.heap.size) ∧ Below w.heap.size w w' := by
  subst hn
  have hle := hs.le
  cases sa with
  | none =>
    have hc := hs.nil rfl
    have hb : bs = [] := List.eq_nil_of_length_eq_zero (by omega)
    subst hc hb
    have he : ∀ w : World, (binOp .eql 29 (.slice none 0 0) (.slice none 0 0)).run Tryd.prog w = .ok (.bool true) w := fun _ => rfl
    go_enter Tryd.func62, Tryd.ntmps62
    go_wp2_with fail
    go_ret
    exact ⟨none, 0, rfl, hs, (fun _ _ e => by cases e), Below.refl _ _⟩
  | some ad =>
    have he : ∀ w : World, (binOp .eql 29 (.slice (some ad) bs.length cap) (.slice none 0 0)).run Tryd.prog w = .ok (.bool false) w := fun _ => rfl
    have hA : Below w.heap.size w (w.alloc (.cells #[] 5)) := (Below.refl _ _).alloc (Nat.le_refl _) _
    go_enter Tryd.func62, Tryd.ntmps62
    go_wp2_with (at_builtin; refine wpList_append_part rfl _ _ rfl w.heap.size _ 0 [] rfl (World.ownsRow_made _ _ 0 (Nat.le_refl _) (by decide) rfl) (some ad) _ cap bs rfl rfl (hs.below hA) (by omega) hA.size ?_; intro v1 w1 ho1 hg1)
    obtain ⟨ra, rc, hv, hl, hsl⟩ := owns_form ho1
    have hlt := ho1.lt
    subst hv
    go_ret
    refine ⟨ra, rc, ?_, by simpa using hsl, (fun sb so e => hlt sb (by rw [e]; rfl)), ?_⟩
    · simp
    · exact Below.grown hA hg1 hA.size (fun q e => (World.ownsRow.lt (World.ownsRow_made (e := 5) (size := 1) w #[] 0 (Nat.le_refl _) (by decide) rfl) q e).1)
end Go.Proofs.YtocclphjpofnoaaDoor

namespace Go.Proofs.YtocclphjpofnoaaDoor
open Go.RowKit

set_option maxRecDepth 100000 in
theorem infoInt2 : (Tryd.prog.info? 3).map (fun i => (i.zero, i.size, i.bytes)) = some (some (.int .i64 0), 1, 8) := by kernel_rfl
def iv (vl : List Int) : List Value := vl.map (Value.int .i64)
set_option maxRecDepth 100000 in
theorem iv_length (vl : List Int) : (iv vl).length = vl.length := by simp [iv]
set_option maxRecDepth 100000 in
theorem iv_one (vl : List Int) : ∀ u ∈ iv vl, u.oneCell' = true := by
  intro u hu; simp [iv] at hu; obtain ⟨x, _, rfl⟩ := hu; rfl
set_option maxRecDepth 100000 in
theorem intsAt_of_owns {w : World} {base n : Nat} {v : Value} {vl : List Int} (h : w.ownsRow base 3 1 v n (iv vl)) : ∃ za zc, v = .slice za n zc ∧ n = vl.length ∧ IntsAt w za vl ∧ ∀ sb so, za = some ⟨sb, so, none⟩ → base ≤ sb := by
  have hl : n = vl.length := by have := h.1; rw [iv_length] at this; omega
  rcases h.2 with ⟨rfl, hn⟩ | ⟨g, cap, cur, rfl, _⟩
  · have hb : vl = [] := List.eq_nil_of_length_eq_zero (by omega)
    subst hn hb
    exact ⟨none, 0, rfl, rfl, ⟨.inl rfl⟩, fun _ _ e => by cases e⟩
  · refine ⟨some ⟨g, 0, none⟩, cap, rfl, hl, ⟨.inr ⟨g, 0, rfl, fun j hj => ?_⟩⟩, fun sb so e => by cases e; exact (h.lt _ rfl).1⟩
    rw [Nat.zero_add, World.ownsRow.cellAt h j (by omega)]
    simp [iv, hj]
set_option maxRecDepth 100000 in
theorem IntsAt.setCell {w : World} {va : Option Addr} {vl : List Int} (h : IntsAt w va vl) (b j : Nat) (v : Value) (hne : ∀ sb so, va = some ⟨sb, so, none⟩ → b ≠ sb) : IntsAt (w.setCell ⟨b, j, none⟩ v) va vl := by
  refine ⟨?_⟩
  rcases h.cells with h | ⟨sb, so, rfl, hc⟩
  · exact .inl h
  · exact .inr ⟨sb, so, rfl, fun k hk => (World.cell?_setCell_far _ _ _ _ (hne sb so rfl)).trans (hc k hk)⟩
end Go.Proofs.YtocclphjpofnoaaDoor

namespace Go.Proofs.YtocclphjpofnoaaDoor
open Go.RowKit

set_option maxRecDepth 100000 in
set_option maxHeartbeats 1000000 in
theorem cloneDigests_any (ps : List Part) (sa : Option Addr) (n cap : Nat) (w : World) (hn : n = ps.length) (hl4 : ps.length ≤ 1000) (hre : ∀ p ∈ ps, p.bs.length ≤ 140737488355328) (hp : PartsAt w sa ps) :
    Calls Tryd.prog 40 #[.slice sa n cap] w fun e w' => ∃ ra rc qs, e = .returned (.slice ra ps.length rc) ∧ Same qs ps ∧ ListAt w' ra rc qs ∧ Below w.heap.size w w' ∧ Fresh w.heap.size ra qs ∧ (∀ sb so, ra = some ⟨sb, so, none⟩ → sb < w'.heap.size) := by
  subst hn
  obtain ⟨i, hi, hz0, hz1, hz2⟩ := info_parts infoBs
  go_enter Tryd.func40, Tryd.ntmps40
  go_wp2_with (at_make; refine wpList_make_own _ rfl _ _ 30 rfl w.heap.size 29 i (.slice none 0 0) 1 Tryd.underlying30 hi hz0 hz1 .i64 .i64 _ ps.length rfl rfl (by go_num) (by rw [hz2]; omega) (by unfold maxLen; omega) (Nat.le_refl _) ?_; intro w1 ho1 hg1)
  go_wp2_with fail
  go_loopw [11, 3] (fun j v wr => ∃ (k : Nat) (qs : List Part), k ≤ ps.length ∧ j = .int .i64 k ∧ Same qs (ps.take k) ∧ wr.ownsRow w.heap.size 29 1 v k (pv qs) ∧ Apart wr w.heap.size v qs ∧ Below w.heap.size w wr) (fun j _ _ => ps.length - (intOf j).toNat)
  case atStart => exact ⟨0, [], Nat.zero_le _, rfl, by simp [Same], ho1, (fun p hp => by cases hp), grown_none hg1⟩
  case round =>
    obtain ⟨k, qs, hk, rfl, hS, ho, hap, hb⟩ := hrel
    by_cases hlt : k < ps.length
    · have hpw := hp.below hb
      obtain ⟨sb, so, rfl, hc⟩ : ∃ sb so, sa = some ⟨sb, so, none⟩ ∧ ∀ j (h : j < ps.length), wr.cell? ⟨sb, so + j, none⟩ = some (.slice (ps[j]).sa (ps[j]).bs.length (ps[j]).cap) := by
        rcases hpw.cells with h | h
        · rw [h] at hlt; simp at hlt
        · exact h
      have ck := hc k hlt
      have hx := hpw.each (ps[k]) (List.getElem_mem hlt)
      have hxr := hre (ps[k]) (List.getElem_mem hlt)
      have hst : Hid (ps.take (k + 1) = ps.take k ++ [ps[k]]) := List.take_succ_eq_append_getElem hlt
      have hltI : (k : Int) < ps.length := by omega
      clear hc
      generalize ps[k] = p at *
      go_wp2_with fail
      refine (clone_any p.bs p.sa _ p.cap wr rfl hx hxr).mono ?_
      rintro e w2 ⟨ra, rc, he, hs2, hrow, hb2⟩
      subst he
      dsimp only
      have hob := owns_keep ho hb2
      have hB2 := hb.trans (hb2.mono hb.size)
      go_wp2_with (at_builtin; refine wpList_append_own_at _ rfl _ _ 30 rfl w.heap.size 29 i (.slice none 0 0) 1 24 Tryd.underlying30 hi hz0 hz1 hz2 rfl (by decide) _ k _ rfl (World.ownsRow.alloc hob _) ⟨w2.heap.size, 0, none⟩ 1 1 [.slice ra p.bs.length rc] rfl rfl (cells_new _ _ _) (by intro u hu; simp at hu; subst hu; rfl) (by unfold maxLen; omega) (by omega) (le_alloc hB2.size _) ?_; intro v1 w3 ho3 hg3 _ hat)
      have G := Grew.of hg3 hat
      have hap3 := hap.more_at (q := ⟨ra, rc, p.bs⟩) hb.size ho hb2 hrow hs2 G
      have hB3 := Below.grown (hB2.alloc hB2.size _) hg3 (le_alloc hB2.size _) (fun q e => (hob.lt q e).1)
      go_wp2_with fail
      go_roundw
      case rel =>
        have hR : ∃ (k' : Nat) (qs' : List Part), k' ≤ ps.length ∧ (Value.int .i64 ((k : Int) + 1)) = .int .i64 k' ∧ Same qs' (ps.take k') ∧ w3.ownsRow w.heap.size 29 1 v1 k' (pv qs') ∧ Apart w3 w.heap.size v1 qs' ∧ Below w.heap.size w w3 :=
          ⟨k + 1, qs ++ [⟨ra, rc, p.bs⟩], by omega, by go_num, by rw [hst.out]; simp only [Same, List.map_append] at hS ⊢; rw [hS]; rfl, by simpa [pv, Part.val] using ho3, hap3, hB3⟩
        first | exact hR | ((repeat apply Exists.intro); exact ⟨hR, rfl⟩)
      case measure => simp [intOf]; omega
    · obtain rfl : k = ps.length := by omega
      rw [List.take_of_length_le (Nat.le_refl _)] at hS
      obtain ⟨ra, rc, hv, hl, hL, hfr⟩ := listAt_of_owns ho hap
      subst hv
      go_wp2_with fail
      go_ret
      exact ⟨ra, rc, qs, rfl, hS, hL (by omega), hb, hfr, fun sb so e => by subst e; exact (ho.lt sb rfl).2⟩
set_option maxRecDepth 100000 in
theorem infoIntC : (Tryd.prog.info? 3).map (fun i => (i.zero, i.size, i.bytes)) = some (some (.int .i64 0), 1, 8) := by kernel_rfl
set_option maxRecDepth 100000 in
set_option maxHeartbeats 400000 in
theorem cloneInts_any (vl : List Int) (va : Option Addr) (n cap : Nat) (w : World) (hn : n = vl.length) (hl : vl.length ≤ 1000) (hs : IntsAt w va vl) :
    Calls Tryd.prog 56 #[.slice va n cap] w fun e w' => ∃ ra rc, e = .returned (.slice ra vl.length rc) ∧ IntsAt w' ra vl ∧ (∀ sb so, ra = some ⟨sb, so, none⟩ → w.heap.size ≤ sb ∧ sb < w'.heap.size) ∧ Below w.heap.size w w' := by
  subst hn
  obtain ⟨i, hi, hz0, hz1, hz2⟩ := info_parts infoIntC
  cases va with
  | none =>
    have hb : vl = [] := by
      rcases hs.cells with h | ⟨_, _, h, _⟩
      · exact h
      · cases h
    subst hb
    have he : ∀ w : World, (binOp .eql 33 (.slice none 0 cap) (.slice none 0 0)).run Tryd.prog w = .ok (.bool true) w := fun _ => rfl
    go_enter Tryd.func56, Tryd.ntmps56
    go_wp2_with fail
    go_ret
    exact ⟨none, 0, rfl, ⟨.inl rfl⟩, (fun _ _ e => by cases e), Below.refl _ _⟩
  | some ad =>
    have he : ∀ w : World, (binOp .eql 33 (.slice (some ad) vl.length cap) (.slice none 0 0)).run Tryd.prog w = .ok (.bool false) w := fun _ => rfl
    have hA : Below w.heap.size w (w.alloc (.cells #[] 3)) := (Below.refl _ _).alloc (Nat.le_refl _) _
    have hcells : ∀ j u, (iv vl)[j]? = some u → (w.alloc (.cells #[] 3)).cell? (ad.add j) = some u := fun j u hu => by
      have hj : j < vl.length := by
        rcases Nat.lt_or_ge j vl.length with h | h
        · exact h
        · rw [List.getElem?_eq_none (by rw [iv_length]; exact h)] at hu; cases hu
      rcases (hs.below hA).cells with h | ⟨sb, so, e, hc⟩
      · rw [h] at hj; simp at hj
      · cases e
        have e2 := hc j hj
        simp only [iv, List.getElem?_map, List.getElem?_eq_getElem hj, Option.map_some, Option.some.injEq] at hu
        subst hu
        have e3 : (⟨sb, so, none⟩ : Addr).add j = ⟨sb, so + j, none⟩ := by
          simp only [Addr.add]
          split
          · rename_i h
            subst h
            rfl
          · rfl
        rw [e3, e2]
        simp [List.getD, hj]
    go_enter Tryd.func56, Tryd.ntmps56
    go_wp2_with (at_builtin; refine wpList_append_own_at _ rfl _ _ 33 rfl w.heap.size 3 i (.int .i64 0) 1 8 Tryd.underlying33 hi hz0 hz1 hz2 rfl (by decide) _ 0 [] rfl (World.ownsRow_made _ _ 0 (Nat.le_refl _) (by decide) rfl) ad vl.length cap (iv vl) rfl (by simp [iv]) hcells (iv_one vl) (by unfold maxLen; omega) (by omega) hA.size ?_; intro v1 w1 ho1 hg1 _ hat)
    rw [List.nil_append, Nat.zero_add] at ho1
    obtain ⟨ra, rc, hv, _, hI, hfr⟩ := intsAt_of_owns ho1
    have hlt := ho1.lt
    subst hv
    go_ret
    refine ⟨ra, rc, rfl, hI, (fun sb so e => hlt sb (by rw [e]; rfl)), ?_⟩
    exact Below.grown hA hg1 hA.size (fun q e => (World.ownsRow.lt (World.ownsRow_made (e := 3) (size := 1) w #[] 0 (Nat.le_refl _) (by decide) rfl) q e).1)
end Go.Proofs.YtocclphjpofnoaaDoor

namespace Go.Proofs.YtocclphjpofnoaaDoor
open Go.RowKit

set_option maxRecDepth 100000 in
theorem ret_errM {x y : Int} (h : x = y) : Ending.returned (.tuple #[.slice none 0 0, .int .i64 x]) = .returned (.tuple #[.slice none 0 0, .int .i64 y]) := by rw [h]
set_option maxRecDepth 100000 in
theorem ret_lenM {a : Option Addr} {n m c : Nat} (h : n = m) : Ending.returned (.tuple #[.slice a n c, .int .i64 0]) = .returned (.tuple #[.slice a m c, .int .i64 0]) := by rw [h]
/-- P5.3: what is told. -/
def missE (l : List CV) (au rd : Int) (bl pl : List Part) : Int := if dagF l ≠ 0 then dagF l else if headerF au rd bl pl ≠ 0 then headerF au rd bl pl else if parF l rd (bss pl) = 9 then 9 else 0
/-- What Missing answers. -/
def MgAt (w' : World) (e : Ending) (l : List CV) (au rd : Int) (bl pl : List Part) : Prop :=
  (missE l au rd bl pl ≠ 0 ∧ e = .returned (.tuple #[.slice none 0 0, .int .i64 (missE l au rd bl pl)])) ∨ (missE l au rd bl pl = 0 ∧ ∃ ma mc ms, e = .returned (.tuple #[.slice ma (List.length ms) mc, .int .i64 0]) ∧ bss ms = misF l (bss pl) ∧ ListAt w' ma mc ms)
set_option maxRecDepth 100000 in
theorem missE_same {l : List CV} {au rd : Int} {xl bl yl pl : List Part} (h1 : Same xl bl) (h2 : Same yl pl) : missE l au rd xl yl = missE l au rd bl pl := by
  rw [missE, missE, headerF_sameH h1 h2, bss_same h2]
set_option maxRecDepth 100000 in
set_option maxHeartbeats 1000000 in
theorem dagMissing_any (ls : List Ct) (sa : Option Addr) (n cap : Nat) (au rd : Int) (ba : Option Addr) (bn bc : Nat) (bl : List Part) (pa : Option Addr) (pn pc : Nat) (pl : List Part) (w : World) (hn : n = ls.length) (hbn : bn = bl.length) (hpn : pn = pl.length) (hd : DagAt w sa cap ls) (hb : ListAt w ba bc bl) (hp : ListAt w pa pc pl) (hT : Tabs w) :
    Calls Tryd.prog 16 #[.agg #[.slice sa n cap], .agg #[.int .i64 au, .int .i64 rd, .slice ba bn bc, .slice pa pn pc]] w fun e w' => MgAt w' e (cvs ls) au rd bl pl ∧ Below w.heap.size w w' := by
  subst hn hbn hpn
  have hA : Below w.heap.size w ((w.alloc (.cells #[.slice sa ls.length cap] 24)).alloc (.cells #[.int .i64 au, .int .i64 rd, .slice ba bl.length bc, .slice pa pl.length pc] 32)) := ((Below.refl _ _).alloc (Nat.le_refl _) _).alloc (by rw [size_alloc]; omega) _
  have q1 : ((w.alloc (.cells #[.slice sa ls.length cap] 24)).alloc (.cells #[.int .i64 au, .int .i64 rd, .slice ba bl.length bc, .slice pa pl.length pc] 32)).heap[w.heap.size + 1]? = some (.cells #[.int .i64 au, .int .i64 rd, .slice ba bl.length bc, .slice pa pl.length pc] 32 (0, 0)) := by
    have := heap_alloc_new (w.alloc (.cells #[.slice sa ls.length cap] 24)) (.cells #[.int .i64 au, .int .i64 rd, .slice ba bl.length bc, .slice pa pl.length pc] 32)
    rw [size_alloc] at this; exact this
  go_enter Tryd.func16, Tryd.ntmps16
  go_wp2_with fail
  generalize (w.alloc (.cells #[.slice sa ls.length cap] 24)).alloc (.cells #[.int .i64 au, .int .i64 rd, .slice ba bl.length bc, .slice pa pl.length pc] 32) = W0 at hA q1 ⊢
  refine (open_any ls sa _ cap W0 rfl (hd.below hA) (hT.below hA)).mono ?_
  rintro e w1 ⟨hO, hb1⟩
  have hB1 := hA.trans (hb1.mono hA.size)
  have r1 := (hb1.block _ (lt_of_heap q1)).trans q1
  rcases hO with ⟨hF, he⟩ | ⟨hF, ca, cc, da, dc, ds, he, hs⟩
  · have HM : Hid (missE (cvs ls) au rd bl pl = 12) := by
      show _ = _
      rw [missE, hF]; rfl
    clear hF
    subst he
    dsimp only
    go_wp2_with fail
    go_ret2
    exact ⟨.inl ⟨by rw [HM.out]; decide, ret_errM HM.out.symm⟩, hB1.alloc hB1.size _⟩
  · have HM : Hid (missE (cvs ls) au rd bl pl = if headerF au rd bl pl ≠ 0 then headerF au rd bl pl else if parF (cvs ls) rd (bss pl) = 9 then 9 else 0) := by
      show _ = _
      rw [missE, hF]; rfl
    clear hF
    subst he
    dsimp only
    have hA1 := (Below.refl w1.heap.size w1).alloc (Nat.le_refl _) (.cells #[.slice ca ls.length cc, .slice da ls.length dc] 56)
    have p1 := heap_alloc_new w1 (.cells #[.slice ca ls.length cc, .slice da ls.length dc] 56)
    have rA := heap_keep (o := .cells #[.slice ca ls.length cc, .slice da ls.length dc] 56) r1
    have e0 := cells_at rA 0 _ rfl
    have e1 := cells_at rA 1 _ rfl
    have e2 := cells_at rA 2 _ rfl
    have e3 := cells_at rA 3 _ rfl
    go_wp2_with fail
    generalize w1.alloc (.cells #[.slice ca ls.length cc, .slice da ls.length dc] 56) = W1 at hA1 p1 rA e0 e1 e2 e3 ⊢
    have hB1A := hB1.trans (hA1.mono hB1.size)
    refine (checkHeader_any au rd ba bc bl pa pc pl W1 (hb.below hB1A) (hp.below hB1A)).mono ?_
    rintro e w2 ⟨he, hb2⟩
    subst he
    dsimp only
    clear e0 e1 e2 e3
    have hB2 := hB1A.trans (hb2.mono hB1A.size)
    have r2 := (hb2.block _ (lt_of_heap rA)).trans rA
    have p2 := (hb2.block _ (lt_of_heap p1)).trans p1
    have hs2 := (hs.below hA1).below hb2
    by_cases hx : headerF au rd bl pl = 0
    · have HM2 : Hid (missE (cvs ls) au rd bl pl = if parF (cvs ls) rd (bss pl) = 9 then 9 else 0) := by
        show _ = _
        rw [HM.out, if_neg (fun h => h hx)]
      obtain ⟨y1, y2, y3, y4, y5, y6⟩ := headerF_ok hx
      have HMS := missing_any ls ca cc da dc ds au rd ba bl.length bc pl pa pc w2 hs2 y4 y2 (hp.below hB2).parts
      have H6 : Hid (∀ p ∈ pl, p.bs.length = 32) := y6
      rw [hx]
      clear hx y1 y3 y5 y6 HM
      have e0 := cells_at r2 0 _ rfl
      have e1 := cells_at r2 1 _ rfl
      have e2 := cells_at r2 2 _ rfl
      have e3 := cells_at r2 3 _ rfl
      have g0 := cells_at p2 0 _ rfl
      have g1 := cells_at p2 1 _ rfl
      go_wp2_with fail
      refine HMS.mono ?_
      rintro e w3 ⟨hM, hb3⟩
      have hB3 := hB2.trans (hb3.mono hB2.size)
      clear HMS
      rcases hM with ⟨h9, he⟩ | ⟨h9, ma, mc, ms, he, hS, hL, hfr, hin⟩
      · have HE : Hid (missE (cvs ls) au rd bl pl = 9) := by
          show _ = _
          rw [HM2.out, if_pos h9]
        clear h9 HM2
        subst he
        dsimp only
        go_wp2_with fail
        go_ret2
        exact ⟨.inl ⟨by rw [HE.out]; decide, ret_errM HE.out.symm⟩, hB3⟩
      · have HE : Hid (missE (cvs ls) au rd bl pl = 0) := by
          show _ = _
          rw [HM2.out, if_neg h9]
        have hlen : ms.length ≤ 4 := by
          have h1 := congrArg List.length hS
          rw [bss_length] at h1
          have h2 := misTo_length (cvs ls) (bss pl) (bss pl).length
          rw [bss_length] at h2
          have h3 : (misF (cvs ls) (bss pl)).length ≤ pl.length := by rw [misF, bss_length]; exact h2
          omega
        have HSS : Hid (bss ms = misF (cvs ls) (bss pl)) := hS
        have HCL := cloneDigests_any ms ma _ mc w3 rfl (by omega) (fun p hp => by rw [H6.out p (hin p hp)]; decide) hL.parts
        clear h9 HM2 hS hfr hin
        subst he
        dsimp only
        go_wp2_with fail
        refine HCL.mono ?_
        rintro e w4 ⟨na, nc, ns, he, hNS, hNL, hb4, _, _⟩
        have HNS : Hid (bss ns = bss ms) := hNS
        have HNL : Hid (ns.length = ms.length) := hNS.length
        clear hNS
        subst he
        dsimp only
        go_wp2_with fail
        go_ret2
        exact ⟨.inr ⟨HE.out, na, nc, ns, ret_lenM HNL.out.symm, by rw [HNS.out, HSS.out], hNL⟩, hB3.trans (hb4.mono hB3.size)⟩
    · have HE : Hid (missE (cvs ls) au rd bl pl = headerF au rd bl pl) := by
        show _ = _
        rw [HM.out, if_pos hx]
      have HNZ : Hid (headerF au rd bl pl ≠ 0) := hx
      have hxn : (headerF au rd bl pl != 0) = true := by simpa using hx
      clear HM
      generalize headerF au rd bl pl = x at *
      go_wp2_with fail
      go_ret2
      exact ⟨.inl ⟨by rw [HE.out]; exact HNZ.out, ret_errM HE.out.symm⟩, hB2⟩
end Go.Proofs.YtocclphjpofnoaaDoor

namespace Go.Proofs.YtocclphjpofnoaaDoor
open Go.RowKit

set_option maxRecDepth 100000 in
set_option maxHeartbeats 1000000 in
theorem missingOf_any (ls : List Ct) (sa : Option Addr) (cap : Nat) (au rd : Int) (ba : Option Addr) (bc : Nat) (bl : List Part) (pa : Option Addr) (pc : Nat) (pl : List Part) (w : World) (hd : DagRd w sa cap ls) (hb : ListAt w ba bc bl) (hp : ListAt w pa pc pl) :
    Calls Tryd.prog 18 #[.agg #[.slice sa ls.length cap], .agg #[.int .i64 au, .int .i64 rd, .slice ba bl.length bc, .slice pa pl.length pc]] w fun e w' => MgAt w' e (cvs ls) au rd bl pl ∧ Below w.heap.size w w' := by
  obtain ⟨i, hi, hz0, hz1, hz2⟩ := info_parts infoBs
  have hA : Below w.heap.size w ((w.alloc (.cells #[.slice sa ls.length cap] 24)).alloc (.cells #[.int .i64 au, .int .i64 rd, .slice ba bl.length bc, .slice pa pl.length pc] 32)) := ((Below.refl _ _).alloc (Nat.le_refl _) _).alloc (by rw [size_alloc]; omega) _
  have q0 := heap_alloc2_old w (.cells #[.slice sa ls.length cap] 24) (.cells #[.int .i64 au, .int .i64 rd, .slice ba bl.length bc, .slice pa pl.length pc] 32)
  have q1 : ((w.alloc (.cells #[.slice sa ls.length cap] 24)).alloc (.cells #[.int .i64 au, .int .i64 rd, .slice ba bl.length bc, .slice pa pl.length pc] 32)).heap[w.heap.size + 1]? = some (.cells #[.int .i64 au, .int .i64 rd, .slice ba bl.length bc, .slice pa pl.length pc] 32 (0, 0)) := by
    have := heap_alloc_new (w.alloc (.cells #[.slice sa ls.length cap] 24)) (.cells #[.int .i64 au, .int .i64 rd, .slice ba bl.length bc, .slice pa pl.length pc] 32)
    rw [size_alloc] at this; exact this
  go_enter Tryd.func18, Tryd.ntmps18
  go_wp2_with fail
  generalize (w.alloc (.cells #[.slice sa ls.length cap] 24)).alloc (.cells #[.int .i64 au, .int .i64 rd, .slice ba bl.length bc, .slice pa pl.length pc] 32) = W0 at hA q0 q1 ⊢
  refine (dagFault_any ls sa _ cap W0 rfl (hd.below hA)).mono ?_
  rintro e w1 ⟨he, hb1⟩
  subst he
  dsimp only
  have hB1 := hA.trans (hb1.mono hA.size)
  have r0 := (hb1.block _ (lt_of_heap q0)).trans q0
  have r1 := (hb1.block _ (lt_of_heap q1)).trans q1
  rcases dagF_or (cvs ls) with h | h
  · have HM : Hid (missE (cvs ls) au rd bl pl = if headerF au rd bl pl ≠ 0 then headerF au rd bl pl else if parF (cvs ls) rd (bss pl) = 9 then 9 else 0) := by
      show _ = _
      rw [missE, h]; rfl
    have hle := dag_le h
    have HAF : Hid (∀ c ∈ ls, c.v.f = 0) := all_f h
    rw [h]
    clear h
    have e0 := cells_at r1 0 _ rfl
    have e1 := cells_at r1 1 _ rfl
    have e2 := cells_at r1 2 _ rfl
    have e3 := cells_at r1 3 _ rfl
    go_wp2_with fail
    refine (headerFault_any au rd ba bc bl pa pc pl w1 (hb.below hB1) (hp.below hB1)).mono ?_
    rintro e w2 ⟨he, hb2⟩
    subst he
    dsimp only
    clear e0 e1 e2 e3
    have hB2 := hB1.trans (hb2.mono hB1.size)
    have s0 := (hb2.block _ (lt_of_heap r0)).trans r0
    have s1 := (hb2.block _ (lt_of_heap r1)).trans r1
    by_cases hx : headerF au rd bl pl = 0
    · have HM2 : Hid (missE (cvs ls) au rd bl pl = if parF (cvs ls) rd (bss pl) = 9 then 9 else 0) := by
        show _ = _
        rw [HM.out, if_neg (fun h => h hx)]
      obtain ⟨y1, y2, y3, y4, y5, y6⟩ := headerF_ok hx
      have H6 : Hid (∀ p ∈ pl, p.bs.length = 32) := y6
      rw [hx]
      have hd2 := hd.below hB2
      have HD := digestsOf_any ls sa _ cap w2 rfl hle hd2.certs hd2.each HAF.out
      clear hx y1 y3 y5 y6 HM
      have g0 := cells_at s0 0 _ rfl
      go_wp2_with fail
      refine HD.mono ?_
      rintro e w3 ⟨ra, rc, ds, he, hS, hL, hb3⟩
      subst he
      dsimp only
      clear HD g0 hd2
      have hB3 := hB2.trans (hb3.mono hB2.size)
      have t0 := (hb3.block _ (lt_of_heap s0)).trans s0
      have t1 := (hb3.block _ (lt_of_heap s1)).trans s1
      have HPF := parentsFault_any ls sa ls.length cap ds ra ls.length rc au rd ba bl.length bc pl pa pl.length pc w3 rfl rfl rfl hS (by omega) y4 y2 hL.parts (hd.certs.below hB3) (hp.below hB3).parts
      have HS : Hid (bss ds = (cvs ls).map CV.d) := hS
      have HDL : Hid (ls.length = ds.length) := by
        show _ = _
        rw [digs_length hS, cvs_length]
      clear hS
      have g0 := cells_at t0 0 _ rfl
      have e0 := cells_at t1 0 _ rfl
      have e1 := cells_at t1 1 _ rfl
      have e2 := cells_at t1 2 _ rfl
      have e3 := cells_at t1 3 _ rfl
      go_wp2_with fail
      refine HPF.mono ?_
      rintro e W4 ⟨he, hb4⟩
      subst he
      dsimp only
      clear HPF g0 e0 e1 e2 e3
      have hB4 := hB3.trans (hb4.mono hB3.size)
      have u1 := (hb4.block _ (lt_of_heap t1)).trans t1
      have hltu : w.heap.size + 1 < W4.heap.size := lt_of_heap u1
      have hL4 := hL.below hb4
      by_cases h9 : parF (cvs ls) rd (bss pl) = 9
      · have HE : Hid (missE (cvs ls) au rd bl pl = 9) := by
          show _ = _
          rw [HM2.out, if_pos h9]
        rw [h9]
        clear h9 HM2
        go_wp2_with fail
        go_ret2
        exact ⟨.inl ⟨by rw [HE.out]; decide, ret_errM HE.out.symm⟩, hB4⟩
      · have HE : Hid (missE (cvs ls) au rd bl pl = 0) := by
          show _ = _
          rw [HM2.out, if_neg h9]
        have h9n : (parF (cvs ls) rd (bss pl) == 9) = false := by simpa using h9
        clear HM2
        generalize parF (cvs ls) rd (bss pl) = F at *
        clear hb1 hb2 hb3 hb4 r0 r1 s0 s1 t0 t1 q0 q1 hA hB1 hB2 hB3 hL
        go_wp2_with fail
        go_loopw [9, 8] (fun j v wr => ∃ (m : Nat) (qs : List Part), m ≤ pl.length ∧ j = .int .i64 m ∧ bss qs = misTo (cvs ls) (bss pl) m ∧ wr.ownsRow W4.heap.size 29 1 v qs.length (pv qs) ∧ Apart wr W4.heap.size v qs ∧ Below W4.heap.size W4 wr) (fun j _ _ => pl.length - (intOf j).toNat)
        case atStart => exact ⟨0, [], Nat.zero_le _, rfl, rfl, World.ownsRow_nil _ _ _ _, (fun p hp => by cases hp), Below.refl _ _⟩
        case round =>
          obtain ⟨m, qs, hm, rfl, hS, ho, hap, hbr⟩ := hrel
          have hBr := hB4.trans (hbr.mono hB4.size)
          have v1 := (hbr.block _ hltu).trans u1
          have e3 : wr.cell? ⟨w.heap.size + 1, 3, none⟩ = some (.slice pa pl.length pc) := cells_at v1 3 _ rfl
          have hml : qs.length ≤ m := by
            have := congrArg List.length hS
            rw [bss_length] at this
            rw [this]; exact misTo_length _ _ _
          by_cases hlt : m < pl.length
          · have hpr := (hp.below hBr).parts
            rcases hpr.cells with hcc | ⟨pb, po, rfl, hcc⟩
            · subst hcc; simp at hlt
            have ck := hcc m hlt
            have hx := hpr.each (pl[m]) (List.getElem_mem hlt)
            have h32 := H6.out (pl[m]) (List.getElem_mem hlt)
            have hltI : (m : Int) < pl.length := by omega
            have hg := bss_get pl m hlt
            have Hn : Hid (pOf (cvs ls) (pl[m]).bs < 0 → misTo (cvs ls) (bss pl) (m + 1) = bss qs ++ [(pl[m]).bs]) := by
              show _ → _
              intro h
              rw [misTo, hg, if_pos h, hS]
            have Hk : Hid (¬ pOf (cvs ls) (pl[m]).bs < 0 → bss qs = misTo (cvs ls) (bss pl) (m + 1)) := by
              show _ → _
              intro h1
              rw [misTo, hg, if_neg h1, hS]
            have hB := pOf_bounds (cvs ls) (pl[m]).bs
            have HPL := placeOf_any (cvs ls) ds ra ls.length rc (pl[m]).bs (pl[m]).sa (pl[m]).bs.length (pl[m]).cap wr HDL.out HS.out (by omega) (hL4.below hbr).parts rfl hx
            clear hg hcc hS hpr
            have H32 : Hid ((pl[m]).bs.length = 32) := h32
            clear h32
            generalize pl[m] = p at *
            go_wp2_with fail
            refine HPL.mono ?_
            rintro e w1 ⟨he, hw⟩
            subst he hw
            dsimp only
            clear HPL
            generalize pOf (cvs ls) p.bs = r at *
            by_cases hr : r < 0
            · have HY : Hid _ := Hn.out hr
              obtain rfl : r = -1 := by omega
              clear Hn Hk
              go_wp2_with fail
              refine (joined_any p.bs [] p.sa none _ _ p.cap 0 wr rfl rfl hx (nilSlice _) (by have := H32.out; simp; omega)).mono ?_
              rintro e w2 ⟨v2, he, ho2, hb2⟩
              subst he
              dsimp only
              simp only [List.append_nil, List.length_nil, Nat.add_zero] at ho2
              obtain ⟨xa, xc, hv, _, hs2⟩ := owns_form ho2
              subst hv
              have hob := owns_keep ho hb2
              have hB2 := hbr.trans (hb2.mono hbr.size)
              go_wp2_with (at_builtin; refine wpList_append_own_at _ rfl _ _ 30 rfl W4.heap.size 29 i (.slice none 0 0) 1 24 Tryd.underlying30 hi hz0 hz1 hz2 rfl (by decide) _ qs.length _ rfl (World.ownsRow.alloc hob _) ⟨w2.heap.size, 0, none⟩ 1 1 [.slice xa p.bs.length xc] rfl rfl (cells_new _ _ _) (by intro u hu; simp at hu; subst hu; rfl) (by unfold maxLen; omega) (by omega) (le_alloc hB2.size _) ?_; intro v1 w3 ho3 hg3 _ hat)
              have G := Grew.of hg3 hat
              have hap3 := hap.more (q := ⟨xa, xc, p.bs⟩) hbr.size ho hb2 ho2 hs2 G
              have hB3 := Below.grown (hB2.alloc hB2.size _) hg3 (le_alloc hB2.size _) (fun q e => (hob.lt q e).1)
              go_roundw
              case rel =>
                have hR : ∃ (m' : Nat) (qs' : List Part), m' ≤ pl.length ∧ (Value.int .i64 ((m : Int) + 1)) = .int .i64 m' ∧ bss qs' = misTo (cvs ls) (bss pl) m' ∧ w3.ownsRow W4.heap.size 29 1 v1 qs'.length (pv qs') ∧ Apart w3 W4.heap.size v1 qs' ∧ Below W4.heap.size W4 w3 :=
                  ⟨m + 1, qs ++ [⟨xa, xc, p.bs⟩], by omega, by go_num, by rw [HY.out]; simp [bss], by simpa [pv, Part.val] using ho3, hap3, hB3⟩
                first | exact hR | ((repeat apply Exists.intro); exact ⟨hR, rfl⟩)
              case measure => simp [intOf]; omega
            · have HY : Hid (bss qs = misTo (cvs ls) (bss pl) (m + 1)) := Hk.out (by omega)
              have hr0 : ¬ r < 0 := hr
              clear Hn Hk
              go_wp2_with fail
              go_roundw
              case rel =>
                have hR : ∃ (m' : Nat) (qs' : List Part), m' ≤ pl.length ∧ (Value.int .i64 ((m : Int) + 1)) = .int .i64 m' ∧ bss qs' = misTo (cvs ls) (bss pl) m' ∧ wr.ownsRow W4.heap.size 29 1 u8 qs'.length (pv qs') ∧ Apart wr W4.heap.size u8 qs' ∧ Below W4.heap.size W4 wr :=
                  ⟨m + 1, qs, by omega, by go_num, HY.out, ho, hap, hbr⟩
                first | exact hR | ((repeat apply Exists.intro); exact ⟨hR, rfl⟩)
              case measure => simp [intOf]; omega
          · obtain rfl : m = pl.length := by omega
            have HMM : Hid (bss qs = misF (cvs ls) (bss pl)) := by
              show bss qs = misTo _ _ _
              rw [bss_length]; exact hS
            clear hS
            obtain ⟨xa, xc, hv, hl, hLx, _⟩ := listAt_of_owns ho hap
            subst hv
            have hLL := hLx (by omega)
            go_wp2_with fail
            go_ret2
            exact ⟨.inr ⟨HE.out, xa, xc, qs, rfl, HMM.out, hLL⟩, hBr⟩
    · have HE : Hid (missE (cvs ls) au rd bl pl = headerF au rd bl pl) := by
        show _ = _
        rw [HM.out, if_pos hx]
      have HNZ : Hid (headerF au rd bl pl ≠ 0) := hx
      have hxn : (headerF au rd bl pl != 0) = true := by simpa using hx
      clear HM
      generalize headerF au rd bl pl = x at *
      go_wp2_with fail
      go_ret2
      exact ⟨.inl ⟨by rw [HE.out]; exact HNZ.out, ret_errM HE.out.symm⟩, hB2⟩
  · have HM : Hid (missE (cvs ls) au rd bl pl = 12) := by
      show _ = _
      rw [missE, h]; rfl
    rw [h]
    clear h
    go_wp2_with fail
    go_ret2
    exact ⟨.inl ⟨by rw [HM.out]; decide, ret_errM HM.out.symm⟩, hB1⟩
end Go.Proofs.YtocclphjpofnoaaDoor

namespace Go.Proofs.YtocclphjpofnoaaDoor
open Go.RowKit

set_option maxRecDepth 100000 in
set_option maxHeartbeats 1000000 in
theorem bytesCopiesU_any (ps : List Part) (sa : Option Addr) (n cap : Nat) (w : World) (hn : n = ps.length) (hr : ps.length * 24 ≤ 140737488355328) (hre : ∀ p ∈ ps, p.bs.length ≤ 140737488355328) (hp : PartsAt w sa ps) :
    Calls Tryd.prog 41 #[.slice sa n cap] w fun e w' => ∃ ra rc qs, e = .returned (.slice ra ps.length rc) ∧ Same qs ps ∧ ListAt w' ra rc qs ∧ Below w.heap.size w w' ∧ Fresh w.heap.size ra qs ∧ (∀ sb so, ra = some ⟨sb, so, none⟩ → sb < w'.heap.size) := by
  subst hn
  obtain ⟨i, hi, hz0, hz1, hz2⟩ := info_parts infoBs
  go_enter Tryd.func41, Tryd.ntmps41
  go_wp2_with fail
  go_loopw [4, 3] (fun j v wr => ∃ (k : Nat) (qs : List Part), k ≤ ps.length ∧ j = .int .i64 k ∧ Same qs (ps.take k) ∧ wr.ownsRow w.heap.size 29 1 v k (pv qs) ∧ Apart wr w.heap.size v qs ∧ Below w.heap.size w wr) (fun j _ _ => ps.length - (intOf j).toNat)
  case atStart => exact ⟨0, [], Nat.zero_le _, rfl, by simp [Same], World.ownsRow_nil _ _ _ _, (fun p hp => by cases hp), Below.refl _ _⟩
  case round =>
    obtain ⟨k, qs, hk, rfl, hS, ho, hap, hb⟩ := hrel
    by_cases hlt : k < ps.length
    · have hpw := hp.below hb
      obtain ⟨sb, so, rfl, hc⟩ : ∃ sb so, sa = some ⟨sb, so, none⟩ ∧ ∀ j (h : j < ps.length), wr.cell? ⟨sb, so + j, none⟩ = some (.slice (ps[j]).sa (ps[j]).bs.length (ps[j]).cap) := by
        rcases hpw.cells with h | h
        · rw [h] at hlt; simp at hlt
        · exact h
      have ck := hc k hlt
      have hx := hpw.each (ps[k]) (List.getElem_mem hlt)
      have hxr := hre (ps[k]) (List.getElem_mem hlt)
      have hst : Hid (ps.take (k + 1) = ps.take k ++ [ps[k]]) := List.take_succ_eq_append_getElem hlt
      have hltI : (k : Int) < ps.length := by omega
      clear hc
      generalize ps[k] = p at *
      go_wp2_with fail
      refine (joined_any p.bs [] p.sa none _ _ p.cap 0 wr rfl rfl hx (nilSlice _) (by simpa using hxr)).mono ?_
      rintro e w2 ⟨v2, he, ho2, hb2⟩
      subst he
      dsimp only
      simp only [List.append_nil, List.length_nil, Nat.add_zero] at ho2
      obtain ⟨ra, rc, hv, _, hs2⟩ := owns_form ho2
      subst hv
      have hob := owns_keep ho hb2
      have hB2 := hb.trans (hb2.mono hb.size)
      go_wp2_with (at_builtin; refine wpList_append_own_at _ rfl _ _ 30 rfl w.heap.size 29 i (.slice none 0 0) 1 24 Tryd.underlying30 hi hz0 hz1 hz2 rfl (by decide) _ k _ rfl (World.ownsRow.alloc hob _) ⟨w2.heap.size, 0, none⟩ 1 1 [.slice ra p.bs.length rc] rfl rfl (cells_new _ _ _) (by intro u hu; simp at hu; subst hu; rfl) (by unfold maxLen; omega) (by omega) (le_alloc hB2.size _) ?_; intro v1 w3 ho3 hg3 _ hat)
      have G := Grew.of hg3 hat
      have hap3 := hap.more (q := ⟨ra, rc, p.bs⟩) hb.size ho hb2 ho2 hs2 G
      have hB3 := Below.grown (hB2.alloc hB2.size _) hg3 (le_alloc hB2.size _) (fun q e => (hob.lt q e).1)
      go_roundw
      case rel =>
        have hR : ∃ (k' : Nat) (qs' : List Part), k' ≤ ps.length ∧ (Value.int .i64 ((k : Int) + 1)) = .int .i64 k' ∧ Same qs' (ps.take k') ∧ w3.ownsRow w.heap.size 29 1 v1 k' (pv qs') ∧ Apart w3 w.heap.size v1 qs' ∧ Below w.heap.size w w3 :=
          ⟨k + 1, qs ++ [⟨ra, rc, p.bs⟩], by omega, by go_num, by rw [hst.out]; simp only [Same, List.map_append] at hS ⊢; rw [hS]; rfl, by simpa [pv, Part.val] using ho3, hap3, hB3⟩
        first | exact hR | ((repeat apply Exists.intro); exact ⟨hR, rfl⟩)
      case measure => simp [intOf]; omega
    · obtain rfl : k = ps.length := by omega
      rw [List.take_of_length_le (Nat.le_refl _)] at hS
      obtain ⟨ra, rc, hv, hl, hL, hfr⟩ := listAt_of_owns ho hap
      subst hv
      go_wp2_with fail
      go_ret
      exact ⟨ra, rc, qs, rfl, hS, hL (by omega), hb, hfr, fun sb so e => by subst e; exact (ho.lt sb rfl).2⟩
set_option maxRecDepth 100000 in
set_option maxHeartbeats 1000000 in
theorem headerCopyU_any (au rd : Int) (ba : Option Addr) (bc : Nat) (bl : List Part) (pa : Option Addr) (pc : Nat) (pl : List Part) (w : World) (hb : ReadAt w ba bc bl) (hp : ReadAt w pa pc pl) :
    Calls Tryd.prog 17 #[.agg #[.int .i64 au, .int .i64 rd, .slice ba bl.length bc, .slice pa pl.length pc]] w fun e w' => ∃ xa xc xs ya yc ys, e = .returned (.agg #[.int .i64 au, .int .i64 rd, .slice xa bl.length xc, .slice ya pl.length yc]) ∧ Same xs bl ∧ Same ys pl ∧ ListAt w' xa xc xs ∧ ListAt w' ya yc ys ∧ Below w.heap.size w w' ∧ Fresh w.heap.size xa xs ∧ Fresh w.heap.size ya ys ∧ (∀ sb so, xa = some ⟨sb, so, none⟩ → sb < w'.heap.size) ∧ (∀ sb so, ya = some ⟨sb, so, none⟩ → sb < w'.heap.size) := by
  have hR : Below w.heap.size w ((w.alloc (.cells #[.int .i64 au, .int .i64 rd, .slice ba bl.length bc, .slice pa pl.length pc] 32)).alloc (.cells #[.int .i64 0, .int .i64 0, .slice none 0 0, .slice none 0 0] 32)) := ((Below.refl _ _).alloc (Nat.le_refl _) _).alloc (by simp) _
  have q0 := heap_alloc2_old w (.cells #[.int .i64 au, .int .i64 rd, .slice ba bl.length bc, .slice pa pl.length pc] 32) (.cells #[.int .i64 0, .int .i64 0, .slice none 0 0, .slice none 0 0] 32)
  have k0 : ((w.alloc (.cells #[.int .i64 au, .int .i64 rd, .slice ba bl.length bc, .slice pa pl.length pc] 32)).alloc (.cells #[.int .i64 0, .int .i64 0, .slice none 0 0, .slice none 0 0] 32)).cell? ⟨w.heap.size, 0, none⟩ = some (.int .i64 au) := cells_at q0 0 _ rfl
  have k1 : ((w.alloc (.cells #[.int .i64 au, .int .i64 rd, .slice ba bl.length bc, .slice pa pl.length pc] 32)).alloc (.cells #[.int .i64 0, .int .i64 0, .slice none 0 0, .slice none 0 0] 32)).cell? ⟨w.heap.size, 1, none⟩ = some (.int .i64 rd) := cells_at q0 1 _ rfl
  have k2 : ((w.alloc (.cells #[.int .i64 au, .int .i64 rd, .slice ba bl.length bc, .slice pa pl.length pc] 32)).alloc (.cells #[.int .i64 0, .int .i64 0, .slice none 0 0, .slice none 0 0] 32)).cell? ⟨w.heap.size, 2, none⟩ = some (.slice ba bl.length bc) := cells_at q0 2 _ rfl
  have k3 : ((w.alloc (.cells #[.int .i64 au, .int .i64 rd, .slice ba bl.length bc, .slice pa pl.length pc] 32)).alloc (.cells #[.int .i64 0, .int .i64 0, .slice none 0 0, .slice none 0 0] 32)).cell? ⟨w.heap.size, 3, none⟩ = some (.slice pa pl.length pc) := cells_at q0 3 _ rfl
  go_enter Tryd.func17, Tryd.ntmps17
  go_wp2_with fail
  go_region_held2 (fun w' => w'.cell? ⟨w.heap.size, 0, none⟩ = some (.int .i64 au) ∧ w'.cell? ⟨w.heap.size, 1, none⟩ = some (.int .i64 rd) ∧ w'.cell? ⟨w.heap.size, 2, none⟩ = some (.slice ba bl.length bc) ∧ w'.cell? ⟨w.heap.size, 3, none⟩ = some (.slice pa pl.length pc)) (go_keep) (first | (go_at_call 41; refine (bytesCopiesU_any pl pa _ pc w1 rfl hp.reach hp.each (hp.list.below (below_alloc (below_alloc hb1))).parts).mono ?_; rintro e w2 ⟨ya, yc, ys, rfl, hS2, hL2, hb2, hF2, hU2⟩; have s0 := (hb2.block _ (lt_of_heap r0)).trans r0; have s1 := (hb2.block _ (lt_of_heap r1)).trans r1; have e0 : w2.cell? ⟨w.heap.size, 0, none⟩ = some (.int .i64 au) := cells_at s0 0 _ rfl; have e1 : w2.cell? ⟨w.heap.size, 1, none⟩ = some (.int .i64 rd) := cells_at s0 1 _ rfl; have e2 : w2.cell? ⟨w.heap.size, 2, none⟩ = some (.slice ba bl.length bc) := cells_at s0 2 _ rfl; have e3 : w2.cell? ⟨w.heap.size, 3, none⟩ = some (.slice pa pl.length pc) := cells_at s0 3 _ rfl; have d0 := cells_at s1 0 _ rfl; have d1 := cells_at s1 1 _ rfl; have d2 := cells_at s1 2 _ rfl; have d3 := cells_at s1 3 _ rfl; have f0 := frozen_at s1 0; have f1 := frozen_at s1 1; have f2 := frozen_at s1 2; have f3 := frozen_at s1 3) | (go_at_call 41; refine (bytesCopiesU_any bl ba _ bc ((w.alloc (.cells #[.int .i64 au, .int .i64 rd, .slice ba bl.length bc, .slice pa pl.length pc] 32)).alloc (.cells #[.int .i64 0, .int .i64 0, .slice none 0 0, .slice none 0 0] 32)).drew rfl hb.reach hb.each (hb.list.below hR.drew).parts).mono ?_; rintro e w1 ⟨xa, xc, xs, rfl, hS1, hL1, hb1, hF1, hU1⟩; replace hb1 := below_drew hb1; rw [heap_drew, size_alloc, size_alloc] at hF1; have r1 := row_new hb1; have r0 := row_new (below_alloc hb1); rw [size_alloc] at r1; have c0 : w1.cell? ⟨w.heap.size, 0, none⟩ = some (.int .i64 au) := cells_at r0 0 _ rfl; have c1 : w1.cell? ⟨w.heap.size, 1, none⟩ = some (.int .i64 rd) := cells_at r0 1 _ rfl; have c2 : w1.cell? ⟨w.heap.size, 2, none⟩ = some (.slice ba bl.length bc) := cells_at r0 2 _ rfl; have c3 : w1.cell? ⟨w.heap.size, 3, none⟩ = some (.slice pa pl.length pc) := cells_at r0 3 _ rfl))
  all_goals
    go_wp2_with fail
    have hsz : w.heap.size + 1 + 1 ≤ w1.heap.size := by have := hb1.size; rw [size_alloc, size_alloc] at this; exact this
    have g1 : w.heap.size + 1 < w.heap.size + 1 + 1 := Nat.lt_succ_self _
    have g2 : w.heap.size + 1 < w1.heap.size := by omega
    have hW1 := below_alloc (below_alloc hb1)
    have hW2 := hW1.trans (hb2.mono hW1.size)
    refine bodyPost_ret (v := .agg #[.int .i64 au, .int .i64 rd, .slice xa bl.length xc, .slice ya pl.length yc]) (by simp [results, Tryd.results17, go_sem, d0, d1, d2, d3]) rfl ⟨xa, xc, xs, ya, yc, ys, rfl, hS1, hS2, ?_, ?_, ?_, hF1.mono (by omega), hF2.mono hW1.size, fun sb so e => by simpa using Nat.lt_of_lt_of_le (hU1 sb so e) hb2.size, fun sb so e => by simpa using hU2 sb so e⟩
    · exact ((((hL1.below hb2).setCell hF1 _ _ _ g1).setCell hF1 _ _ _ g1).setCell hF1 _ _ _ g1).setCell hF1 _ _ _ g1
    · exact (((hL2.setCell hF2 _ _ _ g2).setCell hF2 _ _ _ g2).setCell hF2 _ _ _ g2).setCell hF2 _ _ _ g2
    · exact (((hW2.setCell (Nat.le_succ _) _).setCell (Nat.le_succ _) _).setCell (Nat.le_succ _) _).setCell (Nat.le_succ _) _
end Go.Proofs.YtocclphjpofnoaaDoor
