/- The document's HeaderCopy, and where the new lists lie. -/
import Derived.Test.YtocclphjpofnoaaDoorDagFindsM30
import Derived.Test.YtocclphjpofnoaaDoorApp
import Derived.Test.YtocclphjpofnoaaDoorSx
import Derived.Test.YtocclphjpofnoaaDoorCertF
import Derived.Test.YtocclphjpofnoaaDoorDagFindsM0
import Derived.Test.YtocclphjpofnoaaDoorCtFar
import Derived.OwnWalk
namespace Go.Proofs.YtocclphjpofnoaaDoor
open Go.RowKit

/-- What Digests answers. -/
def DigAt (w' : World) (e : Ending) (l : List CV) (rd : Int) : Prop :=
  (dagF l = 12 ∧ e = .returned (.tuple #[.slice none 0 0, .int .i64 12])) ∨ (dagF l = 0 ∧ ∃ ma mc ms, e = .returned (.tuple #[.slice ma (List.length ms) mc, .int .i64 0]) ∧ bss ms = dgF l rd ∧ ListAt w' ma mc ms)
set_option maxRecDepth 100000 in
set_option maxHeartbeats 1000000 in
theorem dagDigests_any (ls : List Ct) (sa : Option Addr) (n cap : Nat) (rd : Int) (w : World) (hn : n = ls.length) (hd : DagAt w sa cap ls) (hT : Tabs w) :
    Calls Tryd.prog 26 #[.agg #[.slice sa n cap], .int .i64 rd] w fun e w' => DigAt w' e (cvs ls) rd ∧ Below w.heap.size w w' := by
  subst hn
  have hA := (Below.refl w.heap.size w).alloc (Nat.le_refl _) (.cells #[.slice sa ls.length cap] 24)
  go_enter Tryd.func26, Tryd.ntmps26
  go_wp2_with fail
  generalize w.alloc (.cells #[.slice sa ls.length cap] 24) = W0 at hA ⊢
  refine (open_any ls sa _ cap W0 rfl (hd.below hA) (hT.below hA)).mono ?_
  rintro e w1 ⟨hO, hb1⟩
  have hB1 := hA.trans (hb1.mono hA.size)
  rcases hO with ⟨hF, he⟩ | ⟨hF, ca, cc, da, dc, ds, he, hs⟩
  · have HF : Hid _ := hF
    clear hF
    subst he
    dsimp only
    go_wp2_with fail
    go_ret2
    exact ⟨.inl ⟨HF.out, rfl⟩, hB1.alloc hB1.size _⟩
  · have HF : Hid _ := hF
    clear hF
    subst he
    dsimp only
    have hA1 := (Below.refl w1.heap.size w1).alloc (Nat.le_refl _) (.cells #[.slice ca ls.length cc, .slice da ls.length dc] 56)
    go_wp2_with fail
    generalize w1.alloc (.cells #[.slice ca ls.length cc, .slice da ls.length dc] 56) = W1 at hA1 ⊢
    refine (digestsOfC_any ls ca cc da dc ds rd W1 (hs.below hA1)).mono ?_
    rintro e w2 ⟨ma, mc, ms, he, hM, hL, _, hb2⟩
    have HM : Hid _ := hM
    clear hM
    subst he
    dsimp only
    have hB2 := hB1.trans ((hA1.trans (hb2.mono hA1.size)).mono hB1.size)
    go_wp2_with fail
    go_ret2
    exact ⟨.inr ⟨HF.out, ma, mc, ms, rfl, HM.out, hL⟩, hB2⟩
set_option maxRecDepth 100000 in
theorem all_f {ls : List Ct} (h : dagF (cvs ls) = 0) : ∀ c ∈ ls, c.v.f = 0 := by
  intro c hc
  obtain ⟨j, hj, rfl⟩ := List.getElem_of_mem hc
  rw [← cvAt_get ls j hj]
  exact dagF_f h j (by rw [cvs_length]; exact hj)
set_option maxRecDepth 100000 in
theorem dag_le {ls : List Ct} (h : dagF (cvs ls) = 0) : ls.length ≤ 400 := by
  have := (dagF_zero h).1
  rw [cvs_length] at this
  exact this
set_option maxRecDepth 100000 in
set_option maxHeartbeats 1000000 in
theorem rDigestsAt_any (ls : List Ct) (sa : Option Addr) (n cap : Nat) (rd : Int) (w : World) (hn : n = ls.length) (hd : DagRd w sa cap ls) :
    Calls Tryd.prog 27 #[.agg #[.slice sa n cap], .int .i64 rd] w fun e w' => DigAt w' e (cvs ls) rd ∧ Below w.heap.size w w' := by
  subst hn
  have hA := (Below.refl w.heap.size w).alloc (Nat.le_refl _) (.cells #[.slice sa ls.length cap] 24)
  have r0 := heap_alloc_new w (.cells #[.slice sa ls.length cap] 24)
  go_enter Tryd.func27, Tryd.ntmps27
  go_wp2_with fail
  generalize w.alloc (.cells #[.slice sa ls.length cap] 24) = W0 at hA r0 ⊢
  refine (dagFault_any ls sa _ cap W0 rfl (hd.below hA)).mono ?_
  rintro e w1 ⟨he, hb1⟩
  subst he
  dsimp only
  have hB1 := hA.trans (hb1.mono hA.size)
  have r1 := (hb1.block _ (lt_of_heap r0)).trans r0
  have c0 := cells_at r1 0 _ rfl
  rcases dagF_or (cvs ls) with h | h
  · have HF : Hid _ := h
    have hd1 := hd.below hB1
    have HD := digestsAt_any ls sa cap rd w1 (dag_le h) hd1.certs hd1.each (all_f h)
    rw [h]
    clear h
    go_wp2_with fail
    refine HD.mono ?_
    rintro e w2 ⟨ma, mc, ms, he, hM, hL, hb2⟩
    have HM : Hid _ := hM
    clear hM
    subst he
    dsimp only
    go_wp2_with fail
    go_ret2
    exact ⟨.inr ⟨HF.out, ma, mc, ms, rfl, HM.out, hL⟩, hB1.trans (hb2.mono hB1.size)⟩
  · have HF : Hid _ := h
    rw [h]
    clear h
    go_wp2_with fail
    go_ret2
    exact ⟨.inl ⟨HF.out, rfl⟩, hB1⟩
end Go.Proofs.YtocclphjpofnoaaDoor

namespace Go.Proofs.YtocclphjpofnoaaDoor
open Go.RowKit

set_option maxRecDepth 100000 in
set_option maxHeartbeats 400000 in
theorem clone_any (bs : List Int) (sa : Option Addr) (n cap : Nat) (w : World) (hn : n = bs.length) (hs : SliceAt w sa cap bs) (hl : bs.length ≤ 140737488355328) :
    Calls Tryd.prog 62 #[.slice sa n cap] w fun e w' => ∃ ra rc, e = .returned (.slice ra bs.length rc) ∧ SliceAt w' ra rc bs ∧ (∀ sb so, ra = some ⟨sb, so, none⟩ → w.heap.size ≤ sb ∧ sb < w'.heap.size) ∧ Below w.heap.size w w' := by
  subst hn
  have hle := hs.le
  cases sa with
  | none =>
    have hc := hs.nil rfl
    have hb : bs = [] := List.eq_nil_of_length_eq_zero (by omega)
    subst hc hb
    have he : ∀ w : World, (binOp .eql 29 (.slice none 0 0) (.slice none 0 0)).run Tryd.prog w = .ok (.bool true) w := fun _ => rfl
    go_enter Tryd.func62, Tryd.ntmps62
    go_wp2_with fail
    go_ret
    exact ⟨none, 0, rfl, hs, (fun _ _ e => by cases e), Below.refl _ _⟩
  | some ad =>
    have he : ∀ w : World, (binOp .eql 29 (.slice (some ad) bs.length cap) (.slice none 0 0)).run Tryd.prog w = .ok (.bool false) w := fun _ => rfl
    have hA : Below w.heap.size w (w.alloc (.cells #[] 5)) := (Below.refl _ _).alloc (Nat.le_refl _) _
    go_enter Tryd.func62, Tryd.ntmps62
    go_wp2_with (at_builtin; refine wpList_append_part rfl _ _ rfl w.heap.size _ 0 [] rfl (World.ownsRow_made _ _ 0 (Nat.le_refl _) (by decide) rfl) (some ad) _ cap bs rfl rfl (hs.below hA) (by omega) hA.size ?_; intro v1 w1 ho1 hg1)
    obtain ⟨ra, rc, hv, hl, hsl⟩ := owns_form ho1
    have hlt := ho1.lt
    subst hv
    go_ret
    refine ⟨ra, rc, ?_, by simpa using hsl, (fun sb so e => hlt sb (by rw [e]; rfl)), ?_⟩
    · simp
    · exact Below.grown hA hg1 hA.size (fun q e => (World.ownsRow.lt (World.ownsRow_made (e := 5) (size := 1) w #[] 0 (Nat.le_refl _) (by decide) rfl) q e).1)
end Go.Proofs.YtocclphjpofnoaaDoor

namespace Go.Proofs.YtocclphjpofnoaaDoor
open Go.RowKit

set_option maxRecDepth 100000 in
theorem infoInt2 : (Tryd.prog.info? 3).map (fun i => (i.zero, i.size, i.bytes)) = some (some (.int .i64 0), 1, 8) := by kernel_rfl
def iv (vl : List Int) : List Value := vl.map (Value.int .i64)
set_option maxRecDepth 100000 in
theorem iv_length (vl : List Int) : (iv vl).length = vl.length := by simp [iv]
set_option maxRecDepth 100000 in
theorem iv_one (vl : List Int) : ∀ u ∈ iv vl, u.oneCell' = true := by
  intro u hu; simp [iv] at hu; obtain ⟨x, _, rfl⟩ := hu; rfl
set_option maxRecDepth 100000 in
theorem intsAt_of_owns {w : World} {base n : Nat} {v : Value} {vl : List Int} (h : w.ownsRow base 3 1 v n (iv vl)) : ∃ za zc, v = .slice za n zc ∧ n = vl.length ∧ IntsAt w za vl ∧ ∀ sb so, za = some ⟨sb, so, none⟩ → base ≤ sb := by
  have hl : n = vl.length := by have := h.1; rw [iv_length] at this; omega
  rcases h.2 with ⟨rfl, hn⟩ | ⟨g, cap, cur, rfl, _⟩
  · have hb : vl = [] := List.eq_nil_of_length_eq_zero (by omega)
    subst hn hb
    exact ⟨none, 0, rfl, rfl, ⟨.inl rfl⟩, fun _ _ e => by cases e⟩
  · refine ⟨some ⟨g, 0, none⟩, cap, rfl, hl, ⟨.inr ⟨g, 0, rfl, fun j hj => ?_⟩⟩, fun sb so e => by cases e; exact (h.lt _ rfl).1⟩
    rw [Nat.zero_add, World.ownsRow.cellAt h j (by omega)]
    simp [iv, hj]
set_option maxRecDepth 100000 in
theorem IntsAt.setCell {w : World} {va : Option Addr} {vl : List Int} (h : IntsAt w va vl) (b j : Nat) (v : Value) (hne : ∀ sb so, va = some ⟨sb, so, none⟩ → b ≠ sb) : IntsAt (w.setCell ⟨b, j, none⟩ v) va vl := by
  refine ⟨?_⟩
  rcases h.cells with h | ⟨sb, so, rfl, hc⟩
  · exact .inl h
  · exact .inr ⟨sb, so, rfl, fun k hk => (World.cell?_setCell_far _ _ _ _ (hne sb so rfl)).trans (hc k hk)⟩
end Go.Proofs.YtocclphjpofnoaaDoor

namespace Go.Proofs.YtocclphjpofnoaaDoor
open Go.RowKit

set_option maxRecDepth 100000 in
set_option maxHeartbeats 1000000 in
theorem cloneDigests_any (ps : List Part) (sa : Option Addr) (n cap : Nat) (w : World) (hn : n = ps.length) (hl4 : ps.length ≤ 1000) (hre : ∀ p ∈ ps, p.bs.length ≤ 140737488355328) (hp : PartsAt w sa ps) :
    Calls Tryd.prog 40 #[.slice sa n cap] w fun e w' => ∃ ra rc qs, e = .returned (.slice ra ps.length rc) ∧ Same qs ps ∧ ListAt w' ra rc qs ∧ Below w.heap.size w w' ∧ Fresh w.heap.size ra qs ∧ (∀ sb so, ra = some ⟨sb, so, none⟩ → sb < w'.heap.size) := by
  subst hn
  obtain ⟨i, hi, hz0, hz1, hz2⟩ := info_parts infoBs
  go_enter Tryd.func40, Tryd.ntmps40
  go_wp2_with (at_make; refine wpList_make_own _ rfl _ _ 30 rfl w.heap.size 29 i (.slice none 0 0) 1 Tryd.underlying30 hi hz0 hz1 .i64 .i64 _ ps.length rfl rfl (by go_num) (by rw [hz2]; omega) (by unfold maxLen; omega) (Nat.le_refl _) ?_; intro w1 ho1 hg1)
  go_wp2_with fail
  go_loopw [11, 3] (fun j v wr => ∃ (k : Nat) (qs : List Part), k ≤ ps.length ∧ j = .int .i64 k ∧ Same qs (ps.take k) ∧ wr.ownsRow w.heap.size 29 1 v k (pv qs) ∧ Apart wr w.heap.size v qs ∧ Below w.heap.size w wr) (fun j _ _ => ps.length - (intOf j).toNat)
  case atStart => exact ⟨0, [], Nat.zero_le _, rfl, by simp [Same], ho1, (fun p hp => by cases hp), grown_none hg1⟩
  case round =>
    obtain ⟨k, qs, hk, rfl, hS, ho, hap, hb⟩ := hrel
    by_cases hlt : k < ps.length
    · have hpw := hp.below hb
      obtain ⟨sb, so, rfl, hc⟩ : ∃ sb so, sa = some ⟨sb, so, none⟩ ∧ ∀ j (h : j < ps.length), wr.cell? ⟨sb, so + j, none⟩ = some (.slice (ps[j]).sa (ps[j]).bs.length (ps[j]).cap) := by
        rcases hpw.cells with h | h
        · rw [h] at hlt; simp at hlt
        · exact h
      have ck := hc k hlt
      have hx := hpw.each (ps[k]) (List.getElem_mem hlt)
      have hxr := hre (ps[k]) (List.getElem_mem hlt)
      have hst : Hid (ps.take (k + 1) = ps.take k ++ [ps[k]]) := List.take_succ_eq_append_getElem hlt
      have hltI : (k : Int) < ps.length := by omega
      clear hc
      generalize ps[k] = p at *
      go_wp2_with fail
      refine (clone_any p.bs p.sa _ p.cap wr rfl hx hxr).mono ?_
      rintro e w2 ⟨ra, rc, he, hs2, hrow, hb2⟩
      subst he
      dsimp only
      have hob := owns_keep ho hb2
      have hB2 := hb.trans (hb2.mono hb.size)
      go_wp2_with (at_builtin; refine wpList_append_own_at _ rfl _ _ 30 rfl w.heap.size 29 i (.slice none 0 0) 1 24 Tryd.underlying30 hi hz0 hz1 hz2 rfl (by decide) _ k _ rfl (World.ownsRow.alloc hob _) ⟨w2.heap.size, 0, none⟩ 1 1 [.slice ra p.bs.length rc] rfl rfl (cells_new _ _ _) (by intro u hu; simp at hu; subst hu; rfl) (by unfold maxLen; omega) (by omega) (le_alloc hB2.size _) ?_; intro v1 w3 ho3 hg3 _ hat)
      have G := Grew.of hg3 hat
      have hap3 := hap.more_at (q := ⟨ra, rc, p.bs⟩) hb.size ho hb2 hrow hs2 G
      have hB3 := Below.grown (hB2.alloc hB2.size _) hg3 (le_alloc hB2.size _) (fun q e => (hob.lt q e).1)
      go_wp2_with fail
      go_roundw
      case rel =>
        have hR : ∃ (k' : Nat) (qs' : List Part), k' ≤ ps.length ∧ (Value.int .i64 ((k : Int) + 1)) = .int .i64 k' ∧ Same qs' (ps.take k') ∧ w3.ownsRow w.heap.size 29 1 v1 k' (pv qs') ∧ Apart w3 w.heap.size v1 qs' ∧ Below w.heap.size w w3 :=
          ⟨k + 1, qs ++ [⟨ra, rc, p.bs⟩], by omega, by go_num, by rw [hst.out]; simp only [Same, List.map_append] at hS ⊢; rw [hS]; rfl, by simpa [pv, Part.val] using ho3, hap3, hB3⟩
        first | exact hR | ((repeat apply Exists.intro); exact ⟨hR, rfl⟩)
      case measure => simp [intOf]; omega
    · obtain rfl : k = ps.length := by omega
      rw [List.take_of_length_le (Nat.le_refl _)] at hS
      obtain ⟨ra, rc, hv, hl, hL, hfr⟩ := listAt_of_owns ho hap
      subst hv
      go_wp2_with fail
      go_ret
      exact ⟨ra, rc, qs, rfl, hS, hL (by omega), hb, hfr, fun sb so e => by subst e; exact (ho.lt sb rfl).2⟩
set_option maxRecDepth 100000 in
theorem infoIntC : (Tryd.prog.info? 3).map (fun i => (i.zero, i.size, i.bytes)) = some (some (.int .i64 0), 1, 8) := by kernel_rfl
set_option maxRecDepth 100000 in
set_option maxHeartbeats 400000 in
theorem cloneInts_any (vl : List Int) (va : Option Addr) (n cap : Nat) (w : World) (hn : n = vl.length) (hl : vl.length ≤ 1000) (hs : IntsAt w va vl) :
    Calls Tryd.prog 56 #[.slice va n cap] w fun e w' => ∃ ra rc, e = .returned (.slice ra vl.length rc) ∧ IntsAt w' ra vl ∧ (∀ sb so, ra = some ⟨sb, so, none⟩ → w.heap.size ≤ sb ∧ sb < w'.heap.size) ∧ Below w.heap.size w w' := by
  subst hn
  obtain ⟨i, hi, hz0, hz1, hz2⟩ := info_parts infoIntC
  cases va with
  | none =>
    have hb : vl = [] := by
      rcases hs.cells with h | ⟨_, _, h, _⟩
      · exact h
      · cases h
    subst hb
    have he : ∀ w : World, (binOp .eql 33 (.slice none 0 cap) (.slice none 0 0)).run Tryd.prog w = .ok (.bool true) w := fun _ => rfl
    go_enter Tryd.func56, Tryd.ntmps56
    go_wp2_with fail
    go_ret
    exact ⟨none, 0, rfl, ⟨.inl rfl⟩, (fun _ _ e => by cases e), Below.refl _ _⟩
  | some ad =>
    have he : ∀ w : World, (binOp .eql 33 (.slice (some ad) vl.length cap) (.slice none 0 0)).run Tryd.prog w = .ok (.bool false) w := fun _ => rfl
    have hA : Below w.heap.size w (w.alloc (.cells #[] 3)) := (Below.refl _ _).alloc (Nat.le_refl _) _
    have hcells : ∀ j u, (iv vl)[j]? = some u → (w.alloc (.cells #[] 3)).cell? (ad.add j) = some u := fun j u hu => by
      have hj : j < vl.length := by
        rcases Nat.lt_or_ge j vl.length with h | h
        · exact h
        · rw [List.getElem?_eq_none (by rw [iv_length]; exact h)] at hu; cases hu
      rcases (hs.below hA).cells with h | ⟨sb, so, e, hc⟩
      · rw [h] at hj; simp at hj
      · cases e
        have e2 := hc j hj
        simp only [iv, List.getElem?_map, List.getElem?_eq_getElem hj, Option.map_some, Option.some.injEq] at hu
        subst hu
        have e3 : (⟨sb, so, none⟩ : Addr).add j = ⟨sb, so + j, none⟩ := by
          simp only [Addr.add]
          split
          · rename_i h
            subst h
            rfl
          · rfl
        rw [e3, e2]
        simp [List.getD, hj]
    go_enter Tryd.func56, Tryd.ntmps56
    go_wp2_with (at_builtin; refine wpList_append_own_at _ rfl _ _ 33 rfl w.heap.size 3 i (.int .i64 0) 1 8 Tryd.underlying33 hi hz0 hz1 hz2 rfl (by decide) _ 0 [] rfl (World.ownsRow_made _ _ 0 (Nat.le_refl _) (by decide) rfl) ad vl.length cap (iv vl) rfl (by simp [iv]) hcells (iv_one vl) (by unfold maxLen; omega) (by omega) hA.size ?_; intro v1 w1 ho1 hg1 _ hat)
    rw [List.nil_append, Nat.zero_add] at ho1
    obtain ⟨ra, rc, hv, _, hI, hfr⟩ := intsAt_of_owns ho1
    have hlt := ho1.lt
    subst hv
    go_ret
    refine ⟨ra, rc, rfl, hI, (fun sb so e => hlt sb (by rw [e]; rfl)), ?_⟩
    exact Below.grown hA hg1 hA.size (fun q e => (World.ownsRow.lt (World.ownsRow_made (e := 3) (size := 1) w #[] 0 (Nat.le_refl _) (by decide) rfl) q e).1)
end Go.Proofs.YtocclphjpofnoaaDoor

namespace Go.Proofs.YtocclphjpofnoaaDoor
open Go.RowKit

set_option maxRecDepth 100000 in
set_option maxHeartbeats 1000000 in
theorem cloneCert_any (c : Ct) (w : World) (hc : CtAt w c) (h1 : c.bl.length ≤ 1000) (h2 : c.pl.length ≤ 1000) (h3 : c.vl.length ≤ 1000) (h4 : ∀ p ∈ c.bl, p.bs.length ≤ 140737488355328) (h5 : ∀ p ∈ c.pl, p.bs.length ≤ 140737488355328) :
    Calls Tryd.prog 34 #[.agg #[.int .i64 c.au, .int .i64 c.rd, .slice c.ba c.bl.length c.bc, .slice c.pa c.pl.length c.pc, .slice c.va c.vl.length c.vc]] w fun e w' => ∃ k : Ct, e = .returned (.agg #[.int .i64 k.au, .int .i64 k.rd, .slice k.ba k.bl.length k.bc, .slice k.pa k.pl.length k.pc, .slice k.va k.vl.length k.vc]) ∧ k.v = c.v ∧ CtAt w' k ∧ (∀ b, CtIn k b → w.heap.size ≤ b) ∧ Below w.heap.size w w' := by
  have HB : Hid (∀ p ∈ c.bl, p.bs.length ≤ 140737488355328) := h4
  have HP : Hid (∀ p ∈ c.pl, p.bs.length ≤ 140737488355328) := h5
  clear h4 h5
  have hA : Below w.heap.size w ((w.alloc (.cells #[.int .i64 c.au, .int .i64 c.rd, .slice c.ba c.bl.length c.bc, .slice c.pa c.pl.length c.pc, .slice c.va c.vl.length c.vc] 35)).alloc (.cells #[.int .i64 0, .int .i64 0, .slice none 0 0, .slice none 0 0, .slice none 0 0] 35)) := ((Below.refl _ _).alloc (Nat.le_refl _) _).alloc (by rw [size_alloc]; omega) _
  have q0 := heap_alloc2_old w (.cells #[.int .i64 c.au, .int .i64 c.rd, .slice c.ba c.bl.length c.bc, .slice c.pa c.pl.length c.pc, .slice c.va c.vl.length c.vc] 35) (.cells #[.int .i64 0, .int .i64 0, .slice none 0 0, .slice none 0 0, .slice none 0 0] 35)
  have q1 : ((w.alloc (.cells #[.int .i64 c.au, .int .i64 c.rd, .slice c.ba c.bl.length c.bc, .slice c.pa c.pl.length c.pc, .slice c.va c.vl.length c.vc] 35)).alloc (.cells #[.int .i64 0, .int .i64 0, .slice none 0 0, .slice none 0 0, .slice none 0 0] 35)).heap[w.heap.size + 1]? = some (.cells #[.int .i64 0, .int .i64 0, .slice none 0 0, .slice none 0 0, .slice none 0 0] 35 (0, 0)) := by
    have := heap_alloc_new (w.alloc (.cells #[.int .i64 c.au, .int .i64 c.rd, .slice c.ba c.bl.length c.bc, .slice c.pa c.pl.length c.pc, .slice c.va c.vl.length c.vc] 35)) (.cells #[.int .i64 0, .int .i64 0, .slice none 0 0, .slice none 0 0, .slice none 0 0] 35)
    rw [size_alloc] at this; exact this
  go_enter Tryd.func34, Tryd.ntmps34
  go_wp2_with fail
  generalize (w.alloc (.cells #[.int .i64 c.au, .int .i64 c.rd, .slice c.ba c.bl.length c.bc, .slice c.pa c.pl.length c.pc, .slice c.va c.vl.length c.vc] 35)).alloc (.cells #[.int .i64 0, .int .i64 0, .slice none 0 0, .slice none 0 0, .slice none 0 0] 35) = W0 at hA q0 q1 ⊢
  have l1 : w.heap.size + 1 < W0.heap.size := lt_of_heap q1
  have l0 : w.heap.size < W0.heap.size := lt_of_heap q0
  have c0 := hc.below hA
  refine (cloneDigests_any c.bl c.ba _ c.bc W0 rfl h1 HB.out c0.hat.lb.parts).mono ?_
  rintro e w1 ⟨xa, xc, xs, he, hS1, hL1, hb1, hF1, hU1⟩
  subst he
  dsimp only
  have r0 := (hb1.block _ l0).trans q0
  have r1 := (hb1.block _ l1).trans q1
  have e2 := cells_at r0 2 _ rfl
  have f2 := frozen_at r0 2
  have e3 := cells_at r0 3 _ rfl
  have hB1 := hA.trans (hb1.mono hA.size)
  have s0 := heap_setCell_same _ _ 2 _ _ (.slice xa c.bl.length xc) r0
  have s1 := heap_far (b := w.heap.size) (j := 2) (v := .slice xa c.bl.length xc) r1 (Nat.succ_ne_self _)
  have hX1 := hB1.setCell (p := ⟨w.heap.size, 2, none⟩) (Nat.le_refl _) (.slice xa c.bl.length xc)
  have hL1 := hL1.setCell hF1 w.heap.size 2 (.slice xa c.bl.length xc) l0
  have hz1 : W0.heap.size ≤ (w1.setCell ⟨w.heap.size, 2, none⟩ (.slice xa c.bl.length xc)).heap.size := by simpa using hb1.size
  have hU1' : ∀ sb so, xa = some ⟨sb, so, none⟩ → sb < (w1.setCell ⟨w.heap.size, 2, none⟩ (.slice xa c.bl.length xc)).heap.size := fun sb so e => by simpa using hU1 sb so e
  go_wp2_with fail
  generalize w1.setCell ⟨w.heap.size, 2, none⟩ (.slice xa c.bl.length xc) = X1 at s0 s1 hX1 hL1 hz1 hU1' ⊢
  have s0' : X1.heap[w.heap.size]? = some (.cells #[.int .i64 c.au, .int .i64 c.rd, .slice xa c.bl.length xc, .slice c.pa c.pl.length c.pc, .slice c.va c.vl.length c.vc] 35 (0, 0)) := by simpa using s0
  clear s0 e2 f2 e3 r0 r1
  have c1 := hc.below hX1
  refine (cloneDigests_any c.pl c.pa _ c.pc X1 rfl h2 HP.out c1.hat.lp.parts).mono ?_
  rintro e w2 ⟨ya, yc, ys, he, hS2, hL2, hb2, hF2, hU2⟩
  subst he
  dsimp only
  have t0 := (hb2.block _ (lt_of_heap s0')).trans s0'
  have t1 := (hb2.block _ (lt_of_heap s1)).trans s1
  have e3 := cells_at t0 3 _ rfl
  have f3 := frozen_at t0 3
  have e4 := cells_at t0 4 _ rfl
  have hB2 := hX1.trans (hb2.mono hX1.size)
  have u0 := heap_setCell_same _ _ 3 _ _ (.slice ya c.pl.length yc) t0
  have u1 := heap_far (b := w.heap.size) (j := 3) (v := .slice ya c.pl.length yc) t1 (Nat.succ_ne_self _)
  have hX2 := hB2.setCell (p := ⟨w.heap.size, 3, none⟩) (Nat.le_refl _) (.slice ya c.pl.length yc)
  have hF2' : Fresh W0.heap.size ya ys := hF2.mono hz1
  have hL1 := (hL1.below hb2).setCell hF1 w.heap.size 3 (.slice ya c.pl.length yc) l0
  have hL2 := hL2.setCell hF2' w.heap.size 3 (.slice ya c.pl.length yc) l0
  have hz2 : W0.heap.size ≤ (w2.setCell ⟨w.heap.size, 3, none⟩ (.slice ya c.pl.length yc)).heap.size := by have := hb2.size; simp; omega
  have hV1 : ∀ sb so, xa = some ⟨sb, so, none⟩ → sb < (w2.setCell ⟨w.heap.size, 3, none⟩ (.slice ya c.pl.length yc)).heap.size := fun sb so e => by have := hU1' sb so e; have := hb2.size; simp; omega
  have hV2 : ∀ sb so, ya = some ⟨sb, so, none⟩ → sb < (w2.setCell ⟨w.heap.size, 3, none⟩ (.slice ya c.pl.length yc)).heap.size := fun sb so e => by simpa using hU2 sb so e
  go_wp2_with fail
  generalize w2.setCell ⟨w.heap.size, 3, none⟩ (.slice ya c.pl.length yc) = X2 at u0 u1 hX2 hL1 hL2 hz2 hV1 hV2 ⊢
  have u0' : X2.heap[w.heap.size]? = some (.cells #[.int .i64 c.au, .int .i64 c.rd, .slice xa c.bl.length xc, .slice ya c.pl.length yc, .slice c.va c.vl.length c.vc] 35 (0, 0)) := by simpa using u0
  clear u0 e3 f3 e4 t0 t1 s0' s1
  have c2 := hc.below hX2
  refine (cloneInts_any c.vl c.va _ c.vc X2 rfl h3 c2.ints).mono ?_
  rintro e w3 ⟨za, zc, he, hZ, hF3, hb3⟩
  subst he
  dsimp only
  have v0 := (hb3.block _ (lt_of_heap u0')).trans u0'
  have v1 := (hb3.block _ (lt_of_heap u1)).trans u1
  have g0 := cells_at v0 0 _ rfl
  have g1 := cells_at v0 1 _ rfl
  have g2 := cells_at v0 2 _ rfl
  have g3 := cells_at v0 3 _ rfl
  have g4 := cells_at v0 4 _ rfl
  have gf4 := frozen_at v0 4
  have d0 := cells_at v1 0 _ rfl
  have d1 := cells_at v1 1 _ rfl
  have d2 := cells_at v1 2 _ rfl
  have d3 := cells_at v1 3 _ rfl
  have d4 := cells_at v1 4 _ rfl
  have f0 := frozen_at v1 0
  have f1 := frozen_at v1 1
  have f2 := frozen_at v1 2
  have f3 := frozen_at v1 3
  have f4 := frozen_at v1 4
  have hne : w.heap.size ≠ w.heap.size + 1 := by omega
  have hB3 := hX2.trans (hb3.mono hX2.size)
  have hLx := (hL1.below hb3).setCell hF1 w.heap.size 4 (.slice za c.vl.length zc) l0
  have hLy := (hL2.below hb3).setCell hF2' w.heap.size 4 (.slice za c.vl.length zc) l0
  have hzn0 : ∀ sb so, za = some ⟨sb, so, none⟩ → w.heap.size ≠ sb := fun sb so e => by have := (hF3 sb so e).1; omega
  have hzn1 : ∀ sb so, za = some ⟨sb, so, none⟩ → w.heap.size + 1 ≠ sb := fun sb so e => by have := (hF3 sb so e).1; omega
  have hZx := hZ.setCell w.heap.size 4 (.slice za c.vl.length zc) hzn0
  have hBx := hB3.setCell (p := ⟨w.heap.size, 4, none⟩) (Nat.le_refl _) (.slice za c.vl.length zc)
  have E1 : Hid (xs.length = c.bl.length) := hS1.length
  have E2 : Hid (ys.length = c.pl.length) := hS2.length
  have HV : Hid ((⟨c.au, c.rd, xa, xc, xs, ya, yc, ys, za, zc, c.vl⟩ : Ct).v = c.v) := by
    show Ct.v _ = _
    simp only [Ct.v]
    rw [bss_same hS1, bss_same hS2]
  go_wp2_with fail
  refine bodyPost_ret (v := .agg #[.int .i64 c.au, .int .i64 c.rd, .slice xa c.bl.length xc, .slice ya c.pl.length yc, .slice za c.vl.length zc]) (by simp [results, Tryd.results34, go_sem, d0, d1, d2, d3, d4]) rfl ⟨⟨c.au, c.rd, xa, xc, xs, ya, yc, ys, za, zc, c.vl⟩, by rw [E1.out, E2.out], HV.out, ⟨⟨?_, ?_, ?_, ?_⟩, ?_, hc.vle⟩, ?_, ?_⟩
  · exact ((((hLx.setCell hF1 _ _ _ l1).setCell hF1 _ _ _ l1).setCell hF1 _ _ _ l1).setCell hF1 _ _ _ l1).setCell hF1 _ _ _ l1
  · exact ((((hLy.setCell hF2' _ _ _ l1).setCell hF2' _ _ _ l1).setCell hF2' _ _ _ l1).setCell hF2' _ _ _ l1).setCell hF2' _ _ _ l1
  · intro sb so e
    have := hV1 sb so e
    have := hb3.size
    simp; omega
  · intro sb so e
    have := hV2 sb so e
    have := hb3.size
    simp; omega
  · exact ((((hZx.setCell _ _ _ hzn1).setCell _ _ _ hzn1).setCell _ _ _ hzn1).setCell _ _ _ hzn1).setCell _ _ _ hzn1
  · rintro b (⟨so, e⟩ | ⟨so, e⟩ | ⟨p, hp, _, so, e⟩ | ⟨_, so, e⟩)
    · have := hF1.row b so e; omega
    · have := hF2'.row b so e; omega
    · rcases List.mem_append.1 hp with hp | hp
      · have := hF1.each p hp b so e; omega
      · have := hF2'.each p hp b so e; omega
    · have := (hF3 b so e).1; omega
  · exact ((((hBx.setCell (Nat.le_succ _) _).setCell (Nat.le_succ _) _).setCell (Nat.le_succ _) _).setCell (Nat.le_succ _) _).setCell (Nat.le_succ _) _
end Go.Proofs.YtocclphjpofnoaaDoor

namespace Go.Proofs.YtocclphjpofnoaaDoor
open Go.RowKit

set_option maxRecDepth 100000 in
set_option maxHeartbeats 1000000 in
theorem bytesCopiesU_any (ps : List Part) (sa : Option Addr) (n cap : Nat) (w : World) (hn : n = ps.length) (hr : ps.length * 24 ≤ 140737488355328) (hre : ∀ p ∈ ps, p.bs.length ≤ 140737488355328) (hp : PartsAt w sa ps) :
    Calls Tryd.prog 41 #[.slice sa n cap] w fun e w' => ∃ ra rc qs, e = .returned (.slice ra ps.length rc) ∧ Same qs ps ∧ ListAt w' ra rc qs ∧ Below w.heap.size w w' ∧ Fresh w.heap.size ra qs ∧ (∀ sb so, ra = some ⟨sb, so, none⟩ → sb < w'.heap.size) := by
  subst hn
  obtain ⟨i, hi, hz0, hz1, hz2⟩ := info_parts infoBs
  go_enter Tryd.func41, Tryd.ntmps41
  go_wp2_with fail
  go_loopw [4, 3] (fun j v wr => ∃ (k : Nat) (qs : List Part), k ≤ ps.length ∧ j = .int .i64 k ∧ Same qs (ps.take k) ∧ wr.ownsRow w.heap.size 29 1 v k (pv qs) ∧ Apart wr w.heap.size v qs ∧ Below w.heap.size w wr) (fun j _ _ => ps.length - (intOf j).toNat)
  case atStart => exact ⟨0, [], Nat.zero_le _, rfl, by simp [Same], World.ownsRow_nil _ _ _ _, (fun p hp => by cases hp), Below.refl _ _⟩
  case round =>
    obtain ⟨k, qs, hk, rfl, hS, ho, hap, hb⟩ := hrel
    by_cases hlt : k < ps.length
    · have hpw := hp.below hb
      obtain ⟨sb, so, rfl, hc⟩ : ∃ sb so, sa = some ⟨sb, so, none⟩ ∧ ∀ j (h : j < ps.length), wr.cell? ⟨sb, so + j, none⟩ = some (.slice (ps[j]).sa (ps[j]).bs.length (ps[j]).cap) := by
        rcases hpw.cells with h | h
        · rw [h] at hlt; simp at hlt
        · exact h
      have ck := hc k hlt
      have hx := hpw.each (ps[k]) (List.getElem_mem hlt)
      have hxr := hre (ps[k]) (List.getElem_mem hlt)
      have hst : Hid (ps.take (k + 1) = ps.take k ++ [ps[k]]) := List.take_succ_eq_append_getElem hlt
      have hltI : (k : Int) < ps.length := by omega
      clear hc
      generalize ps[k] = p at *
      go_wp2_with fail
      refine (joined_any p.bs [] p.sa none _ _ p.cap 0 wr rfl rfl hx (nilSlice _) (by simpa using hxr)).mono ?_
      rintro e w2 ⟨v2, he, ho2, hb2⟩
      subst he
      dsimp only
      simp only [List.append_nil, List.length_nil, Nat.add_zero] at ho2
      obtain ⟨ra, rc, hv, _, hs2⟩ := owns_form ho2
      subst hv
      have hob := owns_keep ho hb2
      have hB2 := hb.trans (hb2.mono hb.size)
      go_wp2_with (at_builtin; refine wpList_append_own_at _ rfl _ _ 30 rfl w.heap.size 29 i (.slice none 0 0) 1 24 Tryd.underlying30 hi hz0 hz1 hz2 rfl (by decide) _ k _ rfl (World.ownsRow.alloc hob _) ⟨w2.heap.size, 0, none⟩ 1 1 [.slice ra p.bs.length rc] rfl rfl (cells_new _ _ _) (by intro u hu; simp at hu; subst hu; rfl) (by unfold maxLen; omega) (by omega) (le_alloc hB2.size _) ?_; intro v1 w3 ho3 hg3 _ hat)
      have G := Grew.of hg3 hat
      have hap3 := hap.more (q := ⟨ra, rc, p.bs⟩) hb.size ho hb2 ho2 hs2 G
      have hB3 := Below.grown (hB2.alloc hB2.size _) hg3 (le_alloc hB2.size _) (fun q e => (hob.lt q e).1)
      go_roundw
      case rel =>
        have hR : ∃ (k' : Nat) (qs' : List Part), k' ≤ ps.length ∧ (Value.int .i64 ((k : Int) + 1)) = .int .i64 k' ∧ Same qs' (ps.take k') ∧ w3.ownsRow w.heap.size 29 1 v1 k' (pv qs') ∧ Apart w3 w.heap.size v1 qs' ∧ Below w.heap.size w w3 :=
          ⟨k + 1, qs ++ [⟨ra, rc, p.bs⟩], by omega, by go_num, by rw [hst.out]; simp only [Same, List.map_append] at hS ⊢; rw [hS]; rfl, by simpa [pv, Part.val] using ho3, hap3, hB3⟩
        first | exact hR | ((repeat apply Exists.intro); exact ⟨hR, rfl⟩)
      case measure => simp [intOf]; omega
    · obtain rfl : k = ps.length := by omega
      rw [List.take_of_length_le (Nat.le_refl _)] at hS
      obtain ⟨ra, rc, hv, hl, hL, hfr⟩ := listAt_of_owns ho hap
      subst hv
      go_wp2_with fail
      go_ret
      exact ⟨ra, rc, qs, rfl, hS, hL (by omega), hb, hfr, fun sb so e => by subst e; exact (ho.lt sb rfl).2⟩
set_option maxRecDepth 100000 in
set_option maxHeartbeats 1000000 in
theorem headerCopyU_any (au rd : Int) (ba : Option Addr) (bc : Nat) (bl : List Part) (pa : Option Addr) (pc : Nat) (pl : List Part) (w : World) (hb : ReadAt w ba bc bl) (hp : ReadAt w pa pc pl) :
    Calls Tryd.prog 17 #[.agg #[.int .i64 au, .int .i64 rd, .slice ba bl.length bc, .slice pa pl.length pc]] w fun e w' => ∃ xa xc xs ya yc ys, e = .returned (.agg #[.int .i64 au, .int .i64 rd, .slice xa bl.length xc, .slice ya pl.length yc]) ∧ Same xs bl ∧ Same ys pl ∧ ListAt w' xa xc xs ∧ ListAt w' ya yc ys ∧ Below w.heap.size w w' ∧ Fresh w.heap.size xa xs ∧ Fresh w.heap.size ya ys ∧ (∀ sb so, xa = some ⟨sb, so, none⟩ → sb < w'.heap.size) ∧ (∀ sb so, ya = some ⟨sb, so, none⟩ → sb < w'.heap.size) := by
  have hR : Below w.heap.size w ((w.alloc (.cells #[.int .i64 au, .int .i64 rd, .slice ba bl.length bc, .slice pa pl.length pc] 32)).alloc (.cells #[.int .i64 0, .int .i64 0, .slice none 0 0, .slice none 0 0] 32)) := ((Below.refl _ _).alloc (Nat.le_refl _) _).alloc (by simp) _
  have q0 := heap_alloc2_old w (.cells #[.int .i64 au, .int .i64 rd, .slice ba bl.length bc, .slice pa pl.length pc] 32) (.cells #[.int .i64 0, .int .i64 0, .slice none 0 0, .slice none 0 0] 32)
  have k0 : ((w.alloc (.cells #[.int .i64 au, .int .i64 rd, .slice ba bl.length bc, .slice pa pl.length pc] 32)).alloc (.cells #[.int .i64 0, .int .i64 0, .slice none 0 0, .slice none 0 0] 32)).cell? ⟨w.heap.size, 0, none⟩ = some (.int .i64 au) := cells_at q0 0 _ rfl
  have k1 : ((w.alloc (.cells #[.int .i64 au, .int .i64 rd, .slice ba bl.length bc, .slice pa pl.length pc] 32)).alloc (.cells #[.int .i64 0, .int .i64 0, .slice none 0 0, .slice none 0 0] 32)).cell? ⟨w.heap.size, 1, none⟩ = some (.int .i64 rd) := cells_at q0 1 _ rfl
  have k2 : ((w.alloc (.cells #[.int .i64 au, .int .i64 rd, .slice ba bl.length bc, .slice pa pl.length pc] 32)).alloc (.cells #[.int .i64 0, .int .i64 0, .slice none 0 0, .slice none 0 0] 32)).cell? ⟨w.heap.size, 2, none⟩ = some (.slice ba bl.length bc) := cells_at q0 2 _ rfl
  have k3 : ((w.alloc (.cells #[.int .i64 au, .int .i64 rd, .slice ba bl.length bc, .slice pa pl.length pc] 32)).alloc (.cells #[.int .i64 0, .int .i64 0, .slice none 0 0, .slice none 0 0] 32)).cell? ⟨w.heap.size, 3, none⟩ = some (.slice pa pl.length pc) := cells_at q0 3 _ rfl
  go_enter Tryd.func17, Tryd.ntmps17
  go_wp2_with fail
  go_region_held2 (fun w' => w'.cell? ⟨w.heap.size, 0, none⟩ = some (.int .i64 au) ∧ w'.cell? ⟨w.heap.size, 1, none⟩ = some (.int .i64 rd) ∧ w'.cell? ⟨w.heap.size, 2, none⟩ = some (.slice ba bl.length bc) ∧ w'.cell? ⟨w.heap.size, 3, none⟩ = some (.slice pa pl.length pc)) (go_keep) (first | (go_at_call 41; refine (bytesCopiesU_any pl pa _ pc w1 rfl hp.reach hp.each (hp.list.below (below_alloc (below_alloc hb1))).parts).mono ?_; rintro e w2 ⟨ya, yc, ys, rfl, hS2, hL2, hb2, hF2, hU2⟩; have s0 := (hb2.block _ (lt_of_heap r0)).trans r0; have s1 := (hb2.block _ (lt_of_heap r1)).trans r1; have e0 : w2.cell? ⟨w.heap.size, 0, none⟩ = some (.int .i64 au) := cells_at s0 0 _ rfl; have e1 : w2.cell? ⟨w.heap.size, 1, none⟩ = some (.int .i64 rd) := cells_at s0 1 _ rfl; have e2 : w2.cell? ⟨w.heap.size, 2, none⟩ = some (.slice ba bl.length bc) := cells_at s0 2 _ rfl; have e3 : w2.cell? ⟨w.heap.size, 3, none⟩ = some (.slice pa pl.length pc) := cells_at s0 3 _ rfl; have d0 := cells_at s1 0 _ rfl; have d1 := cells_at s1 1 _ rfl; have d2 := cells_at s1 2 _ rfl; have d3 := cells_at s1 3 _ rfl; have f0 := frozen_at s1 0; have f1 := frozen_at s1 1; have f2 := frozen_at s1 2; have f3 := frozen_at s1 3) | (go_at_call 41; refine (bytesCopiesU_any bl ba _ bc ((w.alloc (.cells #[.int .i64 au, .int .i64 rd, .slice ba bl.length bc, .slice pa pl.length pc] 32)).alloc (.cells #[.int .i64 0, .int .i64 0, .slice none 0 0, .slice none 0 0] 32)).drew rfl hb.reach hb.each (hb.list.below hR.drew).parts).mono ?_; rintro e w1 ⟨xa, xc, xs, rfl, hS1, hL1, hb1, hF1, hU1⟩; replace hb1 := below_drew hb1; rw [heap_drew, size_alloc, size_alloc] at hF1; have r1 := row_new hb1; have r0 := row_new (below_alloc hb1); rw [size_alloc] at r1; have c0 : w1.cell? ⟨w.heap.size, 0, none⟩ = some (.int .i64 au) := cells_at r0 0 _ rfl; have c1 : w1.cell? ⟨w.heap.size, 1, none⟩ = some (.int .i64 rd) := cells_at r0 1 _ rfl; have c2 : w1.cell? ⟨w.heap.size, 2, none⟩ = some (.slice ba bl.length bc) := cells_at r0 2 _ rfl; have c3 : w1.cell? ⟨w.heap.size, 3, none⟩ = some (.slice pa pl.length pc) := cells_at r0 3 _ rfl))
  all_goals
    go_wp2_with fail
    have hsz : w.heap.size + 1 + 1 ≤ w1.heap.size := by have := hb1.size; rw [size_alloc, size_alloc] at this; exact this
    have g1 : w.heap.size + 1 < w.heap.size + 1 + 1 := Nat.lt_succ_self _
    have g2 : w.heap.size + 1 < w1.heap.size := by omega
    have hW1 := below_alloc (below_alloc hb1)
    have hW2 := hW1.trans (hb2.mono hW1.size)
    refine bodyPost_ret (v := .agg #[.int .i64 au, .int .i64 rd, .slice xa bl.length xc, .slice ya pl.length yc]) (by simp [results, Tryd.results17, go_sem, d0, d1, d2, d3]) rfl ⟨xa, xc, xs, ya, yc, ys, rfl, hS1, hS2, ?_, ?_, ?_, hF1.mono (by omega), hF2.mono hW1.size, fun sb so e => by simpa using Nat.lt_of_lt_of_le (hU1 sb so e) hb2.size, fun sb so e => by simpa using hU2 sb so e⟩
    · exact ((((hL1.below hb2).setCell hF1 _ _ _ g1).setCell hF1 _ _ _ g1).setCell hF1 _ _ _ g1).setCell hF1 _ _ _ g1
    · exact (((hL2.setCell hF2 _ _ _ g2).setCell hF2 _ _ _ g2).setCell hF2 _ _ _ g2).setCell hF2 _ _ _ g2
    · exact (((hW2.setCell (Nat.le_succ _) _).setCell (Nat.le_succ _) _).setCell (Nat.le_succ _) _).setCell (Nat.le_succ _) _
end Go.Proofs.YtocclphjpofnoaaDoor
