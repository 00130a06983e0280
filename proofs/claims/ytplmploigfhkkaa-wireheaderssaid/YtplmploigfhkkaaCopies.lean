/- The document's bytesCopies: new memory with the same lists. -/
import Derived.Test.YtplmploigfhkkaaJoined
import Derived.Test.YtplmploigfhkkaaHeadF
import Derived.Test.YtplmploigfhkkaaGrew
import Derived.Deep.RegionHeld
namespace Go.Proofs.Ytplmploigfhkkaa
open Go.RowKit

theorem infoBs : (Try.prog.info? 41).map (fun i => (i.zero, i.size, i.bytes)) = some (some (.slice none 0 0), 1, 24) := by kernel_rfl
def pv (ps : List Part) : List Value := ps.map Part.val
theorem pv_length (ps : List Part) : (pv ps).length = ps.length := by simp [pv]
/-- The same bytes, one by one. -/
def Same (ps qs : List Part) : Prop := ps.map (·.bs) = qs.map (·.bs)
theorem Same.length {ps qs : List Part} (h : Same ps qs) : ps.length = qs.length := by simpa using congrArg List.length h
theorem Same.bsAt {ps qs : List Part} (h : Same ps qs) (k : Nat) : (partAt ps k).bs = (partAt qs k).bs := by
  have hk : (ps.map (·.bs))[k]? = (qs.map (·.bs))[k]? := by rw [h]
  simp only [List.getElem?_map] at hk
  simp only [partAt, List.getD]
  cases h1 : ps[k]? <;> cases h2 : qs[k]? <;> simp_all
theorem digTo1_same {ps qs : List Part} (h : Same ps qs) (k : Nat) : digTo1 ps k = digTo1 qs k := by
  induction k with
  | zero => rfl
  | succ k ih =>
    have e1 : digAt ps k = digAt qs k := by
      have e2 : twice ps k = twice qs k := by
        simp only [twice, h.bsAt]
      rw [digAt, digAt, e2, h.bsAt k]
    rw [digTo1, digTo1, ih, e1]
theorem digF_same {ps qs : List Part} (h : Same ps qs) : digF ps = digF qs := by
  rw [digF, digF, h.length, digTo1_same h]
/-- The lists that lie apart from a row. -/
def Apart (w : World) (B : Nat) (v : Value) (ps : List Part) : Prop := ∀ p ∈ ps, SliceAt w p.sa p.cap p.bs ∧ ∀ sb so, p.sa = some ⟨sb, so, none⟩ → B ≤ sb ∧ sb < w.heap.size ∧ v.ownBlock ≠ some sb
/-- All of it is new. -/
structure Fresh (B : Nat) (ra : Option Addr) (qs : List Part) : Prop where
  row : ∀ sb so, ra = some ⟨sb, so, none⟩ → B ≤ sb
  each : ∀ p ∈ qs, ∀ sb so, p.sa = some ⟨sb, so, none⟩ → B ≤ sb
theorem ListAt.setCell {w : World} {ra : Option Addr} {rc B : Nat} {qs : List Part} (h : ListAt w ra rc qs) (hf : Fresh B ra qs) (b j : Nat) (v : Value) (hb : b < B) : ListAt (w.setCell ⟨b, j, Option.none⟩ v) ra rc qs := by
  refine ⟨h.le, h.max, h.small, h.some, ⟨?_, fun p hp => ?_⟩⟩
  · rcases h.parts.cells with hc | ⟨sb, so, rfl, hc⟩
    · exact .inl hc
    · exact .inr ⟨sb, so, rfl, fun k hk => (World.cell?_setCell_far _ _ _ _ (by have := hf.row sb so rfl; show b ≠ sb; omega)).trans (hc k hk)⟩
  · have hs := h.parts.each p hp
    refine ⟨hs.le, hs.max, hs.some, hs.nil, ?_⟩
    rcases hs.bytes with hc | ⟨sb, so, e, hc⟩
    · exact .inl hc
    · exact .inr ⟨sb, so, e, fun k hk => (World.cell?_setCell_far _ _ _ _ (by have := hf.each p hp sb so e; show b ≠ sb; omega)).trans (hc k hk)⟩
theorem listAt_of_owns {w : World} {base n : Nat} {v : Value} {ps : List Part} (h : w.ownsRow base 41 1 v n (pv ps)) (ha : Apart w base v ps) : ∃ ra rc, v = .slice ra n rc ∧ n = ps.length ∧ (n ≤ 9000000000000000000 → ListAt w ra rc ps) ∧ Fresh base ra ps := by
  have hl : n = ps.length := by have := h.1; rw [pv_length] at this; omega
  rcases h.2 with ⟨rfl, hn⟩ | ⟨g, cap, cur, rfl, hr⟩
  · have hb : ps = [] := List.eq_nil_of_length_eq_zero (by omega)
    subst hn hb
    exact ⟨none, 0, rfl, rfl, fun _ => ⟨Nat.le_refl _, by decide, by decide, .inl rfl, ⟨.inl rfl, fun p hp => by cases hp⟩⟩, ⟨(fun _ _ e => by cases e), (fun p hp => by cases hp)⟩⟩
  · refine ⟨some ⟨g, 0, none⟩, cap, rfl, hl, fun hm => ⟨?_, ?_, by omega, .inr ⟨g, 0, rfl⟩, ⟨.inr ⟨g, 0, rfl, fun j hj => ?_⟩, fun p hp => (ha p hp).1⟩⟩, ⟨(fun sb so e => by cases e; exact (h.lt _ rfl).1), (fun p hp sb so e => ((ha p hp).2 sb so e).1)⟩⟩
    · obtain ⟨_, _, h1, _⟩ := hr
      omega
    · obtain ⟨_, _, _, h2, _⟩ := hr
      exact h2
    · rw [Nat.zero_add, World.ownsRow.cellAt h j (by omega)]
      simp [pv, Part.val, hj]

theorem owns_keep {w w' : World} {base n : Nat} {e : TypeId} {s : Nat} {v : Value} {xs : List Value} (h : w.ownsRow base e s v n xs) (hb : Below w.heap.size w w') : w'.ownsRow base e s v n xs := by
  have hB : ∀ q, v.ownBlock = some q → q < w.heap.size := fun q e => (h.lt q e).2
  obtain ⟨h1, h2⟩ := h
  refine ⟨h1, ?_⟩
  rcases h2 with h2 | ⟨g, cap, cur, rfl, hg, hc, r⟩
  · exact .inl h2
  · exact .inr ⟨g, cap, cur, rfl, hg, (hb.block g (hB g rfl)).trans hc, r⟩
theorem nilSlice (w : World) : SliceAt w none 0 [] := ⟨Nat.le_refl _, by decide, .inl rfl, fun _ => rfl, .inl rfl⟩
/-- One list more: it lies apart, too. -/
theorem Apart.more {w w2 w3 : World} {B : Nat} {v v1 : Value} {qs : List Part} {q : Part} {o : Obj} {k n : Nat} {e : TypeId} {xs : List Value} (h : Apart w B v qs) (hB : B ≤ w.heap.size) (ho : w.ownsRow B e 1 v n xs) (hb2 : Below w.heap.size w w2)
    (ho2 : w2.ownsRow w.heap.size 5 1 (.slice q.sa k q.cap) k (ub q.bs)) (hs2 : SliceAt w2 q.sa q.cap q.bs) (G : Grew (w2.alloc o) v w3 v1) : Apart w3 B v1 (qs ++ [q]) := by
  have hA : Below w2.heap.size w2 (w2.alloc o) := (Below.refl _ _).alloc (Nat.le_refl _) _
  have hsz : w2.heap.size < (w2.alloc o).heap.size := by rw [size_alloc]; omega
  have h3 := G.grown.size
  have h2 := hb2.size
  intro p hp
  rcases List.mem_append.1 hp with hp | hp
  · obtain ⟨hs, ha⟩ := h p hp
    refine ⟨G.slice ((hs.below hb2).below hA) (fun sb so e => (ha sb so e).2.2), fun sb so e => ?_⟩
    obtain ⟨a1, a2, a3⟩ := ha sb so e
    refine ⟨a1, by omega, fun hv => ?_⟩
    rcases G.fresh sb hv with g | g
    · exact a3 g
    · omega
  · obtain rfl : p = q := by simpa using hp
    have hne : ∀ sb so, p.sa = some ⟨sb, so, none⟩ → w.heap.size ≤ sb ∧ sb < w2.heap.size ∧ v.ownBlock ≠ some sb := fun sb so e => by
      have hl := ho2.lt sb (by rw [e]; rfl)
      exact ⟨hl.1, hl.2, fun hv => by have := (ho.lt sb hv).2; omega⟩
    refine ⟨G.slice (hs2.below hA) (fun sb so e => (hne sb so e).2.2), fun sb so e => ?_⟩
    obtain ⟨a1, a2, a3⟩ := hne sb so e
    refine ⟨by omega, by omega, fun hv => ?_⟩
    rcases G.fresh sb hv with g | g
    · exact a3 g
    · omega
set_option maxRecDepth 100000 in
set_option maxHeartbeats 1000000 in
theorem bytesCopies_any (ps : List Part) (sa : Option Addr) (n cap : Nat) (w : World) (hn : n = ps.length) (hr : ps.length * 24 ≤ 140737488355328) (hre : ∀ p ∈ ps, p.bs.length ≤ 140737488355328) (hp : PartsAt w sa ps) :
    Calls Try.prog 24 #[.slice sa n cap] w fun e w' => ∃ ra rc qs, e = .returned (.slice ra ps.length rc) ∧ Same qs ps ∧ ListAt w' ra rc qs ∧ Below w.heap.size w w' ∧ Fresh w.heap.size ra qs := by
  subst hn
  obtain ⟨i, hi, hz0, hz1, hz2⟩ := info_parts infoBs
  go_enter Try.func24, Try.ntmps24
  go_wp2_with fail
  go_loopw [4, 3] (fun j v wr => ∃ (k : Nat) (qs : List Part), k ≤ ps.length ∧ j = .int .i64 k ∧ Same qs (ps.take k) ∧ wr.ownsRow w.heap.size 41 1 v k (pv qs) ∧ Apart wr w.heap.size v qs ∧ Below w.heap.size w wr) (fun j _ _ => ps.length - (intOf j).toNat)
  case atStart => exact ⟨0, [], Nat.zero_le _, rfl, by simp [Same], World.ownsRow_nil _ _ _ _, (fun p hp => by cases hp), Below.refl _ _⟩
  case round =>
    obtain ⟨k, qs, hk, rfl, hS, ho, hap, hb⟩ := hrel
    by_cases hlt : k < ps.length
    · have hpw := hp.below hb
      obtain ⟨sb, so, rfl, hc⟩ : ∃ sb so, sa = some ⟨sb, so, none⟩ ∧ ∀ j (h : j < ps.length), wr.cell? ⟨sb, so + j, none⟩ = some (.slice (ps[j]).sa (ps[j]).bs.length (ps[j]).cap) := by
        rcases hpw.cells with h | h
        · rw [h] at hlt; simp at hlt
        · exact h
      have ck := hc k hlt
      have hx := hpw.each (ps[k]) (List.getElem_mem hlt)
      have hxr := hre (ps[k]) (List.getElem_mem hlt)
      have hst : Hid (ps.take (k + 1) = ps.take k ++ [ps[k]]) := List.take_succ_eq_append_getElem hlt
      have hltI : (k : Int) < ps.length := by omega
      clear hc
      generalize ps[k] = p at *
      go_wp2_with fail
      refine (joined_any p.bs [] p.sa none _ _ p.cap 0 wr rfl rfl hx (nilSlice _) (by simpa using hxr)).mono ?_
      rintro e w2 ⟨v2, he, ho2, hb2⟩
      subst he
      dsimp only
      simp only [List.append_nil, List.length_nil, Nat.add_zero] at ho2
      obtain ⟨ra, rc, hv, _, hs2⟩ := owns_form ho2
      subst hv
      have hob := owns_keep ho hb2
      have hB2 := hb.trans (hb2.mono hb.size)
      go_wp2_with (at_builtin; refine wpList_append_own_at _ rfl _ _ 29 rfl w.heap.size 41 i (.slice none 0 0) 1 24 Try.underlying29 hi hz0 hz1 hz2 rfl (by decide) _ k _ rfl (World.ownsRow.alloc hob _) ⟨w2.heap.size, 0, none⟩ 1 1 [.slice ra p.bs.length rc] rfl rfl (cells_new _ _ _) (by intro u hu; simp at hu; subst hu; rfl) (by unfold maxLen; omega) (by omega) (le_alloc hB2.size _) ?_; intro v1 w3 ho3 hg3 _ hat)
      have G := Grew.of hg3 hat
      have hap3 := hap.more (q := ⟨ra, rc, p.bs⟩) hb.size ho hb2 ho2 hs2 G
      have hB3 := Below.grown (hB2.alloc hB2.size _) hg3 (le_alloc hB2.size _) (fun q e => (hob.lt q e).1)
      go_roundw
      case rel =>
        have hR : ∃ (k' : Nat) (qs' : List Part), k' ≤ ps.length ∧ (Value.int .i64 ((k : Int) + 1)) = .int .i64 k' ∧ Same qs' (ps.take k') ∧ w3.ownsRow w.heap.size 41 1 v1 k' (pv qs') ∧ Apart w3 w.heap.size v1 qs' ∧ Below w.heap.size w w3 :=
          ⟨k + 1, qs ++ [⟨ra, rc, p.bs⟩], by omega, by go_num, by rw [hst.out]; simp only [Same, List.map_append] at hS ⊢; rw [hS]; rfl, by simpa [pv, Part.val] using ho3, hap3, hB3⟩
        first | exact hR | ((repeat apply Exists.intro); exact ⟨hR, rfl⟩)
      case measure => simp [intOf]; omega
    · obtain rfl : k = ps.length := by omega
      rw [List.take_of_length_le (Nat.le_refl _)] at hS
      obtain ⟨ra, rc, hv, hl, hL, hfr⟩ := listAt_of_owns ho hap
      subst hv
      go_wp2_with fail
      go_ret
      exact ⟨ra, rc, qs, rfl, hS, hL (by omega), hb, hfr⟩
end Go.Proofs.Ytplmploigfhkkaa
