/- tape.Append of a record. -/
import Derived.Test.YtldlknmpkoebbaaTChk
import Derived.Test.YtldlknmpkoebbaaTapeRecoversM24
import Derived.Test.YtldlknmpkoebbaaApp
import Derived.Test.YtldlknmpkoebbaaSx
import Derived.Deep.RegionHeld2
import Derived.Test.YtldlknmpkoebbaaTapeRecoversM0
import Derived.Test.YtldlknmpkoebbaaTapeRecoversM6
import Derived.Test.YtldlknmpkoebbaaWithout
import Derived.Test.YtldlknmpkoebbaaMsg
import Derived.ArgAppend
import Derived.Deep.RegionHeld3
import Derived.Deep.CutRange
import Derived.Deep.DeepCutAuto
import Derived.Test.YtldlknmpkoebbaaTapeRecoversM18
namespace Go.Proofs.Ytldlknmpkoebbaa
open Go.RowKit

/-- P8.3: a record's bytes. -/
def recB (m : Msg) (X : Int) (ss : List ByteArray) (bl pl cbl cpl : List Part) (ds vl : List Int) : List Int := if X = 0 then msgB m ss bl pl cbl cpl ds vl else []
set_option maxRecDepth 100000 in
set_option maxHeartbeats 1000000 in
theorem tEnc_any (m : Msg) (ss : List ByteArray) (bl pl cbl cpl : List Part) (ds vl : List Int) (w : World) (H : MsgAt w m ss bl pl cbl cpl vl) (hd : SliceAt w m.sda m.sdc ds) (h7 : m.sdn = ds.length) :
    Calls Try.prog 27 #[.agg #[.int .i64 m.fr, .int .i64 m.tt, .int .i64 m.ki, .int .i64 m.bau, .int .i64 m.bnu, .slice m.bta m.btn m.btc, .int .i64 m.hau, .int .i64 m.hrd, .slice m.hba m.hbn m.hbc, .slice m.hpa m.hpn m.hpc, .int .i64 m.sau, .int .i64 m.srd, .slice m.sda m.sdn m.sdc, .int .i64 m.cau, .int .i64 m.crd, .slice m.cba m.cbn m.cbc, .slice m.cpa m.cpn m.cpc, .slice m.cva m.cvn m.cvc, .int .i64 m.ro]] w fun e w' => ∃ v, e = .returned (.tuple #[v, .int .i64 (recF m (checkF m (carriedF m ss bl pl cbl cpl vl)))]) ∧ w'.ownsRow w.heap.size 5 1 v (recB m (recF m (checkF m (carriedF m ss bl pl cbl cpl vl))) ss bl pl cbl cpl ds vl).length (ub (recB m (recF m (checkF m (carriedF m ss bl pl cbl cpl vl))) ss bl pl cbl cpl ds vl)) ∧ Below w.heap.size w w' := by
  have hA : Below w.heap.size w (w.alloc (.cells #[.int .i64 m.fr, .int .i64 m.tt, .int .i64 m.ki, .int .i64 m.bau, .int .i64 m.bnu, .slice m.bta m.btn m.btc, .int .i64 m.hau, .int .i64 m.hrd, .slice m.hba m.hbn m.hbc, .slice m.hpa m.hpn m.hpc, .int .i64 m.sau, .int .i64 m.srd, .slice m.sda m.sdn m.sdc, .int .i64 m.cau, .int .i64 m.crd, .slice m.cba m.cbn m.cbc, .slice m.cpa m.cpn m.cpc, .slice m.cva m.cvn m.cvc, .int .i64 m.ro] 53)) := (Below.refl _ _).alloc (Nat.le_refl _) _
  have q0 := heap_alloc_new w (.cells #[.int .i64 m.fr, .int .i64 m.tt, .int .i64 m.ki, .int .i64 m.bau, .int .i64 m.bnu, .slice m.bta m.btn m.btc, .int .i64 m.hau, .int .i64 m.hrd, .slice m.hba m.hbn m.hbc, .slice m.hpa m.hpn m.hpc, .int .i64 m.sau, .int .i64 m.srd, .slice m.sda m.sdn m.sdc, .int .i64 m.cau, .int .i64 m.crd, .slice m.cba m.cbn m.cbc, .slice m.cpa m.cpn m.cpc, .slice m.cva m.cvn m.cvc, .int .i64 m.ro] 53)
  have hC := tapeCheck_any m ss bl pl cbl cpl vl _ (H.below hA)
  have HE : Hid (∀ W : World, Below w.heap.size w W → checkF m (carriedF m ss bl pl cbl cpl vl) = 0 → Calls Try.prog 43 #[.agg #[.int .i64 m.fr, .int .i64 m.tt, .int .i64 m.ki, .int .i64 m.bau, .int .i64 m.bnu, .slice m.bta m.btn m.btc, .int .i64 m.hau, .int .i64 m.hrd, .slice m.hba m.hbn m.hbc, .slice m.hpa m.hpn m.hpc, .int .i64 m.sau, .int .i64 m.srd, .slice m.sda m.sdn m.sdc, .int .i64 m.cau, .int .i64 m.crd, .slice m.cba m.cbn m.cbc, .slice m.cpa m.cpn m.cpc, .slice m.cva m.cvn m.cvc, .int .i64 m.ro]] W fun e w' => ∃ v, e = .returned (.tuple #[v, .int .i64 0]) ∧ w'.ownsRow W.heap.size 5 1 v (msgB m ss bl pl cbl cpl ds vl).length (ub (msgB m ss bl pl cbl cpl ds vl)) ∧ Below W.heap.size W w') := by
    show ∀ _, _
    intro W hW h0
    have := encode_any m ss bl pl cbl cpl ds vl W (H.below hW) (hd.below hW) h7
    rw [h0] at this
    exact this
  clear H hd h7
  generalize hR : checkF m (carriedF m ss bl pl cbl cpl vl) = R at hC HE ⊢
  have hB0 : Hid (∀ X, X ≠ 0 → recB m X ss bl pl cbl cpl ds vl = []) := by show ∀ _, _; intro X h; rw [recB, if_neg h]
  have hB1 : Hid (recB m 0 ss bl pl cbl cpl ds vl = msgB m ss bl pl cbl cpl ds vl) := by show _ = _; rw [recB, if_pos rfl]
  have hX0 : Hid (recF m R = 0 → R = 0) := by
    show _ → _
    intro h
    by_cases hr : R = 0
    · exact hr
    · rw [recF, if_pos hr] at h; exact absurd h hr
  clear hR
  generalize recF m R = X at hC hX0 ⊢
  generalize msgB m ss bl pl cbl cpl ds vl = MB at HE hB1
  go_enter Try.func27, Try.ntmps27
  go_wp2_with (refine wpList_load_row rfl 53 _ rfl w.heap.size rfl 53 _ (0, 0) _ q0 Try.underlying53 rfl sMsg ?_)
  generalize w.alloc (.cells #[.int .i64 m.fr, .int .i64 m.tt, .int .i64 m.ki, .int .i64 m.bau, .int .i64 m.bnu, .slice m.bta m.btn m.btc, .int .i64 m.hau, .int .i64 m.hrd, .slice m.hba m.hbn m.hbc, .slice m.hpa m.hpn m.hpc, .int .i64 m.sau, .int .i64 m.srd, .slice m.sda m.sdn m.sdc, .int .i64 m.cau, .int .i64 m.crd, .slice m.cba m.cbn m.cbc, .slice m.cpa m.cpn m.cpc, .slice m.cva m.cvn m.cvc, .int .i64 m.ro] 53) = W0 at hA q0 hC ⊢
  refine hC.mono ?_
  rintro e w1 ⟨he, hb1⟩
  subst he
  dsimp only
  have q1 := (hb1.block _ (lt_of_heap q0)).trans q0
  have hB := hA.trans (hb1.mono hA.size)
  clear q0 hb1 hC hA
  by_cases hX : X = 0
  · subst hX
    have h0 : Hid (R = 0) := hX0.out rfl
    go_wp2_with (refine wpList_load_row rfl 53 _ rfl w.heap.size rfl 53 _ (0, 0) _ q1 Try.underlying53 rfl sMsg ?_)
    refine (HE.out w1 hB h0.out).mono ?_
    rintro e w2 ⟨v, he, ho, hb2⟩
    subst he
    dsimp only
    go_wp2_with fail
    go_ret2
    refine ⟨v, rfl, ?_, hB.trans (hb2.mono hB.size)⟩
    rw [hB1.out]
    exact ownsRow_base' ho hB.size
  · go_wp2_with fail
    go_ret2
    refine ⟨_, rfl, ?_, hB⟩
    rw [hB0.out X hX]
    exact World.ownsRow_nil _ _ _ _
end Go.Proofs.Ytldlknmpkoebbaa

namespace Go.Proofs.Ytldlknmpkoebbaa
open Go.RowKit

/-- P8.1. -/
def tapeOk (n : Nat) (sy : Int) : Bool := decide (n ≤ 400000 ∧ 0 ≤ sy ∧ sy ≤ n)
/-- P8.5: so many bytes are left. -/
def leftN (n : Nat) (sy keep : Int) : Nat := if keep < n - sy then (sy + keep).toNat else n
def crashF (n : Nat) (sy keep : Int) : Int := if tapeOk n sy then (if keep < 0 then 2 else 0) else 12
def crashN (n : Nat) (sy keep : Int) : Nat := if tapeOk n sy ∧ 0 ≤ keep then leftN n sy keep else 0
def syncF (n : Nat) (sy : Int) : Int := if tapeOk n sy then 0 else 12
def syncN (n : Nat) (sy : Int) : Nat := if tapeOk n sy then n else 0
set_option maxRecDepth 100000 in
theorem tapeOk_iff {n : Nat} {sy : Int} : tapeOk n sy = true ↔ n ≤ 400000 ∧ 0 ≤ sy ∧ sy ≤ n := by simp [tapeOk]
set_option maxRecDepth 100000 in
theorem tapeOk_not {n : Nat} {sy : Int} (h : ¬ (n ≤ 400000 ∧ 0 ≤ sy ∧ sy ≤ n)) : tapeOk n sy = false := decide_eq_false h
set_option maxRecDepth 100000 in
theorem leftN_le {n : Nat} {sy keep : Int} (h : 0 ≤ sy) : leftN n sy keep ≤ n := by
  unfold leftN
  split
  · have := h; omega
  · exact Nat.le_refl _
set_option maxRecDepth 100000 in
theorem SliceAt.takeT {w : World} {sa : Option Addr} {cap : Nat} {bs : List Int} (h : SliceAt w sa cap bs) (m c : Nat) (hm : m ≤ bs.length) (hc1 : m ≤ c) (hc2 : c ≤ cap) (hn : sa = Option.none → c = 0) : SliceAt w sa c (bs.take m) := by
  refine ⟨by simp; omega, by have := h.max; omega, ?_, hn, ?_⟩
  · rcases h.some with e | e
    · exact .inl (by omega)
    · exact .inr e
  · rcases h.bytes with hb | ⟨sb, so, rfl, hb⟩
    · exact .inl (by rw [hb]; simp)
    · refine .inr ⟨sb, so, rfl, fun j hj => ?_⟩
      rw [List.length_take] at hj
      rw [hb j (by omega)]
      simp [List.getD, show j < m by omega]
/-- An answer that is a tape and an error: new memory with these bytes. -/
structure TapeIs (w w' : World) (e : Ending) (bs : List Int) (sy er : Int) : Prop where
  out : ∃ ra rc, e = .returned (.tuple #[.agg #[.slice ra bs.length rc, .int .i64 sy], .int .i64 er]) ∧ SliceAt w' ra rc bs ∧ (∀ sb so, ra = some ⟨sb, so, none⟩ → w.heap.size ≤ sb ∧ sb < w'.heap.size) ∧ Below w.heap.size w w'
set_option maxRecDepth 100000 in
theorem nilSliceT (w : World) : SliceAt w none 0 [] := ⟨Nat.le_refl _, by decide, .inl rfl, fun _ => rfl, .inl rfl⟩
set_option maxRecDepth 100000 in
theorem TapeIs.bad {w w' : World} (er : Int) (hb : Below w.heap.size w w') : TapeIs w w' (.returned (.tuple #[.agg #[.slice none 0 0, .int .i64 0], .int .i64 er])) [] 0 er :=
  ⟨none, 0, rfl, nilSliceT _, (fun _ _ e => by cases e), hb⟩
set_option maxRecDepth 100000 in
/-- A store into a block that is older than a slice's leaves it as it is. -/
theorem SliceAt.setCellT {w : World} {sa : Option Addr} {cap : Nat} {bs : List Int} (h : SliceAt w sa cap bs) (b j : Nat) (v : Value) (hne : ∀ sb so, sa = Option.some ⟨sb, so, Option.none⟩ → b ≠ sb) : SliceAt (w.setCell ⟨b, j, Option.none⟩ v) sa cap bs := by
  refine ⟨h.le, h.max, h.some, h.nil, ?_⟩
  rcases h.bytes with hb | ⟨sb, so, rfl, hc⟩
  · exact .inl hb
  · exact .inr ⟨sb, so, rfl, fun k hk => (World.cell?_setCell_far _ _ _ _ (hne sb so rfl)).trans (hc k hk)⟩
end Go.Proofs.Ytldlknmpkoebbaa

namespace Go.Proofs.Ytldlknmpkoebbaa
open Go.RowKit

set_option maxRecDepth 100000 in
set_option maxHeartbeats 400000 in
theorem clone_any (bs : List Int) (sa : Option Addr) (n cap : Nat) (w : World) (hn : n = bs.length) (hs : SliceAt w sa cap bs) (hl : bs.length ≤ 140737488355328) :
    Calls Try.prog 31 #[.slice sa n cap] w fun e w' => ∃ ra rc, e = .returned (.slice ra bs.length rc) ∧ SliceAt w' ra rc bs ∧ (∀ sb so, ra = some ⟨sb, so, none⟩ → w.heap.size ≤ sb ∧ sb < w'.heap.size) ∧ Below w.heap.size w w' := by
  subst hn
  have hle := hs.le
  cases sa with
  | none =>
    have hc := hs.nil rfl
    have hb : bs = [] := List.eq_nil_of_length_eq_zero (by omega)
    subst hc hb
    have he : ∀ w : World, (binOp .eql 22 (.slice none 0 0) (.slice none 0 0)).run Try.prog w = .ok (.bool true) w := fun _ => rfl
    go_enter Try.func31, Try.ntmps31
    go_wp2_with fail
    go_ret
    exact ⟨none, 0, rfl, hs, (fun _ _ e => by cases e), Below.refl _ _⟩
  | some ad =>
    have he : ∀ w : World, (binOp .eql 22 (.slice (some ad) bs.length cap) (.slice none 0 0)).run Try.prog w = .ok (.bool false) w := fun _ => rfl
    have hA : Below w.heap.size w (w.alloc (.cells #[] 5)) := (Below.refl _ _).alloc (Nat.le_refl _) _
    go_enter Try.func31, Try.ntmps31
    go_wp2_with (at_builtin; refine wpList_append_part rfl _ _ rfl w.heap.size _ 0 [] rfl (World.ownsRow_made _ _ 0 (Nat.le_refl _) (by decide) rfl) (some ad) _ cap bs rfl rfl (hs.below hA) (by omega) hA.size ?_; intro v1 w1 ho1 hg1)
    obtain ⟨ra, rc, hv, hl, hsl⟩ := owns_form ho1
    have hlt := ho1.lt
    subst hv
    go_ret
    refine ⟨ra, rc, ?_, by simpa using hsl, (fun sb so e => hlt sb (by rw [e]; rfl)), ?_⟩
    · simp
    · exact Below.grown hA hg1 hA.size (fun q e => (World.ownsRow.lt (World.ownsRow_made (e := 5) (size := 1) w #[] 0 (Nat.le_refl _) (by decide) rfl) q e).1)
end Go.Proofs.Ytldlknmpkoebbaa

namespace Go.Proofs.Ytldlknmpkoebbaa
open Go.RowKit

set_option maxRecDepth 100000 in
set_option maxHeartbeats 400000 in
theorem mayBe_any (sa : Option Addr) (n cap : Nat) (sy : Int) (w : World) (hn : n ≤ 140737488355328) :
    Calls Try.prog 18 #[.agg #[.slice sa n cap, .int .i64 sy]] w fun e w' => e = .returned (.bool (tapeOk n sy)) ∧ Below w.heap.size w w' := by
  have hA : Below w.heap.size w (w.alloc (.cells #[.slice sa n cap, .int .i64 sy] 24)) := (Below.refl _ _).alloc (Nat.le_refl _) _
  by_cases h1 : (n : Int) ≤ 400000
  · by_cases h2 : 0 ≤ sy
    · by_cases h3 : sy ≤ n
      · have hF : Hid (tapeOk n sy = true) := tapeOk_iff.2 ⟨by omega, h2, h3⟩
        go_enter Try.func18, Try.ntmps18
        go_wp2_with fail
        go_ret
        exact ⟨by rw [hF.out]; rfl, hA⟩
      · have hF : Hid (tapeOk n sy = false) := tapeOk_not (by omega)
        go_enter Try.func18, Try.ntmps18
        go_wp2_with fail
        go_ret
        exact ⟨by rw [hF.out]; rfl, hA⟩
    · have hF : Hid (tapeOk n sy = false) := tapeOk_not (by omega)
      go_enter Try.func18, Try.ntmps18
      go_wp2_with fail
      go_ret
      exact ⟨by rw [hF.out]; rfl, hA⟩
  · have hF : Hid (tapeOk n sy = false) := tapeOk_not (by omega)
    go_enter Try.func18, Try.ntmps18
    go_wp2_with fail
    go_ret
    exact ⟨by rw [hF.out]; rfl, hA⟩
set_option maxRecDepth 100000 in
set_option maxHeartbeats 400000 in
theorem tapeCut_any (bs : List Int) (sa : Option Addr) (n cap k : Nat) (s0 sy : Int) (w : World) (hn : n = bs.length) (hs : SliceAt w sa cap bs) (hk : k ≤ bs.length) (hl : bs.length ≤ 140737488355328) :
    Calls Try.prog 20 #[.agg #[.slice sa n cap, .int .i64 s0], .int .i64 k, .int .i64 sy] w fun e w' => ∃ ra rc, e = .returned (.agg #[.slice ra k rc, .int .i64 sy]) ∧ SliceAt w' ra rc (bs.take k) ∧ (∀ sb so, ra = some ⟨sb, so, none⟩ → w.heap.size ≤ sb ∧ sb < w'.heap.size) ∧ Below w.heap.size w w' := by
  subst hn
  have hle := hs.le
  have hA : Below w.heap.size w ((w.alloc (.cells #[.slice sa bs.length cap, .int .i64 s0] 24)).alloc (.cells #[.slice none 0 0, .int .i64 0] 24)) := ((Below.refl _ _).alloc (Nat.le_refl _) _).alloc (by simp) _
  have r0 := heap_alloc2_old w (.cells #[.slice sa bs.length cap, .int .i64 s0] 24) (.cells #[.slice none 0 0, .int .i64 0] 24)
  have r1 := heap_alloc2_new w (.cells #[.slice sa bs.length cap, .int .i64 s0] 24) (.cells #[.slice none 0 0, .int .i64 0] 24)
  have hkn : sa = none → k = 0 := fun h => by have := hs.nil h; omega
  have hT := clone_any (bs.take k) sa k k _ (by simp; omega) ((hs.below hA).takeT k k hk (Nat.le_refl _) (by omega) hkn) (by rw [List.length_take]; omega)
  have hL : Hid ((bs.take k).length = k) := by show _ = _; rw [List.length_take]; omega
  rw [hL.out] at hT
  have hkc : (k : Int) ≤ cap := by omega
  have hk0 : (0 : Int) ≤ k := by omega
  clear hkn hs
  go_enter Try.func20, Try.ntmps20
  go_wp2_with fail
  generalize (w.alloc (.cells #[.slice sa bs.length cap, .int .i64 s0] 24)).alloc (.cells #[.slice none 0 0, .int .i64 0] 24) = W0 at hA r0 r1 hT ⊢
  refine hT.mono ?_
  rintro e w1 ⟨ra, rc, he, hs1, hfr, hb1⟩
  subst he
  dsimp only
  have p1 := (hb1.block _ (lt_of_heap r1)).trans r1
  have d0 : w1.cell? ⟨w.heap.size + 1, 0, none⟩ = some (.slice none 0 0) := cells_at p1 0 _ rfl
  have d1 : w1.cell? ⟨w.heap.size + 1, 1, none⟩ = some (.int .i64 0) := cells_at p1 1 _ rfl
  have f0 := frozen_at p1 0
  have f1 := frozen_at p1 1
  have hlt := lt_of_heap r1
  go_wp2_with fail
  refine bodyPost_ret (v := .agg #[.slice ra k rc, .int .i64 sy]) (by simp [results, Try.results20, go_sem, d0, d1]) rfl ⟨ra, rc, rfl, ?_, ?_, ?_⟩
  · exact (hs1.setCellT _ _ _ (fun sb so e => by have := (hfr sb so e).1; omega)).setCellT _ _ _ (fun sb so e => by have := (hfr sb so e).1; omega)
  · intro sb so e
    obtain ⟨g1, g2⟩ := hfr sb so e
    exact ⟨by omega, by simpa using g2⟩
  · exact ((hA.trans (hb1.mono hA.size)).setCell (by simp) _).setCell (by simp) _
end Go.Proofs.Ytldlknmpkoebbaa

namespace Go.Proofs.Ytldlknmpkoebbaa
open Go.RowKit

/-- P8.3: X is what is told of the record, B its bytes. -/
def appF (n : Nat) (sy X : Int) (L : Nat) : Int := if tapeOk n sy then (if X ≠ 0 then X else if 400000 < n + 2 + L then 6 else 0) else 12
def appB (bs : List Int) (F : Int) (B : List Int) : List Int := if F = 0 then bs ++ [(B.length : Int) / 256, (B.length : Int) % 256] ++ B else []
def appS (sy F : Int) : Int := if F = 0 then sy else 0
set_option maxRecDepth 100000 in
theorem appIs_bad {w w' : World} {bs B : List Int} {sy F er : Int} (hF : F = er) (h0 : er ≠ 0) (hb : Below w.heap.size w w') : TapeIs w w' (.returned (.tuple #[.agg #[.slice none 0 0, .int .i64 0], .int .i64 er])) (appB bs F B) (appS sy F) F := by
  subst hF
  rw [appB, appS, if_neg h0, if_neg h0]
  exact TapeIs.bad _ hb
/-- What Append answers; what it gives is memory of its own. -/
structure AppIs (w w' : World) (e : Ending) (bs : List Int) (sy er : Int) : Prop where
  is : TapeIs w w' e bs sy er
  own : er = 0 → ∃ ra rc, e = .returned (.tuple #[.agg #[.slice ra bs.length rc, .int .i64 sy], .int .i64 er]) ∧ w'.ownsRow w.heap.size 5 1 (.slice ra bs.length rc) bs.length (ub bs)
set_option maxRecDepth 100000 in
theorem appIs_bad2 {w w' : World} {bs B : List Int} {sy F er : Int} (hF : F = er) (h0 : er ≠ 0) (hb : Below w.heap.size w w') : AppIs w w' (.returned (.tuple #[.agg #[.slice none 0 0, .int .i64 0], .int .i64 er])) (appB bs F B) (appS sy F) F :=
  ⟨appIs_bad hF h0 hb, fun h => absurd (hF.symm.trans h) h0⟩
set_option maxRecDepth 100000 in
theorem owns_ne {w : World} {base n : Nat} {e : TypeId} {s : Nat} {v : Value} {xs : List Value} (h : w.ownsRow base e s v n xs) (b j : Nat) (x : Value) (hb : v.ownBlock ≠ some b) : (w.setCell ⟨b, j, none⟩ x).ownsRow base e s v n xs := by
  obtain ⟨h1, h2⟩ := h
  refine ⟨h1, ?_⟩
  rcases h2 with h2 | ⟨g, cap, cur, rfl, hg, hc, r⟩
  · exact .inl h2
  · exact .inr ⟨g, cap, cur, rfl, hg, (heap_setCell_other w ⟨b, j, none⟩ g x (fun e => hb (by rw [Value.ownBlock]; simpa using e))).trans hc, r⟩
set_option maxRecDepth 100000 in
theorem owns_base {w : World} {base base' n : Nat} {e : TypeId} {s : Nat} {v : Value} {xs : List Value} (h : w.ownsRow base e s v n xs) (hb : base' ≤ base) : w.ownsRow base' e s v n xs := by
  obtain ⟨h1, h2⟩ := h
  refine ⟨h1, ?_⟩
  rcases h2 with h2 | ⟨g, cap, cur, rfl, hg, hc, r⟩
  · exact .inl h2
  · exact .inr ⟨g, cap, cur, rfl, by omega, hc, r⟩
set_option maxRecDepth 100000 in
theorem heap_cell_alloc {w : World} {o : Obj} {a : Addr} {v : Value} (h : w.cell? a = some v) : (w.alloc o).cell? a = some v := by
  have hl : a.block < w.heap.size := block_lt_of_cell h
  exact (((Below.refl w.heap.size w).alloc (Nat.le_refl _) o).cell hl).trans h
set_option maxRecDepth 100000 in
set_option maxHeartbeats 4000000 in
theorem tapeAppend_own (m : Msg) (bs : List Int) (sa : Option Addr) (n cap : Nat) (sy X : Int) (B : List Int) (w : World) (hn : n = bs.length) (hs : SliceAt w sa cap bs) (hl : bs.length ≤ 140737488355328) (hX : X ≠ 0 → B = []) (hX0 : X = 0 → 0 < B.length) (hBL : B.length ≤ 4000)
    (HE : ∀ W : World, Below w.heap.size w W → Calls Try.prog 27 #[.agg #[.int .i64 m.fr, .int .i64 m.tt, .int .i64 m.ki, .int .i64 m.bau, .int .i64 m.bnu, .slice m.bta m.btn m.btc, .int .i64 m.hau, .int .i64 m.hrd, .slice m.hba m.hbn m.hbc, .slice m.hpa m.hpn m.hpc, .int .i64 m.sau, .int .i64 m.srd, .slice m.sda m.sdn m.sdc, .int .i64 m.cau, .int .i64 m.crd, .slice m.cba m.cbn m.cbc, .slice m.cpa m.cpn m.cpc, .slice m.cva m.cvn m.cvc, .int .i64 m.ro]] W fun e w' => ∃ v, e = .returned (.tuple #[v, .int .i64 X]) ∧ w'.ownsRow W.heap.size 5 1 v B.length (ub B) ∧ Below W.heap.size W w') :
    Calls Try.prog 14 #[.agg #[.slice sa n cap, .int .i64 sy], .agg #[.int .i64 m.fr, .int .i64 m.tt, .int .i64 m.ki, .int .i64 m.bau, .int .i64 m.bnu, .slice m.bta m.btn m.btc, .int .i64 m.hau, .int .i64 m.hrd, .slice m.hba m.hbn m.hbc, .slice m.hpa m.hpn m.hpc, .int .i64 m.sau, .int .i64 m.srd, .slice m.sda m.sdn m.sdc, .int .i64 m.cau, .int .i64 m.crd, .slice m.cba m.cbn m.cbc, .slice m.cpa m.cpn m.cpc, .slice m.cva m.cvn m.cvc, .int .i64 m.ro]] w fun e w' => AppIs w w' e (appB bs (appF bs.length sy X B.length) B) (appS sy (appF bs.length sy X B.length)) (appF bs.length sy X B.length) := by
  subst hn
  have HE' : Hid (∀ W : World, Below w.heap.size w W → Calls Try.prog 27 #[.agg #[.int .i64 m.fr, .int .i64 m.tt, .int .i64 m.ki, .int .i64 m.bau, .int .i64 m.bnu, .slice m.bta m.btn m.btc, .int .i64 m.hau, .int .i64 m.hrd, .slice m.hba m.hbn m.hbc, .slice m.hpa m.hpn m.hpc, .int .i64 m.sau, .int .i64 m.srd, .slice m.sda m.sdn m.sdc, .int .i64 m.cau, .int .i64 m.crd, .slice m.cba m.cbn m.cbc, .slice m.cpa m.cpn m.cpc, .slice m.cva m.cvn m.cvc, .int .i64 m.ro]] W fun e w' => ∃ v, e = .returned (.tuple #[v, .int .i64 X]) ∧ w'.ownsRow W.heap.size 5 1 v B.length (ub B) ∧ Below W.heap.size W w') := HE
  clear HE
  have HS : Hid (SliceAt w sa cap bs) := hs
  have hle := hs.le
  have hA : Below w.heap.size w (((w.alloc (.cells #[.slice sa bs.length cap, .int .i64 sy] 24)).alloc (.cells #[.int .i64 m.fr, .int .i64 m.tt, .int .i64 m.ki, .int .i64 m.bau, .int .i64 m.bnu, .slice m.bta m.btn m.btc, .int .i64 m.hau, .int .i64 m.hrd, .slice m.hba m.hbn m.hbc, .slice m.hpa m.hpn m.hpc, .int .i64 m.sau, .int .i64 m.srd, .slice m.sda m.sdn m.sdc, .int .i64 m.cau, .int .i64 m.crd, .slice m.cba m.cbn m.cbc, .slice m.cpa m.cpn m.cpc, .slice m.cva m.cvn m.cvc, .int .i64 m.ro] 53)).alloc (.cells #[.slice none 0 0, .int .i64 0] 24)) := (((Below.refl _ _).alloc (Nat.le_refl _) _).alloc (by simp) _).alloc (by simp; omega) _
  have r0 := heap_keep (o := .cells #[.slice none 0 0, .int .i64 0] 24) (heap_alloc2_old w (.cells #[.slice sa bs.length cap, .int .i64 sy] 24) (.cells #[.int .i64 m.fr, .int .i64 m.tt, .int .i64 m.ki, .int .i64 m.bau, .int .i64 m.bnu, .slice m.bta m.btn m.btc, .int .i64 m.hau, .int .i64 m.hrd, .slice m.hba m.hbn m.hbc, .slice m.hpa m.hpn m.hpc, .int .i64 m.sau, .int .i64 m.srd, .slice m.sda m.sdn m.sdc, .int .i64 m.cau, .int .i64 m.crd, .slice m.cba m.cbn m.cbc, .slice m.cpa m.cpn m.cpc, .slice m.cva m.cvn m.cvc, .int .i64 m.ro] 53))
  have r1 := heap_keep (o := .cells #[.slice none 0 0, .int .i64 0] 24) (heap_alloc2_new w (.cells #[.slice sa bs.length cap, .int .i64 sy] 24) (.cells #[.int .i64 m.fr, .int .i64 m.tt, .int .i64 m.ki, .int .i64 m.bau, .int .i64 m.bnu, .slice m.bta m.btn m.btc, .int .i64 m.hau, .int .i64 m.hrd, .slice m.hba m.hbn m.hbc, .slice m.hpa m.hpn m.hpc, .int .i64 m.sau, .int .i64 m.srd, .slice m.sda m.sdn m.sdc, .int .i64 m.cau, .int .i64 m.crd, .slice m.cba m.cbn m.cbc, .slice m.cpa m.cpn m.cpc, .slice m.cva m.cvn m.cvc, .int .i64 m.ro] 53))
  have r2 := heap_new_at ((w.alloc (.cells #[.slice sa bs.length cap, .int .i64 sy] 24)).alloc (.cells #[.int .i64 m.fr, .int .i64 m.tt, .int .i64 m.ki, .int .i64 m.bau, .int .i64 m.bnu, .slice m.bta m.btn m.btc, .int .i64 m.hau, .int .i64 m.hrd, .slice m.hba m.hbn m.hbc, .slice m.hpa m.hpn m.hpc, .int .i64 m.sau, .int .i64 m.srd, .slice m.sda m.sdn m.sdc, .int .i64 m.cau, .int .i64 m.crd, .slice m.cba m.cbn m.cbc, .slice m.cpa m.cpn m.cpc, .slice m.cva m.cvn m.cvc, .int .i64 m.ro] 53)) (.cells #[.slice none 0 0, .int .i64 0] 24) (w.heap.size + 1 + 1) (by simp)
  have hM := mayBe_any sa bs.length cap sy (((w.alloc (.cells #[.slice sa bs.length cap, .int .i64 sy] 24)).alloc (.cells #[.int .i64 m.fr, .int .i64 m.tt, .int .i64 m.ki, .int .i64 m.bau, .int .i64 m.bnu, .slice m.bta m.btn m.btc, .int .i64 m.hau, .int .i64 m.hrd, .slice m.hba m.hbn m.hbc, .slice m.hpa m.hpn m.hpc, .int .i64 m.sau, .int .i64 m.srd, .slice m.sda m.sdn m.sdc, .int .i64 m.cau, .int .i64 m.crd, .slice m.cba m.cbn m.cbc, .slice m.cpa m.cpn m.cpc, .slice m.cva m.cvn m.cvc, .int .i64 m.ro] 53)).alloc (.cells #[.slice none 0 0, .int .i64 0] 24)) hl
  have hF : appF bs.length sy X B.length = if tapeOk bs.length sy then (if X ≠ 0 then X else if 400000 < bs.length + 2 + B.length then 6 else 0) else 12 := rfl
  generalize appF bs.length sy X B.length = F at hF ⊢
  have HF : Hid _ := hF
  clear hF hs
  go_enter Try.func14, Try.ntmps14
  go_wp2_with fail
  generalize ((w.alloc (.cells #[.slice sa bs.length cap, .int .i64 sy] 24)).alloc (.cells #[.int .i64 m.fr, .int .i64 m.tt, .int .i64 m.ki, .int .i64 m.bau, .int .i64 m.bnu, .slice m.bta m.btn m.btc, .int .i64 m.hau, .int .i64 m.hrd, .slice m.hba m.hbn m.hbc, .slice m.hpa m.hpn m.hpc, .int .i64 m.sau, .int .i64 m.srd, .slice m.sda m.sdn m.sdc, .int .i64 m.cau, .int .i64 m.crd, .slice m.cba m.cbn m.cbc, .slice m.cpa m.cpn m.cpc, .slice m.cva m.cvn m.cvc, .int .i64 m.ro] 53)).alloc (.cells #[.slice none 0 0, .int .i64 0] 24) = W0 at hA r0 r1 r2 hM ⊢
  refine hM.mono ?_
  rintro e w1 ⟨he, hb1⟩
  subst he
  dsimp only
  have hB1 := hA.trans (hb1.mono hA.size)
  have p0 := (hb1.block _ (lt_of_heap r0)).trans r0
  have p1 := (hb1.block _ (lt_of_heap r1)).trans r1
  have p2 := (hb1.block _ (lt_of_heap r2)).trans r2
  clear hM r0 r1 r2 hb1 hA
  cases ht : tapeOk bs.length sy with
  | false =>
    have hF : Hid (F = 12) := by show _ = _; rw [HF.out, ht]; rfl
    have d0 : w1.cell? ⟨w.heap.size + 1 + 1, 0, none⟩ = some (.slice none 0 0) := cells_at p2 0 _ rfl
    have d1 : w1.cell? ⟨w.heap.size + 1 + 1, 1, none⟩ = some (.int .i64 0) := cells_at p2 1 _ rfl
    have f0 := frozen_at p2 0
    have f1 := frozen_at p2 1
    clear ht
    go_wp2_with fail
    refine bodyPost_ret (v := .tuple #[.agg #[.slice none 0 0, .int .i64 0], .int .i64 12]) (by simp [results, Try.results14, go_sem, d0, d1]) rfl (appIs_bad2 hF.out (by decide) ?_)
    exact (hB1.setCell (by simp; omega) _).setCell (by simp; omega) _
  | true =>
    obtain ⟨t1, t2, t3⟩ := tapeOk_iff.1 ht
    go_wp2_with (refine wpList_load_row rfl 53 _ rfl (w.heap.size + 1) rfl 53 _ (0, 0) _ p1 Try.underlying53 rfl sMsg ?_)
    refine (HE'.out w1 hB1).mono ?_
    rintro e w2 ⟨v, he, ho, hb2⟩
    subst he
    dsimp only
    have hB2 := hB1.trans (hb2.mono hB1.size)
    have q0 := (hb2.block _ (lt_of_heap p0)).trans p0
    have q2 := (hb2.block _ (lt_of_heap p2)).trans p2
    have hlt2 : w.heap.size + 1 + 1 < w1.heap.size := lt_of_heap p2
    clear p0 p1 p2
    by_cases hx : X = 0
    · have hLp := hX0 hx
      obtain ⟨ra, rc, hv, -, hs2⟩ := owns_form ho
      subst hv
      have c0 : w2.cell? ⟨w.heap.size, 0, none⟩ = some (.slice sa bs.length cap) := cells_at q0 0 _ rfl
      subst hx
      by_cases hbig : 400000 < bs.length + 2 + B.length
      · have hF : Hid (F = 6) := by show _ = _; rw [HF.out, ht]; simp [hbig]
        have hbigI : (400000 : Int) < (bs.length : Int) + 2 + (B.length : Int) := by omega
        have d0 : w2.cell? ⟨w.heap.size + 1 + 1, 0, none⟩ = some (.slice none 0 0) := cells_at q2 0 _ rfl
        have d1 : w2.cell? ⟨w.heap.size + 1 + 1, 1, none⟩ = some (.int .i64 0) := cells_at q2 1 _ rfl
        have f0 := frozen_at q2 0
        have f1 := frozen_at q2 1
        clear ht hX hX0 hLp hbig
        go_wp2_with fail
        refine bodyPost_ret (v := .tuple #[.agg #[.slice none 0 0, .int .i64 0], .int .i64 6]) (by simp [results, Try.results14, go_sem, d0, d1]) rfl (appIs_bad2 hF.out (by decide) ?_)
        exact (hB2.setCell (by simp; omega) _).setCell (by simp; omega) _
      · have hF : Hid (F = 0) := by show _ = _; rw [HF.out, ht]; simp [hbig]
        have hbigI : ¬ (400000 : Int) < (bs.length : Int) + 2 + (B.length : Int) := by omega
        have Hbig : Hid (bs.length + 2 + B.length ≤ 400000) := by show _ ≤ _; omega
        have hnc : (bs.length : Int) ≤ cap := by omega
        have hn0 : (0 : Int) ≤ bs.length := by omega
        have hL0 : (0 : Int) ≤ B.length := by omega
        have hL1 : (B.length : Int) ≤ 4000 := by omega
        have HL : Hid (0 < B.length ∧ B.length ≤ 4000) := ⟨hLp, hBL⟩
        obtain ⟨i, hi, hz0, hz1, hz2⟩ := info_parts infoU8
        have hsW := HS.out.below hB2
        clear ht hX hX0 hLp hbig hBL t1
        have hlt0 : w.heap.size < w2.heap.size := lt_of_heap q0
        have hlt2' : w.heap.size + 1 + 1 < w2.heap.size := lt_of_heap q2
        have Hnil : Hid (sa = none → bs.length = 0 ∧ bs.length = 0) := by
          show _ → _
          intro h
          have := hsW.nil h
          have := hsW.le
          omega
        have Hcell : Hid (∀ b, sa = some b → ∀ j u, (ub bs)[j]? = some u → w2.cell? (b.add j) = some u) := by
          show ∀ _, _
          intro b hb j u hu
          have hj : j < bs.length := by
            rcases Nat.lt_or_ge j bs.length with g | g
            · exact g
            · rw [List.getElem?_eq_none (by rw [ub_length]; exact g)] at hu; cases hu
          rcases hsW.bytes with h | ⟨sb, so, e, h⟩
          · rw [h] at hj; simp at hj
          · rw [hb] at e
            cases e
            rw [add_off, h j hj]
            simp [ub, hj] at hu
            simp [hj, hu]
        obtain ⟨rb, ro, hra, hrec⟩ : ∃ rb ro, ra = some ⟨rb, ro, none⟩ ∧ ∀ j, j < B.length → w2.cell? ⟨rb, ro + j, none⟩ = some (.int .u8 (B.getD j 0)) := by
          rcases hs2.bytes with h | h
          · rw [h] at HL; exact absurd HL.out.1 (by simp)
          · exact h
        subst hra
        have hrb : rb < w2.heap.size := block_lt_of_cell (hrec 0 HL.out.1)
        have Hrec : Hid (∀ j u, (ub B)[j]? = some u → w2.cell? ((⟨rb, ro, none⟩ : Addr).add j) = some u) := by
          show ∀ _, _
          intro j u hu
          have hj : j < B.length := by
            rcases Nat.lt_or_ge j B.length with g | g
            · exact g
            · rw [List.getElem?_eq_none (by rw [ub_length]; exact g)] at hu; cases hu
          rw [add_off, hrec j hj]
          simp [ub, hj] at hu
          simp [hj, hu]
        clear hrec hsW hs2 hB1 ho
        go_wp2_with (at_builtin; refine wpList_append_grows _ rfl _ _ 22 rfl 5 i (.int .u8 0) 1 1 Try.underlying22 hi hz0 hz1 hz2 rfl (by decide) sa bs.length bs.length (ub bs) rfl Hnil.out (by rw [ub_length]; omega) (fun b hb j u hu => (heap_cell_alloc (Hcell.out b hb j u hu))) ⟨w2.heap.size, 0, none⟩ 2 2 [.int .u8 ((B.length : Int) / 256), .int .u8 ((B.length : Int) % 256)] rfl rfl (cells_new _ _ _) (u8_one [_, _]) (by omega) (by unfold maxLen; omega) (by omega) ?_; intro v3 w3 ho3 hg3; have hb3 : Below w2.heap.size w2 w3 := ((Below.refl _ _).alloc (Nat.le_refl _) _).trans ((grown_none hg3).mono (le_alloc (Nat.le_refl _) _)))
        have s0 := (hb3.block _ hlt0).trans q0
        have s2 := (hb3.block _ hlt2').trans q2
        have c1 : w3.cell? ⟨w.heap.size, 1, none⟩ = some (.int .i64 sy) := cells_at s0 1 _ rfl
        have hB3 := hB2.trans (hb3.mono hB2.size)
        have ho3' : w3.ownsRow w2.heap.size 5 1 v3 (bs.length + 2) (ub (bs ++ [(B.length : Int) / 256, (B.length : Int) % 256])) := by
          have := ownsRow_base' ho3 (le_alloc (Nat.le_refl w2.heap.size) (.cells #[.int .u8 ((B.length : Int) / 256), .int .u8 ((B.length : Int) % 256)] 5))
          simpa [ub] using this
        have hne0 : v3.ownBlock ≠ some w.heap.size := fun e => by have := (ho3'.lt _ e).1; omega
        have hne2 : v3.ownBlock ≠ some (w.heap.size + 1 + 1) := fun e => by have := (ho3'.lt _ e).1; omega
        have Hrec3 : Hid (∀ j u, (ub B)[j]? = some u → w3.drew.cell? ((⟨rb, ro, none⟩ : Addr).add j) = some u) := by
          show ∀ _, _
          intro j u hu
          have h1 := Hrec.out j u hu
          exact (hb3.cell (by simpa [add_off] using hrb)).trans h1
        clear ho3 hg3 c0 q0 q2
        have hneO : ¬ w.heap.size + 1 + 1 = w.heap.size := by omega
        go_region_held3 (fun w' => w'.cell? ⟨w.heap.size, 1, none⟩ = some (.int .i64 sy)) (go_keep) ((refine step_append_at rfl _ _ 22 rfl w2.heap.size 5 i (.int .u8 0) 1 1 Try.underlying22 hi hz0 hz1 hz2 rfl (by decide) v3 (bs.length + 2) _ rfl ho3'.drew ⟨rb, ro, none⟩ B.length rc (ub B) rfl (by rw [ub_length]; omega) Hrec3.out (u8_one B) (by have := Hbig.out; unfold maxLen; omega) (by have := Hbig.out; omega) hb3.size ?_; intro v4 w4 ho4 G4; have t0 := G4.row s0 hne0; have t2 := G4.row s2 hne2; have g1 : w4.cell? ⟨w.heap.size, 1, none⟩ = some (.int .i64 sy) := cells_at t0 1 _ rfl; have e0 : w4.cell? ⟨w.heap.size + 1 + 1, 0, none⟩ = some (.slice none 0 0) := cells_at t2 0 _ rfl; have e1 : w4.cell? ⟨w.heap.size + 1 + 1, 1, none⟩ = some (.int .i64 0) := cells_at t2 1 _ rfl; have k0 := frozen_at t2 0; have k1 := frozen_at t2 1; obtain ⟨za, zc, rfl⟩ := owns_shape ho4))
        all_goals
          have ho5 : w4.ownsRow w2.heap.size 5 1 (.slice za (bs.length + 2 + B.length) zc) (bs.length + 2 + B.length) (ub (bs ++ [(B.length : Int) / 256, (B.length : Int) % 256] ++ B)) := by simpa [ub] using ho4
          have hb4 := G4.below (base := w2.heap.size) hb3.size (fun q e => (ho3'.lt q e).1)
          go_wp2_with fail
          obtain ⟨xa, xc, hv, hlen, hs5⟩ := owns_form ho5
          have hlt5 := ho5.lt
          simp only [Value.slice.injEq, true_and] at hv
          obtain ⟨rfl, rfl⟩ := hv
          have hE : appB bs F B = bs ++ [(B.length : Int) / 256, (B.length : Int) % 256] ++ B := by rw [appB, if_pos hF.out]
          have hS : appS sy F = sy := by rw [appS, if_pos hF.out]
          have h34 := hb4.size
          rw [hE, hS, hF.out]
          refine bodyPost_ret (v := .tuple #[.agg #[.slice za (bs.length + 2 + B.length) zc, .int .i64 sy], .int .i64 0]) (by simp [results, Try.results14, go_sem, e0, e1]) rfl ⟨⟨za, zc, by rw [← hlen], ?_, ?_, ?_⟩, fun _ => ⟨za, zc, by rw [← hlen], ?_⟩⟩
          · exact (hs5.setCellT _ _ _ (fun sb so e => by have := (hlt5 sb (by rw [e]; rfl)).1; omega)).setCellT _ _ _ (fun sb so e => by have := (hlt5 sb (by rw [e]; rfl)).1; omega)
          · intro sb so e
            have := hlt5 sb (by rw [e]; rfl)
            exact ⟨by have := hB2.size; omega, by simpa using this.2⟩
          · have hb34 : Below w2.heap.size w3 w4 := ⟨hb4.os, hb4.tape, hb4.output, hb4.size, hb4.block⟩
            exact ((hB3.trans (hb34.mono hB2.size)).setCell (by simp; omega) _).setCell (by simp; omega) _
          · rw [← hlen]
            exact owns_base (owns_ne (owns_ne ho5 _ _ _ (fun e => by have := (hlt5 _ e).1; omega)) _ _ _ (fun e => by have := (hlt5 _ e).1; omega)) hB2.size
    · have hF : Hid (F = X) := by show _ = _; rw [HF.out, ht]; simp [hx]
      have d0 : w2.cell? ⟨w.heap.size + 1 + 1, 0, none⟩ = some (.slice none 0 0) := cells_at q2 0 _ rfl
      have d1 : w2.cell? ⟨w.heap.size + 1 + 1, 1, none⟩ = some (.int .i64 0) := cells_at q2 1 _ rfl
      have f0 := frozen_at q2 0
      have f1 := frozen_at q2 1
      clear ht hX hX0
      go_wp2_with fail
      refine bodyPost_ret (v := .tuple #[.agg #[.slice none 0 0, .int .i64 0], .int .i64 X]) (by simp [results, Try.results14, go_sem, d0, d1]) rfl (appIs_bad2 hF.out hx ?_)
      exact (hB2.setCell (by simp; omega) _).setCell (by simp; omega) _
set_option maxRecDepth 100000 in
theorem tapeAppend_any (m : Msg) (bs : List Int) (sa : Option Addr) (n cap : Nat) (sy X : Int) (B : List Int) (w : World) (hn : n = bs.length) (hs : SliceAt w sa cap bs) (hl : bs.length ≤ 140737488355328) (hX : X ≠ 0 → B = []) (hX0 : X = 0 → 0 < B.length) (hBL : B.length ≤ 4000)
    (HE : ∀ W : World, Below w.heap.size w W → Calls Try.prog 27 #[.agg #[.int .i64 m.fr, .int .i64 m.tt, .int .i64 m.ki, .int .i64 m.bau, .int .i64 m.bnu, .slice m.bta m.btn m.btc, .int .i64 m.hau, .int .i64 m.hrd, .slice m.hba m.hbn m.hbc, .slice m.hpa m.hpn m.hpc, .int .i64 m.sau, .int .i64 m.srd, .slice m.sda m.sdn m.sdc, .int .i64 m.cau, .int .i64 m.crd, .slice m.cba m.cbn m.cbc, .slice m.cpa m.cpn m.cpc, .slice m.cva m.cvn m.cvc, .int .i64 m.ro]] W fun e w' => ∃ v, e = .returned (.tuple #[v, .int .i64 X]) ∧ w'.ownsRow W.heap.size 5 1 v B.length (ub B) ∧ Below W.heap.size W w') :
    Calls Try.prog 14 #[.agg #[.slice sa n cap, .int .i64 sy], .agg #[.int .i64 m.fr, .int .i64 m.tt, .int .i64 m.ki, .int .i64 m.bau, .int .i64 m.bnu, .slice m.bta m.btn m.btc, .int .i64 m.hau, .int .i64 m.hrd, .slice m.hba m.hbn m.hbc, .slice m.hpa m.hpn m.hpc, .int .i64 m.sau, .int .i64 m.srd, .slice m.sda m.sdn m.sdc, .int .i64 m.cau, .int .i64 m.crd, .slice m.cba m.cbn m.cbc, .slice m.cpa m.cpn m.cpc, .slice m.cva m.cvn m.cvc, .int .i64 m.ro]] w fun e w' => TapeIs w w' e (appB bs (appF bs.length sy X B.length) B) (appS sy (appF bs.length sy X B.length)) (appF bs.length sy X B.length) :=
  (tapeAppend_own m bs sa n cap sy X B w hn hs hl hX hX0 hBL HE).mono (fun _ _ h => h.is)
end Go.Proofs.Ytldlknmpkoebbaa

namespace Go.Proofs.Ytldlknmpkoebbaa
open Go.RowKit

/-- P8.3: a record as it stands on a tape. -/
def MV.onTape (x : MV) : List Int := [(x.bytes.length : Int) / 256, (x.bytes.length : Int) % 256] ++ x.bytes
set_option maxRecDepth 100000 in
theorem IsRec.len {x : MV} (h : IsRec x) (hd : x.m.sdn = x.ds.length) : 3 ≤ x.bytes.length ∧ x.bytes.length ≤ 323 := by
  have := bodyB_le hd h.car
  simp [MV.bytes, msgB]; omega
set_option maxRecDepth 100000 in
theorem onTape_len (x : MV) : x.onTape.length = 2 + x.bytes.length := by simp [MV.onTape]; omega
set_option maxRecDepth 100000 in
theorem rec_append_own (x : MV) (bs : List Int) (sa : Option Addr) (n cap : Nat) (sy : Int) (w : World) (hn : n = bs.length) (hs : SliceAt w sa cap bs) (hM : MAt w x) (hI : IsRec x) (hy : 0 ≤ sy ∧ sy ≤ bs.length) (hl : bs.length + 2 + x.bytes.length ≤ 400000) :
    Calls Try.prog 14 #[.agg #[.slice sa n cap, .int .i64 sy], .agg #[.int .i64 x.m.fr, .int .i64 x.m.tt, .int .i64 x.m.ki, .int .i64 x.m.bau, .int .i64 x.m.bnu, .slice x.m.bta x.m.btn x.m.btc, .int .i64 x.m.hau, .int .i64 x.m.hrd, .slice x.m.hba x.m.hbn x.m.hbc, .slice x.m.hpa x.m.hpn x.m.hpc, .int .i64 x.m.sau, .int .i64 x.m.srd, .slice x.m.sda x.m.sdn x.m.sdc, .int .i64 x.m.cau, .int .i64 x.m.crd, .slice x.m.cba x.m.cbn x.m.cbc, .slice x.m.cpa x.m.cpn x.m.cpc, .slice x.m.cva x.m.cvn x.m.cvc, .int .i64 x.m.ro]] w fun e w' => AppIs w w' e (bs ++ x.onTape) sy 0 := by
  obtain ⟨hl1, hl2⟩ := hI.len hM.dn
  have hE : ∀ W : World, Below w.heap.size w W → Calls Try.prog 27 #[.agg #[.int .i64 x.m.fr, .int .i64 x.m.tt, .int .i64 x.m.ki, .int .i64 x.m.bau, .int .i64 x.m.bnu, .slice x.m.bta x.m.btn x.m.btc, .int .i64 x.m.hau, .int .i64 x.m.hrd, .slice x.m.hba x.m.hbn x.m.hbc, .slice x.m.hpa x.m.hpn x.m.hpc, .int .i64 x.m.sau, .int .i64 x.m.srd, .slice x.m.sda x.m.sdn x.m.sdc, .int .i64 x.m.cau, .int .i64 x.m.crd, .slice x.m.cba x.m.cbn x.m.cbc, .slice x.m.cpa x.m.cpn x.m.cpc, .slice x.m.cva x.m.cvn x.m.cvc, .int .i64 x.m.ro]] W fun e w' => ∃ v, e = .returned (.tuple #[v, .int .i64 0]) ∧ w'.ownsRow W.heap.size 5 1 v x.bytes.length (ub x.bytes) ∧ Below W.heap.size W w' := fun W hW => by
    have h := tEnc_any x.m x.ss x.bl x.pl x.cbl x.cpl x.ds x.vl W (hM.at'.below hW) (hM.dig.below hW) hM.dn
    have h0 : recF x.m (checkF x.m (carriedF x.m x.ss x.bl x.pl x.cbl x.cpl x.vl)) = 0 := hI.rec0
    rw [h0] at h
    exact h
  have h := tapeAppend_own x.m bs sa n cap sy 0 x.bytes w hn hs (by omega) (fun h => absurd rfl h) (fun _ => by omega) (by omega) hE
  have hF : appF bs.length sy 0 x.bytes.length = 0 := by
    rw [appF, if_pos (tapeOk_iff.2 ⟨by omega, hy.1, hy.2⟩), if_neg (by simp), if_neg (by omega)]
  rw [hF, appB, if_pos rfl, appS, if_pos rfl, List.append_assoc] at h
  exact h
set_option maxRecDepth 100000 in
theorem rec_append (x : MV) (bs : List Int) (sa : Option Addr) (n cap : Nat) (sy : Int) (w : World) (hn : n = bs.length) (hs : SliceAt w sa cap bs) (hM : MAt w x) (hI : IsRec x) (hy : 0 ≤ sy ∧ sy ≤ bs.length) (hl : bs.length + 2 + x.bytes.length ≤ 400000) :
    Calls Try.prog 14 #[.agg #[.slice sa n cap, .int .i64 sy], .agg #[.int .i64 x.m.fr, .int .i64 x.m.tt, .int .i64 x.m.ki, .int .i64 x.m.bau, .int .i64 x.m.bnu, .slice x.m.bta x.m.btn x.m.btc, .int .i64 x.m.hau, .int .i64 x.m.hrd, .slice x.m.hba x.m.hbn x.m.hbc, .slice x.m.hpa x.m.hpn x.m.hpc, .int .i64 x.m.sau, .int .i64 x.m.srd, .slice x.m.sda x.m.sdn x.m.sdc, .int .i64 x.m.cau, .int .i64 x.m.crd, .slice x.m.cba x.m.cbn x.m.cbc, .slice x.m.cpa x.m.cpn x.m.cpc, .slice x.m.cva x.m.cvn x.m.cvc, .int .i64 x.m.ro]] w fun e w' => TapeIs w w' e (bs ++ x.onTape) sy 0 :=
  (rec_append_own x bs sa n cap sy w hn hs hM hI hy hl).mono (fun _ _ h => h.is)
set_option maxRecDepth 100000 in
/-- What is no record is refused. -/
theorem bad_append (x : MV) (X : Int) (w : World) (hM : MAt w x) (hX : recF x.m (checkF x.m x.car) = X) (h0 : X ≠ 0) :
    Calls Try.prog 14 #[.agg #[.slice none 0 0, .int .i64 0], .agg #[.int .i64 x.m.fr, .int .i64 x.m.tt, .int .i64 x.m.ki, .int .i64 x.m.bau, .int .i64 x.m.bnu, .slice x.m.bta x.m.btn x.m.btc, .int .i64 x.m.hau, .int .i64 x.m.hrd, .slice x.m.hba x.m.hbn x.m.hbc, .slice x.m.hpa x.m.hpn x.m.hpc, .int .i64 x.m.sau, .int .i64 x.m.srd, .slice x.m.sda x.m.sdn x.m.sdc, .int .i64 x.m.cau, .int .i64 x.m.crd, .slice x.m.cba x.m.cbn x.m.cbc, .slice x.m.cpa x.m.cpn x.m.cpc, .slice x.m.cva x.m.cvn x.m.cvc, .int .i64 x.m.ro]] w fun e w' => TapeIs w w' e [] 0 X := by
  have hE : ∀ W : World, Below w.heap.size w W → Calls Try.prog 27 #[.agg #[.int .i64 x.m.fr, .int .i64 x.m.tt, .int .i64 x.m.ki, .int .i64 x.m.bau, .int .i64 x.m.bnu, .slice x.m.bta x.m.btn x.m.btc, .int .i64 x.m.hau, .int .i64 x.m.hrd, .slice x.m.hba x.m.hbn x.m.hbc, .slice x.m.hpa x.m.hpn x.m.hpc, .int .i64 x.m.sau, .int .i64 x.m.srd, .slice x.m.sda x.m.sdn x.m.sdc, .int .i64 x.m.cau, .int .i64 x.m.crd, .slice x.m.cba x.m.cbn x.m.cbc, .slice x.m.cpa x.m.cpn x.m.cpc, .slice x.m.cva x.m.cvn x.m.cvc, .int .i64 x.m.ro]] W fun e w' => ∃ v, e = .returned (.tuple #[v, .int .i64 X]) ∧ w'.ownsRow W.heap.size 5 1 v ([] : List Int).length (ub []) ∧ Below W.heap.size W w' := fun W hW => by
    have h := tEnc_any x.m x.ss x.bl x.pl x.cbl x.cpl x.ds x.vl W (hM.at'.below hW) (hM.dig.below hW) hM.dn
    have hX' : recF x.m (checkF x.m (carriedF x.m x.ss x.bl x.pl x.cbl x.cpl x.vl)) = X := hX
    rw [hX', recB, if_neg h0] at h
    exact h
  have h := tapeAppend_any x.m [] none 0 0 0 X [] w rfl (nilSliceT _) (by simp) (fun _ => rfl) (fun h => absurd h h0) (by simp) hE
  have hF : appF ([] : List Int).length 0 X ([] : List Int).length = X := by
    rw [appF, if_pos (tapeOk_iff.2 ⟨by simp, by simp, by simp⟩), if_pos h0]
  rw [hF, appB, if_neg h0, appS, if_neg h0] at h
  exact h
end Go.Proofs.Ytldlknmpkoebbaa
