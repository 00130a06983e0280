/- The law sheavestop.TopRefused answers true for every argument, and each argument reads behind the call as it read before: the tied card. Its conditions: the three tables of package blake hold what the program's text lays (the card ties that); the form's own reach. -/
import Derived.Test.YtnfcaonmfkbofaaGreatDoorTopRefusedM24
import Derived.Deep.CutRange
import Derived.Deep.DeepCutAuto
import Derived.Test.YtnfcaonmfkbofaaGreatDoorRows
import Derived.Test.YtnfcaonmfkbofaaGreatDoorLnF
import Derived.Test.YtnfcaonmfkbofaaGreatDoorOpenB
import Derived.Lib.LaidTab
import Derived.OpenShut
import Derived.ChangeSame
import Derived.Stop.LaidErr
import Derived.Test.YtnfcaonmfkbofaaGreatDoorCards
import Derived.Test.YtnfcaonmfkbofaaGreatDoorTie
import Derived.WalkKit
import Derived.ProofKit
import Derived.Deep.DeepHandedRow
import Derived.SevenTiedAt
import Derived.Below
namespace Go.Proofs.YtnfcaonmfkbofaaGreatDoor
open Go.RowKit

set_option maxRecDepth 100000 in
set_option maxHeartbeats 2000000 in
theorem topActs_any (rs : List Ft) (sa : Option Addr) (n cap : Nat) (M : Nat) (w : World) (hn : n = rs.length) (hF : FtsAt w sa rs) (hM : M ≤ 1000) :
    Calls Tryz.prog 6 #[.slice sa n cap, .int .i64 (M : Int)] w fun e w' => ∃ (v : Value) (l : List AV), e = .returned v ∧ w'.ownsRow w.heap.size 35 4 v l.length (avs l) ∧ (∀ a ∈ l, a.e = 0 ∧ a.t.size ≤ 4000) ∧ l.length ≤ M ∧ Below w.heap.size w w' := by
  subst hn
  have hsm := hF.small
  go_enter Tryz.func6, Tryz.ntmps6
  go_wp2_with fail
  go_loopw [6, 5] (fun j v wr => ∃ (k : Nat) (l : List AV), k ≤ rs.length ∧ k ≤ M ∧ j = .int .i64 k ∧ Hid (l.length = k) ∧ Below w.heap.size w wr ∧ wr.ownsRow w.heap.size 35 4 v k (avs l) ∧ Hid (∀ a ∈ l, a.e = 0 ∧ a.t.size ≤ 4000)) (fun j _ _ => rs.length - (intOf j).toNat)
  case atStart => exact ⟨0, [], Nat.zero_le _, Nat.zero_le _, rfl, rfl, Below.refl _ _, World.ownsRow_nil _ _ _ _, by show ∀ _, _; simp⟩
  case round =>
    obtain ⟨k, l, hk, hkM, rfl, hll, hb, ho, hok⟩ := hrel
    by_cases hlt : k < rs.length ∧ k < M
    · obtain ⟨hlt, hltM⟩ := hlt
      have hltI : (k : Int) < rs.length := by omega
      have hltMI : (k : Int) < M := by omega
      rcases (hF.below hb).cells with hc | ⟨sb, so, hsa, hc⟩
      · subst hc; simp at hlt
      subst hsa
      obtain ⟨c0, c1, c2, c3⟩ := hc k hlt
      obtain ⟨j1, j2, j3, j4⟩ := hF.each (rs[k]) (List.getElem_mem hlt)
      have HFt : Hid _ := hF
      clear hc
      have HA := topAct_any (rs[k]).k (rs[k]).a (rs[k]).b (rs[k]).t wr j1 j2 j3 j4
      generalize (rs[k]).k = fk at *
      generalize (rs[k]).a = fa at *
      generalize (rs[k]).b = fb' at *
      generalize (rs[k]).t = ft at *
      go_wp2_with fail
      refine HA.mono ?_
      rintro e w1 ⟨⟨x, he, hxe, hxt⟩, hb1⟩
      subst he
      dsimp only
      clear HA c0 c1 c2 c3
      have ho1 := owns_keep ho hb1
      have hB1 := hb.trans (hb1.mono hb.size)
      have hvlt : ∀ q, u5.ownBlock = some q → q < w1.heap.size := fun q e => (ho1.lt q e).2
      have HX : Hid (x.e = 0 ∧ x.t.size ≤ 4000) := ⟨hxe, hxt⟩
      clear hxe hxt
      have q1 : ((w1.alloc (.cells #[.int .i64 x.k, .int .i64 x.n, .int .i64 x.p, .string x.t] 35)).alloc (.cells #[.int .i64 x.k, .int .i64 x.n, .int .i64 x.p, .string x.t] 35)).heap[w1.heap.size + 1]? = some (.cells x.cs.toArray 35 (0, 0)) := heap_new_at _ _ _ (by simp)
      go_wp2_with (at_builtin; refine wpList_append_act rfl _ _ rfl w.heap.size _ k l rfl ((ho1.alloc _).alloc _) (w1.heap.size + 1) x rfl q1 (by omega) (by have := hB1.size; simp; omega) ?_)
      intro v' w2 ho2 hg2
      go_wp2_with fail
      go_roundw
      case rel =>
        refine ⟨k + 1, l ++ [x], by omega, by omega, by go_num, by show _ = _; rw [List.length_append, hll.out]; rfl, hB1.trans ?_, ho2, ?_⟩
        · exact (((Below.refl _ _).alloc hB1.size _).alloc (by have := hB1.size; simp; omega) _).trans (hg2.below (by have := hB1.size; simp; omega) (fun q e => (ho.lt q e).1))
        · show ∀ _, _
          intro y hy
          rcases List.mem_append.1 hy with g | g
          · exact hok.out y g
          · simp at g; subst g; exact HX.out
      case measure => simp [intOf]; omega
    · have hend : k = rs.length ∨ k = M := by omega
      have hle : Hid (l.length ≤ M) := by show _ ≤ _; rw [hll.out]; omega
      rcases hend with h | h
      · have hltI : ¬ (k : Int) < rs.length := by omega
        clear h hlt
        go_wp2_with fail
        go_ret
        exact ⟨_, rfl, l, by rw [hll.out]; exact ho, hok.out, hle.out, hb⟩
      · have hltI : ¬ (k : Int) < M := by omega
        by_cases h2 : (k : Int) < rs.length
        · clear h hlt
          go_wp2_with fail
          go_ret
          exact ⟨_, rfl, l, by rw [hll.out]; exact ho, hok.out, hle.out, hb⟩
        · clear h hlt
          go_wp2_with fail
          go_ret
          exact ⟨_, rfl, l, by rw [hll.out]; exact ho, hok.out, hle.out, hb⟩
/-- The first act that may not be tells the error. -/
def frstE : List AV → Int
  | [] => 0
  | a :: l => if a.e = 0 then frstE l else a.e
set_option maxRecDepth 100000 in
theorem check_bad (r : Int) (sa : Option Addr) (n cap : Nat) (w : World) (hr : r < -1 ∨ 4 ≤ r) :
    Calls Tryz.prog 15 #[.int .i64 r, .slice sa n cap] w fun e w' => e = .returned (.int .i64 2) ∧ Below w.heap.size w w' := by
  have h1 : (r != -1) = true := by simp; omega
  rcases hr with h | h
  · have h2 : r < 0 := by omega
    clear h
    go_enter Tryz.func15, Tryz.ntmps15
    go_wp2_with fail
    go_ret
    exact ⟨rfl, Below.refl _ _⟩
  · have h2 : ¬ r < 0 := by omega
    go_enter Tryz.func15, Tryz.ntmps15
    go_wp2_with fail
    go_ret
    exact ⟨rfl, Below.refl _ _⟩
set_option maxRecDepth 100000 in
theorem check_long (sa : Option Addr) (n cap : Nat) (w : World) (hn : 3000 < n) :
    Calls Tryz.prog 15 #[.int .i64 (-1), .slice sa n cap] w fun e w' => e = .returned (.int .i64 1) ∧ Below w.heap.size w w' := by
  have h1 : (3000 : Int) < n := by omega
  go_enter Tryz.func15, Tryz.ntmps15
  go_wp2_with fail
  go_ret
  exact ⟨rfl, Below.refl _ _⟩
set_option maxRecDepth 100000 in
set_option maxHeartbeats 2000000 in
theorem check_acts (l : List AV) (sa : Option Addr) (n cap : Nat) (w : World) (hn : n = l.length) (h3 : l.length ≤ 3000) (hA : ActsAt w sa l) (hT : KTab w) :
    Calls Tryz.prog 15 #[.int .i64 (-1), .slice sa n cap] w fun e w' => e = .returned (.int .i64 (frstE l)) ∧ Below w.heap.size w w' := by
  subst hn
  have h3I : ¬ (3000 : Int) < l.length := by omega
  go_enter Tryz.func15, Tryz.ntmps15
  go_wp2_with fail
  go_loopw [23] (fun j wr => ∃ k : Nat, k ≤ l.length ∧ j = .int .i64 k ∧ Hid (frstE l = frstE (l.drop k)) ∧ Below w.heap.size w wr) (fun j _ => l.length - (intOf j).toNat)
  case atStart => exact ⟨0, Nat.zero_le _, rfl, rfl, Below.refl _ _⟩
  case round =>
    obtain ⟨k, hk, rfl, hfr, hb⟩ := hrel
    by_cases hlt : k < l.length
    · have hltI : (k : Int) < l.length := by omega
      rcases (hA.below hb).cells with hc | ⟨sb, so, hsa, hc⟩
      · subst hc; simp at hlt
      subst hsa
      obtain ⟨c0, c1, c2, c3⟩ := hc k hlt
      have hgd : l.getD k .z = l[k] := by simp [List.getD, hlt]
      have hst : Hid (frstE l = if (l[k]).e = 0 then frstE (l.drop (k + 1)) else (l[k]).e) := by
        show _ = _
        rw [hfr.out, List.drop_eq_getElem_cons hlt, frstE]
      have htx := hA.text (l[k]) (List.getElem_mem hlt)
      rw [hgd] at c0 c1 c2 c3
      clear hc hgd hfr
      generalize l[k] = x at *
      have hC := actCheck_any x.k x.n x.p x.t ((wr.alloc (.cells #[.int .i64 x.k, .int .i64 x.n, .int .i64 x.p, .string x.t] 35))) htx (hT.below (hb.alloc hb.size _) hT.lt)
      have hF : actF x.k x.n x.p x.t.size = x.e := rfl
      rw [hF] at hC
      have hA1 : Below w.heap.size w (wr.alloc (.cells #[.int .i64 x.k, .int .i64 x.n, .int .i64 x.p, .string x.t] 35)) := hb.alloc hb.size _
      clear hF
      go_wp2_with fail
      refine hC.mono ?_
      rintro e w1 ⟨he, hb1⟩
      subst he
      dsimp only
      clear hC c0 c1 c2 c3
      have hB1 := hA1.trans (hb1.mono hA1.size)
      by_cases h0 : x.e = 0
      · rw [if_pos h0] at hst
        rw [h0]
        clear h0
        go_wp2_with fail
        go_roundw
        case rel => exact ⟨k + 1, by omega, by go_num, hst, hB1⟩
        case measure => simp [intOf]; omega
      · rw [if_neg h0] at hst
        have h0b : (x.e != 0) = true := by simp [h0]
        clear h0
        go_wp2_with fail
        go_ret
        exact ⟨by rw [hst.out]; rfl, hB1⟩
    · obtain rfl : k = l.length := by omega
      have hltI : ¬ (l.length : Int) < l.length := by omega
      have hz : Hid (frstE l = 0) := by show _ = _; rw [hfr.out, List.drop_length]; rfl
      go_wp2_with fail
      go_ret
      exact ⟨by rw [hz.out]; rfl, hb⟩
set_option maxRecDepth 100000 in
/-- A script that is refused tells the error, and nothing else. -/
theorem run_refused (r F : Int) (sa : Option Addr) (n cap : Nat) (w : World) (hF : F ≠ 0) (HC : ∀ W : World, Below w.heap.size w W → Calls Tryz.prog 15 #[.int .i64 r, .slice sa n cap] W fun e w' => e = .returned (.int .i64 F) ∧ Below W.heap.size W w') :
    Calls Tryz.prog 7 #[.int .i64 r, .slice sa n cap] w fun e w' => e = .returned (.tuple #[.agg #[.slice none 0 0, .slice none 0 0, .int .i64 0, .slice none 0 0], .int .i64 F]) ∧ Below w.heap.size w w' := by
  have hA : Below w.heap.size w (w.alloc (.cells #[.slice none 0 0, .slice none 0 0, .int .i64 0, .slice none 0 0] 29)) := (Below.refl _ _).alloc (Nat.le_refl _) _
  have q0 := heap_alloc_new w (.cells #[.slice none 0 0, .slice none 0 0, .int .i64 0, .slice none 0 0] 29)
  have hC := HC _ hA
  have hFb : (F != 0) = true := by simp [hF]
  clear hF HC
  go_enter Tryz.func7, Tryz.ntmps7
  go_wp2_with fail
  generalize w.alloc (.cells #[.slice none 0 0, .slice none 0 0, .int .i64 0, .slice none 0 0] 29) = W0 at hA q0 hC ⊢
  refine hC.mono ?_
  rintro e w1 ⟨he, hb1⟩
  subst he
  dsimp only
  clear hC
  have r1 := (hb1.block _ (lt_of_heap q0)).trans q0
  have d0 : w1.cell? ⟨w.heap.size, 0, none⟩ = some (.slice none 0 0) := cells_at r1 0 _ rfl
  have d1 : w1.cell? ⟨w.heap.size, 1, none⟩ = some (.slice none 0 0) := cells_at r1 1 _ rfl
  have d2 : w1.cell? ⟨w.heap.size, 2, none⟩ = some (.int .i64 0) := cells_at r1 2 _ rfl
  have d3 : w1.cell? ⟨w.heap.size, 3, none⟩ = some (.slice none 0 0) := cells_at r1 3 _ rfl
  have f0 := frozen_at r1 0
  have f1 := frozen_at r1 1
  have f2 := frozen_at r1 2
  have f3 := frozen_at r1 3
  have hB := hA.trans (hb1.mono hA.size)
  go_wp2_with fail
  exact bodyPost_ret (v := .tuple #[.agg #[.slice none 0 0, .slice none 0 0, .int .i64 0, .slice none 0 0], .int .i64 F]) (by simp [results, Tryz.results7, go_sem, d0, d1, d2, d3]) rfl ⟨rfl, (((hB.setCell (Nat.le_refl _) _).setCell (Nat.le_refl _) _).setCell (Nat.le_refl _) _).setCell (Nat.le_refl _) _⟩
end Go.Proofs.YtnfcaonmfkbofaaGreatDoor

namespace Go.Proofs.YtnfcaonmfkbofaaGreatDoor
open Go.RowKit

set_option maxRecDepth 100000 in
theorem acts_cells {w : World} {ad : Addr} {cs : List AV} (hp : ActsAt w (some ad) cs) : ∀ j u, (avs cs)[j]? = some u → w.cell? (ad.add j) = some u := by
  intro j u hu
  rcases hp.cells with hb | ⟨sb, so, e, hb⟩
  · subst hb; simp [avs] at hu
  · cases e
    have hj : j < cs.length * 4 := by
      rcases Nat.lt_or_ge j (cs.length * 4) with g | g
      · exact g
      · rw [List.getElem?_eq_none (by rw [avs_length]; omega)] at hu; cases hu
    have hk : j / 4 < cs.length := by omega
    have hd : j = j / 4 * 4 + j % 4 := by omega
    have h5 : j % 4 < 4 := by omega
    rw [add_off]
    obtain ⟨h0, h1, h2, h3⟩ := hb (j / 4) hk
    rw [hd, avs_get cs (j / 4) (j % 4) hk h5] at hu
    have hq : so + j = so + j / 4 * 4 + j % 4 := by omega
    rw [hq]
    generalize j / 4 = q at *
    rcases (by omega : j % 4 = 0 ∨ j % 4 = 1 ∨ j % 4 = 2 ∨ j % 4 = 3) with h | h | h | h <;> rw [h] at hu ⊢ <;> simp [AV.cs] at hu <;> subst hu
    · exact h0
    · exact h1
    · exact h2
    · exact h3
set_option maxRecDepth 100000 in
theorem one_act {w : World} {b : Nat} (h : w.heap[b]? = some (.cells #[.int .i64 2, .int .i64 4, .int .i64 0, .string ⟨#[]⟩] 35 (0, 0))) : ActsAt w (some ⟨b, 0, none⟩) [(⟨2, 4, 0, ⟨#[]⟩⟩ : AV)] := by
  refine ⟨.inr ⟨b, 0, rfl, fun j hj => ?_⟩, fun a ha => ?_⟩
  · obtain rfl : j = 0 := by simpa using hj
    exact ⟨cells_at h 0 _ rfl, cells_at h 1 _ rfl, cells_at h 2 _ rfl, cells_at h 3 _ rfl⟩
  · obtain rfl : a = (⟨2, 4, 0, ⟨#[]⟩⟩ : AV) := by simpa using ha
    exact Nat.zero_le _
set_option maxRecDepth 100000 in
theorem step_append_acts {w : World} {ops : Array Oper} {o : Oper} {a : Act} {K : Act → World → Prop} {Q : Exit → Act → World → Prop} {E : Prop}
    (hg : o.guard = none) (d : Nat) (hd : o.dst = some d) (s x : Operand) (ho : o.op = .call { callee := .builtin .append, args := #[s, x], argTypes := #[23, 23] })
    (base : Nat) (v : Value) (n : Nat) (l : List AV) (hs : a.eval s = v) (hown : w.ownsRow base 35 4 v n (avs l))
    (sa : Option Addr) (m cap : Nat) (cs : List AV) (hx : a.eval x = .slice sa m cap) (hm : m = cs.length) (hp : ActsAt w sa cs) (hnil : sa = none → m = 0 ∧ cap = 0)
    (hlen : n + m ≤ 1000000) (hbase : base ≤ w.heap.size)
    (hK : ∀ v' w', w'.ownsRow base 35 4 v' (n + m) (avs (l ++ cs)) → Grew w v w' v' → K (a.put (some d) v') w') :
    if Region.wanted o (yielded ops a.tmps) = true then Oper.wp Tryz.prog o a w K Q else E := by
  obtain ⟨i, hi, hz0, hz1, hz2⟩ := info_parts infoA
  cases sa with
  | none =>
    obtain ⟨h1, h2⟩ := hnil rfl
    subst h1 h2
    obtain rfl : cs = [] := List.eq_nil_of_length_eq_zero hm.symm
    have hw : Region.wanted o (yielded ops a.tmps) = true := by simp [Region.wanted, hg]
    rw [if_pos hw]
    have hrun := run_append_owned_none (P := Tryz.prog) (w := w) base 23 o.type 35 i 4 Tryz.underlying23 hi v n (avs l) hown
    unfold Oper.wp execOp
    simp only [ho, resolve, invoke, builtin, Sem.run_bind, Sem.run_pure, Result.andThen_ok, List.map_toArray, List.map_cons, List.map_nil, hs, hx, hrun]
    have h9 := hK v w (by simpa using hown) (Grew.of (World.grownBy.refl _ _) (.inl rfl))
    rw [← hd] at h9
    exact h9
  | some ad =>
    exact step_append_at hg s x 23 ho base 35 i _ 4 40 Tryz.underlying23 hi hz0 hz1 hz2 rfl (by decide) v n (avs l) hs hown ad m cap (avs cs) hx (by rw [avs_length, hm]; omega) (acts_cells hp) (avs_one cs) (by unfold maxLen; omega) (by omega) hbase (fun v' w' h1 h2 => by rw [hd]; exact hK v' w' (by rw [avs_append]; exact h1) h2)
set_option maxRecDepth 100000 in
theorem ActsAt.take {w : World} {sa : Option Addr} {l : List AV} (h : ActsAt w sa l) (k : Nat) : ActsAt w sa (l.take k) := by
  refine ⟨?_, fun a ha => h.text a (List.mem_of_mem_take ha)⟩
  rcases h.cells with h | ⟨sb, so, e, h⟩
  · exact .inl (by rw [h]; simp)
  · refine .inr ⟨sb, so, e, fun j hj => ?_⟩
    rw [List.length_take] at hj
    have hg : (l.take k).getD j .z = l.getD j .z := by simp only [List.getD]; rw [List.getElem?_take_of_lt (by omega)]
    rw [hg]
    exact h j (by omega)
set_option maxRecDepth 100000 in
theorem ActsAt.drop {w : World} {sb so : Nat} {l : List AV} (h : ActsAt w (some ⟨sb, so, none⟩) l) (k : Nat) : ActsAt w (some ⟨sb, so + k * 4, none⟩) (l.drop k) := by
  refine ⟨?_, fun a ha => h.text a (List.mem_of_mem_drop ha)⟩
  rcases h.cells with h | ⟨sb', so', e, h⟩
  · exact .inl (by rw [h]; simp)
  · cases e
    refine .inr ⟨sb, so + k * 4, rfl, fun j hj => ?_⟩
    rw [List.length_drop] at hj
    have hg : (l.drop k).getD j .z = l.getD (k + j) .z := by simp only [List.getD]; rw [List.getElem?_drop]
    rw [hg, show so + k * 4 + j * 4 = so + (k + j) * 4 by omega]
    exact h (k + j) (by omega)
set_option maxRecDepth 100000 in
theorem frst_bent (a b : List AV) (ha : ∀ x ∈ a, x.e = 0) : frstE (a ++ [(⟨2, 4, 0, ⟨#[]⟩⟩ : AV)] ++ b) = 2 := by
  induction a with
  | nil => rfl
  | cons x a ih =>
    have hx := ha x (by simp)
    simp only [List.cons_append, frstE, hx, if_true]
    exact ih (fun y hy => ha y (by simp [hy]))
set_option maxRecDepth 100000 in
set_option maxHeartbeats 4000000 in
theorem topRefused_walk (sa : Option Addr) (cap : Nat) (rs : List Ft) (n at_ : Int) (w : World) (hF : FtsAt w sa rs) (_hc : rs.length ≤ cap) (hn1 : -9223372036854775808 ≤ n) (hn2 : n ≤ 9223372036854775807) (ha1 : -9223372036854775808 ≤ at_) (ha2 : at_ ≤ 9223372036854775807) (hT : KTab w) :
    Calls Tryz.prog 3 #[.slice sa rs.length cap, .int .i64 n, .int .i64 at_] w fun e w' => e = .returned (.bool true) ∧ Below w.heap.size w w' := by
  obtain ⟨pn0, pn1⟩ := pk_bounds n 9 (by decide)
  have HN : Hid (∀ W : World, Calls Tryz.prog 8 #[.int .i64 n, .int .i64 9] W fun e w' => e = .returned (.int .i64 (pk n 9)) ∧ W = w') := by
    show ∀ _, _
    intro W
    exact picked_out n 9 W hn1 hn2 (by decide) (by decide)
  generalize pk n 9 = N at *
  have hw1 : IntKind.i64.wrap (4 + N) = 4 + N := by rw [IntKind.wrap_i64]; omega
  have hw2 : IntKind.i64.wrap (-2 - N) = -2 - N := by rw [IntKind.wrap_i64]; omega
  go_enter Tryz.func3, Tryz.ntmps3
  go_wp2_with fail
  refine (topActs_any rs sa _ cap 20 w rfl hF (by decide)).mono ?_
  rintro e w1 ⟨v, l, he, ho, hl, hl20, hb1⟩
  subst he
  dsimp only
  obtain ⟨aa, ac, hv, hac, hshape, hAs⟩ : ∃ aa ac, v = .slice aa l.length ac ∧ l.length ≤ ac ∧ (ac = 0 ∨ ∃ g, aa = some ⟨g, 0, none⟩) ∧ ActsAt w1 aa l := by
    obtain ⟨a1, c1, e1, -, -, h1⟩ := acts_of_owns ho (fun a ha => Nat.le_trans (hl a ha).2 (by decide))
    rcases ho.2 with ⟨rfl, h0⟩ | ⟨g, cp, cur, rfl, hr⟩
    · simp only [Value.slice.injEq] at e1
      obtain ⟨rfl, -, rfl⟩ := e1
      exact ⟨none, 0, by rw [h0], by omega, .inl rfl, h1⟩
    · simp only [Value.slice.injEq] at e1
      obtain ⟨rfl, -, rfl⟩ := e1
      obtain ⟨_, _, h2, _⟩ := hr
      exact ⟨_, cp, rfl, h2, .inr ⟨g, rfl⟩, h1⟩
  subst hv
  have hNil : Hid (aa = none → l.length = 0 ∧ ac = 0) := by
    show _ → _
    intro h
    rcases hshape with h2 | ⟨g, h2⟩
    · exact ⟨by omega, h2⟩
    · rw [h] at h2; cases h2
  have hTm : ∀ W : World, Below w.heap.size w W → KTab W := fun W hW => hT.below hW hT.lt
  have HT : Hid _ := hTm
  clear ho hTm
  go_wp2_with (go_at_call 8; refine (HN.out _).mono ?_; rintro e w9 ⟨rfl, rfl⟩)
  refine (run_refused (4 + N) 2 aa _ ac w1 (by decide) (fun W hW => check_bad (4 + N) aa _ ac W (by omega))).mono ?_
  rintro e w2 ⟨he, hb2⟩
  subst he
  dsimp only
  have hA2 : Below w2.heap.size w2 (w2.alloc (.cells #[.slice none 0 0, .slice none 0 0, .int .i64 0, .slice none 0 0] 29)) := (Below.refl _ _).alloc (Nat.le_refl _) _
  go_wp2_with (go_at_call 8; refine (HN.out _).mono ?_; rintro e w9 ⟨rfl, rfl⟩)
  generalize w2.alloc (.cells #[.slice none 0 0, .slice none 0 0, .int .i64 0, .slice none 0 0] 29) = W2 at hA2 ⊢
  refine (run_refused (-2 - N) 2 aa _ ac W2 (by decide) (fun W hW => check_bad (-2 - N) aa _ ac W (by omega))).mono ?_
  rintro e w3 ⟨he, hb3⟩
  subst he
  dsimp only
  have hA3 : Below w3.heap.size w3 (w3.alloc (.cells #[.slice none 0 0, .slice none 0 0, .int .i64 0, .slice none 0 0] 29)) := (Below.refl _ _).alloc (Nat.le_refl _) _
  obtain ⟨pa0, pa1⟩ := pk_bounds at_ ((l.length : Int) + 1) (by omega)
  have hwl : IntKind.i64.wrap ((l.length : Int) + 1) = (l.length : Int) + 1 := by rw [IntKind.wrap_i64]; omega
  have hl20I : (l.length : Int) ≤ 20 := by omega
  go_upto_region 5 with (go_at_call 8; refine (picked_out _ _ _ (by omega) (by omega) (by omega) (by omega)).mono ?_; rintro e w9 ⟨rfl, rfl⟩)
  obtain ⟨K, hK⟩ : ∃ K : Nat, pk at_ ((l.length : Int) + 1) = K := ⟨(pk at_ ((l.length : Int) + 1)).toNat, by omega⟩
  rw [hK] at pa1 ⊢
  clear hK pa0 hwl
  have hKl : K ≤ l.length := by omega
  generalize w3.alloc (.cells #[.slice none 0 0, .slice none 0 0, .int .i64 0, .slice none 0 0] 29) = W4 at hA3 ⊢
  have h12 := hb2.trans (hA2.mono hb2.size)
  have h13 := h12.trans (hb3.mono h12.size)
  have h14 := h13.trans (hA3.mono h13.size)
  have hB4 := hb1.trans (h14.mono hb1.size)
  have hAs4 := hAs.below h14
  have HL : Hid _ := hl
  have hS1 : ActsAt W4 aa (l.take K) := hAs4.take K
  have hK1 : Hid (K = (l.take K).length) := by show _ = _; rw [List.length_take]; omega
  have hN1 : Hid (aa = none → K = 0 ∧ ac = 0) := fun h => ⟨by have := (hNil.out h).1; omega, (hNil.out h).2⟩
  have kI : (K : Int) ≤ l.length := by omega
  have k0 : (0 : Int) ≤ K := by omega
  have aI : (l.length : Int) ≤ ac := by omega
  have kc : (K : Int) ≤ ac := by omega
  clear h12 h13 hA2 hA3 hb2 hb3 hAs hl
  go_cut [13] (fun u wx => ∃ v3 : Value, u = v3 ∧ Below W4.heap.size W4 wx ∧ wx.ownsRow W4.heap.size 35 4 v3 (0 + K + 1 + (l.length - K)) (avs ([] ++ l.take K ++ [(⟨2, 4, 0, ⟨#[]⟩⟩ : AV)] ++ l.drop K)))
  case first =>
    by_cases hkc : K = ac
    · have hln : l.length = K := by omega
      have hdr : l.drop K = [] := List.drop_eq_nil_of_le (by omega)
      have hS2 : ActsAt W4 aa (l.drop K) := by rw [hdr]; exact ⟨.inl rfl, fun a ha => by cases ha⟩
      have hK2 : Hid (0 = (l.drop K).length) := by show _ = _; rw [hdr]; rfl
      have hN2 : Hid (aa = none → 0 = 0 ∧ 0 = 0) := fun _ => ⟨rfl, rfl⟩
      have hz : l.length - K = 0 := by omega
      have Hz : Hid _ := hz
      have cI : (l.length : Int) ≤ K := by omega
      clear hdr hln hz
      subst hkc
      have hV0 : Below W4.heap.size W4 W4.drew := (Below.refl _ _).drew
      refine wp_region_held_drew (S := fun _ => True) (by kernel_rfl) trivial (fun hHeld => ?_)
      generalize W4.drew = V0 at hV0 hHeld ⊢
      refine take_dst (i := 0) (d := 41) (v := .slice aa l.length K) rfl rfl (by kernel_rfl) (by kernel_rfl) (by kernel_rfl) (fun _ _ _ h => h) (Or.inl ⟨by rfl, ?_⟩) hHeld ?_
      · (intro w0 hSw; (try dsimp only at hSw); go_simp)
      simp only [Act.put, List.setIfInBounds_toArray, List.set_cons_zero, List.set_cons_succ]
      refine take_dst (i := 1) (d := 42) (v := .int .i64 (K : Int)) rfl rfl (by kernel_rfl) (by kernel_rfl) (by kernel_rfl) (fun _ _ _ h => h) (Or.inl ⟨by rfl, ?_⟩) hHeld ?_
      · (intro w0 hSw; (try dsimp only at hSw); go_simp)
      simp only [Act.put, List.setIfInBounds_toArray, List.set_cons_zero, List.set_cons_succ]
      refine take_dst (i := 2) (d := 43) (v := .slice aa K K) rfl rfl (by kernel_rfl) (by kernel_rfl) (by kernel_rfl) (fun _ _ _ h => h) (Or.inl ⟨by rfl, ?_⟩) hHeld ?_
      · (intro w0 hSw; (try dsimp only at hSw); go_simp)
      simp only [Act.put, List.setIfInBounds_toArray, List.set_cons_zero, List.set_cons_succ]
      refine take_dst (i := 4) (d := 45) (v := .agg #[.int .i64 2, .int .i64 4, .int .i64 0, .string ⟨#[]⟩]) rfl rfl (by kernel_rfl) (by kernel_rfl) (by kernel_rfl) (fun _ _ _ h => h) (Or.inl ⟨by rfl, ?_⟩) hHeld ?_
      · (intro w0 hSw; (try dsimp only at hSw); go_simp)
      simp only [Act.put, List.setIfInBounds_toArray, List.set_cons_zero, List.set_cons_succ]
      refine take_dst (i := 7) (d := 48) (v := .slice aa l.length K) rfl rfl (by kernel_rfl) (by kernel_rfl) (by kernel_rfl) (fun _ _ _ h => h) (Or.inl ⟨by rfl, ?_⟩) hHeld ?_
      · (intro w0 hSw; (try dsimp only at hSw); go_simp)
      simp only [Act.put, List.setIfInBounds_toArray, List.set_cons_zero, List.set_cons_succ]
      refine take_dst (i := 8) (d := 49) (v := .int .i64 (K : Int)) rfl rfl (by kernel_rfl) (by kernel_rfl) (by kernel_rfl) (fun _ _ _ h => h) (Or.inl ⟨by rfl, ?_⟩) hHeld ?_
      · (intro w0 hSw; (try dsimp only at hSw); go_simp)
      simp only [Act.put, List.setIfInBounds_toArray, List.set_cons_zero, List.set_cons_succ]
      refine take_dst (i := 9) (d := 50) (v := .slice aa 0 0) rfl rfl (by kernel_rfl) (by kernel_rfl) (by kernel_rfl) (fun _ _ _ h => h) (Or.inl ⟨by rfl, ?_⟩) hHeld ?_
      · (intro w0 hSw; (try dsimp only at hSw); go_simp)
      simp only [Act.put, List.setIfInBounds_toArray, List.set_cons_zero, List.set_cons_succ]
      refine wpAnyH_ready (rs := [3, 5]) (by kernel_rfl) (by simp) (AllReadyH.cons rfl (fun K9 hK => ?_) (AllReadyH.cons rfl (fun K9 hK => ?_) AllReadyH.nil))
      · skip
        refine step_append_acts rfl 44 rfl (.const (.slice none 0 0)) (.tmp 43) rfl W4.heap.size (.slice none 0 0) 0 [] rfl (World.ownsRow_nil _ _ _ _) aa K K (l.take K) rfl hK1.out (hS1.below hV0) hN1.out (by omega) hV0.size ?_
        intro v1 V1 ho_1 G_1
        have hB_1 := Below.grown hV0 G_1.grown hV0.size (fun q e => by cases e)
        refine hK.out _ _ trivial (fun hHeld => ?_)
        simp only [Act.put, List.setIfInBounds_toArray, List.set_cons_zero, List.set_cons_succ]
        refine wpAnyH_ready (rs := [5]) (by kernel_rfl) (by simp) (AllReadyH.cons rfl (fun K9 hK => ?_) AllReadyH.nil)
        refine step_run rfl 46 rfl (.slice (some ⟨V1.heap.size, 0, none⟩) 1 1) (V1.alloc (.cells #[.int .i64 2, .int .i64 4, .int .i64 0, .string ⟨#[]⟩] 35)) (by go_simp) ?_
        have hA_2 : Below V1.heap.size V1 (V1.alloc (.cells #[.int .i64 2, .int .i64 4, .int .i64 0, .string ⟨#[]⟩] 35)) := (Below.refl _ _).alloc (Nat.le_refl _) _
        have N_2 := heap_alloc_new V1 (.cells #[.int .i64 2, .int .i64 4, .int .i64 0, .string ⟨#[]⟩] 35)
        have hB_2 := hB_1.trans (hA_2.mono hB_1.size)
        have ho_2 := World.ownsRow.alloc ho_1 (.cells #[.int .i64 2, .int .i64 4, .int .i64 0, .string ⟨#[]⟩] 35)
        refine hK.out _ _ trivial (fun hHeld => ?_)
        simp only [Act.put, List.setIfInBounds_toArray, List.set_cons_zero, List.set_cons_succ]
        generalize V1.alloc (.cells #[.int .i64 2, .int .i64 4, .int .i64 0, .string ⟨#[]⟩] 35) = V2 at hA_2 N_2 hB_2 ho_2 ⊢
        generalize V1.heap.size = b2 at N_2 ⊢
        clear hA_2
        refine wpAnyH_ready (rs := [6]) (by kernel_rfl) (by simp) (AllReadyH.cons rfl (fun K9 hK => ?_) AllReadyH.nil)
        refine step_append_acts rfl 47 rfl (.tmp 44) (.tmp 46) rfl W4.heap.size (v1) (0 + K) ([] ++ l.take K) rfl ho_2 (some ⟨b2, 0, none⟩) 1 1 [(⟨2, 4, 0, ⟨#[]⟩⟩ : AV)] rfl rfl (one_act N_2) (fun e => by cases e) (by omega) hB_2.size ?_
        intro v2 V3 ho_3 G_3
        have hB_3 := Below.grown hB_2 G_3.grown hB_2.size (fun q e => (ho_2.lt q e).1)
        refine hK.out _ _ trivial (fun hHeld => ?_)
        simp only [Act.put, List.setIfInBounds_toArray, List.set_cons_zero, List.set_cons_succ]
        refine wpAnyH_ready (rs := [10]) (by kernel_rfl) (by simp) (AllReadyH.cons rfl (fun K9 hK => ?_) AllReadyH.nil)
        refine step_append_acts rfl 51 rfl (.tmp 47) (.tmp 50) rfl W4.heap.size (v2) (0 + K + 1) ([] ++ l.take K ++ [(⟨2, 4, 0, ⟨#[]⟩⟩ : AV)]) rfl ho_3 aa 0 0 (l.drop K) rfl hK2.out (hS2.below hB_3) hN2.out (by omega) hB_3.size ?_
        intro v3 V4 ho_4 G_4
        have hB_4 := Below.grown hB_3 G_4.grown hB_3.size (fun q e => (ho_3.lt q e).1)
        refine hK.out _ _ trivial (fun hHeld => ?_)
        simp only [Act.put, List.setIfInBounds_toArray, List.set_cons_zero, List.set_cons_succ]
        refine take_dst (i := 11) (d := 13) (v := v3) rfl rfl (by kernel_rfl) (by kernel_rfl) (by kernel_rfl) (fun _ _ _ h => h) (Or.inl ⟨by rfl, ?_⟩) hHeld ?_
        · (intro w0 hSw; (try dsimp only at hSw); go_simp)
        simp only [Act.put, List.setIfInBounds_toArray, List.set_cons_zero, List.set_cons_succ]
        refine wpAnyH_done (by kernel_rfl) ?_ _
        go_wp2_with fail
        go_meet
        case rel => exact ⟨v3, rfl, hB_4, by rw [Hz.out]; exact ho_4⟩
      · skip
        refine step_run rfl 46 rfl (.slice (some ⟨V0.heap.size, 0, none⟩) 1 1) (V0.alloc (.cells #[.int .i64 2, .int .i64 4, .int .i64 0, .string ⟨#[]⟩] 35)) (by go_simp) ?_
        have hA_5 : Below V0.heap.size V0 (V0.alloc (.cells #[.int .i64 2, .int .i64 4, .int .i64 0, .string ⟨#[]⟩] 35)) := (Below.refl _ _).alloc (Nat.le_refl _) _
        have N_5 := heap_alloc_new V0 (.cells #[.int .i64 2, .int .i64 4, .int .i64 0, .string ⟨#[]⟩] 35)
        have hB_5 := hV0.trans (hA_5.mono hV0.size)
        refine hK.out _ _ trivial (fun hHeld => ?_)
        simp only [Act.put, List.setIfInBounds_toArray, List.set_cons_zero, List.set_cons_succ]
        generalize V0.alloc (.cells #[.int .i64 2, .int .i64 4, .int .i64 0, .string ⟨#[]⟩] 35) = V5 at hA_5 N_5 hB_5 ⊢
        generalize V0.heap.size = b5 at N_5 ⊢
        clear hA_5
        refine wpAnyH_ready (rs := [3]) (by kernel_rfl) (by simp) (AllReadyH.cons rfl (fun K9 hK => ?_) AllReadyH.nil)
        refine step_append_acts rfl 44 rfl (.const (.slice none 0 0)) (.tmp 43) rfl W4.heap.size (.slice none 0 0) 0 [] rfl (World.ownsRow_nil _ _ _ _) aa K K (l.take K) rfl hK1.out (hS1.below hB_5) hN1.out (by omega) hB_5.size ?_
        intro v1 V6 ho_6 G_6
        have hB_6 := Below.grown hB_5 G_6.grown hB_5.size (fun q e => by cases e)
        have N_6 := (G_6.grown.block _ (lt_of_heap N_5) (fun e => by cases e)).trans N_5
        refine hK.out _ _ trivial (fun hHeld => ?_)
        simp only [Act.put, List.setIfInBounds_toArray, List.set_cons_zero, List.set_cons_succ]
        refine wpAnyH_ready (rs := [6]) (by kernel_rfl) (by simp) (AllReadyH.cons rfl (fun K9 hK => ?_) AllReadyH.nil)
        refine step_append_acts rfl 47 rfl (.tmp 44) (.tmp 46) rfl W4.heap.size (v1) (0 + K) ([] ++ l.take K) rfl ho_6 (some ⟨b5, 0, none⟩) 1 1 [(⟨2, 4, 0, ⟨#[]⟩⟩ : AV)] rfl rfl (one_act N_6) (fun e => by cases e) (by omega) hB_6.size ?_
        intro v2 V7 ho_7 G_7
        have hB_7 := Below.grown hB_6 G_7.grown hB_6.size (fun q e => (ho_6.lt q e).1)
        refine hK.out _ _ trivial (fun hHeld => ?_)
        simp only [Act.put, List.setIfInBounds_toArray, List.set_cons_zero, List.set_cons_succ]
        refine wpAnyH_ready (rs := [10]) (by kernel_rfl) (by simp) (AllReadyH.cons rfl (fun K9 hK => ?_) AllReadyH.nil)
        refine step_append_acts rfl 51 rfl (.tmp 47) (.tmp 50) rfl W4.heap.size (v2) (0 + K + 1) ([] ++ l.take K ++ [(⟨2, 4, 0, ⟨#[]⟩⟩ : AV)]) rfl ho_7 aa 0 0 (l.drop K) rfl hK2.out (hS2.below hB_7) hN2.out (by omega) hB_7.size ?_
        intro v3 V8 ho_8 G_8
        have hB_8 := Below.grown hB_7 G_8.grown hB_7.size (fun q e => (ho_7.lt q e).1)
        refine hK.out _ _ trivial (fun hHeld => ?_)
        simp only [Act.put, List.setIfInBounds_toArray, List.set_cons_zero, List.set_cons_succ]
        refine take_dst (i := 11) (d := 13) (v := v3) rfl rfl (by kernel_rfl) (by kernel_rfl) (by kernel_rfl) (fun _ _ _ h => h) (Or.inl ⟨by rfl, ?_⟩) hHeld ?_
        · (intro w0 hSw; (try dsimp only at hSw); go_simp)
        simp only [Act.put, List.setIfInBounds_toArray, List.set_cons_zero, List.set_cons_succ]
        refine wpAnyH_done (by kernel_rfl) ?_ _
        go_wp2_with fail
        go_meet
        case rel => exact ⟨v3, rfl, hB_8, by rw [Hz.out]; exact ho_8⟩
    · obtain ⟨g, hg⟩ : ∃ g, aa = some ⟨g, 0, none⟩ := by
        rcases hshape with h | h
        · omega
        · exact h
      subst hg
      have hS2 : ActsAt W4 (some ⟨g, 0 + K * 4, none⟩) (l.drop K) := hAs4.drop K
      rw [Nat.zero_add] at hS2
      have hK2 : Hid (l.length - K = (l.drop K).length) := by show _ = _; rw [List.length_drop]
      have hN2 : Hid ((some ⟨g, K * 4, none⟩ : Option Addr) = none → l.length - K = 0 ∧ ac - K = 0) := fun h => by cases h
      have kcI : (K : Int) < ac := by omega
      have hkc2 : ¬ ac = K := fun h => hkc h.symm
      have hV0 : Below W4.heap.size W4 W4.drew := (Below.refl _ _).drew
      refine wp_region_held_drew (S := fun _ => True) (by kernel_rfl) trivial (fun hHeld => ?_)
      generalize W4.drew = V0 at hV0 hHeld ⊢
      refine take_dst (i := 0) (d := 41) (v := .slice (some ⟨g, 0, none⟩) l.length ac) rfl rfl (by kernel_rfl) (by kernel_rfl) (by kernel_rfl) (fun _ _ _ h => h) (Or.inl ⟨by rfl, ?_⟩) hHeld ?_
      · (intro w0 hSw; (try dsimp only at hSw); go_simp)
      simp only [Act.put, List.setIfInBounds_toArray, List.set_cons_zero, List.set_cons_succ]
      refine take_dst (i := 1) (d := 42) (v := .int .i64 (K : Int)) rfl rfl (by kernel_rfl) (by kernel_rfl) (by kernel_rfl) (fun _ _ _ h => h) (Or.inl ⟨by rfl, ?_⟩) hHeld ?_
      · (intro w0 hSw; (try dsimp only at hSw); go_simp)
      simp only [Act.put, List.setIfInBounds_toArray, List.set_cons_zero, List.set_cons_succ]
      refine take_dst (i := 2) (d := 43) (v := .slice (some ⟨g, 0, none⟩) K ac) rfl rfl (by kernel_rfl) (by kernel_rfl) (by kernel_rfl) (fun _ _ _ h => h) (Or.inl ⟨by rfl, ?_⟩) hHeld ?_
      · (intro w0 hSw; (try dsimp only at hSw); go_simp)
      simp only [Act.put, List.setIfInBounds_toArray, List.set_cons_zero, List.set_cons_succ]
      refine take_dst (i := 4) (d := 45) (v := .agg #[.int .i64 2, .int .i64 4, .int .i64 0, .string ⟨#[]⟩]) rfl rfl (by kernel_rfl) (by kernel_rfl) (by kernel_rfl) (fun _ _ _ h => h) (Or.inl ⟨by rfl, ?_⟩) hHeld ?_
      · (intro w0 hSw; (try dsimp only at hSw); go_simp)
      simp only [Act.put, List.setIfInBounds_toArray, List.set_cons_zero, List.set_cons_succ]
      refine take_dst (i := 7) (d := 48) (v := .slice (some ⟨g, 0, none⟩) l.length ac) rfl rfl (by kernel_rfl) (by kernel_rfl) (by kernel_rfl) (fun _ _ _ h => h) (Or.inl ⟨by rfl, ?_⟩) hHeld ?_
      · (intro w0 hSw; (try dsimp only at hSw); go_simp)
      simp only [Act.put, List.setIfInBounds_toArray, List.set_cons_zero, List.set_cons_succ]
      refine take_dst (i := 8) (d := 49) (v := .int .i64 (K : Int)) rfl rfl (by kernel_rfl) (by kernel_rfl) (by kernel_rfl) (fun _ _ _ h => h) (Or.inl ⟨by rfl, ?_⟩) hHeld ?_
      · (intro w0 hSw; (try dsimp only at hSw); go_simp)
      simp only [Act.put, List.setIfInBounds_toArray, List.set_cons_zero, List.set_cons_succ]
      refine take_dst (i := 9) (d := 50) (v := .slice (some ⟨g, K * 4, none⟩) (l.length - K) (ac - K)) rfl rfl (by kernel_rfl) (by kernel_rfl) (by kernel_rfl) (fun _ _ _ h => h) (Or.inl ⟨by rfl, ?_⟩) hHeld ?_
      · (intro w0 hSw; (try dsimp only at hSw); go_simp)
      simp only [Act.put, List.setIfInBounds_toArray, List.set_cons_zero, List.set_cons_succ]
      refine wpAnyH_ready (rs := [3, 5]) (by kernel_rfl) (by simp) (AllReadyH.cons rfl (fun K9 hK => ?_) (AllReadyH.cons rfl (fun K9 hK => ?_) AllReadyH.nil))
      · skip
        refine step_append_acts rfl 44 rfl (.const (.slice none 0 0)) (.tmp 43) rfl W4.heap.size (.slice none 0 0) 0 [] rfl (World.ownsRow_nil _ _ _ _) (some ⟨g, 0, none⟩) K ac (l.take K) rfl hK1.out (hS1.below hV0) hN1.out (by omega) hV0.size ?_
        intro v1 V9 ho_9 G_9
        have hB_9 := Below.grown hV0 G_9.grown hV0.size (fun q e => by cases e)
        refine hK.out _ _ trivial (fun hHeld => ?_)
        simp only [Act.put, List.setIfInBounds_toArray, List.set_cons_zero, List.set_cons_succ]
        refine wpAnyH_ready (rs := [5]) (by kernel_rfl) (by simp) (AllReadyH.cons rfl (fun K9 hK => ?_) AllReadyH.nil)
        refine step_run rfl 46 rfl (.slice (some ⟨V9.heap.size, 0, none⟩) 1 1) (V9.alloc (.cells #[.int .i64 2, .int .i64 4, .int .i64 0, .string ⟨#[]⟩] 35)) (by go_simp) ?_
        have hA_10 : Below V9.heap.size V9 (V9.alloc (.cells #[.int .i64 2, .int .i64 4, .int .i64 0, .string ⟨#[]⟩] 35)) := (Below.refl _ _).alloc (Nat.le_refl _) _
        have N_10 := heap_alloc_new V9 (.cells #[.int .i64 2, .int .i64 4, .int .i64 0, .string ⟨#[]⟩] 35)
        have hB_10 := hB_9.trans (hA_10.mono hB_9.size)
        have ho_10 := World.ownsRow.alloc ho_9 (.cells #[.int .i64 2, .int .i64 4, .int .i64 0, .string ⟨#[]⟩] 35)
        refine hK.out _ _ trivial (fun hHeld => ?_)
        simp only [Act.put, List.setIfInBounds_toArray, List.set_cons_zero, List.set_cons_succ]
        generalize V9.alloc (.cells #[.int .i64 2, .int .i64 4, .int .i64 0, .string ⟨#[]⟩] 35) = V10 at hA_10 N_10 hB_10 ho_10 ⊢
        generalize V9.heap.size = b10 at N_10 ⊢
        clear hA_10
        refine wpAnyH_ready (rs := [6]) (by kernel_rfl) (by simp) (AllReadyH.cons rfl (fun K9 hK => ?_) AllReadyH.nil)
        refine step_append_acts rfl 47 rfl (.tmp 44) (.tmp 46) rfl W4.heap.size (v1) (0 + K) ([] ++ l.take K) rfl ho_10 (some ⟨b10, 0, none⟩) 1 1 [(⟨2, 4, 0, ⟨#[]⟩⟩ : AV)] rfl rfl (one_act N_10) (fun e => by cases e) (by omega) hB_10.size ?_
        intro v2 V11 ho_11 G_11
        have hB_11 := Below.grown hB_10 G_11.grown hB_10.size (fun q e => (ho_10.lt q e).1)
        refine hK.out _ _ trivial (fun hHeld => ?_)
        simp only [Act.put, List.setIfInBounds_toArray, List.set_cons_zero, List.set_cons_succ]
        refine wpAnyH_ready (rs := [10]) (by kernel_rfl) (by simp) (AllReadyH.cons rfl (fun K9 hK => ?_) AllReadyH.nil)
        refine step_append_acts rfl 51 rfl (.tmp 47) (.tmp 50) rfl W4.heap.size (v2) (0 + K + 1) ([] ++ l.take K ++ [(⟨2, 4, 0, ⟨#[]⟩⟩ : AV)]) rfl ho_11 (some ⟨g, K * 4, none⟩) (l.length - K) (ac - K) (l.drop K) rfl hK2.out (hS2.below hB_11) hN2.out (by omega) hB_11.size ?_
        intro v3 V12 ho_12 G_12
        have hB_12 := Below.grown hB_11 G_12.grown hB_11.size (fun q e => (ho_11.lt q e).1)
        refine hK.out _ _ trivial (fun hHeld => ?_)
        simp only [Act.put, List.setIfInBounds_toArray, List.set_cons_zero, List.set_cons_succ]
        refine take_dst (i := 11) (d := 13) (v := v3) rfl rfl (by kernel_rfl) (by kernel_rfl) (by kernel_rfl) (fun _ _ _ h => h) (Or.inl ⟨by rfl, ?_⟩) hHeld ?_
        · (intro w0 hSw; (try dsimp only at hSw); go_simp)
        simp only [Act.put, List.setIfInBounds_toArray, List.set_cons_zero, List.set_cons_succ]
        refine wpAnyH_done (by kernel_rfl) ?_ _
        go_wp2_with fail
        go_meet
        case rel => exact ⟨v3, rfl, hB_12, ho_12⟩
      · skip
        refine step_run rfl 46 rfl (.slice (some ⟨V0.heap.size, 0, none⟩) 1 1) (V0.alloc (.cells #[.int .i64 2, .int .i64 4, .int .i64 0, .string ⟨#[]⟩] 35)) (by go_simp) ?_
        have hA_13 : Below V0.heap.size V0 (V0.alloc (.cells #[.int .i64 2, .int .i64 4, .int .i64 0, .string ⟨#[]⟩] 35)) := (Below.refl _ _).alloc (Nat.le_refl _) _
        have N_13 := heap_alloc_new V0 (.cells #[.int .i64 2, .int .i64 4, .int .i64 0, .string ⟨#[]⟩] 35)
        have hB_13 := hV0.trans (hA_13.mono hV0.size)
        refine hK.out _ _ trivial (fun hHeld => ?_)
        simp only [Act.put, List.setIfInBounds_toArray, List.set_cons_zero, List.set_cons_succ]
        generalize V0.alloc (.cells #[.int .i64 2, .int .i64 4, .int .i64 0, .string ⟨#[]⟩] 35) = V13 at hA_13 N_13 hB_13 ⊢
        generalize V0.heap.size = b13 at N_13 ⊢
        clear hA_13
        refine wpAnyH_ready (rs := [3]) (by kernel_rfl) (by simp) (AllReadyH.cons rfl (fun K9 hK => ?_) AllReadyH.nil)
        refine step_append_acts rfl 44 rfl (.const (.slice none 0 0)) (.tmp 43) rfl W4.heap.size (.slice none 0 0) 0 [] rfl (World.ownsRow_nil _ _ _ _) (some ⟨g, 0, none⟩) K ac (l.take K) rfl hK1.out (hS1.below hB_13) hN1.out (by omega) hB_13.size ?_
        intro v1 V14 ho_14 G_14
        have hB_14 := Below.grown hB_13 G_14.grown hB_13.size (fun q e => by cases e)
        have N_14 := (G_14.grown.block _ (lt_of_heap N_13) (fun e => by cases e)).trans N_13
        refine hK.out _ _ trivial (fun hHeld => ?_)
        simp only [Act.put, List.setIfInBounds_toArray, List.set_cons_zero, List.set_cons_succ]
        refine wpAnyH_ready (rs := [6]) (by kernel_rfl) (by simp) (AllReadyH.cons rfl (fun K9 hK => ?_) AllReadyH.nil)
        refine step_append_acts rfl 47 rfl (.tmp 44) (.tmp 46) rfl W4.heap.size (v1) (0 + K) ([] ++ l.take K) rfl ho_14 (some ⟨b13, 0, none⟩) 1 1 [(⟨2, 4, 0, ⟨#[]⟩⟩ : AV)] rfl rfl (one_act N_14) (fun e => by cases e) (by omega) hB_14.size ?_
        intro v2 V15 ho_15 G_15
        have hB_15 := Below.grown hB_14 G_15.grown hB_14.size (fun q e => (ho_14.lt q e).1)
        refine hK.out _ _ trivial (fun hHeld => ?_)
        simp only [Act.put, List.setIfInBounds_toArray, List.set_cons_zero, List.set_cons_succ]
        refine wpAnyH_ready (rs := [10]) (by kernel_rfl) (by simp) (AllReadyH.cons rfl (fun K9 hK => ?_) AllReadyH.nil)
        refine step_append_acts rfl 51 rfl (.tmp 47) (.tmp 50) rfl W4.heap.size (v2) (0 + K + 1) ([] ++ l.take K ++ [(⟨2, 4, 0, ⟨#[]⟩⟩ : AV)]) rfl ho_15 (some ⟨g, K * 4, none⟩) (l.length - K) (ac - K) (l.drop K) rfl hK2.out (hS2.below hB_15) hN2.out (by omega) hB_15.size ?_
        intro v3 V16 ho_16 G_16
        have hB_16 := Below.grown hB_15 G_16.grown hB_15.size (fun q e => (ho_15.lt q e).1)
        refine hK.out _ _ trivial (fun hHeld => ?_)
        simp only [Act.put, List.setIfInBounds_toArray, List.set_cons_zero, List.set_cons_succ]
        refine take_dst (i := 11) (d := 13) (v := v3) rfl rfl (by kernel_rfl) (by kernel_rfl) (by kernel_rfl) (fun _ _ _ h => h) (Or.inl ⟨by rfl, ?_⟩) hHeld ?_
        · (intro w0 hSw; (try dsimp only at hSw); go_simp)
        simp only [Act.put, List.setIfInBounds_toArray, List.set_cons_zero, List.set_cons_succ]
        refine wpAnyH_done (by kernel_rfl) ?_ _
        go_wp2_with fail
        go_meet
        case rel => exact ⟨v3, rfl, hB_16, ho_16⟩
  case rest =>
    obtain ⟨v3, rfl, hb5, ho5⟩ := hcut
    generalize wc = W5 at hb5 ho5 ⊢
    apply_assumption
    have hB5 := hB4.trans (hb5.mono hB4.size)
    have hbe := frst_bent (l.take K) (l.drop K) (fun x hx => (HL.out x (List.mem_of_mem_take hx)).1)
    have hbl : (l.take K ++ [(⟨2, 4, 0, ⟨#[]⟩⟩ : AV)] ++ l.drop K).length ≤ 3000 := by simp; omega
    have htx : ∀ a ∈ l.take K ++ [(⟨2, 4, 0, ⟨#[]⟩⟩ : AV)] ++ l.drop K, a.t.size ≤ maxLen := by
      intro a ha
      rcases List.mem_append.1 ha with h | h
      · rcases List.mem_append.1 h with h | h
        · exact Nat.le_trans (HL.out a (List.mem_of_mem_take h)).2 (by decide)
        · obtain rfl : a = (⟨2, 4, 0, ⟨#[]⟩⟩ : AV) := by simpa using h
          exact Nat.zero_le _
      · exact Nat.le_trans (HL.out a (List.mem_of_mem_drop h)).2 (by decide)
    rw [List.nil_append] at ho5
    obtain ⟨ba, bc, hv, hbn, -, hBA⟩ := acts_of_owns ho5 htx
    subst hv
    generalize l.take K ++ [(⟨2, 4, 0, ⟨#[]⟩⟩ : AV)] ++ l.drop K = M at *
    rw [hbn]
    have hR3 := run_refused (-1) 2 ba M.length bc W5 (by decide) (fun W hW => by
      have h := check_acts M ba _ bc W rfl hbl (hBA.below hW) (HT.out W (hB5.trans (hW.mono hB5.size)))
      rw [hbe] at h
      exact h)
    clear hbe hbl htx ho5 hbn hBA hAs4 hS1 hK1 hN1 hNil hshape HL
    go_wp2_with fail
    refine hR3.mono ?_
    rintro e w6 ⟨he, hb6⟩
    subst he
    dsimp only
    clear hR3
    have hB6 := hB5.trans (hb6.mono hB5.size)
    have hA6 : Below w6.heap.size w6 (w6.alloc (.cells #[.slice none 0 0, .slice none 0 0, .int .i64 0, .slice none 0 0] 29)) := (Below.refl _ _).alloc (Nat.le_refl _) _
    have q6 := heap_alloc_new w6 (.cells #[.slice none 0 0, .slice none 0 0, .int .i64 0, .slice none 0 0] 29)
    obtain ⟨i, hi, hz0, hz1, hz2⟩ := info_parts infoA
    have hmk : ∀ W : World, ∃ Z : Array Value, (Instr.makeSlice 23 (.int .i64 (3001 : Int)) (.int .i64 (3001 : Int))).run Tryz.prog W = .ok (.slice (some ⟨W.heap.size, 0, none⟩) 3001 3001) (W.alloc (.cells Z 35)) := by
      intro W
      exact ⟨_, run_make (P := Tryz.prog) W 23 35 i _ Tryz.underlying23 hi hz0 .i64 .i64 (3001 : Int) (3001 : Int) (by omega) (Int.le_refl _) (by rw [hz2]; omega) (by omega)⟩
    go_upto_region 7 with fail
    generalize hTB : w6.heap.size = OB at q6 ⊢
    clear hTB
    generalize w6.alloc (.cells #[.slice none 0 0, .slice none 0 0, .int .i64 0, .slice none 0 0] 29) = W6 at hA6 q6 ⊢
    have hB6A := hB6.trans (hA6.mono hB6.size)
    obtain ⟨Z, hZ⟩ := hmk W6
    have hA7 : Below W6.heap.size W6 (W6.alloc (.cells Z 35)) := (Below.refl _ _).alloc (Nat.le_refl _) _
    have q7 := (hA7.block _ (lt_of_heap q6)).trans q6
    go_wp2_with fail
    generalize W6.alloc (.cells Z 35) = W7 at hA7 q7 ⊢
    have hB7 := hB6A.trans (hA7.mono hB6A.size)
    refine (run_refused (-1) 1 _ 3001 3001 W7 (by decide) (fun W hW => check_long _ 3001 3001 W (by decide))).mono ?_
    rintro e w8 ⟨he, hb8⟩
    subst he
    dsimp only
    have hB8 := hB7.trans (hb8.mono hB7.size)
    have hA8 : Below w8.heap.size w8 (w8.alloc (.cells #[.slice none 0 0, .slice none 0 0, .int .i64 0, .slice none 0 0] 29)) := (Below.refl _ _).alloc (Nat.le_refl _) _
    have q8 := (hA8.block _ (lt_of_heap ((hb8.block _ (lt_of_heap q7)).trans q7))).trans ((hb8.block _ (lt_of_heap q7)).trans q7)
    have hB8A := hB8.trans (hA8.mono hB8.size)
    have x0 := cells_at q8 0 _ rfl
    go_wp2_with fail
    go_ret
    exact ⟨rfl, hB8A⟩
end Go.Proofs.YtnfcaonmfkbofaaGreatDoor

namespace Go.Proofs.YtnfcaonmfkbofaaGreatDoor
open Go.RowKit

set_option maxRecDepth 100000 in
theorem cS : Tryz.prog.cellsOf 9 = 1 := by kernel_rfl
set_option maxRecDepth 100000 in
theorem cBl : Tryz.prog.cellsOf 4 = 1 := by kernel_rfl
set_option maxRecDepth 100000 in
theorem c3B : Tryz.prog.cellsOf 140 = 3 := by kernel_rfl
set_option maxRecDepth 100000 in
theorem cKd : Tryz.prog.cellsOf 142 = 4 := by kernel_rfl
set_option maxRecDepth 100000 in
theorem take1 {cs : List Value} {i : Nat} {v : Value} (h : (cs.drop i).take 1 = [v]) : cs[i]? = some v := by
  have := congrArg (·[0]?) h
  simpa [List.getElem?_take, List.getElem?_drop] using this
set_option maxRecDepth 100000 in
theorem cells_of_kinds {H : Type} {enc : TypeId × Value → H} {w : World} {base : Nat} {sp : Nat → Bool} {held : Bool} {fuel : Nat} {cs : List Value} {ds : List (DataW H)} {p : List MemPlace}
    (h : DataW.trod enc Tryz.prog w base sp held fuel 143 cs = some (.agg ds, p)) (i : Nat) (hi : i < 11) (l : List UInt8) (a b c : Bool) (hd : ds[i]? = some (.agg [.lit (.string l), .agg [.lit (.bool a), .lit (.bool b), .lit (.bool c)]])) :
    cs[i * 4]? = some (.string ⟨l.toArray⟩) ∧ cs[i * 4 + 1]? = some (.bool a) ∧ cs[i * 4 + 2]? = some (.bool b) ∧ cs[i * 4 + 3]? = some (.bool c) := by
  obtain ⟨xs, f, rfl, hx, hl, hn, hr⟩ := DataW.trod_array Tryz.underlying143 h
  have hxs : ds = xs.map (·.1) := by
    have := congrArg Prod.fst hx
    simpa using this
  have hrow := hr i hi
  have hilt : i < xs.length := by omega
  rw [List.getElem?_eq_getElem hilt, cKd] at hrow
  have hd2 : (xs[i]).1 = .agg [.lit (.string l), .agg [.lit (.bool a), .lit (.bool b), .lit (.bool c)]] := by
    rw [hxs, List.getElem?_map, List.getElem?_eq_getElem hilt] at hd
    simpa using hd
  obtain ⟨y0, y1, m, he, _, h0, h1⟩ := Go.ChangeShapes.trod_struct2 Tryz.underlying142 hrow
  rw [he] at hd2
  simp only [DataW.agg.injEq, List.cons.injEq, and_true] at hd2
  obtain ⟨e0, e1⟩ := hd2
  simp only [cS, c3B, List.drop_zero] at h0 h1
  obtain ⟨s, hs1, hs2, _⟩ := DataW.trod_string Tryz.underlying9 h0
  obtain ⟨zs, g, _, hz, _, hzn, hzr⟩ := DataW.trod_array Tryz.underlying140 h1
  rw [hs2] at e0
  rw [hz] at e1
  simp only [DataW.lit.injEq, Lit.string.injEq] at e0
  simp only [DataW.agg.injEq] at e1
  have hb : ∀ j, j < 3 → ∀ v : Bool, [DataW.lit (H := H) (.bool a), .lit (.bool b), .lit (.bool c)][j]? = some (.lit (.bool v)) → cs[i * 4 + 1 + j]? = some (.bool v) := by
    intro j hj v hv
    have hq := hzr j hj
    rw [List.getElem?_eq_getElem (by omega), cBl] at hq
    obtain ⟨x, hx1, hx2⟩ := DataW.trod_bool Tryz.underlying4 hq
    have : x = v := by
      rw [← e1, List.getElem?_map, List.getElem?_eq_getElem (by omega)] at hv
      simp [hx2] at hv
      exact hv
    subst this
    have h9 := congrArg (·[0]?) hx1
    obtain rfl | rfl | rfl : j = 0 ∨ j = 1 ∨ j = 2 := by omega
    all_goals simpa [List.getElem?_take, List.getElem?_drop, Nat.add_assoc] using h9
  refine ⟨?_, hb 0 (by omega) a rfl, hb 1 (by omega) b rfl, hb 2 (by omega) c rfl⟩
  rw [List.take_take, show min 1 4 = 1 by rfl] at hs1
  have h9 := take1 hs1
  rw [h9]
  congr 2
  rw [← e0]
set_option maxRecDepth 100000 in
theorem tKinds : (Tryz.prog.globals[0]?).map (·.type) = some 143 := by kernel_rfl
set_option maxRecDepth 100000 in
theorem kinds_data : Rows.laid_sheaves_lines_kinds (H := Unit) = .agg ((List.range 11).map fun k : Nat => .agg [.lit (.string (wordL (k : Int))), .agg [.lit (.bool (hN (k : Int))), .lit (.bool (hP (k : Int))), .lit (.bool (hT (k : Int)))]]) := by rfl
set_option maxRecDepth 100000 in
theorem ktab_of {W : World} {n1 : String} {r : List (String × DataW Unit)} (hg : Tryz.prog.globalNamed n1 = some 0) (h : laidMet Tryz.prog ((n1, Rows.laid_sheaves_lines_kinds) :: r) W) : KTab W := by
  obtain ⟨ps, ⟨g', t', cs, fuel, p, q, hg', ht', hvar, hd, _, _⟩, _⟩ := h
  obtain rfl := Option.some.inj (hg.symm.trans hg')
  obtain rfl := Option.some.inj (tKinds.symm.trans ht')
  rw [kinds_data] at hd
  have H : ∀ k : Nat, k < 11 → _ := fun k hk => cells_of_kinds hd k hk (wordL k) (hN k) (hP k) (hT k) (by rw [List.getElem?_map, List.getElem?_range hk]; rfl)
  have hc := fun i => World.var?_cell hg hvar i
  refine ⟨fun k h1 h2 => ?_, fun k h1 h2 => ?_, fun k h1 h2 => ?_, fun k h1 h2 => ?_⟩
  · rw [hc, ← Array.getElem?_toList]; exact (H k (by omega)).1
  · rw [hc, ← Array.getElem?_toList]; exact (H k (by omega)).2.1
  · rw [hc, ← Array.getElem?_toList]; exact (H k (by omega)).2.2.1
  · rw [hc, ← Array.getElem?_toList]; exact (H k (by omega)).2.2.2
set_option maxRecDepth 100000 in
theorem tabsT_of {W : World} {n1 n2 n3 n4 : String} {d1 d2 d3 : DataW Unit} (g4 : Tryz.prog.globalNamed n4 = some 0)
    (h : laidMet Tryz.prog [(n1, d1), (n2, d2), (n3, d3), (n4, Rows.laid_sheaves_lines_kinds)] W) : KTab W := ktab_of g4 h.tail.tail.tail
/-- What the initialisers lay, in the first blocks. -/
def layBlk (c : Array Value) : Obj → Obj
  | .cells _ t frozen => .cells c t frozen
  | o => o
def litD : DataW Unit → Value
  | .lit (.int k n) => .int k n
  | _ => .int .i64 0
def flatD : DataW Unit → List Value
  | .agg ds => ds.map litD
  | d => [litD d]
def flatDD : DataW Unit → List Value
  | .agg ds => ds.flatMap flatD
  | d => [litD d]
def kindCells : List Value := (List.range 11).flatMap fun k : Nat => [.string ⟨(wordL (k : Int)).toArray⟩, .bool (hN (k : Int)), .bool (hP (k : Int)), .bool (hT (k : Int))]
def layTp (w : World) : World :=
  { w with heap := (((w.heap.modify 1 (layBlk (flatDD Rows.laid_sheaves_blake_firstWords).toArray)).modify 2 (layBlk (flatDD Rows.laid_sheaves_blake_orders).toArray)).modify 3 (layBlk (flatDD Rows.laid_sheaves_blake_lanes).toArray)).modify 0 (layBlk kindCells.toArray) }
end Go.Proofs.YtnfcaonmfkbofaaGreatDoor

namespace Go.Proofs.YtnfcaonmfkbofaaGreatDoor.topRefused
open Go.ChangeShapes Go.WideShapes Go.ChangeAt Go.RowKit

set_option maxRecDepth 100000 in
/-- What the walk gives, for every argument and every world that holds the tables. -/
theorem contract (H : Type) (enc : TypeId × Value → H) (W : World) (base : Nat) (args : Array Value) (ds gs : List (DataW H)) (before : List MemPlace)
    (hval : ∀ (j : Nat) t v, Tryz.f3.params[j]? = some t → args[j]? = some v → Value.okWide Tryz.prog W .any base t v)
    (hW : DataW.Whole enc Tryz.prog Tryz.f3.params.toList Rows.topRefusedSpec.vars false W args.toList ds gs before) (hsz : (DataW.weightsEach Tryz.prog (Tryz.f3.params.toList ++ (OpenSpec.ofChange Rows.topRefusedSpec).bare.plain.varTypes Tryz.prog) (ds ++ gs)).all (· ≤ reachBytes) = true) (hL : laidMetH Tryz.prog Rows.topRefusedRow.laid W) :
    Calls Tryz.prog 3 args W fun e W' => ∃ v, e = .returned v ∧ Rows.topRefusedSpec.post enc Tryz.prog Tryz.f3 false true false false W args v W' := by
  have hW' := hW
  obtain ⟨p, q, hA0, hV, rfl, hfz, hnd⟩ := hW
  have hA : DataW.TrodAll enc Tryz.prog W 0 (fun _ => true) true Tryz.f3.params.toList args.toList ds p := hA0
  rw [Tryz.params3] at hA hval hsz
  obtain ⟨v0, vs0, d0, ds0, p0, q0, hargs, rfl, rfl, h0, r0⟩ := trodAll_cons hA
  obtain ⟨v1, vs1, d1, ds1, p1, q1, rfl, rfl, rfl, h1, r1⟩ := trodAll_cons r0
  obtain ⟨v2, vs2, d2, ds2, p2, q2, rfl, rfl, rfl, h2, r2⟩ := trodAll_cons r1
  obtain ⟨rfl, rfl, rfl⟩ := trodAll_nil r2
  obtain rfl : args = #[v0, v1, v2] := by cases args; simp_all
  obtain ⟨rfl, rfl⟩ := trodVars_none hV
  have k0 := h0
  have lt0 : ∀ x ∈ p0, x.block < W.heap.size := by obtain ⟨m, hm⟩ := k0; exact DataW.trod_lt m _ _ _ hm
  obtain ⟨sa0, cap0, rs0, rfl, q0_0, q0_1⟩ := open_gears (hval 0 22 v0 rfl rfl) h0 (fit_each hsz (j := 0) rfl rfl)
  obtain ⟨a1, rfl, rfl, rfl, w1⟩ := open_int Tryz.underlying3 (hval 1 3 v1 rfl rfl) h1
  obtain ⟨lo1, hi1⟩ := bounds_i64 w1
  obtain ⟨a2, rfl, rfl, rfl, w2⟩ := open_int Tryz.underlying3 (hval 2 3 v2 rfl rfl) h2
  obtain ⟨lo2, hi2⟩ := bounds_i64 w2
  clear hA0
  have hT := tabsT_of (by kernel_rfl) hL
  refine (topRefused_walk sa0 cap0 rs0 a1 a2 W q0_0 q0_1 lo1 hi1 lo2 hi2 hT).mono fun e W' ⟨he, bel⟩ => ?_
  subst he
  exact ⟨_, rfl, _, _, _, [], _, [], hW', trodAll_mk1 (shut_bool Tryz.underlying4 _), (trodAll_cons_mk (Below.trod laidOut (by kernel_rfl) (of_decide_eq_true (by kernel_rfl)) k0 bel lt0) (trodAll_cons_mk (shut_int Tryz.underlying3 w1) (trodAll_cons_mk (shut_int Tryz.underlying3 w2) trodAll_mk0))), rfl, bel.frame _, fun h => by cases h⟩

set_option maxRecDepth 100000 in
theorem laid_met (os : Os) : laidMet Tryz.prog Rows.topRefusedRow.laid ((layTp (World.holding Tryz.prog os ⟨#[], #[], []⟩)).forCall (fun _ _ => 0) ⟨#[], #[.slice none 0 0, .int .i64 0, .int .i64 0], []⟩).memory :=
  laidMet_of_run' 8 (by kernel_rfl) (by kernel_rfl)
set_option maxRecDepth 100000 in
theorem reads (os : Os) {H : Type} (enc : TypeId × Value → H) : ∃ places, DataW.whole enc Tryz.prog ((layTp (World.holding Tryz.prog os ⟨#[], #[], []⟩)).forCall (fun _ _ => 0) ⟨#[], #[.slice none 0 0, .int .i64 0, .int .i64 0], []⟩).memory Tryz.f3.params.toList Rows.topRefusedSpec.vars false (#[.slice none 0 0, .int .i64 0, .int .i64 0] : Array Value).toList 8 = some ([.nil, .lit (.int .i64 0), .lit (.int .i64 0)], [], places) :=
  ⟨[], by kernel_rfl⟩

set_option maxRecDepth 100000 in
theorem lifted (os : Os) (started : os.Started) (H : Type) (enc : TypeId × Value → H) (F : Stop.Interp) :
    ReturnsInHanded {} Tryz.checked os 3 .any ((OpenSpec.ofChange Rows.topRefusedSpec).preRow enc Tryz.prog Tryz.f3 Rows.topRefusedRow.domain false Rows.topRefusedRow.laid) (((OpenSpec.ofChange Rows.topRefusedSpec).at F).post enc Tryz.prog Tryz.f3 false true false false) := by
  obtain ⟨places, hx⟩ := reads os enc
  refine returnsInHanded_of_row (C := Tryz.checked) (s := OpenSpec.ofChange Rows.topRefusedSpec) own started (by kernel_rfl) Tryz.func3
    (witness_row_at (enc := enc) (C := Tryz.checked) false (layTp (World.holding Tryz.prog os ⟨#[], #[], []⟩)) #[.slice none 0 0, .int .i64 0, .int .i64 0] rfl (by kernel_rfl) (by kernel_rfl) (by kernel_rfl)
      (OpenSpec.preRow_of_cond 8 hx (by kernel_rfl) (fun k hk => by cases hk) (by kernel_rfl) (laid_met os))) ?_
  intro W base args ds gs before hval hW _ _ hsz hL _ _
  exact contract H enc W base args ds gs before hval hW hsz hL

set_option maxRecDepth 100000 in
theorem said : Rows.TopRefusedSaid :=
  OpenClaim.holds_of_cond 3 Tryz.f3 rfl rfl rfl rfl rfl rfl rfl ⟨rfl, rfl, rfl, rfl, rfl⟩ rfl rfl rfl rfl rfl (by kernel_rfl) Tryz.func3 (by kernel_rfl)
    (of_decide_eq_true (by kernel_rfl)) (by unfold Func.isWrapper; first | (rw [if_pos (by decide +kernel)]; kernel_rfl) | (rw [if_neg (by decide +kernel)]; exact ⟨rfl, rfl⟩))
    (fun os started H enc _ F => by rw [OpenClaim.pre_eq_preRow]; exact lifted os started H enc F)

set_option maxRecDepth 100000 in
theorem plain (f : FuncId) (fn : Func) (hf : Tryz.pinned.checked.prog.funcNamed Rows.topRefusedRow.func = some f) (hfn : Tryz.pinned.checked.prog.funcs[f]? = some fn) :
    false = Tryz.pinned.checked.prog.looks [] ∧ ∀ (j : Nat) t, fn.params[j]? = some t → Tryz.pinned.checked.prog.wantsStandIn t = false := by
  obtain rfl : f = 3 := Option.some.inj ((show Tryz.prog.funcNamed Rows.topRefusedRow.func = some 3 by kernel_rfl).symm.trans hf) |>.symm
  obtain rfl : fn = Tryz.f3 := (Option.some.inj (Tryz.func3.symm.trans hfn)).symm
  refine ⟨by kernel_rfl, fun j t ht => ?_⟩
  rw [Tryz.params3] at ht
  have hm : t = 22 ∨ t = 3 ∨ t = 3 := by simpa using Array.mem_of_getElem? ht
  rcases hm with rfl | rfl | rfl
  · exact (show Tryz.prog.wantsStandIn 22 = false by kernel_rfl)
  · exact (show Tryz.prog.wantsStandIn 3 = false by kernel_rfl)
  · exact (show Tryz.prog.wantsStandIn 3 = false by kernel_rfl)

set_option maxRecDepth 100000 in
/-- THE CARD. -/
theorem card : Rows.TopRefusedCardSaid :=
  Claim7.holds_tied_plain_at .later [] _ _ _ _ said (fun _ h => by cases h) (by kernel_rfl) (fun _ h => by cases h) topRefused_row_tie rfl ⟨rfl, rfl⟩ (by kernel_rfl) rfl plain (by kernel_rfl)
end Go.Proofs.YtnfcaonmfkbofaaGreatDoor.topRefused
namespace Go.Proofs.YtnfcaonmfkbofaaGreatDoor
set_option maxRecDepth 100000 in
theorem topRefused_holds : Rows.TopRefusedCardSaid := topRefused.card
#print axioms topRefused_holds
end Go.Proofs.YtnfcaonmfkbofaaGreatDoor
