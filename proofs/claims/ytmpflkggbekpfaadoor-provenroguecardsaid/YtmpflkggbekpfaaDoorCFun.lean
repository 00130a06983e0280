/- slices.ContainsFunc of signs, for a closure that answers by a sign; seal.has, seal.Check. -/
import Derived.Test.YtmpflkggbekpfaaDoorCSig
namespace Go.Proofs.YtmpflkggbekpfaaDoor
open Go.RowKit

/-- The closure answers so, in every world that comes of this one. -/
def Answers (f : FuncId) (caps : Array Value) (P : Sg → Bool) (ls : List Sg) (w : World) : Prop :=
  ∀ s ∈ ls, ∀ W : World, Below w.heap.size w W → Calls Tryd.prog f (#[.agg #[.int .i64 s.nd, .int .i64 s.au, .int .i64 s.rd, .slice s.p.sa s.p.bs.length s.p.cap]] ++ caps) W fun e w' => e = .returned (.bool (P s)) ∧ Below W.heap.size W w'
set_option maxRecDepth 100000 in
set_option maxHeartbeats 2000000 in
theorem indexFuncG_any (f : FuncId) (caps : Array Value) (P : Sg → Bool) (hent : ∀ args w, (callFunc f args).run Tryd.prog w = .ok (.enter f args) w) (ls : List Sg) (sa : Option Addr) (n cap : Nat) (w : World) (hn : n = ls.length) (hk2 : ls.length ≤ 2932031007400) (hp : SignsAt w sa ls) (hA : Answers f caps P ls w) :
    Calls Tryd.prog 56 #[.slice sa n cap, .func (.func f) #[] caps] w fun e w' => Below w.heap.size w w' ∧ ∃ r : Int, e = .returned (.int .i64 r) ∧ ((ls.any P = true ∧ 0 ≤ r) ∨ (ls.any P = false ∧ r = -1)) := by
  subst hn
  have HA : Hid (Answers f caps P ls w) := hA
  clear hA
  go_enter Tryd.func56, Tryd.ntmps56
  go_wp2_with fail
  go_loopw [8] (fun i wr => ∃ m : Nat, m ≤ ls.length ∧ i = .int .i64 m ∧ (∀ s ∈ ls.take m, P s = false) ∧ Below w.heap.size w wr) (fun i _ => ls.length - (intOf i).toNat)
  case atStart => exact ⟨0, Nat.zero_le _, rfl, (fun s hs => by simp at hs), Below.refl _ _⟩
  case round =>
    obtain ⟨m, hm, rfl, hno, hb⟩ := hrel
    by_cases hlt : m < ls.length
    · have hpw := hp.below hb
      obtain ⟨sb, so, rfl, hc⟩ : ∃ sb so, sa = some ⟨sb, so, none⟩ ∧ ∀ j (h : j < ls.length), wr.cell? ⟨sb, so + j * 4, none⟩ = some (.int .i64 (ls[j]).nd) ∧ wr.cell? ⟨sb, so + j * 4 + 1, none⟩ = some (.int .i64 (ls[j]).au) ∧ wr.cell? ⟨sb, so + j * 4 + 2, none⟩ = some (.int .i64 (ls[j]).rd) ∧ wr.cell? ⟨sb, so + j * 4 + 3, none⟩ = some (.slice (ls[j]).p.sa (ls[j]).p.bs.length (ls[j]).p.cap) := by
        rcases hpw.cells with h | h
        · rw [h] at hlt; simp at hlt
        · exact h
      obtain ⟨c0, c1, c2, c3⟩ := hc m hlt
      have hltI : (m : Int) < ls.length := by omega
      have HY : Hid (P (ls[m]) = true → ls.any P = true) := by
        show _ → _
        intro h
        exact List.any_eq_true.2 ⟨_, List.getElem_mem hlt, h⟩
      have HN : Hid (P (ls[m]) = false → ∀ s ∈ ls.take (m + 1), P s = false) := by
        show _ → _
        intro h s hs
        rw [mem_take_succ hlt] at hs
        rcases hs with hs | rfl
        · exact hno s hs
        · exact h
      have HC := HA.out (ls[m]) (List.getElem_mem hlt) wr hb
      clear hc hno hpw
      generalize ls[m] = t at *
      go_wp2_with fail
      refine HC.mono ?_
      rintro e w1 ⟨he, hb1⟩
      subst he
      dsimp only
      have hB1 := hb.trans (hb1.mono hb.size)
      cases hP : P t with
      | true =>
        have hy : Hid _ := HY.out hP
        clear HY HN hP HC
        go_wp2_with fail
        go_ret
        exact ⟨hB1, (m : Int), rfl, .inl ⟨hy.out, by omega⟩⟩
      | false =>
        have hn : Hid _ := HN.out hP
        clear HY HN hP HC
        go_wp2_with fail
        go_roundw
        case rel => exact ⟨m + 1, by omega, by go_num, hn.out, hB1⟩
        case measure => simp [intOf]; omega
    · obtain rfl : m = ls.length := by omega
      have hn : Hid (ls.any P = false) := by
        show _ = _
        rw [List.take_of_length_le (Nat.le_refl _)] at hno
        rw [List.any_eq_false]
        intro s hs
        rw [hno s hs]; simp
      clear hno
      go_wp2_with fail
      go_ret
      exact ⟨hb, (-1 : Int), rfl, .inr ⟨hn.out, rfl⟩⟩
set_option maxRecDepth 100000 in
set_option maxHeartbeats 1000000 in
theorem containsFuncG_any (f : FuncId) (caps : Array Value) (P : Sg → Bool) (hent : ∀ args w, (callFunc f args).run Tryd.prog w = .ok (.enter f args) w) (ls : List Sg) (sa : Option Addr) (n cap : Nat) (w : World) (hn : n = ls.length) (hk2 : ls.length ≤ 2932031007400) (hp : SignsAt w sa ls) (hA : Answers f caps P ls w) :
    Calls Tryd.prog 38 #[.slice sa n cap, .func (.func f) #[] caps] w fun e w' => e = .returned (.bool (ls.any P)) ∧ Below w.heap.size w w' := by
  subst hn
  have HC := indexFuncG_any f caps P hent ls sa _ cap w rfl hk2 hp hA
  clear hA
  go_enter Tryd.func38, Tryd.ntmps38
  go_wp2_with fail
  refine HC.mono ?_
  rintro e w1 ⟨hb, r, he, hr⟩
  subst he
  dsimp only
  rcases hr with ⟨ha, hr⟩ | ⟨ha, rfl⟩
  · have Ha : Hid _ := ha
    clear ha
    go_wp2_with fail
    go_ret
    exact ⟨ret_bool (by rw [Ha.out]), hb⟩
  · have Ha : Hid _ := ha
    clear ha
    go_wp2_with fail
    go_ret
    exact ⟨ret_bool (by rw [Ha.out]), hb⟩
end Go.Proofs.YtmpflkggbekpfaaDoor
