/- wire.checkDigests, for every list. -/
import Derived.Test.YtbmodfegcmaieaaDoorGAppD
import Derived.Test.YtbmodfegcmaieaaDoorGAppR
import Derived.Test.YtbmodfegcmaieaaDoorGEqual
namespace Go.Proofs.YtbmodfegcmaieaaDoor
open Go.RowKit

def partAt (ps : List Part) (k : Nat) : Part := ps.getD k ⟨none, 0, []⟩
set_option maxRecDepth 100000 in
theorem partAt_get (ps : List Part) (k : Nat) (h : k < ps.length) : partAt ps k = ps[k] := by simp [partAt, h]
/-- Is the k'th one there already? -/
def twice (ps : List Part) (k : Nat) : Bool := (List.range k).any fun j => decide (txL (partAt ps j).bs = txL (partAt ps k).bs)
def digAt (ps : List Part) (k : Nat) : Int := if (partAt ps k).bs.length ≠ 32 then 4 else if twice ps k then 7 else 0
/-- P2.1, of the first k. -/
def digTo1 (ps : List Part) : Nat → Int
  | 0 => 0
  | k + 1 => if digTo1 ps k ≠ 0 then digTo1 ps k else digAt ps k
def digF (ps : List Part) : Int := digTo1 ps ps.length
set_option maxRecDepth 100000 in
theorem digTo1_stays (ps : List Part) (k m : Nat) (h : digTo1 ps k ≠ 0) (hm : k ≤ m) : digTo1 ps m = digTo1 ps k := by
  induction m with
  | zero => obtain rfl : k = 0 := by omega
            rfl
  | succ m ih =>
    rcases Nat.lt_or_ge k (m + 1) with g | g
    · rw [digTo1, ih (by omega), if_pos h]
    · obtain rfl : k = m + 1 := by omega
      rfl
set_option maxRecDepth 100000 in
theorem digF_at (ps : List Part) (k : Nat) (hk : k < ps.length) (h0 : digTo1 ps k = 0) (h : digAt ps k ≠ 0) : digF ps = digAt ps k := by
  have e : digTo1 ps (k + 1) = digAt ps k := by rw [digTo1, h0]; simp
  rw [digF, digTo1_stays ps (k + 1) ps.length (by rw [e]; exact h) hk, e]

set_option maxRecDepth 100000 in
theorem same_closure (xs ys : List Int) (sa sb : Option Addr) (n m c d g : Nat) (w : World) (hn : n = xs.length) (hm : m = ys.length) (ha : SliceAt w sa c xs) (hb : SliceAt w sb d ys) (hg : w.cell? ⟨g, 0, none⟩ = some (.slice sb m d)) :
    Calls Tryd.prog 110 #[.slice sa n c, .pointer (some ⟨g, 0, none⟩)] w fun e w' => e = .returned (.bool (decide (txL xs = txL ys))) ∧ w = w' := by
  go_enter Tryd.func110, Tryd.ntmps110
  go_wp2_with fail
  refine (equal_any xs ys _ _ _ _ _ _ w (by first | exact hn | rfl) (by first | exact hm | rfl) ha hb).mono ?_
  rintro e w1 ⟨he, rfl⟩
  subst he
  dsimp only
  go_wp2_with fail
  go_ret
  exact ⟨rfl, rfl⟩
end Go.Proofs.YtbmodfegcmaieaaDoor

namespace Go.Proofs.YtbmodfegcmaieaaDoor
open Go.RowKit

def parentsF (rd : Int) (n : Nat) : Int := if (rd = 1 ∧ 0 < n) ∨ (1 < rd ∧ n < 3) then 10 else 0
def headerF (au rd : Int) (bl pl : List Part) : Int := if ¬ (0 ≤ au ∧ au < 4) ∨ ¬ (1 ≤ rd ∧ rd ≤ 1048576) then 2 else if 3 < bl.length ∨ 4 < pl.length then 1 else if digF bl ≠ 0 then digF bl else if digF pl ≠ 0 then digF pl else parentsF rd pl.length
end Go.Proofs.YtbmodfegcmaieaaDoor

namespace Go.Proofs.YtbmodfegcmaieaaDoor
open Go.RowKit

def anyOf (ps : List Part) (q : Part) (k : Nat) : Bool := (List.range k).any fun j => decide (txL (partAt ps j).bs = txL q.bs)
set_option maxRecDepth 100000 in
theorem anyOf_yes (ps : List Part) (q : Part) (k m : Nat) (hm : m < k) (h : txL (partAt ps m).bs = txL q.bs) : anyOf ps q k = true := by
  simp only [anyOf, List.any_eq_true]
  exact ⟨m, by simpa using hm, by simpa using h⟩
set_option maxRecDepth 100000 in
theorem anyOf_no (ps : List Part) (q : Part) (k : Nat) (h : ∀ j, j < k → ¬ txL (partAt ps j).bs = txL q.bs) : anyOf ps q k = false := by
  simp only [anyOf, List.any_eq_false]
  intro j hj
  simpa using h j (by simpa using hj)

set_option maxRecDepth 100000 in
set_option maxHeartbeats 1000000 in
theorem indexFunc_any (ps : List Part) (q : Part) (sa : Option Addr) (k cap g : Nat) (w : World) (hk : k ≤ ps.length) (hk2 : k ≤ 9000000000000000000) (hp : PartsAt w sa ps) (hq : SliceAt w q.sa q.cap q.bs) (hg : w.cell? ⟨g, 0, none⟩ = some (.slice q.sa q.bs.length q.cap)) :
    Calls Tryd.prog 102 #[.slice sa k cap, .func (.func 110) #[] #[.pointer (some ⟨g, 0, none⟩)]] w fun e w' => w = w' ∧ ∃ r : Int, e = .returned (.int .i64 r) ∧ ((anyOf ps q k = true ∧ 0 ≤ r) ∨ (anyOf ps q k = false ∧ r = -1)) := by
  go_enter Tryd.func102, Tryd.ntmps102
  go_wp2_with fail
  go_loop [8] (fun i => ∃ m : Nat, m ≤ k ∧ i = .int .i64 m ∧ ∀ j, j < m → ¬ txL (partAt ps j).bs = txL q.bs) (fun i => k - (intOf i).toNat)
  case atStart => exact ⟨0, Nat.zero_le _, rfl, fun j hj => by omega⟩
  case round =>
    obtain ⟨m, hm, rfl, hno⟩ := hrel
    by_cases hlt : m < k
    · rcases hp.cells with hc | ⟨sb, so, rfl, hc⟩
      · subst hc; simp at hk; omega
      have hmp : m < ps.length := by omega
      have ck := hc m hmp
      have hx := hp.each (ps[m]) (List.getElem_mem hmp)
      have hltI : (m : Int) < k := by omega
      have hpe := partAt_get ps m hmp
      have Hyes : Hid (txL (ps[m]).bs = txL q.bs → anyOf ps q k = true) := by
        show _ → _
        intro h
        exact anyOf_yes ps q k m hlt (by rw [hpe]; exact h)
      have Hno : Hid (¬ txL (ps[m]).bs = txL q.bs → ∀ j, j < m + 1 → ¬ txL (partAt ps j).bs = txL q.bs) := by
        show _ → _
        intro h j hj
        rcases Nat.lt_or_ge j m with g | g
        · exact hno j g
        · obtain rfl : j = m := by omega
          rw [hpe]; exact h
      clear hno hpe hc
      generalize ps[m] = p at *
      go_wp2_with fail
      refine (same_closure p.bs q.bs p.sa q.sa _ _ p.cap q.cap g w rfl rfl hx hq hg).mono ?_
      rintro e w1 ⟨he, rfl⟩
      subst he
      dsimp only
      by_cases h : txL p.bs = txL q.bs
      · have hy := Hyes.out h
        rw [decide_eq_true h]
        clear Hyes Hno h
        go_wp2_with fail
        go_ret
        exact ⟨rfl, (m : Int), rfl, .inl ⟨hy, by omega⟩⟩
      · have hn := Hno.out h
        rw [decide_eq_false h]
        clear Hyes Hno h
        go_wp2_with fail
        go_round
        case rel => exact ⟨m + 1, by omega, by go_num, hn⟩
        case measure => simp [intOf]; omega
    · obtain rfl : m = k := by omega
      have hn : Hid (anyOf ps q m = false) := anyOf_no ps q m hno
      go_wp2_with fail
      go_ret
      refine ⟨rfl, (-1 : Int), rfl, ?_⟩
      exact .inr ⟨hn.out, rfl⟩
set_option maxRecDepth 100000 in
set_option maxHeartbeats 400000 in
theorem containsFunc_any (ps : List Part) (q : Part) (sa : Option Addr) (k cap g : Nat) (w : World) (hk : k ≤ ps.length) (hk2 : k ≤ 9000000000000000000) (hp : PartsAt w sa ps) (hq : SliceAt w q.sa q.cap q.bs) (hg : w.cell? ⟨g, 0, none⟩ = some (.slice q.sa q.bs.length q.cap)) :
    Calls Tryd.prog 111 #[.slice sa k cap, .func (.func 110) #[] #[.pointer (some ⟨g, 0, none⟩)]] w fun e w' => e = .returned (.bool (anyOf ps q k)) ∧ w = w' := by
  go_enter Tryd.func111, Tryd.ntmps111
  go_wp2_with fail
  refine (indexFunc_any ps q sa k cap g w hk hk2 hp hq hg).mono ?_
  rintro e w1 ⟨rfl, r, he, hr⟩
  subst he
  dsimp only
  rcases hr with ⟨ha, hr⟩ | ⟨ha, rfl⟩
  · go_wp2_with fail
    go_ret
    exact ⟨ret_bool (by rw [ha]), rfl⟩
  · go_wp2_with fail
    go_ret
    exact ⟨ret_bool (by rw [ha]), rfl⟩

set_option maxRecDepth 100000 in
set_option maxHeartbeats 1000000 in
theorem checkDigests_any (ps : List Part) (sa : Option Addr) (n cap : Nat) (w : World) (hn : n = ps.length) (hc0 : n ≤ cap) (_hcm : cap ≤ 9223372036854775807) (hnm : n ≤ 9000000000000000000) (hsa : cap = 0 ∨ ∃ sb so, sa = some ⟨sb, so, none⟩) (hp : PartsAt w sa ps) :
    Calls Tryd.prog 88 #[.slice sa n cap] w fun e w' => e = .returned (.int .i64 (digF ps)) ∧ Below w.heap.size w w' := by
  subst hn
  have hmf : ∀ (fn : Fn) (first cap : Array Value) (w : World), (Instr.makeFunc fn first cap).run Tryd.prog w = .ok (.func fn first cap) w := fun _ _ _ _ => rfl
  go_enter Tryd.func88, Tryd.ntmps88
  go_wp2_with fail
  go_loopw [8] (fun i wr => ∃ k : Nat, k ≤ ps.length ∧ i = .int .i64 k ∧ digTo1 ps k = 0 ∧ Below w.heap.size w wr) (fun i _ => ps.length - (intOf i).toNat)
  case atStart => exact ⟨0, Nat.zero_le _, rfl, rfl, Below.refl _ _⟩
  case round =>
    obtain ⟨k, hk, rfl, h0, hb⟩ := hrel
    by_cases hlt : k < ps.length
    · obtain ⟨sb, so, rfl⟩ : ∃ sb so, sa = some ⟨sb, so, none⟩ := by
        rcases hsa with h | h
        · omega
        · exact h
      have hpw := hp.below hb
      have hx := hpw.each (ps[k]) (List.getElem_mem hlt)
      have hpe := partAt_get ps k hlt
      have ck : wr.cell? ⟨sb, so + k, none⟩ = some (.slice (ps[k]).sa (ps[k]).bs.length (ps[k]).cap) := by
        rcases hpw.cells with hc | ⟨sb', so', e, hc⟩
        · rw [hc] at hlt; simp at hlt
        · cases e; exact hc k hlt
      have hltI : (k : Int) < ps.length := by omega
      have hkc : (k : Int) ≤ cap := by omega
      have hAt : Hid (digAt ps k = if (ps[k]).bs.length ≠ 32 then 4 else if anyOf ps (ps[k]) k then 7 else 0) := by
        show _ = _
        rw [digAt, twice, hpe]
        rfl
      have hF : Hid (digAt ps k ≠ 0 → digF ps = digAt ps k) := by
        show _ → _
        exact digF_at ps k hlt h0
      have hS : Hid (digAt ps k = 0 → digTo1 ps (k + 1) = 0) := by
        show _ → _
        intro h
        rw [digTo1, h0, h]; rfl
      clear hpe
      have hxl : (ps[k]).bs.length ≤ 9223372036854775807 := Nat.le_trans hx.le hx.max
      generalize ps[k] = p at *
      by_cases h32 : p.bs.length = 32
      · have hAl : Below wr.heap.size wr (wr.alloc (.cells #[.slice p.sa 32 p.cap] 46)) := (Below.refl _ _).alloc (Nat.le_refl _) _
        have hg : (wr.alloc (.cells #[.slice p.sa 32 p.cap] 46)).cell? ⟨wr.heap.size, 0, none⟩ = some (.slice p.sa p.bs.length p.cap) := by
          rw [h32]; exact laid_cell _ _ _ 0 _ rfl
        have hC := containsFunc_any ps p (some ⟨sb, so, none⟩) k cap wr.heap.size _ hk (by omega) (hpw.below hAl) (hx.below hAl) hg
        clear hg hx hpw
        by_cases hT : anyOf ps p k = true
        · rw [hT] at hC
          have e7 : digF ps = 7 := by
            have : digAt ps k = 7 := by rw [hAt.out, if_neg (by simp [h32]), hT]; rfl
            rw [hF.out (by rw [this]; decide), this]
          clear hAt hF hS hT
          go_wp2_with fail
          refine hC.mono ?_
          rintro e w2 ⟨he, rfl⟩
          subst he
          dsimp only
          go_wp2_with fail
          go_ret
          exact ⟨ret_int e7.symm, hb.alloc hb.size _⟩
        · have hT' : anyOf ps p k = false := by simpa using hT
          rw [hT'] at hC
          have e0 := hS.out (by rw [hAt.out, if_neg (by simp [h32]), hT']; rfl)
          clear hAt hF hS hT hT'
          go_wp2_with fail
          refine hC.mono ?_
          rintro e w2 ⟨he, rfl⟩
          subst he
          dsimp only
          go_wp2_with fail
          go_roundw
          case rel => exact ⟨k + 1, by omega, by go_num, e0, hb.alloc hb.size _⟩
          case measure => simp [intOf]; omega
      · have h32I : ¬ (p.bs.length : Int) = 32 := by omega
        have e4 : digF ps = 4 := by
          have : digAt ps k = 4 := by rw [hAt.out, if_pos h32]
          rw [hF.out (by rw [this]; decide), this]
        clear hAt hF hS
        go_wp2_with fail
        go_ret
        exact ⟨ret_int e4.symm, hb.alloc hb.size _⟩
    · obtain rfl : k = ps.length := by omega
      go_wp2_with fail
      go_ret
      exact ⟨ret_int h0.symm, hb⟩
end Go.Proofs.YtbmodfegcmaieaaDoor
