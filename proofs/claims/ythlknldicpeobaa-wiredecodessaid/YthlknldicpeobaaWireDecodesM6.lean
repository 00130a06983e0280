/- wire.checkCarried of a batch, a header, a certificate, and of no kind. -/
import Derived.Test.YthlknldicpeobaaIns
import Derived.Test.YthlknldicpeobaaSx
import Derived.Test.YthlknldicpeobaaStrsAt
import Derived.Test.YthlknldicpeobaaStrsF
import Derived.Test.YthlknldicpeobaaDigs
import Derived.Test.YthlknldicpeobaaHeadF
import Derived.Test.YthlknldicpeobaaCertF
import Derived.Test.YthlknldicpeobaaCheckM

namespace Go.Proofs.Ythlknldicpeobaa
open Go.RowKit

set_option maxRecDepth 100000 in
set_option maxHeartbeats 1000000 in
theorem checkBatch_any (au nu : Int) (sa : Option Addr) (n cap : Nat) (ss : List ByteArray) (w : World) (hn : n = ss.length) (hm : n ≤ maxLen) (hs : StrsAt w sa ss) :
    Calls Try.prog 55 #[.agg #[.int .i64 au, .int .i64 nu, .slice sa n cap]] w fun e w' => e = .returned (.int .i64 (batchF au nu ss)) ∧ Below w.heap.size w w' := by
  subst hn
  unfold maxLen at hm
  by_cases ha : 0 ≤ au ∧ au < 4
  · by_cases hr : 1 ≤ nu ∧ nu ≤ 1048576
    · by_cases hl : ss.length < 1 ∨ 4 < ss.length
      · have hF : Hid (batchF au nu ss = 1) := by show _ = _; rw [batchF, if_neg (by simp [ha, hr]), if_pos hl]
        have hlI : ¬ (1 ≤ (ss.length : Int) ∧ (ss.length : Int) ≤ 4) := by omega
        rcases hl with hl | hl
        · have hl0 : ss.length = 0 := by omega
          rw [hl0]
          go_enter Try.func55, Try.ntmps55
          go_wp2_with (first | (go_at_call 34; first | (refine (isNode_true _ _ (by omega)).mono ?_; rintro e w' ⟨rfl, rfl⟩) | (refine (isNode_false _ _ (by omega)).mono ?_; rintro e w' ⟨rfl, rfl⟩)) | (go_at_call 59; first | (refine (isRound_true _ _ (by omega)).mono ?_; rintro e w' ⟨rfl, rfl⟩) | (refine (isRound_false _ _ (by omega)).mono ?_; rintro e w' ⟨rfl, rfl⟩)))
          go_ret
          exact ⟨ret_int hF.out.symm, (Below.refl _ _).alloc (Nat.le_refl _) _⟩
        · have hl1 : (4 : Int) < ss.length := by omega
          have hl2 : ¬ (ss.length : Int) < 1 := by omega
          go_enter Try.func55, Try.ntmps55
          go_wp2_with (first | (go_at_call 34; first | (refine (isNode_true _ _ (by omega)).mono ?_; rintro e w' ⟨rfl, rfl⟩) | (refine (isNode_false _ _ (by omega)).mono ?_; rintro e w' ⟨rfl, rfl⟩)) | (go_at_call 59; first | (refine (isRound_true _ _ (by omega)).mono ?_; rintro e w' ⟨rfl, rfl⟩) | (refine (isRound_false _ _ (by omega)).mono ?_; rintro e w' ⟨rfl, rfl⟩)))
          go_ret
          exact ⟨ret_int hF.out.symm, (Below.refl _ _).alloc (Nat.le_refl _) _⟩
      · have hF : Hid (batchF au nu ss = if ss.all txOk then 0 else 1) := by show _ = _; rw [batchF, if_neg (by simp [ha, hr]), if_neg hl]
        have hl1 : ¬ (4 : Int) < ss.length := by omega
        have hl2 : ¬ (ss.length : Int) < 1 := by omega
        go_enter Try.func55, Try.ntmps55
        go_wp2_with (first | (go_at_call 34; first | (refine (isNode_true _ _ (by omega)).mono ?_; rintro e w' ⟨rfl, rfl⟩) | (refine (isNode_false _ _ (by omega)).mono ?_; rintro e w' ⟨rfl, rfl⟩)) | (go_at_call 59; first | (refine (isRound_true _ _ (by omega)).mono ?_; rintro e w' ⟨rfl, rfl⟩) | (refine (isRound_false _ _ (by omega)).mono ?_; rintro e w' ⟨rfl, rfl⟩)))
        go_loop [28] (fun i => ∃ k : Nat, k ≤ ss.length ∧ i = .int .i64 k ∧ ∀ q, q < k → txOk (ss.getD q ByteArray.empty) = true) (fun i => ss.length - (intOf i).toNat)
        case atStart => exact ⟨0, Nat.zero_le _, rfl, fun q hq => by omega⟩
        case round =>
          obtain ⟨k, hk, rfl, hall⟩ := hrel
          by_cases hlt : k < ss.length
          · rcases hs.cells with hc | ⟨sb, so, rfl, hc⟩
            · subst hc; simp at hlt
            have hltI : (k : Int) < ss.length := by omega
            have ck := hc k hlt
            have ck2 := (((Below.refl w.heap.size w).alloc (Nat.le_refl _) (.cells #[.int .i64 au, .int .i64 nu, .slice (some ⟨sb, so, none⟩) ss.length cap] 25)).cell (p := ⟨sb, so + k, none⟩) (block_lt_of_cell ck)).trans ck
            have hz : (ss.getD k ByteArray.empty).size ≤ 9223372036854775807 := hs.size _ (by simp [List.getD, hlt])
            have hT : txOk (ss.getD k ByteArray.empty) = decide (1 ≤ (ss.getD k ByteArray.empty).size ∧ (ss.getD k ByteArray.empty).size ≤ 20) := rfl
            have hstep : Hid (txOk (ss.getD k ByteArray.empty) = true → ∀ q, q < k + 1 → txOk (ss.getD q ByteArray.empty) = true) := by
              show _ → _
              intro h q hq
              rcases Nat.lt_or_ge q k with g | g
              · exact hall q g
              · obtain rfl : q = k := by omega
                exact h
            have hno : Hid (txOk (ss.getD k ByteArray.empty) = false → ss.all txOk = false) := by
              show _ → _
              exact all_false ss txOk ByteArray.empty k hlt
            clear hall hc ck
            generalize ss.getD k ByteArray.empty = s at *
            by_cases h1 : 1 ≤ s.size
            · have h1I : ¬ (s.size : Int) < 1 := by omega
              by_cases h2 : s.size ≤ 20
              · have h2I : ¬ (20 : Int) < s.size := by omega
                have hst := hstep.out (by rw [hT]; simp [h1, h2])
                clear hT hstep hno
                go_wp2_with fail
                go_round
                case rel => exact ⟨k + 1, by omega, by go_num, hst⟩
                case measure => simp [intOf]; omega
              · have h2I : (20 : Int) < s.size := by omega
                have hst := hno.out (by rw [hT]; simp [h2])
                clear hT hstep hno
                rw [hst] at hF
                go_wp2_with fail
                go_ret
                exact ⟨ret_int (by rw [hF.out]; rfl), (Below.refl _ _).alloc (Nat.le_refl _) _⟩
            · have h1I : (s.size : Int) < 1 := by omega
              have hst := hno.out (by rw [hT]; simp [h1])
              clear hT hstep hno
              rw [hst] at hF
              go_wp2_with fail
              go_ret
              exact ⟨ret_int (by rw [hF.out]; rfl), (Below.refl _ _).alloc (Nat.le_refl _) _⟩
          · obtain rfl : k = ss.length := by omega
            have hst := all_true ss txOk ByteArray.empty hall
            rw [hst] at hF
            go_wp2_with fail
            go_ret
            exact ⟨ret_int (by rw [hF.out]; rfl), (Below.refl _ _).alloc (Nat.le_refl _) _⟩
    · have hF : Hid (batchF au nu ss = 2) := by show _ = _; simp [batchF, hr]
      go_enter Try.func55, Try.ntmps55
      go_wp2_with (first | (go_at_call 34; first | (refine (isNode_true _ _ (by omega)).mono ?_; rintro e w' ⟨rfl, rfl⟩) | (refine (isNode_false _ _ (by omega)).mono ?_; rintro e w' ⟨rfl, rfl⟩)) | (go_at_call 59; first | (refine (isRound_true _ _ (by omega)).mono ?_; rintro e w' ⟨rfl, rfl⟩) | (refine (isRound_false _ _ (by omega)).mono ?_; rintro e w' ⟨rfl, rfl⟩)))
      go_ret
      exact ⟨ret_int hF.out.symm, (Below.refl _ _).alloc (Nat.le_refl _) _⟩
  · have hF : Hid (batchF au nu ss = 2) := by show _ = _; simp [batchF, ha]
    go_enter Try.func55, Try.ntmps55
    go_wp2_with (first | (go_at_call 34; first | (refine (isNode_true _ _ (by omega)).mono ?_; rintro e w' ⟨rfl, rfl⟩) | (refine (isNode_false _ _ (by omega)).mono ?_; rintro e w' ⟨rfl, rfl⟩)) | (go_at_call 59; first | (refine (isRound_true _ _ (by omega)).mono ?_; rintro e w' ⟨rfl, rfl⟩) | (refine (isRound_false _ _ (by omega)).mono ?_; rintro e w' ⟨rfl, rfl⟩)))
    go_ret
    exact ⟨ret_int hF.out.symm, (Below.refl _ _).alloc (Nat.le_refl _) _⟩
end Go.Proofs.Ythlknldicpeobaa

namespace Go.Proofs.Ythlknldicpeobaa
open Go.RowKit

def anyOf (ps : List Part) (q : Part) (k : Nat) : Bool := (List.range k).any fun j => decide (txL (partAt ps j).bs = txL q.bs)
set_option maxRecDepth 100000 in
theorem anyOf_yes (ps : List Part) (q : Part) (k m : Nat) (hm : m < k) (h : txL (partAt ps m).bs = txL q.bs) : anyOf ps q k = true := by
  simp only [anyOf, List.any_eq_true]
  exact ⟨m, by simpa using hm, by simpa using h⟩
set_option maxRecDepth 100000 in
theorem anyOf_no (ps : List Part) (q : Part) (k : Nat) (h : ∀ j, j < k → ¬ txL (partAt ps j).bs = txL q.bs) : anyOf ps q k = false := by
  simp only [anyOf, List.any_eq_false]
  intro j hj
  simpa using h j (by simpa using hj)

set_option maxRecDepth 100000 in
set_option maxHeartbeats 1000000 in
theorem indexFunc_any (ps : List Part) (q : Part) (sa : Option Addr) (k cap g : Nat) (w : World) (hk : k ≤ ps.length) (hk2 : k ≤ 9000000000000000000) (hp : PartsAt w sa ps) (hq : SliceAt w q.sa q.cap q.bs) (hg : w.cell? ⟨g, 0, none⟩ = some (.slice q.sa q.bs.length q.cap)) :
    Calls Try.prog 73 #[.slice sa k cap, .func (.func 70) #[] #[.pointer (some ⟨g, 0, none⟩)]] w fun e w' => w = w' ∧ ∃ r : Int, e = .returned (.int .i64 r) ∧ ((anyOf ps q k = true ∧ 0 ≤ r) ∨ (anyOf ps q k = false ∧ r = -1)) := by
  go_enter Try.func73, Try.ntmps73
  go_wp2_with fail
  go_loop [8] (fun i => ∃ m : Nat, m ≤ k ∧ i = .int .i64 m ∧ ∀ j, j < m → ¬ txL (partAt ps j).bs = txL q.bs) (fun i => k - (intOf i).toNat)
  case atStart => exact ⟨0, Nat.zero_le _, rfl, fun j hj => by omega⟩
  case round =>
    obtain ⟨m, hm, rfl, hno⟩ := hrel
    by_cases hlt : m < k
    · rcases hp.cells with hc | ⟨sb, so, rfl, hc⟩
      · subst hc; simp at hk; omega
      have hmp : m < ps.length := by omega
      have ck := hc m hmp
      have hx := hp.each (ps[m]) (List.getElem_mem hmp)
      have hltI : (m : Int) < k := by omega
      have hpe := partAt_get ps m hmp
      have Hyes : Hid (txL (ps[m]).bs = txL q.bs → anyOf ps q k = true) := by
        show _ → _
        intro h
        exact anyOf_yes ps q k m hlt (by rw [hpe]; exact h)
      have Hno : Hid (¬ txL (ps[m]).bs = txL q.bs → ∀ j, j < m + 1 → ¬ txL (partAt ps j).bs = txL q.bs) := by
        show _ → _
        intro h j hj
        rcases Nat.lt_or_ge j m with g | g
        · exact hno j g
        · obtain rfl : j = m := by omega
          rw [hpe]; exact h
      clear hno hpe hc
      generalize ps[m] = p at *
      go_wp2_with fail
      refine (same_closure p.bs q.bs p.sa q.sa _ _ p.cap q.cap g w rfl rfl hx hq hg).mono ?_
      rintro e w1 ⟨he, rfl⟩
      subst he
      dsimp only
      by_cases h : txL p.bs = txL q.bs
      · have hy := Hyes.out h
        rw [decide_eq_true h]
        clear Hyes Hno h
        go_wp2_with fail
        go_ret
        exact ⟨rfl, (m : Int), rfl, .inl ⟨hy, by omega⟩⟩
      · have hn := Hno.out h
        rw [decide_eq_false h]
        clear Hyes Hno h
        go_wp2_with fail
        go_round
        case rel => exact ⟨m + 1, by omega, by go_num, hn⟩
        case measure => simp [intOf]; omega
    · obtain rfl : m = k := by omega
      have hn : Hid (anyOf ps q m = false) := anyOf_no ps q m hno
      go_wp2_with fail
      go_ret
      refine ⟨rfl, (-1 : Int), rfl, ?_⟩
      exact .inr ⟨hn.out, rfl⟩
set_option maxRecDepth 100000 in
set_option maxHeartbeats 400000 in
theorem containsFunc_any (ps : List Part) (q : Part) (sa : Option Addr) (k cap g : Nat) (w : World) (hk : k ≤ ps.length) (hk2 : k ≤ 9000000000000000000) (hp : PartsAt w sa ps) (hq : SliceAt w q.sa q.cap q.bs) (hg : w.cell? ⟨g, 0, none⟩ = some (.slice q.sa q.bs.length q.cap)) :
    Calls Try.prog 72 #[.slice sa k cap, .func (.func 70) #[] #[.pointer (some ⟨g, 0, none⟩)]] w fun e w' => e = .returned (.bool (anyOf ps q k)) ∧ w = w' := by
  go_enter Try.func72, Try.ntmps72
  go_wp2_with fail
  refine (indexFunc_any ps q sa k cap g w hk hk2 hp hq hg).mono ?_
  rintro e w1 ⟨rfl, r, he, hr⟩
  subst he
  dsimp only
  rcases hr with ⟨ha, hr⟩ | ⟨ha, rfl⟩
  · go_wp2_with fail
    go_ret
    exact ⟨ret_bool (by rw [ha]), rfl⟩
  · go_wp2_with fail
    go_ret
    exact ⟨ret_bool (by rw [ha]), rfl⟩

set_option maxRecDepth 100000 in
set_option maxHeartbeats 1000000 in
theorem checkDigests_any (ps : List Part) (sa : Option Addr) (n cap : Nat) (w : World) (hn : n = ps.length) (hc0 : n ≤ cap) (_hcm : cap ≤ 9223372036854775807) (hnm : n ≤ 9000000000000000000) (hsa : cap = 0 ∨ ∃ sb so, sa = some ⟨sb, so, none⟩) (hp : PartsAt w sa ps) :
    Calls Try.prog 67 #[.slice sa n cap] w fun e w' => e = .returned (.int .i64 (digF ps)) ∧ Below w.heap.size w w' := by
  subst hn
  have hmf : ∀ (fn : Fn) (first cap : Array Value) (w : World), (Instr.makeFunc fn first cap).run Try.prog w = .ok (.func fn first cap) w := fun _ _ _ _ => rfl
  go_enter Try.func67, Try.ntmps67
  go_wp2_with fail
  go_loopw [8] (fun i wr => ∃ k : Nat, k ≤ ps.length ∧ i = .int .i64 k ∧ digTo1 ps k = 0 ∧ Below w.heap.size w wr) (fun i _ => ps.length - (intOf i).toNat)
  case atStart => exact ⟨0, Nat.zero_le _, rfl, rfl, Below.refl _ _⟩
  case round =>
    obtain ⟨k, hk, rfl, h0, hb⟩ := hrel
    by_cases hlt : k < ps.length
    · obtain ⟨sb, so, rfl⟩ : ∃ sb so, sa = some ⟨sb, so, none⟩ := by
        rcases hsa with h | h
        · omega
        · exact h
      have hpw := hp.below hb
      have hx := hpw.each (ps[k]) (List.getElem_mem hlt)
      have hpe := partAt_get ps k hlt
      have ck : wr.cell? ⟨sb, so + k, none⟩ = some (.slice (ps[k]).sa (ps[k]).bs.length (ps[k]).cap) := by
        rcases hpw.cells with hc | ⟨sb', so', e, hc⟩
        · rw [hc] at hlt; simp at hlt
        · cases e; exact hc k hlt
      have hltI : (k : Int) < ps.length := by omega
      have hkc : (k : Int) ≤ cap := by omega
      have hAt : Hid (digAt ps k = if (ps[k]).bs.length ≠ 32 then 4 else if anyOf ps (ps[k]) k then 7 else 0) := by
        show _ = _
        rw [digAt, twice, hpe]
        rfl
      have hF : Hid (digAt ps k ≠ 0 → digF ps = digAt ps k) := by
        show _ → _
        exact digF_at ps k hlt h0
      have hS : Hid (digAt ps k = 0 → digTo1 ps (k + 1) = 0) := by
        show _ → _
        intro h
        rw [digTo1, h0, h]; rfl
      clear hpe
      have hxl : (ps[k]).bs.length ≤ 9223372036854775807 := Nat.le_trans hx.le hx.max
      generalize ps[k] = p at *
      by_cases h32 : p.bs.length = 32
      · have hAl : Below wr.heap.size wr (wr.alloc (.cells #[.slice p.sa 32 p.cap] 22)) := (Below.refl _ _).alloc (Nat.le_refl _) _
        have hg : (wr.alloc (.cells #[.slice p.sa 32 p.cap] 22)).cell? ⟨wr.heap.size, 0, none⟩ = some (.slice p.sa p.bs.length p.cap) := by
          rw [h32]; exact laid_cell _ _ _ 0 _ rfl
        have hC := containsFunc_any ps p (some ⟨sb, so, none⟩) k cap wr.heap.size _ hk (by omega) (hpw.below hAl) (hx.below hAl) hg
        clear hg hx hpw
        by_cases hT : anyOf ps p k = true
        · rw [hT] at hC
          have e7 : digF ps = 7 := by
            have : digAt ps k = 7 := by rw [hAt.out, if_neg (by simp [h32]), hT]; rfl
            rw [hF.out (by rw [this]; decide), this]
          clear hAt hF hS hT
          go_wp2_with fail
          refine hC.mono ?_
          rintro e w2 ⟨he, rfl⟩
          subst he
          dsimp only
          go_wp2_with fail
          go_ret
          exact ⟨ret_int e7.symm, hb.alloc hb.size _⟩
        · have hT' : anyOf ps p k = false := by simpa using hT
          rw [hT'] at hC
          have e0 := hS.out (by rw [hAt.out, if_neg (by simp [h32]), hT']; rfl)
          clear hAt hF hS hT hT'
          go_wp2_with fail
          refine hC.mono ?_
          rintro e w2 ⟨he, rfl⟩
          subst he
          dsimp only
          go_wp2_with fail
          go_roundw
          case rel => exact ⟨k + 1, by omega, by go_num, e0, hb.alloc hb.size _⟩
          case measure => simp [intOf]; omega
      · have h32I : ¬ (p.bs.length : Int) = 32 := by omega
        have e4 : digF ps = 4 := by
          have : digAt ps k = 4 := by rw [hAt.out, if_pos h32]
          rw [hF.out (by rw [this]; decide), this]
        clear hAt hF hS
        go_wp2_with fail
        go_ret
        exact ⟨ret_int e4.symm, hb.alloc hb.size _⟩
    · obtain rfl : k = ps.length := by omega
      go_wp2_with fail
      go_ret
      exact ⟨ret_int h0.symm, hb⟩
end Go.Proofs.Ythlknldicpeobaa

namespace Go.Proofs.Ythlknldicpeobaa
open Go.RowKit

set_option maxRecDepth 100000 in
set_option maxHeartbeats 400000 in
theorem checkParents_any (rd : Int) (n : Nat) (w : World) (hn : n ≤ 1000) :
    Calls Try.prog 68 #[.int .i64 rd, .int .i64 n] w fun e w' => e = .returned (.int .i64 (parentsF rd n)) ∧ w = w' := by
  by_cases h1 : rd = 1
  · subst h1
    by_cases h2 : 0 < n
    · have hF : Hid (parentsF 1 n = 10) := by show _ = _; simp [parentsF, h2]
      have h2I : (0 : Int) < n := by omega
      go_enter Try.func68, Try.ntmps68
      go_wp2_with fail
      go_ret
      exact ⟨ret_int hF.out.symm, rfl⟩
    · have hF : Hid (parentsF 1 n = 0) := by show _ = _; simp [parentsF, h2]
      have h2I : ¬ (0 : Int) < n := by omega
      go_enter Try.func68, Try.ntmps68
      go_wp2_with fail
      go_ret
      exact ⟨ret_int hF.out.symm, rfl⟩
  · by_cases h2 : 1 < rd
    · by_cases h3 : n < 3
      · have hF : Hid (parentsF rd n = 10) := by show _ = _; simp [parentsF, h2, h3]
        have h3I : (n : Int) < 3 := by omega
        go_enter Try.func68, Try.ntmps68
        go_wp2_with fail
        go_ret
        exact ⟨ret_int hF.out.symm, rfl⟩
      · have hF : Hid (parentsF rd n = 0) := by show _ = _; simp [parentsF, h1, h3]
        have h3I : ¬ (n : Int) < 3 := by omega
        go_enter Try.func68, Try.ntmps68
        go_wp2_with fail
        go_ret
        exact ⟨ret_int hF.out.symm, rfl⟩
    · have hF : Hid (parentsF rd n = 0) := by show _ = _; simp [parentsF, h1, h2]
      go_enter Try.func68, Try.ntmps68
      go_wp2_with fail
      go_ret
      exact ⟨ret_int hF.out.symm, rfl⟩

set_option maxRecDepth 100000 in
set_option maxHeartbeats 1000000 in
theorem checkHeader_any (au rd : Int) (ba : Option Addr) (bc : Nat) (bl : List Part) (pa : Option Addr) (pc : Nat) (pl : List Part) (w : World) (hb : ListAt w ba bc bl) (hp : ListAt w pa pc pl) :
    Calls Try.prog 56 #[.agg #[.int .i64 au, .int .i64 rd, .slice ba bl.length bc, .slice pa pl.length pc]] w fun e w' => e = .returned (.int .i64 (headerF au rd bl pl)) ∧ Below w.heap.size w w' := by
  have hbl := hb.le
  have hbm := hb.max
  have hbs := hb.small
  have hpl := hp.le
  have hpm := hp.max
  have hps := hp.small
  have hA : Below w.heap.size w (w.alloc (.cells #[.int .i64 au, .int .i64 rd, .slice ba bl.length bc, .slice pa pl.length pc] 28)) := (Below.refl _ _).alloc (Nat.le_refl _) _
  by_cases ha : 0 ≤ au ∧ au < 4
  · by_cases hr : 1 ≤ rd ∧ rd ≤ 1048576
    · by_cases hz : 3 < bl.length ∨ 4 < pl.length
      · have hF : Hid (headerF au rd bl pl = 1) := by show _ = _; rw [headerF, if_neg (by simp [ha, hr]), if_pos hz]
        by_cases hz1 : 3 < bl.length
        · have hzI : (3 : Int) < bl.length := by omega
          go_enter Try.func56, Try.ntmps56
          go_wp2_with (first | (go_at_call 34; first | (refine (isNode_true _ _ (by omega)).mono ?_; rintro e w' ⟨rfl, rfl⟩) | (refine (isNode_false _ _ (by omega)).mono ?_; rintro e w' ⟨rfl, rfl⟩)) | (go_at_call 59; first | (refine (isRound_true _ _ (by omega)).mono ?_; rintro e w' ⟨rfl, rfl⟩) | (refine (isRound_false _ _ (by omega)).mono ?_; rintro e w' ⟨rfl, rfl⟩)))
          go_ret
          exact ⟨ret_int hF.out.symm, hA⟩
        · have hzI : ¬ (3 : Int) < bl.length := by omega
          have hzJ : (4 : Int) < pl.length := by omega
          go_enter Try.func56, Try.ntmps56
          go_wp2_with (first | (go_at_call 34; first | (refine (isNode_true _ _ (by omega)).mono ?_; rintro e w' ⟨rfl, rfl⟩) | (refine (isNode_false _ _ (by omega)).mono ?_; rintro e w' ⟨rfl, rfl⟩)) | (go_at_call 59; first | (refine (isRound_true _ _ (by omega)).mono ?_; rintro e w' ⟨rfl, rfl⟩) | (refine (isRound_false _ _ (by omega)).mono ?_; rintro e w' ⟨rfl, rfl⟩)))
          go_ret
          exact ⟨ret_int hF.out.symm, hA⟩
      · have hF : Hid (headerF au rd bl pl = if digF bl ≠ 0 then digF bl else if digF pl ≠ 0 then digF pl else parentsF rd pl.length) := by show _ = _; rw [headerF, if_neg (by simp [ha, hr]), if_neg hz]
        have hzI : ¬ (3 : Int) < bl.length := by omega
        have hzJ : ¬ (4 : Int) < pl.length := by omega
        go_enter Try.func56, Try.ntmps56
        go_wp2_with (first | (go_at_call 34; first | (refine (isNode_true _ _ (by omega)).mono ?_; rintro e w' ⟨rfl, rfl⟩) | (refine (isNode_false _ _ (by omega)).mono ?_; rintro e w' ⟨rfl, rfl⟩)) | (go_at_call 59; first | (refine (isRound_true _ _ (by omega)).mono ?_; rintro e w' ⟨rfl, rfl⟩) | (refine (isRound_false _ _ (by omega)).mono ?_; rintro e w' ⟨rfl, rfl⟩)))
        refine (checkDigests_any bl ba _ bc _ rfl hb.le hb.max hb.small hb.some (hb.parts.below hA)).mono ?_
        rintro e w1 ⟨he, hb1⟩
        subst he
        dsimp only
        have r1 := row_new hb1
        replace hb1 := below_alloc hb1
        have c3 : w1.cell? ⟨w.heap.size, 3, none⟩ = some (.slice pa pl.length pc) := cells_at r1 3 _ rfl
        by_cases h1 : digF bl = 0
        · rw [h1] at hF ⊢
          go_wp2_with fail
          refine (checkDigests_any pl pa _ pc _ rfl hp.le hp.max hp.small hp.some (hp.parts.below hb1)).mono ?_
          rintro e w2 ⟨he, hb2⟩
          subst he
          dsimp only
          have r2 := (hb2.block _ (lt_of_heap r1)).trans r1
          have hb12 := hb1.trans (hb2.mono hb1.size)
          have c1 : w2.cell? ⟨w.heap.size, 1, none⟩ = some (.int .i64 rd) := cells_at r2 1 _ rfl
          have c3' : w2.cell? ⟨w.heap.size, 3, none⟩ = some (.slice pa pl.length pc) := cells_at r2 3 _ rfl
          clear c3 r1 r2
          by_cases h2 : digF pl = 0
          · rw [h2] at hF ⊢
            go_wp2_with fail
            refine (checkParents_any rd pl.length w2 (by omega)).mono ?_
            rintro e w3 ⟨he, rfl⟩
            subst he
            dsimp only
            go_wp2_with fail
            go_ret
            exact ⟨ret_int (by rw [hF.out]; rfl), hb12⟩
          · rw [if_neg (by simp), if_pos h2] at hF
            generalize digF pl = z at *
            go_wp2_with fail
            go_ret
            exact ⟨ret_int hF.out.symm, hb12⟩
        · rw [if_pos h1] at hF
          generalize digF bl = z at *
          go_wp2_with fail
          go_ret
          exact ⟨ret_int hF.out.symm, hb1⟩
    · have hF : Hid (headerF au rd bl pl = 2) := by show _ = _; simp [headerF, hr]
      go_enter Try.func56, Try.ntmps56
      go_wp2_with (first | (go_at_call 34; first | (refine (isNode_true _ _ (by omega)).mono ?_; rintro e w' ⟨rfl, rfl⟩) | (refine (isNode_false _ _ (by omega)).mono ?_; rintro e w' ⟨rfl, rfl⟩)) | (go_at_call 59; first | (refine (isRound_true _ _ (by omega)).mono ?_; rintro e w' ⟨rfl, rfl⟩) | (refine (isRound_false _ _ (by omega)).mono ?_; rintro e w' ⟨rfl, rfl⟩)))
      go_ret
      exact ⟨ret_int hF.out.symm, hA⟩
  · have hF : Hid (headerF au rd bl pl = 2) := by show _ = _; simp [headerF, ha]
    go_enter Try.func56, Try.ntmps56
    go_wp2_with (first | (go_at_call 34; first | (refine (isNode_true _ _ (by omega)).mono ?_; rintro e w' ⟨rfl, rfl⟩) | (refine (isNode_false _ _ (by omega)).mono ?_; rintro e w' ⟨rfl, rfl⟩)) | (go_at_call 59; first | (refine (isRound_true _ _ (by omega)).mono ?_; rintro e w' ⟨rfl, rfl⟩) | (refine (isRound_false _ _ (by omega)).mono ?_; rintro e w' ⟨rfl, rfl⟩)))
    go_ret
    exact ⟨ret_int hF.out.symm, hA⟩
end Go.Proofs.Ythlknldicpeobaa

namespace Go.Proofs.Ythlknldicpeobaa
open Go.RowKit

set_option maxRecDepth 100000 in
set_option maxHeartbeats 1000000 in
theorem checkCert_any (au rd : Int) (ba : Option Addr) (bc : Nat) (bl : List Part) (pa : Option Addr) (pc : Nat) (pl : List Part) (va : Option Addr) (vc : Nat) (vl : List Int) (w : World) (hb : ListAt w ba bc bl) (hp : ListAt w pa pc pl) (hv : IntsAt w va vl) (hvm : vl.length ≤ 9000000000000000000) :
    Calls Try.prog 58 #[.agg #[.int .i64 au, .int .i64 rd, .slice ba bl.length bc, .slice pa pl.length pc, .slice va vl.length vc]] w fun e w' => e = .returned (.int .i64 (certF au rd bl pl vl)) ∧ Below w.heap.size w w' := by
  have hA : Below w.heap.size w (w.alloc (.cells #[.int .i64 au, .int .i64 rd, .slice ba bl.length bc, .slice pa pl.length pc, .slice va vl.length vc] 33)) := (Below.refl _ _).alloc (Nat.le_refl _) _
  go_enter Try.func58, Try.ntmps58
  go_wp2_with fail
  refine (checkHeader_any au rd ba bc bl pa pc pl _ (hb.below hA) (hp.below hA)).mono ?_
  rintro e w1 ⟨he, hb1⟩
  subst he
  dsimp only
  have r1 := row_new hb1
  replace hb1 := below_alloc hb1
  have c4 : w1.cell? ⟨w.heap.size, 4, none⟩ = some (.slice va vl.length vc) := cells_at r1 4 _ rfl
  by_cases h1 : headerF au rd bl pl = 0
  · rw [h1]
    by_cases h2 : 4 < vl.length
    · have hF : Hid (certF au rd bl pl vl = 1) := by show _ = _; rw [certF, if_neg (by simp [h1]), if_pos h2]
      have h2I : (4 : Int) < vl.length := by omega
      go_wp2_with fail
      go_ret
      exact ⟨ret_int hF.out.symm, hb1⟩
    · have hF : Hid (certF au rd bl pl vl = votersF vl) := by show _ = _; rw [certF, if_neg (by simp [h1]), if_neg h2]
      have h2I : ¬ (4 : Int) < vl.length := by omega
      clear h1
      go_wp2_with fail
      go_loop [19] (fun i => ∃ k : Nat, k ≤ vl.length ∧ i = .int .i64 k ∧ vTo vl k = 0) (fun i => vl.length - (intOf i).toNat)
      case atStart => exact ⟨0, Nat.zero_le _, rfl, rfl⟩
      case round =>
        obtain ⟨k, hk, rfl, h0⟩ := hrel
        by_cases hlt : k < vl.length
        · obtain ⟨sb, so, rfl, hc⟩ : ∃ sb so, va = some ⟨sb, so, none⟩ ∧ ∀ j, j < vl.length → w1.cell? ⟨sb, so + j, none⟩ = some (.int .i64 (vl.getD j 0)) := by
            rcases (hv.below hb1).cells with h | h
            · rw [h] at hlt; simp at hlt
            · exact h
          have ck := hc k hlt
          have hltI : (k : Int) < vl.length := by omega
          have hVf : Hid (vAt vl k ≠ 0 → votersF vl = vAt vl k) := by
            show _ → _
            intro h
            rw [votersF, vTo_at vl k hlt h0 h, if_pos h]
          have hVs : Hid (vAt vl k = 0 → vTo vl (k + 1) = 0) := by
            show _ → _
            intro h
            rw [vTo, h0, h]; rfl
          have hVa : Hid (vAt vl k = if ¬ (0 ≤ vl.getD k 0 ∧ vl.getD k 0 < 4) then 2 else if 0 < k ∧ vl.getD k 0 ≤ vl.getD (k - 1) 0 then 9 else 0) := rfl
          by_cases hkz : k = 0
          · subst hkz
            clear hc
            rw [Nat.add_zero] at ck
            generalize vl.getD 0 0 = x at *
            by_cases hn : 0 ≤ x ∧ x < 4
            · have hst := hVs.out (by rw [hVa.out, if_neg (by simp [hn]), if_neg (by omega)])
              clear hVf hVs hVa
              go_wp2_with (go_at_call 34; first | (refine (isNode_true _ _ (by omega)).mono ?_; rintro e w' ⟨rfl, rfl⟩) | (refine (isNode_false _ _ (by omega)).mono ?_; rintro e w' ⟨rfl, rfl⟩))
              go_round
              case rel => exact ⟨0 + 1, by omega, by go_num, hst⟩
              case measure => simp [intOf]; omega
            · have e2 : Hid (certF au rd bl pl vl = 2) := by
                show _ = _
                have : vAt vl 0 = 2 := by rw [hVa.out, if_pos hn]
                rw [hF.out, hVf.out (by rw [this]; decide), this]
              clear hVf hVs hVa hF
              go_wp2_with (go_at_call 34; first | (refine (isNode_true _ _ (by omega)).mono ?_; rintro e w' ⟨rfl, rfl⟩) | (refine (isNode_false _ _ (by omega)).mono ?_; rintro e w' ⟨rfl, rfl⟩))
              go_ret
              exact ⟨ret_int e2.out.symm, hb1⟩
          · have cp := hc (k - 1) (by omega)
            have hkI : (0 : Int) < k := by omega
            have t0 : ((k : Int) - 1).toNat = k - 1 := by omega
            have u0_ : IntKind.i64.wrap ((k : Int) - 1) = (k : Int) - 1 := by rw [IntKind.wrap_i64]; omega
            have z0 : (0 : Int) ≤ (k : Int) - 1 := by omega
            have z1 : (k : Int) - 1 < vl.length := by omega
            clear hc
            generalize vl.getD k 0 = x at *
            generalize vl.getD (k - 1) 0 = y at *
            by_cases hn : 0 ≤ x ∧ x < 4
            · by_cases hxy : x ≤ y
              · have e9 : Hid (certF au rd bl pl vl = 9) := by
                  show _ = _
                  have : vAt vl k = 9 := by rw [hVa.out, if_neg (by simp [hn]), if_pos (by omega)]
                  rw [hF.out, hVf.out (by rw [this]; decide), this]
                clear hVf hVs hVa hF
                go_wp2_with (go_at_call 34; first | (refine (isNode_true _ _ (by omega)).mono ?_; rintro e w' ⟨rfl, rfl⟩) | (refine (isNode_false _ _ (by omega)).mono ?_; rintro e w' ⟨rfl, rfl⟩))
                go_ret
                exact ⟨ret_int e9.out.symm, hb1⟩
              · have hst := hVs.out (by rw [hVa.out, if_neg (by simp [hn]), if_neg (by omega)])
                clear hVf hVs hVa
                go_wp2_with (go_at_call 34; first | (refine (isNode_true _ _ (by omega)).mono ?_; rintro e w' ⟨rfl, rfl⟩) | (refine (isNode_false _ _ (by omega)).mono ?_; rintro e w' ⟨rfl, rfl⟩))
                go_round
                case rel => exact ⟨k + 1, by omega, by go_num, hst⟩
                case measure => simp [intOf]; omega
            · have e2 : Hid (certF au rd bl pl vl = 2) := by
                show _ = _
                have : vAt vl k = 2 := by rw [hVa.out, if_pos hn]
                rw [hF.out, hVf.out (by rw [this]; decide), this]
              clear hVf hVs hVa hF
              go_wp2_with (go_at_call 34; first | (refine (isNode_true _ _ (by omega)).mono ?_; rintro e w' ⟨rfl, rfl⟩) | (refine (isNode_false _ _ (by omega)).mono ?_; rintro e w' ⟨rfl, rfl⟩))
              go_ret
              exact ⟨ret_int e2.out.symm, hb1⟩
        · obtain rfl : k = vl.length := by omega
          by_cases h3 : vl.length < 3
          · have e10 : Hid (certF au rd bl pl vl = 10) := by show _ = _; rw [hF.out, votersF, if_neg (by simp [h0]), if_pos h3]
            have h3I : (vl.length : Int) < 3 := by omega
            clear hF h0
            go_wp2_with fail
            go_ret
            exact ⟨ret_int e10.out.symm, hb1⟩
          · have e0 : Hid (certF au rd bl pl vl = 0) := by show _ = _; rw [hF.out, votersF, if_neg (by simp [h0]), if_neg h3]
            have h3I : ¬ (vl.length : Int) < 3 := by omega
            clear hF h0
            go_wp2_with fail
            go_ret
            exact ⟨ret_int e0.out.symm, hb1⟩
  · have hF : Hid (certF au rd bl pl vl = headerF au rd bl pl) := by show _ = _; rw [certF, if_pos h1]
    generalize headerF au rd bl pl = z at *
    go_wp2_with fail
    go_ret
    exact ⟨ret_int hF.out.symm, hb1⟩
end Go.Proofs.Ythlknldicpeobaa

namespace Go.Proofs.Ythlknldicpeobaa
open Go.RowKit

set_option maxRecDepth 100000 in
set_option maxHeartbeats 1000000 in
theorem carry_bundle (m : Msg) (ss : List ByteArray) (w : World) (hk : m.ki = 1) (hn : m.btn = ss.length) (hm : m.btn ≤ maxLen) (hs : StrsAt w m.bta ss) :
    Calls Try.prog 35 #[.agg #[.int .i64 m.fr, .int .i64 m.tt, .int .i64 m.ki, .int .i64 m.bau, .int .i64 m.bnu, .slice m.bta m.btn m.btc, .int .i64 m.hau, .int .i64 m.hrd, .slice m.hba m.hbn m.hbc, .slice m.hpa m.hpn m.hpc, .int .i64 m.sau, .int .i64 m.srd, .slice m.sda m.sdn m.sdc, .int .i64 m.cau, .int .i64 m.crd, .slice m.cba m.cbn m.cbc, .slice m.cpa m.cpn m.cpc, .slice m.cva m.cvn m.cvc, .int .i64 m.ro]] w fun e w' => e = .returned (.int .i64 (batchF m.bau m.bnu ss)) ∧ Below w.heap.size w w' := by
  have hA : Below w.heap.size w (w.alloc (.cells #[.int .i64 m.fr, .int .i64 m.tt, .int .i64 m.ki, .int .i64 m.bau, .int .i64 m.bnu, .slice m.bta m.btn m.btc, .int .i64 m.hau, .int .i64 m.hrd, .slice m.hba m.hbn m.hbc, .slice m.hpa m.hpn m.hpc, .int .i64 m.sau, .int .i64 m.srd, .slice m.sda m.sdn m.sdc, .int .i64 m.cau, .int .i64 m.crd, .slice m.cba m.cbn m.cbc, .slice m.cpa m.cpn m.cpc, .slice m.cva m.cvn m.cvc, .int .i64 m.ro] 35)) := (Below.refl _ _).alloc (Nat.le_refl _) _
  have hC := checkBatch_any m.bau m.bnu m.bta m.btn m.btc ss _ hn hm (hs.below hA)
  rw [hk] at hC ⊢
  clear hn hm
  go_enter Try.func35, Try.ntmps35
  go_wp2_with fail
  refine hC.mono ?_
  rintro e w1 ⟨he, hb1⟩
  subst he
  dsimp only
  go_wp2_with fail
  go_ret
  exact ⟨rfl, below_alloc hb1⟩
set_option maxRecDepth 100000 in
set_option maxHeartbeats 1000000 in
theorem carry_offer (m : Msg) (bl pl : List Part) (w : World) (hk : m.ki = 2) (h1 : m.hbn = bl.length) (h2 : m.hpn = pl.length) (hb : ListAt w m.hba m.hbc bl) (hp : ListAt w m.hpa m.hpc pl) :
    Calls Try.prog 35 #[.agg #[.int .i64 m.fr, .int .i64 m.tt, .int .i64 m.ki, .int .i64 m.bau, .int .i64 m.bnu, .slice m.bta m.btn m.btc, .int .i64 m.hau, .int .i64 m.hrd, .slice m.hba m.hbn m.hbc, .slice m.hpa m.hpn m.hpc, .int .i64 m.sau, .int .i64 m.srd, .slice m.sda m.sdn m.sdc, .int .i64 m.cau, .int .i64 m.crd, .slice m.cba m.cbn m.cbc, .slice m.cpa m.cpn m.cpc, .slice m.cva m.cvn m.cvc, .int .i64 m.ro]] w fun e w' => e = .returned (.int .i64 (headerF m.hau m.hrd bl pl)) ∧ Below w.heap.size w w' := by
  have hA : Below w.heap.size w (w.alloc (.cells #[.int .i64 m.fr, .int .i64 m.tt, .int .i64 m.ki, .int .i64 m.bau, .int .i64 m.bnu, .slice m.bta m.btn m.btc, .int .i64 m.hau, .int .i64 m.hrd, .slice m.hba m.hbn m.hbc, .slice m.hpa m.hpn m.hpc, .int .i64 m.sau, .int .i64 m.srd, .slice m.sda m.sdn m.sdc, .int .i64 m.cau, .int .i64 m.crd, .slice m.cba m.cbn m.cbc, .slice m.cpa m.cpn m.cpc, .slice m.cva m.cvn m.cvc, .int .i64 m.ro] 35)) := (Below.refl _ _).alloc (Nat.le_refl _) _
  have hC := checkHeader_any m.hau m.hrd m.hba m.hbc bl m.hpa m.hpc pl _ (hb.below hA) (hp.below hA)
  rw [hk, ← h1, ← h2] at hC
  rw [hk]
  clear h1 h2
  go_enter Try.func35, Try.ntmps35
  go_wp2_with fail
  refine hC.mono ?_
  rintro e w1 ⟨he, hb1⟩
  subst he
  dsimp only
  go_wp2_with fail
  go_ret
  exact ⟨rfl, below_alloc hb1⟩
set_option maxRecDepth 100000 in
set_option maxHeartbeats 1000000 in
theorem carry_proof (m : Msg) (bl pl : List Part) (vl : List Int) (w : World) (hk : m.ki = 4) (h1 : m.cbn = bl.length) (h2 : m.cpn = pl.length) (h3 : m.cvn = vl.length) (h4 : vl.length ≤ 9000000000000000000) (hb : ListAt w m.cba m.cbc bl) (hp : ListAt w m.cpa m.cpc pl) (hv : IntsAt w m.cva vl) :
    Calls Try.prog 35 #[.agg #[.int .i64 m.fr, .int .i64 m.tt, .int .i64 m.ki, .int .i64 m.bau, .int .i64 m.bnu, .slice m.bta m.btn m.btc, .int .i64 m.hau, .int .i64 m.hrd, .slice m.hba m.hbn m.hbc, .slice m.hpa m.hpn m.hpc, .int .i64 m.sau, .int .i64 m.srd, .slice m.sda m.sdn m.sdc, .int .i64 m.cau, .int .i64 m.crd, .slice m.cba m.cbn m.cbc, .slice m.cpa m.cpn m.cpc, .slice m.cva m.cvn m.cvc, .int .i64 m.ro]] w fun e w' => e = .returned (.int .i64 (certF m.cau m.crd bl pl vl)) ∧ Below w.heap.size w w' := by
  have hA : Below w.heap.size w (w.alloc (.cells #[.int .i64 m.fr, .int .i64 m.tt, .int .i64 m.ki, .int .i64 m.bau, .int .i64 m.bnu, .slice m.bta m.btn m.btc, .int .i64 m.hau, .int .i64 m.hrd, .slice m.hba m.hbn m.hbc, .slice m.hpa m.hpn m.hpc, .int .i64 m.sau, .int .i64 m.srd, .slice m.sda m.sdn m.sdc, .int .i64 m.cau, .int .i64 m.crd, .slice m.cba m.cbn m.cbc, .slice m.cpa m.cpn m.cpc, .slice m.cva m.cvn m.cvc, .int .i64 m.ro] 35)) := (Below.refl _ _).alloc (Nat.le_refl _) _
  have hC := checkCert_any m.cau m.crd m.cba m.cbc bl m.cpa m.cpc pl m.cva m.cvc vl _ (hb.below hA) (hp.below hA) (hv.below hA) h4
  rw [hk, ← h1, ← h2, ← h3] at hC
  rw [hk]
  clear h1 h2 h3
  go_enter Try.func35, Try.ntmps35
  go_wp2_with fail
  refine hC.mono ?_
  rintro e w1 ⟨he, hb1⟩
  subst he
  dsimp only
  go_wp2_with fail
  go_ret
  exact ⟨rfl, below_alloc hb1⟩
set_option maxRecDepth 100000 in
set_option maxHeartbeats 1000000 in
theorem carry_none (m : Msg) (w : World) (hk : ¬ (1 ≤ m.ki ∧ m.ki ≤ 5)) :
    Calls Try.prog 35 #[.agg #[.int .i64 m.fr, .int .i64 m.tt, .int .i64 m.ki, .int .i64 m.bau, .int .i64 m.bnu, .slice m.bta m.btn m.btc, .int .i64 m.hau, .int .i64 m.hrd, .slice m.hba m.hbn m.hbc, .slice m.hpa m.hpn m.hpc, .int .i64 m.sau, .int .i64 m.srd, .slice m.sda m.sdn m.sdc, .int .i64 m.cau, .int .i64 m.crd, .slice m.cba m.cbn m.cbc, .slice m.cpa m.cpn m.cpc, .slice m.cva m.cvn m.cvc, .int .i64 m.ro]] w fun e w' => e = .returned (.int .i64 3) ∧ Below w.heap.size w w' := by
  have k1 : ¬ m.ki = 1 := by omega
  have k2 : ¬ m.ki = 2 := by omega
  have k3 : ¬ m.ki = 3 := by omega
  have k4 : ¬ m.ki = 4 := by omega
  have k5 : ¬ m.ki = 5 := by omega
  go_enter Try.func35, Try.ntmps35
  go_wp2_with fail
  go_ret
  exact ⟨rfl, (Below.refl _ _).alloc (Nat.le_refl _) _⟩
end Go.Proofs.Ythlknldicpeobaa
