/- The document's answer: sameBytes, digestsFault, for every list. -/
import Derived.Test.YtchmfbhdnhaleaaSameB
import Derived.Test.YtchmfbhdnhaleaaDigs
import Derived.Deep.RegionHeld2
namespace Go.Proofs.Ytchmfbhdnhaleaa
open Go.RowKit

set_option maxRecDepth 100000 in
theorem twice_yes (ps : List Part) (k m : Nat) (hm : m < k) (h : txL (partAt ps m).bs = txL (partAt ps k).bs) : twice ps k = true := by
  simp only [twice, List.any_eq_true]
  exact ⟨m, by simpa using hm, by simpa using h⟩
set_option maxRecDepth 100000 in
theorem twice_no (ps : List Part) (k : Nat) (h : ∀ j, j < k → ¬ txL (partAt ps j).bs = txL (partAt ps k).bs) : twice ps k = false := by
  simp only [twice, List.any_eq_false]
  intro j hj
  simpa using h j (by simpa using hj)

set_option maxRecDepth 100000 in
set_option maxHeartbeats 1000000 in
theorem digestsFault_any (ps : List Part) (sa : Option Addr) (n cap : Nat) (w : World) (hn : n = ps.length) (hcm : n ≤ 9000000000000000000) (hp : PartsAt w sa ps) :
    Calls Try.prog 55 #[.slice sa n cap] w fun e w' => e = .returned (.int .i64 (digF ps)) ∧ Below w.heap.size w w' := by
  subst hn
  go_enter Try.func55, Try.ntmps55
  go_wp2_with fail
  go_loopw [3] (fun i wr => ∃ k : Nat, k ≤ ps.length ∧ i = .int .i64 k ∧ digTo1 ps k = 0 ∧ Below w.heap.size w wr) (fun i _ => ps.length - (intOf i).toNat)
  case atStart => exact ⟨0, Nat.zero_le _, rfl, rfl, Below.refl _ _⟩
  case round =>
    obtain ⟨k, hk, rfl, h0, hb⟩ := hrel
    by_cases hlt : k < ps.length
    · have hpw := hp.below hb
      obtain ⟨sb, so, rfl, hc⟩ : ∃ sb so, sa = some ⟨sb, so, none⟩ ∧ ∀ j (h : j < ps.length), wr.cell? ⟨sb, so + j, none⟩ = some (.slice (ps[j]).sa (ps[j]).bs.length (ps[j]).cap) := by
        rcases hpw.cells with h | h
        · rw [h] at hlt; simp at hlt
        · exact h
      have hx := hpw.each (ps[k]) (List.getElem_mem hlt)
      have hpe := partAt_get ps k hlt
      have ck := hc k hlt
      have Hc : Hid (∀ j (h : j < ps.length), wr.cell? ⟨sb, so + j, none⟩ = some (.slice (ps[j]).sa (ps[j]).bs.length (ps[j]).cap)) := hc
      clear hc
      have hltI : (k : Int) < ps.length := by omega
      have hAt : Hid (digAt ps k = if (ps[k]).bs.length ≠ 32 then 4 else if twice ps k then 7 else 0) := by
        show _ = _
        rw [digAt, hpe]
      have hF : Hid (digAt ps k ≠ 0 → digF ps = digAt ps k) := by
        show _ → _
        exact digF_at ps k hlt h0
      have hS : Hid (digAt ps k = 0 → digTo1 ps (k + 1) = 0) := by
        show _ → _
        intro h
        rw [digTo1, h0, h]; rfl
      have hxl : (ps[k]).bs.length ≤ 9223372036854775807 := Nat.le_trans hx.le hx.max
      generalize hpk : ps[k] = p at *
      by_cases h32 : p.bs.length = 32
      · have e7 : Hid (twice ps k = true → digF ps = 7) := by
          show _ → _
          intro hT
          have : digAt ps k = 7 := by rw [hAt.out, if_neg (by simp [h32]), hT]; rfl
          rw [hF.out (by rw [this]; decide), this]
        have e0 : Hid (twice ps k = false → digTo1 ps (k + 1) = 0) := by
          show _ → _
          intro hT
          exact hS.out (by rw [hAt.out, if_neg (by simp [h32]), hT]; rfl)
        have hY : Hid (∀ m, m < k → txL (partAt ps m).bs = txL p.bs → twice ps k = true) := by
          show ∀ m, _
          intro m hm h
          exact twice_yes ps k m hm (by rw [hpe]; exact h)
        have hN : Hid ((∀ j, j < k → ¬ txL (partAt ps j).bs = txL p.bs) → twice ps k = false) := by
          show _ → _
          intro h
          exact twice_no ps k (fun j hj => by rw [hpe]; exact h j hj)
        clear hAt hF hS h0 hpe
        go_wp2_with fail
        go_loopw [4] (fun i wq => ∃ m : Nat, m ≤ k ∧ i = .int .i64 m ∧ (∀ j, j < m → ¬ txL (partAt ps j).bs = txL p.bs) ∧ Below w.heap.size w wq) (fun i _ => k - (intOf i).toNat)
        case atStart => exact ⟨0, Nat.zero_le _, rfl, (fun j hj => by omega), hb⟩
        case round =>
          clear Hc hx ck hb hpw
          obtain ⟨m, hm, rfl, hno, hb⟩ := hrel
          have hpw := hp.below hb
          by_cases hmk : m < k
          · have hmp : m < ps.length := by omega
            have hc : ∀ j (h : j < ps.length), wr.cell? ⟨sb, so + j, none⟩ = some (.slice (ps[j]).sa (ps[j]).bs.length (ps[j]).cap) := by
              rcases hpw.cells with h | ⟨sb', so', e, h⟩
              · rw [h] at hlt; simp at hlt
              · cases e; exact h
            have cm := hc m hmp
            have ck := hc k hlt
            have hx := hpw.each (ps[k]) (List.getElem_mem hlt)
            rw [hpk] at ck hx
            clear hc
            have hxm := hpw.each (ps[m]) (List.getElem_mem hmp)
            have hpm := partAt_get ps m hmp
            have hmkI : (m : Int) < k := by omega
            have hmpI : (m : Int) < ps.length := by omega
            have Hno : Hid (¬ txL (ps[m]).bs = txL p.bs → ∀ j, j < m + 1 → ¬ txL (partAt ps j).bs = txL p.bs) := by
              show _ → _
              intro h j hj
              rcases Nat.lt_or_ge j m with g | g
              · exact hno j g
              · obtain rfl : j = m := by omega
                rw [hpm]; exact h
            have Hyes : Hid (txL (ps[m]).bs = txL p.bs → digF ps = 7) := by
              show _ → _
              intro h
              exact e7.out (hY.out m hmk (by rw [hpm]; exact h))
            clear hno hpm
            generalize ps[m] = q at *
            go_wp2_with fail
            go_region_held2 (fun w' => w'.cell? ⟨sb, so + m, none⟩ = some (.slice q.sa q.bs.length q.cap) ∧ w'.cell? ⟨sb, so + k, none⟩ = some (.slice p.sa p.bs.length p.cap)) (go_keep) ((go_at_call 63; refine (sameBytes_any q.bs p.bs q.sa p.sa _ _ q.cap p.cap _ (by first | rfl | exact h32.symm) (by first | rfl | exact h32.symm) (hxm.below ?_) (hx.below ?_)).mono ?_; exact (Below.refl _ _).drew; exact (Below.refl _ _).drew; rintro e w1 ⟨rfl, rfl⟩))
            all_goals
              by_cases h : txL q.bs = txL p.bs
              · have hy := Hyes.out h
                rw [decide_eq_true h]
                clear Hyes Hno h
                go_wp2_with fail
                go_ret
                exact ⟨ret_int hy.symm, hb.drew⟩
              · have hn := Hno.out h
                rw [decide_eq_false h]
                clear Hyes Hno h
                go_wp2_with fail
                go_roundw
                case rel =>
                  have hR : ∃ m' : Nat, m' ≤ k ∧ (Value.int .i64 ((m : Int) + 1)) = .int .i64 m' ∧ (∀ j, j < m' → ¬ txL (partAt ps j).bs = txL p.bs) ∧ Below w.heap.size w wr.drew := ⟨m + 1, by omega, by go_num, hn, hb.drew⟩
                  first | exact hR | ((repeat apply Exists.intro); exact ⟨hR, rfl⟩)
                case measure => simp [intOf]; omega
          · obtain rfl : m = k := by omega
            have h1 := e0.out (hN.out hno)
            clear hno
            go_wp2_with fail
            go_roundw
            case rel =>
              have hR : ∃ k' : Nat, k' ≤ ps.length ∧ (Value.int .i64 ((m : Int) + 1)) = .int .i64 k' ∧ digTo1 ps k' = 0 ∧ Below w.heap.size w wr := ⟨m + 1, by omega, by go_num, h1, hb⟩
              first | exact hR | ((repeat apply Exists.intro); exact ⟨hR, rfl⟩)
            case measure => simp [intOf]; omega
      · have h32I : ¬ (p.bs.length : Int) = 32 := by omega
        have e4 : Hid (digF ps = 4) := by
          show _ = _
          have : digAt ps k = 4 := by rw [hAt.out, if_pos h32]
          rw [hF.out (by rw [this]; decide), this]
        clear hAt hF hS
        go_wp2_with fail
        go_ret
        exact ⟨ret_int e4.out.symm, hb⟩
    · obtain rfl : k = ps.length := by omega
      go_wp2_with fail
      go_ret
      exact ⟨ret_int h0.symm, hb⟩
end Go.Proofs.Ytchmfbhdnhaleaa
