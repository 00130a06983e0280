/- wire.Encode of a batch. -/
import Derived.Test.YtldlknmpkoebbaaStrs
import Derived.Test.YtldlknmpkoebbaaTapeRecoversM12
import Derived.Test.YtldlknmpkoebbaaMsgF
import Derived.Test.YtldlknmpkoebbaaCheckM
import Derived.Test.YtldlknmpkoebbaaTapeRecoversM6
import Derived.Test.YtldlknmpkoebbaaTChk
namespace Go.Proofs.Ytldlknmpkoebbaa
open Go.RowKit

set_option maxRecDepth 100000 in
theorem batchF_ok {au nu : Int} {ss : List ByteArray} (h : batchF au nu ss = 0) : (0 ≤ au ∧ au < 4) ∧ (1 ≤ nu ∧ nu ≤ 1048576) ∧ (1 ≤ ss.length ∧ ss.length ≤ 4) ∧ ∀ s ∈ ss, 1 ≤ s.size ∧ s.size ≤ 20 := by
  unfold batchF at h
  split at h
  · cases h
  · split at h
    · cases h
    · split at h
      · rename_i h1 h2 h3
        refine ⟨by omega, by omega, by omega, fun s hs => ?_⟩
        have := List.all_eq_true.1 h3 s hs
        simpa [txOk] using this
      · cases h
end Go.Proofs.Ytldlknmpkoebbaa

namespace Go.Proofs.Ytldlknmpkoebbaa
open Go.RowKit

/-- What the kind carries, as bytes. -/
def bodyB (m : Msg) (ss : List ByteArray) (bl pl cbl cpl : List Part) (ds vl : List Int) : List Int := if m.ki = 1 then batchB m.bau m.bnu ss else if m.ki = 2 then headB m.hau m.hrd bl pl else if m.ki = 3 then [m.sau] ++ rd3 m.srd ++ ds else if m.ki = 4 then certB m.cau m.crd cbl cpl vl else rd3 m.ro
/-- P2.9. -/
def msgB (m : Msg) (ss : List ByteArray) (bl pl cbl cpl : List Part) (ds vl : List Int) : List Int := [m.ki, m.fr, m.tt] ++ bodyB m ss bl pl cbl cpl ds vl
set_option maxRecDepth 100000 in
theorem checkF_ok {m : Msg} {e : Int} (h : checkF m e = 0) : (0 ≤ m.fr ∧ m.fr < 4) ∧ (0 ≤ m.tt ∧ m.tt < 4) ∧ e = 0 ∧ msgEmpty (strip m) = true := by
  unfold checkF at h
  split at h
  · cases h
  · rename_i h1
    split at h
    · rename_i h2; exact absurd h h2
    · rename_i h2
      split at h
      · rename_i h3
        exact ⟨by omega, by omega, by simpa using h2, h3⟩
      · cases h
set_option maxRecDepth 100000 in
theorem checkF_zero {m : Msg} {e : Int} (hf : 0 ≤ m.fr ∧ m.fr < 4) (ht : 0 ≤ m.tt ∧ m.tt < 4) (he : e = 0) (hm : msgEmpty (strip m) = true) : checkF m e = 0 := by
  rw [checkF, if_neg (by omega), if_neg (by simp [he]), if_pos hm]
set_option maxRecDepth 100000 in
theorem carriedF_kind {m : Msg} {ss : List ByteArray} {bl pl cbl cpl : List Part} {vl : List Int} (h : carriedF m ss bl pl cbl cpl vl = 0) : m.ki = 1 ∨ m.ki = 2 ∨ m.ki = 3 ∨ m.ki = 4 ∨ m.ki = 5 := by
  unfold carriedF at h
  repeat' split at h
  all_goals first | (cases h; done) | omega
set_option maxRecDepth 100000 in
theorem slotF_ok {au rd : Int} {n : Nat} (h : slotF au rd n = 0) : (0 ≤ au ∧ au < 4) ∧ (1 ≤ rd ∧ rd ≤ 1048576) ∧ n = 32 := by
  unfold slotF at h
  split at h
  · cases h
  · split at h
    · cases h
    · exact ⟨by omega, by omega, by omega⟩
set_option maxRecDepth 100000 in
theorem vTo_zero (vl : List Int) (k : Nat) (h : vTo vl k = 0) : ∀ j, j < k → vAt vl j = 0 := by
  induction k with
  | zero => intro j hj; omega
  | succ k ih =>
    rw [vTo] at h
    split at h
    · rename_i h1; exact absurd h h1
    · rename_i h1
      intro j hj
      rcases Nat.lt_or_ge j k with g | g
      · exact ih (by simpa using h1) j g
      · obtain rfl : j = k := by omega
        exact h
set_option maxRecDepth 100000 in
theorem certF_ok {au rd : Int} {bl pl : List Part} {vl : List Int} (h : certF au rd bl pl vl = 0) : headerF au rd bl pl = 0 ∧ vl.length ≤ 4 ∧ 3 ≤ vl.length ∧ ∀ x ∈ vl, 0 ≤ x ∧ x < 4 := by
  unfold certF at h
  split at h
  · rename_i h1; exact absurd h h1
  · rename_i h1
    split at h
    · cases h
    · rename_i h2
      unfold votersF at h
      split at h
      · rename_i h3; exact absurd h h3
      · rename_i h3
        split at h
        · cases h
        · refine ⟨by simpa using h1, by omega, by omega, fun x hx => ?_⟩
          obtain ⟨j, hj, rfl⟩ := List.getElem_of_mem hx
          have h4 := vTo_zero vl vl.length (by simpa using h3) j hj
          rw [vAt] at h4
          split at h4
          · cases h4
          · rename_i h5
            have h6 : vl.getD j 0 = vl[j] := by simp [List.getD, hj]
            rw [h6] at h5
            omega
set_option maxRecDepth 100000 in
theorem bodyB1 {m : Msg} (h : m.ki = 1) (ss : List ByteArray) (bl pl cbl cpl : List Part) (ds vl : List Int) : bodyB m ss bl pl cbl cpl ds vl = batchB m.bau m.bnu ss := by simp [bodyB, h]
set_option maxRecDepth 100000 in
theorem bodyB2 {m : Msg} (h : m.ki = 2) (ss : List ByteArray) (bl pl cbl cpl : List Part) (ds vl : List Int) : bodyB m ss bl pl cbl cpl ds vl = headB m.hau m.hrd bl pl := by simp [bodyB, h]
set_option maxRecDepth 100000 in
theorem bodyB3 {m : Msg} (h : m.ki = 3) (ss : List ByteArray) (bl pl cbl cpl : List Part) (ds vl : List Int) : bodyB m ss bl pl cbl cpl ds vl = [m.sau] ++ rd3 m.srd ++ ds := by simp [bodyB, h]
set_option maxRecDepth 100000 in
theorem bodyB4 {m : Msg} (h : m.ki = 4) (ss : List ByteArray) (bl pl cbl cpl : List Part) (ds vl : List Int) : bodyB m ss bl pl cbl cpl ds vl = certB m.cau m.crd cbl cpl vl := by simp [bodyB, h]
set_option maxRecDepth 100000 in
theorem bodyB5 {m : Msg} (h : m.ki = 5) (ss : List ByteArray) (bl pl cbl cpl : List Part) (ds vl : List Int) : bodyB m ss bl pl cbl cpl ds vl = rd3 m.ro := by simp [bodyB, h]
set_option maxRecDepth 100000 in
theorem carried1 {m : Msg} (h : m.ki = 1) (ss : List ByteArray) (bl pl cbl cpl : List Part) (vl : List Int) : carriedF m ss bl pl cbl cpl vl = batchF m.bau m.bnu ss := by simp [carriedF, h]
set_option maxRecDepth 100000 in
theorem carried2 {m : Msg} (h : m.ki = 2) (ss : List ByteArray) (bl pl cbl cpl : List Part) (vl : List Int) : carriedF m ss bl pl cbl cpl vl = headerF m.hau m.hrd bl pl := by simp [carriedF, h]
set_option maxRecDepth 100000 in
theorem carried3 {m : Msg} (h : m.ki = 3) (ss : List ByteArray) (bl pl cbl cpl : List Part) (vl : List Int) : carriedF m ss bl pl cbl cpl vl = slotF m.sau m.srd m.sdn := by simp [carriedF, h]
set_option maxRecDepth 100000 in
theorem carried4 {m : Msg} (h : m.ki = 4) (ss : List ByteArray) (bl pl cbl cpl : List Part) (vl : List Int) : carriedF m ss bl pl cbl cpl vl = certF m.cau m.crd cbl cpl vl := by simp [carriedF, h]
set_option maxRecDepth 100000 in
theorem carried5 {m : Msg} (h : m.ki = 5) (ss : List ByteArray) (bl pl cbl cpl : List Part) (vl : List Int) : carriedF m ss bl pl cbl cpl vl = if 1 ≤ m.ro ∧ m.ro ≤ 1048576 then 0 else 2 := by simp [carriedF, h]
set_option maxRecDepth 100000 in
theorem bodyB_le {m : Msg} {ss : List ByteArray} {bl pl cbl cpl : List Part} {ds vl : List Int} (hn : m.sdn = ds.length) (h : carriedF m ss bl pl cbl cpl vl = 0) : (bodyB m ss bl pl cbl cpl ds vl).length ≤ 320 := by
  rcases carriedF_kind h with k | k | k | k | k
  · rw [carried1 k] at h
    obtain ⟨_, _, h3, h4⟩ := batchF_ok h
    have := txsB_le ss (fun s hs => (h4 s hs).2)
    rw [bodyB1 k]
    simp [batchB, rd3]; omega
  · rw [carried2 k] at h
    obtain ⟨_, _, h3, h4, h5, h6⟩ := headerF_ok h
    have := headB_le m.hau m.hrd bl pl (by omega) h4 h5 h6
    rw [bodyB2 k]
    omega
  · rw [carried3 k] at h
    obtain ⟨_, _, h3⟩ := slotF_ok h
    rw [bodyB3 k]
    simp [rd3]; omega
  · rw [carried4 k] at h
    obtain ⟨g1, g2, _, _⟩ := certF_ok h
    obtain ⟨_, _, h3, h4, h5, h6⟩ := headerF_ok g1
    have := headB_le m.cau m.crd cbl cpl (by omega) h4 h5 h6
    rw [bodyB4 k]
    simp [certB]; omega
  · rw [bodyB5 k]
    simp [rd3]
end Go.Proofs.Ytldlknmpkoebbaa

namespace Go.Proofs.Ytldlknmpkoebbaa
open Go.RowKit

/-- P2.9. -/
def MV.bytes (x : MV) : List Int := msgB x.m x.ss x.bl x.pl x.cbl x.cpl x.ds x.vl
set_option maxRecDepth 100000 in
theorem IsRec.check {x : MV} (h : IsRec x) : checkF x.m x.car = 0 := checkF_zero (by rw [h.fr]; omega) (by rw [h.tt]; omega) h.car h.emp
end Go.Proofs.Ytldlknmpkoebbaa

namespace Go.Proofs.Ytldlknmpkoebbaa
open Go.RowKit

set_option maxRecDepth 100000 in
theorem IsRec.rec0 {x : MV} (h : IsRec x) : recF x.m (checkF x.m x.car) = 0 := by rw [h.check, recF]; simp [h.fr, h.tt, h.ki]
end Go.Proofs.Ytldlknmpkoebbaa

namespace Go.Proofs.Ytldlknmpkoebbaa
open Go.RowKit

set_option maxRecDepth 100000 in
set_option maxHeartbeats 1000000 in
theorem encode_bad (m : Msg) (ec : Int) (w : World) (he : ec ≠ 0)
    (hc : ∀ w1, Below w.heap.size w w1 → Calls Try.prog 49 #[.agg #[.int .i64 m.fr, .int .i64 m.tt, .int .i64 m.ki, .int .i64 m.bau, .int .i64 m.bnu, .slice m.bta m.btn m.btc, .int .i64 m.hau, .int .i64 m.hrd, .slice m.hba m.hbn m.hbc, .slice m.hpa m.hpn m.hpc, .int .i64 m.sau, .int .i64 m.srd, .slice m.sda m.sdn m.sdc, .int .i64 m.cau, .int .i64 m.crd, .slice m.cba m.cbn m.cbc, .slice m.cpa m.cpn m.cpc, .slice m.cva m.cvn m.cvc, .int .i64 m.ro]] w1 fun e w' => e = .returned (.int .i64 ec) ∧ Below w1.heap.size w1 w') :
    Calls Try.prog 43 #[.agg #[.int .i64 m.fr, .int .i64 m.tt, .int .i64 m.ki, .int .i64 m.bau, .int .i64 m.bnu, .slice m.bta m.btn m.btc, .int .i64 m.hau, .int .i64 m.hrd, .slice m.hba m.hbn m.hbc, .slice m.hpa m.hpn m.hpc, .int .i64 m.sau, .int .i64 m.srd, .slice m.sda m.sdn m.sdc, .int .i64 m.cau, .int .i64 m.crd, .slice m.cba m.cbn m.cbc, .slice m.cpa m.cpn m.cpc, .slice m.cva m.cvn m.cvc, .int .i64 m.ro]] w fun e w' => e = .returned (.tuple #[.slice none 0 0, .int .i64 ec]) ∧ Below w.heap.size w w' := by
  have hq := heap_alloc_new w (.cells #[.int .i64 m.fr, .int .i64 m.tt, .int .i64 m.ki, .int .i64 m.bau, .int .i64 m.bnu, .slice m.bta m.btn m.btc, .int .i64 m.hau, .int .i64 m.hrd, .slice m.hba m.hbn m.hbc, .slice m.hpa m.hpn m.hpc, .int .i64 m.sau, .int .i64 m.srd, .slice m.sda m.sdn m.sdc, .int .i64 m.cau, .int .i64 m.crd, .slice m.cba m.cbn m.cbc, .slice m.cpa m.cpn m.cpc, .slice m.cva m.cvn m.cvc, .int .i64 m.ro] 53)
  have hB : Below w.heap.size w (w.alloc (.cells #[.int .i64 m.fr, .int .i64 m.tt, .int .i64 m.ki, .int .i64 m.bau, .int .i64 m.bnu, .slice m.bta m.btn m.btc, .int .i64 m.hau, .int .i64 m.hrd, .slice m.hba m.hbn m.hbc, .slice m.hpa m.hpn m.hpc, .int .i64 m.sau, .int .i64 m.srd, .slice m.sda m.sdn m.sdc, .int .i64 m.cau, .int .i64 m.crd, .slice m.cba m.cbn m.cbc, .slice m.cpa m.cpn m.cpc, .slice m.cva m.cvn m.cvc, .int .i64 m.ro] 53)) := (Below.refl _ _).alloc (Nat.le_refl _) _
  go_enter Try.func43, Try.ntmps43
  go_wp2_with (refine wpList_load_row rfl 53 _ rfl w.heap.size rfl 53 #[.int .i64 m.fr, .int .i64 m.tt, .int .i64 m.ki, .int .i64 m.bau, .int .i64 m.bnu, .slice m.bta m.btn m.btc, .int .i64 m.hau, .int .i64 m.hrd, .slice m.hba m.hbn m.hbc, .slice m.hpa m.hpn m.hpc, .int .i64 m.sau, .int .i64 m.srd, .slice m.sda m.sdn m.sdc, .int .i64 m.cau, .int .i64 m.crd, .slice m.cba m.cbn m.cbc, .slice m.cpa m.cpn m.cpc, .slice m.cva m.cvn m.cvc, .int .i64 m.ro] (0, 0) _ hq Try.underlying53 rfl sMsg ?_)
  refine (hc _ hB).mono ?_
  rintro e w1 ⟨rfl, hb1⟩
  go_wp2_with fail
  go_ret2
  exact ⟨rfl, below_alloc hb1⟩
end Go.Proofs.Ytldlknmpkoebbaa

namespace Go.Proofs.Ytldlknmpkoebbaa
open Go.RowKit

set_option maxRecDepth 100000 in
set_option maxHeartbeats 1000000 in
theorem encode_bundle (m : Msg) (ss : List ByteArray) (w : World) (hk : m.ki = 1) (hf : 0 ≤ m.fr ∧ m.fr < 4) (ht : 0 ≤ m.tt ∧ m.tt < 4) (ha : 0 ≤ m.bau ∧ m.bau < 4) (hr : 0 ≤ m.bnu ∧ m.bnu ≤ 1048576) (hn : m.btn = ss.length) (hl : ss.length ≤ 4) (hz : ∀ s ∈ ss, s.size ≤ 20) (hs : StrsAt w m.bta ss) (hsb : ∀ sb so, m.bta = some ⟨sb, so, none⟩ → sb < w.heap.size)
    (hc : ∀ w1, Below w.heap.size w w1 → Calls Try.prog 49 #[.agg #[.int .i64 m.fr, .int .i64 m.tt, .int .i64 m.ki, .int .i64 m.bau, .int .i64 m.bnu, .slice m.bta m.btn m.btc, .int .i64 m.hau, .int .i64 m.hrd, .slice m.hba m.hbn m.hbc, .slice m.hpa m.hpn m.hpc, .int .i64 m.sau, .int .i64 m.srd, .slice m.sda m.sdn m.sdc, .int .i64 m.cau, .int .i64 m.crd, .slice m.cba m.cbn m.cbc, .slice m.cpa m.cpn m.cpc, .slice m.cva m.cvn m.cvc, .int .i64 m.ro]] w1 fun e w' => e = .returned (.int .i64 0) ∧ Below w1.heap.size w1 w') :
    Calls Try.prog 43 #[.agg #[.int .i64 m.fr, .int .i64 m.tt, .int .i64 m.ki, .int .i64 m.bau, .int .i64 m.bnu, .slice m.bta m.btn m.btc, .int .i64 m.hau, .int .i64 m.hrd, .slice m.hba m.hbn m.hbc, .slice m.hpa m.hpn m.hpc, .int .i64 m.sau, .int .i64 m.srd, .slice m.sda m.sdn m.sdc, .int .i64 m.cau, .int .i64 m.crd, .slice m.cba m.cbn m.cbc, .slice m.cpa m.cpn m.cpc, .slice m.cva m.cvn m.cvc, .int .i64 m.ro]] w fun e w' => ∃ v, e = .returned (.tuple #[v, .int .i64 0]) ∧ w'.ownsRow w.heap.size 5 1 v (3 + (batchB m.bau m.bnu ss).length) (ub ([1, m.fr, m.tt] ++ batchB m.bau m.bnu ss)) ∧ Below w.heap.size w w' := by
  have hq := heap_alloc_new w (.cells #[.int .i64 m.fr, .int .i64 m.tt, .int .i64 m.ki, .int .i64 m.bau, .int .i64 m.bnu, .slice m.bta m.btn m.btc, .int .i64 m.hau, .int .i64 m.hrd, .slice m.hba m.hbn m.hbc, .slice m.hpa m.hpn m.hpc, .int .i64 m.sau, .int .i64 m.srd, .slice m.sda m.sdn m.sdc, .int .i64 m.cau, .int .i64 m.crd, .slice m.cba m.cbn m.cbc, .slice m.cpa m.cpn m.cpc, .slice m.cva m.cvn m.cvc, .int .i64 m.ro] 53)
  have hB : Below w.heap.size w (w.alloc (.cells #[.int .i64 m.fr, .int .i64 m.tt, .int .i64 m.ki, .int .i64 m.bau, .int .i64 m.bnu, .slice m.bta m.btn m.btc, .int .i64 m.hau, .int .i64 m.hrd, .slice m.hba m.hbn m.hbc, .slice m.hpa m.hpn m.hpc, .int .i64 m.sau, .int .i64 m.srd, .slice m.sda m.sdn m.sdc, .int .i64 m.cau, .int .i64 m.crd, .slice m.cba m.cbn m.cbc, .slice m.cpa m.cpn m.cpc, .slice m.cva m.cvn m.cvc, .int .i64 m.ro] 53)) := (Below.refl _ _).alloc (Nat.le_refl _) _
  rw [hk] at hc hq hB ⊢
  obtain ⟨hf0, hf1⟩ := hf
  obtain ⟨ht0, ht1⟩ := ht
  have Hn : Hid (m.btn = ss.length) := hn
  clear hn hk
  go_enter Try.func43, Try.ntmps43
  go_wp2_with (refine wpList_load_row rfl 53 _ rfl w.heap.size rfl 53 _ (0, 0) _ hq Try.underlying53 rfl sMsg ?_)
  refine (hc _ hB).mono ?_
  rintro e w1 ⟨rfl, hb1⟩
  have r1 := row_new hb1
  replace hb1 := below_alloc hb1
  have c0 : w1.cell? ⟨w.heap.size, 0, none⟩ = some (.int .i64 m.fr) := cells_at r1 0 _ rfl
  have c1 : w1.cell? ⟨w.heap.size, 1, none⟩ = some (.int .i64 m.tt) := cells_at r1 1 _ rfl
  have c2 : w1.cell? ⟨w.heap.size, 2, none⟩ = some (.int .i64 1) := cells_at r1 2 _ rfl
  have c3 : w1.cell? ⟨w.heap.size, 3, none⟩ = some (.int .i64 m.bau) := cells_at r1 3 _ rfl
  have c4 : w1.cell? ⟨w.heap.size, 4, none⟩ = some (.int .i64 m.bnu) := cells_at r1 4 _ rfl
  have c5 : w1.cell? ⟨w.heap.size, 5, none⟩ = some (.slice m.bta m.btn m.btc) := cells_at r1 5 _ rfl
  have hlt : w.heap.size < w1.heap.size := lt_of_heap r1
  have hlit := World.ownsRow_lit (base := w1.heap.size) (e := 5) (size := 1) w1 (ub [1, m.fr, m.tt]).toArray 3 (Nat.le_refl _) (by decide) rfl
  go_wp2_with fail
  refine (appendBatch_any w1.heap.size _ 3 [1, m.fr, m.tt] m.bau m.bnu m.bta m.btn m.btc ss _ ha hr Hn.out hl hz ?_ ?_ ?_ (le_alloc (Nat.le_refl _) _) (by decide)).mono ?_
  · exact (hs.below hb1).below ((Below.refl _ _).alloc (Nat.le_refl _) _)
  · intro sb so e
    have := hsb sb so e
    refine ⟨by rw [size_alloc]; omega, fun h => ?_⟩
    simp [Value.ownBlock] at h
    omega
  · exact hlit
  rintro e w2 ⟨v2, rfl, ho2, hG⟩
  have hb2 := hG.below (base := w1.heap.size) (le_alloc (Nat.le_refl _) _) (fun q e => by cases e; exact Nat.le_refl _)
  clear hG
  go_wp2_with fail
  go_ret2
  refine ⟨v2, rfl, ownsRow_base' ho2 hb1.size, ?_⟩
  exact (hb1.alloc hb1.size _).trans (hb2.mono hb1.size)
end Go.Proofs.Ytldlknmpkoebbaa
