/- wire.Encode of a vote. -/
import Derived.Test.YthijfhbmkpfnkaaMessageTornM18
import Derived.Test.YthijfhbmkpfnkaaMessageTornM24
import Derived.Test.YthijfhbmkpfnkaaBunF
import Derived.Test.YthijfhbmkpfnkaaMessageTornM0
import Derived.Test.YthijfhbmkpfnkaaCheckM
import Derived.Test.YthijfhbmkpfnkaaMessageTornM6
import Derived.Test.YthijfhbmkpfnkaaMessageTornM12
namespace Go.Proofs.Ythijfhbmkpfnkaa
open Go.RowKit

set_option maxRecDepth 100000 in
theorem U8s.app {a b : List Int} (ha : U8s a) (hb : U8s b) : U8s (a ++ b) := fun x hx => (List.mem_append.1 hx).elim (ha x) (hb x)
set_option maxRecDepth 100000 in
theorem U8s.cons {a : Int} {b : List Int} (ha : 0 ≤ a ∧ a ≤ 255) (hb : U8s b) : U8s (a :: b) := fun x hx => by
  rcases List.mem_cons.1 hx with h | h
  · rw [h]; exact ha
  · exact hb x h
set_option maxRecDepth 100000 in
theorem U8s.nil : U8s [] := fun x hx => by cases hx
set_option maxRecDepth 100000 in
theorem U8s.take {a : List Int} (k : Nat) (ha : U8s a) : U8s (a.take k) := fun x hx => ha x (List.mem_of_mem_take hx)
set_option maxRecDepth 100000 in
theorem u8_rd3 {n : Int} (h : 1 ≤ n ∧ n ≤ 1048576) : U8s (rd3 n) := U8s.cons (by omega) (U8s.cons (by omega) (U8s.cons (by omega) U8s.nil))
set_option maxRecDepth 100000 in
theorem u8_flat (qs : List Part) (h : ∀ p ∈ qs, ∀ x ∈ p.bs, 0 ≤ x ∧ x ≤ 255) : U8s (flatB qs) := by
  induction qs with
  | nil => exact U8s.nil
  | cons p qs ih => exact U8s.app (h p (by simp)) (ih fun q hq => h q (by simp [hq]))
set_option maxRecDepth 100000 in
theorem u8_digs (qs : List Part) (hl : qs.length ≤ 255) (h : ∀ p ∈ qs, ∀ x ∈ p.bs, 0 ≤ x ∧ x ≤ 255) : U8s (digsB qs) := U8s.cons (by omega) (u8_flat qs h)
set_option maxRecDepth 100000 in
theorem u8_tb (s : ByteArray) : U8s (tb s) := fun x hx => by
  obtain ⟨b, _, rfl⟩ := List.mem_map.1 hx
  have := b.toNat_lt
  omega
set_option maxRecDepth 100000 in
theorem u8_txs (ss : List ByteArray) (h : ∀ s ∈ ss, s.size ≤ 20) : U8s (txsB ss) := by
  induction ss with
  | nil => exact U8s.nil
  | cons s ss ih =>
    have := h s (by simp)
    exact U8s.cons (by omega) (U8s.app (u8_tb s) (ih fun q hq => h q (by simp [hq])))
set_option maxRecDepth 100000 in
theorem u8_head {au rd : Int} {bl pl : List Part} (h : headerF au rd bl pl = 0) (hb : ∀ p ∈ bl, ∀ x ∈ p.bs, 0 ≤ x ∧ x ≤ 255) (hp : ∀ p ∈ pl, ∀ x ∈ p.bs, 0 ≤ x ∧ x ≤ 255) : U8s (headB au rd bl pl) := by
  obtain ⟨h1, h2, h3, h4, _, _⟩ := headerF_ok h
  exact U8s.app (U8s.app (U8s.app (U8s.cons (by omega) U8s.nil) (u8_rd3 h2)) (u8_digs bl (by omega) hb)) (u8_digs pl (by omega) hp)
set_option maxRecDepth 100000 in
/-- A message's bytes are bytes. -/
theorem u8_msg {x : MV} (h : checkF x.m x.car = 0) (hu : U8M x.bl x.pl x.cbl x.cpl x.ds) : U8s x.bytes := by
  obtain ⟨hf, ht, hc, _⟩ := checkF_ok h
  have hc' : carriedF x.m x.ss x.bl x.pl x.cbl x.cpl x.vl = 0 := hc
  have hk := carriedF_kind hc'
  refine U8s.app (U8s.cons (by omega) (U8s.cons (by omega) (U8s.cons (by omega) U8s.nil))) ?_
  rcases hk with k | k | k | k | k
  · rw [carried1 k] at hc'
    rw [bodyB1 k]
    obtain ⟨h1, h2, h3, h4⟩ := batchF_ok hc'
    exact U8s.app (U8s.app (U8s.app (U8s.cons (by omega) U8s.nil) (u8_rd3 h2)) (U8s.cons (by omega) U8s.nil)) (u8_txs _ fun s hs => (h4 s hs).2)
  · rw [carried2 k] at hc'
    rw [bodyB2 k]
    exact u8_head hc' hu.hb hu.hp
  · rw [carried3 k] at hc'
    rw [bodyB3 k]
    obtain ⟨h1, h2, _⟩ := slotF_ok hc'
    exact U8s.app (U8s.app (U8s.cons (by omega) U8s.nil) (u8_rd3 h2)) hu.sd
  · rw [carried4 k] at hc'
    rw [bodyB4 k]
    obtain ⟨h1, h2, h3, h4⟩ := certF_ok hc'
    exact U8s.app (U8s.app (u8_head h1 hu.cb hu.cp) (U8s.cons (by omega) U8s.nil)) (fun y hy => by have := h4 y hy; omega)
  · rw [carried5 k] at hc'
    rw [bodyB5 k]
    split at hc'
    · rename_i h9
      exact u8_rd3 h9
    · cases hc'
set_option maxRecDepth 100000 in
theorem msg_len {w : World} {x : MV} (hM : MAt w x) (h : checkF x.m x.car = 0) : 3 < x.bytes.length ∧ x.bytes.length ≤ 323 := by
  obtain ⟨_, _, hc, _⟩ := checkF_ok h
  have hc' : carriedF x.m x.ss x.bl x.pl x.cbl x.cpl x.vl = 0 := hc
  have hl := bodyB_le (ds := x.ds) hM.dn hc'
  have e : x.bytes.length = 3 + (bodyB x.m x.ss x.bl x.pl x.cbl x.cpl x.ds x.vl).length := by simp [MV.bytes, msgB]; omega
  have hp : 0 < (bodyB x.m x.ss x.bl x.pl x.cbl x.cpl x.ds x.vl).length := by
    rcases carriedF_kind hc' with k | k | k | k | k
    · rw [bodyB1 k]; simp [batchB]
    · rw [bodyB2 k]; simp [headB]
    · rw [bodyB3 k]; simp
    · rw [bodyB4 k]; simp [certB]; omega
    · rw [bodyB5 k]; simp [rd3]
  omega
set_option maxRecDepth 100000 in
/-- What is torn is told to be short. -/
theorem torn_read {w : World} {x : MV} (hM : MAt w x) (h : checkF x.m x.car = 0) (K : Nat) (hK : K < x.bytes.length) : readF (x.bytes.take K) = 5 := by
  obtain ⟨_, hlen⟩ := msg_len hM h
  obtain ⟨_, _, hc, he⟩ := checkF_ok h
  have hc' : carriedF x.m x.ss x.bl x.pl x.cbl x.cpl x.vl = 0 := hc
  have hk := carriedF_kind hc'
  have hS : mS (x.bytes, false) = ([], false) := by
    have := (parse_back x [] hM hc he).2
    rw [List.append_nil] at this
    exact this
  have hT : (mS (x.bytes.take K, false)).2 = true := by
    refine mS_torn (q := x.bytes.drop K) (fun e => ?_) ?_
    · have := congrArg List.length e
      rw [List.length_drop, List.length_nil] at this
      omega
    · rw [List.take_append_drop]; exact hS
  have hL : (x.bytes.take K).length ≤ 4000 := by rw [List.length_take]; omega
  rw [readF, if_neg (by omega)]
  by_cases hn : x.bytes.take K = []
  · rw [if_pos hn]
  · rw [if_neg hn]
    have hg : (x.bytes.take K).getD 0 0 = x.m.ki := by
      cases K with
      | zero => exact absurd (List.take_zero) hn
      | succ K => rfl
    rw [hg, if_neg (by omega), if_pos hT]
set_option maxRecDepth 100000 in
theorem dec_torn {w w' : World} {e : Ending} {bs : List Int} (h : DecIs w w' e bs) (hF : readF bs = 5) : e = .returned (.tuple #[.agg #[.int .i64 0, .int .i64 0, .int .i64 0, .int .i64 0, .int .i64 0, .slice none 0 0, .int .i64 0, .int .i64 0, .slice none 0 0, .slice none 0 0, .int .i64 0, .int .i64 0, .slice none 0 0, .int .i64 0, .int .i64 0, .slice none 0 0, .slice none 0 0, .slice none 0 0, .int .i64 0], .int .i64 5]) ∧ Below w.heap.size w w' := by
  rcases h.out with ⟨_, he⟩ | ⟨h0, _⟩
  · rw [hF] at he
    exact ⟨he, h.below⟩
  · rw [hF] at h0; cases h0
end Go.Proofs.Ythijfhbmkpfnkaa

namespace Go.Proofs.Ythijfhbmkpfnkaa
open Go.RowKit

set_option maxRecDepth 100000 in
set_option maxHeartbeats 1000000 in
theorem encode_bad (m : Msg) (ec : Int) (w : World) (he : ec ≠ 0)
    (hc : ∀ w1, Below w.heap.size w w1 → Calls Try.prog 12 #[.agg #[.int .i64 m.fr, .int .i64 m.tt, .int .i64 m.ki, .int .i64 m.bau, .int .i64 m.bnu, .slice m.bta m.btn m.btc, .int .i64 m.hau, .int .i64 m.hrd, .slice m.hba m.hbn m.hbc, .slice m.hpa m.hpn m.hpc, .int .i64 m.sau, .int .i64 m.srd, .slice m.sda m.sdn m.sdc, .int .i64 m.cau, .int .i64 m.crd, .slice m.cba m.cbn m.cbc, .slice m.cpa m.cpn m.cpc, .slice m.cva m.cvn m.cvc, .int .i64 m.ro]] w1 fun e w' => e = .returned (.int .i64 ec) ∧ Below w1.heap.size w1 w') :
    Calls Try.prog 9 #[.agg #[.int .i64 m.fr, .int .i64 m.tt, .int .i64 m.ki, .int .i64 m.bau, .int .i64 m.bnu, .slice m.bta m.btn m.btc, .int .i64 m.hau, .int .i64 m.hrd, .slice m.hba m.hbn m.hbc, .slice m.hpa m.hpn m.hpc, .int .i64 m.sau, .int .i64 m.srd, .slice m.sda m.sdn m.sdc, .int .i64 m.cau, .int .i64 m.crd, .slice m.cba m.cbn m.cbc, .slice m.cpa m.cpn m.cpc, .slice m.cva m.cvn m.cvc, .int .i64 m.ro]] w fun e w' => e = .returned (.tuple #[.slice none 0 0, .int .i64 ec]) ∧ Below w.heap.size w w' := by
  have hq := heap_alloc_new w (.cells #[.int .i64 m.fr, .int .i64 m.tt, .int .i64 m.ki, .int .i64 m.bau, .int .i64 m.bnu, .slice m.bta m.btn m.btc, .int .i64 m.hau, .int .i64 m.hrd, .slice m.hba m.hbn m.hbc, .slice m.hpa m.hpn m.hpc, .int .i64 m.sau, .int .i64 m.srd, .slice m.sda m.sdn m.sdc, .int .i64 m.cau, .int .i64 m.crd, .slice m.cba m.cbn m.cbc, .slice m.cpa m.cpn m.cpc, .slice m.cva m.cvn m.cvc, .int .i64 m.ro] 37)
  have hB : Below w.heap.size w (w.alloc (.cells #[.int .i64 m.fr, .int .i64 m.tt, .int .i64 m.ki, .int .i64 m.bau, .int .i64 m.bnu, .slice m.bta m.btn m.btc, .int .i64 m.hau, .int .i64 m.hrd, .slice m.hba m.hbn m.hbc, .slice m.hpa m.hpn m.hpc, .int .i64 m.sau, .int .i64 m.srd, .slice m.sda m.sdn m.sdc, .int .i64 m.cau, .int .i64 m.crd, .slice m.cba m.cbn m.cbc, .slice m.cpa m.cpn m.cpc, .slice m.cva m.cvn m.cvc, .int .i64 m.ro] 37)) := (Below.refl _ _).alloc (Nat.le_refl _) _
  go_enter Try.func9, Try.ntmps9
  go_wp2_with (refine wpList_load_row rfl 37 _ rfl w.heap.size rfl 37 #[.int .i64 m.fr, .int .i64 m.tt, .int .i64 m.ki, .int .i64 m.bau, .int .i64 m.bnu, .slice m.bta m.btn m.btc, .int .i64 m.hau, .int .i64 m.hrd, .slice m.hba m.hbn m.hbc, .slice m.hpa m.hpn m.hpc, .int .i64 m.sau, .int .i64 m.srd, .slice m.sda m.sdn m.sdc, .int .i64 m.cau, .int .i64 m.crd, .slice m.cba m.cbn m.cbc, .slice m.cpa m.cpn m.cpc, .slice m.cva m.cvn m.cvc, .int .i64 m.ro] (0, 0) _ hq Try.underlying37 rfl sMsg ?_)
  refine (hc _ hB).mono ?_
  rintro e w1 ⟨rfl, hb1⟩
  go_wp2_with fail
  go_ret2
  exact ⟨rfl, below_alloc hb1⟩
end Go.Proofs.Ythijfhbmkpfnkaa

namespace Go.Proofs.Ythijfhbmkpfnkaa
open Go.RowKit

set_option maxRecDepth 100000 in
set_option maxHeartbeats 1000000 in
theorem encode_bundle (m : Msg) (ss : List ByteArray) (w : World) (hk : m.ki = 1) (hf : 0 ≤ m.fr ∧ m.fr < 4) (ht : 0 ≤ m.tt ∧ m.tt < 4) (ha : 0 ≤ m.bau ∧ m.bau < 4) (hr : 0 ≤ m.bnu ∧ m.bnu ≤ 1048576) (hn : m.btn = ss.length) (hl : ss.length ≤ 4) (hz : ∀ s ∈ ss, s.size ≤ 20) (hs : StrsAt w m.bta ss) (hsb : ∀ sb so, m.bta = some ⟨sb, so, none⟩ → sb < w.heap.size)
    (hc : ∀ w1, Below w.heap.size w w1 → Calls Try.prog 12 #[.agg #[.int .i64 m.fr, .int .i64 m.tt, .int .i64 m.ki, .int .i64 m.bau, .int .i64 m.bnu, .slice m.bta m.btn m.btc, .int .i64 m.hau, .int .i64 m.hrd, .slice m.hba m.hbn m.hbc, .slice m.hpa m.hpn m.hpc, .int .i64 m.sau, .int .i64 m.srd, .slice m.sda m.sdn m.sdc, .int .i64 m.cau, .int .i64 m.crd, .slice m.cba m.cbn m.cbc, .slice m.cpa m.cpn m.cpc, .slice m.cva m.cvn m.cvc, .int .i64 m.ro]] w1 fun e w' => e = .returned (.int .i64 0) ∧ Below w1.heap.size w1 w') :
    Calls Try.prog 9 #[.agg #[.int .i64 m.fr, .int .i64 m.tt, .int .i64 m.ki, .int .i64 m.bau, .int .i64 m.bnu, .slice m.bta m.btn m.btc, .int .i64 m.hau, .int .i64 m.hrd, .slice m.hba m.hbn m.hbc, .slice m.hpa m.hpn m.hpc, .int .i64 m.sau, .int .i64 m.srd, .slice m.sda m.sdn m.sdc, .int .i64 m.cau, .int .i64 m.crd, .slice m.cba m.cbn m.cbc, .slice m.cpa m.cpn m.cpc, .slice m.cva m.cvn m.cvc, .int .i64 m.ro]] w fun e w' => ∃ v, e = .returned (.tuple #[v, .int .i64 0]) ∧ w'.ownsRow w.heap.size 5 1 v (3 + (batchB m.bau m.bnu ss).length) (ub ([1, m.fr, m.tt] ++ batchB m.bau m.bnu ss)) ∧ Below w.heap.size w w' := by
  have hq := heap_alloc_new w (.cells #[.int .i64 m.fr, .int .i64 m.tt, .int .i64 m.ki, .int .i64 m.bau, .int .i64 m.bnu, .slice m.bta m.btn m.btc, .int .i64 m.hau, .int .i64 m.hrd, .slice m.hba m.hbn m.hbc, .slice m.hpa m.hpn m.hpc, .int .i64 m.sau, .int .i64 m.srd, .slice m.sda m.sdn m.sdc, .int .i64 m.cau, .int .i64 m.crd, .slice m.cba m.cbn m.cbc, .slice m.cpa m.cpn m.cpc, .slice m.cva m.cvn m.cvc, .int .i64 m.ro] 37)
  have hB : Below w.heap.size w (w.alloc (.cells #[.int .i64 m.fr, .int .i64 m.tt, .int .i64 m.ki, .int .i64 m.bau, .int .i64 m.bnu, .slice m.bta m.btn m.btc, .int .i64 m.hau, .int .i64 m.hrd, .slice m.hba m.hbn m.hbc, .slice m.hpa m.hpn m.hpc, .int .i64 m.sau, .int .i64 m.srd, .slice m.sda m.sdn m.sdc, .int .i64 m.cau, .int .i64 m.crd, .slice m.cba m.cbn m.cbc, .slice m.cpa m.cpn m.cpc, .slice m.cva m.cvn m.cvc, .int .i64 m.ro] 37)) := (Below.refl _ _).alloc (Nat.le_refl _) _
  rw [hk] at hc hq hB ⊢
  obtain ⟨hf0, hf1⟩ := hf
  obtain ⟨ht0, ht1⟩ := ht
  have Hn : Hid (m.btn = ss.length) := hn
  clear hn hk
  go_enter Try.func9, Try.ntmps9
  go_wp2_with (refine wpList_load_row rfl 37 _ rfl w.heap.size rfl 37 _ (0, 0) _ hq Try.underlying37 rfl sMsg ?_)
  refine (hc _ hB).mono ?_
  rintro e w1 ⟨rfl, hb1⟩
  have r1 := row_new hb1
  replace hb1 := below_alloc hb1
  have c0 : w1.cell? ⟨w.heap.size, 0, none⟩ = some (.int .i64 m.fr) := cells_at r1 0 _ rfl
  have c1 : w1.cell? ⟨w.heap.size, 1, none⟩ = some (.int .i64 m.tt) := cells_at r1 1 _ rfl
  have c2 : w1.cell? ⟨w.heap.size, 2, none⟩ = some (.int .i64 1) := cells_at r1 2 _ rfl
  have c3 : w1.cell? ⟨w.heap.size, 3, none⟩ = some (.int .i64 m.bau) := cells_at r1 3 _ rfl
  have c4 : w1.cell? ⟨w.heap.size, 4, none⟩ = some (.int .i64 m.bnu) := cells_at r1 4 _ rfl
  have c5 : w1.cell? ⟨w.heap.size, 5, none⟩ = some (.slice m.bta m.btn m.btc) := cells_at r1 5 _ rfl
  have hlt : w.heap.size < w1.heap.size := lt_of_heap r1
  have hlit := World.ownsRow_lit (base := w1.heap.size) (e := 5) (size := 1) w1 (ub [1, m.fr, m.tt]).toArray 3 (Nat.le_refl _) (by decide) rfl
  go_wp2_with fail
  refine (appendBatch_any w1.heap.size _ 3 [1, m.fr, m.tt] m.bau m.bnu m.bta m.btn m.btc ss _ ha hr Hn.out hl hz ?_ ?_ ?_ (le_alloc (Nat.le_refl _) _) (by decide)).mono ?_
  · exact (hs.below hb1).below ((Below.refl _ _).alloc (Nat.le_refl _) _)
  · intro sb so e
    have := hsb sb so e
    refine ⟨by rw [size_alloc]; omega, fun h => ?_⟩
    simp [Value.ownBlock] at h
    omega
  · exact hlit
  rintro e w2 ⟨v2, rfl, ho2, hG⟩
  have hb2 := hG.below (base := w1.heap.size) (le_alloc (Nat.le_refl _) _) (fun q e => by cases e; exact Nat.le_refl _)
  clear hG
  go_wp2_with fail
  go_ret2
  refine ⟨v2, rfl, ownsRow_base' ho2 hb1.size, ?_⟩
  exact (hb1.alloc hb1.size _).trans (hb2.mono hb1.size)
end Go.Proofs.Ythijfhbmkpfnkaa

namespace Go.Proofs.Ythijfhbmkpfnkaa
open Go.RowKit

set_option maxRecDepth 100000 in
set_option maxHeartbeats 1000000 in
theorem encode_offer_w (m : Msg) (bl pl : List Part) (w : World) (hk : m.ki = 2) (hf : 0 ≤ m.fr ∧ m.fr < 4) (ht : 0 ≤ m.tt ∧ m.tt < 4) (ha : 0 ≤ m.hau ∧ m.hau < 4) (hr : 0 ≤ m.hrd ∧ m.hrd ≤ 1048576) (hbn : m.hbn = bl.length) (hpn : m.hpn = pl.length) (hbl : bl.length ≤ 4) (hpl : pl.length ≤ 4) (hb32 : ∀ p ∈ bl, p.bs.length = 32) (hp32 : ∀ p ∈ pl, p.bs.length = 32) (hLb : ListAt w m.hba m.hbc bl) (hLp : ListAt w m.hpa m.hpc pl)
    (hc : ∀ w1, Below w.heap.size w w1 → Calls Try.prog 12 #[.agg #[.int .i64 m.fr, .int .i64 m.tt, .int .i64 m.ki, .int .i64 m.bau, .int .i64 m.bnu, .slice m.bta m.btn m.btc, .int .i64 m.hau, .int .i64 m.hrd, .slice m.hba m.hbn m.hbc, .slice m.hpa m.hpn m.hpc, .int .i64 m.sau, .int .i64 m.srd, .slice m.sda m.sdn m.sdc, .int .i64 m.cau, .int .i64 m.crd, .slice m.cba m.cbn m.cbc, .slice m.cpa m.cpn m.cpc, .slice m.cva m.cvn m.cvc, .int .i64 m.ro]] w1 fun e w' => e = .returned (.int .i64 0) ∧ Below w1.heap.size w1 w') :
    Calls Try.prog 9 #[.agg #[.int .i64 m.fr, .int .i64 m.tt, .int .i64 m.ki, .int .i64 m.bau, .int .i64 m.bnu, .slice m.bta m.btn m.btc, .int .i64 m.hau, .int .i64 m.hrd, .slice m.hba m.hbn m.hbc, .slice m.hpa m.hpn m.hpc, .int .i64 m.sau, .int .i64 m.srd, .slice m.sda m.sdn m.sdc, .int .i64 m.cau, .int .i64 m.crd, .slice m.cba m.cbn m.cbc, .slice m.cpa m.cpn m.cpc, .slice m.cva m.cvn m.cvc, .int .i64 m.ro]] w fun e w' => ∃ v, e = .returned (.tuple #[v, .int .i64 0]) ∧ w'.ownsRow w.heap.size 5 1 v (3 + (headB m.hau m.hrd bl pl).length) (ub ([2, m.fr, m.tt] ++ headB m.hau m.hrd bl pl)) ∧ Below w.heap.size w w' := by
  have hq := heap_alloc_new w (.cells #[.int .i64 m.fr, .int .i64 m.tt, .int .i64 m.ki, .int .i64 m.bau, .int .i64 m.bnu, .slice m.bta m.btn m.btc, .int .i64 m.hau, .int .i64 m.hrd, .slice m.hba m.hbn m.hbc, .slice m.hpa m.hpn m.hpc, .int .i64 m.sau, .int .i64 m.srd, .slice m.sda m.sdn m.sdc, .int .i64 m.cau, .int .i64 m.crd, .slice m.cba m.cbn m.cbc, .slice m.cpa m.cpn m.cpc, .slice m.cva m.cvn m.cvc, .int .i64 m.ro] 37)
  have hB : Below w.heap.size w (w.alloc (.cells #[.int .i64 m.fr, .int .i64 m.tt, .int .i64 m.ki, .int .i64 m.bau, .int .i64 m.bnu, .slice m.bta m.btn m.btc, .int .i64 m.hau, .int .i64 m.hrd, .slice m.hba m.hbn m.hbc, .slice m.hpa m.hpn m.hpc, .int .i64 m.sau, .int .i64 m.srd, .slice m.sda m.sdn m.sdc, .int .i64 m.cau, .int .i64 m.crd, .slice m.cba m.cbn m.cbc, .slice m.cpa m.cpn m.cpc, .slice m.cva m.cvn m.cvc, .int .i64 m.ro] 37)) := (Below.refl _ _).alloc (Nat.le_refl _) _
  rw [hk] at hc hq hB ⊢
  obtain ⟨hf0, hf1⟩ := hf
  obtain ⟨ht0, ht1⟩ := ht
  have Hn : Hid (m.hbn = bl.length) := hbn
  have Hp : Hid (m.hpn = pl.length) := hpn
  clear hbn hpn hk
  go_enter Try.func9, Try.ntmps9
  go_wp2_with (refine wpList_load_row rfl 37 _ rfl w.heap.size rfl 37 _ (0, 0) _ hq Try.underlying37 rfl sMsg ?_)
  refine (hc _ hB).mono ?_
  rintro e w1 ⟨rfl, hb1⟩
  have r1 := row_new hb1
  replace hb1 := below_alloc hb1
  have c0 : w1.cell? ⟨w.heap.size, 0, none⟩ = some (.int .i64 m.fr) := cells_at r1 0 _ rfl
  have c1 : w1.cell? ⟨w.heap.size, 1, none⟩ = some (.int .i64 m.tt) := cells_at r1 1 _ rfl
  have c2 : w1.cell? ⟨w.heap.size, 2, none⟩ = some (.int .i64 2) := cells_at r1 2 _ rfl
  have c6 : w1.cell? ⟨w.heap.size, 6, none⟩ = some (.int .i64 m.hau) := cells_at r1 6 _ rfl
  have c7 : w1.cell? ⟨w.heap.size, 7, none⟩ = some (.int .i64 m.hrd) := cells_at r1 7 _ rfl
  have c8 : w1.cell? ⟨w.heap.size, 8, none⟩ = some (.slice m.hba m.hbn m.hbc) := cells_at r1 8 _ rfl
  have c9 : w1.cell? ⟨w.heap.size, 9, none⟩ = some (.slice m.hpa m.hpn m.hpc) := cells_at r1 9 _ rfl
  have hlt : w.heap.size < w1.heap.size := lt_of_heap r1
  have hlit := World.ownsRow_lit (base := w1.heap.size) (e := 5) (size := 1) w1 (ub [2, m.fr, m.tt]).toArray 3 (Nat.le_refl _) (by decide) rfl
  have hA1 : Below w1.heap.size w1 (w1.alloc (.cells (ub [2, m.fr, m.tt]).toArray 5)) := (Below.refl _ _).alloc (Nat.le_refl _) _
  have oo : ∀ (ra : Option Addr) (rc : Nat) (qs : List Part), ListAt w ra rc qs → OffW (w1.alloc (.cells (ub [2, m.fr, m.tt]).toArray 5)) (.slice (some ⟨w1.heap.size, 0, none⟩) 3 3) ra qs := fun ra rc qs h =>
    offW_of_list (h.below hb1) (le_alloc (Nat.le_refl _) _) (fun sb hl e => by have e' : w1.heap.size = sb := (by simpa [Value.ownBlock] using e); omega)
  have hH := appendHeader_w w1.heap.size (.slice (some ⟨w1.heap.size, 0, none⟩) 3 3) 3 [2, m.fr, m.tt] m.hau m.hrd m.hba m.hbn m.hbc bl m.hpa m.hpn m.hpc pl _ ha hr Hn.out Hp.out hbl hpl hb32 hp32 ((hLb.below hb1).below hA1) (oo _ _ _ hLb) ((hLp.below hb1).below hA1) (oo _ _ _ hLp) hlit (le_alloc (Nat.le_refl _) _) (by decide)
  clear oo
  go_wp2_with fail
  refine hH.mono ?_
  rintro e w2 ⟨v2, rfl, ho2, hG⟩
  have hb2 := hG.below (base := w1.heap.size) (le_alloc (Nat.le_refl _) _) (fun q e => by cases e; exact Nat.le_refl _)
  clear hG hH
  go_wp2_with fail
  go_ret2
  refine ⟨v2, rfl, ownsRow_base' ho2 hb1.size, ?_⟩
  exact (hb1.alloc hb1.size _).trans (hb2.mono hb1.size)
set_option maxRecDepth 100000 in
theorem encode_offer (m : Msg) (bl pl : List Part) (w : World) (hk : m.ki = 2) (hf : 0 ≤ m.fr ∧ m.fr < 4) (ht : 0 ≤ m.tt ∧ m.tt < 4) (ha : 0 ≤ m.hau ∧ m.hau < 4) (hr : 0 ≤ m.hrd ∧ m.hrd ≤ 1048576) (hbn : m.hbn = bl.length) (hpn : m.hpn = pl.length) (hbl : bl.length ≤ 4) (hpl : pl.length ≤ 4) (hb32 : ∀ p ∈ bl, p.bs.length = 32) (hp32 : ∀ p ∈ pl, p.bs.length = 32) (hLb : ListAt w m.hba m.hbc bl) (hLp : ListAt w m.hpa m.hpc pl) (_hOb : Off w (.slice none 0 0) m.hba bl) (_hOp : Off w (.slice none 0 0) m.hpa pl)
    (hc : ∀ w1, Below w.heap.size w w1 → Calls Try.prog 12 #[.agg #[.int .i64 m.fr, .int .i64 m.tt, .int .i64 m.ki, .int .i64 m.bau, .int .i64 m.bnu, .slice m.bta m.btn m.btc, .int .i64 m.hau, .int .i64 m.hrd, .slice m.hba m.hbn m.hbc, .slice m.hpa m.hpn m.hpc, .int .i64 m.sau, .int .i64 m.srd, .slice m.sda m.sdn m.sdc, .int .i64 m.cau, .int .i64 m.crd, .slice m.cba m.cbn m.cbc, .slice m.cpa m.cpn m.cpc, .slice m.cva m.cvn m.cvc, .int .i64 m.ro]] w1 fun e w' => e = .returned (.int .i64 0) ∧ Below w1.heap.size w1 w') :
    Calls Try.prog 9 #[.agg #[.int .i64 m.fr, .int .i64 m.tt, .int .i64 m.ki, .int .i64 m.bau, .int .i64 m.bnu, .slice m.bta m.btn m.btc, .int .i64 m.hau, .int .i64 m.hrd, .slice m.hba m.hbn m.hbc, .slice m.hpa m.hpn m.hpc, .int .i64 m.sau, .int .i64 m.srd, .slice m.sda m.sdn m.sdc, .int .i64 m.cau, .int .i64 m.crd, .slice m.cba m.cbn m.cbc, .slice m.cpa m.cpn m.cpc, .slice m.cva m.cvn m.cvc, .int .i64 m.ro]] w fun e w' => ∃ v, e = .returned (.tuple #[v, .int .i64 0]) ∧ w'.ownsRow w.heap.size 5 1 v (3 + (headB m.hau m.hrd bl pl).length) (ub ([2, m.fr, m.tt] ++ headB m.hau m.hrd bl pl)) ∧ Below w.heap.size w w' :=
  encode_offer_w m bl pl w hk hf ht ha hr hbn hpn hbl hpl hb32 hp32 hLb hLp hc
end Go.Proofs.Ythijfhbmkpfnkaa

namespace Go.Proofs.Ythijfhbmkpfnkaa
open Go.RowKit

set_option maxRecDepth 100000 in
set_option maxHeartbeats 1000000 in
theorem appendSlot_any (base : Nat) (v : Value) (k : Nat) (bs : List Int) (au rd : Int) (sa : Option Addr) (n cap : Nat) (ds : List Int) (w : World) (ha : 0 ≤ au ∧ au < 4) (hr : 0 ≤ rd ∧ rd ≤ 1048576) (hn : n = ds.length) (hs : SliceAt w sa cap ds) (hne : ∀ sb so, sa = some ⟨sb, so, none⟩ → sb < w.heap.size ∧ v.ownBlock ≠ some sb)
    (ho : w.ownsRow base 5 1 v k (ub bs)) (hB : base ≤ w.heap.size) (hk : k ≤ 90000) (hn2 : n ≤ 4000) :
    Calls Try.prog 21 #[v, .agg #[.int .i64 au, .int .i64 rd, .slice sa n cap]] w fun e w' => ∃ v', e = .returned v' ∧ w'.ownsRow base 5 1 v' (k + 1 + 3 + n) (ub (bs ++ [au] ++ rd3 rd ++ ds)) ∧ Grew w v w' v' := by
  subst hn
  obtain ⟨i, hi, hz0, hz1, hz2⟩ := info_parts infoU8
  obtain ⟨ha0, ha1⟩ := ha
  have hvne : v.ownBlock ≠ some w.heap.size := fun e => by have := (ho.lt _ e).2; omega
  go_enter Try.func21, Try.ntmps21
  go_wp2_with (at_builtin; refine wpList_append_own_at _ rfl _ _ 30 rfl base 5 i (.int .u8 0) 1 1 Try.underlying30 hi hz0 hz1 hz2 rfl (by decide) _ k _ rfl (World.ownsRow.alloc (World.ownsRow.alloc ho _) _) ⟨w.heap.size + 1, 0, none⟩ 1 1 [.int .u8 au] rfl rfl (by have := cells_new (w.alloc (.cells #[.int .i64 au, .int .i64 rd, .slice sa ds.length cap] 32)) [.int .u8 au] 5; rw [size_alloc] at this; exact this) (u8_one [_]) (by unfold maxLen; omega) (by omega) (le_alloc (le_alloc hB _) _) ?_; intro v1 w1 ho1 hg1 _ hat; have G1 := Grew.of hg1 hat; have r1 := G1.row (heap_alloc2_old w _ _) hvne; have c1 : w1.cell? ⟨w.heap.size, 1, none⟩ = some (.int .i64 rd) := cells_at r1 1 _ rfl)
  have ho1' : w1.ownsRow base 5 1 v1 (k + 1) (ub (bs ++ [au])) := by simpa [ub] using ho1
  have hw1 : w.heap.size < w1.heap.size := lt_of_heap r1
  have hv1ne : v1.ownBlock ≠ some w.heap.size := fun e => by
    rcases G1.fresh _ e with g | g
    · exact hvne g
    · rw [size_alloc, size_alloc] at g; omega
  have hs1 : SliceAt w1 sa cap ds := G1.slice (hs.below (((Below.refl _ _).alloc (Nat.le_refl _) _).alloc (by simp) _)) (fun sb so e => (hne sb so e).2)
  have hsne1 : ∀ sb so, sa = some ⟨sb, so, none⟩ → v1.ownBlock ≠ some sb := fun sb so e h => by
    rcases G1.fresh _ h with g | g
    · exact (hne sb so e).2 g
    · have := (hne sb so e).1; rw [size_alloc, size_alloc] at g; omega
  have G0 := G1.alloc.alloc
  clear ho1 hg1 hat G1
  refine (appendRound_any base v1 (k + 1) _ rd _ hr ho1' (Nat.le_trans hB G0.grown.size) (by omega)).mono ?_
  rintro e w2 ⟨v2, rfl, ho2, G2⟩
  have r2 := G2.row r1 hv1ne
  have c2 : w2.cell? ⟨w.heap.size, 2, none⟩ = some (.slice sa ds.length cap) := cells_at r2 2 _ rfl
  have hs2 := G2.slice hs1 hsne1
  have G02 := G0.trans G2
  clear r1 c1
  go_wp2_with (at_builtin; refine wpList_append_part_at rfl _ _ rfl base v2 (k + 1 + 3) _ rfl ho2 sa ds.length cap ds rfl rfl hs2 (by omega) (Nat.le_trans hB G02.grown.size) ?_; intro v3 w3 ho3 G3)
  go_ret
  exact ⟨v3, rfl, ho3, G02.trans G3⟩
end Go.Proofs.Ythijfhbmkpfnkaa

namespace Go.Proofs.Ythijfhbmkpfnkaa
open Go.RowKit

set_option maxRecDepth 100000 in
set_option maxHeartbeats 1000000 in
theorem encode_vote (m : Msg) (ds : List Int) (w : World) (hk : m.ki = 3) (hf : 0 ≤ m.fr ∧ m.fr < 4) (ht : 0 ≤ m.tt ∧ m.tt < 4) (ha : 0 ≤ m.sau ∧ m.sau < 4) (hr : 0 ≤ m.srd ∧ m.srd ≤ 1048576) (hn : m.sdn = ds.length) (hn2 : m.sdn ≤ 4000) (hs : SliceAt w m.sda m.sdc ds) (hsb : ∀ sb so, m.sda = some ⟨sb, so, none⟩ → sb < w.heap.size)
    (hc : ∀ w1, Below w.heap.size w w1 → Calls Try.prog 12 #[.agg #[.int .i64 m.fr, .int .i64 m.tt, .int .i64 m.ki, .int .i64 m.bau, .int .i64 m.bnu, .slice m.bta m.btn m.btc, .int .i64 m.hau, .int .i64 m.hrd, .slice m.hba m.hbn m.hbc, .slice m.hpa m.hpn m.hpc, .int .i64 m.sau, .int .i64 m.srd, .slice m.sda m.sdn m.sdc, .int .i64 m.cau, .int .i64 m.crd, .slice m.cba m.cbn m.cbc, .slice m.cpa m.cpn m.cpc, .slice m.cva m.cvn m.cvc, .int .i64 m.ro]] w1 fun e w' => e = .returned (.int .i64 0) ∧ Below w1.heap.size w1 w') :
    Calls Try.prog 9 #[.agg #[.int .i64 m.fr, .int .i64 m.tt, .int .i64 m.ki, .int .i64 m.bau, .int .i64 m.bnu, .slice m.bta m.btn m.btc, .int .i64 m.hau, .int .i64 m.hrd, .slice m.hba m.hbn m.hbc, .slice m.hpa m.hpn m.hpc, .int .i64 m.sau, .int .i64 m.srd, .slice m.sda m.sdn m.sdc, .int .i64 m.cau, .int .i64 m.crd, .slice m.cba m.cbn m.cbc, .slice m.cpa m.cpn m.cpc, .slice m.cva m.cvn m.cvc, .int .i64 m.ro]] w fun e w' => ∃ v, e = .returned (.tuple #[v, .int .i64 0]) ∧ w'.ownsRow w.heap.size 5 1 v (3 + 1 + 3 + m.sdn) (ub ([3, m.fr, m.tt] ++ [m.sau] ++ rd3 m.srd ++ ds)) ∧ Below w.heap.size w w' := by
  rw [hk] at hc ⊢
  obtain ⟨hf0, hf1⟩ := hf
  obtain ⟨ht0, ht1⟩ := ht
  have hq := heap_alloc_new w (.cells #[.int .i64 m.fr, .int .i64 m.tt, .int .i64 3, .int .i64 m.bau, .int .i64 m.bnu, .slice m.bta m.btn m.btc, .int .i64 m.hau, .int .i64 m.hrd, .slice m.hba m.hbn m.hbc, .slice m.hpa m.hpn m.hpc, .int .i64 m.sau, .int .i64 m.srd, .slice m.sda m.sdn m.sdc, .int .i64 m.cau, .int .i64 m.crd, .slice m.cba m.cbn m.cbc, .slice m.cpa m.cpn m.cpc, .slice m.cva m.cvn m.cvc, .int .i64 m.ro] 37)
  have hB : Below w.heap.size w (w.alloc (.cells #[.int .i64 m.fr, .int .i64 m.tt, .int .i64 3, .int .i64 m.bau, .int .i64 m.bnu, .slice m.bta m.btn m.btc, .int .i64 m.hau, .int .i64 m.hrd, .slice m.hba m.hbn m.hbc, .slice m.hpa m.hpn m.hpc, .int .i64 m.sau, .int .i64 m.srd, .slice m.sda m.sdn m.sdc, .int .i64 m.cau, .int .i64 m.crd, .slice m.cba m.cbn m.cbc, .slice m.cpa m.cpn m.cpc, .slice m.cva m.cvn m.cvc, .int .i64 m.ro] 37)) := (Below.refl _ _).alloc (Nat.le_refl _) _
  have Hn : Hid (m.sdn = ds.length) := hn
  clear hn
  go_enter Try.func9, Try.ntmps9
  go_wp2_with (refine wpList_load_row rfl 37 _ rfl w.heap.size rfl 37 #[.int .i64 m.fr, .int .i64 m.tt, .int .i64 3, .int .i64 m.bau, .int .i64 m.bnu, .slice m.bta m.btn m.btc, .int .i64 m.hau, .int .i64 m.hrd, .slice m.hba m.hbn m.hbc, .slice m.hpa m.hpn m.hpc, .int .i64 m.sau, .int .i64 m.srd, .slice m.sda m.sdn m.sdc, .int .i64 m.cau, .int .i64 m.crd, .slice m.cba m.cbn m.cbc, .slice m.cpa m.cpn m.cpc, .slice m.cva m.cvn m.cvc, .int .i64 m.ro] (0, 0) _ hq Try.underlying37 rfl sMsg ?_)
  refine (hc _ hB).mono ?_
  rintro e w1 ⟨rfl, hb1⟩
  have r1 := row_new hb1
  replace hb1 := below_alloc hb1
  have c0 : w1.cell? ⟨w.heap.size, 0, none⟩ = some (.int .i64 m.fr) := cells_at r1 0 _ rfl
  have c1 : w1.cell? ⟨w.heap.size, 1, none⟩ = some (.int .i64 m.tt) := cells_at r1 1 _ rfl
  have c2 : w1.cell? ⟨w.heap.size, 2, none⟩ = some (.int .i64 3) := cells_at r1 2 _ rfl
  have c10 : w1.cell? ⟨w.heap.size, 10, none⟩ = some (.int .i64 m.sau) := cells_at r1 10 _ rfl
  have c11 : w1.cell? ⟨w.heap.size, 11, none⟩ = some (.int .i64 m.srd) := cells_at r1 11 _ rfl
  have c12 : w1.cell? ⟨w.heap.size, 12, none⟩ = some (.slice m.sda m.sdn m.sdc) := cells_at r1 12 _ rfl
  have hlt : w.heap.size < w1.heap.size := lt_of_heap r1
  have hlit := World.ownsRow_lit (base := w1.heap.size) (e := 5) (size := 1) w1 (ub [3, m.fr, m.tt]).toArray 3 (Nat.le_refl _) (by decide) rfl
  go_wp2_with fail
  refine (appendSlot_any w1.heap.size _ 3 [3, m.fr, m.tt] m.sau m.srd m.sda m.sdn m.sdc ds _ ha hr Hn.out ?_ ?_ ?_ (le_alloc (Nat.le_refl _) _) (by decide) hn2).mono ?_
  · exact (hs.below hb1).below ((Below.refl _ _).alloc (Nat.le_refl _) _)
  · intro sb so e
    have := hsb sb so e
    refine ⟨by rw [size_alloc]; omega, fun h => ?_⟩
    simp [Value.ownBlock] at h
    omega
  · exact hlit
  rintro e w2 ⟨v2, rfl, ho2, hG⟩
  have hb2 := hG.below (base := w1.heap.size) (le_alloc (Nat.le_refl _) _) (fun q e => by cases e; exact Nat.le_refl _)
  clear hG
  go_wp2_with fail
  go_ret2
  refine ⟨v2, rfl, ownsRow_base' ho2 hb1.size, ?_⟩
  exact (hb1.alloc hb1.size _).trans (hb2.mono hb1.size)
end Go.Proofs.Ythijfhbmkpfnkaa
