/- A message's bytes are bytes; what is torn is told to be short. -/
import Derived.Test.YthijfhbmkpfnkaaPar
import Derived.Test.YthijfhbmkpfnkaaRdE
import Derived.Test.YthijfhbmkpfnkaaRdY
import Derived.Test.YthijfhbmkpfnkaaBunF
import Derived.Test.YthijfhbmkpfnkaaHeadK
namespace Go.Proofs.Ythijfhbmkpfnkaa
open Go.RowKit

set_option maxRecDepth 100000 in
theorem U8s.app {a b : List Int} (ha : U8s a) (hb : U8s b) : U8s (a ++ b) := fun x hx => (List.mem_append.1 hx).elim (ha x) (hb x)
set_option maxRecDepth 100000 in
theorem U8s.cons {a : Int} {b : List Int} (ha : 0 ≤ a ∧ a ≤ 255) (hb : U8s b) : U8s (a :: b) := fun x hx => by
  rcases List.mem_cons.1 hx with h | h
  · rw [h]; exact ha
  · exact hb x h
set_option maxRecDepth 100000 in
theorem U8s.nil : U8s [] := fun x hx => by cases hx
set_option maxRecDepth 100000 in
theorem U8s.take {a : List Int} (k : Nat) (ha : U8s a) : U8s (a.take k) := fun x hx => ha x (List.mem_of_mem_take hx)
set_option maxRecDepth 100000 in
theorem u8_rd3 {n : Int} (h : 1 ≤ n ∧ n ≤ 1048576) : U8s (rd3 n) := U8s.cons (by omega) (U8s.cons (by omega) (U8s.cons (by omega) U8s.nil))
set_option maxRecDepth 100000 in
theorem u8_flat (qs : List Part) (h : ∀ p ∈ qs, ∀ x ∈ p.bs, 0 ≤ x ∧ x ≤ 255) : U8s (flatB qs) := by
  induction qs with
  | nil => exact U8s.nil
  | cons p qs ih => exact U8s.app (h p (by simp)) (ih fun q hq => h q (by simp [hq]))
set_option maxRecDepth 100000 in
theorem u8_digs (qs : List Part) (hl : qs.length ≤ 255) (h : ∀ p ∈ qs, ∀ x ∈ p.bs, 0 ≤ x ∧ x ≤ 255) : U8s (digsB qs) := U8s.cons (by omega) (u8_flat qs h)
set_option maxRecDepth 100000 in
theorem u8_tb (s : ByteArray) : U8s (tb s) := fun x hx => by
  obtain ⟨b, _, rfl⟩ := List.mem_map.1 hx
  have := b.toNat_lt
  omega
set_option maxRecDepth 100000 in
theorem u8_txs (ss : List ByteArray) (h : ∀ s ∈ ss, s.size ≤ 20) : U8s (txsB ss) := by
  induction ss with
  | nil => exact U8s.nil
  | cons s ss ih =>
    have := h s (by simp)
    exact U8s.cons (by omega) (U8s.app (u8_tb s) (ih fun q hq => h q (by simp [hq])))
set_option maxRecDepth 100000 in
theorem u8_head {au rd : Int} {bl pl : List Part} (h : headerF au rd bl pl = 0) (hb : ∀ p ∈ bl, ∀ x ∈ p.bs, 0 ≤ x ∧ x ≤ 255) (hp : ∀ p ∈ pl, ∀ x ∈ p.bs, 0 ≤ x ∧ x ≤ 255) : U8s (headB au rd bl pl) := by
  obtain ⟨h1, h2, h3, h4, _, _⟩ := headerF_ok h
  exact U8s.app (U8s.app (U8s.app (U8s.cons (by omega) U8s.nil) (u8_rd3 h2)) (u8_digs bl (by omega) hb)) (u8_digs pl (by omega) hp)
set_option maxRecDepth 100000 in
/-- A message's bytes are bytes. -/
theorem u8_msg {x : MV} (h : checkF x.m x.car = 0) (hu : U8M x.bl x.pl x.cbl x.cpl x.ds) : U8s x.bytes := by
  obtain ⟨hf, ht, hc, _⟩ := checkF_ok h
  have hc' : carriedF x.m x.ss x.bl x.pl x.cbl x.cpl x.vl = 0 := hc
  have hk := carriedF_kind hc'
  refine U8s.app (U8s.cons (by omega) (U8s.cons (by omega) (U8s.cons (by omega) U8s.nil))) ?_
  rcases hk with k | k | k | k | k
  · rw [carried1 k] at hc'
    rw [bodyB1 k]
    obtain ⟨h1, h2, h3, h4⟩ := batchF_ok hc'
    exact U8s.app (U8s.app (U8s.app (U8s.cons (by omega) U8s.nil) (u8_rd3 h2)) (U8s.cons (by omega) U8s.nil)) (u8_txs _ fun s hs => (h4 s hs).2)
  · rw [carried2 k] at hc'
    rw [bodyB2 k]
    exact u8_head hc' hu.hb hu.hp
  · rw [carried3 k] at hc'
    rw [bodyB3 k]
    obtain ⟨h1, h2, _⟩ := slotF_ok hc'
    exact U8s.app (U8s.app (U8s.cons (by omega) U8s.nil) (u8_rd3 h2)) hu.sd
  · rw [carried4 k] at hc'
    rw [bodyB4 k]
    obtain ⟨h1, h2, h3, h4⟩ := certF_ok hc'
    exact U8s.app (U8s.app (u8_head h1 hu.cb hu.cp) (U8s.cons (by omega) U8s.nil)) (fun y hy => by have := h4 y hy; omega)
  · rw [carried5 k] at hc'
    rw [bodyB5 k]
    split at hc'
    · rename_i h9
      exact u8_rd3 h9
    · cases hc'
set_option maxRecDepth 100000 in
theorem msg_len {w : World} {x : MV} (hM : MAt w x) (h : checkF x.m x.car = 0) : 3 < x.bytes.length ∧ x.bytes.length ≤ 323 := by
  obtain ⟨_, _, hc, _⟩ := checkF_ok h
  have hc' : carriedF x.m x.ss x.bl x.pl x.cbl x.cpl x.vl = 0 := hc
  have hl := bodyB_le (ds := x.ds) hM.dn hc'
  have e : x.bytes.length = 3 + (bodyB x.m x.ss x.bl x.pl x.cbl x.cpl x.ds x.vl).length := by simp [MV.bytes, msgB]; omega
  have hp : 0 < (bodyB x.m x.ss x.bl x.pl x.cbl x.cpl x.ds x.vl).length := by
    rcases carriedF_kind hc' with k | k | k | k | k
    · rw [bodyB1 k]; simp [batchB]
    · rw [bodyB2 k]; simp [headB]
    · rw [bodyB3 k]; simp
    · rw [bodyB4 k]; simp [certB]; omega
    · rw [bodyB5 k]; simp [rd3]
  omega
set_option maxRecDepth 100000 in
/-- What is torn is told to be short. -/
theorem torn_read {w : World} {x : MV} (hM : MAt w x) (h : checkF x.m x.car = 0) (K : Nat) (hK : K < x.bytes.length) : readF (x.bytes.take K) = 5 := by
  obtain ⟨_, hlen⟩ := msg_len hM h
  obtain ⟨_, _, hc, he⟩ := checkF_ok h
  have hc' : carriedF x.m x.ss x.bl x.pl x.cbl x.cpl x.vl = 0 := hc
  have hk := carriedF_kind hc'
  have hS : mS (x.bytes, false) = ([], false) := by
    have := (parse_back x [] hM hc he).2
    rw [List.append_nil] at this
    exact this
  have hT : (mS (x.bytes.take K, false)).2 = true := by
    refine mS_torn (q := x.bytes.drop K) (fun e => ?_) ?_
    · have := congrArg List.length e
      rw [List.length_drop, List.length_nil] at this
      omega
    · rw [List.take_append_drop]; exact hS
  have hL : (x.bytes.take K).length ≤ 4000 := by rw [List.length_take]; omega
  rw [readF, if_neg (by omega)]
  by_cases hn : x.bytes.take K = []
  · rw [if_pos hn]
  · rw [if_neg hn]
    have hg : (x.bytes.take K).getD 0 0 = x.m.ki := by
      cases K with
      | zero => exact absurd (List.take_zero) hn
      | succ K => rfl
    rw [hg, if_neg (by omega), if_pos hT]
set_option maxRecDepth 100000 in
theorem dec_torn {w w' : World} {e : Ending} {bs : List Int} (h : DecIs w w' e bs) (hF : readF bs = 5) : e = .returned (.tuple #[.agg #[.int .i64 0, .int .i64 0, .int .i64 0, .int .i64 0, .int .i64 0, .slice none 0 0, .int .i64 0, .int .i64 0, .slice none 0 0, .slice none 0 0, .int .i64 0, .int .i64 0, .slice none 0 0, .int .i64 0, .int .i64 0, .slice none 0 0, .slice none 0 0, .slice none 0 0, .int .i64 0], .int .i64 5]) ∧ Below w.heap.size w w' := by
  rcases h.out with ⟨_, he⟩ | ⟨h0, _⟩
  · rw [hF] at he
    exact ⟨he, h.below⟩
  · rw [hF] at h0; cases h0
end Go.Proofs.Ythijfhbmkpfnkaa
