/- What Decode gives of a message's bytes, and of these with a byte more. -/
import Derived.Test.YthijfhbmkpfnkaaTorn
import Derived.Test.YthijfhbmkpfnkaaOwnL
namespace Go.Proofs.Ythijfhbmkpfnkaa
open Go.RowKit

set_option maxRecDepth 100000 in
theorem bsAt_c {ps qs : List Part} (h : Same ps qs) (k : Nat) : (partAt ps k).bs = (partAt qs k).bs := by
  have hk : (ps.map (·.bs))[k]? = (qs.map (·.bs))[k]? := by rw [h]
  simp only [List.getElem?_map] at hk
  simp only [partAt, List.getD]
  cases h1 : ps[k]? <;> cases h2 : qs[k]? <;> simp_all
set_option maxRecDepth 100000 in
theorem digTo1_c {ps qs : List Part} (h : Same ps qs) (k : Nat) : digTo1 ps k = digTo1 qs k := by
  induction k with
  | zero => rfl
  | succ k ih =>
    have e1 : digAt ps k = digAt qs k := by
      have e2 : twice ps k = twice qs k := by
        simp only [twice, bsAt_c h]
      rw [digAt, digAt, e2, bsAt_c h k]
    rw [digTo1, digTo1, ih, e1]
set_option maxRecDepth 100000 in
theorem digF_c {ps qs : List Part} (h : Same ps qs) : digF ps = digF qs := by
  rw [digF, digF, h.length, digTo1_c h]
set_option maxRecDepth 100000 in
theorem headerF_c {au rd : Int} {bl pl bl' pl' : List Part} (h1 : Same bl bl') (h2 : Same pl pl') : headerF au rd bl pl = headerF au rd bl' pl' := by
  rw [headerF, headerF, digF_c h1, digF_c h2, h1.length, h2.length]
set_option maxRecDepth 100000 in
theorem certF_c {au rd : Int} {bl pl bl' pl' : List Part} {vl : List Int} (h1 : Same bl bl') (h2 : Same pl pl') : certF au rd bl pl vl = certF au rd bl' pl' vl := by
  rw [certF, certF, headerF_c h1 h2]
set_option maxRecDepth 100000 in
set_option maxHeartbeats 1000000 in
/-- What is told of a message hangs on what it says. -/
theorem check_c {w w' : World} {x y : MV} (hx : MAt w x) (hy : MAt w' y) (h : y.c = x.c) : checkF y.m y.car = checkF x.m x.car := by
  simp only [MV.c, MC.mk.injEq] at h
  obtain ⟨e1, e2, e3, e4, e5, e6, e7, e8, e9, e10, e11, e12, e13, e14, e15, e16, e17, e18, e19⟩ := h
  have n1 : y.m.btn = x.m.btn := by rw [hy.at'.e1, hx.at'.e1, e6]
  have n2 : y.m.hbn = x.m.hbn := by rw [hy.at'.e2, hx.at'.e2]; exact Same.length e9
  have n3 : y.m.hpn = x.m.hpn := by rw [hy.at'.e3, hx.at'.e3]; exact Same.length e10
  have n4 : y.m.cbn = x.m.cbn := by rw [hy.at'.e4, hx.at'.e4]; exact Same.length e16
  have n5 : y.m.cpn = x.m.cpn := by rw [hy.at'.e5, hx.at'.e5]; exact Same.length e17
  have n6 : y.m.cvn = x.m.cvn := by rw [hy.at'.e6, hx.at'.e6, e18]
  have n7 : y.m.sdn = x.m.sdn := by rw [hy.dn, hx.dn, e13]
  have hH : headerF y.m.hau y.m.hrd y.bl y.pl = headerF x.m.hau x.m.hrd x.bl x.pl := by rw [e7, e8]; exact headerF_c e9 e10
  have hK : certF y.m.cau y.m.crd y.cbl y.cpl y.vl = certF x.m.cau x.m.crd x.cbl x.cpl x.vl := by rw [e14, e15, e18]; exact certF_c e16 e17
  have c1 : y.car = x.car := by
    show carriedF y.m y.ss y.bl y.pl y.cbl y.cpl y.vl = carriedF x.m x.ss x.bl x.pl x.cbl x.cpl x.vl
    rw [carriedF, carriedF, hH, hK, e3, e4, e5, e6, e11, e12, n7, e19]
  have hm : msgEmpty (strip y.m) = msgEmpty (strip x.m) := by
    rw [strip, strip, e3]
    by_cases k1 : x.m.ki = 1
    · rw [if_pos k1, if_pos k1]
      simp only [msgEmpty, e7, e8, e11, e12, e14, e15, e19, n2, n3, n4, n5, n6, n7]
    · rw [if_neg k1, if_neg k1]
      by_cases k2 : x.m.ki = 2
      · rw [if_pos k2, if_pos k2]
        simp only [msgEmpty, e4, e5, e11, e12, e14, e15, e19, n1, n4, n5, n6, n7]
      · rw [if_neg k2, if_neg k2]
        by_cases k3 : x.m.ki = 3
        · rw [if_pos k3, if_pos k3]
          simp only [msgEmpty, e4, e5, e7, e8, e14, e15, e19, n1, n2, n3, n4, n5, n6]
        · rw [if_neg k3, if_neg k3]
          by_cases k4 : x.m.ki = 4
          · rw [if_pos k4, if_pos k4]
            simp only [msgEmpty, e4, e5, e7, e8, e11, e12, e19, n1, n2, n3, n7]
          · rw [if_neg k4, if_neg k4]
            simp only [msgEmpty, e4, e5, e7, e8, e11, e12, e14, e15, n1, n2, n3, n4, n5, n6, n7]
  rw [checkF, checkF, e1, e2, c1, hm]
set_option maxRecDepth 100000 in
theorem msg_first {x : MV} (hC : checkF x.m x.car = 0) (r : List Int) : x.bytes ++ r ≠ [] ∧ (x.bytes ++ r).getD 0 0 = x.m.ki ∧ 1 ≤ x.m.ki ∧ x.m.ki ≤ 5 := by
  obtain ⟨_, _, hc, _⟩ := checkF_ok hC
  have hc' : carriedF x.m x.ss x.bl x.pl x.cbl x.cpl x.vl = 0 := hc
  have hk := carriedF_kind hc'
  have e : x.bytes ++ r = x.m.ki :: (x.m.fr :: (x.m.tt :: (bodyB x.m x.ss x.bl x.pl x.cbl x.cpl x.ds x.vl ++ r))) := by simp [MV.bytes, msgB]
  rw [e]
  exact ⟨by simp, rfl, by omega, by omega⟩
set_option maxRecDepth 100000 in
/-- A message is decoded as it was encoded. -/
theorem dec_back {w0 w w' : World} {e : Ending} {x : MV} (hM : MAt w0 x) (hC : checkF x.m x.car = 0) (h : DecIs w w' e x.bytes) :
    ∃ y : MV, y.c = x.c ∧ MAt w' y ∧ HasM (fun q => w.heap.size ≤ q) y ∧ e = .returned (.tuple #[.agg #[.int .i64 y.m.fr, .int .i64 y.m.tt, .int .i64 y.m.ki, .int .i64 y.m.bau, .int .i64 y.m.bnu, .slice y.m.bta y.m.btn y.m.btc, .int .i64 y.m.hau, .int .i64 y.m.hrd, .slice y.m.hba y.m.hbn y.m.hbc, .slice y.m.hpa y.m.hpn y.m.hpc, .int .i64 y.m.sau, .int .i64 y.m.srd, .slice y.m.sda y.m.sdn y.m.sdc, .int .i64 y.m.cau, .int .i64 y.m.crd, .slice y.m.cba y.m.cbn y.m.cbc, .slice y.m.cpa y.m.cpn y.m.cpc, .slice y.m.cva y.m.cvn y.m.cvc, .int .i64 y.m.ro], .int .i64 0]) ∧ Below w.heap.size w w' := by
  obtain ⟨_, _, hc, he⟩ := checkF_ok hC
  obtain ⟨_, hlen⟩ := msg_len hM hC
  obtain ⟨f1, f2, f3, f4⟩ := msg_first hC []
  obtain ⟨p1, p2⟩ := parse_back x [] hM hc he
  rw [List.append_nil] at f1 f2 p1 p2
  have hR : readF x.bytes = 0 := by
    rw [readF, if_neg (by omega), if_neg f1, f2, if_neg (by omega), p2, if_neg (by simp), if_neg (by simp)]
  rcases h.out with ⟨h0, _⟩ | ⟨_, y, hy, hA, hH, hx⟩
  · exact absurd hR h0
  · have hyc : y.c = x.c := hy.trans p1
    have hk := (check_c hM hA hyc).trans hC
    rcases hx with ⟨_, he⟩ | ⟨h9, _⟩
    · exact ⟨y, hyc, hA, hH, he, h.below⟩
    · exact absurd hk h9
set_option maxRecDepth 100000 in
/-- With a byte more it is none. -/
theorem dec_more {w0 w w' : World} {e : Ending} {x : MV} {t : Int} (hM : MAt w0 x) (hC : checkF x.m x.car = 0) (h : DecIs w w' e (x.bytes ++ [t])) : e = .returned (.tuple #[.agg #[.int .i64 0, .int .i64 0, .int .i64 0, .int .i64 0, .int .i64 0, .slice none 0 0, .int .i64 0, .int .i64 0, .slice none 0 0, .slice none 0 0, .int .i64 0, .int .i64 0, .slice none 0 0, .int .i64 0, .int .i64 0, .slice none 0 0, .slice none 0 0, .slice none 0 0, .int .i64 0], .int .i64 4]) ∧ Below w.heap.size w w' := by
  obtain ⟨_, _, hc, he⟩ := checkF_ok hC
  obtain ⟨_, hlen⟩ := msg_len hM hC
  obtain ⟨f1, f2, f3, f4⟩ := msg_first hC [t]
  obtain ⟨p1, p2⟩ := parse_back x [t] hM hc he
  have hl : (x.bytes ++ [t]).length ≤ 4000 := by rw [List.length_append, List.length_singleton]; omega
  have hR : readF (x.bytes ++ [t]) = 4 := by
    rw [readF, if_neg (by omega), if_neg f1, f2, if_neg (by omega), p2, if_neg (by simp), if_pos (by simp)]
  rcases h.out with ⟨_, he⟩ | ⟨h0, _⟩
  · rw [hR] at he
    exact ⟨he, h.below⟩
  · rw [hR] at h0; cases h0
end Go.Proofs.Ythijfhbmkpfnkaa
