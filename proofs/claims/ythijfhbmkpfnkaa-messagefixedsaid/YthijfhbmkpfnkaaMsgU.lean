/- Messages of raw numbers: made, encoded, and compared by sheaveskeep.sameMessage. -/
import Derived.Test.YthijfhbmkpfnkaaDecM
import Derived.Test.YthijfhbmkpfnkaaEncAny
import Derived.Test.YthijfhbmkpfnkaaKSameM
namespace Go.Proofs.Ythijfhbmkpfnkaa
open Go.RowKit

/-- A message that may be, as it lies there. -/
structure GoodM (w : World) (x : MV) : Prop where
  lies : MAt w x
  ok : checkF x.m x.car = 0
  u8 : U8M x.bl x.pl x.cbl x.cpl x.ds
set_option maxRecDepth 100000 in
theorem GoodM.below {w w' : World} {x : MV} (h : GoodM w x) (hb : Below w.heap.size w w') : GoodM w' x := ⟨h.lies.below hb, h.ok, h.u8⟩
set_option maxRecDepth 100000 in
theorem GoodM.bytes {w : World} {x : MV} (h : GoodM w x) : U8s x.bytes := u8_msg h.ok h.u8
set_option maxRecDepth 100000 in
theorem checkF_zeroU {m : Msg} {e : Int} (h1 : 0 ≤ m.fr ∧ m.fr < 4) (h2 : 0 ≤ m.tt ∧ m.tt < 4) (he : e = 0) (h3 : msgEmpty (strip m) = true) : checkF m e = 0 := by
  rw [checkF, if_neg (by omega), if_neg (by simp [he]), if_pos h3]
set_option maxRecDepth 100000 in
theorem raw_msgU (ki ra rb rc : Int) (sa : Option Addr) (cap : Nat) (ss : List ByteArray) (w : World) (h1 : I64 ki) (h2 : I64 ra) (h3 : I64 rb) (h4 : I64 rc) (h5 : TextsAt w sa cap ss) :
    Calls Try.prog 8 #[.agg #[.int .i64 ki, .int .i64 ra, .int .i64 rb, .int .i64 rc, .slice sa ss.length cap]] w fun e w' => ∃ x : MV, e = .returned (.agg #[.int .i64 x.m.fr, .int .i64 x.m.tt, .int .i64 x.m.ki, .int .i64 x.m.bau, .int .i64 x.m.bnu, .slice x.m.bta x.m.btn x.m.btc, .int .i64 x.m.hau, .int .i64 x.m.hrd, .slice x.m.hba x.m.hbn x.m.hbc, .slice x.m.hpa x.m.hpn x.m.hpc, .int .i64 x.m.sau, .int .i64 x.m.srd, .slice x.m.sda x.m.sdn x.m.sdc, .int .i64 x.m.cau, .int .i64 x.m.crd, .slice x.m.cba x.m.cbn x.m.cbc, .slice x.m.cpa x.m.cpn x.m.cpc, .slice x.m.cva x.m.cvn x.m.cvc, .int .i64 x.m.ro]) ∧ GoodM w' x ∧ NewM w.heap.size x.m x.bl x.pl x.cbl x.cpl ∧ Below w.heap.size w w' := by
  obtain ⟨pf0, pf1⟩ := pk_bounds rc 4 (by decide)
  obtain ⟨pt0, pt1⟩ := pk_bounds rb 4 (by decide)
  refine (message_rawU ki ra rb rc sa cap ss w h1 h2 h3 h4 h5).mono ?_
  rintro e w' ⟨m, s, bl, pl, cbl, cpl, vl, he, H, hfr, htt, hcar, hemp, hb, -, -, -, -, -, -, ds, hd, hdn, hN, hU⟩
  have hC : checkF m (carriedF m s bl pl cbl cpl vl) = 0 := checkF_zeroU (by omega) (by omega) hcar hemp
  exact ⟨⟨m, s, bl, pl, cbl, cpl, ds, vl⟩, he, ⟨⟨H, hd, hdn⟩, hC, hU⟩, hN, hb⟩
set_option maxRecDepth 100000 in
theorem encode_mvU {x : MV} {w : World} (hM : MAt w x) (hC : checkF x.m x.car = 0) :
    Calls Try.prog 9 #[.agg #[.int .i64 x.m.fr, .int .i64 x.m.tt, .int .i64 x.m.ki, .int .i64 x.m.bau, .int .i64 x.m.bnu, .slice x.m.bta x.m.btn x.m.btc, .int .i64 x.m.hau, .int .i64 x.m.hrd, .slice x.m.hba x.m.hbn x.m.hbc, .slice x.m.hpa x.m.hpn x.m.hpc, .int .i64 x.m.sau, .int .i64 x.m.srd, .slice x.m.sda x.m.sdn x.m.sdc, .int .i64 x.m.cau, .int .i64 x.m.crd, .slice x.m.cba x.m.cbn x.m.cbc, .slice x.m.cpa x.m.cpn x.m.cpc, .slice x.m.cva x.m.cvn x.m.cvc, .int .i64 x.m.ro]] w fun e w' => ∃ a c, e = .returned (.tuple #[.slice a x.bytes.length c, .int .i64 0]) ∧ SliceAt w' a c x.bytes ∧ Below w.heap.size w w' := by
  have h := encode_any x.m x.ss x.bl x.pl x.cbl x.cpl x.ds x.vl w hM.at' hM.dig hM.dn
  have hC' : checkF x.m (carriedF x.m x.ss x.bl x.pl x.cbl x.cpl x.vl) = 0 := hC
  rw [hC'] at h
  refine h.mono ?_
  rintro e w' ⟨v, he, ho, hb⟩
  have ho' : w'.ownsRow w.heap.size 5 1 v x.bytes.length (ub x.bytes) := ho
  obtain ⟨a, c, hv, -, hs⟩ := owns_form ho'
  subst hv
  exact ⟨a, c, he, hs, hb⟩
set_option maxRecDepth 100000 in
theorem check_mvU {x : MV} {w : World} (hM : MAt w x) (hC : checkF x.m x.car = 0) :
    Calls Try.prog 12 #[.agg #[.int .i64 x.m.fr, .int .i64 x.m.tt, .int .i64 x.m.ki, .int .i64 x.m.bau, .int .i64 x.m.bnu, .slice x.m.bta x.m.btn x.m.btc, .int .i64 x.m.hau, .int .i64 x.m.hrd, .slice x.m.hba x.m.hbn x.m.hbc, .slice x.m.hpa x.m.hpn x.m.hpc, .int .i64 x.m.sau, .int .i64 x.m.srd, .slice x.m.sda x.m.sdn x.m.sdc, .int .i64 x.m.cau, .int .i64 x.m.crd, .slice x.m.cba x.m.cbn x.m.cbc, .slice x.m.cpa x.m.cpn x.m.cpc, .slice x.m.cva x.m.cvn x.m.cvc, .int .i64 x.m.ro]] w fun e w' => e = .returned (.int .i64 0) ∧ Below w.heap.size w w' := by
  have h := check_any x.m x.ss x.bl x.pl x.cbl x.cpl x.vl w hM.at'
  have hC' : checkF x.m (carriedF x.m x.ss x.bl x.pl x.cbl x.cpl x.vl) = 0 := hC
  rw [hC'] at h
  exact h
set_option maxRecDepth 100000 in
theorem msg_small {w : World} {x : MV} (hM : MAt w x) (hC : checkF x.m x.car = 0) : x.bl.length ≤ 1000 ∧ x.pl.length ≤ 1000 ∧ x.cbl.length ≤ 1000 ∧ x.cpl.length ≤ 1000 := by
  obtain ⟨_, _, hc, he⟩ := checkF_ok hC
  have hc' : carriedF x.m x.ss x.bl x.pl x.cbl x.cpl x.vl = 0 := hc
  have n2 := hM.at'.e2
  have n3 := hM.at'.e3
  have n4 := hM.at'.e4
  have n5 := hM.at'.e5
  rcases carriedF_kind hc' with k | k | k | k | k
  · simp [strip, msgEmpty, k] at he; omega
  · rw [carried2 k] at hc'
    obtain ⟨_, _, g3, g4, _, _⟩ := headerF_ok hc'
    simp [strip, msgEmpty, k] at he; omega
  · simp [strip, msgEmpty, k] at he; omega
  · rw [carried4 k] at hc'
    obtain ⟨hh, _, _, _⟩ := certF_ok hc'
    obtain ⟨_, _, g3, g4, _, _⟩ := headerF_ok hh
    simp [strip, msgEmpty, k] at he; omega
  · simp [strip, msgEmpty, k] at he; omega
set_option maxRecDepth 100000 in
theorem sameU_of {ps qs : List Part} (h : qs.map (·.bs) = ps.map (·.bs)) (hu : ∀ p ∈ ps, ∀ x ∈ p.bs, 0 ≤ x ∧ x ≤ 255) (hl : ps.length ≤ 1000) : SameU ps qs := by
  have h1 : SameU qs ps := ⟨h, hu, hl⟩
  exact ⟨h.symm, h1.u8', by rw [h1.length]; exact hl⟩
set_option maxRecDepth 100000 in
/-- Messages that say the same are the same. -/
theorem keep_same {w : World} {x y : MV} (hx : GoodM w x) (hy : MAt w y) (h : y.c = x.c) :
    Calls Try.prog 11 #[.agg #[.int .i64 x.m.fr, .int .i64 x.m.tt, .int .i64 x.m.ki, .int .i64 x.m.bau, .int .i64 x.m.bnu, .slice x.m.bta x.m.btn x.m.btc, .int .i64 x.m.hau, .int .i64 x.m.hrd, .slice x.m.hba x.m.hbn x.m.hbc, .slice x.m.hpa x.m.hpn x.m.hpc, .int .i64 x.m.sau, .int .i64 x.m.srd, .slice x.m.sda x.m.sdn x.m.sdc, .int .i64 x.m.cau, .int .i64 x.m.crd, .slice x.m.cba x.m.cbn x.m.cbc, .slice x.m.cpa x.m.cpn x.m.cpc, .slice x.m.cva x.m.cvn x.m.cvc, .int .i64 x.m.ro], .agg #[.int .i64 y.m.fr, .int .i64 y.m.tt, .int .i64 y.m.ki, .int .i64 y.m.bau, .int .i64 y.m.bnu, .slice y.m.bta y.m.btn y.m.btc, .int .i64 y.m.hau, .int .i64 y.m.hrd, .slice y.m.hba y.m.hbn y.m.hbc, .slice y.m.hpa y.m.hpn y.m.hpc, .int .i64 y.m.sau, .int .i64 y.m.srd, .slice y.m.sda y.m.sdn y.m.sdc, .int .i64 y.m.cau, .int .i64 y.m.crd, .slice y.m.cba y.m.cbn y.m.cbc, .slice y.m.cpa y.m.cpn y.m.cpc, .slice y.m.cva y.m.cvn y.m.cvc, .int .i64 y.m.ro]] w fun e w' => e = .returned (.bool true) ∧ Below w.heap.size w w' := by
  obtain ⟨l1, l2, l3, l4⟩ := msg_small hx.lies hx.ok
  simp only [MV.c, MC.mk.injEq] at h
  obtain ⟨e1, e2, e3, e4, e5, e6, e7, e8, e9, e10, e11, e12, e13, e14, e15, e16, e17, e18, e19⟩ := h
  have s1 : SameU x.bl y.bl := sameU_of e9 hx.u8.hb l1
  have s2 : SameU x.pl y.pl := sameU_of e10 hx.u8.hp l2
  have s3 : SameU x.cbl y.cbl := sameU_of e16 hx.u8.cb l3
  have s4 : SameU x.cpl y.cpl := sameU_of e17 hx.u8.cp l4
  have t1 : StrsAt w y.m.bta x.ss := by rw [← e6]; exact hy.at'.txs
  have t4 : SliceAt w y.m.sda y.m.sdc x.ds := by rw [← e13]; exact hy.dig
  have t7 : IntsAt w y.m.cva x.vl := by rw [← e18]; exact hy.at'.vot
  have H := hx.lies.at'
  have K := hy.at'
  have n1 : y.m.btn = x.ss.length := by rw [K.e1, e6]
  have n4 : y.m.sdn = x.ds.length := by rw [hy.dn, e13]
  have n7 : y.m.cvn = x.vl.length := by rw [K.e6, e18]
  have m2 : x.m.hbn = y.bl.length := by rw [H.e2, s1.length]
  have m3 : x.m.hpn = y.pl.length := by rw [H.e3, s2.length]
  have m5 : x.m.cbn = y.cbl.length := by rw [H.e4, s3.length]
  have m6 : x.m.cpn = y.cpl.length := by rw [H.e5, s4.length]
  rw [e1, e2, e3, e4, e5, e7, e8, e11, e12, e14, e15, e19, n1, n4, n7, K.e2, K.e3, K.e4, K.e5, H.e1, hx.lies.dn, H.e6, m2, m3, m5, m6]
  exact sameMsgK_eq x.m.fr x.m.tt x.m.ki x.m.bau x.m.bnu x.m.hau x.m.hrd x.m.sau x.m.srd x.m.cau x.m.crd x.m.ro x.m.bta x.m.hba x.m.hpa x.m.sda x.m.cba x.m.cpa x.m.cva y.m.bta y.m.hba y.m.hpa y.m.sda y.m.cba y.m.cpa y.m.cva x.m.btc x.m.hbc x.m.hpc x.m.sdc x.m.cbc x.m.cpc x.m.cvc y.m.btc y.m.hbc y.m.hpc y.m.sdc y.m.cbc y.m.cpc y.m.cvc x.ss x.bl x.pl x.cbl x.cpl y.bl y.pl y.cbl y.cpl x.ds x.vl w s1 s2 s3 s4 H.s1 H.s6 H.txs H.bat H.par hx.lies.dig H.cbat H.cpar H.vot t1 K.bat K.par t4 K.cbat K.cpar t7
end Go.Proofs.Ythijfhbmkpfnkaa
