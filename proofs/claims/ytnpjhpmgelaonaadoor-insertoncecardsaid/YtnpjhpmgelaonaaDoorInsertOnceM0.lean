/- Rows of numbers. -/
import Derived.Test.YtnpjhpmgelaonaaDoorStk0
import Derived.Test.YtnpjhpmgelaonaaDoorCalls
import Derived.Test.YtnpjhpmgelaonaaDoorEqual
import Derived.Deep.RegionHeld3
import Derived.Test.YtnpjhpmgelaonaaDoorDagA
import Derived.Test.YtnpjhpmgelaonaaDoorApp
import Derived.Test.YtnpjhpmgelaonaaDoorSx
import Derived.Test.YtnpjhpmgelaonaaDoorCertF
import Derived.Test.YtnpjhpmgelaonaaDoorCHead
import Derived.Test.YtnpjhpmgelaonaaDoorRawU
namespace Go.Proofs.YtnpjhpmgelaonaaDoor
open Go.RowKit

set_option maxRecDepth 100000 in
set_option maxHeartbeats 400000 in
theorem of1_any (s : Ct) (au rd : Int) (ga gr : Nat) (w : World) (ha : w.cell? ⟨ga, 0, none⟩ = some (.int .i64 au)) (hr : w.cell? ⟨gr, 0, none⟩ = some (.int .i64 rd)) :
    Calls Tryd.prog 73 #[.agg #[.int .i64 s.au, .int .i64 s.rd, .slice s.ba s.bl.length s.bc, .slice s.pa s.pl.length s.pc, .slice s.va s.vl.length s.vc], .pointer (some ⟨ga, 0, none⟩), .pointer (some ⟨gr, 0, none⟩)] w fun e w' => e = .returned (.bool (decide (s.au = au ∧ s.rd = rd))) ∧ Below w.heap.size w w' := by
  have la := block_lt_of_cell ha
  have lr := block_lt_of_cell hr
  have na : ga ≠ w.heap.size := by simp at la; omega
  have nr : gr ≠ w.heap.size := by simp at lr; omega
  go_enter Tryd.func73, Tryd.ntmps73
  go_wp2_with fail
  all_goals (go_ret; exact ⟨by first | (simp_all; done) | (simp_all; rfl), (Below.refl _ _).alloc (Nat.le_refl _) _⟩)

set_option maxRecDepth 100000 in
set_option maxHeartbeats 1000000 in
theorem indexCert_any (ls : List Ct) (sa : Option Addr) (n cap : Nat) (au rd : Int) (ga gr : Nat) (w : World) (hn : n = ls.length) (hk2 : n ≤ 3000000000000000000) (hp : CertsAt w sa ls) (ha : w.cell? ⟨ga, 0, none⟩ = some (.int .i64 au)) (hr : w.cell? ⟨gr, 0, none⟩ = some (.int .i64 rd)) :
    Calls Tryd.prog 74 #[.slice sa n cap, .func (.func 73) #[] #[.pointer (some ⟨ga, 0, none⟩), .pointer (some ⟨gr, 0, none⟩)]] w fun e w' => e = .returned (.int .i64 (cOf (cvs ls) au rd)) ∧ Below w.heap.size w w' := by
  subst hn
  go_enter Tryd.func74, Tryd.ntmps74
  go_wp2_with fail
  go_loopw [8] (fun i wr => ∃ m : Nat, m ≤ ls.length ∧ i = .int .i64 m ∧ fidx (cHit (cvs ls) au rd) m = -1 ∧ Below w.heap.size w wr) (fun i _ => ls.length - (intOf i).toNat)
  case atStart => exact ⟨0, Nat.zero_le _, rfl, rfl, Below.refl _ _⟩
  case round =>
    obtain ⟨m, hm, rfl, hno, hb⟩ := hrel
    by_cases hlt : m < ls.length
    · obtain ⟨sb, so, rfl, c0, c1, c2, c3, c4⟩ := (hp.below hb).at m hlt
      have hg := cHit_get ls au rd m hlt
      have haw := (hb.cell (p := ⟨ga, 0, none⟩) (block_lt_of_cell ha)).trans ha
      have hrw := (hb.cell (p := ⟨gr, 0, none⟩) (block_lt_of_cell hr)).trans hr
      have hltI : (m : Int) < ls.length := by omega
      have hF : Hid (decide ((ls[m]).au = au ∧ (ls[m]).rd = rd) = true → cOf (cvs ls) au rd = m) := by
        show _ → _
        intro h
        exact fidx_hit _ m _ hno (by rw [hg]; exact h) (by rw [cvs_length]; exact hlt)
      have hN : Hid (decide ((ls[m]).au = au ∧ (ls[m]).rd = rd) = false → fidx (cHit (cvs ls) au rd) (m + 1) = -1) := by
        show _ → _
        intro h
        exact fidx_step _ m hno (by rw [hg]; exact h)
      clear hno hg
      generalize ls[m] = s at *
      go_wp2_with fail
      refine (of1_any s au rd ga gr wr haw hrw).mono ?_
      rintro e w1 ⟨he, hb1⟩
      subst he
      dsimp only
      have hB1 := hb.trans (hb1.mono hb.size)
      generalize decide (s.au = au ∧ s.rd = rd) = x at *
      cases x
      · have hn : Hid _ := hN.out rfl
        clear hF hN
        go_wp2_with fail
        go_roundw
        case rel => exact ⟨m + 1, by omega, by go_num, hn.out, hB1⟩
        case measure => simp [intOf]; omega
      · have hn : Hid _ := hF.out rfl
        clear hF hN
        go_wp2_with fail
        go_ret
        exact ⟨ret_int hn.out.symm, hB1⟩
    · obtain rfl : m = ls.length := by omega
      have hF : Hid (cOf (cvs ls) au rd = -1) := by
        show fidx _ _ = -1
        rw [cvs_length]; exact hno
      clear hno
      go_wp2_with fail
      go_ret
      exact ⟨ret_int hF.out.symm, hb⟩
set_option maxRecDepth 100000 in
set_option maxHeartbeats 400000 in
theorem of_any (ls : List Ct) (s : Nat) (ca : Option Addr) (cc : Nat) (da : Option Addr) (dc : Nat) (ds : List Part) (au rd : Int) (w : World) (hs : StkAt w s ls ca cc da dc ds) :
    Calls Tryd.prog 63 #[.pointer (some ⟨s, 0, none⟩), .int .i64 au, .int .i64 rd] w fun e w' => e = .returned (.int .i64 (cOf (cvs ls) au rd)) ∧ Below w.heap.size w w' := by
  have hmf : ∀ (fn : Fn) (first cap : Array Value) (w : World), (Instr.makeFunc fn first cap).run Tryd.prog w = .ok (.func fn first cap) w := fun _ _ _ _ => rfl
  have hsm := hs.at'.small
  have hc := hs.at'.certs
  have hbx := hs.box
  clear hs
  have hR : Below w.heap.size w ((w.alloc (.cells #[.int .i64 au] 3)).alloc (.cells #[.int .i64 rd] 3)) := ((Below.refl _ _).alloc (Nat.le_refl _) _).alloc (by rw [size_alloc]; omega) _
  have k1 : ((w.alloc (.cells #[.int .i64 au] 3)).alloc (.cells #[.int .i64 rd] 3)).cell? ⟨w.heap.size, 0, none⟩ = some (.int .i64 au) := cells_at (heap_keep (heap_alloc_new w _)) 0 _ rfl
  have k2 : ((w.alloc (.cells #[.int .i64 au] 3)).alloc (.cells #[.int .i64 rd] 3)).cell? ⟨w.heap.size + 1, 0, none⟩ = some (.int .i64 rd) := by
    have := laid_cell (w.alloc (.cells #[.int .i64 au] 3)) #[.int .i64 rd] 3 0 _ rfl
    rw [size_alloc] at this
    exact this
  have k3 := cells_at (heap_keep (o := .cells #[.int .i64 rd] 3) (heap_keep (o := .cells #[.int .i64 au] 3) hbx)) 0 _ rfl
  go_enter Tryd.func63, Tryd.ntmps63
  go_wp2_with fail
  generalize (w.alloc (.cells #[.int .i64 au] 3)).alloc (.cells #[.int .i64 rd] 3) = W0 at hR k1 k2 k3 ⊢
  refine (indexCert_any ls ca ls.length cc au rd _ _ W0 rfl (by omega) (hc.below hR) k1 k2).mono ?_
  rintro e w1 ⟨he, hb1⟩
  subst he
  dsimp only
  go_wp2_with fail
  go_ret
  exact ⟨rfl, hR.trans (hb1.mono hR.size)⟩
set_option maxRecDepth 100000 in
theorem with_closure (xs ys : List Int) (sa sb : Option Addr) (n m c d g : Nat) (w : World) (hn : n = xs.length) (hm : m = ys.length) (ha : SliceAt w sa c xs) (hb : SliceAt w sb d ys) (hg : w.cell? ⟨g, 0, none⟩ = some (.slice sb m d)) :
    Calls Tryd.prog 68 #[.slice sa n c, .pointer (some ⟨g, 0, none⟩)] w fun e w' => e = .returned (.bool (decide (txL xs = txL ys))) ∧ w = w' := by
  go_enter Tryd.func68, Tryd.ntmps68
  go_wp2_with fail
  refine (equal_any xs ys _ _ _ _ _ _ w (by first | exact hn | rfl) (by first | exact hm | rfl) ha hb).mono ?_
  rintro e w1 ⟨he, rfl⟩
  subst he
  dsimp only
  go_wp2_with fail
  go_ret
  exact ⟨rfl, rfl⟩
set_option maxRecDepth 100000 in
set_option maxHeartbeats 1000000 in
theorem indexDig_any (l : List CV) (ds : List Part) (da : Option Addr) (n cap : Nat) (bs : List Int) (ka : Option Addr) (kn kc g : Nat) (w : World) (hn : n = ds.length) (hS : bss ds = l.map CV.d) (hk2 : n ≤ 3000000000000000000) (hd : PartsAt w da ds) (hkn : kn = bs.length) (hk : SliceAt w ka kc bs) (hg : w.cell? ⟨g, 0, none⟩ = some (.slice ka kn kc)) :
    Calls Tryd.prog 70 #[.slice da n cap, .func (.func 68) #[] #[.pointer (some ⟨g, 0, none⟩)]] w fun e w' => e = .returned (.int .i64 (pOf l bs)) ∧ w = w' := by
  subst hn hkn
  have HL : Hid (ds.length = l.length) := digs_length hS
  have HS : Hid (bss ds = l.map CV.d) := hS
  clear hS
  go_enter Tryd.func70, Tryd.ntmps70
  go_wp2_with fail
  go_loop [8] (fun i => ∃ m : Nat, m ≤ ds.length ∧ i = .int .i64 m ∧ fidx (dHit l bs) m = -1) (fun i => ds.length - (intOf i).toNat)
  case atStart => exact ⟨0, Nat.zero_le _, rfl, rfl⟩
  case round =>
    obtain ⟨m, hm, rfl, hno⟩ := hrel
    by_cases hlt : m < ds.length
    · rcases hd.cells with hc | ⟨sb, so, rfl, hc⟩
      · subst hc; simp at hlt
      have ck := hc m hlt
      have hx := hd.each (ds[m]) (List.getElem_mem hlt)
      have hltI : (m : Int) < ds.length := by omega
      have hgt := digs_get HS.out m hlt
      have Hf : Hid (txL (ds[m]).bs = txL bs → pOf l bs = m) := by
        show _ → _
        intro h
        exact fidx_hit _ m _ hno (by rw [dHit, hgt]; simpa using h) (by rw [← HL.out]; exact hlt)
      have Hn : Hid (¬ txL (ds[m]).bs = txL bs → fidx (dHit l bs) (m + 1) = -1) := by
        show _ → _
        intro h
        exact fidx_step _ m hno (by rw [dHit, hgt]; simpa using h)
      clear hno hgt hc
      generalize ds[m] = p at *
      go_wp2_with fail
      refine (with_closure p.bs bs p.sa ka _ _ p.cap kc g w rfl rfl hx hk hg).mono ?_
      rintro e w1 ⟨he, rfl⟩
      subst he
      dsimp only
      by_cases h : txL p.bs = txL bs
      · have He : Hid (pOf l bs = m) := Hf.out h
        rw [decide_eq_true h]
        clear Hf Hn h
        go_wp2_with fail
        go_ret
        exact ⟨ret_int He.out.symm, rfl⟩
      · have He : Hid (fidx (dHit l bs) (m + 1) = -1) := Hn.out h
        rw [decide_eq_false h]
        clear Hf Hn h
        go_wp2_with fail
        go_round
        case rel => exact ⟨m + 1, by omega, by go_num, He.out⟩
        case measure => simp [intOf]; omega
    · obtain rfl : m = ds.length := by omega
      have He : Hid (pOf l bs = -1) := by
        show fidx _ _ = -1
        rw [← HL.out]; exact hno
      clear hno
      go_wp2_with fail
      go_ret
      exact ⟨ret_int He.out.symm, rfl⟩
set_option maxRecDepth 100000 in
set_option maxHeartbeats 400000 in
theorem withDigest_any (ls : List Ct) (s : Nat) (ca : Option Addr) (cc : Nat) (da : Option Addr) (dc : Nat) (ds : List Part) (bs : List Int) (ka : Option Addr) (kn kc : Nat) (w : World) (hs : StkAt w s ls ca cc da dc ds) (hkn : kn = bs.length) (hk : SliceAt w ka kc bs) :
    Calls Tryd.prog 50 #[.pointer (some ⟨s, 0, none⟩), .slice ka kn kc] w fun e w' => e = .returned (.int .i64 (pOf (cvs ls) bs)) ∧ Below w.heap.size w w' := by
  have hmf : ∀ (fn : Fn) (first cap : Array Value) (w : World), (Instr.makeFunc fn first cap).run Tryd.prog w = .ok (.func fn first cap) w := fun _ _ _ _ => rfl
  have hsm := hs.at'.small
  subst hkn
  have hdl : Hid (ls.length = ds.length) := by
    show _ = _
    rw [hs.at'.len]
  have hd := hs.at'.digs.parts
  have HS : Hid (bss ds = (cvs ls).map CV.d) := hs.at'.same
  have hbx := hs.box
  clear hs
  have hR : Below w.heap.size w (w.alloc (.cells #[.slice ka bs.length kc] 41)) := (Below.refl _ _).alloc (Nat.le_refl _) _
  have k1 : (w.alloc (.cells #[.slice ka bs.length kc] 41)).cell? ⟨w.heap.size, 0, none⟩ = some (.slice ka bs.length kc) := by simp
  have k3 := cells_at (heap_keep (o := .cells #[.slice ka bs.length kc] 41) hbx) 1 _ rfl
  go_enter Tryd.func50, Tryd.ntmps50
  go_wp2_with fail
  generalize w.alloc (.cells #[.slice ka bs.length kc] 41) = W0 at hR k1 k3 ⊢
  refine (indexDig_any (cvs ls) ds da ls.length dc bs ka bs.length kc _ W0 hdl.out HS.out (by omega) (hd.below hR) rfl (hk.below hR) k1).mono ?_
  rintro e w1 ⟨he, rfl⟩
  subst he
  dsimp only
  go_wp2_with fail
  go_ret
  exact ⟨rfl, hR⟩
set_option maxRecDepth 100000 in
set_option maxHeartbeats 400000 in
theorem has_stk (ls : List Ct) (s : Nat) (ca : Option Addr) (cc : Nat) (da : Option Addr) (dc : Nat) (ds : List Part) (au rd : Int) (w : World) (hs : StkAt w s ls ca cc da dc ds) :
    Calls Tryd.prog 60 #[.pointer (some ⟨s, 0, none⟩), .int .i64 au, .int .i64 rd] w fun e w' => e = .returned (.bool (decide (0 ≤ cOf (cvs ls) au rd))) ∧ Below w.heap.size w w' := by
  go_enter Tryd.func60, Tryd.ntmps60
  go_wp2_with fail
  refine (of_any ls s ca cc da dc ds au rd w hs).mono ?_
  rintro e w1 ⟨he, hb1⟩
  subst he
  dsimp only
  go_wp2_with fail
  go_ret
  exact ⟨rfl, hb1⟩
end Go.Proofs.YtnpjhpmgelaonaaDoor

namespace Go.Proofs.YtnpjhpmgelaonaaDoor
open Go.RowKit

set_option maxRecDepth 100000 in
theorem cOf_snoc (l : List CV) (c : CV) (au rd : Int) : cOf (l ++ [c]) au rd = if 0 ≤ cOf l au rd then cOf l au rd else if c.au = au ∧ c.rd = rd then (l.length : Int) else -1 := by
  have e1 : fidx (cHit (l ++ [c]) au rd) l.length = fidx (cHit l au rd) l.length := fidx_congr _ _ _ (fun j hj => by
    have e : cvAt (l ++ [c]) j = cvAt l j := by simp [cvAt, List.getD, List.getElem?_append_left hj]
    rw [cHit, cHit, e])
  have e2 : cHit (l ++ [c]) au rd l.length = decide (c.au = au ∧ c.rd = rd) := by
    have e : cvAt (l ++ [c]) l.length = c := by simp [cvAt]
    rw [cHit, e]
  rw [cOf, show (l ++ [c]).length = l.length + 1 by simp, fidx, e1, e2]
  show (if 0 ≤ cOf l au rd then cOf l au rd else _) = _
  simp only [decide_eq_true_eq]
set_option maxRecDepth 100000 in
theorem dgF_len (l : List CV) (r : Int) : (dgF l r).length = (if 0 ≤ cOf l 0 r then 1 else 0) + (if 0 ≤ cOf l 1 r then 1 else 0) + (if 0 ≤ cOf l 2 r then 1 else 0) + (if 0 ≤ cOf l 3 r then 1 else 0) := by
  have h : ∀ n : Nat, (dgTo l r (n + 1)).length = (dgTo l r n).length + (if 0 ≤ cOf l (n : Int) r then 1 else 0) := fun n => by
    rw [dgTo]
    split <;> simp
  rw [dgF, h 3, h 2, h 1, h 0]
  simp [dgTo]
/-- How many are of that round. -/
def cntR (l : List CV) (r : Int) : Nat := (l.filter fun c => decide (c.rd = r)).length
set_option maxRecDepth 100000 in
theorem cntR_snoc (l : List CV) (c : CV) (r : Int) : cntR (l ++ [c]) r = cntR l r + (if c.rd = r then 1 else 0) := by
  simp only [cntR, List.filter_append, List.length_append]
  by_cases h : c.rd = r <;> simp [h]
set_option maxRecDepth 100000 in
theorem dg_snoc (l : List CV) (c : CV) (r : Int) (h : cOf l c.au c.rd < 0) (h4 : 0 ≤ c.au ∧ c.au < 4) : (dgF (l ++ [c]) r).length = (dgF l r).length + (if c.rd = r then 1 else 0) := by
  have key : ∀ a : Int, (if 0 ≤ cOf (l ++ [c]) a r then 1 else 0 : Nat) = (if 0 ≤ cOf l a r then 1 else 0) + (if c.au = a ∧ c.rd = r then 1 else 0) := fun a => by
    rw [cOf_snoc]
    by_cases h1 : 0 ≤ cOf l a r
    · have h2 : ¬ (c.au = a ∧ c.rd = r) := fun ⟨e1, e2⟩ => by rw [e1, e2] at h; omega
      simp [h1, h2]
    · by_cases h2 : c.au = a ∧ c.rd = r
      · rw [if_neg h1, if_pos h2, if_neg h1, if_pos h2, if_pos (by omega)]
      · rw [if_neg h1, if_neg h2, if_neg h1, if_neg h2, if_neg (by decide)]
  rw [dgF_len, dgF_len, key, key, key, key]
  by_cases hr : c.rd = r
  · have hc : c.au = 0 ∨ c.au = 1 ∨ c.au = 2 ∨ c.au = 3 := by omega
    rcases hc with e | e | e | e <;> simp [e, hr] <;> omega
  · simp [hr]
set_option maxRecDepth 100000 in
theorem f_author {c : CV} (h : c.f = 0) : 0 ≤ c.au ∧ c.au < 4 := (headerF_ok (certF_head (vl := c.vl) h)).1
set_option maxRecDepth 100000 in
theorem takF_cOf {l : List CV} {au rd : Int} {pl : List (List Int)} (h : takF l au rd pl = 0) : cOf l au rd < 0 := by
  rw [takF] at h
  split at h
  · cases h
  · omega
set_option maxRecDepth 100000 in
theorem dgF_cnt_take {l : List CV} (h : dagF l = 0) (r : Int) (k : Nat) (hk : k ≤ l.length) : (dgF (l.take k) r).length = cntR (l.take k) r := by
  induction k with
  | zero => rw [List.take_zero, dgF_len]; rfl
  | succ k ih =>
    have hlt : k < l.length := by omega
    have hb := (dagF_zero h).2 k hlt
    simp only [badC, Bool.or_eq_false_iff, decide_eq_false_iff_not, ne_eq, Decidable.not_not] at hb
    have e : l.take (k + 1) = l.take k ++ [cvAt l k] := by
      rw [List.take_succ_eq_append_getElem hlt]
      simp [cvAt, hlt]
    rw [e, dg_snoc _ _ _ (takF_cOf hb.2) (f_author hb.1), cntR_snoc, ih (by omega)]
set_option maxRecDepth 100000 in
theorem dgF_cnt {l : List CV} (h : dagF l = 0) (r : Int) : (dgF l r).length = cntR l r := by
  have := dgF_cnt_take h r l.length (Nat.le_refl _)
  rwa [List.take_length] at this
/-- What a stock tells of a certificate that is to be inserted. -/
def stkE (l : List CV) (c : CV) : Int := if c.f ≠ 0 then c.f else if takF l c.au c.rd c.pl ≠ 0 then takF l c.au c.rd c.pl else if 400 ≤ l.length then 6 else 0
set_option maxRecDepth 100000 in
theorem stkE_ok {l : List CV} {c : CV} (h : stkE l c = 0) : c.f = 0 ∧ takF l c.au c.rd c.pl = 0 ∧ l.length < 400 := by
  rw [stkE] at h
  by_cases h1 : c.f = 0
  · rw [if_neg (fun g => g h1)] at h
    by_cases h2 : takF l c.au c.rd c.pl = 0
    · rw [if_neg (fun g => g h2)] at h
      by_cases h3 : 400 ≤ l.length
      · rw [if_pos h3] at h; cases h
      · exact ⟨h1, h2, by omega⟩
    · rw [if_pos h2] at h; exact absurd h h2
  · rw [if_pos h1] at h; exact absurd h h1
set_option maxRecDepth 100000 in
theorem stkE_bad {l : List CV} {k : Nat} (hk : k < l.length) (h : stkE (l.take k) (cvAt l k) ≠ 0) : dagF l = 12 := by
  by_cases hl : 400 < l.length
  · exact dagF_long l hl
  · refine dagF_bad l k hk ?_
    simp only [badC, Bool.or_eq_true, decide_eq_true_eq]
    by_cases h1 : (cvAt l k).f = 0
    · right
      intro h2
      apply h
      rw [stkE, if_neg (fun g => g h1), if_neg (fun g => g h2), if_neg (by simp; omega)]
    · exact .inl h1
set_option maxRecDepth 100000 in
theorem stkE_all {l : List CV} (h : ∀ k, k < l.length → stkE (l.take k) (cvAt l k) = 0) : dagF l = 0 := by
  have hb : ∀ k, k < l.length → badC l k = false := fun k hk => by
    obtain ⟨h1, h2, _⟩ := stkE_ok (h k hk)
    simp [badC, h1, h2]
  refine dagF_ok l ?_ hb
  rcases Nat.lt_or_ge 400 l.length with g | g
  · obtain ⟨_, _, h3⟩ := stkE_ok (h 400 g)
    rw [List.length_take] at h3
    omega
  · exact g
/-- P5.4: what is told. -/
def insE (l : List CV) (c : CV) : Int := if dagF l ≠ 0 then dagF l else if c.f ≠ 0 then c.f else if takF l c.au c.rd c.pl ≠ 0 then takF l c.au c.rd c.pl else if 400 ≤ l.length then 6 else 0
set_option maxRecDepth 100000 in
theorem insE_stk {l : List CV} (c : CV) (h : dagF l = 0) : insE l c = stkE l c := by rw [insE, if_neg (fun g => g h), stkE]
end Go.Proofs.YtnpjhpmgelaonaaDoor

namespace Go.Proofs.YtnpjhpmgelaonaaDoor
open Go.RowKit

set_option maxRecDepth 100000 in
set_option maxHeartbeats 400000 in
theorem clone_any (bs : List Int) (sa : Option Addr) (n cap : Nat) (w : World) (hn : n = bs.length) (hs : SliceAt w sa cap bs) (hl : bs.length ≤ 140737488355328) :
    Calls Tryd.prog 55 #[.slice sa n cap] w fun e w' => ∃ ra rc, e = .returned (.slice ra bs.length rc) ∧ SliceAt w' ra rc bs ∧ (∀ sb so, ra = some ⟨sb, so, none⟩ → w.heap.size ≤ sb ∧ sb < w'.heap.size) ∧ Below w.heap.size w w' := by
  subst hn
  have hle := hs.le
  cases sa with
  | none =>
    have hc := hs.nil rfl
    have hb : bs = [] := List.eq_nil_of_length_eq_zero (by omega)
    subst hc hb
    have he : ∀ w : World, (binOp .eql 41 (.slice none 0 0) (.slice none 0 0)).run Tryd.prog w = .ok (.bool true) w := fun _ => rfl
    go_enter Tryd.func55, Tryd.ntmps55
    go_wp2_with fail
    go_ret
    exact ⟨none, 0, rfl, hs, (fun _ _ e => by cases e), Below.refl _ _⟩
  | some ad =>
    have he : ∀ w : World, (binOp .eql 41 (.slice (some ad) bs.length cap) (.slice none 0 0)).run Tryd.prog w = .ok (.bool false) w := fun _ => rfl
    have hA : Below w.heap.size w (w.alloc (.cells #[] 5)) := (Below.refl _ _).alloc (Nat.le_refl _) _
    go_enter Tryd.func55, Tryd.ntmps55
    go_wp2_with (at_builtin; refine wpList_append_part rfl _ _ rfl w.heap.size _ 0 [] rfl (World.ownsRow_made _ _ 0 (Nat.le_refl _) (by decide) rfl) (some ad) _ cap bs rfl rfl (hs.below hA) (by omega) hA.size ?_; intro v1 w1 ho1 hg1)
    obtain ⟨ra, rc, hv, hl, hsl⟩ := owns_form ho1
    have hlt := ho1.lt
    subst hv
    go_ret
    refine ⟨ra, rc, ?_, by simpa using hsl, (fun sb so e => hlt sb (by rw [e]; rfl)), ?_⟩
    · simp
    · exact Below.grown hA hg1 hA.size (fun q e => (World.ownsRow.lt (World.ownsRow_made (e := 5) (size := 1) w #[] 0 (Nat.le_refl _) (by decide) rfl) q e).1)
end Go.Proofs.YtnpjhpmgelaonaaDoor

namespace Go.Proofs.YtnpjhpmgelaonaaDoor
open Go.RowKit

set_option maxRecDepth 100000 in
set_option maxHeartbeats 1000000 in
theorem checkCert_any (au rd : Int) (ba : Option Addr) (bc : Nat) (bl : List Part) (pa : Option Addr) (pc : Nat) (pl : List Part) (va : Option Addr) (vc : Nat) (vl : List Int) (w : World) (hb : ListAt w ba bc bl) (hp : ListAt w pa pc pl) (hv : IntsAt w va vl) (hvm : vl.length ≤ 9000000000000000000) :
    Calls Tryd.prog 59 #[.agg #[.int .i64 au, .int .i64 rd, .slice ba bl.length bc, .slice pa pl.length pc, .slice va vl.length vc]] w fun e w' => e = .returned (.int .i64 (certF au rd bl pl vl)) ∧ Below w.heap.size w w' := by
  have hA : Below w.heap.size w (w.alloc (.cells #[.int .i64 au, .int .i64 rd, .slice ba bl.length bc, .slice pa pl.length pc, .slice va vl.length vc] 36)) := (Below.refl _ _).alloc (Nat.le_refl _) _
  go_enter Tryd.func59, Tryd.ntmps59
  go_wp2_with fail
  refine (checkHeader_any au rd ba bc bl pa pc pl _ (hb.below hA) (hp.below hA)).mono ?_
  rintro e w1 ⟨he, hb1⟩
  subst he
  dsimp only
  have r1 := row_new hb1
  replace hb1 := below_alloc hb1
  have c4 : w1.cell? ⟨w.heap.size, 4, none⟩ = some (.slice va vl.length vc) := cells_at r1 4 _ rfl
  by_cases h1 : headerF au rd bl pl = 0
  · rw [h1]
    by_cases h2 : 4 < vl.length
    · have hF : Hid (certF au rd bl pl vl = 1) := by show _ = _; rw [certF, if_neg (by simp [h1]), if_pos h2]
      have h2I : (4 : Int) < vl.length := by omega
      go_wp2_with fail
      go_ret
      exact ⟨ret_int hF.out.symm, hb1⟩
    · have hF : Hid (certF au rd bl pl vl = votersF vl) := by show _ = _; rw [certF, if_neg (by simp [h1]), if_neg h2]
      have h2I : ¬ (4 : Int) < vl.length := by omega
      clear h1
      go_wp2_with fail
      go_loop [19] (fun i => ∃ k : Nat, k ≤ vl.length ∧ i = .int .i64 k ∧ vTo vl k = 0) (fun i => vl.length - (intOf i).toNat)
      case atStart => exact ⟨0, Nat.zero_le _, rfl, rfl⟩
      case round =>
        obtain ⟨k, hk, rfl, h0⟩ := hrel
        by_cases hlt : k < vl.length
        · obtain ⟨sb, so, rfl, hc⟩ : ∃ sb so, va = some ⟨sb, so, none⟩ ∧ ∀ j, j < vl.length → w1.cell? ⟨sb, so + j, none⟩ = some (.int .i64 (vl.getD j 0)) := by
            rcases (hv.below hb1).cells with h | h
            · rw [h] at hlt; simp at hlt
            · exact h
          have ck := hc k hlt
          have hltI : (k : Int) < vl.length := by omega
          have hVf : Hid (vAt vl k ≠ 0 → votersF vl = vAt vl k) := by
            show _ → _
            intro h
            rw [votersF, vTo_at vl k hlt h0 h, if_pos h]
          have hVs : Hid (vAt vl k = 0 → vTo vl (k + 1) = 0) := by
            show _ → _
            intro h
            rw [vTo, h0, h]; rfl
          have hVa : Hid (vAt vl k = if ¬ (0 ≤ vl.getD k 0 ∧ vl.getD k 0 < 4) then 2 else if 0 < k ∧ vl.getD k 0 ≤ vl.getD (k - 1) 0 then 9 else 0) := rfl
          by_cases hkz : k = 0
          · subst hkz
            clear hc
            rw [Nat.add_zero] at ck
            generalize vl.getD 0 0 = x at *
            by_cases hn : 0 ≤ x ∧ x < 4
            · have hst := hVs.out (by rw [hVa.out, if_neg (by simp [hn]), if_neg (by omega)])
              clear hVf hVs hVa
              go_wp2_with (go_at_call 51; first | (refine (isNode_true _ _ (by omega)).mono ?_; rintro e w' ⟨rfl, rfl⟩) | (refine (isNode_false _ _ (by omega)).mono ?_; rintro e w' ⟨rfl, rfl⟩))
              go_round
              case rel => exact ⟨0 + 1, by omega, by go_num, hst⟩
              case measure => simp [intOf]; omega
            · have e2 : Hid (certF au rd bl pl vl = 2) := by
                show _ = _
                have : vAt vl 0 = 2 := by rw [hVa.out, if_pos hn]
                rw [hF.out, hVf.out (by rw [this]; decide), this]
              clear hVf hVs hVa hF
              go_wp2_with (go_at_call 51; first | (refine (isNode_true _ _ (by omega)).mono ?_; rintro e w' ⟨rfl, rfl⟩) | (refine (isNode_false _ _ (by omega)).mono ?_; rintro e w' ⟨rfl, rfl⟩))
              go_ret
              exact ⟨ret_int e2.out.symm, hb1⟩
          · have cp := hc (k - 1) (by omega)
            have hkI : (0 : Int) < k := by omega
            have t0 : ((k : Int) - 1).toNat = k - 1 := by omega
            have u0_ : IntKind.i64.wrap ((k : Int) - 1) = (k : Int) - 1 := by rw [IntKind.wrap_i64]; omega
            have z0 : (0 : Int) ≤ (k : Int) - 1 := by omega
            have z1 : (k : Int) - 1 < vl.length := by omega
            clear hc
            generalize vl.getD k 0 = x at *
            generalize vl.getD (k - 1) 0 = y at *
            by_cases hn : 0 ≤ x ∧ x < 4
            · by_cases hxy : x ≤ y
              · have e9 : Hid (certF au rd bl pl vl = 9) := by
                  show _ = _
                  have : vAt vl k = 9 := by rw [hVa.out, if_neg (by simp [hn]), if_pos (by omega)]
                  rw [hF.out, hVf.out (by rw [this]; decide), this]
                clear hVf hVs hVa hF
                go_wp2_with (go_at_call 51; first | (refine (isNode_true _ _ (by omega)).mono ?_; rintro e w' ⟨rfl, rfl⟩) | (refine (isNode_false _ _ (by omega)).mono ?_; rintro e w' ⟨rfl, rfl⟩))
                go_ret
                exact ⟨ret_int e9.out.symm, hb1⟩
              · have hst := hVs.out (by rw [hVa.out, if_neg (by simp [hn]), if_neg (by omega)])
                clear hVf hVs hVa
                go_wp2_with (go_at_call 51; first | (refine (isNode_true _ _ (by omega)).mono ?_; rintro e w' ⟨rfl, rfl⟩) | (refine (isNode_false _ _ (by omega)).mono ?_; rintro e w' ⟨rfl, rfl⟩))
                go_round
                case rel => exact ⟨k + 1, by omega, by go_num, hst⟩
                case measure => simp [intOf]; omega
            · have e2 : Hid (certF au rd bl pl vl = 2) := by
                show _ = _
                have : vAt vl k = 2 := by rw [hVa.out, if_pos hn]
                rw [hF.out, hVf.out (by rw [this]; decide), this]
              clear hVf hVs hVa hF
              go_wp2_with (go_at_call 51; first | (refine (isNode_true _ _ (by omega)).mono ?_; rintro e w' ⟨rfl, rfl⟩) | (refine (isNode_false _ _ (by omega)).mono ?_; rintro e w' ⟨rfl, rfl⟩))
              go_ret
              exact ⟨ret_int e2.out.symm, hb1⟩
        · obtain rfl : k = vl.length := by omega
          by_cases h3 : vl.length < 3
          · have e10 : Hid (certF au rd bl pl vl = 10) := by show _ = _; rw [hF.out, votersF, if_neg (by simp [h0]), if_pos h3]
            have h3I : (vl.length : Int) < 3 := by omega
            clear hF h0
            go_wp2_with fail
            go_ret
            exact ⟨ret_int e10.out.symm, hb1⟩
          · have e0 : Hid (certF au rd bl pl vl = 0) := by show _ = _; rw [hF.out, votersF, if_neg (by simp [h0]), if_neg h3]
            have h3I : ¬ (vl.length : Int) < 3 := by omega
            clear hF h0
            go_wp2_with fail
            go_ret
            exact ⟨ret_int e0.out.symm, hb1⟩
  · have hF : Hid (certF au rd bl pl vl = headerF au rd bl pl) := by show _ = _; rw [certF, if_pos h1]
    generalize headerF au rd bl pl = z at *
    go_wp2_with fail
    go_ret
    exact ⟨ret_int hF.out.symm, hb1⟩
end Go.Proofs.YtnpjhpmgelaonaaDoor

namespace Go.Proofs.YtnpjhpmgelaonaaDoor
open Go.RowKit

/-- What Missing answers. -/
def MisAt (w w' : World) (e : Ending) (l : List CV) (rd : Int) (pl : List Part) : Prop :=
  (parF l rd (bss pl) = 9 ∧ e = .returned (.tuple #[.slice none 0 0, .int .i64 9])) ∨ (parF l rd (bss pl) ≠ 9 ∧ ∃ ma mc ms, e = .returned (.tuple #[.slice ma (List.length ms) mc, .int .i64 0]) ∧ bss ms = misF l (bss pl) ∧ ListAt w' ma mc ms ∧ Fresh w.heap.size ma ms)
set_option maxRecDepth 100000 in
set_option maxHeartbeats 1000000 in
theorem missing_any (ls : List Ct) (s : Nat) (ca : Option Addr) (cc : Nat) (da : Option Addr) (dc : Nat) (ds : List Part) (au rd : Int) (ba : Option Addr) (bn bc : Nat) (pl : List Part) (pa : Option Addr) (pc : Nat) (w : World) (hs : StkAt w s ls ca cc da dc ds) (hpl : pl.length ≤ 4) (hrd : 1 ≤ rd ∧ rd ≤ 1048576) (hp : PartsAt w pa pl) (hre : ∀ p ∈ pl, p.bs.length ≤ 140737488355328) :
    Calls Tryd.prog 40 #[.pointer (some ⟨s, 0, none⟩), .agg #[.int .i64 au, .int .i64 rd, .slice ba bn bc, .slice pa pl.length pc]] w fun e w' => MisAt w w' e (cvs ls) rd pl ∧ Below w.heap.size w w' := by
  have hA : Below w.heap.size w (w.alloc (.cells #[.int .i64 au, .int .i64 rd, .slice ba bn bc, .slice pa pl.length pc] 33)) := (Below.refl _ _).alloc (Nat.le_refl _) _
  have r1 := heap_alloc_new w (.cells #[.int .i64 au, .int .i64 rd, .slice ba bn bc, .slice pa pl.length pc] 33)
  obtain ⟨i, hi, hz0, hz1, hz2⟩ := info_parts infoBs
  have hsm := hs.at'.small
  have hcl := hs.at'.cle
  have hcm := hs.at'.cmax
  go_enter Tryd.func40, Tryd.ntmps40
  go_wp2_with fail
  generalize w.alloc (.cells #[.int .i64 au, .int .i64 rd, .slice ba bn bc, .slice pa pl.length pc] 33) = W0 at hA r1 ⊢
  have hlt1 : w.heap.size < W0.heap.size := lt_of_heap r1
  go_loopw [13, 6] (fun j v wr => ∃ (m : Nat) (ms : List Part), m ≤ pl.length ∧ j = .int .i64 m ∧ bss ms = misTo (cvs ls) (bss pl) m ∧ Apart wr W0.heap.size v ms ∧ parTo (cvs ls) rd (bss pl) m ≠ 9 ∧ wr.ownsRow W0.heap.size 41 1 v ms.length (pv ms) ∧ Below W0.heap.size W0 wr) (fun j _ _ => pl.length - (intOf j).toNat)
  case atStart => exact ⟨0, [], Nat.zero_le _, rfl, rfl, (fun p hp => by cases hp), by rw [parTo]; decide, World.ownsRow_nil _ _ _ _, Below.refl _ _⟩
  case round =>
    obtain ⟨m, ms, hm, rfl, hS, hap, hno, ho, hbr⟩ := hrel
    have hAr := hA.trans (hbr.mono hA.size)
    have s1 := (hbr.block _ hlt1).trans r1
    have d1 : wr.cell? ⟨w.heap.size, 1, none⟩ = some (.int .i64 rd) := cells_at s1 1 _ rfl
    have hsr := hs.below hAr
    have hbx := hsr.box
    have b0 : wr.cell? ⟨s, 0, none⟩ = some (.slice ca ls.length cc) := cells_at hbx 0 _ rfl
    have hpr := hp.below hAr
    have hml : ms.length ≤ m := by
      have := congrArg List.length hS
      rw [bss_length] at this
      rw [this]; exact misTo_length _ _ _
    by_cases hlt : m < pl.length
    · rcases hpr.cells with hcc | ⟨pb, po, rfl, hcc⟩
      · subst hcc; simp at hlt
      have ck := hcc m hlt
      have hx := hpr.each (pl[m]) (List.getElem_mem hlt)
      have hxr := hre (pl[m]) (List.getElem_mem hlt)
      have hltI : (m : Int) < pl.length := by omega
      have hg := bss_get pl m hlt
      have hlb : m < (bss pl).length := by rw [bss_length]; exact hlt
      have Hn : Hid (pOf (cvs ls) (pl[m]).bs < 0 → parTo (cvs ls) rd (bss pl) (m + 1) ≠ 9 ∧ misTo (cvs ls) (bss pl) (m + 1) = bss ms ++ [(pl[m]).bs]) := by
        show _ → _
        intro h
        refine ⟨?_, ?_⟩
        · rw [parTo_none _ _ _ m hno (by rw [hg]; exact h)]; decide
        · rw [misTo, hg, if_pos h, hS]
      have Ho : Hid (¬ pOf (cvs ls) (pl[m]).bs < 0 → (cvAt (cvs ls) (pOf (cvs ls) (pl[m]).bs).toNat).rd ≠ rd - 1 → parF (cvs ls) rd (bss pl) = 9) := by
        show _ → _ → _
        intro h1 h2
        exact parTo_order _ _ _ m (by rw [hg]; exact h1) (by rw [hg]; exact h2) hlb
      have Hk : Hid (¬ pOf (cvs ls) (pl[m]).bs < 0 → (cvAt (cvs ls) (pOf (cvs ls) (pl[m]).bs).toNat).rd = rd - 1 → parTo (cvs ls) rd (bss pl) (m + 1) ≠ 9 ∧ bss ms = misTo (cvs ls) (bss pl) (m + 1)) := by
        show _ → _ → _
        intro h1 h2
        refine ⟨?_, ?_⟩
        · rw [parTo_ok _ _ _ m (by rw [hg]; exact h1) (by rw [hg]; exact h2)]; exact hno
        · rw [misTo, hg, if_neg h1, hS]
      have hB := pOf_bounds (cvs ls) (pl[m]).bs
      rw [cvs_length] at hB
      have hcl' : ∀ k : Nat, k < ls.length → ∃ sb so, ca = some ⟨sb, so, none⟩ ∧ wr.cell? ⟨sb, so + k * 5 + 1, none⟩ = some (.int .i64 (cvAt (cvs ls) k).rd) := fun k hk => by
        obtain ⟨sb, so, e, _, c1, _⟩ := hsr.at'.certs.at k hk
        exact ⟨sb, so, e, by rw [cvAt_get ls k hk]; exact c1⟩
      have HCL : Hid _ := hcl'
      clear hno hg hcc hlb hcl' hS
      generalize pl[m] = p at *
      go_wp2_with fail
      refine (withDigest_any ls s ca cc da dc ds p.bs p.sa _ p.cap wr hsr rfl hx).mono ?_
      rintro e w1 ⟨he, hb1⟩
      subst he
      dsimp only
      have hB1 := hbr.trans (hb1.mono hbr.size)
      have hob := owns_keep ho hb1
      have t1 := (hb1.cell (p := ⟨w.heap.size, 1, none⟩) (block_lt_of_cell d1)).trans d1
      have t0 := (hb1.cell (p := ⟨s, 0, none⟩) (block_lt_of_cell b0)).trans b0
      have hap1 : Apart w1 W0.heap.size _ ms := hap.same hb1.size (fun p hp b so e => hb1.block b ((hap p hp).2 b so e).2.1)
      generalize pOf (cvs ls) p.bs = r at *
      by_cases hr : r < 0
      · obtain ⟨H1, H2⟩ := Hn.out hr
        have HX : Hid _ := H1
        have HY : Hid _ := H2
        clear Hn Ho Hk HCL H1 H2
        obtain rfl : r = -1 := by omega
        go_wp2_with fail
        refine (clone_any p.bs p.sa _ p.cap w1 rfl (hx.below hb1) hxr).mono ?_
        rintro e w2 ⟨ra, rc, he, hs2, hrow, hb2⟩
        subst he
        dsimp only
        have hB2 := hB1.trans (hb2.mono hB1.size)
        have hob2 := owns_keep hob hb2
        go_wp2_with (at_builtin; refine wpList_append_own_at _ rfl _ _ 31 rfl W0.heap.size 41 i (.slice none 0 0) 1 24 Tryd.underlying31 hi hz0 hz1 hz2 rfl (by decide) _ ms.length _ rfl (World.ownsRow.alloc hob2 _) ⟨w2.heap.size, 0, none⟩ 1 1 [.slice ra p.bs.length rc] rfl rfl (cells_new _ _ _) (by intro u hu; simp at hu; subst hu; rfl) (by unfold maxLen; omega) (by omega) (le_alloc hB2.size _) ?_; intro v1 w3 ho3 hg3 _ hat)
        have G := Grew.of hg3 hat
        have hb12 := hb1.trans (hb2.mono hb1.size)
        have hap3 := hap.more_at (q := ⟨ra, rc, p.bs⟩) hbr.size ho hb12 (fun sb so e => ⟨Nat.le_trans hb1.size (hrow sb so e).1, (hrow sb so e).2⟩) hs2 G
        have hB3 := Below.grown (hB2.alloc hB2.size _) hg3 (le_alloc hB2.size _) (fun q e => (hob2.lt q e).1)
        go_roundw
        case rel =>
          have hR : ∃ (m' : Nat) (ms' : List Part), m' ≤ pl.length ∧ (Value.int .i64 ((m : Int) + 1)) = .int .i64 m' ∧ bss ms' = misTo (cvs ls) (bss pl) m' ∧ Apart w3 W0.heap.size v1 ms' ∧ parTo (cvs ls) rd (bss pl) m' ≠ 9 ∧ w3.ownsRow W0.heap.size 41 1 v1 ms'.length (pv ms') ∧ Below W0.heap.size W0 w3 :=
            ⟨m + 1, ms ++ [⟨ra, rc, p.bs⟩], by omega, by go_num, by rw [HY.out]; simp [bss], hap3, HX.out, by simpa [pv, Part.val] using ho3, hB3⟩
          first | exact hR | ((repeat apply Exists.intro); exact ⟨hR, rfl⟩)
        case measure => simp [intOf]; omega
      · obtain ⟨k, rfl⟩ : ∃ k : Nat, r = k := ⟨r.toNat, by omega⟩
        obtain ⟨sb, so, rfl, c1⟩ := HCL.out k (by omega)
        replace c1 := (hb1.cell (p := ⟨sb, so + k * 5 + 1, none⟩) (block_lt_of_cell c1)).trans c1
        simp only [Int.toNat_natCast] at Ho Hk
        clear Hn HCL
        generalize (cvAt (cvs ls) k).rd = y at *
        have hwr : IntKind.i64.wrap (rd - 1) = rd - 1 := by rw [IntKind.wrap_i64]; omega
        have hkI : (k : Int) < ls.length := by omega
        by_cases hy : y = rd - 1
        · obtain ⟨H1, H2⟩ := Hk.out (by omega) hy
          have HX : Hid _ := H1
          have HY : Hid _ := H2
          subst hy
          clear Hk Ho H1 H2
          have hwe : (rd - 1 != IntKind.i64.wrap (rd - 1)) = false := by rw [hwr]; simp
          go_wp2_with fail
          go_region_held3 (fun w' => w'.cell? ⟨s, 0, none⟩ = some (.slice (some ⟨sb, so, none⟩) ls.length cc) ∧ w'.cell? ⟨w.heap.size, 1, none⟩ = some (.int .i64 rd) ∧ w'.cell? ⟨sb, so + k * 5 + 1, none⟩ = some (.int .i64 (rd - 1))) (go_keep) (fail)
          all_goals
            go_wp2_with fail
            go_roundw
            case rel =>
              have hR : ∃ (m' : Nat) (ms' : List Part), m' ≤ pl.length ∧ (Value.int .i64 ((m : Int) + 1)) = .int .i64 m' ∧ bss ms' = misTo (cvs ls) (bss pl) m' ∧ Apart w1.drew W0.heap.size u6 ms' ∧ parTo (cvs ls) rd (bss pl) m' ≠ 9 ∧ w1.drew.ownsRow W0.heap.size 41 1 u6 ms'.length (pv ms') ∧ Below W0.heap.size W0 w1.drew :=
                ⟨m + 1, ms, by omega, by go_num, HY.out, hap1.same (Nat.le_refl _) (fun p hp b so e => rfl), HX.out, hob.drew, hB1.drew⟩
              first | exact hR | ((repeat apply Exists.intro); exact ⟨hR, rfl⟩)
            case measure => simp [intOf]; omega
        · have He : Hid (parF (cvs ls) rd (bss pl) = 9) := Ho.out (by omega) hy
          clear Hk Ho
          have hwe : (y != IntKind.i64.wrap (rd - 1)) = true := by rw [hwr]; simpa using hy
          go_wp2_with fail
          go_region_held3 (fun w' => w'.cell? ⟨s, 0, none⟩ = some (.slice (some ⟨sb, so, none⟩) ls.length cc) ∧ w'.cell? ⟨w.heap.size, 1, none⟩ = some (.int .i64 rd) ∧ w'.cell? ⟨sb, so + k * 5 + 1, none⟩ = some (.int .i64 y)) (go_keep) (fail)
          all_goals
            go_wp2_with fail
            go_ret2
            exact ⟨.inl ⟨He.out, rfl⟩, (hA.trans (hB1.mono hA.size)).drew⟩
    · obtain rfl : m = pl.length := by omega
      have HF : Hid (parF (cvs ls) rd (bss pl) ≠ 9) := by
        show parTo _ _ _ _ ≠ 9
        rw [bss_length]; exact hno
      have HM : Hid (bss ms = misF (cvs ls) (bss pl)) := by
        show bss ms = misTo _ _ _
        rw [bss_length]; exact hS
      clear hno hS
      obtain ⟨ra, rc, hv, hl, hL, hfr⟩ := listAt_of_owns ho hap
      subst hv
      go_wp2_with fail
      go_ret2
      exact ⟨.inr ⟨HF.out, ra, rc, ms, rfl, HM.out, hL (by omega), ⟨fun sb so e => Nat.le_trans hA.size (hfr.row sb so e), fun p hp sb so e => Nat.le_trans hA.size (hfr.each p hp sb so e)⟩⟩, hAr⟩
set_option maxRecDepth 100000 in
set_option maxHeartbeats 1000000 in
theorem takes_any (ls : List Ct) (s : Nat) (ca : Option Addr) (cc : Nat) (da : Option Addr) (dc : Nat) (ds : List Part) (c : Ct) (w : World) (hs : StkAt w s ls ca cc da dc ds) (hc : CtAt w c) :
    Calls Tryd.prog 43 #[.pointer (some ⟨s, 0, none⟩), .agg #[.int .i64 c.au, .int .i64 c.rd, .slice c.ba c.bl.length c.bc, .slice c.pa c.pl.length c.pc, .slice c.va c.vl.length c.vc]] w fun e w' => e = .returned (.int .i64 (stkE (cvs ls) c.v)) ∧ Below w.heap.size w w' := by
  have hA := (Below.refl w.heap.size w).alloc (Nat.le_refl _) (.cells #[.int .i64 c.au, .int .i64 c.rd, .slice c.ba c.bl.length c.bc, .slice c.pa c.pl.length c.pc, .slice c.va c.vl.length c.vc] 36)
  have r0 := heap_alloc_new w (.cells #[.int .i64 c.au, .int .i64 c.rd, .slice c.ba c.bl.length c.bc, .slice c.pa c.pl.length c.pc, .slice c.va c.vl.length c.vc] 36)
  have HE : Hid (stkE (cvs ls) c.v = if c.v.f ≠ 0 then c.v.f else if takF (cvs ls) c.au c.rd (bss c.pl) ≠ 0 then takF (cvs ls) c.au c.rd (bss c.pl) else if 400 ≤ ls.length then 6 else 0) := by
    show _ = _
    rw [stkE, cvs_length]; rfl
  have hsm := hs.at'.small
  go_enter Tryd.func43, Tryd.ntmps43
  go_wp2_with fail
  generalize w.alloc (.cells #[.int .i64 c.au, .int .i64 c.rd, .slice c.ba c.bl.length c.bc, .slice c.pa c.pl.length c.pc, .slice c.va c.vl.length c.vc] 36) = W0 at hA r0 ⊢
  have c0 := hc.below hA
  have HCK := checkCert_any c.au c.rd c.ba c.bc c.bl c.pa c.pc c.pl c.va c.vc c.vl W0 c0.hat.lb c0.hat.lp c0.ints c0.vle
  rw [Ct.f_v] at HCK
  refine HCK.mono ?_
  rintro e w1 ⟨he, hb1⟩
  subst he
  dsimp only
  clear HCK c0
  have hB1 := hA.trans (hb1.mono hA.size)
  have r1 := (hb1.block _ (lt_of_heap r0)).trans r0
  by_cases hx : c.v.f = 0
  · have HE1 : Hid (stkE (cvs ls) c.v = if takF (cvs ls) c.au c.rd (bss c.pl) ≠ 0 then takF (cvs ls) c.au c.rd (bss c.pl) else if 400 ≤ ls.length then 6 else 0) := by
      show _ = _
      rw [HE.out, if_neg (fun h => h hx)]
    obtain ⟨y1, y2, y3, y4, y5, y6⟩ := headerF_ok (certF_head (vl := c.vl) (by rw [Ct.f_v]; exact hx))
    have HP6 : Hid (∀ p ∈ c.pl, p.bs.length ≤ 140737488355328) := by
      show ∀ p, _
      exact fun p hp => by rw [y6 p hp]; decide
    rw [hx]
    clear hx HE y1 y3 y5 y6
    have d0 := cells_at r1 0 _ rfl
    have d1 := cells_at r1 1 _ rfl
    go_wp2_with fail
    refine (has_stk ls s ca cc da dc ds c.au c.rd w1 (hs.below hB1)).mono ?_
    rintro e w2 ⟨he, hb2⟩
    subst he
    dsimp only
    have hB2 := hB1.trans (hb2.mono hB1.size)
    have r2 := (hb2.block _ (lt_of_heap r1)).trans r1
    clear d0 d1
    by_cases hh : 0 ≤ cOf (cvs ls) c.au c.rd
    · have HT : Hid (stkE (cvs ls) c.v = 7) := by
        show _ = _
        have e7 : takF (cvs ls) c.au c.rd (bss c.pl) = 7 := by rw [takF, if_pos hh]
        rw [HE1.out, e7]; rfl
      rw [decide_eq_true hh]
      clear hh HE1
      go_wp2_with fail
      go_ret
      exact ⟨ret_int HT.out.symm, hB2⟩
    · have HE2 : Hid (takF (cvs ls) c.au c.rd (bss c.pl) = parF (cvs ls) c.rd (bss c.pl)) := by
        show _ = _
        rw [takF, if_neg hh]
      rw [decide_eq_false hh]
      clear hh
      have d0 := cells_at r2 0 _ rfl
      have d1 := cells_at r2 1 _ rfl
      have d2 := cells_at r2 2 _ rfl
      have d3 := cells_at r2 3 _ rfl
      go_wp2_with fail
      refine (missing_any ls s ca cc da dc ds c.au c.rd c.ba c.bl.length c.bc c.pl c.pa c.pc w2 (hs.below hB2) y4 y2 (hc.below hB2).hat.lp.parts HP6.out).mono ?_
      rintro e w3 ⟨hM, hb3⟩
      have hB3 := hB2.trans (hb3.mono hB2.size)
      have b0 := cells_at (hs.below hB3).box 0 _ rfl
      clear d0 d1 d2 d3
      rcases hM with ⟨h9, he⟩ | ⟨h9, ma, mc, ms, he, hS, -, -⟩
      · have HT : Hid (stkE (cvs ls) c.v = 9) := by
          show _ = _
          rw [HE1.out, HE2.out, h9]; rfl
        clear h9 HE1 HE2
        subst he
        dsimp only
        go_wp2_with fail
        go_ret
        exact ⟨ret_int HT.out.symm, hB3⟩
      · have hlen : ms.length = (misF (cvs ls) (bss c.pl)).length := by rw [← hS, bss_length]
        have HP : Hid (parF (cvs ls) c.rd (bss c.pl) = if ms.length = 0 then 0 else 8) := by
          show _ = _
          rw [hlen]
          exact parTo_mis _ _ _ _ h9
        clear h9 hS hlen
        subst he
        dsimp only
        by_cases hz : ms.length = 0
        · rw [hz]
          by_cases h4 : 400 ≤ ls.length
          · have HT : Hid (stkE (cvs ls) c.v = 6) := by
              show _ = _
              rw [HE1.out, HE2.out, HP.out, if_pos hz, if_neg (by simp), if_pos h4]
            have h4I : (400 : Int) ≤ ls.length := by omega
            clear HP HE1 HE2
            go_wp2_with fail
            go_ret
            exact ⟨ret_int HT.out.symm, hB3⟩
          · have HT : Hid (stkE (cvs ls) c.v = 0) := by
              show _ = _
              rw [HE1.out, HE2.out, HP.out, if_pos hz, if_neg (by simp), if_neg h4]
            have h4I : ¬ (400 : Int) ≤ ls.length := by omega
            clear HP HE1 HE2
            go_wp2_with fail
            go_ret
            exact ⟨ret_int HT.out.symm, hB3⟩
        · have HT : Hid (stkE (cvs ls) c.v = 8) := by
            show _ = _
            rw [HE1.out, HE2.out, HP.out, if_neg hz]; rfl
          have hzI : (0 : Int) < ms.length := by omega
          clear HP HE1 HE2
          go_wp2_with fail
          go_ret
          exact ⟨ret_int HT.out.symm, hB3⟩
  · have HT : Hid (stkE (cvs ls) c.v = c.v.f) := by
      show _ = _
      rw [HE.out, if_pos hx]
    have hxn : (c.v.f != 0) = true := by simpa using hx
    clear HE
    generalize c.v.f = x at *
    go_wp2_with fail
    go_ret
    exact ⟨ret_int HT.out.symm, hB1⟩
end Go.Proofs.YtnpjhpmgelaonaaDoor

namespace Go.Proofs.YtnpjhpmgelaonaaDoor
open Go.RowKit

set_option maxRecDepth 100000 in
theorem infoInt2 : (Tryd.prog.info? 3).map (fun i => (i.zero, i.size, i.bytes)) = some (some (.int .i64 0), 1, 8) := by kernel_rfl
def iv (vl : List Int) : List Value := vl.map (Value.int .i64)
set_option maxRecDepth 100000 in
theorem iv_length (vl : List Int) : (iv vl).length = vl.length := by simp [iv]
set_option maxRecDepth 100000 in
theorem iv_one (vl : List Int) : ∀ u ∈ iv vl, u.oneCell' = true := by
  intro u hu; simp [iv] at hu; obtain ⟨x, _, rfl⟩ := hu; rfl
set_option maxRecDepth 100000 in
theorem intsAt_of_owns {w : World} {base n : Nat} {v : Value} {vl : List Int} (h : w.ownsRow base 3 1 v n (iv vl)) : ∃ za zc, v = .slice za n zc ∧ n = vl.length ∧ IntsAt w za vl ∧ ∀ sb so, za = some ⟨sb, so, none⟩ → base ≤ sb := by
  have hl : n = vl.length := by have := h.1; rw [iv_length] at this; omega
  rcases h.2 with ⟨rfl, hn⟩ | ⟨g, cap, cur, rfl, _⟩
  · have hb : vl = [] := List.eq_nil_of_length_eq_zero (by omega)
    subst hn hb
    exact ⟨none, 0, rfl, rfl, ⟨.inl rfl⟩, fun _ _ e => by cases e⟩
  · refine ⟨some ⟨g, 0, none⟩, cap, rfl, hl, ⟨.inr ⟨g, 0, rfl, fun j hj => ?_⟩⟩, fun sb so e => by cases e; exact (h.lt _ rfl).1⟩
    rw [Nat.zero_add, World.ownsRow.cellAt h j (by omega)]
    simp [iv, hj]
set_option maxRecDepth 100000 in
theorem IntsAt.setCell {w : World} {va : Option Addr} {vl : List Int} (h : IntsAt w va vl) (b j : Nat) (v : Value) (hne : ∀ sb so, va = some ⟨sb, so, none⟩ → b ≠ sb) : IntsAt (w.setCell ⟨b, j, none⟩ v) va vl := by
  refine ⟨?_⟩
  rcases h.cells with h | ⟨sb, so, rfl, hc⟩
  · exact .inl h
  · exact .inr ⟨sb, so, rfl, fun k hk => (World.cell?_setCell_far _ _ _ _ (hne sb so rfl)).trans (hc k hk)⟩
end Go.Proofs.YtnpjhpmgelaonaaDoor
