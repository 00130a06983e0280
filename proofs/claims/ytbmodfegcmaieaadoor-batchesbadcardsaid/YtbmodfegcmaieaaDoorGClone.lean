/- bytes.Clone: new memory with the same bytes. -/
import Derived.Test.YtbmodfegcmaieaaDoorGCalls
import Derived.Test.YtbmodfegcmaieaaDoorGEqual
import Derived.Deep.RegionHeld3
import Derived.Test.YtbmodfegcmaieaaDoorGCtFar
import Derived.Test.YtbmodfegcmaieaaDoorGApp
import Derived.Test.YtbmodfegcmaieaaDoorGAppR
namespace Go.Proofs.YtbmodfegcmaieaaDoor
open Go.RowKit

set_option maxRecDepth 100000 in
set_option maxHeartbeats 400000 in
theorem of1_any (s : Ct) (au rd : Int) (ga gr : Nat) (w : World) (ha : w.cell? ⟨ga, 0, none⟩ = some (.int .i64 au)) (hr : w.cell? ⟨gr, 0, none⟩ = some (.int .i64 rd)) :
    Calls Tryd.prog 108 #[.agg #[.int .i64 s.au, .int .i64 s.rd, .slice s.ba s.bl.length s.bc, .slice s.pa s.pl.length s.pc, .slice s.va s.vl.length s.vc], .pointer (some ⟨ga, 0, none⟩), .pointer (some ⟨gr, 0, none⟩)] w fun e w' => e = .returned (.bool (decide (s.au = au ∧ s.rd = rd))) ∧ Below w.heap.size w w' := by
  have la := block_lt_of_cell ha
  have lr := block_lt_of_cell hr
  have na : ga ≠ w.heap.size := by simp at la; omega
  have nr : gr ≠ w.heap.size := by simp at lr; omega
  go_enter Tryd.func108, Tryd.ntmps108
  go_wp2_with fail
  all_goals (go_ret; exact ⟨by first | (simp_all; done) | (simp_all; rfl), (Below.refl _ _).alloc (Nat.le_refl _) _⟩)

set_option maxRecDepth 100000 in
set_option maxHeartbeats 1000000 in
theorem indexCert_any (ls : List Ct) (sa : Option Addr) (n cap : Nat) (au rd : Int) (ga gr : Nat) (w : World) (hn : n = ls.length) (hk2 : n ≤ 3000000000000000000) (hp : CertsAt w sa ls) (ha : w.cell? ⟨ga, 0, none⟩ = some (.int .i64 au)) (hr : w.cell? ⟨gr, 0, none⟩ = some (.int .i64 rd)) :
    Calls Tryd.prog 109 #[.slice sa n cap, .func (.func 108) #[] #[.pointer (some ⟨ga, 0, none⟩), .pointer (some ⟨gr, 0, none⟩)]] w fun e w' => e = .returned (.int .i64 (cOf (cvs ls) au rd)) ∧ Below w.heap.size w w' := by
  subst hn
  go_enter Tryd.func109, Tryd.ntmps109
  go_wp2_with fail
  go_loopw [8] (fun i wr => ∃ m : Nat, m ≤ ls.length ∧ i = .int .i64 m ∧ fidx (cHit (cvs ls) au rd) m = -1 ∧ Below w.heap.size w wr) (fun i _ => ls.length - (intOf i).toNat)
  case atStart => exact ⟨0, Nat.zero_le _, rfl, rfl, Below.refl _ _⟩
  case round =>
    obtain ⟨m, hm, rfl, hno, hb⟩ := hrel
    by_cases hlt : m < ls.length
    · obtain ⟨sb, so, rfl, c0, c1, c2, c3, c4⟩ := (hp.below hb).at m hlt
      have hg := cHit_get ls au rd m hlt
      have haw := (hb.cell (p := ⟨ga, 0, none⟩) (block_lt_of_cell ha)).trans ha
      have hrw := (hb.cell (p := ⟨gr, 0, none⟩) (block_lt_of_cell hr)).trans hr
      have hltI : (m : Int) < ls.length := by omega
      have hF : Hid (decide ((ls[m]).au = au ∧ (ls[m]).rd = rd) = true → cOf (cvs ls) au rd = m) := by
        show _ → _
        intro h
        exact fidx_hit _ m _ hno (by rw [hg]; exact h) (by rw [cvs_length]; exact hlt)
      have hN : Hid (decide ((ls[m]).au = au ∧ (ls[m]).rd = rd) = false → fidx (cHit (cvs ls) au rd) (m + 1) = -1) := by
        show _ → _
        intro h
        exact fidx_step _ m hno (by rw [hg]; exact h)
      clear hno hg
      generalize ls[m] = s at *
      go_wp2_with fail
      refine (of1_any s au rd ga gr wr haw hrw).mono ?_
      rintro e w1 ⟨he, hb1⟩
      subst he
      dsimp only
      have hB1 := hb.trans (hb1.mono hb.size)
      generalize decide (s.au = au ∧ s.rd = rd) = x at *
      cases x
      · have hn : Hid _ := hN.out rfl
        clear hF hN
        go_wp2_with fail
        go_roundw
        case rel => exact ⟨m + 1, by omega, by go_num, hn.out, hB1⟩
        case measure => simp [intOf]; omega
      · have hn : Hid _ := hF.out rfl
        clear hF hN
        go_wp2_with fail
        go_ret
        exact ⟨ret_int hn.out.symm, hB1⟩
    · obtain rfl : m = ls.length := by omega
      have hF : Hid (cOf (cvs ls) au rd = -1) := by
        show fidx _ _ = -1
        rw [cvs_length]; exact hno
      clear hno
      go_wp2_with fail
      go_ret
      exact ⟨ret_int hF.out.symm, hb⟩
set_option maxRecDepth 100000 in
set_option maxHeartbeats 400000 in
theorem of_any (ls : List Ct) (s : Nat) (ca : Option Addr) (cc : Nat) (da : Option Addr) (dc : Nat) (ds : List Part) (au rd : Int) (w : World) (hs : StkAt w s ls ca cc da dc ds) :
    Calls Tryd.prog 86 #[.pointer (some ⟨s, 0, none⟩), .int .i64 au, .int .i64 rd] w fun e w' => e = .returned (.int .i64 (cOf (cvs ls) au rd)) ∧ Below w.heap.size w w' := by
  have hmf : ∀ (fn : Fn) (first cap : Array Value) (w : World), (Instr.makeFunc fn first cap).run Tryd.prog w = .ok (.func fn first cap) w := fun _ _ _ _ => rfl
  have hsm := hs.at'.small
  have hc := hs.at'.certs
  have hbx := hs.box
  clear hs
  have hR : Below w.heap.size w ((w.alloc (.cells #[.int .i64 au] 3)).alloc (.cells #[.int .i64 rd] 3)) := ((Below.refl _ _).alloc (Nat.le_refl _) _).alloc (by rw [size_alloc]; omega) _
  have k1 : ((w.alloc (.cells #[.int .i64 au] 3)).alloc (.cells #[.int .i64 rd] 3)).cell? ⟨w.heap.size, 0, none⟩ = some (.int .i64 au) := cells_at (heap_keep (heap_alloc_new w _)) 0 _ rfl
  have k2 : ((w.alloc (.cells #[.int .i64 au] 3)).alloc (.cells #[.int .i64 rd] 3)).cell? ⟨w.heap.size + 1, 0, none⟩ = some (.int .i64 rd) := by
    have := laid_cell (w.alloc (.cells #[.int .i64 au] 3)) #[.int .i64 rd] 3 0 _ rfl
    rw [size_alloc] at this
    exact this
  have k3 := cells_at (heap_keep (o := .cells #[.int .i64 rd] 3) (heap_keep (o := .cells #[.int .i64 au] 3) hbx)) 0 _ rfl
  go_enter Tryd.func86, Tryd.ntmps86
  go_wp2_with fail
  generalize (w.alloc (.cells #[.int .i64 au] 3)).alloc (.cells #[.int .i64 rd] 3) = W0 at hR k1 k2 k3 ⊢
  refine (indexCert_any ls ca ls.length cc au rd _ _ W0 rfl (by omega) (hc.below hR) k1 k2).mono ?_
  rintro e w1 ⟨he, hb1⟩
  subst he
  dsimp only
  go_wp2_with fail
  go_ret
  exact ⟨rfl, hR.trans (hb1.mono hR.size)⟩
set_option maxRecDepth 100000 in
theorem with_closure (xs ys : List Int) (sa sb : Option Addr) (n m c d g : Nat) (w : World) (hn : n = xs.length) (hm : m = ys.length) (ha : SliceAt w sa c xs) (hb : SliceAt w sb d ys) (hg : w.cell? ⟨g, 0, none⟩ = some (.slice sb m d)) :
    Calls Tryd.prog 100 #[.slice sa n c, .pointer (some ⟨g, 0, none⟩)] w fun e w' => e = .returned (.bool (decide (txL xs = txL ys))) ∧ w = w' := by
  go_enter Tryd.func100, Tryd.ntmps100
  go_wp2_with fail
  refine (equal_any xs ys _ _ _ _ _ _ w (by first | exact hn | rfl) (by first | exact hm | rfl) ha hb).mono ?_
  rintro e w1 ⟨he, rfl⟩
  subst he
  dsimp only
  go_wp2_with fail
  go_ret
  exact ⟨rfl, rfl⟩
set_option maxRecDepth 100000 in
set_option maxHeartbeats 1000000 in
theorem indexDig_any (l : List CV) (ds : List Part) (da : Option Addr) (n cap : Nat) (bs : List Int) (ka : Option Addr) (kn kc g : Nat) (w : World) (hn : n = ds.length) (hS : bss ds = l.map CV.d) (hk2 : n ≤ 3000000000000000000) (hd : PartsAt w da ds) (hkn : kn = bs.length) (hk : SliceAt w ka kc bs) (hg : w.cell? ⟨g, 0, none⟩ = some (.slice ka kn kc)) :
    Calls Tryd.prog 102 #[.slice da n cap, .func (.func 100) #[] #[.pointer (some ⟨g, 0, none⟩)]] w fun e w' => e = .returned (.int .i64 (pOf l bs)) ∧ w = w' := by
  subst hn hkn
  have HL : Hid (ds.length = l.length) := digs_length hS
  have HS : Hid (bss ds = l.map CV.d) := hS
  clear hS
  go_enter Tryd.func102, Tryd.ntmps102
  go_wp2_with fail
  go_loop [8] (fun i => ∃ m : Nat, m ≤ ds.length ∧ i = .int .i64 m ∧ fidx (dHit l bs) m = -1) (fun i => ds.length - (intOf i).toNat)
  case atStart => exact ⟨0, Nat.zero_le _, rfl, rfl⟩
  case round =>
    obtain ⟨m, hm, rfl, hno⟩ := hrel
    by_cases hlt : m < ds.length
    · rcases hd.cells with hc | ⟨sb, so, rfl, hc⟩
      · subst hc; simp at hlt
      have ck := hc m hlt
      have hx := hd.each (ds[m]) (List.getElem_mem hlt)
      have hltI : (m : Int) < ds.length := by omega
      have hgt := digs_get HS.out m hlt
      have Hf : Hid (txL (ds[m]).bs = txL bs → pOf l bs = m) := by
        show _ → _
        intro h
        exact fidx_hit _ m _ hno (by rw [dHit, hgt]; simpa using h) (by rw [← HL.out]; exact hlt)
      have Hn : Hid (¬ txL (ds[m]).bs = txL bs → fidx (dHit l bs) (m + 1) = -1) := by
        show _ → _
        intro h
        exact fidx_step _ m hno (by rw [dHit, hgt]; simpa using h)
      clear hno hgt hc
      generalize ds[m] = p at *
      go_wp2_with fail
      refine (with_closure p.bs bs p.sa ka _ _ p.cap kc g w rfl rfl hx hk hg).mono ?_
      rintro e w1 ⟨he, rfl⟩
      subst he
      dsimp only
      by_cases h : txL p.bs = txL bs
      · have He : Hid (pOf l bs = m) := Hf.out h
        rw [decide_eq_true h]
        clear Hf Hn h
        go_wp2_with fail
        go_ret
        exact ⟨ret_int He.out.symm, rfl⟩
      · have He : Hid (fidx (dHit l bs) (m + 1) = -1) := Hn.out h
        rw [decide_eq_false h]
        clear Hf Hn h
        go_wp2_with fail
        go_round
        case rel => exact ⟨m + 1, by omega, by go_num, He.out⟩
        case measure => simp [intOf]; omega
    · obtain rfl : m = ds.length := by omega
      have He : Hid (pOf l bs = -1) := by
        show fidx _ _ = -1
        rw [← HL.out]; exact hno
      clear hno
      go_wp2_with fail
      go_ret
      exact ⟨ret_int He.out.symm, rfl⟩
set_option maxRecDepth 100000 in
set_option maxHeartbeats 400000 in
theorem withDigest_any (ls : List Ct) (s : Nat) (ca : Option Addr) (cc : Nat) (da : Option Addr) (dc : Nat) (ds : List Part) (bs : List Int) (ka : Option Addr) (kn kc : Nat) (w : World) (hs : StkAt w s ls ca cc da dc ds) (hkn : kn = bs.length) (hk : SliceAt w ka kc bs) :
    Calls Tryd.prog 79 #[.pointer (some ⟨s, 0, none⟩), .slice ka kn kc] w fun e w' => e = .returned (.int .i64 (pOf (cvs ls) bs)) ∧ Below w.heap.size w w' := by
  have hmf : ∀ (fn : Fn) (first cap : Array Value) (w : World), (Instr.makeFunc fn first cap).run Tryd.prog w = .ok (.func fn first cap) w := fun _ _ _ _ => rfl
  have hsm := hs.at'.small
  subst hkn
  have hdl : Hid (ls.length = ds.length) := by
    show _ = _
    rw [hs.at'.len]
  have hd := hs.at'.digs.parts
  have HS : Hid (bss ds = (cvs ls).map CV.d) := hs.at'.same
  have hbx := hs.box
  clear hs
  have hR : Below w.heap.size w (w.alloc (.cells #[.slice ka bs.length kc] 46)) := (Below.refl _ _).alloc (Nat.le_refl _) _
  have k1 : (w.alloc (.cells #[.slice ka bs.length kc] 46)).cell? ⟨w.heap.size, 0, none⟩ = some (.slice ka bs.length kc) := by simp
  have k3 := cells_at (heap_keep (o := .cells #[.slice ka bs.length kc] 46) hbx) 1 _ rfl
  go_enter Tryd.func79, Tryd.ntmps79
  go_wp2_with fail
  generalize w.alloc (.cells #[.slice ka bs.length kc] 46) = W0 at hR k1 k3 ⊢
  refine (indexDig_any (cvs ls) ds da ls.length dc bs ka bs.length kc _ W0 hdl.out HS.out (by omega) (hd.below hR) rfl (hk.below hR) k1).mono ?_
  rintro e w1 ⟨he, rfl⟩
  subst he
  dsimp only
  go_wp2_with fail
  go_ret
  exact ⟨rfl, hR⟩
set_option maxRecDepth 100000 in
set_option maxHeartbeats 400000 in
theorem has_stk (ls : List Ct) (s : Nat) (ca : Option Addr) (cc : Nat) (da : Option Addr) (dc : Nat) (ds : List Part) (au rd : Int) (w : World) (hs : StkAt w s ls ca cc da dc ds) :
    Calls Tryd.prog 126 #[.pointer (some ⟨s, 0, none⟩), .int .i64 au, .int .i64 rd] w fun e w' => e = .returned (.bool (decide (0 ≤ cOf (cvs ls) au rd))) ∧ Below w.heap.size w w' := by
  go_enter Tryd.func126, Tryd.ntmps126
  go_wp2_with fail
  refine (of_any ls s ca cc da dc ds au rd w hs).mono ?_
  rintro e w1 ⟨he, hb1⟩
  subst he
  dsimp only
  go_wp2_with fail
  go_ret
  exact ⟨rfl, hb1⟩
end Go.Proofs.YtbmodfegcmaieaaDoor

namespace Go.Proofs.YtbmodfegcmaieaaDoor
open Go.RowKit

set_option maxRecDepth 100000 in
theorem cOf_snoc (l : List CV) (c : CV) (au rd : Int) : cOf (l ++ [c]) au rd = if 0 ≤ cOf l au rd then cOf l au rd else if c.au = au ∧ c.rd = rd then (l.length : Int) else -1 := by
  have e1 : fidx (cHit (l ++ [c]) au rd) l.length = fidx (cHit l au rd) l.length := fidx_congr _ _ _ (fun j hj => by
    have e : cvAt (l ++ [c]) j = cvAt l j := by simp [cvAt, List.getD, List.getElem?_append_left hj]
    rw [cHit, cHit, e])
  have e2 : cHit (l ++ [c]) au rd l.length = decide (c.au = au ∧ c.rd = rd) := by
    have e : cvAt (l ++ [c]) l.length = c := by simp [cvAt]
    rw [cHit, e]
  rw [cOf, show (l ++ [c]).length = l.length + 1 by simp, fidx, e1, e2]
  show (if 0 ≤ cOf l au rd then cOf l au rd else _) = _
  simp only [decide_eq_true_eq]
set_option maxRecDepth 100000 in
theorem dgF_len (l : List CV) (r : Int) : (dgF l r).length = (if 0 ≤ cOf l 0 r then 1 else 0) + (if 0 ≤ cOf l 1 r then 1 else 0) + (if 0 ≤ cOf l 2 r then 1 else 0) + (if 0 ≤ cOf l 3 r then 1 else 0) := by
  have h : ∀ n : Nat, (dgTo l r (n + 1)).length = (dgTo l r n).length + (if 0 ≤ cOf l (n : Int) r then 1 else 0) := fun n => by
    rw [dgTo]
    split <;> simp
  rw [dgF, h 3, h 2, h 1, h 0]
  simp [dgTo]
/-- How many are of that round. -/
def cntR (l : List CV) (r : Int) : Nat := (l.filter fun c => decide (c.rd = r)).length
set_option maxRecDepth 100000 in
theorem cntR_snoc (l : List CV) (c : CV) (r : Int) : cntR (l ++ [c]) r = cntR l r + (if c.rd = r then 1 else 0) := by
  simp only [cntR, List.filter_append, List.length_append]
  by_cases h : c.rd = r <;> simp [h]
set_option maxRecDepth 100000 in
theorem dg_snoc (l : List CV) (c : CV) (r : Int) (h : cOf l c.au c.rd < 0) (h4 : 0 ≤ c.au ∧ c.au < 4) : (dgF (l ++ [c]) r).length = (dgF l r).length + (if c.rd = r then 1 else 0) := by
  have key : ∀ a : Int, (if 0 ≤ cOf (l ++ [c]) a r then 1 else 0 : Nat) = (if 0 ≤ cOf l a r then 1 else 0) + (if c.au = a ∧ c.rd = r then 1 else 0) := fun a => by
    rw [cOf_snoc]
    by_cases h1 : 0 ≤ cOf l a r
    · have h2 : ¬ (c.au = a ∧ c.rd = r) := fun ⟨e1, e2⟩ => by rw [e1, e2] at h; omega
      simp [h1, h2]
    · by_cases h2 : c.au = a ∧ c.rd = r
      · rw [if_neg h1, if_pos h2, if_neg h1, if_pos h2, if_pos (by omega)]
      · rw [if_neg h1, if_neg h2, if_neg h1, if_neg h2, if_neg (by decide)]
  rw [dgF_len, dgF_len, key, key, key, key]
  by_cases hr : c.rd = r
  · have hc : c.au = 0 ∨ c.au = 1 ∨ c.au = 2 ∨ c.au = 3 := by omega
    rcases hc with e | e | e | e <;> simp [e, hr] <;> omega
  · simp [hr]
set_option maxRecDepth 100000 in
theorem f_author {c : CV} (h : c.f = 0) : 0 ≤ c.au ∧ c.au < 4 := (headerF_ok (certF_head (vl := c.vl) h)).1
set_option maxRecDepth 100000 in
theorem takF_cOf {l : List CV} {au rd : Int} {pl : List (List Int)} (h : takF l au rd pl = 0) : cOf l au rd < 0 := by
  rw [takF] at h
  split at h
  · cases h
  · omega
set_option maxRecDepth 100000 in
theorem dgF_cnt_take {l : List CV} (h : dagF l = 0) (r : Int) (k : Nat) (hk : k ≤ l.length) : (dgF (l.take k) r).length = cntR (l.take k) r := by
  induction k with
  | zero => rw [List.take_zero, dgF_len]; rfl
  | succ k ih =>
    have hlt : k < l.length := by omega
    have hb := (dagF_zero h).2 k hlt
    simp only [badC, Bool.or_eq_false_iff, decide_eq_false_iff_not, ne_eq, Decidable.not_not] at hb
    have e : l.take (k + 1) = l.take k ++ [cvAt l k] := by
      rw [List.take_succ_eq_append_getElem hlt]
      simp [cvAt, hlt]
    rw [e, dg_snoc _ _ _ (takF_cOf hb.2) (f_author hb.1), cntR_snoc, ih (by omega)]
set_option maxRecDepth 100000 in
theorem dgF_cnt {l : List CV} (h : dagF l = 0) (r : Int) : (dgF l r).length = cntR l r := by
  have := dgF_cnt_take h r l.length (Nat.le_refl _)
  rwa [List.take_length] at this
/-- What a stock tells of a certificate that is to be inserted. -/
def stkE (l : List CV) (c : CV) : Int := if c.f ≠ 0 then c.f else if takF l c.au c.rd c.pl ≠ 0 then takF l c.au c.rd c.pl else if 400 ≤ l.length then 6 else 0
set_option maxRecDepth 100000 in
theorem stkE_ok {l : List CV} {c : CV} (h : stkE l c = 0) : c.f = 0 ∧ takF l c.au c.rd c.pl = 0 ∧ l.length < 400 := by
  rw [stkE] at h
  by_cases h1 : c.f = 0
  · rw [if_neg (fun g => g h1)] at h
    by_cases h2 : takF l c.au c.rd c.pl = 0
    · rw [if_neg (fun g => g h2)] at h
      by_cases h3 : 400 ≤ l.length
      · rw [if_pos h3] at h; cases h
      · exact ⟨h1, h2, by omega⟩
    · rw [if_pos h2] at h; exact absurd h h2
  · rw [if_pos h1] at h; exact absurd h h1
set_option maxRecDepth 100000 in
theorem stkE_bad {l : List CV} {k : Nat} (hk : k < l.length) (h : stkE (l.take k) (cvAt l k) ≠ 0) : dagF l = 12 := by
  by_cases hl : 400 < l.length
  · exact dagF_long l hl
  · refine dagF_bad l k hk ?_
    simp only [badC, Bool.or_eq_true, decide_eq_true_eq]
    by_cases h1 : (cvAt l k).f = 0
    · right
      intro h2
      apply h
      rw [stkE, if_neg (fun g => g h1), if_neg (fun g => g h2), if_neg (by simp; omega)]
    · exact .inl h1
set_option maxRecDepth 100000 in
theorem stkE_all {l : List CV} (h : ∀ k, k < l.length → stkE (l.take k) (cvAt l k) = 0) : dagF l = 0 := by
  have hb : ∀ k, k < l.length → badC l k = false := fun k hk => by
    obtain ⟨h1, h2, _⟩ := stkE_ok (h k hk)
    simp [badC, h1, h2]
  refine dagF_ok l ?_ hb
  rcases Nat.lt_or_ge 400 l.length with g | g
  · obtain ⟨_, _, h3⟩ := stkE_ok (h 400 g)
    rw [List.length_take] at h3
    omega
  · exact g
/-- P5.4: what is told. -/
def insE (l : List CV) (c : CV) : Int := if dagF l ≠ 0 then dagF l else if c.f ≠ 0 then c.f else if takF l c.au c.rd c.pl ≠ 0 then takF l c.au c.rd c.pl else if 400 ≤ l.length then 6 else 0
set_option maxRecDepth 100000 in
theorem insE_stk {l : List CV} (c : CV) (h : dagF l = 0) : insE l c = stkE l c := by rw [insE, if_neg (fun g => g h), stkE]
end Go.Proofs.YtbmodfegcmaieaaDoor

namespace Go.Proofs.YtbmodfegcmaieaaDoor
open Go.RowKit

set_option maxRecDepth 100000 in
set_option maxHeartbeats 400000 in
theorem clone_any (bs : List Int) (sa : Option Addr) (n cap : Nat) (w : World) (hn : n = bs.length) (hs : SliceAt w sa cap bs) (hl : bs.length ≤ 140737488355328) :
    Calls Tryd.prog 87 #[.slice sa n cap] w fun e w' => ∃ ra rc, e = .returned (.slice ra bs.length rc) ∧ SliceAt w' ra rc bs ∧ (∀ sb so, ra = some ⟨sb, so, none⟩ → w.heap.size ≤ sb ∧ sb < w'.heap.size) ∧ Below w.heap.size w w' := by
  subst hn
  have hle := hs.le
  cases sa with
  | none =>
    have hc := hs.nil rfl
    have hb : bs = [] := List.eq_nil_of_length_eq_zero (by omega)
    subst hc hb
    have he : ∀ w : World, (binOp .eql 46 (.slice none 0 0) (.slice none 0 0)).run Tryd.prog w = .ok (.bool true) w := fun _ => rfl
    go_enter Tryd.func87, Tryd.ntmps87
    go_wp2_with fail
    go_ret
    exact ⟨none, 0, rfl, hs, (fun _ _ e => by cases e), Below.refl _ _⟩
  | some ad =>
    have he : ∀ w : World, (binOp .eql 46 (.slice (some ad) bs.length cap) (.slice none 0 0)).run Tryd.prog w = .ok (.bool false) w := fun _ => rfl
    have hA : Below w.heap.size w (w.alloc (.cells #[] 5)) := (Below.refl _ _).alloc (Nat.le_refl _) _
    go_enter Tryd.func87, Tryd.ntmps87
    go_wp2_with (at_builtin; refine wpList_append_part rfl _ _ rfl w.heap.size _ 0 [] rfl (World.ownsRow_made _ _ 0 (Nat.le_refl _) (by decide) rfl) (some ad) _ cap bs rfl rfl (hs.below hA) (by omega) hA.size ?_; intro v1 w1 ho1 hg1)
    obtain ⟨ra, rc, hv, hl, hsl⟩ := owns_form ho1
    have hlt := ho1.lt
    subst hv
    go_ret
    refine ⟨ra, rc, ?_, by simpa using hsl, (fun sb so e => hlt sb (by rw [e]; rfl)), ?_⟩
    · simp
    · exact Below.grown hA hg1 hA.size (fun q e => (World.ownsRow.lt (World.ownsRow_made (e := 5) (size := 1) w #[] 0 (Nat.le_refl _) (by decide) rfl) q e).1)
end Go.Proofs.YtbmodfegcmaieaaDoor
