/- dag's stock: of, withDigest. -/
import Derived.Test.YtocclphjpofnoaaDoorRDag1
namespace Go.Proofs.YtocclphjpofnoaaDoor
open Go.RowKit

set_option maxRecDepth 100000 in
set_option maxHeartbeats 400000 in
theorem of1_any (s : Ct) (au rd : Int) (ga gr : Nat) (w : World) (ha : w.cell? ⟨ga, 0, none⟩ = some (.int .i64 au)) (hr : w.cell? ⟨gr, 0, none⟩ = some (.int .i64 rd)) :
    Calls Tryd.prog 71 #[.agg #[.int .i64 s.au, .int .i64 s.rd, .slice s.ba s.bl.length s.bc, .slice s.pa s.pl.length s.pc, .slice s.va s.vl.length s.vc], .pointer (some ⟨ga, 0, none⟩), .pointer (some ⟨gr, 0, none⟩)] w fun e w' => e = .returned (.bool (decide (s.au = au ∧ s.rd = rd))) ∧ Below w.heap.size w w' := by
  have la := block_lt_of_cell ha
  have lr := block_lt_of_cell hr
  have na : ga ≠ w.heap.size := by simp at la; omega
  have nr : gr ≠ w.heap.size := by simp at lr; omega
  go_enter Tryd.func71, Tryd.ntmps71
  go_wp2_with fail
  all_goals (go_ret; exact ⟨by first | (simp_all; done) | (simp_all; rfl), (Below.refl _ _).alloc (Nat.le_refl _) _⟩)

set_option maxRecDepth 100000 in
set_option maxHeartbeats 1000000 in
theorem indexCert_any (ls : List Ct) (sa : Option Addr) (n cap : Nat) (au rd : Int) (ga gr : Nat) (w : World) (hn : n = ls.length) (hk2 : n ≤ 3000000000000000000) (hp : CertsAt w sa ls) (ha : w.cell? ⟨ga, 0, none⟩ = some (.int .i64 au)) (hr : w.cell? ⟨gr, 0, none⟩ = some (.int .i64 rd)) :
    Calls Tryd.prog 72 #[.slice sa n cap, .func (.func 71) #[] #[.pointer (some ⟨ga, 0, none⟩), .pointer (some ⟨gr, 0, none⟩)]] w fun e w' => e = .returned (.int .i64 (cOf (cvs ls) au rd)) ∧ Below w.heap.size w w' := by
  subst hn
  go_enter Tryd.func72, Tryd.ntmps72
  go_wp2_with fail
  go_loopw [8] (fun i wr => ∃ m : Nat, m ≤ ls.length ∧ i = .int .i64 m ∧ fidx (cHit (cvs ls) au rd) m = -1 ∧ Below w.heap.size w wr) (fun i _ => ls.length - (intOf i).toNat)
  case atStart => exact ⟨0, Nat.zero_le _, rfl, rfl, Below.refl _ _⟩
  case round =>
    obtain ⟨m, hm, rfl, hno, hb⟩ := hrel
    by_cases hlt : m < ls.length
    · obtain ⟨sb, so, rfl, c0, c1, c2, c3, c4⟩ := (hp.below hb).at m hlt
      have hg := cHit_get ls au rd m hlt
      have haw := (hb.cell (p := ⟨ga, 0, none⟩) (block_lt_of_cell ha)).trans ha
      have hrw := (hb.cell (p := ⟨gr, 0, none⟩) (block_lt_of_cell hr)).trans hr
      have hltI : (m : Int) < ls.length := by omega
      have hF : Hid (decide ((ls[m]).au = au ∧ (ls[m]).rd = rd) = true → cOf (cvs ls) au rd = m) := by
        show _ → _
        intro h
        exact fidx_hit _ m _ hno (by rw [hg]; exact h) (by rw [cvs_length]; exact hlt)
      have hN : Hid (decide ((ls[m]).au = au ∧ (ls[m]).rd = rd) = false → fidx (cHit (cvs ls) au rd) (m + 1) = -1) := by
        show _ → _
        intro h
        exact fidx_step _ m hno (by rw [hg]; exact h)
      clear hno hg
      generalize ls[m] = s at *
      go_wp2_with fail
      refine (of1_any s au rd ga gr wr haw hrw).mono ?_
      rintro e w1 ⟨he, hb1⟩
      subst he
      dsimp only
      have hB1 := hb.trans (hb1.mono hb.size)
      generalize decide (s.au = au ∧ s.rd = rd) = x at *
      cases x
      · have hn : Hid _ := hN.out rfl
        clear hF hN
        go_wp2_with fail
        go_roundw
        case rel => exact ⟨m + 1, by omega, by go_num, hn.out, hB1⟩
        case measure => simp [intOf]; omega
      · have hn : Hid _ := hF.out rfl
        clear hF hN
        go_wp2_with fail
        go_ret
        exact ⟨ret_int hn.out.symm, hB1⟩
    · obtain rfl : m = ls.length := by omega
      have hF : Hid (cOf (cvs ls) au rd = -1) := by
        show fidx _ _ = -1
        rw [cvs_length]; exact hno
      clear hno
      go_wp2_with fail
      go_ret
      exact ⟨ret_int hF.out.symm, hb⟩
/-- A stock: certificates, and their digests at the same places. -/
structure StockAt (w : World) (ca : Option Addr) (cc : Nat) (ls : List Ct) (da : Option Addr) (dc : Nat) (ds : List Part) : Prop where
  certs : CertsAt w ca ls
  digs : ListAt w da dc ds
  same : bss ds = (cvs ls).map CV.d
  small : ls.length ≤ 400
  cle : ls.length ≤ cc
  cmax : cc ≤ 9223372036854775807
set_option maxRecDepth 100000 in
theorem StockAt.below {w w' : World} {ca : Option Addr} {cc : Nat} {ls : List Ct} {da : Option Addr} {dc : Nat} {ds : List Part} (h : StockAt w ca cc ls da dc ds) (hb : Below w.heap.size w w') : StockAt w' ca cc ls da dc ds :=
  ⟨h.certs.below hb, h.digs.below hb, h.same, h.small, h.cle, h.cmax⟩
set_option maxRecDepth 100000 in
theorem StockAt.len {w : World} {ca : Option Addr} {cc : Nat} {ls : List Ct} {da : Option Addr} {dc : Nat} {ds : List Part} (h : StockAt w ca cc ls da dc ds) : ds.length = ls.length := by
  rw [digs_length h.same, cvs_length]
set_option maxRecDepth 100000 in
set_option maxHeartbeats 400000 in
theorem of_any (ls : List Ct) (ca : Option Addr) (cn cc : Nat) (da : Option Addr) (dn dc : Nat) (ds : List Part) (au rd : Int) (w : World) (hn : cn = ls.length) (hs : StockAt w ca cc ls da dc ds) :
    Calls Tryd.prog 64 #[.agg #[.slice ca cn cc, .slice da dn dc], .int .i64 au, .int .i64 rd] w fun e w' => e = .returned (.int .i64 (cOf (cvs ls) au rd)) ∧ Below w.heap.size w w' := by
  have hmf : ∀ (fn : Fn) (first cap : Array Value) (w : World), (Instr.makeFunc fn first cap).run Tryd.prog w = .ok (.func fn first cap) w := fun _ _ _ _ => rfl
  subst hn
  have hsm := hs.small
  have hc := hs.certs
  clear hs
  have hR : Below w.heap.size w (((w.alloc (.cells #[.slice ca ls.length cc, .slice da dn dc] 56)).alloc (.cells #[.int .i64 au] 3)).alloc (.cells #[.int .i64 rd] 3)) := (((Below.refl _ _).alloc (Nat.le_refl _) _).alloc (by rw [size_alloc]; omega) _).alloc (by rw [size_alloc, size_alloc]; omega) _
  have k1 : (((w.alloc (.cells #[.slice ca ls.length cc, .slice da dn dc] 56)).alloc (.cells #[.int .i64 au] 3)).alloc (.cells #[.int .i64 rd] 3)).cell? ⟨w.heap.size + 1, 0, none⟩ = some (.int .i64 au) := cells_at (heap_keep (by have := heap_alloc_new (w.alloc (.cells #[.slice ca ls.length cc, .slice da dn dc] 56)) (.cells #[.int .i64 au] 3); rw [size_alloc] at this; exact this)) 0 _ rfl
  have k2 : (((w.alloc (.cells #[.slice ca ls.length cc, .slice da dn dc] 56)).alloc (.cells #[.int .i64 au] 3)).alloc (.cells #[.int .i64 rd] 3)).cell? ⟨w.heap.size + 2, 0, none⟩ = some (.int .i64 rd) := by
    have := laid_cell ((w.alloc (.cells #[.slice ca ls.length cc, .slice da dn dc] 56)).alloc (.cells #[.int .i64 au] 3)) #[.int .i64 rd] 3 0 _ rfl
    rw [size_alloc, size_alloc] at this
    exact this
  go_enter Tryd.func64, Tryd.ntmps64
  go_wp2_with fail
  generalize ((w.alloc (.cells #[.slice ca ls.length cc, .slice da dn dc] 56)).alloc (.cells #[.int .i64 au] 3)).alloc (.cells #[.int .i64 rd] 3) = W0 at hR k1 k2 ⊢
  refine (indexCert_any ls ca ls.length cc au rd _ _ W0 rfl (by omega) (hc.below hR) k1 k2).mono ?_
  rintro e w1 ⟨he, hb1⟩
  subst he
  dsimp only
  go_wp2_with fail
  go_ret
  exact ⟨rfl, hR.trans (hb1.mono hR.size)⟩
set_option maxRecDepth 100000 in
theorem with_closure (xs ys : List Int) (sa sb : Option Addr) (n m c d g : Nat) (w : World) (hn : n = xs.length) (hm : m = ys.length) (ha : SliceAt w sa c xs) (hb : SliceAt w sb d ys) (hg : w.cell? ⟨g, 0, none⟩ = some (.slice sb m d)) :
    Calls Tryd.prog 53 #[.slice sa n c, .pointer (some ⟨g, 0, none⟩)] w fun e w' => e = .returned (.bool (decide (txL xs = txL ys))) ∧ w = w' := by
  go_enter Tryd.func53, Tryd.ntmps53
  go_wp2_with fail
  refine (equal_any xs ys _ _ _ _ _ _ w (by first | exact hn | rfl) (by first | exact hm | rfl) ha hb).mono ?_
  rintro e w1 ⟨he, rfl⟩
  subst he
  dsimp only
  go_wp2_with fail
  go_ret
  exact ⟨rfl, rfl⟩
set_option maxRecDepth 100000 in
set_option maxHeartbeats 1000000 in
theorem indexDig_any (l : List CV) (ds : List Part) (da : Option Addr) (n cap : Nat) (bs : List Int) (ka : Option Addr) (kn kc g : Nat) (w : World) (hn : n = ds.length) (hS : bss ds = l.map CV.d) (hk2 : n ≤ 3000000000000000000) (hd : PartsAt w da ds) (hkn : kn = bs.length) (hk : SliceAt w ka kc bs) (hg : w.cell? ⟨g, 0, none⟩ = some (.slice ka kn kc)) :
    Calls Tryd.prog 55 #[.slice da n cap, .func (.func 53) #[] #[.pointer (some ⟨g, 0, none⟩)]] w fun e w' => e = .returned (.int .i64 (pOf l bs)) ∧ w = w' := by
  subst hn hkn
  have HL : Hid (ds.length = l.length) := digs_length hS
  have HS : Hid (bss ds = l.map CV.d) := hS
  clear hS
  go_enter Tryd.func55, Tryd.ntmps55
  go_wp2_with fail
  go_loop [8] (fun i => ∃ m : Nat, m ≤ ds.length ∧ i = .int .i64 m ∧ fidx (dHit l bs) m = -1) (fun i => ds.length - (intOf i).toNat)
  case atStart => exact ⟨0, Nat.zero_le _, rfl, rfl⟩
  case round =>
    obtain ⟨m, hm, rfl, hno⟩ := hrel
    by_cases hlt : m < ds.length
    · rcases hd.cells with hc | ⟨sb, so, rfl, hc⟩
      · subst hc; simp at hlt
      have ck := hc m hlt
      have hx := hd.each (ds[m]) (List.getElem_mem hlt)
      have hltI : (m : Int) < ds.length := by omega
      have hgt := digs_get HS.out m hlt
      have Hf : Hid (txL (ds[m]).bs = txL bs → pOf l bs = m) := by
        show _ → _
        intro h
        exact fidx_hit _ m _ hno (by rw [dHit, hgt]; simpa using h) (by rw [← HL.out]; exact hlt)
      have Hn : Hid (¬ txL (ds[m]).bs = txL bs → fidx (dHit l bs) (m + 1) = -1) := by
        show _ → _
        intro h
        exact fidx_step _ m hno (by rw [dHit, hgt]; simpa using h)
      clear hno hgt hc
      generalize ds[m] = p at *
      go_wp2_with fail
      refine (with_closure p.bs bs p.sa ka _ _ p.cap kc g w rfl rfl hx hk hg).mono ?_
      rintro e w1 ⟨he, rfl⟩
      subst he
      dsimp only
      by_cases h : txL p.bs = txL bs
      · have He : Hid (pOf l bs = m) := Hf.out h
        rw [decide_eq_true h]
        clear Hf Hn h
        go_wp2_with fail
        go_ret
        exact ⟨ret_int He.out.symm, rfl⟩
      · have He : Hid (fidx (dHit l bs) (m + 1) = -1) := Hn.out h
        rw [decide_eq_false h]
        clear Hf Hn h
        go_wp2_with fail
        go_round
        case rel => exact ⟨m + 1, by omega, by go_num, He.out⟩
        case measure => simp [intOf]; omega
    · obtain rfl : m = ds.length := by omega
      have He : Hid (pOf l bs = -1) := by
        show fidx _ _ = -1
        rw [← HL.out]; exact hno
      clear hno
      go_wp2_with fail
      go_ret
      exact ⟨ret_int He.out.symm, rfl⟩
set_option maxRecDepth 100000 in
set_option maxHeartbeats 400000 in
theorem withDigest_any (ls : List Ct) (ca : Option Addr) (cn cc : Nat) (da : Option Addr) (dn dc : Nat) (ds : List Part) (bs : List Int) (ka : Option Addr) (kn kc : Nat) (w : World) (hn : dn = ls.length) (hs : StockAt w ca cc ls da dc ds) (hkn : kn = bs.length) (hk : SliceAt w ka kc bs) :
    Calls Tryd.prog 33 #[.agg #[.slice ca cn cc, .slice da dn dc], .slice ka kn kc] w fun e w' => e = .returned (.int .i64 (pOf (cvs ls) bs)) ∧ Below w.heap.size w w' := by
  have hmf : ∀ (fn : Fn) (first cap : Array Value) (w : World), (Instr.makeFunc fn first cap).run Tryd.prog w = .ok (.func fn first cap) w := fun _ _ _ _ => rfl
  have hsm := hs.small
  subst hn hkn
  have hdl : Hid (ls.length = ds.length) := by
    show _ = _
    rw [hs.len]
  have hd := hs.digs.parts
  have HS : Hid (bss ds = (cvs ls).map CV.d) := hs.same
  clear hs
  have hR : Below w.heap.size w ((w.alloc (.cells #[.slice ca cn cc, .slice da ls.length dc] 56)).alloc (.cells #[.slice ka bs.length kc] 29)) := ((Below.refl _ _).alloc (Nat.le_refl _) _).alloc (by rw [size_alloc]; omega) _
  have k1 : ((w.alloc (.cells #[.slice ca cn cc, .slice da ls.length dc] 56)).alloc (.cells #[.slice ka bs.length kc] 29)).cell? ⟨w.heap.size + 1, 0, none⟩ = some (.slice ka bs.length kc) := by simp
  go_enter Tryd.func33, Tryd.ntmps33
  go_wp2_with fail
  generalize (w.alloc (.cells #[.slice ca cn cc, .slice da ls.length dc] 56)).alloc (.cells #[.slice ka bs.length kc] 29) = W0 at hR k1 ⊢
  refine (indexDig_any (cvs ls) ds da ls.length dc bs ka bs.length kc _ W0 hdl.out HS.out (by omega) (hd.below hR) rfl (hk.below hR) k1).mono ?_
  rintro e w1 ⟨he, rfl⟩
  subst he
  dsimp only
  go_wp2_with fail
  go_ret
  exact ⟨rfl, hR⟩
end Go.Proofs.YtocclphjpofnoaaDoor
