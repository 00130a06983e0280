/- What the reading of an argument that is a list of lists of bytes gives the walks. -/
import Derived.Test.YtbehmcflllleaaaDoorDagInsertsM0
import Derived.Test.YtbehmcflllleaaaDoorOwnL
import Derived.Test.YtbehmcflllleaaaDoorCertF
import Derived.Test.YtbehmcflllleaaaDoorCHead
import Derived.Test.YtbehmcflllleaaaDoorPK
import Derived.ProofKit
import Derived.OpenShut
import Derived.SizedLaws
import Derived.Test.YtbehmcflllleaaaDoorLAt
import Derived.Deep.Strs
namespace Go.Proofs.YtbehmcflllleaaaDoor
open Go.RowKit

set_option maxRecDepth 100000 in
set_option maxHeartbeats 400000 in
theorem of1_any (s : Ct) (au rd : Int) (ga gr : Nat) (w : World) (ha : w.cell? ⟨ga, 0, none⟩ = some (.int .i64 au)) (hr : w.cell? ⟨gr, 0, none⟩ = some (.int .i64 rd)) :
    Calls Tryd.prog 71 #[.agg #[.int .i64 s.au, .int .i64 s.rd, .slice s.ba s.bl.length s.bc, .slice s.pa s.pl.length s.pc, .slice s.va s.vl.length s.vc], .pointer (some ⟨ga, 0, none⟩), .pointer (some ⟨gr, 0, none⟩)] w fun e w' => e = .returned (.bool (decide (s.au = au ∧ s.rd = rd))) ∧ Below w.heap.size w w' := by
  have la := block_lt_of_cell ha
  have lr := block_lt_of_cell hr
  have na : ga ≠ w.heap.size := by simp at la; omega
  have nr : gr ≠ w.heap.size := by simp at lr; omega
  go_enter Tryd.func71, Tryd.ntmps71
  go_wp2_with fail
  all_goals (go_ret; exact ⟨by first | (simp_all; done) | (simp_all; rfl), (Below.refl _ _).alloc (Nat.le_refl _) _⟩)

set_option maxRecDepth 100000 in
set_option maxHeartbeats 1000000 in
theorem indexCert_any (ls : List Ct) (sa : Option Addr) (n cap : Nat) (au rd : Int) (ga gr : Nat) (w : World) (hn : n = ls.length) (hk2 : n ≤ 3000000000000000000) (hp : CertsAt w sa ls) (ha : w.cell? ⟨ga, 0, none⟩ = some (.int .i64 au)) (hr : w.cell? ⟨gr, 0, none⟩ = some (.int .i64 rd)) :
    Calls Tryd.prog 72 #[.slice sa n cap, .func (.func 71) #[] #[.pointer (some ⟨ga, 0, none⟩), .pointer (some ⟨gr, 0, none⟩)]] w fun e w' => e = .returned (.int .i64 (cOf (cvs ls) au rd)) ∧ Below w.heap.size w w' := by
  subst hn
  go_enter Tryd.func72, Tryd.ntmps72
  go_wp2_with fail
  go_loopw [8] (fun i wr => ∃ m : Nat, m ≤ ls.length ∧ i = .int .i64 m ∧ fidx (cHit (cvs ls) au rd) m = -1 ∧ Below w.heap.size w wr) (fun i _ => ls.length - (intOf i).toNat)
  case atStart => exact ⟨0, Nat.zero_le _, rfl, rfl, Below.refl _ _⟩
  case round =>
    obtain ⟨m, hm, rfl, hno, hb⟩ := hrel
    by_cases hlt : m < ls.length
    · obtain ⟨sb, so, rfl, c0, c1, c2, c3, c4⟩ := (hp.below hb).at m hlt
      have hg := cHit_get ls au rd m hlt
      have haw := (hb.cell (p := ⟨ga, 0, none⟩) (block_lt_of_cell ha)).trans ha
      have hrw := (hb.cell (p := ⟨gr, 0, none⟩) (block_lt_of_cell hr)).trans hr
      have hltI : (m : Int) < ls.length := by omega
      have hF : Hid (decide ((ls[m]).au = au ∧ (ls[m]).rd = rd) = true → cOf (cvs ls) au rd = m) := by
        show _ → _
        intro h
        exact fidx_hit _ m _ hno (by rw [hg]; exact h) (by rw [cvs_length]; exact hlt)
      have hN : Hid (decide ((ls[m]).au = au ∧ (ls[m]).rd = rd) = false → fidx (cHit (cvs ls) au rd) (m + 1) = -1) := by
        show _ → _
        intro h
        exact fidx_step _ m hno (by rw [hg]; exact h)
      clear hno hg
      generalize ls[m] = s at *
      go_wp2_with fail
      refine (of1_any s au rd ga gr wr haw hrw).mono ?_
      rintro e w1 ⟨he, hb1⟩
      subst he
      dsimp only
      have hB1 := hb.trans (hb1.mono hb.size)
      generalize decide (s.au = au ∧ s.rd = rd) = x at *
      cases x
      · have hn : Hid _ := hN.out rfl
        clear hF hN
        go_wp2_with fail
        go_roundw
        case rel => exact ⟨m + 1, by omega, by go_num, hn.out, hB1⟩
        case measure => simp [intOf]; omega
      · have hn : Hid _ := hF.out rfl
        clear hF hN
        go_wp2_with fail
        go_ret
        exact ⟨ret_int hn.out.symm, hB1⟩
    · obtain rfl : m = ls.length := by omega
      have hF : Hid (cOf (cvs ls) au rd = -1) := by
        show fidx _ _ = -1
        rw [cvs_length]; exact hno
      clear hno
      go_wp2_with fail
      go_ret
      exact ⟨ret_int hF.out.symm, hb⟩
/-- A stock: certificates, and their digests at the same places. -/
structure StockAt (w : World) (ca : Option Addr) (cc : Nat) (ls : List Ct) (da : Option Addr) (dc : Nat) (ds : List Part) : Prop where
  certs : CertsAt w ca ls
  digs : ListAt w da dc ds
  same : bss ds = (cvs ls).map CV.d
  small : ls.length ≤ 400
  cle : ls.length ≤ cc
  cmax : cc ≤ 9223372036854775807
set_option maxRecDepth 100000 in
theorem StockAt.below {w w' : World} {ca : Option Addr} {cc : Nat} {ls : List Ct} {da : Option Addr} {dc : Nat} {ds : List Part} (h : StockAt w ca cc ls da dc ds) (hb : Below w.heap.size w w') : StockAt w' ca cc ls da dc ds :=
  ⟨h.certs.below hb, h.digs.below hb, h.same, h.small, h.cle, h.cmax⟩
set_option maxRecDepth 100000 in
theorem StockAt.len {w : World} {ca : Option Addr} {cc : Nat} {ls : List Ct} {da : Option Addr} {dc : Nat} {ds : List Part} (h : StockAt w ca cc ls da dc ds) : ds.length = ls.length := by
  rw [digs_length h.same, cvs_length]
set_option maxRecDepth 100000 in
set_option maxHeartbeats 400000 in
theorem of_any (ls : List Ct) (ca : Option Addr) (cn cc : Nat) (da : Option Addr) (dn dc : Nat) (ds : List Part) (au rd : Int) (w : World) (hn : cn = ls.length) (hs : StockAt w ca cc ls da dc ds) :
    Calls Tryd.prog 64 #[.agg #[.slice ca cn cc, .slice da dn dc], .int .i64 au, .int .i64 rd] w fun e w' => e = .returned (.int .i64 (cOf (cvs ls) au rd)) ∧ Below w.heap.size w w' := by
  have hmf : ∀ (fn : Fn) (first cap : Array Value) (w : World), (Instr.makeFunc fn first cap).run Tryd.prog w = .ok (.func fn first cap) w := fun _ _ _ _ => rfl
  subst hn
  have hsm := hs.small
  have hc := hs.certs
  clear hs
  have hR : Below w.heap.size w (((w.alloc (.cells #[.slice ca ls.length cc, .slice da dn dc] 56)).alloc (.cells #[.int .i64 au] 3)).alloc (.cells #[.int .i64 rd] 3)) := (((Below.refl _ _).alloc (Nat.le_refl _) _).alloc (by rw [size_alloc]; omega) _).alloc (by rw [size_alloc, size_alloc]; omega) _
  have k1 : (((w.alloc (.cells #[.slice ca ls.length cc, .slice da dn dc] 56)).alloc (.cells #[.int .i64 au] 3)).alloc (.cells #[.int .i64 rd] 3)).cell? ⟨w.heap.size + 1, 0, none⟩ = some (.int .i64 au) := cells_at (heap_keep (by have := heap_alloc_new (w.alloc (.cells #[.slice ca ls.length cc, .slice da dn dc] 56)) (.cells #[.int .i64 au] 3); rw [size_alloc] at this; exact this)) 0 _ rfl
  have k2 : (((w.alloc (.cells #[.slice ca ls.length cc, .slice da dn dc] 56)).alloc (.cells #[.int .i64 au] 3)).alloc (.cells #[.int .i64 rd] 3)).cell? ⟨w.heap.size + 2, 0, none⟩ = some (.int .i64 rd) := by
    have := laid_cell ((w.alloc (.cells #[.slice ca ls.length cc, .slice da dn dc] 56)).alloc (.cells #[.int .i64 au] 3)) #[.int .i64 rd] 3 0 _ rfl
    rw [size_alloc, size_alloc] at this
    exact this
  go_enter Tryd.func64, Tryd.ntmps64
  go_wp2_with fail
  generalize ((w.alloc (.cells #[.slice ca ls.length cc, .slice da dn dc] 56)).alloc (.cells #[.int .i64 au] 3)).alloc (.cells #[.int .i64 rd] 3) = W0 at hR k1 k2 ⊢
  refine (indexCert_any ls ca ls.length cc au rd _ _ W0 rfl (by omega) (hc.below hR) k1 k2).mono ?_
  rintro e w1 ⟨he, hb1⟩
  subst he
  dsimp only
  go_wp2_with fail
  go_ret
  exact ⟨rfl, hR.trans (hb1.mono hR.size)⟩
set_option maxRecDepth 100000 in
theorem with_closure (xs ys : List Int) (sa sb : Option Addr) (n m c d g : Nat) (w : World) (hn : n = xs.length) (hm : m = ys.length) (ha : SliceAt w sa c xs) (hb : SliceAt w sb d ys) (hg : w.cell? ⟨g, 0, none⟩ = some (.slice sb m d)) :
    Calls Tryd.prog 53 #[.slice sa n c, .pointer (some ⟨g, 0, none⟩)] w fun e w' => e = .returned (.bool (decide (txL xs = txL ys))) ∧ w = w' := by
  go_enter Tryd.func53, Tryd.ntmps53
  go_wp2_with fail
  refine (equal_any xs ys _ _ _ _ _ _ w (by first | exact hn | rfl) (by first | exact hm | rfl) ha hb).mono ?_
  rintro e w1 ⟨he, rfl⟩
  subst he
  dsimp only
  go_wp2_with fail
  go_ret
  exact ⟨rfl, rfl⟩
set_option maxRecDepth 100000 in
set_option maxHeartbeats 1000000 in
theorem indexDig_any (l : List CV) (ds : List Part) (da : Option Addr) (n cap : Nat) (bs : List Int) (ka : Option Addr) (kn kc g : Nat) (w : World) (hn : n = ds.length) (hS : bss ds = l.map CV.d) (hk2 : n ≤ 3000000000000000000) (hd : PartsAt w da ds) (hkn : kn = bs.length) (hk : SliceAt w ka kc bs) (hg : w.cell? ⟨g, 0, none⟩ = some (.slice ka kn kc)) :
    Calls Tryd.prog 55 #[.slice da n cap, .func (.func 53) #[] #[.pointer (some ⟨g, 0, none⟩)]] w fun e w' => e = .returned (.int .i64 (pOf l bs)) ∧ w = w' := by
  subst hn hkn
  have HL : Hid (ds.length = l.length) := digs_length hS
  have HS : Hid (bss ds = l.map CV.d) := hS
  clear hS
  go_enter Tryd.func55, Tryd.ntmps55
  go_wp2_with fail
  go_loop [8] (fun i => ∃ m : Nat, m ≤ ds.length ∧ i = .int .i64 m ∧ fidx (dHit l bs) m = -1) (fun i => ds.length - (intOf i).toNat)
  case atStart => exact ⟨0, Nat.zero_le _, rfl, rfl⟩
  case round =>
    obtain ⟨m, hm, rfl, hno⟩ := hrel
    by_cases hlt : m < ds.length
    · rcases hd.cells with hc | ⟨sb, so, rfl, hc⟩
      · subst hc; simp at hlt
      have ck := hc m hlt
      have hx := hd.each (ds[m]) (List.getElem_mem hlt)
      have hltI : (m : Int) < ds.length := by omega
      have hgt := digs_get HS.out m hlt
      have Hf : Hid (txL (ds[m]).bs = txL bs → pOf l bs = m) := by
        show _ → _
        intro h
        exact fidx_hit _ m _ hno (by rw [dHit, hgt]; simpa using h) (by rw [← HL.out]; exact hlt)
      have Hn : Hid (¬ txL (ds[m]).bs = txL bs → fidx (dHit l bs) (m + 1) = -1) := by
        show _ → _
        intro h
        exact fidx_step _ m hno (by rw [dHit, hgt]; simpa using h)
      clear hno hgt hc
      generalize ds[m] = p at *
      go_wp2_with fail
      refine (with_closure p.bs bs p.sa ka _ _ p.cap kc g w rfl rfl hx hk hg).mono ?_
      rintro e w1 ⟨he, rfl⟩
      subst he
      dsimp only
      by_cases h : txL p.bs = txL bs
      · have He : Hid (pOf l bs = m) := Hf.out h
        rw [decide_eq_true h]
        clear Hf Hn h
        go_wp2_with fail
        go_ret
        exact ⟨ret_int He.out.symm, rfl⟩
      · have He : Hid (fidx (dHit l bs) (m + 1) = -1) := Hn.out h
        rw [decide_eq_false h]
        clear Hf Hn h
        go_wp2_with fail
        go_round
        case rel => exact ⟨m + 1, by omega, by go_num, He.out⟩
        case measure => simp [intOf]; omega
    · obtain rfl : m = ds.length := by omega
      have He : Hid (pOf l bs = -1) := by
        show fidx _ _ = -1
        rw [← HL.out]; exact hno
      clear hno
      go_wp2_with fail
      go_ret
      exact ⟨ret_int He.out.symm, rfl⟩
set_option maxRecDepth 100000 in
set_option maxHeartbeats 400000 in
theorem withDigest_any (ls : List Ct) (ca : Option Addr) (cn cc : Nat) (da : Option Addr) (dn dc : Nat) (ds : List Part) (bs : List Int) (ka : Option Addr) (kn kc : Nat) (w : World) (hn : dn = ls.length) (hs : StockAt w ca cc ls da dc ds) (hkn : kn = bs.length) (hk : SliceAt w ka kc bs) :
    Calls Tryd.prog 33 #[.agg #[.slice ca cn cc, .slice da dn dc], .slice ka kn kc] w fun e w' => e = .returned (.int .i64 (pOf (cvs ls) bs)) ∧ Below w.heap.size w w' := by
  have hmf : ∀ (fn : Fn) (first cap : Array Value) (w : World), (Instr.makeFunc fn first cap).run Tryd.prog w = .ok (.func fn first cap) w := fun _ _ _ _ => rfl
  have hsm := hs.small
  subst hn hkn
  have hdl : Hid (ls.length = ds.length) := by
    show _ = _
    rw [hs.len]
  have hd := hs.digs.parts
  have HS : Hid (bss ds = (cvs ls).map CV.d) := hs.same
  clear hs
  have hR : Below w.heap.size w ((w.alloc (.cells #[.slice ca cn cc, .slice da ls.length dc] 56)).alloc (.cells #[.slice ka bs.length kc] 29)) := ((Below.refl _ _).alloc (Nat.le_refl _) _).alloc (by rw [size_alloc]; omega) _
  have k1 : ((w.alloc (.cells #[.slice ca cn cc, .slice da ls.length dc] 56)).alloc (.cells #[.slice ka bs.length kc] 29)).cell? ⟨w.heap.size + 1, 0, none⟩ = some (.slice ka bs.length kc) := by simp
  go_enter Tryd.func33, Tryd.ntmps33
  go_wp2_with fail
  generalize (w.alloc (.cells #[.slice ca cn cc, .slice da ls.length dc] 56)).alloc (.cells #[.slice ka bs.length kc] 29) = W0 at hR k1 ⊢
  refine (indexDig_any (cvs ls) ds da ls.length dc bs ka bs.length kc _ W0 hdl.out HS.out (by omega) (hd.below hR) rfl (hk.below hR) k1).mono ?_
  rintro e w1 ⟨he, rfl⟩
  subst he
  dsimp only
  go_wp2_with fail
  go_ret
  exact ⟨rfl, hR⟩
end Go.Proofs.YtbehmcflllleaaaDoor

namespace Go.Proofs.YtbehmcflllleaaaDoor
open Go.RowKit

set_option maxRecDepth 100000 in
theorem list_of_owns {w : World} {base n : Nat} {v : Value} {ps : List Part} (h : w.ownsRow base 29 1 v n (pv ps)) (he : ∀ p ∈ ps, SliceAt w p.sa p.cap p.bs) (hm : n ≤ 9000000000000000000) : ∃ ra rc, v = .slice ra n rc ∧ n = ps.length ∧ ListAt w ra rc ps ∧ (∀ sb so, ra = some ⟨sb, so, none⟩ → base ≤ sb ∧ sb < w.heap.size) := by
  have hl : n = ps.length := by have := h.1; rw [pv_length] at this; omega
  rcases h.2 with ⟨rfl, hn⟩ | ⟨g, cap, cur, rfl, hr⟩
  · have hb : ps = [] := List.eq_nil_of_length_eq_zero (by omega)
    subst hn hb
    exact ⟨none, 0, rfl, rfl, ⟨Nat.le_refl _, by decide, by decide, .inl rfl, ⟨.inl rfl, fun p hp => by cases hp⟩⟩, (fun _ _ e => by cases e)⟩
  · refine ⟨some ⟨g, 0, none⟩, cap, rfl, hl, ⟨?_, ?_, by omega, .inr ⟨g, 0, rfl⟩, ⟨.inr ⟨g, 0, rfl, fun j hj => ?_⟩, he⟩⟩, (fun sb so e => by cases e; exact h.lt _ rfl)⟩
    · obtain ⟨_, _, h1, _⟩ := hr
      omega
    · obtain ⟨_, _, _, h2, _⟩ := hr
      exact h2
    · rw [Nat.zero_add, World.ownsRow.cellAt h j (by omega)]
      simp [pv, Part.val, hj]
/-- What missing answers. -/
def MisAt (w w' : World) (e : Ending) (l : List CV) (rd : Int) (pl : List Part) : Prop :=
  (parF l rd (bss pl) = 9 ∧ e = .returned (.tuple #[.slice none 0 0, .int .i64 9])) ∨ (parF l rd (bss pl) ≠ 9 ∧ ∃ ma mc ms, e = .returned (.tuple #[.slice ma (List.length ms) mc, .int .i64 0]) ∧ bss ms = misF l (bss pl) ∧ ListAt w' ma mc ms ∧ (∀ sb so, ma = some ⟨sb, so, none⟩ → w.heap.size ≤ sb ∧ sb < w'.heap.size) ∧ ∀ p ∈ ms, p ∈ pl)
set_option maxRecDepth 100000 in
set_option maxHeartbeats 1000000 in
theorem missing_any (ls : List Ct) (ca : Option Addr) (cc : Nat) (da : Option Addr) (dc : Nat) (ds : List Part) (au rd : Int) (ba : Option Addr) (bn bc : Nat) (pl : List Part) (pa : Option Addr) (pc : Nat) (w : World) (hs : StockAt w ca cc ls da dc ds) (hpl : pl.length ≤ 4) (hrd : 1 ≤ rd ∧ rd ≤ 1048576) (hp : PartsAt w pa pl) :
    Calls Tryd.prog 39 #[.agg #[.slice ca ls.length cc, .slice da ls.length dc], .agg #[.int .i64 au, .int .i64 rd, .slice ba bn bc, .slice pa pl.length pc]] w fun e w' => MisAt w w' e (cvs ls) rd pl ∧ Below w.heap.size w w' := by
  have hA : Below w.heap.size w ((w.alloc (.cells #[.slice ca ls.length cc, .slice da ls.length dc] 56)).alloc (.cells #[.int .i64 au, .int .i64 rd, .slice ba bn bc, .slice pa pl.length pc] 32)) := ((Below.refl _ _).alloc (Nat.le_refl _) _).alloc (by rw [size_alloc]; omega) _
  have r0 := heap_alloc2_old w (.cells #[.slice ca ls.length cc, .slice da ls.length dc] 56) (.cells #[.int .i64 au, .int .i64 rd, .slice ba bn bc, .slice pa pl.length pc] 32)
  have r1 : ((w.alloc (.cells #[.slice ca ls.length cc, .slice da ls.length dc] 56)).alloc (.cells #[.int .i64 au, .int .i64 rd, .slice ba bn bc, .slice pa pl.length pc] 32)).heap[w.heap.size + 1]? = some (.cells #[.int .i64 au, .int .i64 rd, .slice ba bn bc, .slice pa pl.length pc] 32 (0, 0)) := by
    have := heap_alloc_new (w.alloc (.cells #[.slice ca ls.length cc, .slice da ls.length dc] 56)) (.cells #[.int .i64 au, .int .i64 rd, .slice ba bn bc, .slice pa pl.length pc] 32)
    rw [size_alloc] at this; exact this
  obtain ⟨i, hi, hz0, hz1, hz2⟩ := info_parts infoBs
  have hsm := hs.small
  have hcl := hs.cle
  have hcm := hs.cmax
  go_enter Tryd.func39, Tryd.ntmps39
  go_wp2_with fail
  generalize (w.alloc (.cells #[.slice ca ls.length cc, .slice da ls.length dc] 56)).alloc (.cells #[.int .i64 au, .int .i64 rd, .slice ba bn bc, .slice pa pl.length pc] 32) = W0 at hA r0 r1 ⊢
  have hlt0 : w.heap.size < W0.heap.size := lt_of_heap r0
  have hlt1 : w.heap.size + 1 < W0.heap.size := lt_of_heap r1
  go_loopw [13, 6] (fun j v wr => ∃ (m : Nat) (ms : List Part), m ≤ pl.length ∧ j = .int .i64 m ∧ bss ms = misTo (cvs ls) (bss pl) m ∧ (∀ p ∈ ms, p ∈ pl) ∧ parTo (cvs ls) rd (bss pl) m ≠ 9 ∧ wr.ownsRow W0.heap.size 29 1 v ms.length (pv ms) ∧ Below W0.heap.size W0 wr) (fun j _ _ => pl.length - (intOf j).toNat)
  case atStart => exact ⟨0, [], Nat.zero_le _, rfl, rfl, (fun p hp => by cases hp), by rw [parTo]; decide, World.ownsRow_nil _ _ _ _, Below.refl _ _⟩
  case round =>
    obtain ⟨m, ms, hm, rfl, hS, hin, hno, ho, hbr⟩ := hrel
    have hAr := hA.trans (hbr.mono hA.size)
    have s0 := (hbr.block _ hlt0).trans r0
    have s1 := (hbr.block _ hlt1).trans r1
    have b0 : wr.cell? ⟨w.heap.size, 0, none⟩ = some (.slice ca ls.length cc) := cells_at s0 0 _ rfl
    have b1 : wr.cell? ⟨w.heap.size, 1, none⟩ = some (.slice da ls.length dc) := cells_at s0 1 _ rfl
    have d1 : wr.cell? ⟨w.heap.size + 1, 1, none⟩ = some (.int .i64 rd) := cells_at s1 1 _ rfl
    have hsr := hs.below hAr
    have hpr := hp.below hAr
    have hml : ms.length ≤ m := by
      have := congrArg List.length hS
      rw [bss_length] at this
      rw [this]; exact misTo_length _ _ _
    by_cases hlt : m < pl.length
    · rcases hpr.cells with hcc | ⟨pb, po, rfl, hcc⟩
      · subst hcc; simp at hlt
      have ck := hcc m hlt
      have hx := hpr.each (pl[m]) (List.getElem_mem hlt)
      have hmem : pl[m] ∈ pl := List.getElem_mem hlt
      have hltI : (m : Int) < pl.length := by omega
      have hg := bss_get pl m hlt
      have hlb : m < (bss pl).length := by rw [bss_length]; exact hlt
      have Hn : Hid (pOf (cvs ls) (pl[m]).bs < 0 → parTo (cvs ls) rd (bss pl) (m + 1) ≠ 9 ∧ misTo (cvs ls) (bss pl) (m + 1) = bss ms ++ [(pl[m]).bs]) := by
        show _ → _
        intro h
        refine ⟨?_, ?_⟩
        · rw [parTo_none _ _ _ m hno (by rw [hg]; exact h)]; decide
        · rw [misTo, hg, if_pos h, hS]
      have Ho : Hid (¬ pOf (cvs ls) (pl[m]).bs < 0 → (cvAt (cvs ls) (pOf (cvs ls) (pl[m]).bs).toNat).rd ≠ rd - 1 → parF (cvs ls) rd (bss pl) = 9) := by
        show _ → _ → _
        intro h1 h2
        exact parTo_order _ _ _ m (by rw [hg]; exact h1) (by rw [hg]; exact h2) hlb
      have Hk : Hid (¬ pOf (cvs ls) (pl[m]).bs < 0 → (cvAt (cvs ls) (pOf (cvs ls) (pl[m]).bs).toNat).rd = rd - 1 → parTo (cvs ls) rd (bss pl) (m + 1) ≠ 9 ∧ bss ms = misTo (cvs ls) (bss pl) (m + 1)) := by
        show _ → _ → _
        intro h1 h2
        refine ⟨?_, ?_⟩
        · rw [parTo_ok _ _ _ m (by rw [hg]; exact h1) (by rw [hg]; exact h2)]; exact hno
        · rw [misTo, hg, if_neg h1, hS]
      have hB := pOf_bounds (cvs ls) (pl[m]).bs
      rw [cvs_length] at hB
      have hcl' : ∀ k : Nat, k < ls.length → ∃ sb so, ca = some ⟨sb, so, none⟩ ∧ wr.cell? ⟨sb, so + k * 5 + 1, none⟩ = some (.int .i64 (cvAt (cvs ls) k).rd) := fun k hk => by
        obtain ⟨sb, so, e, _, c1, _⟩ := hsr.certs.at k hk
        exact ⟨sb, so, e, by rw [cvAt_get ls k hk]; exact c1⟩
      have HCL : Hid _ := hcl'
      have HIN : Hid (∀ p ∈ ms, p ∈ pl) := hin
      have HMEM : Hid (pl[m] ∈ pl) := hmem
      clear hno hg hcc hlb hcl' hS hin hmem
      generalize pl[m] = p at *
      go_wp2_with fail
      refine (withDigest_any ls ca _ cc da _ dc ds p.bs p.sa _ p.cap wr rfl hsr rfl hx).mono ?_
      rintro e w1 ⟨he, hb1⟩
      subst he
      dsimp only
      have hB1 := hbr.trans (hb1.mono hbr.size)
      have hob := owns_keep ho hb1
      have t1 := (hb1.cell (p := ⟨w.heap.size + 1, 1, none⟩) (block_lt_of_cell d1)).trans d1
      have t0 := (hb1.cell (p := ⟨w.heap.size, 0, none⟩) (block_lt_of_cell b0)).trans b0
      generalize pOf (cvs ls) p.bs = r at *
      by_cases hr : r < 0
      · obtain ⟨H1, H2⟩ := Hn.out hr
        have HX : Hid _ := H1
        have HY : Hid _ := H2
        clear Hn Ho Hk HCL H1 H2
        obtain rfl : r = -1 := by omega
        go_wp2_with (at_builtin; refine wpList_append_own_at _ rfl _ _ 30 rfl W0.heap.size 29 i (.slice none 0 0) 1 24 Tryd.underlying30 hi hz0 hz1 hz2 rfl (by decide) _ ms.length _ rfl (World.ownsRow.alloc hob _) ⟨w1.heap.size, 0, none⟩ 1 1 [.slice p.sa p.bs.length p.cap] rfl rfl (cells_new _ _ _) (by intro u hu; simp at hu; subst hu; rfl) (by unfold maxLen; omega) (by omega) (le_alloc hB1.size _) ?_; intro v1 w3 ho3 hg3 _ hat)
        have hB3 := Below.grown (hB1.alloc hB1.size _) hg3 (le_alloc hB1.size _) (fun q e => (hob.lt q e).1)
        go_roundw
        case rel =>
          have hR : ∃ (m' : Nat) (ms' : List Part), m' ≤ pl.length ∧ (Value.int .i64 ((m : Int) + 1)) = .int .i64 m' ∧ bss ms' = misTo (cvs ls) (bss pl) m' ∧ (∀ p ∈ ms', p ∈ pl) ∧ parTo (cvs ls) rd (bss pl) m' ≠ 9 ∧ w3.ownsRow W0.heap.size 29 1 v1 ms'.length (pv ms') ∧ Below W0.heap.size W0 w3 :=
            ⟨m + 1, ms ++ [p], by omega, by go_num, by rw [HY.out]; simp [bss], (fun q hq => by
              rcases List.mem_append.1 hq with hq | hq
              · exact HIN.out q hq
              · obtain rfl : q = p := by simpa using hq
                exact HMEM.out), HX.out, by simpa [pv, Part.val] using ho3, hB3⟩
          first | exact hR | ((repeat apply Exists.intro); exact ⟨hR, rfl⟩)
        case measure => simp [intOf]; omega
      · obtain ⟨k, rfl⟩ : ∃ k : Nat, r = k := ⟨r.toNat, by omega⟩
        obtain ⟨sb, so, rfl, c1⟩ := HCL.out k (by omega)
        replace c1 := (hb1.cell (p := ⟨sb, so + k * 5 + 1, none⟩) (block_lt_of_cell c1)).trans c1
        simp only [Int.toNat_natCast] at Ho Hk
        clear Hn HCL
        generalize (cvAt (cvs ls) k).rd = y at *
        have hwr : IntKind.i64.wrap (rd - 1) = rd - 1 := by rw [IntKind.wrap_i64]; omega
        have hkI : (k : Int) < ls.length := by omega
        by_cases hy : y = rd - 1
        · obtain ⟨H1, H2⟩ := Hk.out (by omega) hy
          have HX : Hid _ := H1
          have HY : Hid _ := H2
          subst hy
          clear Hk Ho H1 H2
          have hwe : (rd - 1 != IntKind.i64.wrap (rd - 1)) = false := by rw [hwr]; simp
          go_wp2_with fail
          go_region_held3 (fun w' => w'.cell? ⟨w.heap.size, 0, none⟩ = some (.slice (some ⟨sb, so, none⟩) ls.length cc) ∧ w'.cell? ⟨w.heap.size + 1, 1, none⟩ = some (.int .i64 rd) ∧ w'.cell? ⟨sb, so + k * 5 + 1, none⟩ = some (.int .i64 (rd - 1))) (go_keep) (fail)
          all_goals
            go_wp2_with fail
            go_roundw
            case rel =>
              have hR : ∃ (m' : Nat) (ms' : List Part), m' ≤ pl.length ∧ (Value.int .i64 ((m : Int) + 1)) = .int .i64 m' ∧ bss ms' = misTo (cvs ls) (bss pl) m' ∧ (∀ p ∈ ms', p ∈ pl) ∧ parTo (cvs ls) rd (bss pl) m' ≠ 9 ∧ w1.drew.ownsRow W0.heap.size 29 1 u6 ms'.length (pv ms') ∧ Below W0.heap.size W0 w1.drew :=
                ⟨m + 1, ms, by omega, by go_num, HY.out, HIN.out, HX.out, hob.drew, hB1.drew⟩
              first | exact hR | ((repeat apply Exists.intro); exact ⟨hR, rfl⟩)
            case measure => simp [intOf]; omega
        · have He : Hid (parF (cvs ls) rd (bss pl) = 9) := Ho.out (by omega) hy
          clear Hk Ho
          have hwe : (y != IntKind.i64.wrap (rd - 1)) = true := by rw [hwr]; simpa using hy
          go_wp2_with fail
          go_region_held3 (fun w' => w'.cell? ⟨w.heap.size, 0, none⟩ = some (.slice (some ⟨sb, so, none⟩) ls.length cc) ∧ w'.cell? ⟨w.heap.size + 1, 1, none⟩ = some (.int .i64 rd) ∧ w'.cell? ⟨sb, so + k * 5 + 1, none⟩ = some (.int .i64 y)) (go_keep) (fail)
          all_goals
            go_wp2_with fail
            go_ret2
            exact ⟨.inl ⟨He.out, rfl⟩, (hA.trans (hB1.mono hA.size)).drew⟩
    · obtain rfl : m = pl.length := by omega
      have HF : Hid (parF (cvs ls) rd (bss pl) ≠ 9) := by
        show parTo _ _ _ _ ≠ 9
        rw [bss_length]; exact hno
      have HM : Hid (bss ms = misF (cvs ls) (bss pl)) := by
        show bss ms = misTo _ _ _
        rw [bss_length]; exact hS
      clear hno hS
      obtain ⟨ra, rc, hv, hl, hL, hfr⟩ := list_of_owns ho (fun p hq => (hp.each p (hin p hq)).below hAr) (by omega)
      subst hv
      have HIN : Hid (∀ p ∈ ms, p ∈ pl) := hin
      clear hin
      go_wp2_with fail
      go_ret2
      exact ⟨.inr ⟨HF.out, ra, rc, ms, rfl, HM.out, hL, fun sb so e => ⟨Nat.le_trans hA.size (hfr sb so e).1, (hfr sb so e).2⟩, HIN.out⟩, hAr⟩
set_option maxRecDepth 100000 in
set_option maxHeartbeats 1000000 in
theorem takes_any (ls : List Ct) (ca : Option Addr) (cc : Nat) (da : Option Addr) (dc : Nat) (ds : List Part) (au rd : Int) (ba : Option Addr) (bn bc : Nat) (pl : List Part) (pa : Option Addr) (pc : Nat) (w : World) (hs : StockAt w ca cc ls da dc ds) (hpl : pl.length ≤ 4) (hrd : 1 ≤ rd ∧ rd ≤ 1048576) (hp : PartsAt w pa pl) :
    Calls Tryd.prog 45 #[.agg #[.slice ca ls.length cc, .slice da ls.length dc], .agg #[.int .i64 au, .int .i64 rd, .slice ba bn bc, .slice pa pl.length pc]] w fun e w' => e = .returned (.int .i64 (takF (cvs ls) au rd (bss pl))) ∧ Below w.heap.size w w' := by
  have hA : Below w.heap.size w ((w.alloc (.cells #[.slice ca ls.length cc, .slice da ls.length dc] 56)).alloc (.cells #[.int .i64 au, .int .i64 rd, .slice ba bn bc, .slice pa pl.length pc] 32)) := ((Below.refl _ _).alloc (Nat.le_refl _) _).alloc (by rw [size_alloc]; omega) _
  have r0 := heap_alloc2_old w (.cells #[.slice ca ls.length cc, .slice da ls.length dc] 56) (.cells #[.int .i64 au, .int .i64 rd, .slice ba bn bc, .slice pa pl.length pc] 32)
  have r1 : ((w.alloc (.cells #[.slice ca ls.length cc, .slice da ls.length dc] 56)).alloc (.cells #[.int .i64 au, .int .i64 rd, .slice ba bn bc, .slice pa pl.length pc] 32)).heap[w.heap.size + 1]? = some (.cells #[.int .i64 au, .int .i64 rd, .slice ba bn bc, .slice pa pl.length pc] 32 (0, 0)) := by
    have := heap_alloc_new (w.alloc (.cells #[.slice ca ls.length cc, .slice da ls.length dc] 56)) (.cells #[.int .i64 au, .int .i64 rd, .slice ba bn bc, .slice pa pl.length pc] 32)
    rw [size_alloc] at this; exact this
  go_enter Tryd.func45, Tryd.ntmps45
  go_wp2_with fail
  generalize (w.alloc (.cells #[.slice ca ls.length cc, .slice da ls.length dc] 56)).alloc (.cells #[.int .i64 au, .int .i64 rd, .slice ba bn bc, .slice pa pl.length pc] 32) = W0 at hA r0 r1 ⊢
  refine (of_any ls ca _ cc da _ dc ds au rd W0 rfl (hs.below hA)).mono ?_
  rintro e w1 ⟨he, hb1⟩
  subst he
  dsimp only
  have hB1 := hA.trans (hb1.mono hA.size)
  have H7 : Hid (0 ≤ cOf (cvs ls) au rd → takF (cvs ls) au rd (bss pl) = 7) := by
    show _ → _
    intro h; rw [takF, if_pos h]
  have H8 : Hid (¬ 0 ≤ cOf (cvs ls) au rd → takF (cvs ls) au rd (bss pl) = parF (cvs ls) rd (bss pl)) := by
    show _ → _
    intro h; rw [takF, if_neg h]
  generalize cOf (cvs ls) au rd = r at *
  by_cases hr : 0 ≤ r
  · have He : Hid _ := H7.out hr
    clear H7 H8
    go_wp2_with fail
    go_ret
    exact ⟨ret_int He.out.symm, hB1⟩
  · have He : Hid _ := H8.out hr
    clear H7 H8
    have s0 := (hb1.block _ (lt_of_heap r0)).trans r0
    have s1 := (hb1.block _ (lt_of_heap r1)).trans r1
    have b0 := cells_at s0 0 _ rfl
    have b1 := cells_at s0 1 _ rfl
    have d0 := cells_at s1 0 _ rfl
    have d1 := cells_at s1 1 _ rfl
    have d2 := cells_at s1 2 _ rfl
    have d3 := cells_at s1 3 _ rfl
    go_wp2_with fail
    refine (missing_any ls ca cc da dc ds au rd ba bn bc pl pa pc w1 (hs.below hB1) hpl hrd (hp.below hB1)).mono ?_
    rintro e w2 ⟨hM, hb2⟩
    have hB2 := hB1.trans (hb2.mono hB1.size)
    rcases hM with ⟨h9, he⟩ | ⟨h9, ma, mc, ms, he, hS, _⟩
    · have HE : Hid _ := He.out.trans h9
      clear He h9
      subst he
      dsimp only
      go_wp2_with fail
      go_ret
      exact ⟨ret_int HE.out.symm, hB2⟩
    · have hlen : ms.length = (misF (cvs ls) (bss pl)).length := by rw [← hS, bss_length]
      have HP : Hid (takF (cvs ls) au rd (bss pl) = if ms.length = 0 then 0 else 8) := by
        show _ = _
        rw [He.out, hlen]
        exact parTo_mis _ _ _ _ h9
      clear He h9 hS hlen
      subst he
      dsimp only
      by_cases hz : ms.length = 0
      · have HE : Hid (takF (cvs ls) au rd (bss pl) = 0) := by
          show _ = _
          rw [HP.out, if_pos hz]
        rw [hz]
        clear HP
        go_wp2_with fail
        go_ret
        exact ⟨ret_int HE.out.symm, hB2⟩
      · have HE : Hid (takF (cvs ls) au rd (bss pl) = 8) := by
          show _ = _
          rw [HP.out, if_neg hz]
        have hzI : (0 : Int) < ms.length := by omega
        clear HP
        go_wp2_with fail
        go_ret
        exact ⟨ret_int HE.out.symm, hB2⟩
end Go.Proofs.YtbehmcflllleaaaDoor

namespace Go.Proofs.YtbehmcflllleaaaDoor
open Go.RowKit

set_option maxRecDepth 100000 in
set_option maxHeartbeats 1000000 in
theorem checkCert_any (au rd : Int) (ba : Option Addr) (bc : Nat) (bl : List Part) (pa : Option Addr) (pc : Nat) (pl : List Part) (va : Option Addr) (vc : Nat) (vl : List Int) (w : World) (hb : ListAt w ba bc bl) (hp : ListAt w pa pc pl) (hv : IntsAt w va vl) (hvm : vl.length ≤ 9000000000000000000) :
    Calls Tryd.prog 44 #[.agg #[.int .i64 au, .int .i64 rd, .slice ba bl.length bc, .slice pa pl.length pc, .slice va vl.length vc]] w fun e w' => e = .returned (.int .i64 (certF au rd bl pl vl)) ∧ Below w.heap.size w w' := by
  have hA : Below w.heap.size w (w.alloc (.cells #[.int .i64 au, .int .i64 rd, .slice ba bl.length bc, .slice pa pl.length pc, .slice va vl.length vc] 35)) := (Below.refl _ _).alloc (Nat.le_refl _) _
  go_enter Tryd.func44, Tryd.ntmps44
  go_wp2_with fail
  refine (checkHeader_any au rd ba bc bl pa pc pl _ (hb.below hA) (hp.below hA)).mono ?_
  rintro e w1 ⟨he, hb1⟩
  subst he
  dsimp only
  have r1 := row_new hb1
  replace hb1 := below_alloc hb1
  have c4 : w1.cell? ⟨w.heap.size, 4, none⟩ = some (.slice va vl.length vc) := cells_at r1 4 _ rfl
  by_cases h1 : headerF au rd bl pl = 0
  · rw [h1]
    by_cases h2 : 4 < vl.length
    · have hF : Hid (certF au rd bl pl vl = 1) := by show _ = _; rw [certF, if_neg (by simp [h1]), if_pos h2]
      have h2I : (4 : Int) < vl.length := by omega
      go_wp2_with fail
      go_ret
      exact ⟨ret_int hF.out.symm, hb1⟩
    · have hF : Hid (certF au rd bl pl vl = votersF vl) := by show _ = _; rw [certF, if_neg (by simp [h1]), if_neg h2]
      have h2I : ¬ (4 : Int) < vl.length := by omega
      clear h1
      go_wp2_with fail
      go_loop [19] (fun i => ∃ k : Nat, k ≤ vl.length ∧ i = .int .i64 k ∧ vTo vl k = 0) (fun i => vl.length - (intOf i).toNat)
      case atStart => exact ⟨0, Nat.zero_le _, rfl, rfl⟩
      case round =>
        obtain ⟨k, hk, rfl, h0⟩ := hrel
        by_cases hlt : k < vl.length
        · obtain ⟨sb, so, rfl, hc⟩ : ∃ sb so, va = some ⟨sb, so, none⟩ ∧ ∀ j, j < vl.length → w1.cell? ⟨sb, so + j, none⟩ = some (.int .i64 (vl.getD j 0)) := by
            rcases (hv.below hb1).cells with h | h
            · rw [h] at hlt; simp at hlt
            · exact h
          have ck := hc k hlt
          have hltI : (k : Int) < vl.length := by omega
          have hVf : Hid (vAt vl k ≠ 0 → votersF vl = vAt vl k) := by
            show _ → _
            intro h
            rw [votersF, vTo_at vl k hlt h0 h, if_pos h]
          have hVs : Hid (vAt vl k = 0 → vTo vl (k + 1) = 0) := by
            show _ → _
            intro h
            rw [vTo, h0, h]; rfl
          have hVa : Hid (vAt vl k = if ¬ (0 ≤ vl.getD k 0 ∧ vl.getD k 0 < 4) then 2 else if 0 < k ∧ vl.getD k 0 ≤ vl.getD (k - 1) 0 then 9 else 0) := rfl
          by_cases hkz : k = 0
          · subst hkz
            clear hc
            rw [Nat.add_zero] at ck
            generalize vl.getD 0 0 = x at *
            by_cases hn : 0 ≤ x ∧ x < 4
            · have hst := hVs.out (by rw [hVa.out, if_neg (by simp [hn]), if_neg (by omega)])
              clear hVf hVs hVa
              go_wp2_with (go_at_call 58; first | (refine (isNode_true _ _ (by omega)).mono ?_; rintro e w' ⟨rfl, rfl⟩) | (refine (isNode_false _ _ (by omega)).mono ?_; rintro e w' ⟨rfl, rfl⟩))
              go_round
              case rel => exact ⟨0 + 1, by omega, by go_num, hst⟩
              case measure => simp [intOf]; omega
            · have e2 : Hid (certF au rd bl pl vl = 2) := by
                show _ = _
                have : vAt vl 0 = 2 := by rw [hVa.out, if_pos hn]
                rw [hF.out, hVf.out (by rw [this]; decide), this]
              clear hVf hVs hVa hF
              go_wp2_with (go_at_call 58; first | (refine (isNode_true _ _ (by omega)).mono ?_; rintro e w' ⟨rfl, rfl⟩) | (refine (isNode_false _ _ (by omega)).mono ?_; rintro e w' ⟨rfl, rfl⟩))
              go_ret
              exact ⟨ret_int e2.out.symm, hb1⟩
          · have cp := hc (k - 1) (by omega)
            have hkI : (0 : Int) < k := by omega
            have t0 : ((k : Int) - 1).toNat = k - 1 := by omega
            have u0_ : IntKind.i64.wrap ((k : Int) - 1) = (k : Int) - 1 := by rw [IntKind.wrap_i64]; omega
            have z0 : (0 : Int) ≤ (k : Int) - 1 := by omega
            have z1 : (k : Int) - 1 < vl.length := by omega
            clear hc
            generalize vl.getD k 0 = x at *
            generalize vl.getD (k - 1) 0 = y at *
            by_cases hn : 0 ≤ x ∧ x < 4
            · by_cases hxy : x ≤ y
              · have e9 : Hid (certF au rd bl pl vl = 9) := by
                  show _ = _
                  have : vAt vl k = 9 := by rw [hVa.out, if_neg (by simp [hn]), if_pos (by omega)]
                  rw [hF.out, hVf.out (by rw [this]; decide), this]
                clear hVf hVs hVa hF
                go_wp2_with (go_at_call 58; first | (refine (isNode_true _ _ (by omega)).mono ?_; rintro e w' ⟨rfl, rfl⟩) | (refine (isNode_false _ _ (by omega)).mono ?_; rintro e w' ⟨rfl, rfl⟩))
                go_ret
                exact ⟨ret_int e9.out.symm, hb1⟩
              · have hst := hVs.out (by rw [hVa.out, if_neg (by simp [hn]), if_neg (by omega)])
                clear hVf hVs hVa
                go_wp2_with (go_at_call 58; first | (refine (isNode_true _ _ (by omega)).mono ?_; rintro e w' ⟨rfl, rfl⟩) | (refine (isNode_false _ _ (by omega)).mono ?_; rintro e w' ⟨rfl, rfl⟩))
                go_round
                case rel => exact ⟨k + 1, by omega, by go_num, hst⟩
                case measure => simp [intOf]; omega
            · have e2 : Hid (certF au rd bl pl vl = 2) := by
                show _ = _
                have : vAt vl k = 2 := by rw [hVa.out, if_pos hn]
                rw [hF.out, hVf.out (by rw [this]; decide), this]
              clear hVf hVs hVa hF
              go_wp2_with (go_at_call 58; first | (refine (isNode_true _ _ (by omega)).mono ?_; rintro e w' ⟨rfl, rfl⟩) | (refine (isNode_false _ _ (by omega)).mono ?_; rintro e w' ⟨rfl, rfl⟩))
              go_ret
              exact ⟨ret_int e2.out.symm, hb1⟩
        · obtain rfl : k = vl.length := by omega
          by_cases h3 : vl.length < 3
          · have e10 : Hid (certF au rd bl pl vl = 10) := by show _ = _; rw [hF.out, votersF, if_neg (by simp [h0]), if_pos h3]
            have h3I : (vl.length : Int) < 3 := by omega
            clear hF h0
            go_wp2_with fail
            go_ret
            exact ⟨ret_int e10.out.symm, hb1⟩
          · have e0 : Hid (certF au rd bl pl vl = 0) := by show _ = _; rw [hF.out, votersF, if_neg (by simp [h0]), if_neg h3]
            have h3I : ¬ (vl.length : Int) < 3 := by omega
            clear hF h0
            go_wp2_with fail
            go_ret
            exact ⟨ret_int e0.out.symm, hb1⟩
  · have hF : Hid (certF au rd bl pl vl = headerF au rd bl pl) := by show _ = _; rw [certF, if_pos h1]
    generalize headerF au rd bl pl = z at *
    go_wp2_with fail
    go_ret
    exact ⟨ret_int hF.out.symm, hb1⟩
end Go.Proofs.YtbehmcflllleaaaDoor

namespace Go.Proofs.YtbehmcflllleaaaDoor
open Go.RowKit

set_option maxRecDepth 100000 in
set_option maxHeartbeats 1000000 in
theorem parentsFault_any (ls : List Ct) (ca : Option Addr) (cn cc : Nat) (ds : List Part) (da : Option Addr) (dn dc : Nat) (au rd : Int) (ba : Option Addr) (bn bc : Nat) (pl : List Part) (pa : Option Addr) (pn pc : Nat) (w : World) (hcn : cn = ls.length) (hdn : dn = ls.length) (hpn : pn = pl.length) (hS : bss ds = (cvs ls).map CV.d) (hk2 : ls.length ≤ 3000000000000000000) (hpl : pl.length ≤ 4) (hrd : 1 ≤ rd ∧ rd ≤ 1048576) (hd : PartsAt w da ds) (hc : CertsAt w ca ls) (hp : PartsAt w pa pl) :
    Calls Tryd.prog 32 #[.slice ca cn cc, .slice da dn dc, .agg #[.int .i64 au, .int .i64 rd, .slice ba bn bc, .slice pa pn pc]] w fun e w' => e = .returned (.int .i64 (parF (cvs ls) rd (bss pl))) ∧ Below w.heap.size w w' := by
  have hA := (Below.refl w.heap.size w).alloc (Nat.le_refl _) (.cells #[.int .i64 au, .int .i64 rd, .slice ba bn bc, .slice pa pn pc] 32)
  have r0 := heap_alloc_new w (.cells #[.int .i64 au, .int .i64 rd, .slice ba bn bc, .slice pa pn pc] 32)
  subst hcn hpn
  have hdl : dn = ds.length := by rw [digs_length hS, cvs_length]; exact hdn
  have HS : Hid (bss ds = (cvs ls).map CV.d) := hS
  clear hS
  have HD : Hid (dn = ds.length) := hdl
  clear hdl
  subst hdn
  go_enter Tryd.func32, Tryd.ntmps32
  go_wp2_with fail
  generalize w.alloc (.cells #[.int .i64 au, .int .i64 rd, .slice ba bn bc, .slice pa pl.length pc] 32) = W0 at hA r0 ⊢
  have d1 : W0.cell? ⟨w.heap.size, 1, none⟩ = some (.int .i64 rd) := cells_at r0 1 _ rfl
  have d3 : W0.cell? ⟨w.heap.size, 3, none⟩ = some (.slice pa pl.length pc) := cells_at r0 3 _ rfl
  have hd0 := hd.below hA
  have hc0 := hc.below hA
  have hp0 := hp.below hA
  have hlt0 : w.heap.size < W0.heap.size := lt_of_heap r0
  clear hd hc hp
  go_loopw [8, 7] (fun i e wr => ∃ m : Nat, m ≤ pl.length ∧ i = .int .i64 m ∧ e = .int .i64 (parTo (cvs ls) rd (bss pl) m) ∧ parTo (cvs ls) rd (bss pl) m ≠ 9 ∧ Below W0.heap.size W0 wr) (fun i _ _ => pl.length - (intOf i).toNat)
  case atStart => exact ⟨0, Nat.zero_le _, rfl, rfl, by rw [parTo]; decide, Below.refl _ _⟩
  case round =>
    obtain ⟨m, hm, rfl, rfl, hno, hbr⟩ := hrel
    replace d1 := (hbr.cell (p := ⟨w.heap.size, 1, none⟩) hlt0).trans d1
    replace d3 := (hbr.cell (p := ⟨w.heap.size, 3, none⟩) hlt0).trans d3
    replace hd0 := hd0.below hbr
    replace hc0 := hc0.below hbr
    replace hp0 := hp0.below hbr
    have hAr := hA.trans (hbr.mono hA.size)
    by_cases hlt : m < pl.length
    · rcases hp0.cells with hcc | ⟨pb, po, rfl, hcc⟩
      · subst hcc; simp at hlt
      have ck := hcc m hlt
      have hx := hp0.each (pl[m]) (List.getElem_mem hlt)
      have hltI : (m : Int) < pl.length := by omega
      have hg := bss_get pl m hlt
      have hlb : m < (bss pl).length := by rw [bss_length]; exact hlt
      have Hn : Hid (pOf (cvs ls) (pl[m]).bs < 0 → parTo (cvs ls) rd (bss pl) (m + 1) = 8) := by
        show _ → _
        intro h
        exact parTo_none _ _ _ m hno (by rw [hg]; exact h)
      have Ho : Hid (¬ pOf (cvs ls) (pl[m]).bs < 0 → (cvAt (cvs ls) (pOf (cvs ls) (pl[m]).bs).toNat).rd ≠ rd - 1 → parF (cvs ls) rd (bss pl) = 9) := by
        show _ → _ → _
        intro h1 h2
        exact parTo_order _ _ _ m (by rw [hg]; exact h1) (by rw [hg]; exact h2) hlb
      have Hk : Hid (¬ pOf (cvs ls) (pl[m]).bs < 0 → (cvAt (cvs ls) (pOf (cvs ls) (pl[m]).bs).toNat).rd = rd - 1 → parTo (cvs ls) rd (bss pl) (m + 1) = parTo (cvs ls) rd (bss pl) m) := by
        show _ → _ → _
        intro h1 h2
        exact parTo_ok _ _ _ m (by rw [hg]; exact h1) (by rw [hg]; exact h2)
      have HN : Hid (parTo (cvs ls) rd (bss pl) m ≠ 9) := hno
      clear hno hg hcc hlb
      generalize pl[m] = p at *
      have hB := pOf_bounds (cvs ls) p.bs
      rw [cvs_length] at hB
      have hcl : ∀ k : Nat, k < ls.length → ∃ sb so, ca = some ⟨sb, so, none⟩ ∧ wr.cell? ⟨sb, so + k * 5 + 1, none⟩ = some (.int .i64 (cvAt (cvs ls) k).rd) := fun k hk => by
        obtain ⟨sb, so, e, _, c1, _⟩ := hc0.at k hk
        exact ⟨sb, so, e, by rw [cvAt_get ls k hk]; exact c1⟩
      have HCL : Hid _ := hcl
      clear hcl
      generalize parTo (cvs ls) rd (bss pl) m = E at *
      go_wp2_with fail
      refine (placeOf_any (cvs ls) ds da _ dc p.bs p.sa _ p.cap wr HD.out HS.out hk2 hd0 rfl hx).mono ?_
      rintro e w1 ⟨he, rfl⟩
      subst he
      dsimp only
      generalize pOf (cvs ls) p.bs = r at *
      by_cases hr : r < 0
      · have He : Hid (parTo (cvs ls) rd (bss pl) (m + 1) = 8) := Hn.out hr
        clear Hn Ho Hk HCL
        obtain rfl : r = -1 := by omega
        go_wp2_with fail
        refine wp_region_held_drew (S := fun w' => w'.cell? ⟨w.heap.size, 1, none⟩ = some (.int .i64 rd)) (by kernel_rfl) d1 (fun hHeld => ?_)
        refine take_dst (i := 0) (d := 24) (v := .int .i64 (-1)) rfl rfl (by kernel_rfl) (by kernel_rfl) (by kernel_rfl) (fun _ _ _ h => h) (Or.inl ⟨by rfl, ?_⟩) hHeld ?_
        · (intro w0 hSw; (try dsimp only at hSw); go_simp)
        simp only [Act.put, List.setIfInBounds_toArray, List.set_cons_zero, List.set_cons_succ]
        refine take_dst (i := 1) (d := 25) (v := .bool false) rfl rfl (by kernel_rfl) (by kernel_rfl) (by kernel_rfl) (fun _ _ _ h => h) (Or.inl ⟨by rfl, ?_⟩) hHeld ?_
        · (intro w0 hSw; (try dsimp only at hSw); go_simp)
        simp only [Act.put, List.setIfInBounds_toArray, List.set_cons_zero, List.set_cons_succ]
        refine take_dst (i := 2) (d := 26) (v := .bool false) rfl rfl (by kernel_rfl) (by kernel_rfl) (by kernel_rfl) (fun _ _ _ h => h) (Or.inl ⟨by rfl, ?_⟩) hHeld ?_
        · (intro w0 hSw; (try dsimp only at hSw); go_simp)
        simp only [Act.put, List.setIfInBounds_toArray, List.set_cons_zero, List.set_cons_succ]
        refine take_dst (i := 3) (d := 27) (v := undef) rfl rfl (by kernel_rfl) (by kernel_rfl) (by kernel_rfl) (fun _ _ _ h => h) (Or.inr ⟨by rfl, rfl⟩) hHeld ?_
        simp only [Act.put, List.setIfInBounds_toArray, List.set_cons_zero, List.set_cons_succ]
        refine take_dst (i := 4) (d := 28) (v := undef) rfl rfl (by kernel_rfl) (by kernel_rfl) (by kernel_rfl) (fun _ _ _ h => h) (Or.inr ⟨by rfl, rfl⟩) hHeld ?_
        simp only [Act.put, List.setIfInBounds_toArray, List.set_cons_zero, List.set_cons_succ]
        refine take_dst (i := 5) (d := 29) (v := undef) rfl rfl (by kernel_rfl) (by kernel_rfl) (by kernel_rfl) (fun _ _ _ h => h) (Or.inr ⟨by rfl, rfl⟩) hHeld ?_
        simp only [Act.put, List.setIfInBounds_toArray, List.set_cons_zero, List.set_cons_succ]
        refine take_dst (i := 6) (d := 30) (v := undef) rfl rfl (by kernel_rfl) (by kernel_rfl) (by kernel_rfl) (fun _ _ _ h => h) (Or.inr ⟨by rfl, rfl⟩) hHeld ?_
        simp only [Act.put, List.setIfInBounds_toArray, List.set_cons_zero, List.set_cons_succ]
        refine take_dst (i := 7) (d := 31) (v := undef) rfl rfl (by kernel_rfl) (by kernel_rfl) (by kernel_rfl) (fun _ _ _ h => h) (Or.inr ⟨by rfl, rfl⟩) hHeld ?_
        simp only [Act.put, List.setIfInBounds_toArray, List.set_cons_zero, List.set_cons_succ]
        refine take_dst (i := 8) (d := 32) (v := undef) rfl rfl (by kernel_rfl) (by kernel_rfl) (by kernel_rfl) (fun _ _ _ h => h) (Or.inr ⟨by rfl, rfl⟩) hHeld ?_
        simp only [Act.put, List.setIfInBounds_toArray, List.set_cons_zero, List.set_cons_succ]
        refine take_dst (i := 9) (d := 33) (v := undef) rfl rfl (by kernel_rfl) (by kernel_rfl) (by kernel_rfl) (fun _ _ _ h => h) (Or.inr ⟨by rfl, rfl⟩) hHeld ?_
        simp only [Act.put, List.setIfInBounds_toArray, List.set_cons_zero, List.set_cons_succ]
        refine take_dst (i := 10) (d := 34) (v := undef) rfl rfl (by kernel_rfl) (by kernel_rfl) (by kernel_rfl) (fun _ _ _ h => h) (Or.inr ⟨by rfl, rfl⟩) hHeld ?_
        simp only [Act.put, List.setIfInBounds_toArray, List.set_cons_zero, List.set_cons_succ]
        refine take_dst (i := 11) (d := 35) (v := undef) rfl rfl (by kernel_rfl) (by kernel_rfl) (by kernel_rfl) (fun _ _ _ h => h) (Or.inr ⟨by rfl, rfl⟩) hHeld ?_
        simp only [Act.put, List.setIfInBounds_toArray, List.set_cons_zero, List.set_cons_succ]
        refine take_dst (i := 12) (d := 36) (v := undef) rfl rfl (by kernel_rfl) (by kernel_rfl) (by kernel_rfl) (fun _ _ _ h => h) (Or.inr ⟨by rfl, rfl⟩) hHeld ?_
        simp only [Act.put, List.setIfInBounds_toArray, List.set_cons_zero, List.set_cons_succ]
        refine take_dst (i := 13) (d := 37) (v := .bool false) rfl rfl (by kernel_rfl) (by kernel_rfl) (by kernel_rfl) (fun _ _ _ h => h) (Or.inl ⟨by rfl, ?_⟩) hHeld ?_
        · (intro w0 hSw; (try dsimp only at hSw); go_simp)
        simp only [Act.put, List.setIfInBounds_toArray, List.set_cons_zero, List.set_cons_succ]
        refine wpAnyH_done (by kernel_rfl) ?_ _
        go_wp2_with fail
        go_roundw
        case rel =>
          have hR : ∃ m' : Nat, m' ≤ pl.length ∧ (Value.int .i64 ((m : Int) + 1)) = .int .i64 m' ∧ (Value.int .i64 8) = .int .i64 (parTo (cvs ls) rd (bss pl) m') ∧ parTo (cvs ls) rd (bss pl) m' ≠ 9 ∧ Below W0.heap.size W0 wr.drew := ⟨m + 1, by omega, by go_num, by rw [He.out], by rw [He.out]; decide, hbr.drew⟩
          first | exact hR | ((repeat apply Exists.intro); exact ⟨hR, rfl⟩)
        case measure => simp [intOf]; omega
      · obtain ⟨k, rfl⟩ : ∃ k : Nat, r = k := ⟨r.toNat, by omega⟩
        obtain ⟨sb, so, rfl, c1⟩ := HCL.out k (by omega)
        simp only [Int.toNat_natCast] at Ho Hk
        clear Hn HCL
        generalize (cvAt (cvs ls) k).rd = y at *
        have hwr : IntKind.i64.wrap (rd - 1) = rd - 1 := by rw [IntKind.wrap_i64]; omega
        by_cases hy : y = rd - 1
        · have He : Hid (parTo (cvs ls) rd (bss pl) (m + 1) = E) := Hk.out (by omega) hy
          subst hy
          clear Hk Ho
          have hwe : (rd - 1 != IntKind.i64.wrap (rd - 1)) = false := by rw [hwr]; simp
          go_wp2_with fail
          go_region_held3 (fun w' => w'.cell? ⟨w.heap.size, 1, none⟩ = some (.int .i64 rd) ∧ w'.cell? ⟨sb, so + k * 5 + 1, none⟩ = some (.int .i64 (rd - 1))) (go_keep) (fail)
          all_goals
            go_wp2_with fail
            go_roundw
            case rel =>
              have hR : ∃ m' : Nat, m' ≤ pl.length ∧ (Value.int .i64 ((m : Int) + 1)) = .int .i64 m' ∧ (Value.int .i64 E) = .int .i64 (parTo (cvs ls) rd (bss pl) m') ∧ parTo (cvs ls) rd (bss pl) m' ≠ 9 ∧ Below W0.heap.size W0 wr.drew := ⟨m + 1, by omega, by go_num, by rw [He.out], by rw [He.out]; exact HN.out, hbr.drew⟩
              first | exact hR | ((repeat apply Exists.intro); exact ⟨hR, rfl⟩)
            case measure => simp [intOf]; omega
        · have He : Hid (parF (cvs ls) rd (bss pl) = 9) := Ho.out (by omega) hy
          clear Hk Ho
          have hwe : (y != IntKind.i64.wrap (rd - 1)) = true := by rw [hwr]; simpa using hy
          go_wp2_with fail
          go_region_held3 (fun w' => w'.cell? ⟨w.heap.size, 1, none⟩ = some (.int .i64 rd) ∧ w'.cell? ⟨sb, so + k * 5 + 1, none⟩ = some (.int .i64 y)) (go_keep) (fail)
          all_goals
            go_wp2_with fail
            go_ret
            exact ⟨ret_int He.out.symm, hAr.drew⟩
    · obtain rfl : m = pl.length := by omega
      have He : Hid (parF (cvs ls) rd (bss pl) = parTo (cvs ls) rd (bss pl) pl.length) := by
        show parTo _ _ _ _ = _
        rw [bss_length]
      clear hno
      generalize parTo (cvs ls) rd (bss pl) pl.length = E at *
      go_wp2_with fail
      go_ret
      exact ⟨ret_int He.out.symm, hAr⟩
end Go.Proofs.YtbehmcflllleaaaDoor

namespace Go.Proofs.YtbehmcflllleaaaDoor
open Go.ChangeShapes Go.WideShapes Go.ChangeAt Go.RowKit

set_option maxRecDepth 100000 in
theorem cU8 : Tryd.prog.cellsOf 5 = 1 := by kernel_rfl
set_option maxRecDepth 100000 in
theorem own : ownKnob Tryd.prog.godebug = none := by kernel_rfl
set_option maxRecDepth 100000 in
theorem laidOut : laidOutB Tryd.prog = true := by kernel_rfl
/-- Each is a byte. -/
def AllU8 (bs : List Int) : Prop := ∀ x ∈ bs, 0 ≤ x ∧ x ≤ 255
set_option maxRecDepth 100000 in
theorem open_bytes_cells {H : Type} {enc : TypeId × Value → H} {W : World} {fuel : Nat} {cs : List Value} {x : DataW H × List MemPlace}
    (hf : DataW.trod enc Tryd.prog W 0 (fun _ => true) true fuel 29 cs = some x) :
    ∃ sa cap bs, cs = [.slice sa (List.length bs) cap] ∧ SliceAt W sa cap bs ∧ AllU8 bs := by
  rcases open_ints Tryd.underlying29 Tryd.underlying5 cU8 hf with ⟨rfl, _⟩ | ⟨x, len0, cap0, zs, rfl, _, hl, hm, hz, _, hcell, hwz⟩
  · exact ⟨none, 0, [], rfl, ⟨Nat.le_refl _, by decide, .inl rfl, fun _ => rfl, .inl rfl⟩, fun x hx => by cases hx⟩
  · simp only [if_true] at hz
    have hlen : (zs.take len0).length = len0 := by rw [List.length_take, hz]; omega
    refine ⟨some x, cap0, zs.take len0, by rw [hlen], ?_, fun y hy => bounds_u8 (hwz y (List.mem_of_mem_take hy))⟩
    rcases Nat.eq_zero_or_pos cap0 with h0 | h0
    · subst h0
      obtain rfl : len0 = 0 := by omega
      exact ⟨by simp, hm, .inl rfl, fun _ => rfl, .inl (by simp)⟩
    · obtain ⟨b, off, rfl, hc⟩ := ints_at hcell (by omega)
      refine ⟨by omega, hm, .inr ⟨b, off, rfl⟩, (fun e => by cases e), .inr ⟨b, off, rfl, fun j hj => ?_⟩⟩
      rw [hc j (by omega)]
      have : j < len0 := by omega
      simp [List.getD, this]
set_option maxRecDepth 100000 in
theorem open_bytes {H : Type} {enc : TypeId × Value → H} {W : World} {base : Nat} {v : Value} {d : DataW H} {p : List MemPlace}
    (hv : Value.okWide Tryd.prog W .any base 29 v) (h : DataW.Trod enc Tryd.prog W 0 (fun _ => true) true 29 v d p) :
    ∃ sa cap bs, v = .slice sa (List.length bs) cap ∧ SliceAt W sa cap bs ∧ AllU8 bs := by
  obtain ⟨a0, len0, cap0, rfl⟩ := okWide_slice Tryd.underlying29 hv
  obtain ⟨fuel, hf⟩ := h
  obtain ⟨sa, cap, bs, hcs, h1, h2⟩ := open_bytes_cells hf
  simp [Value.cells] at hcs
  obtain ⟨rfl, rfl, rfl⟩ := hcs
  exact ⟨_, _, bs, rfl, h1, h2⟩
set_option maxRecDepth 100000 in
theorem bU8 : Tryd.prog.bytesOf 5 = 1 := by kernel_rfl
set_option maxRecDepth 100000 in
/-- The form's own reach, of one argument. -/
theorem fit_each {H : Type} {ts : List TypeId} {ds : List (DataW H)} (h : (DataW.weightsEach Tryd.prog ts ds).all (· ≤ reachBytes) = true) {j : Nat} {t : TypeId} {d : DataW H} (ht : ts[j]? = some t) (hd : ds[j]? = some d) : ∀ n ∈ d.weights Tryd.prog t, n ≤ reachBytes := fun n hn => by
  simpa using List.all_eq_true.1 h n (DataW.weights_mem_each ht hd n hn)
set_option maxRecDepth 100000 in
/-- A slice of bytes has room for so many. -/
theorem bytes_fit {H : Type} {enc : TypeId × Value → H} {W : World} {fuel : Nat} {cs : List Value} {x : DataW H × List MemPlace} {sa : Option Addr} {n cap : Nat}
    (hf : DataW.trod enc Tryd.prog W 0 (fun _ => true) true fuel 29 cs = some x) (hfit : ∀ n ∈ x.1.weights Tryd.prog 29, n ≤ reachBytes) (e : cs = [.slice sa n cap]) : cap ≤ 140737488351232 := by
  rcases open_ints Tryd.underlying29 Tryd.underlying5 cU8 hf with ⟨rfl, _⟩ | ⟨a, len, cap', zs, rfl, _, hl, hm, hz, rfl, _, _⟩
  · simp at e
    omega
  · simp at e
    obtain ⟨_, rfl, rfl⟩ := e
    have := hfit (((zs.take len).length + (zs.drop len).length) * Tryd.prog.bytesOf 5) (by simp [DataW.weights, Tryd.underlying29, lits])
    rw [bU8] at this
    simp only [if_true] at hz
    simp [reachBytes] at this
    omega
end Go.Proofs.YtbehmcflllleaaaDoor

namespace Go.Proofs.YtbehmcflllleaaaDoor
open Go.ChangeShapes Go.WideShapes Go.ChangeAt Go.RowKit Go.Deep

set_option maxRecDepth 100000 in
theorem cBsL : Tryd.prog.cellsOf 29 = 1 := by kernel_rfl
set_option maxRecDepth 100000 in
theorem bBsL : Tryd.prog.bytesOf 29 = 24 := by kernel_rfl
set_option maxRecDepth 100000 in
theorem weightsAll_mem {H : Type} (e : TypeId) (l : List (DataW H)) (d : DataW H) (hd : d ∈ l) : ∀ n ∈ d.weights Tryd.prog e, n ∈ DataW.weightsAll Tryd.prog e l := by
  induction l with
  | nil => cases hd
  | cons x r ih =>
    intro n hn
    rw [DataW.weightsAll]
    rcases List.mem_cons.1 hd with rfl | h
    · exact List.mem_append_left _ hn
    · exact List.mem_append_right _ (ih h n hn)
set_option maxRecDepth 100000 in
theorem open_lists_cells {H : Type} {enc : TypeId × Value → H} {W : World} {fuel : Nat} {cs : List Value} {x : DataW H × List MemPlace}
    (hf : DataW.trod enc Tryd.prog W 0 (fun _ => true) true fuel 30 cs = some x) (hfit : ∀ n ∈ x.1.weights Tryd.prog 30, n ≤ reachBytes) :
    ∃ sa cap ps, cs = [.slice sa (List.length ps) cap] ∧ ReadAt W sa cap ps ∧ ∀ p ∈ ps, AllU8 p.bs := by
  rcases open_slice1 Tryd.underlying30 cBsL hf with ⟨rfl, _⟩ | ⟨a, len, cap, m, n, V, D, Pl, rfl, _, hl, hm, hmm, rfl, hx⟩
  · exact ⟨none, 0, [], rfl, ⟨⟨Nat.le_refl _, by decide, by decide, .inl rfl, ⟨.inl rfl, fun p hp => by cases hp⟩⟩, by decide, fun p hp => by cases hp⟩, fun p hp => by cases hp⟩
  · simp only [if_true] at hmm
    subst hmm
    have hw := hfit ((((List.range len).map D).length + ((List.range (m - len)).map fun j => D (len + j)).length) * Tryd.prog.bytesOf 29) (by simp [DataW.weights, Tryd.underlying30])
    rw [bBsL] at hw
    simp [reachBytes] at hw
    have each : ∀ i, i < len → ∃ p : Part, V i = .slice p.sa p.bs.length p.cap ∧ SliceAt W p.sa p.cap p.bs ∧ AllU8 p.bs ∧ p.cap ≤ 140737488351232 := fun i hi => by
      obtain ⟨_, h2⟩ := hx i (by omega)
      obtain ⟨sa, cap, bs, e, h3, h4⟩ := open_bytes_cells h2
      have hfi : ∀ n ∈ (D i).weights Tryd.prog 29, n ≤ reachBytes := fun n hn => hfit n (by
        have := weightsAll_mem 29 ((List.range len).map D) (D i) (List.mem_map.2 ⟨i, List.mem_range.2 hi, rfl⟩) n hn
        simp only [DataW.weights, Tryd.underlying30]
        exact List.mem_cons_of_mem _ (List.mem_append_left _ this))
      have h5 := bytes_fit h2 hfi e
      exact ⟨⟨sa, cap, bs⟩, by simpa using e, h3, h4, h5⟩
    obtain ⟨P, hP⟩ := @choose_lt Part ⟨⟨none, 0, []⟩⟩ len _ each
    refine ⟨some a, m, (List.range len).map P, by simp, ⟨⟨by simpa using hl, hm, by simp; omega, ?_, ⟨?_, ?_⟩⟩, by simp; omega, ?_⟩, ?_⟩
    · rcases Nat.eq_zero_or_pos m with h0 | h0
      · exact .inl h0
      · right
        have h9 := (hx 0 h0).1
        cases a with
        | mk b off spot =>
          cases spot with
          | none => exact ⟨b, off, rfl⟩
          | some s => simp [World.cell?, Addr.add] at h9; split at h9 <;> cases h9
    · rcases Nat.eq_zero_or_pos len with h0 | h0
      · subst h0; exact .inl rfl
      · right
        have h9 := (hx 0 (by omega)).1
        obtain ⟨b, off, rfl⟩ : ∃ b off, a = ⟨b, off, none⟩ := by
          cases a with
          | mk b off spot =>
            cases spot with
            | none => exact ⟨b, off, rfl⟩
            | some s => simp [World.cell?, Addr.add] at h9; split at h9 <;> cases h9
        refine ⟨b, off, rfl, fun j hj => ?_⟩
        have hj' : j < len := by simpa using hj
        have h1 := (hx j (by omega)).1
        rw [add_off] at h1
        rw [h1, (hP j hj').1]
        simp
    · intro p hp
      simp at hp
      obtain ⟨j, hj, rfl⟩ := hp
      exact (hP j hj).2.1
    · intro p hp
      simp at hp
      obtain ⟨j, hj, rfl⟩ := hp
      have h1 := (hP j hj).2.1.le
      have h2 := (hP j hj).2.2.2
      omega
    · intro p hp
      simp at hp
      obtain ⟨j, hj, rfl⟩ := hp
      exact (hP j hj).2.2.1
set_option maxRecDepth 100000 in
theorem open_lists {H : Type} {enc : TypeId × Value → H} {W : World} {base : Nat} {v : Value} {d : DataW H} {p : List MemPlace}
    (hv : Value.okWide Tryd.prog W .any base 30 v) (h : DataW.Trod enc Tryd.prog W 0 (fun _ => true) true 30 v d p) (hfit : ∀ n ∈ d.weights Tryd.prog 30, n ≤ reachBytes) :
    ∃ sa cap ps, v = .slice sa (List.length ps) cap ∧ ReadAt W sa cap ps ∧ ∀ p ∈ ps, AllU8 p.bs := by
  obtain ⟨a0, len0, cap0, rfl⟩ := okWide_slice Tryd.underlying30 hv
  obtain ⟨fuel, hf⟩ := h
  obtain ⟨sa, cap, ps, hcs, h1, h2⟩ := open_lists_cells hf hfit
  simp [Value.cells] at hcs
  obtain ⟨rfl, rfl, rfl⟩ := hcs
  exact ⟨_, _, ps, rfl, h1, h2⟩
end Go.Proofs.YtbehmcflllleaaaDoor
