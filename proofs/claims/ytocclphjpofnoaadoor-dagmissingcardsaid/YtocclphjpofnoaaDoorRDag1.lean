/- The document's certOf, placeOf, for every list. -/
import Derived.Test.YtocclphjpofnoaaDoorCerts
import Derived.Test.YtocclphjpofnoaaDoorRDigs
import Derived.Test.YtocclphjpofnoaaDoorCalls
import Derived.Deep.RegionHeld3
namespace Go.Proofs.YtocclphjpofnoaaDoor
open Go.RowKit

set_option maxRecDepth 100000 in
set_option maxHeartbeats 1000000 in
theorem certOf_any (ls : List Ct) (sa : Option Addr) (n cap : Nat) (au rd : Int) (w : World) (hn : n = ls.length) (hk2 : n ≤ 3000000000000000000) (hp : CertsAt w sa ls) :
    Calls Tryd.prog 31 #[.slice sa n cap, .int .i64 au, .int .i64 rd] w fun e w' => e = .returned (.int .i64 (cOf (cvs ls) au rd)) ∧ w = w' := by
  subst hn
  go_enter Tryd.func31, Tryd.ntmps31
  go_wp2_with fail
  go_loop [7] (fun i => ∃ m : Nat, m ≤ ls.length ∧ i = .int .i64 m ∧ fidx (cHit (cvs ls) au rd) m = -1) (fun i => ls.length - (intOf i).toNat)
  case atStart => exact ⟨0, Nat.zero_le _, rfl, rfl⟩
  case round =>
    obtain ⟨m, hm, rfl, hno⟩ := hrel
    by_cases hlt : m < ls.length
    · obtain ⟨sb, so, rfl, c0, c1, _, _, _⟩ := hp.at m hlt
      have hg := cHit_get ls au rd m hlt
      have hltI : (m : Int) < ls.length := by omega
      have Hf : Hid ((ls[m]).au = au ∧ (ls[m]).rd = rd → cOf (cvs ls) au rd = m) := by
        show _ → _
        intro h
        exact fidx_hit _ m _ hno (by rw [hg]; simpa using h) (by rw [cvs_length]; exact hlt)
      have Hn : Hid (¬ ((ls[m]).au = au ∧ (ls[m]).rd = rd) → fidx (cHit (cvs ls) au rd) (m + 1) = -1) := by
        show _ → _
        intro h
        exact fidx_step _ m hno (by rw [hg]; simpa using h)
      clear hno hg
      generalize ls[m] = s at *
      by_cases h : s.au = au ∧ s.rd = rd
      · obtain ⟨rfl, rfl⟩ := h
        have He : Hid (cOf (cvs ls) s.au s.rd = m) := Hf.out ⟨rfl, rfl⟩
        clear Hf Hn
        go_wp2_with fail
        all_goals
          go_ret
          exact ⟨ret_int He.out.symm, rfl⟩
      · have He : Hid (fidx (cHit (cvs ls) au rd) (m + 1) = -1) := Hn.out h
        clear Hf Hn
        go_wp2_with fail
        all_goals
          go_round
          case rel => exact ⟨m + 1, by omega, by go_num, He.out⟩
          case measure => simp [intOf]; omega
    · obtain rfl : m = ls.length := by omega
      have He : Hid (cOf (cvs ls) au rd = -1) := by
        show fidx _ _ = -1
        rw [cvs_length]; exact hno
      clear hno
      go_wp2_with fail
      go_ret
      exact ⟨ret_int He.out.symm, rfl⟩
set_option maxRecDepth 100000 in
theorem digs_get {l : List CV} {ds : List Part} (hS : bss ds = l.map CV.d) (k : Nat) (h : k < ds.length) : (cvAt l k).d = (ds[k]).bs := by
  have hl := congrArg List.length hS
  simp only [bss, List.length_map] at hl
  have h' : k < l.length := by omega
  have e : (bss ds)[k]? = (l.map CV.d)[k]? := by rw [hS]
  simp only [bss, List.getElem?_map, List.getElem?_eq_getElem h, List.getElem?_eq_getElem h', Option.map_some, Option.some.injEq] at e
  rw [e]
  simp [cvAt, h']
set_option maxRecDepth 100000 in
theorem digs_length {l : List CV} {ds : List Part} (hS : bss ds = l.map CV.d) : ds.length = l.length := by
  have hl := congrArg List.length hS
  simpa [bss] using hl
set_option maxRecDepth 100000 in
set_option maxHeartbeats 1000000 in
theorem placeOf_any (l : List CV) (ds : List Part) (da : Option Addr) (n cap : Nat) (bs : List Int) (ka : Option Addr) (kn kc : Nat) (w : World) (hn : n = ds.length) (hS : bss ds = l.map CV.d) (hk2 : n ≤ 3000000000000000000) (hd : PartsAt w da ds) (hkn : kn = bs.length) (hk : SliceAt w ka kc bs) :
    Calls Tryd.prog 35 #[.slice da n cap, .slice ka kn kc] w fun e w' => e = .returned (.int .i64 (pOf l bs)) ∧ w = w' := by
  subst hn hkn
  have HL : Hid (ds.length = l.length) := digs_length hS
  have HS : Hid (bss ds = l.map CV.d) := hS
  clear hS
  go_enter Tryd.func35, Tryd.ntmps35
  go_wp2_with fail
  go_loop [5] (fun i => ∃ m : Nat, m ≤ ds.length ∧ i = .int .i64 m ∧ fidx (dHit l bs) m = -1) (fun i => ds.length - (intOf i).toNat)
  case atStart => exact ⟨0, Nat.zero_le _, rfl, rfl⟩
  case round =>
    obtain ⟨m, hm, rfl, hno⟩ := hrel
    by_cases hlt : m < ds.length
    · rcases hd.cells with hc | ⟨sb, so, rfl, hc⟩
      · subst hc; simp at hlt
      have ck := hc m hlt
      have hx := hd.each (ds[m]) (List.getElem_mem hlt)
      have hltI : (m : Int) < ds.length := by omega
      have hg := digs_get HS.out m hlt
      have Hf : Hid (txL (ds[m]).bs = txL bs → pOf l bs = m) := by
        show _ → _
        intro h
        exact fidx_hit _ m _ hno (by rw [dHit, hg]; simpa using h) (by rw [← HL.out]; exact hlt)
      have Hn : Hid (¬ txL (ds[m]).bs = txL bs → fidx (dHit l bs) (m + 1) = -1) := by
        show _ → _
        intro h
        exact fidx_step _ m hno (by rw [dHit, hg]; simpa using h)
      clear hno hg hc
      generalize ds[m] = p at *
      go_wp2_with fail
      refine (sameBytes_any p.bs bs p.sa ka _ _ p.cap kc w rfl rfl hx hk).mono ?_
      rintro e w1 ⟨he, rfl⟩
      subst he
      dsimp only
      by_cases h : txL p.bs = txL bs
      · have He : Hid (pOf l bs = m) := Hf.out h
        rw [decide_eq_true h]
        clear Hf Hn h
        go_wp2_with fail
        go_ret
        exact ⟨ret_int He.out.symm, rfl⟩
      · have He : Hid (fidx (dHit l bs) (m + 1) = -1) := Hn.out h
        rw [decide_eq_false h]
        clear Hf Hn h
        go_wp2_with fail
        go_round
        case rel => exact ⟨m + 1, by omega, by go_num, He.out⟩
        case measure => simp [intOf]; omega
    · obtain rfl : m = ds.length := by omega
      have He : Hid (pOf l bs = -1) := by
        show fidx _ _ = -1
        rw [← HL.out]; exact hno
      clear hno
      go_wp2_with fail
      go_ret
      exact ⟨ret_int He.out.symm, rfl⟩
end Go.Proofs.YtocclphjpofnoaaDoor
