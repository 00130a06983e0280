/- stock: Round (a map of counts). -/
import Derived.Test.YtbmodfegcmaieaaDoorGStk3
import Derived.Test.YtbmodfegcmaieaaDoorGIv
import Derived.Maps.Own
import Derived.Maps.Views
namespace Go.Proofs.YtbmodfegcmaieaaDoor
open Go.RowKit

/-- What Open answers. -/
structure OpenS (w w' : World) (e : Ending) (ls : List Ct) : Prop where
  below : Below w.heap.size w w'
  out : (dagF (cvs ls) = 12 ∧ e = .returned (.tuple #[.pointer none, .int .i64 12])) ∨ (dagF (cvs ls) = 0 ∧ ∃ (s : Nat) (ks : List Ct), e = .returned (.tuple #[.pointer (some ⟨s, 0, none⟩), .int .i64 0]) ∧ cvs ks = cvs ls ∧ StkOwn w' w.heap.size s ks)
set_option maxRecDepth 100000 in
theorem own_none (w : World) (B s : Nat) (h : w.heap[s]? = some (.cells #[.slice none 0 0, .slice none 0 0] 115 (0, 0))) (hB : B ≤ s) : StkOwn w B s [] :=
  ⟨.slice none 0 0, .slice none 0 0, [], ⟨h, hB, World.ownsRow_nil _ _ _ _, World.ownsRow_nil _ _ _ _, (fun c hc => by cases hc), (fun c hc => by cases hc), (fun c hc => by cases hc), (fun c hc => by cases hc)⟩, rfl, Nat.zero_le _⟩
set_option maxRecDepth 100000 in
set_option maxHeartbeats 2000000 in
theorem open_any (ls : List Ct) (sa : Option Addr) (n cap : Nat) (w : World) (hn : n = ls.length) (hd : DagAt w sa cap ls) (hT : Tabs w) :
    Calls Tryd.prog 56 #[.agg #[.slice sa n cap]] w fun e w' => OpenS w w' e ls := by
  subst hn
  have hle := hd.le
  have hmx := hd.max
  have hA : Below w.heap.size w ((w.alloc (.cells #[.slice sa ls.length cap] 51)).alloc (.cells #[.slice none 0 0, .slice none 0 0] 115)) := ((Below.refl _ _).alloc (Nat.le_refl _) _).alloc (by rw [size_alloc]; omega) _
  have r1 : ((w.alloc (.cells #[.slice sa ls.length cap] 51)).alloc (.cells #[.slice none 0 0, .slice none 0 0] 115)).heap[w.heap.size + 1]? = some (.cells #[.slice none 0 0, .slice none 0 0] 115 (0, 0)) := by
    have := heap_alloc_new (w.alloc (.cells #[.slice sa ls.length cap] 51)) (.cells #[.slice none 0 0, .slice none 0 0] 115)
    rw [size_alloc] at this; exact this
  have r0 := heap_alloc2_old w (.cells #[.slice sa ls.length cap] 51) (.cells #[.slice none 0 0, .slice none 0 0] 115)
  have HC : Hid (∀ W : World, Below w.heap.size w W → CertsAt W sa ls) := by
    show ∀ W, _
    exact fun W hW => hd.certs.below hW
  have HE : Hid (∀ W : World, Below w.heap.size w W → ∀ c ∈ ls, CtAt W c) := by
    show ∀ W, _
    exact fun W hW c hc => (hd.each c hc).below hW
  have HT : Hid (∀ W : World, Below w.heap.size w W → Tabs W) := by
    show ∀ W, _
    exact fun W hW => hT.below hW
  have hsm := hd.small
  clear hd hT
  have d0 := cells_at r0 0 _ rfl
  go_enter Tryd.func56, Tryd.ntmps56
  go_wp2_with fail
  generalize (w.alloc (.cells #[.slice sa ls.length cap] 51)).alloc (.cells #[.slice none 0 0, .slice none 0 0] 115) = W0 at hA r0 r1 d0 ⊢
  generalize hS : w.heap.size + 1 = S at r1 ⊢
  have hS0 : w.heap.size ≤ S := by omega
  clear hS d0 r0
  go_loopw [12] (fun j wr => ∃ (m : Nat) (ks : List Ct), m ≤ ls.length ∧ j = .int .i64 m ∧ Hid (cvs ks = (cvs ls).take m ∧ ∀ k, k < m → stkE ((cvs ls).take k) (cvAt (cvs ls) k) = 0) ∧ StkOwn wr w.heap.size S ks ∧ Below w.heap.size w wr) (fun j _ => ls.length - (intOf j).toNat)
  case atStart => exact ⟨0, [], Nat.zero_le _, rfl, ⟨rfl, fun k hk => by omega⟩, own_none _ _ _ r1 hS0, hA⟩
  case round =>
    clear hA r1
    obtain ⟨m, ks, hm, rfl, hno, hown, hb⟩ := hrel
    by_cases hlt : m < ls.length
    · obtain ⟨sb, so, rfl, c0, c1, c2, c3, c4⟩ := (HC.out wr hb).at m hlt
      have hltI : (m : Int) < ls.length := by omega
      have HCT : Hid (∀ W : World, Below w.heap.size w W → CtAt W (ls[m])) := by
        show ∀ W, _
        exact fun W hW => HE.out W hW _ (List.getElem_mem hlt)
      have HCV : Hid (cvAt (cvs ls) m = (ls[m]).v) := cvAt_get ls m hlt
      have HTK : Hid ((cvs ls).take (m + 1) = (cvs ls).take m ++ [(ls[m]).v]) := by
        show _ = _
        rw [List.take_succ_eq_append_getElem (by simp [cvs]; exact hlt)]
        simp [cvs]
      generalize ls[m] = s at *
      have hA2 := (Below.refl wr.heap.size wr).alloc (Nat.le_refl _) (.cells #[.int .i64 s.au, .int .i64 s.rd, .slice s.ba s.bl.length s.bc, .slice s.pa s.pl.length s.pc, .slice s.va s.vl.length s.vc] 63)
      have q0 := heap_alloc_new wr (.cells #[.int .i64 s.au, .int .i64 s.rd, .slice s.ba s.bl.length s.bc, .slice s.pa s.pl.length s.pc, .slice s.va s.vl.length s.vc] 63)
      go_wp2_with fail
      generalize wr.alloc (.cells #[.int .i64 s.au, .int .i64 s.rd, .slice s.ba s.bl.length s.bc, .slice s.pa s.pl.length s.pc, .slice s.va s.vl.length s.vc] 63) = W2 at hA2 q0 ⊢
      have hB2 := hb.trans (hA2.mono hb.size)
      refine (insert_stk ks w.heap.size S s W2 (hown.below hA2) hB2.size (HCT.out W2 hB2) (HT.out W2 hB2)).mono ?_
      intro e w3 h3
      have he := h3.told
      have hb3 := h3.below
      have ho3 := h3.own
      rw [hno.out.1, ← HCV.out] at he ho3
      have hB3 : Below w.heap.size w w3 := hB2.trans hb3
      clear h3 q0 c0 c1 c2 c3 c4 hown hA2 hb3
      subst he
      dsimp only
      have HBAD : Hid (stkE ((cvs ls).take m) (cvAt (cvs ls) m) ≠ 0 → dagF (cvs ls) = 12) := by
        show _ → _
        exact fun h => stkE_bad (by rw [cvs_length]; exact hlt) h
      have HNX : Hid (stkE ((cvs ls).take m) (cvAt (cvs ls) m) = 0 → ∀ k, k < m + 1 → stkE ((cvs ls).take k) (cvAt (cvs ls) k) = 0) := by
        show _ → _
        intro h k hk
        rcases Nat.lt_or_ge k m with g | g
        · exact hno.out.2 k g
        · obtain rfl : k = m := by omega
          exact h
      generalize stkE ((cvs ls).take m) (cvAt (cvs ls) m) = x at *
      by_cases hx : x = 0
      · have HN : Hid _ := HNX.out hx
        have HO : Hid (∃ y : Ct, y.v = cvAt (cvs ls) m ∧ StkOwn w3 w.heap.size S (ks ++ [y])) := by
          show ∃ y, _
          rcases ho3 with ⟨h, _⟩ | ⟨_, h⟩
          · exact absurd hx h
          · exact h
        subst hx
        clear HNX HBAD ho3
        go_wp2_with fail
        go_roundw
        case rel =>
          obtain ⟨y, hy1, hy2⟩ := HO.out
          have hR : ∃ (m' : Nat) (ks' : List Ct), m' ≤ ls.length ∧ (Value.int .i64 ((m : Int) + 1)) = .int .i64 m' ∧ Hid (cvs ks' = (cvs ls).take m' ∧ ∀ k, k < m' → stkE ((cvs ls).take k) (cvAt (cvs ls) k) = 0) ∧ StkOwn w3 w.heap.size S ks' ∧ Below w.heap.size w w3 :=
            ⟨m + 1, ks ++ [y], by omega, by go_num, ⟨by rw [HTK.out, ← hno.out.1, ← HCV.out, ← hy1]; simp [cvs], HN.out⟩, hy2, hB3⟩
          first | exact hR | ((repeat apply Exists.intro); exact ⟨hR, rfl⟩)
        case measure => simp [intOf]; omega
      · have H12 : Hid (dagF (cvs ls) = 12) := HBAD.out hx
        have hxn : (x != 0) = true := by simpa using hx
        clear HNX HBAD ho3
        go_wp2_with fail
        go_ret2
        exact ⟨hB3, .inl ⟨H12.out, rfl⟩⟩
    · obtain rfl : m = ls.length := by omega
      have HF : Hid (dagF (cvs ls) = 0 ∧ cvs ks = cvs ls) := by
        show _ ∧ _
        refine ⟨stkE_all (fun k hk => hno.out.2 k (by rw [cvs_length] at hk; exact hk)), ?_⟩
        rw [hno.out.1, List.take_of_length_le (by rw [cvs_length]; exact Nat.le_refl _)]
      go_wp2_with fail
      go_ret2
      exact ⟨hb, .inr ⟨HF.out.1, S, ks, rfl, HF.out.2, hown⟩⟩
end Go.Proofs.YtbmodfegcmaieaaDoor

namespace Go.Proofs.YtbmodfegcmaieaaDoor
open Go.RowKit

set_option maxRecDepth 100000 in
set_option maxHeartbeats 1000000 in
theorem digests_stk (ls : List Ct) (s : Nat) (ca : Option Addr) (cc : Nat) (da : Option Addr) (dc : Nat) (ds : List Part) (rd : Int) (w : World) (hs : StkAt w s ls ca cc da dc ds) (hre : ∀ p ∈ ds, p.bs.length ≤ 140737488355328) :
    Calls Tryd.prog 63 #[.pointer (some ⟨s, 0, none⟩), .int .i64 rd] w fun e w' => ∃ ma mc ms, e = .returned (.slice ma (List.length ms) mc) ∧ bss ms = dgF (cvs ls) rd ∧ ListAt w' ma mc ms ∧ Fresh w.heap.size ma ms ∧ Below w.heap.size w w' := by
  obtain ⟨i, hi, hz0, hz1, hz2⟩ := info_parts infoBs
  have hsm := hs.at'.small
  have HL : Hid (ds.length = ls.length) := hs.at'.len
  have HSM : Hid (bss ds = (cvs ls).map CV.d) := hs.at'.same
  go_enter Tryd.func63, Tryd.ntmps63
  go_wp2_with fail
  go_loopw [8, 5] (fun j v wr => ∃ (m : Nat) (ms : List Part), m ≤ 4 ∧ j = .int .i64 m ∧ bss ms = dgTo (cvs ls) rd m ∧ Apart wr w.heap.size v ms ∧ wr.ownsRow w.heap.size 46 1 v ms.length (pv ms) ∧ Below w.heap.size w wr) (fun j _ _ => 4 - (intOf j).toNat)
  case atStart => exact ⟨0, [], Nat.zero_le _, rfl, rfl, (fun p hp => by cases hp), World.ownsRow_nil _ _ _ _, Below.refl _ _⟩
  case round =>
    obtain ⟨m, ms, hm, rfl, hS, hap, ho, hbr⟩ := hrel
    have hsr := hs.below hbr
    have hml : ms.length ≤ m := by
      have := congrArg List.length hS
      rw [bss_length] at this
      rw [this]; exact dgTo_length _ _ _
    by_cases hlt : m < 4
    · have hltI : (m : Int) < 4 := by omega
      have Hy : Hid (0 ≤ cOf (cvs ls) m rd → dgTo (cvs ls) rd (m + 1) = bss ms ++ [(cvAt (cvs ls) (cOf (cvs ls) m rd).toNat).d]) := by
        show _ → _
        intro h
        rw [dgTo, if_pos h, hS]
      have Hn : Hid (¬ 0 ≤ cOf (cvs ls) m rd → bss ms = dgTo (cvs ls) rd (m + 1)) := by
        show _ → _
        intro h
        rw [dgTo, if_neg h, hS]
      have hB := cOf_bounds (cvs ls) m rd
      rw [cvs_length] at hB
      clear hS
      go_wp2_with fail
      refine (of_any ls s ca cc da dc ds m rd wr hsr).mono ?_
      rintro e w1 ⟨he, hb1⟩
      subst he
      dsimp only
      have hB1 := hbr.trans (hb1.mono hbr.size)
      have hob := owns_keep ho hb1
      have hs1 := hsr.below hb1
      have t1 := cells_at hs1.box 1 _ rfl
      have hap1 : Apart w1 w.heap.size _ ms := hap.same hb1.size (fun p hp b so e => hb1.block b ((hap p hp).2 b so e).2.1)
      generalize cOf (cvs ls) m rd = r at *
      by_cases hr : 0 ≤ r
      · obtain ⟨k, rfl⟩ : ∃ k : Nat, r = k := ⟨r.toNat, by omega⟩
        have hkd : k < ds.length := by rw [HL.out]; omega
        have hkI : (k : Int) < ls.length := by omega
        have HX := Hy.out hr
        rw [Int.toNat_natCast, digs_get HSM.out k hkd] at HX
        have HY : Hid (dgTo (cvs ls) rd (m + 1) = bss ms ++ [(ds[k]).bs]) := HX
        clear Hy Hn HX
        rcases hs1.at'.digs.parts.cells with hcc | ⟨db, dof, rfl, hcc⟩
        · rw [hcc] at hkd; simp at hkd
        have ck := hcc k hkd
        have hx := hs1.at'.digs.parts.each (ds[k]) (List.getElem_mem hkd)
        have hxr := hre (ds[k]) (List.getElem_mem hkd)
        clear hcc hs1 hsr hs hre
        generalize ds[k] = p at *
        go_wp2_with fail
        refine (clone_any p.bs p.sa _ p.cap w1 rfl hx hxr).mono ?_
        rintro e w2 ⟨ra, rc, he, hs2, hrow, hb2⟩
        subst he
        dsimp only
        have hB2 := hB1.trans (hb2.mono hB1.size)
        have hob2 := owns_keep hob hb2
        go_wp2_with (at_builtin; refine wpList_append_own_at _ rfl _ _ 44 rfl w.heap.size 46 i (.slice none 0 0) 1 24 Tryd.underlying44 hi hz0 hz1 hz2 rfl (by decide) _ ms.length _ rfl (World.ownsRow.alloc hob2 _) ⟨w2.heap.size, 0, none⟩ 1 1 [.slice ra p.bs.length rc] rfl rfl (cells_new _ _ _) (by intro u hu; simp at hu; subst hu; rfl) (by unfold maxLen; omega) (by omega) (le_alloc hB2.size _) ?_; intro v1 w3 ho3 hg3 _ hat)
        have G := Grew.of hg3 hat
        have hap3 := hap1.more_at (q := ⟨ra, rc, p.bs⟩) hB1.size hob hb2 hrow hs2 G
        have hB3 := Below.grown (hB2.alloc hB2.size _) hg3 (le_alloc hB2.size _) (fun q e => (hob2.lt q e).1)
        go_roundw
        case rel =>
          have hR : ∃ (m' : Nat) (ms' : List Part), m' ≤ 4 ∧ (Value.int .i64 ((m : Int) + 1)) = .int .i64 m' ∧ bss ms' = dgTo (cvs ls) rd m' ∧ Apart w3 w.heap.size v1 ms' ∧ w3.ownsRow w.heap.size 46 1 v1 ms'.length (pv ms') ∧ Below w.heap.size w w3 :=
            ⟨m + 1, ms ++ [⟨ra, rc, p.bs⟩], by omega, by go_num, by rw [HY.out]; simp [bss], hap3, by simpa [pv, Part.val] using ho3, hB3⟩
          first | exact hR | ((repeat apply Exists.intro); exact ⟨hR, rfl⟩)
        case measure => simp [intOf]; omega
      · have HY : Hid (bss ms = dgTo (cvs ls) rd (m + 1)) := Hn.out (by omega)
        obtain rfl : r = -1 := by omega
        clear Hy Hn
        go_wp2_with fail
        go_roundw
        case rel =>
          have hR : ∃ (m' : Nat) (ms' : List Part), m' ≤ 4 ∧ (Value.int .i64 ((m : Int) + 1)) = .int .i64 m' ∧ bss ms' = dgTo (cvs ls) rd m' ∧ Apart w1 w.heap.size u5 ms' ∧ w1.ownsRow w.heap.size 46 1 u5 ms'.length (pv ms') ∧ Below w.heap.size w w1 :=
            ⟨m + 1, ms, by omega, by go_num, HY.out, hap1, hob, hB1⟩
          first | exact hR | ((repeat apply Exists.intro); exact ⟨hR, rfl⟩)
        case measure => simp [intOf]; omega
    · obtain rfl : m = 4 := by omega
      have HM : Hid (bss ms = dgF (cvs ls) rd) := hS
      clear hS
      obtain ⟨ra, rc, hv, hl, hL, hfr⟩ := listAt_of_owns ho hap
      subst hv
      go_wp2_with fail
      go_ret
      exact ⟨ra, rc, ms, rfl, HM.out, hL (by omega), hfr, hbr⟩
end Go.Proofs.YtbmodfegcmaieaaDoor

namespace Go.Proofs.YtbmodfegcmaieaaDoor
open Go.RowKit Go.WideMaps Go.Maps

set_option maxRecDepth 100000 in
theorem keyI : Keyed Tryd.prog 3 := int_keyed Tryd.underlying3
set_option maxRecDepth 100000 in
theorem zeroI (w : World) : (zeroValue 3).run Tryd.prog w = .ok (.int .i64 0) w := by kernel_rfl
set_option maxRecDepth 100000 in
theorem keyR {r : Int} (h : -9223372036854775808 ≤ r ∧ r ≤ 9223372036854775807) : keyOf Tryd.prog 3 (.int .i64 r) = some (.int .i64 r) := keyOf_int_mk Tryd.underlying3 (WalkArith.wf_i64 h)
/-- A map that counts the certificates of each round. -/
structure CntD (D : DataW Unit) (l : List CV) : Prop where
  map : IsMap D
  at' : ∀ r : Int, D.atKey (.int .i64 r) (.lit (.int .i64 0)) = .lit (.int .i64 (cntR l r))
set_option maxRecDepth 100000 in
theorem CntD.none : CntD (.map []) [] := ⟨⟨[], rfl⟩, fun _ => rfl⟩
set_option maxRecDepth 100000 in
theorem CntD.step {D : DataW Unit} {l : List CV} (h : CntD D l) (c : CV) : CntD (D.put (.int .i64 c.rd) (.lit (.int .i64 ((cntR l c.rd : Int) + 1)))) (l ++ [c]) := by
  refine ⟨h.map.put _ _, fun r => ?_⟩
  by_cases hr : r = c.rd
  · subst hr
    rw [atKey_put_same h.map (show WideAt.IsKeyLit (.int .i64 c.rd) from trivial), cntR_snoc, if_pos rfl]
    rfl
  · rw [atKey_put_other (by intro e; injection e with _ e; exact hr e), h.at', cntR_snoc, if_neg (fun e => hr e.symm)]
    rfl
set_option maxRecDepth 100000 in
theorem cntR_le (l : List CV) (r : Int) : cntR l r ≤ l.length := List.length_filter_le _ _
set_option maxRecDepth 100000 in
theorem next_more {l : List CV} (h : dagF l = 0) {r : Int} (h3 : 3 ≤ (dgF l r).length) : cnt l (r + 1) < cnt l r ∧ r ≤ 1048576 := by
  have hs := dgTo_some l r 4 (by have : 3 ≤ (dgTo l r 4).length := h3; omega)
  refine ⟨cnt_lt l r hs, ?_⟩
  obtain ⟨j, hj, e⟩ := hs
  have := f_round (dagF_f h j hj)
  omega
set_option maxRecDepth 100000 in
set_option maxHeartbeats 2000000 in
theorem round_stk (ls : List Ct) (s : Nat) (ca : Option Addr) (cc : Nat) (da : Option Addr) (dc : Nat) (ds : List Part) (w : World) (hs : StkAt w s ls ca cc da dc ds) (hF : dagF (cvs ls) = 0) :
    Calls Tryd.prog 94 #[.pointer (some ⟨s, 0, none⟩)] w fun e w' => ∃ r : Int, e = .returned (.int .i64 r) ∧ NextR (cvs ls) r ∧ Below w.heap.size w w' := by
  have HF : Hid _ := hF
  clear hF
  have hmm := @run_makeMap Tryd.prog
  have hA := (Below.refl w.heap.size w).alloc (Nat.le_refl _) (.map #[] 0)
  have hs1 := hs.below hA
  have b0 := cells_at hs1.box 0 _ rfl
  have hsm := hs.at'.small
  have HRD : Hid (∀ c ∈ ls, 1 ≤ c.rd ∧ c.rd ≤ 1048576) := by
    show ∀ c, _
    exact fun c hc => f_round (all_f HF.out c hc)
  go_enter Tryd.func94, Tryd.ntmps94
  go_wp2_with fail
  go_loopw [13] (fun j wr => ∃ (m : Nat) (D : DataW Unit), m ≤ ls.length ∧ j = .int .i64 m ∧ Hid (CntD D ((cvs ls).take m)) ∧ wr.ownsMap Tryd.prog 3 (plainElem Tryd.prog 3) w.heap.size m D ∧ Below w.heap.size w wr) (fun j _ => ls.length - (intOf j).toNat)
  case atStart => exact ⟨0, .map [], Nat.zero_le _, rfl, CntD.none, World.ownsMap_made _ _ _ _, hA⟩
  case round =>
    clear b0 hs1 hA
    obtain ⟨m, D, hm, rfl, hD, hown, hb⟩ := hrel
    by_cases hlt : m < ls.length
    · obtain ⟨sb, so, rfl, c0, c1, c2, c3, c4⟩ := (hs.below hb).at'.certs.at m hlt
      have hltI : (m : Int) < ls.length := by omega
      have hrd := HRD.out _ (List.getElem_mem hlt)
      have HTK : Hid ((cvs ls).take (m + 1) = (cvs ls).take m ++ [(ls[m]).v]) := by
        show _ = _
        rw [List.take_succ_eq_append_getElem (by simp [cvs]; exact hlt)]
        simp [cvs]
      have HN : Hid (cntR ((cvs ls).take m) (ls[m]).rd ≤ 400) := by
        show _ ≤ _
        have h1 := cntR_le ((cvs ls).take m) (ls[m]).rd
        rw [List.length_take] at h1
        omega
      generalize ls[m] = x at *
      obtain ⟨hr1, hr2⟩ := hrd
      go_upto_region 5 with fail
      have hA2 := (Below.refl wr.heap.size wr).alloc (Nat.le_refl _) (.cells #[.int .i64 x.au, .int .i64 x.rd, .slice x.ba x.bl.length x.bc, .slice x.pa x.pl.length x.pc, .slice x.va x.vl.length x.vc] 63)
      have q0 := heap_alloc_new wr (.cells #[.int .i64 x.au, .int .i64 x.rd, .slice x.ba x.bl.length x.bc, .slice x.pa x.pl.length x.pc, .slice x.va x.vl.length x.vc] 63)
      have hown2 := hown.alloc (.cells #[.int .i64 x.au, .int .i64 x.rd, .slice x.ba x.bl.length x.bc, .slice x.pa x.pl.length x.pc, .slice x.va x.vl.length x.vc] 63)
      generalize wr.alloc (.cells #[.int .i64 x.au, .int .i64 x.rd, .slice x.ba x.bl.length x.bc, .slice x.pa x.pl.length x.pc, .slice x.va x.vl.length x.vc] 63) = W2 at hA2 q0 hown2 ⊢
      have hB2 := hb.trans (hA2.mono hb.size)
      have d1 := cells_at q0 1 _ rfl
      have hkey := keyR (r := x.rd) (by omega)
      obtain ⟨c, hrun, hat, -⟩ := hown2.lookup_int keyI Tryd.underlying153 Tryd.underlying3 (zeroI _) hkey
      rw [hD.out.at'] at hat
      obtain ⟨N, hN⟩ : ∃ N : Nat, cntR ((cvs ls).take m) x.rd = N := ⟨_, rfl⟩
      rw [hN] at hat
      have hN4 : N ≤ 400 := by rw [← hN]; exact HN.out
      obtain rfl : c = (N : Int) := by injection hat with h; injection h with _ h; exact h.symm
      have HD : Hid (CntD (D.put (.int .i64 x.rd) (.lit (.int .i64 ((N : Int) + 1)))) ((cvs ls).take (m + 1))) := by
        show CntD _ _
        rw [HTK.out, ← hN]
        exact hD.out.step x.v
      clear hN hat HN c0 c1 c2 c3 c4
      have hval := plainElem_int (H := Unit) Tryd.underlying3 (WalkArith.wf_i64 (n := (N : Int) + 1) (by omega))
      go_wp2_with (at_mapUpdate; refine wpList_mapUpdate_own _ rfl _ _ _ 153 rfl 3 3 keyI Tryd.underlying153 _ w.heap.size m _ rfl hown2 (by unfold maxLen; omega) _ _ _ rfl rfl hkey _ [] hval ?_; intro w3 hown3 hg3)
      have hB3 := hB2.grown hg3 hB2.size (fun j hj => by cases hj; exact Nat.le_refl _)
      go_roundw
      case rel =>
        have hR : ∃ (m' : Nat) (D' : DataW Unit), m' ≤ ls.length ∧ (Value.int .i64 ((m : Int) + 1)) = .int .i64 m' ∧ Hid (CntD D' ((cvs ls).take m')) ∧ w3.ownsMap Tryd.prog 3 (plainElem Tryd.prog 3) w.heap.size m' D' ∧ Below w.heap.size w w3 :=
          ⟨m + 1, _, by omega, by go_num, HD, hown3, hB3⟩
        first | exact hR | ((repeat apply Exists.intro); exact ⟨hR, rfl⟩)
      case measure => simp [intOf]; omega
    · obtain rfl : m = ls.length := by omega
      have HD : Hid (∀ r, D.atKey (.int .i64 r) (.lit (.int .i64 0)) = .lit (.int .i64 ((dgF (cvs ls) r).length : Int))) := by
        show ∀ r, _
        intro r
        have h := hD.out.at' r
        rw [List.take_of_length_le (by rw [cvs_length]; exact Nat.le_refl _)] at h
        rw [dgF_cnt HF.out]
        exact h
      clear hD
      go_wp2_with fail
      go_loop [6] (fun j => ∃ r : Int, 1 ≤ r ∧ r ≤ 1048577 ∧ j = .int .i64 r ∧ Hid (∀ k : Int, 1 ≤ k → k < r → 3 ≤ (dgF (cvs ls) k).length)) (fun j => cnt (cvs ls) (intOf j))
      case atStart => exact ⟨1, by decide, by decide, rfl, (show ∀ k : Int, _ from fun k h1 h2 => by omega)⟩
      case round =>
        obtain ⟨r, hr1, hr2, rfl, hno⟩ := hrel
        have hkey := keyR (r := r) (by omega)
        obtain ⟨c, hrun, hat, -⟩ := hown.lookup_int keyI Tryd.underlying153 Tryd.underlying3 (zeroI _) hkey
        rw [HD.out r] at hat
        obtain ⟨N, hN⟩ : ∃ N : Nat, (dgF (cvs ls) r).length = N := ⟨_, rfl⟩
        rw [hN] at hat
        obtain rfl : c = (N : Int) := by injection hat with h; injection h with _ h; exact h.symm
        have HNN : Hid _ := hN
        clear hat hN
        by_cases h3 : 3 ≤ N
        · have h3I : (3 : Int) ≤ N := by omega
          have hmore := next_more HF.out (r := r) (by rw [HNN.out]; exact h3)
          have HMO : Hid (cnt (cvs ls) (r + 1) < cnt (cvs ls) r) := hmore.1
          have hr3 := hmore.2
          clear hmore
          have hwr : IntKind.i64.wrap (r + 1) = r + 1 := by rw [IntKind.wrap_i64]; omega
          go_wp2_with fail
          go_round
          case rel =>
            refine ⟨r + 1, by omega, by omega, rfl, (show ∀ k : Int, _ from fun k h1 h2 => ?_)⟩
            rcases Int.lt_or_le k r with g | g
            · exact hno.out k h1 g
            · obtain rfl : k = r := by omega
              rw [HNN.out]; exact h3
          case measure => first | exact HMO.out | (simp only [intOf]; exact HMO.out)
        · have h3I : ¬ (3 : Int) ≤ N := by omega
          have HNX : Hid (NextR (cvs ls) r) := ⟨hr1, hno.out, by rw [HNN.out]; omega⟩
          go_wp2_with fail
          go_ret
          exact ⟨r, rfl, HNX.out, hb⟩
end Go.Proofs.YtbmodfegcmaieaaDoor
