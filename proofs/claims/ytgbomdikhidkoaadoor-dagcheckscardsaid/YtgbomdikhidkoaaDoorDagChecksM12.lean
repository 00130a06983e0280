/- The document's answer: sameBytes, digestsFault, for every list. -/
import Derived.Test.YtgbomdikhidkoaaDoorDagChecksM6
import Derived.Maps.Own
import Derived.Maps.Views
import Derived.Test.YtgbomdikhidkoaaDoorTxL
import Derived.Deep.RegionHeld2
import Derived.Test.YtgbomdikhidkoaaDoorDigs
namespace Go.Proofs.YtgbomdikhidkoaaDoor
open Go.RowKit

/-- What Open answers. -/
structure OpenS (w w' : World) (e : Ending) (ls : List Ct) : Prop where
  below : Below w.heap.size w w'
  out : (dagF (cvs ls) = 12 ∧ e = .returned (.tuple #[.pointer none, .int .i64 12])) ∨ (dagF (cvs ls) = 0 ∧ ∃ (s : Nat) (ks : List Ct), e = .returned (.tuple #[.pointer (some ⟨s, 0, none⟩), .int .i64 0]) ∧ cvs ks = cvs ls ∧ StkOwn w' w.heap.size s ks)
set_option maxRecDepth 100000 in
theorem own_none (w : World) (B s : Nat) (h : w.heap[s]? = some (.cells #[.slice none 0 0, .slice none 0 0] 76 (0, 0))) (hB : B ≤ s) : StkOwn w B s [] :=
  ⟨.slice none 0 0, .slice none 0 0, [], ⟨h, hB, World.ownsRow_nil _ _ _ _, World.ownsRow_nil _ _ _ _, (fun c hc => by cases hc), (fun c hc => by cases hc), (fun c hc => by cases hc), (fun c hc => by cases hc)⟩, rfl, Nat.zero_le _⟩
set_option maxRecDepth 100000 in
set_option maxHeartbeats 2000000 in
theorem open_any (ls : List Ct) (sa : Option Addr) (n cap : Nat) (w : World) (hn : n = ls.length) (hd : DagAt w sa cap ls) (hT : Tabs w) :
    Calls Tryd.prog 28 #[.agg #[.slice sa n cap]] w fun e w' => OpenS w w' e ls := by
  subst hn
  have hle := hd.le
  have hmx := hd.max
  have hA : Below w.heap.size w ((w.alloc (.cells #[.slice sa ls.length cap] 24)).alloc (.cells #[.slice none 0 0, .slice none 0 0] 76)) := ((Below.refl _ _).alloc (Nat.le_refl _) _).alloc (by rw [size_alloc]; omega) _
  have r1 : ((w.alloc (.cells #[.slice sa ls.length cap] 24)).alloc (.cells #[.slice none 0 0, .slice none 0 0] 76)).heap[w.heap.size + 1]? = some (.cells #[.slice none 0 0, .slice none 0 0] 76 (0, 0)) := by
    have := heap_alloc_new (w.alloc (.cells #[.slice sa ls.length cap] 24)) (.cells #[.slice none 0 0, .slice none 0 0] 76)
    rw [size_alloc] at this; exact this
  have r0 := heap_alloc2_old w (.cells #[.slice sa ls.length cap] 24) (.cells #[.slice none 0 0, .slice none 0 0] 76)
  have HC : Hid (∀ W : World, Below w.heap.size w W → CertsAt W sa ls) := by
    show ∀ W, _
    exact fun W hW => hd.certs.below hW
  have HE : Hid (∀ W : World, Below w.heap.size w W → ∀ c ∈ ls, CtAt W c) := by
    show ∀ W, _
    exact fun W hW c hc => (hd.each c hc).below hW
  have HT : Hid (∀ W : World, Below w.heap.size w W → Tabs W) := by
    show ∀ W, _
    exact fun W hW => hT.below hW
  have hsm := hd.small
  clear hd hT
  have d0 := cells_at r0 0 _ rfl
  go_enter Tryd.func28, Tryd.ntmps28
  go_wp2_with fail
  generalize (w.alloc (.cells #[.slice sa ls.length cap] 24)).alloc (.cells #[.slice none 0 0, .slice none 0 0] 76) = W0 at hA r0 r1 d0 ⊢
  generalize hS : w.heap.size + 1 = S at r1 ⊢
  have hS0 : w.heap.size ≤ S := by omega
  clear hS d0 r0
  go_loopw [12] (fun j wr => ∃ (m : Nat) (ks : List Ct), m ≤ ls.length ∧ j = .int .i64 m ∧ Hid (cvs ks = (cvs ls).take m ∧ ∀ k, k < m → stkE ((cvs ls).take k) (cvAt (cvs ls) k) = 0) ∧ StkOwn wr w.heap.size S ks ∧ Below w.heap.size w wr) (fun j _ => ls.length - (intOf j).toNat)
  case atStart => exact ⟨0, [], Nat.zero_le _, rfl, ⟨rfl, fun k hk => by omega⟩, own_none _ _ _ r1 hS0, hA⟩
  case round =>
    clear hA r1
    obtain ⟨m, ks, hm, rfl, hno, hown, hb⟩ := hrel
    by_cases hlt : m < ls.length
    · obtain ⟨sb, so, rfl, c0, c1, c2, c3, c4⟩ := (HC.out wr hb).at m hlt
      have hltI : (m : Int) < ls.length := by omega
      have HCT : Hid (∀ W : World, Below w.heap.size w W → CtAt W (ls[m])) := by
        show ∀ W, _
        exact fun W hW => HE.out W hW _ (List.getElem_mem hlt)
      have HCV : Hid (cvAt (cvs ls) m = (ls[m]).v) := cvAt_get ls m hlt
      have HTK : Hid ((cvs ls).take (m + 1) = (cvs ls).take m ++ [(ls[m]).v]) := by
        show _ = _
        rw [List.take_succ_eq_append_getElem (by simp [cvs]; exact hlt)]
        simp [cvs]
      generalize ls[m] = s at *
      have hA2 := (Below.refl wr.heap.size wr).alloc (Nat.le_refl _) (.cells #[.int .i64 s.au, .int .i64 s.rd, .slice s.ba s.bl.length s.bc, .slice s.pa s.pl.length s.pc, .slice s.va s.vl.length s.vc] 35)
      have q0 := heap_alloc_new wr (.cells #[.int .i64 s.au, .int .i64 s.rd, .slice s.ba s.bl.length s.bc, .slice s.pa s.pl.length s.pc, .slice s.va s.vl.length s.vc] 35)
      go_wp2_with fail
      generalize wr.alloc (.cells #[.int .i64 s.au, .int .i64 s.rd, .slice s.ba s.bl.length s.bc, .slice s.pa s.pl.length s.pc, .slice s.va s.vl.length s.vc] 35) = W2 at hA2 q0 ⊢
      have hB2 := hb.trans (hA2.mono hb.size)
      refine (insert_stk ks w.heap.size S s W2 (hown.below hA2) hB2.size (HCT.out W2 hB2) (HT.out W2 hB2)).mono ?_
      intro e w3 h3
      have he := h3.told
      have hb3 := h3.below
      have ho3 := h3.own
      rw [hno.out.1, ← HCV.out] at he ho3
      have hB3 : Below w.heap.size w w3 := hB2.trans hb3
      clear h3 q0 c0 c1 c2 c3 c4 hown hA2 hb3
      subst he
      dsimp only
      have HBAD : Hid (stkE ((cvs ls).take m) (cvAt (cvs ls) m) ≠ 0 → dagF (cvs ls) = 12) := by
        show _ → _
        exact fun h => stkE_bad (by rw [cvs_length]; exact hlt) h
      have HNX : Hid (stkE ((cvs ls).take m) (cvAt (cvs ls) m) = 0 → ∀ k, k < m + 1 → stkE ((cvs ls).take k) (cvAt (cvs ls) k) = 0) := by
        show _ → _
        intro h k hk
        rcases Nat.lt_or_ge k m with g | g
        · exact hno.out.2 k g
        · obtain rfl : k = m := by omega
          exact h
      generalize stkE ((cvs ls).take m) (cvAt (cvs ls) m) = x at *
      by_cases hx : x = 0
      · have HN : Hid _ := HNX.out hx
        have HO : Hid (∃ y : Ct, y.v = cvAt (cvs ls) m ∧ StkOwn w3 w.heap.size S (ks ++ [y])) := by
          show ∃ y, _
          rcases ho3 with ⟨h, _⟩ | ⟨_, h⟩
          · exact absurd hx h
          · exact h
        subst hx
        clear HNX HBAD ho3
        go_wp2_with fail
        go_roundw
        case rel =>
          obtain ⟨y, hy1, hy2⟩ := HO.out
          have hR : ∃ (m' : Nat) (ks' : List Ct), m' ≤ ls.length ∧ (Value.int .i64 ((m : Int) + 1)) = .int .i64 m' ∧ Hid (cvs ks' = (cvs ls).take m' ∧ ∀ k, k < m' → stkE ((cvs ls).take k) (cvAt (cvs ls) k) = 0) ∧ StkOwn w3 w.heap.size S ks' ∧ Below w.heap.size w w3 :=
            ⟨m + 1, ks ++ [y], by omega, by go_num, ⟨by rw [HTK.out, ← hno.out.1, ← HCV.out, ← hy1]; simp [cvs], HN.out⟩, hy2, hB3⟩
          first | exact hR | ((repeat apply Exists.intro); exact ⟨hR, rfl⟩)
        case measure => simp [intOf]; omega
      · have H12 : Hid (dagF (cvs ls) = 12) := HBAD.out hx
        have hxn : (x != 0) = true := by simpa using hx
        clear HNX HBAD ho3
        go_wp2_with fail
        go_ret2
        exact ⟨hB3, .inl ⟨H12.out, rfl⟩⟩
    · obtain rfl : m = ls.length := by omega
      have HF : Hid (dagF (cvs ls) = 0 ∧ cvs ks = cvs ls) := by
        show _ ∧ _
        refine ⟨stkE_all (fun k hk => hno.out.2 k (by rw [cvs_length] at hk; exact hk)), ?_⟩
        rw [hno.out.1, List.take_of_length_le (by rw [cvs_length]; exact Nat.le_refl _)]
      go_wp2_with fail
      go_ret2
      exact ⟨hb, .inr ⟨HF.out.1, S, ks, rfl, HF.out.2, hown⟩⟩
end Go.Proofs.YtgbomdikhidkoaaDoor

namespace Go.Proofs.YtgbomdikhidkoaaDoor
open Go.RowKit

set_option maxRecDepth 100000 in
set_option maxHeartbeats 1000000 in
theorem digests_stk (ls : List Ct) (s : Nat) (ca : Option Addr) (cc : Nat) (da : Option Addr) (dc : Nat) (ds : List Part) (rd : Int) (w : World) (hs : StkAt w s ls ca cc da dc ds) (hre : ∀ p ∈ ds, p.bs.length ≤ 140737488355328) :
    Calls Tryd.prog 46 #[.pointer (some ⟨s, 0, none⟩), .int .i64 rd] w fun e w' => ∃ ma mc ms, e = .returned (.slice ma (List.length ms) mc) ∧ bss ms = dgF (cvs ls) rd ∧ ListAt w' ma mc ms ∧ Fresh w.heap.size ma ms ∧ Below w.heap.size w w' := by
  obtain ⟨i, hi, hz0, hz1, hz2⟩ := info_parts infoBs
  have hsm := hs.at'.small
  have HL : Hid (ds.length = ls.length) := hs.at'.len
  have HSM : Hid (bss ds = (cvs ls).map CV.d) := hs.at'.same
  go_enter Tryd.func46, Tryd.ntmps46
  go_wp2_with fail
  go_loopw [8, 5] (fun j v wr => ∃ (m : Nat) (ms : List Part), m ≤ 4 ∧ j = .int .i64 m ∧ bss ms = dgTo (cvs ls) rd m ∧ Apart wr w.heap.size v ms ∧ wr.ownsRow w.heap.size 29 1 v ms.length (pv ms) ∧ Below w.heap.size w wr) (fun j _ _ => 4 - (intOf j).toNat)
  case atStart => exact ⟨0, [], Nat.zero_le _, rfl, rfl, (fun p hp => by cases hp), World.ownsRow_nil _ _ _ _, Below.refl _ _⟩
  case round =>
    obtain ⟨m, ms, hm, rfl, hS, hap, ho, hbr⟩ := hrel
    have hsr := hs.below hbr
    have hml : ms.length ≤ m := by
      have := congrArg List.length hS
      rw [bss_length] at this
      rw [this]; exact dgTo_length _ _ _
    by_cases hlt : m < 4
    · have hltI : (m : Int) < 4 := by omega
      have Hy : Hid (0 ≤ cOf (cvs ls) m rd → dgTo (cvs ls) rd (m + 1) = bss ms ++ [(cvAt (cvs ls) (cOf (cvs ls) m rd).toNat).d]) := by
        show _ → _
        intro h
        rw [dgTo, if_pos h, hS]
      have Hn : Hid (¬ 0 ≤ cOf (cvs ls) m rd → bss ms = dgTo (cvs ls) rd (m + 1)) := by
        show _ → _
        intro h
        rw [dgTo, if_neg h, hS]
      have hB := cOf_bounds (cvs ls) m rd
      rw [cvs_length] at hB
      clear hS
      go_wp2_with fail
      refine (of_any ls s ca cc da dc ds m rd wr hsr).mono ?_
      rintro e w1 ⟨he, hb1⟩
      subst he
      dsimp only
      have hB1 := hbr.trans (hb1.mono hbr.size)
      have hob := owns_keep ho hb1
      have hs1 := hsr.below hb1
      have t1 := cells_at hs1.box 1 _ rfl
      have hap1 : Apart w1 w.heap.size _ ms := hap.same hb1.size (fun p hp b so e => hb1.block b ((hap p hp).2 b so e).2.1)
      generalize cOf (cvs ls) m rd = r at *
      by_cases hr : 0 ≤ r
      · obtain ⟨k, rfl⟩ : ∃ k : Nat, r = k := ⟨r.toNat, by omega⟩
        have hkd : k < ds.length := by rw [HL.out]; omega
        have hkI : (k : Int) < ls.length := by omega
        have HX := Hy.out hr
        rw [Int.toNat_natCast, digs_get HSM.out k hkd] at HX
        have HY : Hid (dgTo (cvs ls) rd (m + 1) = bss ms ++ [(ds[k]).bs]) := HX
        clear Hy Hn HX
        rcases hs1.at'.digs.parts.cells with hcc | ⟨db, dof, rfl, hcc⟩
        · rw [hcc] at hkd; simp at hkd
        have ck := hcc k hkd
        have hx := hs1.at'.digs.parts.each (ds[k]) (List.getElem_mem hkd)
        have hxr := hre (ds[k]) (List.getElem_mem hkd)
        clear hcc hs1 hsr hs hre
        generalize ds[k] = p at *
        go_wp2_with fail
        refine (clone_any p.bs p.sa _ p.cap w1 rfl hx hxr).mono ?_
        rintro e w2 ⟨ra, rc, he, hs2, hrow, hb2⟩
        subst he
        dsimp only
        have hB2 := hB1.trans (hb2.mono hB1.size)
        have hob2 := owns_keep hob hb2
        go_wp2_with (at_builtin; refine wpList_append_own_at _ rfl _ _ 30 rfl w.heap.size 29 i (.slice none 0 0) 1 24 Tryd.underlying30 hi hz0 hz1 hz2 rfl (by decide) _ ms.length _ rfl (World.ownsRow.alloc hob2 _) ⟨w2.heap.size, 0, none⟩ 1 1 [.slice ra p.bs.length rc] rfl rfl (cells_new _ _ _) (by intro u hu; simp at hu; subst hu; rfl) (by unfold maxLen; omega) (by omega) (le_alloc hB2.size _) ?_; intro v1 w3 ho3 hg3 _ hat)
        have G := Grew.of hg3 hat
        have hap3 := hap1.more_at (q := ⟨ra, rc, p.bs⟩) hB1.size hob hb2 hrow hs2 G
        have hB3 := Below.grown (hB2.alloc hB2.size _) hg3 (le_alloc hB2.size _) (fun q e => (hob2.lt q e).1)
        go_roundw
        case rel =>
          have hR : ∃ (m' : Nat) (ms' : List Part), m' ≤ 4 ∧ (Value.int .i64 ((m : Int) + 1)) = .int .i64 m' ∧ bss ms' = dgTo (cvs ls) rd m' ∧ Apart w3 w.heap.size v1 ms' ∧ w3.ownsRow w.heap.size 29 1 v1 ms'.length (pv ms') ∧ Below w.heap.size w w3 :=
            ⟨m + 1, ms ++ [⟨ra, rc, p.bs⟩], by omega, by go_num, by rw [HY.out]; simp [bss], hap3, by simpa [pv, Part.val] using ho3, hB3⟩
          first | exact hR | ((repeat apply Exists.intro); exact ⟨hR, rfl⟩)
        case measure => simp [intOf]; omega
      · have HY : Hid (bss ms = dgTo (cvs ls) rd (m + 1)) := Hn.out (by omega)
        obtain rfl : r = -1 := by omega
        clear Hy Hn
        go_wp2_with fail
        go_roundw
        case rel =>
          have hR : ∃ (m' : Nat) (ms' : List Part), m' ≤ 4 ∧ (Value.int .i64 ((m : Int) + 1)) = .int .i64 m' ∧ bss ms' = dgTo (cvs ls) rd m' ∧ Apart w1 w.heap.size u5 ms' ∧ w1.ownsRow w.heap.size 29 1 u5 ms'.length (pv ms') ∧ Below w.heap.size w w1 :=
            ⟨m + 1, ms, by omega, by go_num, HY.out, hap1, hob, hB1⟩
          first | exact hR | ((repeat apply Exists.intro); exact ⟨hR, rfl⟩)
        case measure => simp [intOf]; omega
    · obtain rfl : m = 4 := by omega
      have HM : Hid (bss ms = dgF (cvs ls) rd) := hS
      clear hS
      obtain ⟨ra, rc, hv, hl, hL, hfr⟩ := listAt_of_owns ho hap
      subst hv
      go_wp2_with fail
      go_ret
      exact ⟨ra, rc, ms, rfl, HM.out, hL (by omega), hfr, hbr⟩
/-- What a stock's Find answers. -/
structure FndS (w w' : World) (e : Ending) (l : List CV) (k : List Int) : Prop where
  below : Below w.heap.size w w'
  out : (pOf l k = -1 ∧ e = .returned (.tuple #[.agg #[.int .i64 0, .int .i64 0, .slice none 0 0, .slice none 0 0, .slice none 0 0], .int .i64 8])) ∨ (0 ≤ pOf l k ∧ ∃ c : Ct, e = .returned (.tuple #[.agg #[.int .i64 c.au, .int .i64 c.rd, .slice c.ba c.bl.length c.bc, .slice c.pa c.pl.length c.pc, .slice c.va c.vl.length c.vc], .int .i64 0]) ∧ c.v = cvAt l (pOf l k).toNat ∧ CtAt w' c ∧ (∀ b, CtIn c b → w.heap.size < b))
set_option maxRecDepth 100000 in
set_option maxHeartbeats 1000000 in
theorem find_stk (ls : List Ct) (s : Nat) (ca : Option Addr) (cc : Nat) (da : Option Addr) (dc : Nat) (ds : List Part) (bs : List Int) (ka : Option Addr) (kn kc : Nat) (w : World) (hs : StkAt w s ls ca cc da dc ds) (hF : ∀ c ∈ ls, c.v.f = 0) (hkn : kn = bs.length) (hk : SliceAt w ka kc bs) :
    Calls Tryd.prog 33 #[.pointer (some ⟨s, 0, none⟩), .slice ka kn kc] w fun e w' => FndS w w' e (cvs ls) bs := by
  subst hkn
  have HF : Hid _ := hF
  clear hF
  have hA := (Below.refl w.heap.size w).alloc (Nat.le_refl _) (.cells #[.int .i64 0, .int .i64 0, .slice none 0 0, .slice none 0 0, .slice none 0 0] 35)
  have q1 := heap_alloc_new w (.cells #[.int .i64 0, .int .i64 0, .slice none 0 0, .slice none 0 0, .slice none 0 0] 35)
  go_enter Tryd.func33, Tryd.ntmps33
  go_wp2_with fail
  generalize w.alloc (.cells #[.int .i64 0, .int .i64 0, .slice none 0 0, .slice none 0 0, .slice none 0 0] 35) = W1 at hA q1 ⊢
  refine (withDigest_any ls s ca cc da dc ds bs ka _ kc W1 (hs.below hA) rfl (hk.below hA)).mono ?_
  rintro e w2 ⟨he, hb2⟩
  subst he
  dsimp only
  have hB2 := hA.trans (hb2.mono hA.size)
  have r2 := (hb2.block _ (lt_of_heap q1)).trans q1
  have hbd := pOf_bounds (cvs ls) bs
  rw [cvs_length] at hbd
  have hs2 := hs.below hB2
  by_cases hr : pOf (cvs ls) bs < 0
  · have HP : Hid (pOf (cvs ls) bs = -1) := by
      show _ = _
      omega
    rw [HP.out]
    have d0 := cells_at r2 0 _ rfl
    have d1 := cells_at r2 1 _ rfl
    have d2 := cells_at r2 2 _ rfl
    have d3 := cells_at r2 3 _ rfl
    have d4 := cells_at r2 4 _ rfl
    have f0 := frozen_at r2 0
    have f1 := frozen_at r2 1
    have f2 := frozen_at r2 2
    have f3 := frozen_at r2 3
    have f4 := frozen_at r2 4
    clear hr hbd
    go_wp2_with fail
    refine bodyPost_ret (v := .tuple #[.agg #[.int .i64 0, .int .i64 0, .slice none 0 0, .slice none 0 0, .slice none 0 0], .int .i64 8]) (by simp [results, Tryd.results33, go_sem, d0, d1, d2, d3, d4]) rfl ⟨?_, .inl ⟨HP.out, rfl⟩⟩
    exact ((((hB2.setCell (Nat.le_refl _) _).setCell (Nat.le_refl _) _).setCell (Nat.le_refl _) _).setCell (Nat.le_refl _) _).setCell (Nat.le_refl _) _
  · obtain ⟨k, hke⟩ : ∃ k : Nat, pOf (cvs ls) bs = k := ⟨(pOf (cvs ls) bs).toNat, by omega⟩
    have HP : Hid (pOf (cvs ls) bs = k) := hke
    rw [hke] at hbd hr
    rw [hke]
    have hkl : k < ls.length := by omega
    have hkI : (k : Int) < ls.length := by omega
    have h0 : ¬ (k : Int) < 0 := by omega
    clear hke
    have b0 := cells_at hs2.box 0 _ rfl
    obtain ⟨sb, so, rfl, c0, c1, c2, c3, c4⟩ := hs2.at'.certs.at k hkl
    have hct := hs2.at'.each (ls[k]) (List.getElem_mem hkl)
    obtain ⟨m1, m2, m3, m4, m5⟩ := ct_small (HF.out (ls[k]) (List.getElem_mem hkl))
    have HCC := cloneCert_any (ls[k]) w2 hct m1 m2 (by omega) m4 m5
    have HV : Hid ((ls[k]).v = cvAt (cvs ls) k) := (cvAt_get ls k hkl).symm
    clear hct m1 m2 m3 m4 m5 hs2
    generalize ls[k] = x0 at *
    go_wp2_with fail
    refine HCC.mono ?_
    rintro e w3 ⟨x, he, hxv, hxa, hxin, hb3⟩
    subst he
    dsimp only
    clear HCC b0 c0 c1 c2 c3 c4
    have r2 := (hb3.block _ (lt_of_heap r2)).trans r2
    have d0 := cells_at r2 0 _ rfl
    have d1 := cells_at r2 1 _ rfl
    have d2 := cells_at r2 2 _ rfl
    have d3 := cells_at r2 3 _ rfl
    have d4 := cells_at r2 4 _ rfl
    have f0 := frozen_at r2 0
    have f1 := frozen_at r2 1
    have f2 := frozen_at r2 2
    have f3 := frozen_at r2 3
    have f4 := frozen_at r2 4
    have hB3 := hB2.trans (hb3.mono hB2.size)
    have hlt : w.heap.size < w2.heap.size := Nat.lt_of_lt_of_le (lt_of_heap q1) hb2.size
    have HXV : Hid (x.v = x0.v) := hxv
    have HIN : Hid (∀ b, CtIn x b → w2.heap.size ≤ b) := hxin
    clear hxv hxin
    go_wp2_with fail
    refine bodyPost_ret (v := .tuple #[.agg #[.int .i64 x.au, .int .i64 x.rd, .slice x.ba x.bl.length x.bc, .slice x.pa x.pl.length x.pc, .slice x.va x.vl.length x.vc], .int .i64 0]) (by simp [results, Tryd.results33, go_sem, d0, d1, d2, d3, d4]) rfl ⟨?_, .inr ⟨by rw [HP.out]; omega, x, rfl, ?_, ?_, ?_⟩⟩
    · exact ((((hB3.setCell (Nat.le_refl _) _).setCell (Nat.le_refl _) _).setCell (Nat.le_refl _) _).setCell (Nat.le_refl _) _).setCell (Nat.le_refl _) _
    · rw [HP.out, HXV.out, HV.out]; rfl
    · refine CtAt.keep hxa (by simp) (fun b hb => ?_)
      have hge := HIN.out b hb
      have hne : b ≠ w.heap.size := by omega
      rw [heap_setCell_other _ _ b _ hne, heap_setCell_other _ _ b _ hne, heap_setCell_other _ _ b _ hne, heap_setCell_other _ _ b _ hne, heap_setCell_other _ _ b _ hne]
    · intro b hb
      have := HIN.out b hb
      omega
end Go.Proofs.YtgbomdikhidkoaaDoor

namespace Go.Proofs.YtgbomdikhidkoaaDoor
open Go.RowKit Go.WideMaps Go.Maps

set_option maxRecDepth 100000 in
theorem keyI : Keyed Tryd.prog 3 := int_keyed Tryd.underlying3
set_option maxRecDepth 100000 in
theorem zeroI (w : World) : (zeroValue 3).run Tryd.prog w = .ok (.int .i64 0) w := by kernel_rfl
set_option maxRecDepth 100000 in
theorem keyR {r : Int} (h : -9223372036854775808 ≤ r ∧ r ≤ 9223372036854775807) : keyOf Tryd.prog 3 (.int .i64 r) = some (.int .i64 r) := keyOf_int_mk Tryd.underlying3 (WalkArith.wf_i64 h)
/-- A map that counts the certificates of each round. -/
structure CntD (D : DataW Unit) (l : List CV) : Prop where
  map : IsMap D
  at' : ∀ r : Int, D.atKey (.int .i64 r) (.lit (.int .i64 0)) = .lit (.int .i64 (cntR l r))
set_option maxRecDepth 100000 in
theorem CntD.none : CntD (.map []) [] := ⟨⟨[], rfl⟩, fun _ => rfl⟩
set_option maxRecDepth 100000 in
theorem CntD.step {D : DataW Unit} {l : List CV} (h : CntD D l) (c : CV) : CntD (D.put (.int .i64 c.rd) (.lit (.int .i64 ((cntR l c.rd : Int) + 1)))) (l ++ [c]) := by
  refine ⟨h.map.put _ _, fun r => ?_⟩
  by_cases hr : r = c.rd
  · subst hr
    rw [atKey_put_same h.map (show WideAt.IsKeyLit (.int .i64 c.rd) from trivial), cntR_snoc, if_pos rfl]
    rfl
  · rw [atKey_put_other (by intro e; injection e with _ e; exact hr e), h.at', cntR_snoc, if_neg (fun e => hr e.symm)]
    rfl
set_option maxRecDepth 100000 in
theorem cntR_le (l : List CV) (r : Int) : cntR l r ≤ l.length := List.length_filter_le _ _
set_option maxRecDepth 100000 in
theorem next_more {l : List CV} (h : dagF l = 0) {r : Int} (h3 : 3 ≤ (dgF l r).length) : cnt l (r + 1) < cnt l r ∧ r ≤ 1048576 := by
  have hs := dgTo_some l r 4 (by have : 3 ≤ (dgTo l r 4).length := h3; omega)
  refine ⟨cnt_lt l r hs, ?_⟩
  obtain ⟨j, hj, e⟩ := hs
  have := f_round (dagF_f h j hj)
  omega
set_option maxRecDepth 100000 in
set_option maxHeartbeats 2000000 in
theorem round_stk (ls : List Ct) (s : Nat) (ca : Option Addr) (cc : Nat) (da : Option Addr) (dc : Nat) (ds : List Part) (w : World) (hs : StkAt w s ls ca cc da dc ds) (hF : dagF (cvs ls) = 0) :
    Calls Tryd.prog 44 #[.pointer (some ⟨s, 0, none⟩)] w fun e w' => ∃ r : Int, e = .returned (.int .i64 r) ∧ NextR (cvs ls) r ∧ Below w.heap.size w w' := by
  have HF : Hid _ := hF
  clear hF
  have hmm := @run_makeMap Tryd.prog
  have hA := (Below.refl w.heap.size w).alloc (Nat.le_refl _) (.map #[] 0)
  have hs1 := hs.below hA
  have b0 := cells_at hs1.box 0 _ rfl
  have hsm := hs.at'.small
  have HRD : Hid (∀ c ∈ ls, 1 ≤ c.rd ∧ c.rd ≤ 1048576) := by
    show ∀ c, _
    exact fun c hc => f_round (all_f HF.out c hc)
  go_enter Tryd.func44, Tryd.ntmps44
  go_wp2_with fail
  go_loopw [13] (fun j wr => ∃ (m : Nat) (D : DataW Unit), m ≤ ls.length ∧ j = .int .i64 m ∧ Hid (CntD D ((cvs ls).take m)) ∧ wr.ownsMap Tryd.prog 3 (plainElem Tryd.prog 3) w.heap.size m D ∧ Below w.heap.size w wr) (fun j _ => ls.length - (intOf j).toNat)
  case atStart => exact ⟨0, .map [], Nat.zero_le _, rfl, CntD.none, World.ownsMap_made _ _ _ _, hA⟩
  case round =>
    clear b0 hs1 hA
    obtain ⟨m, D, hm, rfl, hD, hown, hb⟩ := hrel
    by_cases hlt : m < ls.length
    · obtain ⟨sb, so, rfl, c0, c1, c2, c3, c4⟩ := (hs.below hb).at'.certs.at m hlt
      have hltI : (m : Int) < ls.length := by omega
      have hrd := HRD.out _ (List.getElem_mem hlt)
      have HTK : Hid ((cvs ls).take (m + 1) = (cvs ls).take m ++ [(ls[m]).v]) := by
        show _ = _
        rw [List.take_succ_eq_append_getElem (by simp [cvs]; exact hlt)]
        simp [cvs]
      have HN : Hid (cntR ((cvs ls).take m) (ls[m]).rd ≤ 400) := by
        show _ ≤ _
        have h1 := cntR_le ((cvs ls).take m) (ls[m]).rd
        rw [List.length_take] at h1
        omega
      generalize ls[m] = x at *
      obtain ⟨hr1, hr2⟩ := hrd
      go_upto_region 5 with fail
      have hA2 := (Below.refl wr.heap.size wr).alloc (Nat.le_refl _) (.cells #[.int .i64 x.au, .int .i64 x.rd, .slice x.ba x.bl.length x.bc, .slice x.pa x.pl.length x.pc, .slice x.va x.vl.length x.vc] 35)
      have q0 := heap_alloc_new wr (.cells #[.int .i64 x.au, .int .i64 x.rd, .slice x.ba x.bl.length x.bc, .slice x.pa x.pl.length x.pc, .slice x.va x.vl.length x.vc] 35)
      have hown2 := hown.alloc (.cells #[.int .i64 x.au, .int .i64 x.rd, .slice x.ba x.bl.length x.bc, .slice x.pa x.pl.length x.pc, .slice x.va x.vl.length x.vc] 35)
      generalize wr.alloc (.cells #[.int .i64 x.au, .int .i64 x.rd, .slice x.ba x.bl.length x.bc, .slice x.pa x.pl.length x.pc, .slice x.va x.vl.length x.vc] 35) = W2 at hA2 q0 hown2 ⊢
      have hB2 := hb.trans (hA2.mono hb.size)
      have d1 := cells_at q0 1 _ rfl
      have hkey := keyR (r := x.rd) (by omega)
      obtain ⟨c, hrun, hat, -⟩ := hown2.lookup_int keyI Tryd.underlying86 Tryd.underlying3 (zeroI _) hkey
      rw [hD.out.at'] at hat
      obtain ⟨N, hN⟩ : ∃ N : Nat, cntR ((cvs ls).take m) x.rd = N := ⟨_, rfl⟩
      rw [hN] at hat
      have hN4 : N ≤ 400 := by rw [← hN]; exact HN.out
      obtain rfl : c = (N : Int) := by injection hat with h; injection h with _ h; exact h.symm
      have HD : Hid (CntD (D.put (.int .i64 x.rd) (.lit (.int .i64 ((N : Int) + 1)))) ((cvs ls).take (m + 1))) := by
        show CntD _ _
        rw [HTK.out, ← hN]
        exact hD.out.step x.v
      clear hN hat HN c0 c1 c2 c3 c4
      have hval := plainElem_int (H := Unit) Tryd.underlying3 (WalkArith.wf_i64 (n := (N : Int) + 1) (by omega))
      go_wp2_with (at_mapUpdate; refine wpList_mapUpdate_own _ rfl _ _ _ 86 rfl 3 3 keyI Tryd.underlying86 _ w.heap.size m _ rfl hown2 (by unfold maxLen; omega) _ _ _ rfl rfl hkey _ [] hval ?_; intro w3 hown3 hg3)
      have hB3 := hB2.grown hg3 hB2.size (fun j hj => by cases hj; exact Nat.le_refl _)
      go_roundw
      case rel =>
        have hR : ∃ (m' : Nat) (D' : DataW Unit), m' ≤ ls.length ∧ (Value.int .i64 ((m : Int) + 1)) = .int .i64 m' ∧ Hid (CntD D' ((cvs ls).take m')) ∧ w3.ownsMap Tryd.prog 3 (plainElem Tryd.prog 3) w.heap.size m' D' ∧ Below w.heap.size w w3 :=
          ⟨m + 1, _, by omega, by go_num, HD, hown3, hB3⟩
        first | exact hR | ((repeat apply Exists.intro); exact ⟨hR, rfl⟩)
      case measure => simp [intOf]; omega
    · obtain rfl : m = ls.length := by omega
      have HD : Hid (∀ r, D.atKey (.int .i64 r) (.lit (.int .i64 0)) = .lit (.int .i64 ((dgF (cvs ls) r).length : Int))) := by
        show ∀ r, _
        intro r
        have h := hD.out.at' r
        rw [List.take_of_length_le (by rw [cvs_length]; exact Nat.le_refl _)] at h
        rw [dgF_cnt HF.out]
        exact h
      clear hD
      go_wp2_with fail
      go_loop [6] (fun j => ∃ r : Int, 1 ≤ r ∧ r ≤ 1048577 ∧ j = .int .i64 r ∧ Hid (∀ k : Int, 1 ≤ k → k < r → 3 ≤ (dgF (cvs ls) k).length)) (fun j => cnt (cvs ls) (intOf j))
      case atStart => exact ⟨1, by decide, by decide, rfl, (show ∀ k : Int, _ from fun k h1 h2 => by omega)⟩
      case round =>
        obtain ⟨r, hr1, hr2, rfl, hno⟩ := hrel
        have hkey := keyR (r := r) (by omega)
        obtain ⟨c, hrun, hat, -⟩ := hown.lookup_int keyI Tryd.underlying86 Tryd.underlying3 (zeroI _) hkey
        rw [HD.out r] at hat
        obtain ⟨N, hN⟩ : ∃ N : Nat, (dgF (cvs ls) r).length = N := ⟨_, rfl⟩
        rw [hN] at hat
        obtain rfl : c = (N : Int) := by injection hat with h; injection h with _ h; exact h.symm
        have HNN : Hid _ := hN
        clear hat hN
        by_cases h3 : 3 ≤ N
        · have h3I : (3 : Int) ≤ N := by omega
          have hmore := next_more HF.out (r := r) (by rw [HNN.out]; exact h3)
          have HMO : Hid (cnt (cvs ls) (r + 1) < cnt (cvs ls) r) := hmore.1
          have hr3 := hmore.2
          clear hmore
          have hwr : IntKind.i64.wrap (r + 1) = r + 1 := by rw [IntKind.wrap_i64]; omega
          go_wp2_with fail
          go_round
          case rel =>
            refine ⟨r + 1, by omega, by omega, rfl, (show ∀ k : Int, _ from fun k h1 h2 => ?_)⟩
            rcases Int.lt_or_le k r with g | g
            · exact hno.out k h1 g
            · obtain rfl : k = r := by omega
              rw [HNN.out]; exact h3
          case measure => first | exact HMO.out | (simp only [intOf]; exact HMO.out)
        · have h3I : ¬ (3 : Int) ≤ N := by omega
          have HNX : Hid (NextR (cvs ls) r) := ⟨hr1, hno.out, by rw [HNN.out]; omega⟩
          go_wp2_with fail
          go_ret
          exact ⟨r, rfl, HNX.out, hb⟩
end Go.Proofs.YtgbomdikhidkoaaDoor

namespace Go.Proofs.YtgbomdikhidkoaaDoor
open Go.RowKit

set_option maxRecDepth 100000 in
theorem digs32 {ds : List Part} {l : List CV} (h : bss ds = l.map CV.d) : ∀ p ∈ ds, p.bs.length ≤ 140737488355328 := by
  intro p hp
  have h1 : p.bs ∈ l.map CV.d := by rw [← h]; exact List.mem_map.2 ⟨p, hp, rfl⟩
  obtain ⟨c, _, hc⟩ := List.mem_map.1 h1
  rw [← hc, c.d_length]
  decide
set_option maxRecDepth 100000 in
set_option maxHeartbeats 1000000 in
theorem dagCheck_any (ls : List Ct) (sa : Option Addr) (n cap : Nat) (w : World) (hn : n = ls.length) (hd : DagAt w sa cap ls) (hT : Tabs w) :
    Calls Tryd.prog 9 #[.agg #[.slice sa n cap]] w fun e w' => e = .returned (.int .i64 (dagF (cvs ls))) ∧ Below w.heap.size w w' := by
  subst hn
  have hA := (Below.refl w.heap.size w).alloc (Nat.le_refl _) (.cells #[.slice sa ls.length cap] 24)
  go_enter Tryd.func9, Tryd.ntmps9
  go_wp2_with fail
  generalize w.alloc (.cells #[.slice sa ls.length cap] 24) = W0 at hA ⊢
  refine (open_any ls sa _ cap W0 rfl (hd.below hA) (hT.below hA)).mono ?_
  intro e w1 hO
  have hb1 := hO.below
  have hOo := hO.out
  clear hO
  have hB1 := hA.trans (hb1.mono hA.size)
  rcases hOo with ⟨hF, he⟩ | ⟨hF, s, ks, he, -, -⟩
  · have HF : Hid _ := hF
    clear hF
    subst he
    dsimp only
    go_wp2_with fail
    go_ret
    exact ⟨ret_int HF.out.symm, hB1⟩
  · have HF : Hid _ := hF
    clear hF
    subst he
    dsimp only
    go_wp2_with fail
    go_ret
    exact ⟨ret_int HF.out.symm, hB1⟩
/-- What Digests answers. -/
def DigAt (w' : World) (e : Ending) (l : List CV) (rd : Int) : Prop :=
  (dagF l = 12 ∧ e = .returned (.tuple #[.slice none 0 0, .int .i64 12])) ∨ (dagF l = 0 ∧ ∃ ma mc ms, e = .returned (.tuple #[.slice ma (List.length ms) mc, .int .i64 0]) ∧ bss ms = dgF l rd ∧ ListAt w' ma mc ms)
/-- The same, as memory of its own. -/
structure DigO (w w' : World) (e : Ending) (l : List CV) (rd : Int) : Prop where
  below : Below w.heap.size w w'
  out : (dagF l = 12 ∧ e = .returned (.tuple #[.slice none 0 0, .int .i64 12])) ∨ (dagF l = 0 ∧ ∃ ma mc ms, e = .returned (.tuple #[.slice ma (List.length ms) mc, .int .i64 0]) ∧ bss ms = dgF l rd ∧ ListAt w' ma mc ms ∧ Fresh w.heap.size ma ms)
set_option maxRecDepth 100000 in
set_option maxHeartbeats 1000000 in
theorem dagDigests_own (ls : List Ct) (sa : Option Addr) (n cap : Nat) (rd : Int) (w : World) (hn : n = ls.length) (hd : DagAt w sa cap ls) (hT : Tabs w) :
    Calls Tryd.prog 26 #[.agg #[.slice sa n cap], .int .i64 rd] w fun e w' => DigO w w' e (cvs ls) rd := by
  subst hn
  have hA := (Below.refl w.heap.size w).alloc (Nat.le_refl _) (.cells #[.slice sa ls.length cap] 24)
  go_enter Tryd.func26, Tryd.ntmps26
  go_wp2_with fail
  generalize w.alloc (.cells #[.slice sa ls.length cap] 24) = W0 at hA ⊢
  refine (open_any ls sa _ cap W0 rfl (hd.below hA) (hT.below hA)).mono ?_
  intro e w1 hO
  have hb1 := hO.below
  have hOo := hO.out
  clear hO
  have hB1 := hA.trans (hb1.mono hA.size)
  rcases hOo with ⟨hF, he⟩ | ⟨hF, s, ks, he, hcv, hown⟩
  · have HF : Hid _ := hF
    clear hF
    subst he
    dsimp only
    go_wp2_with fail
    go_ret2
    exact ⟨hB1, .inl ⟨HF.out, rfl⟩⟩
  · have HF : Hid _ := hF
    have HCV : Hid _ := hcv
    clear hF hcv
    subst he
    dsimp only
    obtain ⟨vc, vd, ds, hk, hsame, hsm⟩ := hown.out
    obtain ⟨ca, cc, da, dc, e1, e2, hat⟩ := hk.at hsame hsm
    subst e1 e2
    have hre : ∀ p ∈ ds, p.bs.length ≤ 140737488355328 := digs32 hsame
    have HDG := digests_stk ks s ca cc da dc ds rd w1 hat hre
    clear hre hsame hown hk
    go_wp2_with fail
    refine HDG.mono ?_
    rintro e w2 ⟨ma, mc, ms, he, hM, hL, hfr, hb2⟩
    have HM : Hid _ := hM
    clear hM
    subst he
    dsimp only
    have hB2 := hB1.trans (hb2.mono hB1.size)
    go_wp2_with fail
    go_ret2
    exact ⟨hB2, .inr ⟨HF.out, ma, mc, ms, rfl, by rw [HM.out, HCV.out], hL, ⟨fun sb so e => Nat.le_trans hB1.size (hfr.row sb so e), fun p hp sb so e => Nat.le_trans hB1.size (hfr.each p hp sb so e)⟩⟩⟩
set_option maxRecDepth 100000 in
theorem dagDigests_any (ls : List Ct) (sa : Option Addr) (n cap : Nat) (rd : Int) (w : World) (hn : n = ls.length) (hd : DagAt w sa cap ls) (hT : Tabs w) :
    Calls Tryd.prog 26 #[.agg #[.slice sa n cap], .int .i64 rd] w fun e w' => DigAt w' e (cvs ls) rd ∧ Below w.heap.size w w' :=
  (dagDigests_own ls sa n cap rd w hn hd hT).mono (fun _ _ h => ⟨by
    rcases h.out with h1 | ⟨h1, ma, mc, ms, h2, h3, h4, _⟩
    · exact .inl h1
    · exact .inr ⟨h1, ma, mc, ms, h2, h3, h4⟩, h.below⟩)
/-- What Round answers. -/
def RndAt (e : Ending) (l : List CV) : Prop :=
  (dagF l = 12 ∧ e = .returned (.tuple #[.int .i64 0, .int .i64 12])) ∨ (dagF l = 0 ∧ ∃ r : Int, e = .returned (.tuple #[.int .i64 r, .int .i64 0]) ∧ NextR l r)
set_option maxRecDepth 100000 in
set_option maxHeartbeats 1000000 in
theorem dagRound_any (ls : List Ct) (sa : Option Addr) (n cap : Nat) (w : World) (hn : n = ls.length) (hd : DagAt w sa cap ls) (hT : Tabs w) :
    Calls Tryd.prog 24 #[.agg #[.slice sa n cap]] w fun e w' => RndAt e (cvs ls) ∧ Below w.heap.size w w' := by
  subst hn
  have hA := (Below.refl w.heap.size w).alloc (Nat.le_refl _) (.cells #[.slice sa ls.length cap] 24)
  go_enter Tryd.func24, Tryd.ntmps24
  go_wp2_with fail
  generalize w.alloc (.cells #[.slice sa ls.length cap] 24) = W0 at hA ⊢
  refine (open_any ls sa _ cap W0 rfl (hd.below hA) (hT.below hA)).mono ?_
  intro e w1 hO
  have hb1 := hO.below
  have hOo := hO.out
  clear hO
  have hB1 := hA.trans (hb1.mono hA.size)
  rcases hOo with ⟨hF, he⟩ | ⟨hF, s, ks, he, hcv, hown⟩
  · have HF : Hid _ := hF
    clear hF
    subst he
    dsimp only
    go_wp2_with fail
    go_ret2
    exact ⟨.inl ⟨HF.out, rfl⟩, hB1⟩
  · have HF : Hid _ := hF
    have HCV : Hid _ := hcv
    clear hF hcv
    subst he
    dsimp only
    obtain ⟨vc, vd, ds, hk, hsame, hsm⟩ := hown.out
    obtain ⟨ca, cc, da, dc, e1, e2, hat⟩ := hk.at hsame hsm
    subst e1 e2
    have HDG := round_stk ks s ca cc da dc ds w1 hat (by rw [HCV.out]; exact HF.out)
    clear hsame hown hk
    go_wp2_with fail
    refine HDG.mono ?_
    rintro e w2 ⟨r, he, hN, hb2⟩
    have HN : Hid _ := hN
    clear hN
    subst he
    dsimp only
    have hB2 := hB1.trans (hb2.mono hB1.size)
    go_wp2_with fail
    go_ret2
    exact ⟨.inr ⟨HF.out, r, rfl, by rw [← HCV.out]; exact HN.out⟩, hB2⟩
end Go.Proofs.YtgbomdikhidkoaaDoor

namespace Go.Proofs.YtgbomdikhidkoaaDoor
open Go.RowKit

set_option maxRecDepth 100000 in
theorem sameBytes_any (xs ys : List Int) (sa sb : Option Addr) (n m c d : Nat) (w : World) (hn : n = xs.length) (hm : m = ys.length) (ha : SliceAt w sa c xs) (hb : SliceAt w sb d ys) :
    Calls Tryd.prog 52 #[.slice sa n c, .slice sb m d] w fun e w' => e = .returned (.bool (decide (txL xs = txL ys))) ∧ w = w' := by
  have h1 := run_text w sa n c xs hn ha
  have h2 := run_text w sb m d ys hm hb
  clear hn hm ha hb
  unfold txL
  generalize bstr xs = A at *
  generalize bstr ys = B at *
  go_enter Tryd.func52, Tryd.ntmps52
  go_wp2_with fail
  go_ret
  refine ⟨ret_bool ?_, rfl⟩
  by_cases h : A.toList = B.toList <;> simp [h]
end Go.Proofs.YtgbomdikhidkoaaDoor

namespace Go.Proofs.YtgbomdikhidkoaaDoor
open Go.RowKit

set_option maxRecDepth 100000 in
theorem twice_yes (ps : List Part) (k m : Nat) (hm : m < k) (h : txL (partAt ps m).bs = txL (partAt ps k).bs) : twice ps k = true := by
  simp only [twice, List.any_eq_true]
  exact ⟨m, by simpa using hm, by simpa using h⟩
set_option maxRecDepth 100000 in
theorem twice_no (ps : List Part) (k : Nat) (h : ∀ j, j < k → ¬ txL (partAt ps j).bs = txL (partAt ps k).bs) : twice ps k = false := by
  simp only [twice, List.any_eq_false]
  intro j hj
  simpa using h j (by simpa using hj)

set_option maxRecDepth 100000 in
set_option maxHeartbeats 1000000 in
theorem digestsFault_any (ps : List Part) (sa : Option Addr) (n cap : Nat) (w : World) (hn : n = ps.length) (hcm : n ≤ 9000000000000000000) (hp : PartsAt w sa ps) :
    Calls Tryd.prog 58 #[.slice sa n cap] w fun e w' => e = .returned (.int .i64 (digF ps)) ∧ Below w.heap.size w w' := by
  subst hn
  go_enter Tryd.func58, Tryd.ntmps58
  go_wp2_with fail
  go_loopw [3] (fun i wr => ∃ k : Nat, k ≤ ps.length ∧ i = .int .i64 k ∧ digTo1 ps k = 0 ∧ Below w.heap.size w wr) (fun i _ => ps.length - (intOf i).toNat)
  case atStart => exact ⟨0, Nat.zero_le _, rfl, rfl, Below.refl _ _⟩
  case round =>
    obtain ⟨k, hk, rfl, h0, hb⟩ := hrel
    by_cases hlt : k < ps.length
    · have hpw := hp.below hb
      obtain ⟨sb, so, rfl, hc⟩ : ∃ sb so, sa = some ⟨sb, so, none⟩ ∧ ∀ j (h : j < ps.length), wr.cell? ⟨sb, so + j, none⟩ = some (.slice (ps[j]).sa (ps[j]).bs.length (ps[j]).cap) := by
        rcases hpw.cells with h | h
        · rw [h] at hlt; simp at hlt
        · exact h
      have hx := hpw.each (ps[k]) (List.getElem_mem hlt)
      have hpe := partAt_get ps k hlt
      have ck := hc k hlt
      have Hc : Hid (∀ j (h : j < ps.length), wr.cell? ⟨sb, so + j, none⟩ = some (.slice (ps[j]).sa (ps[j]).bs.length (ps[j]).cap)) := hc
      clear hc
      have hltI : (k : Int) < ps.length := by omega
      have hAt : Hid (digAt ps k = if (ps[k]).bs.length ≠ 32 then 4 else if twice ps k then 7 else 0) := by
        show _ = _
        rw [digAt, hpe]
      have hF : Hid (digAt ps k ≠ 0 → digF ps = digAt ps k) := by
        show _ → _
        exact digF_at ps k hlt h0
      have hS : Hid (digAt ps k = 0 → digTo1 ps (k + 1) = 0) := by
        show _ → _
        intro h
        rw [digTo1, h0, h]; rfl
      have hxl : (ps[k]).bs.length ≤ 9223372036854775807 := Nat.le_trans hx.le hx.max
      generalize hpk : ps[k] = p at *
      by_cases h32 : p.bs.length = 32
      · have e7 : Hid (twice ps k = true → digF ps = 7) := by
          show _ → _
          intro hT
          have : digAt ps k = 7 := by rw [hAt.out, if_neg (by simp [h32]), hT]; rfl
          rw [hF.out (by rw [this]; decide), this]
        have e0 : Hid (twice ps k = false → digTo1 ps (k + 1) = 0) := by
          show _ → _
          intro hT
          exact hS.out (by rw [hAt.out, if_neg (by simp [h32]), hT]; rfl)
        have hY : Hid (∀ m, m < k → txL (partAt ps m).bs = txL p.bs → twice ps k = true) := by
          show ∀ m, _
          intro m hm h
          exact twice_yes ps k m hm (by rw [hpe]; exact h)
        have hN : Hid ((∀ j, j < k → ¬ txL (partAt ps j).bs = txL p.bs) → twice ps k = false) := by
          show _ → _
          intro h
          exact twice_no ps k (fun j hj => by rw [hpe]; exact h j hj)
        clear hAt hF hS h0 hpe
        go_wp2_with fail
        go_loopw [4] (fun i wq => ∃ m : Nat, m ≤ k ∧ i = .int .i64 m ∧ (∀ j, j < m → ¬ txL (partAt ps j).bs = txL p.bs) ∧ Below w.heap.size w wq) (fun i _ => k - (intOf i).toNat)
        case atStart => exact ⟨0, Nat.zero_le _, rfl, (fun j hj => by omega), hb⟩
        case round =>
          clear Hc hx ck hb hpw
          obtain ⟨m, hm, rfl, hno, hb⟩ := hrel
          have hpw := hp.below hb
          by_cases hmk : m < k
          · have hmp : m < ps.length := by omega
            have hc : ∀ j (h : j < ps.length), wr.cell? ⟨sb, so + j, none⟩ = some (.slice (ps[j]).sa (ps[j]).bs.length (ps[j]).cap) := by
              rcases hpw.cells with h | ⟨sb', so', e, h⟩
              · rw [h] at hlt; simp at hlt
              · cases e; exact h
            have cm := hc m hmp
            have ck := hc k hlt
            have hx := hpw.each (ps[k]) (List.getElem_mem hlt)
            rw [hpk] at ck hx
            clear hc
            have hxm := hpw.each (ps[m]) (List.getElem_mem hmp)
            have hpm := partAt_get ps m hmp
            have hmkI : (m : Int) < k := by omega
            have hmpI : (m : Int) < ps.length := by omega
            have Hno : Hid (¬ txL (ps[m]).bs = txL p.bs → ∀ j, j < m + 1 → ¬ txL (partAt ps j).bs = txL p.bs) := by
              show _ → _
              intro h j hj
              rcases Nat.lt_or_ge j m with g | g
              · exact hno j g
              · obtain rfl : j = m := by omega
                rw [hpm]; exact h
            have Hyes : Hid (txL (ps[m]).bs = txL p.bs → digF ps = 7) := by
              show _ → _
              intro h
              exact e7.out (hY.out m hmk (by rw [hpm]; exact h))
            clear hno hpm
            generalize ps[m] = q at *
            go_wp2_with fail
            go_region_held2 (fun w' => w'.cell? ⟨sb, so + m, none⟩ = some (.slice q.sa q.bs.length q.cap) ∧ w'.cell? ⟨sb, so + k, none⟩ = some (.slice p.sa p.bs.length p.cap)) (go_keep) ((go_at_call 52; refine (sameBytes_any q.bs p.bs q.sa p.sa _ _ q.cap p.cap _ (by first | rfl | exact h32.symm) (by first | rfl | exact h32.symm) (hxm.below ?_) (hx.below ?_)).mono ?_; exact (Below.refl _ _).drew; exact (Below.refl _ _).drew; rintro e w1 ⟨rfl, rfl⟩))
            all_goals
              by_cases h : txL q.bs = txL p.bs
              · have hy := Hyes.out h
                rw [decide_eq_true h]
                clear Hyes Hno h
                go_wp2_with fail
                go_ret
                exact ⟨ret_int hy.symm, hb.drew⟩
              · have hn := Hno.out h
                rw [decide_eq_false h]
                clear Hyes Hno h
                go_wp2_with fail
                go_roundw
                case rel =>
                  have hR : ∃ m' : Nat, m' ≤ k ∧ (Value.int .i64 ((m : Int) + 1)) = .int .i64 m' ∧ (∀ j, j < m' → ¬ txL (partAt ps j).bs = txL p.bs) ∧ Below w.heap.size w wr.drew := ⟨m + 1, by omega, by go_num, hn, hb.drew⟩
                  first | exact hR | ((repeat apply Exists.intro); exact ⟨hR, rfl⟩)
                case measure => simp [intOf]; omega
          · obtain rfl : m = k := by omega
            have h1 := e0.out (hN.out hno)
            clear hno
            go_wp2_with fail
            go_roundw
            case rel =>
              have hR : ∃ k' : Nat, k' ≤ ps.length ∧ (Value.int .i64 ((m : Int) + 1)) = .int .i64 k' ∧ digTo1 ps k' = 0 ∧ Below w.heap.size w wr := ⟨m + 1, by omega, by go_num, h1, hb⟩
              first | exact hR | ((repeat apply Exists.intro); exact ⟨hR, rfl⟩)
            case measure => simp [intOf]; omega
      · have h32I : ¬ (p.bs.length : Int) = 32 := by omega
        have e4 : Hid (digF ps = 4) := by
          show _ = _
          have : digAt ps k = 4 := by rw [hAt.out, if_pos h32]
          rw [hF.out (by rw [this]; decide), this]
        clear hAt hF hS
        go_wp2_with fail
        go_ret
        exact ⟨ret_int e4.out.symm, hb⟩
    · obtain rfl : k = ps.length := by omega
      go_wp2_with fail
      go_ret
      exact ⟨ret_int h0.symm, hb⟩
end Go.Proofs.YtgbomdikhidkoaaDoor
