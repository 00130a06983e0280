/- The law sheaveskeep.BlockSame answers true for every argument, and each argument reads behind the call as it read before: the tied card. Its conditions: the three tables of package blake hold what the program's text lays (the card ties that); the form's own reach. -/
import Derived.Test.YtbmodfegcmaieaaDoorGKGrown
import Derived.Test.YtbmodfegcmaieaaDoorBlockSameM18
import Derived.Test.YtbmodfegcmaieaaDoorRows
import Derived.Test.YtbmodfegcmaieaaDoorGK
import Derived.Test.YtbmodfegcmaieaaDoorGSteps
import Derived.Lib.LaidTab
import Derived.OpenShut
import Derived.Stop.LaidErr
import Derived.Test.YtbmodfegcmaieaaDoorGTagged
import Derived.ProofKit
import Derived.Test.YtbmodfegcmaieaaDoorCards
import Derived.Test.YtbmodfegcmaieaaDoorTie
import Derived.WalkKit
import Derived.Deep.DeepHandedRow
import Derived.SevenTiedAt
import Derived.Below
namespace Go.Proofs.YtbmodfegcmaieaaDoor
open Go.RowKit

set_option maxRecDepth 100000 in
set_option maxHeartbeats 4000000 in
theorem blockSame_any (sa : Option Addr) (cap : Nat) (l : List Stp) (ma : Option Addr) (mc : Nat) (mo : List Stp) (n : Int) (w : World) (hl : StepsAt w sa l) (hcl : l.length ≤ cap) (hc0 : sa = none → cap = 0) (hc1 : l.length * 24 ≤ 140737488351232) (hml : StepsAt w ma mo) (hmc : mo.length ≤ mc) (hm0 : ma = none → mc = 0) (hm1 : mo.length * 24 ≤ 140737488351232) (hn1 : -9223372036854775808 ≤ n) (hn2 : n ≤ 9223372036854775807) (hT : Tabs w) :
    Calls Tryd.prog 20 #[.slice sa l.length cap, .slice ma mo.length mc, .int .i64 n] w fun e w' => BsmO w w' e l mo := by
  have hnil : sa = none → l.length = 0 ∧ cap = 0 := fun h => by have := hc0 h; omega
  have H := grown_any l sa _ cap w rfl hl hnil hc1 hT
  have HT : Hid (∀ W : World, Below w.heap.size w W → Tabs W) := by
    show ∀ W, _
    exact fun W hW => hT.below hW
  have HNN0 : Hid (sa = none → l.length = 0 ∧ cap = 0) := hnil
  have HNM : Hid (ma = none → mo.length = 0 ∧ mc = 0) := fun h => by have := hm0 h; omega
  have HSL : Hid (∀ W : World, Below w.heap.size w W → StepsAt W sa l ∧ StepsAt W ma mo) := by
    show ∀ W, _
    exact fun W hW => ⟨hl.below hW, hml.below hW⟩
  clear hT hnil hc0 hm0 hml
  go_enter Tryd.func20, Tryd.ntmps20
  go_wp2_with fail
  refine H.mono ?_
  rintro e w1 ⟨ka, kc, ks, ba, bc, bl, he, hG, hd, hnew, ho, hoff, hV, hb1⟩
  subst he
  dsimp only
  have hpos : 0 < ks.length := by have := grown_some (by omega) hG; rw [cvs_length] at this; exact this
  have HD : Hid (dagF (cvs ks) = 0) := hG.dag
  have HG : Hid (GrownTo (s0 :: l) (min (l.length + 1) 24) (cvs ks)) := hG
  have hle : ks.length ≤ 24 := by have := hG.len; rw [cvs_length] at this; omega
  have hA1 := (Below.refl w1.heap.size w1).alloc (Nat.le_refl _) (.cells #[.slice ka ks.length kc] 51)
  have qD := heap_alloc_new w1 (.cells #[.slice ka ks.length kc] 51)
  have hd2 := hd.below hA1
  have hB2 := hb1.trans (hA1.mono hb1.size)
  have hgD : w.heap.size ≤ w1.heap.size := hb1.size
  have hdlt : ∀ b, DagIn ka ks b → b < w1.heap.size := fun b hb => by
    rcases hb with ⟨so, e⟩ | ⟨c', hc', hq⟩
    · exact dag_row_lt hd hpos b so e
    · exact (hd.each c' hc').block_lt b hq
  have HBW : Hid (bcv bl = (bvTo (s0 :: l) (min (l.length + 1) 24)).map BV.w) := by
    show _ = _
    rw [← hV, List.map_map]; rfl
  have HBG : Hid (BatG (cvs ks) (bws (bl.map Bt.bc))) := by
    show BatG _ _
    rw [bws_bc, HBW.out]; exact batG_of hG (by omega)
  have HBE : Hid (bws (bl.map Bt.bc) = (bvTo (s0 :: l) (min (l.length + 1) 24)).map BV.w) := by
    show _ = _
    rw [bws_bc, HBW.out]
  have hBc : BcsAt w1 ba (bl.map Bt.bc) := by
    obtain ⟨xa, xc, hv, hAt, _, _, _⟩ := bts_of_owns ho
    simp at hv
    obtain ⟨rfl, rfl⟩ := hv
    exact bcs_of_bts hAt (bts_small hV (by omega))
  have hbl60 : bl.length ≤ 60 := (grown_facts hG hV).out.2.2.1
  have hblp : 0 < bl.length := (grown_facts hG hV).out.2.2.2.1
  have HBL : Hid (bl.length = (bl.map Bt.bc).length) := by show _ = _; rw [List.length_map]
  have hBc2 := hBc.below hA1
  clear hBc
  generalize bl.map Bt.bc = cl at HBG HBE hBc2 HBL
  clear hG hV ho hoff hnew hd H hl
  have e0 := cells_at qD 0 _ rfl
  have HHF : Hid (∀ c ∈ ks, headerF c.au c.rd c.bl c.pl = 0) := by
    show ∀ c, _
    intro c hc
    obtain ⟨j, hj, rfl⟩ := List.getElem_of_mem hc
    have h2 := dagF_f HD.out j (by rw [cvs_length]; exact hj)
    rw [cvAt_get ks j hj] at h2
    rw [Ct.hf_v]; exact certF_head (vl := (ks[j]).vl) h2
  go_wp2_with fail
  generalize w1.alloc (.cells #[.slice ka ks.length kc] 51) = W2 at hA1 qD hd2 hB2 hBc2 e0 ⊢
  clear hA1
  generalize w1.heap.size = D at qD e0 hgD hdlt ⊢
  refine (digestsOf_any ks ka _ kc W2 rfl (by omega) hd2 HHF.out (HT.out W2 hB2)).mono ?_
  intro e w3 hDg
  have hb3 := hDg.below
  obtain ⟨da, dc, ds, he, hds, hLd, hfd⟩ := hDg.out
  subst he
  dsimp only
  have HDS : Hid _ := hds
  have hdsl : ds.length = ks.length := by have := congrArg List.length hds; simpa [bss, cvs] using this
  have HDL : Hid (ds.length = ks.length) := hdsl
  rw [hdsl]
  have hB3 := hB2.trans (hb3.mono hB2.size)
  have qD3 := (hb3.block _ (lt_of_heap qD)).trans qD
  have hd3 := hd2.below hb3
  have hBc3 := hBc2.below hb3
  clear hDg hds hfd hdsl hd2 qD e0 hb3 hdlt hBc2
  have HV : Hid (∀ x ∈ cvs ks, x.vl = [0, 1, 2]) := HG.out.voters
  have HU : Hid (∀ x ∈ cvs ks, U8C x) := HG.out.u8
  obtain ⟨sb, so, hdae, hlc⟩ : ∃ sb so, da = some ⟨sb, so, none⟩ ∧ ∀ j (h : j < ds.length), w3.cell? ⟨sb, so + j, none⟩ = some (.slice (ds[j]).sa (ds[j]).bs.length (ds[j]).cap) := by
    rcases hLd.parts.cells with h | h
    · have := HDL.out; rw [h] at this; simp at this; omega
    · exact h
  subst hdae
  have HLC : Hid _ := hlc
  have hdcl : ks.length ≤ dc := by have := hLd.le; have := HDL.out; omega
  have hdmx := hLd.max
  have hposI : (0 : Int) < ks.length := by omega
  have hne0 : ((ks.length : Int) == 0) = false := by rw [beq_eq_false_iff_ne]; omega
  have HAU : Hid (∀ x ∈ cvs ks, 0 ≤ x.au ∧ x.au < 4 ∧ 1 ≤ x.rd ∧ x.rd ≤ 1048576) := by
    show ∀ x, _
    intro x hx
    obtain ⟨j, hj, rfl⟩ := List.getElem_of_mem hx
    have h2 := dagF_f HD.out j hj
    have e : cvAt (cvs ks) j = (cvs ks)[j] := by simp [cvAt, hj]
    rw [e] at h2
    have h3 := f_author h2
    have h4 := f_round h2
    omega
  clear hlc
  obtain ⟨I, hEI⟩ : ∃ I : Nat, pk n ks.length = (I : Int) := ⟨(pk n ks.length).toNat, by have := pk_bounds n ks.length (by omega); omega⟩
  have hI : I < ks.length := by have := pk_bounds n ks.length (by omega); omega
  have HPI : Hid (∀ V : World, Calls Tryd.prog 35 #[.int .i64 n, .int .i64 (ks.length : Int)] V fun e w' => e = .returned (.int .i64 (I : Int)) ∧ V = w') := by
    show ∀ V, _
    intro V
    rw [← hEI]
    exact picked_any n ks.length V hn1 hn2 (by omega) (by omega)
  have hII : (I : Int) < ks.length := by omega
  have hdI : I < ds.length := by have := HDL.out; omega
  have lI := HLC.out I hdI
  have hSI := hLd.parts.each (ds[I]) (List.getElem_mem hdI)
  have HDI : Hid ((ds[I]).bs = (cvAt (cvs ks) I).d) := by
    show _ = _
    have h1 : (bss ds).getD I [] = ((cvs ks).map CV.d).getD I [] := by rw [HDS.out]
    rw [bss_get ds I hdI] at h1
    rw [h1]
    simp [cvAt, cvs, hI]
  have h32I : (ds[I]).bs.length = 32 := by rw [HDI.out, CV.d_length]
  clear hEI
  generalize ds[I] = p at lI hSI HDI h32I
  rw [h32I] at lI
  have hsblI : sb < w3.heap.size := block_lt_of_cell lI
  have HBK := blk_at ks ka kc I cl ba _ bc p w3 HD.out hle hI hd3 HBL.out hBc3 HBG.out hSI HDI.out h32I (HT.out w3 hB3)
  have d3 := cells_at qD3 0 _ rfl
  go_wp2_with (go_at_call 35; refine (HPI.out _).mono ?_; rintro e w' ⟨rfl, rfl⟩)
  refine HBK.mono ?_
  rintro e w4 ⟨⟨aa, AN, ac, aec, he, hAR, hAN⟩, hb4⟩
  subst he
  dsimp only
  have hB4 := hB3.trans (hb4.mono hB3.size)
  clear HBK HPI d3 HLC hLd
  obtain ⟨hl4, hml4⟩ := HSL.out w4 hB4
  go_upto_region 7 with fail
  obtain ⟨k, hk⟩ : ∃ k : Nat, k = min l.length 12 := ⟨_, rfl⟩
  have hkl : k ≤ l.length := by omega
  have HLT : Hid (k = (l.take k).length) := by show _ = _; rw [List.length_take]; omega
  have HLK : Hid (l.take k = l.take (min l.length 12)) := by show _ = _; rw [hk]
  have hlk : StepsAt w4 sa (l.take k) := by
    refine ⟨?_, fun s hs => hl4.each s (List.mem_of_mem_take hs)⟩
    rcases hl4.cells with h | ⟨sb', so', e, h⟩
    · left; rw [h]; simp
    · refine .inr ⟨sb', so', e, fun j hj => ?_⟩
      have hj2 : j < l.length := by rw [List.length_take] at hj; omega
      simpa using h j hj2
  generalize l.take k = lk at hlk HLT HLK
  have hk24 : k ≤ 12 := by omega
  have HNK : Hid (sa = none → k = 0 ∧ cap = 0) := fun h => by have := HNN0.out h; omega
  clear hl4
  go_cut [13, 14] (fun u v wx => ∃ (X : Nat) (na : Option Addr) (nc : Nat) (ns : List Ct) (ya : Option Addr) (yc : Nat) (yl : List Bt), u = .pointer (some ⟨X, 0, none⟩) ∧ v = .slice ya yl.length yc ∧ w4.heap.size ≤ X ∧ wx.heap[X]? = some (.cells #[.slice na ns.length nc] 51 (0, 0)) ∧ DagAt wx na nc ns ∧ BtsOwn wx w4.heap.size (.slice ya yl.length yc) yl ∧ 0 < ns.length ∧ ns.length ≤ 24 ∧ yl.length ≤ 60 ∧ 0 < yl.length ∧ Hid (GrownTo (s0 :: (lk ++ mo)) (min ((lk ++ mo).length + 1) 24) (cvs ns) ∧ bcv yl = (bvTo (s0 :: (lk ++ mo)) (min ((lk ++ mo).length + 1) 24)).map BV.w ∧ ∀ b ∈ yl, BtSm b) ∧ Below w4.heap.size w4 wx)
  case first =>
    cases sa with
    | none =>
      have hl12 : l.length ≤ 12 := by have := (HNK.out rfl).1; omega
      obtain rfl : k = l.length := by omega
      have HNN : Hid ((none : Option Addr) = none → l.length = 0 ∧ cap = 0) := HNK.out
      have hM : min (l.length : Int) 12 = (l.length : Int) := by omega
      have hkc : (l.length : Int) ≤ cap := by omega
      clear hk HNK hl12
      go_wp2_with (at_builtin; first
        | (refine wpList_append_steps rfl _ _ rfl w4.heap.size v1 (0 + l.length) ([] ++ lk) rfl ho5 ma mo.length mc mo rfl rfl (hml4.below hb5) HNM.out (by omega) hg5.size ?_; intro v2 w6 ho6 hg6; obtain ⟨xa, xc, hxe⟩ := owns_shape ho6; subst hxe)
        | (refine wpList_append_steps rfl _ _ rfl w4.heap.size (.slice none 0 0) 0 [] rfl (World.ownsRow_nil _ _ _ _) none l.length cap lk rfl HLT.out hlk HNN.out (by omega) (Nat.le_refl _) ?_; intro v1 w5 ho5 hg5; have hb5 : Below w4.heap.size w4 w5 := Below.grown (Below.refl _ _) hg5 (Nat.le_refl _) (fun q e => by cases e)))
      have hb6 : Below w4.heap.size w4 w6 := Below.grown hb5 hg6 hb5.size (fun q e => (ho5.lt q e).1)
      have hB6 := hB4.trans (hb6.mono hB4.size)
      have H2 := step_more ho6 HLT.out rfl hlk hml4 (by omega) hm1 (HT.out w6 hB6)
      refine H2.mono ?_
      rintro e w7 ⟨na, nc, ns, ya, yc, yl, he, hG7, hd7, hnew7, ho7, hoff7, hV7, hb7⟩
      subst he
      dsimp only
      have hA7 := (Below.refl w7.heap.size w7).alloc (Nat.le_refl _) (.cells #[.slice na ns.length nc] 51)
      have qX := heap_alloc_new w7 (.cells #[.slice na ns.length nc] 51)
      have hB7 := hb6.trans (hb7.mono hb6.size)
      have hd8 := hd7.below hA7
      have ho8 := ho7.below hA7
      have HR := grown_facts hG7 hV7
      have HR2 : Hid (GrownTo (s0 :: (lk ++ mo)) (min ((lk ++ mo).length + 1) 24) (cvs ns) ∧ bcv yl = (bvTo (s0 :: (lk ++ mo)) (min ((lk ++ mo).length + 1) 24)).map BV.w ∧ ∀ b ∈ yl, BtSm b) := ⟨hG7, by rw [← hV7, List.map_map]; rfl, bts_small hV7 (by omega)⟩
      clear hG7 hV7 H2 hd7 ho7 hoff7 hnew7
      have hs6 := hb6.size
      have hs7 := hb7.size
      go_wp2_with fail
      go_meet
      case rel =>
        obtain ⟨r1, r2, r3, r4, r5⟩ := HR.out
        exact ⟨w7.heap.size, na, nc, ns, ya, yc, yl, rfl, rfl, by omega, qX, hd8, ⟨⟨ho8.row.1, ho8.row.2.imp id (fun ⟨g, c, cur, e1, e2, r⟩ => ⟨g, c, cur, e1, Nat.le_trans hs6 e2, r⟩)⟩, ho8.each⟩, r1, r2, r3, r4, HR2, hB7.trans (hA7.mono hB7.size)⟩
    | some ad =>
      by_cases h12 : l.length ≤ 12
      · obtain rfl : k = l.length := by omega
        have hM : min (l.length : Int) 12 = (l.length : Int) := by omega
        have hkc : (l.length : Int) ≤ cap := by omega
        clear hk HNK h12
        go_wp2_with (at_builtin; first
          | (refine wpList_append_steps rfl _ _ rfl w4.heap.size v1 (0 + l.length) ([] ++ lk) rfl ho5 ma mo.length mc mo rfl rfl (hml4.below hb5) HNM.out (by omega) hg5.size ?_; intro v2 w6 ho6 hg6; obtain ⟨xa, xc, hxe⟩ := owns_shape ho6; subst hxe)
          | (refine wpList_append_steps rfl _ _ rfl w4.heap.size (.slice none 0 0) 0 [] rfl (World.ownsRow_nil _ _ _ _) (some ad) l.length cap lk rfl HLT.out hlk (fun h => by cases h) (by omega) (Nat.le_refl _) ?_; intro v1 w5 ho5 hg5; have hb5 : Below w4.heap.size w4 w5 := Below.grown (Below.refl _ _) hg5 (Nat.le_refl _) (fun q e => by cases e)))
        have hb6 : Below w4.heap.size w4 w6 := Below.grown hb5 hg6 hb5.size (fun q e => (ho5.lt q e).1)
        have hB6 := hB4.trans (hb6.mono hB4.size)
        have H2 := step_more ho6 HLT.out rfl hlk hml4 (by omega) hm1 (HT.out w6 hB6)
        refine H2.mono ?_
        rintro e w7 ⟨na, nc, ns, ya, yc, yl, he, hG7, hd7, hnew7, ho7, hoff7, hV7, hb7⟩
        subst he
        dsimp only
        have hA7 := (Below.refl w7.heap.size w7).alloc (Nat.le_refl _) (.cells #[.slice na ns.length nc] 51)
        have qX := heap_alloc_new w7 (.cells #[.slice na ns.length nc] 51)
        have hB7 := hb6.trans (hb7.mono hb6.size)
        have hd8 := hd7.below hA7
        have ho8 := ho7.below hA7
        have HR := grown_facts hG7 hV7
        have HR2 : Hid (GrownTo (s0 :: (lk ++ mo)) (min ((lk ++ mo).length + 1) 24) (cvs ns) ∧ bcv yl = (bvTo (s0 :: (lk ++ mo)) (min ((lk ++ mo).length + 1) 24)).map BV.w ∧ ∀ b ∈ yl, BtSm b) := ⟨hG7, by rw [← hV7, List.map_map]; rfl, bts_small hV7 (by omega)⟩
        clear hG7 hV7 H2 hd7 ho7 hoff7 hnew7
        have hs6 := hb6.size
        have hs7 := hb7.size
        go_wp2_with fail
        go_meet
        case rel =>
          obtain ⟨r1, r2, r3, r4, r5⟩ := HR.out
          exact ⟨w7.heap.size, na, nc, ns, ya, yc, yl, rfl, rfl, by omega, qX, hd8, ⟨⟨ho8.row.1, ho8.row.2.imp id (fun ⟨g, c, cur, e1, e2, r⟩ => ⟨g, c, cur, e1, Nat.le_trans hs6 e2, r⟩)⟩, ho8.each⟩, r1, r2, r3, r4, HR2, hB7.trans (hA7.mono hB7.size)⟩
      · obtain rfl : k = 12 := by omega
        have hM : min (l.length : Int) 12 = 12 := by omega
        have hkc : (12 : Int) ≤ cap := by omega
        clear hk HNK h12
        go_wp2_with (at_builtin; first
          | (refine wpList_append_steps rfl _ _ rfl w4.heap.size v1 (0 + 12) ([] ++ lk) rfl ho5 ma mo.length mc mo rfl rfl (hml4.below hb5) HNM.out (by omega) hg5.size ?_; intro v2 w6 ho6 hg6; obtain ⟨xa, xc, hxe⟩ := owns_shape ho6; subst hxe)
          | (refine wpList_append_steps rfl _ _ rfl w4.heap.size (.slice none 0 0) 0 [] rfl (World.ownsRow_nil _ _ _ _) (some ad) 12 cap lk rfl HLT.out hlk (fun h => by cases h) (by omega) (Nat.le_refl _) ?_; intro v1 w5 ho5 hg5; have hb5 : Below w4.heap.size w4 w5 := Below.grown (Below.refl _ _) hg5 (Nat.le_refl _) (fun q e => by cases e)))
        have hb6 : Below w4.heap.size w4 w6 := Below.grown hb5 hg6 hb5.size (fun q e => (ho5.lt q e).1)
        have hB6 := hB4.trans (hb6.mono hB4.size)
        have H2 := step_more ho6 HLT.out rfl hlk hml4 (by omega) hm1 (HT.out w6 hB6)
        refine H2.mono ?_
        rintro e w7 ⟨na, nc, ns, ya, yc, yl, he, hG7, hd7, hnew7, ho7, hoff7, hV7, hb7⟩
        subst he
        dsimp only
        have hA7 := (Below.refl w7.heap.size w7).alloc (Nat.le_refl _) (.cells #[.slice na ns.length nc] 51)
        have qX := heap_alloc_new w7 (.cells #[.slice na ns.length nc] 51)
        have hB7 := hb6.trans (hb7.mono hb6.size)
        have hd8 := hd7.below hA7
        have ho8 := ho7.below hA7
        have HR := grown_facts hG7 hV7
        have HR2 : Hid (GrownTo (s0 :: (lk ++ mo)) (min ((lk ++ mo).length + 1) 24) (cvs ns) ∧ bcv yl = (bvTo (s0 :: (lk ++ mo)) (min ((lk ++ mo).length + 1) 24)).map BV.w ∧ ∀ b ∈ yl, BtSm b) := ⟨hG7, by rw [← hV7, List.map_map]; rfl, bts_small hV7 (by omega)⟩
        clear hG7 hV7 H2 hd7 ho7 hoff7 hnew7
        have hs6 := hb6.size
        have hs7 := hb7.size
        go_wp2_with fail
        go_meet
        case rel =>
          obtain ⟨r1, r2, r3, r4, r5⟩ := HR.out
          exact ⟨w7.heap.size, na, nc, ns, ya, yc, yl, rfl, rfl, by omega, qX, hd8, ⟨⟨ho8.row.1, ho8.row.2.imp id (fun ⟨g, c, cur, e1, e2, r⟩ => ⟨g, c, cur, e1, Nat.le_trans hs6 e2, r⟩)⟩, ho8.each⟩, r1, r2, r3, r4, HR2, hB7.trans (hA7.mono hB7.size)⟩
  case rest =>
    obtain ⟨X, na, nc, ns, ya, yc, yl, rfl, rfl, hgX, qX, hdx, hox, hnp, hn24, hy60, hyp, HR2, hb5⟩ := hcut
    have hB5 := hB4.trans (hb5.mono hB4.size)
    have hb35 := hb4.trans (hb5.mono hb4.size)
    have hAR5 := BlkR.below hAR hb5
    have hSI5 := hSI.below hb35
    rw [HLK.out] at HR2
    clear hlk HLT HLK hk hkl hk24 HNK hAR hml4
    have HXG : Hid (GrownTo (s0 :: (l.take (min l.length 12) ++ mo)) (min ((l.take (min l.length 12) ++ mo).length + 1) 24) (cvs ns)) := HR2.out.1
    have HYB : Hid (bws (yl.map Bt.bc) = (bvTo (s0 :: (l.take (min l.length 12) ++ mo)) (min ((l.take (min l.length 12) ++ mo).length + 1) 24)).map BV.w) := by
      show _ = _
      rw [bws_bc]; exact HR2.out.2.1
    have HYG : Hid (BatG (cvs ns) (bws (yl.map Bt.bc))) := by
      show BatG _ _
      rw [HYB.out]; exact batG_of HXG.out (by omega)
    have hYc : BcsAt wc ya (yl.map Bt.bc) := by
      obtain ⟨xa, xc, hv, hAt, _, _, _⟩ := bts_of_owns hox
      simp at hv
      obtain ⟨rfl, rfl⟩ := hv
      exact bcs_of_bts hAt HR2.out.2.2
    have HYL : Hid (yl.length = (yl.map Bt.bc).length) := by show _ = _; rw [List.length_map]
    have HDX : Hid (dagF (cvs ns) = 0) := HXG.out.dag
    have HVX : Hid (∀ x ∈ cvs ns, x.vl = [0, 1, 2]) := HXG.out.voters
    clear HR2 hox
    generalize yl.map Bt.bc = el at HYB HYG hYc HYL
    obtain ⟨ib, hib, hi0, hi1, hi2⟩ := info_parts infoBatch
    have hepos : 0 < el.length := by have := HYL.out; omega
    obtain ⟨yb, yo, hye, hyc⟩ : ∃ yb yo, ya = some ⟨yb, yo, none⟩ ∧ ∀ j (h : j < el.length), wc.cell? ⟨yb, yo + j * 3, none⟩ = some (.int .i64 (el[j]).v.au) ∧ wc.cell? ⟨yb, yo + j * 3 + 1, none⟩ = some (.int .i64 (el[j]).v.nu) ∧ wc.cell? ⟨yb, yo + j * 3 + 2, none⟩ = some (.slice (el[j]).ta (el[j]).v.ss.length (el[j]).tc) := by
      rcases hYc.cells with h | h
      · rw [h] at hepos; simp at hepos
      · exact h
    subst hye
    have HYC : Hid _ := hyc
    have hybl : yb < wc.heap.size := block_lt_of_cell (hyc 0 hepos).1
    clear hyc
    obtain ⟨W5, hW5⟩ : ∃ W5, W5 = wc := ⟨_, rfl⟩
    subst hW5
    have hwl : IntKind.i64.wrap ((yl.length : Int) - 1) = (yl.length : Int) - 1 := by rw [IntKind.wrap_i64]; omega
    go_upto_region 10 with fail
    go_wp2_with fail
    go_loopw [16, 15] (fun j v wr => ∃ (q : Nat) (z : Int) (KN : Nat), q ≤ yl.length ∧ j = .int .i64 z ∧ z = (q : Int) - 1 ∧ Hid (KN = (el.drop q).reverse.length) ∧ KN + q ≤ yl.length ∧ wr.ownsRow W5.heap.size 42 3 v KN (bcl (el.drop q).reverse) ∧ Below W5.heap.size W5 wr) (fun j _ _ => (intOf j + 1).toNat)
    case atStart => exact ⟨yl.length, _, 0, Nat.le_refl _, rfl, by omega, (show _ = _ by rw [HYL.out]; simp), by omega, by rw [HYL.out]; simp [bcl]; exact World.ownsRow_nil _ _ _ _, Below.refl _ _⟩
    case round =>
      obtain ⟨q, z, KN, hq, rfl, hz, HKN, hKN, ho, hb6⟩ := hrel
      have hB6 := hB5.trans (hb6.mono hB5.size)
      by_cases h0 : q = 0
      · subst h0
        have hneg : ¬ (0 ≤ z) := by omega
        rw [List.drop_zero] at ho
        have HK2 : Hid (KN = el.reverse.length) := by have := HKN.out; rw [List.drop_zero] at this; exact this
        clear HKN
        have hYc6 := hYc.below hb6
        obtain ⟨ga, gc, hve, -, hLs⟩ := bcs_of_owns ho (fun b hb => hYc6.each b (List.mem_reverse.1 hb))
        subst hve
        have qX6 := (hb6.block _ (lt_of_heap qX)).trans qX
        have hd6 := hdx.below hb6
        have hS6 := hSI5.below hb6
        have x6 := cells_at qX6 0 _ rfl
        have HB2 := blk_two ns na nc el.reverse ga KN gc p.bs p.sa p.cap wr HDX.out hn24 hd6 HK2.out hLs (fun c hc d hd => by rw [bws_reverse, hasB_reverse]; exact HYG.out.has c hc d hd) hS6 h32I (HT.out wr hB6)
        clear ho hz hKN HK2 hLs
        go_wp2_with fail
        refine HB2.mono ?_
        rintro e w7 ⟨⟨xa, N, xc, ec, he, hBY⟩, hb7⟩
        subst he
        dsimp only
        have hB7 := hB6.trans (hb7.mono hB6.size)
        have hAR7 := BlkR.below hAR5 (hb6.trans (hb7.mono hb6.size))
        clear HB2 x6
        rcases hAR7 with ⟨rfl, hbs0, h1, t1, hH1, ht1, hANe, hSA⟩ | ⟨rfl, hcb, _⟩
        · rcases hBY with ⟨rfl, hpo, rfl⟩ | ⟨rfl, hb12, rfl⟩ | ⟨rfl, hpo, hbs, h2, t2, hH2, ht2, hNe, hSB, hN⟩
          · by_cases h12 : l.length ≤ 12
            · exfalso
              obtain ⟨r, hr⟩ := grown_two h12 HG.out HXG.out
              have := pOf_more hr (i := I) (by rw [cvs_length]; exact hI)
              rw [← HDI.out] at this
              omega
            · have h12I : (l.length : Int) > 12 := by omega
              clear hpo hbs0 hH1 ht1 hANe hSA h12
              go_wp2_with fail
              go_ret
              exact ⟨cvs ks, cvs ns, HG.out, HXG.out, .inl rfl, hB7⟩
          · have HCO : Hid (Coll (cvs ks ++ cvs ns) ∨ CollB ((bvTo (s0 :: l) (min (l.length + 1) 24)).map BV.w ++ (bvTo (s0 :: (l.take (min l.length 12) ++ mo)) (min ((l.take (min l.length 12) ++ mo).length + 1) 24)).map BV.w)) := by
              right
              refine collB_right _ ?_
              rw [← HYB.out]
              rcases HYG.out.ok with g | g
              · rw [bws_reverse, bsF_reverse g] at hb12; cases hb12
              · exact g
            clear hb12 hbs0 hH1 ht1 hANe hSA
            go_wp2_with fail
            go_ret
            exact ⟨cvs ks, cvs ns, HG.out, HXG.out, .inr ⟨rfl, HCO.out⟩, hB7⟩
          · have HEQ : Hid (t1 = t2 ∨ (Coll (cvs ks ++ cvs ns) ∨ CollB ((bvTo (s0 :: l) (min (l.length + 1) 24)).map BV.w ++ (bvTo (s0 :: (l.take (min l.length 12) ++ mo)) (min ((l.take (min l.length 12) ++ mo).length + 1) 24)).map BV.w))) := by
              show _ ∨ _
              obtain ⟨qp, q1, _, _, q4⟩ := pOf_sel hpo
              rw [bws_reverse] at ht2
              rw [HDI.out] at hH2 q4
              have hqd := d_bstr q4
              have := block_two HD.out HDX.out HV.out HVX.out HBG.out HYG.out (p := I) (q := qp) (by rw [cvs_length]; exact hI) q1 rfl hqd hH1 hH2 ht1 ht2
              rw [HBE.out, HYB.out] at this
              exact this
            have HAE : Hid (AN = (onceS [] t1).length ∧ N = (onceS [] t2).length) := ⟨hANe, hNe⟩
            clear hpo hbs0 hbs hH1 ht1 hANe hH2 ht2 hNe
            have hSA7 := hSA
            have HST : Calls Tryd.prog 43 #[.slice aa AN ac, .slice xa N xc] w7 fun e w' => e = .returned (.bool (decide (onceS [] t1 = onceS [] t2))) ∧ Below w7.heap.size w7 w' := sameTexts_any (onceS [] t1) (onceS [] t2) aa xa AN N ac xc w7 HAE.out.1 HAE.out.2 (by omega) (by omega) hSA hSB
            have HBQ : Hid (decide (onceS [] t1 = onceS [] t2) = true ∨ (Coll (cvs ks ++ cvs ns) ∨ CollB ((bvTo (s0 :: l) (min (l.length + 1) 24)).map BV.w ++ (bvTo (s0 :: (l.take (min l.length 12) ++ mo)) (min ((l.take (min l.length 12) ++ mo).length + 1) 24)).map BV.w))) := by
              show _ ∨ _
              rcases HEQ.out with o | o
              · left; rw [o]; simp
              · exact .inr o
            generalize decide (onceS [] t1 = onceS [] t2) = BQ at HST HBQ
            clear hSA hSB hSA7
            cases BQ with
            | true =>
              go_wp2_with (go_at_call 43; refine HST.mono ?_; rintro e w8 ⟨he, hb8⟩; subst he; dsimp only)
              have hB8 := hB7.trans (hb8.mono hB7.size)
              go_ret
              exact ⟨cvs ks, cvs ns, HG.out, HXG.out, .inl rfl, hB8⟩
            | false =>
              have HCO : Hid (Coll (cvs ks ++ cvs ns) ∨ CollB ((bvTo (s0 :: l) (min (l.length + 1) 24)).map BV.w ++ (bvTo (s0 :: (l.take (min l.length 12) ++ mo)) (min ((l.take (min l.length 12) ++ mo).length + 1) 24)).map BV.w)) := by
                rcases HBQ.out with o | o
                · cases o
                · exact o
              go_wp2_with (go_at_call 43; refine HST.mono ?_; rintro e w8 ⟨he, hb8⟩; subst he; dsimp only)
              have hB8 := hB7.trans (hb8.mono hB7.size)
              go_ret
              exact ⟨cvs ks, cvs ns, HG.out, HXG.out, .inr ⟨rfl, HCO.out⟩, hB8⟩
        · have HCO : Hid (Coll (cvs ks ++ cvs ns) ∨ CollB ((bvTo (s0 :: l) (min (l.length + 1) 24)).map BV.w ++ (bvTo (s0 :: (l.take (min l.length 12) ++ mo)) (min ((l.take (min l.length 12) ++ mo).length + 1) 24)).map BV.w)) := by
            right
            refine collB_left _ ?_
            rw [← HBE.out]; exact hcb
          clear hcb
          have HE8 : Hid (ec = 8 ∨ ec = 12 ∨ ec = 0) := by
            rcases hBY with h | h | h
            · exact .inl h.1
            · exact .inr (.inl h.1)
            · exact .inr (.inr h.1)
          clear hBY
          by_cases h8 : ec = 8
          · subst h8
            by_cases h12 : l.length ≤ 12
            · have h12I : ¬ ((l.length : Int) > 12) := by omega
              clear h12
              go_wp2_with fail
              go_ret
              exact ⟨cvs ks, cvs ns, HG.out, HXG.out, .inr ⟨rfl, HCO.out⟩, hB7⟩
            · have h12I : (l.length : Int) > 12 := by omega
              clear h12
              go_wp2_with fail
              go_ret
              exact ⟨cvs ks, cvs ns, HG.out, HXG.out, .inr ⟨rfl, HCO.out⟩, hB7⟩
          · have h8b : (ec == 8) = false := by rw [beq_eq_false_iff_ne]; exact h8
            clear h8
            go_wp2_with fail
            go_ret
            exact ⟨cvs ks, cvs ns, HG.out, HXG.out, .inr ⟨rfl, HCO.out⟩, hB7⟩
      · obtain ⟨q', rfl⟩ : ∃ q', q = q' + 1 := ⟨q - 1, by omega⟩
        obtain rfl : z = (q' : Int) := by omega
        clear h0 hz
        have hqe : q' < el.length := by have := HYL.out; omega
        have hqI : (q' : Int) < yl.length := by omega
        obtain ⟨c0, c1, c2⟩ := HYC.out q' hqe
        have HST : Hid (bcl (el.drop q').reverse = bcl (el.drop (q' + 1)).reverse ++ (el[q']).cs ∧ (el.drop q').reverse.length = (el.drop (q' + 1)).reverse.length + 1) := by
          rw [List.drop_eq_getElem_cons hqe, List.reverse_cons, bcl_app]
          exact ⟨by simp [bcl], by simp⟩
        have g0 := (hb6.cell (p := ⟨yb, yo + q' * 3, none⟩) hybl).trans c0
        have g1 := (hb6.cell (p := ⟨yb, yo + q' * 3 + 1, none⟩) hybl).trans c1
        have g2 := (hb6.cell (p := ⟨yb, yo + q' * 3 + 2, none⟩) hybl).trans c2
        generalize bcl (el.drop (q' + 1)).reverse = PS at ho HST
        generalize el[q'] = x at g0 g1 g2 HST c0 c1 c2
        have hs6 := hb6.size
        go_wp2_with (at_builtin; refine wpList_append_own_at _ rfl _ _ 22 rfl W5.heap.size 42 ib (.agg #[.int .i64 0, .int .i64 0, .slice none 0 0]) 3 40 Tryd.underlying22 hib hi0 hi1 hi2 rfl (by decide) _ KN _ rfl (World.ownsRow.alloc ho _) ⟨wr.heap.size, 0, none⟩ 1 1 (Bc.cs x) rfl rfl (cells_new _ _ _) (bc_one x) (by unfold maxLen; omega) (by omega) (le_alloc hs6 _) ?_; intro v8 w8 ho8 hg8 _ hat8)
        have hb8 := Below.grown (hb6.alloc hb6.size _) hg8 (le_alloc hb6.size _) (fun q e => (ho.lt q e).1)
        go_roundw
        case rel => exact ⟨q', _, KN + 1, by omega, rfl, rfl, (show _ = _ by rw [HST.out.2, HKN.out]), by omega, by rw [HST.out.1]; exact ho8, hb8⟩
        case measure => simp [intOf]
set_option maxRecDepth 100000 in
theorem blockSame_walk (sa : Option Addr) (cap : Nat) (l : List Stp) (ma : Option Addr) (mc : Nat) (mo : List Stp) (n : Int) (w : World) (hl : StepsAt w sa l) (hcl : l.length ≤ cap) (hc0 : sa = none → cap = 0) (hc1 : l.length * 24 ≤ 140737488351232) (hml : StepsAt w ma mo) (hmc : mo.length ≤ mc) (hm0 : ma = none → mc = 0) (hm1 : mo.length * 24 ≤ 140737488351232) (hn1 : -9223372036854775808 ≤ n) (hn2 : n ≤ 9223372036854775807) (hT : Tabs w) :
    Calls Tryd.prog 7 #[.slice sa l.length cap, .slice ma mo.length mc, .int .i64 n] w fun e w' => e = .returned (.bool true) ∧ Below w.heap.size w w' := by
  have H := blockSame_any sa cap l ma mc mo n w hl hcl hc0 hc1 hml hmc hm0 hm1 hn1 hn2 hT
  go_enter Tryd.func7, Tryd.ntmps7
  go_wp2_with fail
  refine H.mono ?_
  rintro e w1 ⟨cc, cx, hG, hX, hor, hb1⟩
  rcases hor with he | ⟨he, hco⟩
  · subst he
    dsimp only
    go_wp2_with fail
    go_ret
    exact ⟨rfl, hb1⟩
  · subst he
    dsimp only
    have H2 := grownSum_all l mo sa cap ma mc w1 cc (hl.below hb1) hcl hc0 hc1 (hml.below hb1) hmc hm0 hm1 hG (fun cx' h => by rw [h.one hX]; exact hco) (hT.below hb1)
    clear H hG hcl hc0 hc1 hco hX hm0 hm1 hmc
    go_wp2_with fail
    refine H2.mono ?_
    rintro e w2 ⟨he, hb2⟩
    subst he
    dsimp only
    go_wp2_with fail
    go_ret
    exact ⟨rfl, hb1.trans (hb2.mono hb1.size)⟩
end Go.Proofs.YtbmodfegcmaieaaDoor

namespace Go.Proofs.YtbmodfegcmaieaaDoor
open Go.RowKit

set_option maxRecDepth 100000 in
/-- An array of arrays of integers that reads as a table of rows holds the rows' numbers, cell for cell. -/
theorem cells_of_tab2 {H : Type} {enc : TypeId × Value → H} {P : Program} {w : World} {base : Nat} {sp : Nat → Bool} {held : Bool} {fuel : Nat} {t e i : TypeId} {n m : Nat} {k : IntKind} {cs : List Value} {rows : List (List Int)} {p : List MemPlace}
    (ht : P.underlying t = some (.array n e)) (he : P.underlying e = some (.array m i)) (hi : P.underlying i = some (.int k)) (hci : P.cellsOf i = 1) (hce : P.cellsOf e = m) (hm : 0 < m)
    (h : DataW.trod enc P w base sp held fuel t cs = some (.agg (rows.map (Lib.tabData k)), p)) (q : Nat) (hq : q < n * m) : cs[q]? = ((rows.getD (q / m) []).map (Value.int k))[q % m]? := by
  obtain ⟨xs, f, rfl, hx, hl, hn, hr⟩ := DataW.trod_array ht h
  have hin : q / m < n := Nat.div_lt_of_lt_mul (by rw [Nat.mul_comm]; exact hq)
  have hrow := hr (q / m) hin
  have hxs : xs.map (·.1) = rows.map (Lib.tabData k) := by
    have := congrArg Prod.fst hx
    simpa using this.symm
  have hg : (xs.map (·.1))[q / m]? = some (xs[q / m]'(by omega)).1 := by simp [hn, hin]
  rw [hxs] at hg
  simp only [List.getElem?_map, Option.map_eq_some_iff] at hg
  obtain ⟨r, hr1, hr2⟩ := hg
  rw [List.getElem?_eq_getElem (by omega), hce] at hrow
  have hrow' : DataW.trod enc P w base sp held f e ((cs.drop (q / m * m)).take m) = some (Lib.tabData k r, (xs[q / m]'(by omega)).2) := by
    rw [hrow, hr2]
  have hc := Lib.cells_of_tab he hi hci hce hrow'
  have hj : q % m < m := Nat.mod_lt _ hm
  have e1 : ((cs.drop (q / m * m)).take m)[q % m]? = cs[q]? := by
    rw [List.getElem?_take, if_pos hj, List.getElem?_drop, Nat.mul_comm, Nat.div_add_mod]
  rw [← e1, hc]
  simp [List.getD, hr1]

set_option maxRecDepth 100000 in
theorem tFirst : (Tryd.prog.globals[0]?).map (·.type) = some 142 := by kernel_rfl
set_option maxRecDepth 100000 in
theorem tOrders : (Tryd.prog.globals[1]?).map (·.type) = some 172 := by kernel_rfl
set_option maxRecDepth 100000 in
theorem tLanes : (Tryd.prog.globals[2]?).map (·.type) = some 174 := by kernel_rfl
set_option maxRecDepth 100000 in
theorem cU32 : Tryd.prog.cellsOf 141 = 1 := by kernel_rfl
set_option maxRecDepth 100000 in
theorem c8U32 : Tryd.prog.cellsOf 142 = 8 := by kernel_rfl
set_option maxRecDepth 100000 in
theorem c16U8 : Tryd.prog.cellsOf 171 = 16 := by kernel_rfl
set_option maxRecDepth 100000 in
theorem c4U8 : Tryd.prog.cellsOf 173 = 4 := by kernel_rfl
def ordRows : List (List Int) := [[0, 1, 2, 3, 4, 5, 6, 7, 8, 9, 10, 11, 12, 13, 14, 15], [14, 10, 4, 8, 9, 15, 13, 6, 1, 12, 0, 2, 11, 7, 5, 3], [11, 8, 12, 0, 5, 2, 15, 13, 10, 14, 3, 6, 7, 1, 9, 4], [7, 9, 3, 1, 13, 12, 11, 14, 2, 6, 5, 10, 4, 0, 15, 8], [9, 0, 5, 7, 2, 4, 10, 15, 14, 1, 11, 12, 6, 8, 3, 13], [2, 12, 6, 10, 0, 11, 8, 3, 4, 13, 7, 5, 15, 14, 1, 9], [12, 5, 1, 15, 14, 13, 4, 10, 0, 7, 6, 3, 9, 2, 8, 11], [13, 11, 7, 14, 12, 1, 3, 9, 5, 0, 15, 4, 8, 6, 2, 10], [6, 15, 14, 9, 11, 3, 0, 8, 12, 2, 13, 7, 1, 4, 10, 5], [10, 2, 8, 4, 7, 6, 1, 5, 15, 11, 9, 14, 3, 12, 13, 0]]
def laneRows : List (List Int) := [[0, 4, 8, 12], [1, 5, 9, 13], [2, 6, 10, 14], [3, 7, 11, 15], [0, 5, 10, 15], [1, 6, 11, 12], [2, 7, 8, 13], [3, 4, 9, 14]]
set_option maxRecDepth 100000 in
theorem ordRows_flat : ∀ q, q < 160 → (ordRows.getD (q / 16) [])[q % 16]? = some ((ordF.getD q 0 : Nat) : Int) := by decide +kernel
set_option maxRecDepth 100000 in
theorem laneRows_flat : ∀ q, q < 32 → (laneRows.getD (q / 4) [])[q % 4]? = some ((laneF.getD q 0 : Nat) : Int) := by decide +kernel
set_option maxRecDepth 100000 in
theorem dFirst : Rows.laid_sheaves_blake_firstWords (H := Unit) = Lib.tabData .u32 fw := rfl
set_option maxRecDepth 100000 in
theorem dOrders : Rows.laid_sheaves_blake_orders (H := Unit) = .agg (ordRows.map (Lib.tabData .u8)) := rfl
set_option maxRecDepth 100000 in
theorem dLanes : Rows.laid_sheaves_blake_lanes (H := Unit) = .agg (laneRows.map (Lib.tabData .u8)) := rfl

set_option maxRecDepth 100000 in
theorem tabs_of_laid {W : World} {n1 n2 n3 : String} (gFirst : Tryd.prog.globalNamed n1 = some 0) (gOrders : Tryd.prog.globalNamed n2 = some 1) (gLanes : Tryd.prog.globalNamed n3 = some 2)
    (h : laidMetH Tryd.prog [(n1, Rows.laid_sheaves_blake_firstWords), (n2, Rows.laid_sheaves_blake_orders), (n3, Rows.laid_sheaves_blake_lanes)] W) : Tabs W := by
  have h1 : laidMet Tryd.prog [(n1, Rows.laid_sheaves_blake_firstWords), (n2, Rows.laid_sheaves_blake_orders), (n3, Rows.laid_sheaves_blake_lanes)] W := h
  clear h
  have h2 := h1.tail
  have h3 := h2.tail
  rw [dFirst] at h1
  rw [dOrders] at h2
  rw [dLanes] at h3
  have t1 := Lib.tabIs_of_head gFirst tFirst Tryd.underlying142 Tryd.underlying141 cU32 c8U32 h1
  refine ⟨fun i hi => t1.cell gFirst i hi, fun i hi => ?_, fun i hi => ?_⟩
  · obtain ⟨ps, ⟨g', t', cs, fuel, p, q, hg', ht', hvar, hd, _, _⟩, _⟩ := h2
    obtain rfl := Option.some.inj (gOrders.symm.trans hg')
    obtain rfl := Option.some.inj (tOrders.symm.trans ht')
    have hc := World.var?_cell gOrders hvar i
    have he := cells_of_tab2 Tryd.underlying172 Tryd.underlying171 Tryd.underlying5 cU8 c16U8 (by decide) hd i hi
    rw [hc]
    have := ordRows_flat i hi
    simp only [List.getElem?_map, this, Option.map_some] at he
    simpa using he
  · obtain ⟨ps, ⟨g', t', cs, fuel, p, q, hg', ht', hvar, hd, _, _⟩, _⟩ := h3
    obtain rfl := Option.some.inj (gLanes.symm.trans hg')
    obtain rfl := Option.some.inj (tLanes.symm.trans ht')
    have hc := World.var?_cell gLanes hvar i
    have he := cells_of_tab2 Tryd.underlying174 Tryd.underlying173 Tryd.underlying5 cU8 c4U8 (by decide) hd i hi
    rw [hc]
    have := laneRows_flat i hi
    simp only [List.getElem?_map, this, Option.map_some] at he
    simpa using he
end Go.Proofs.YtbmodfegcmaieaaDoor

namespace Go.Proofs.YtbmodfegcmaieaaDoor
open Go.ChangeShapes Go.WideShapes Go.ChangeAt Go.RowKit

/-- What the initialisers of the three tables lay, in the first blocks. -/
def layBlock (c : Array Value) : Obj → Obj
  | .cells _ t frozen => .cells c t frozen
  | o => o
def layTabs (w : World) : World :=
  { w with heap := ((w.heap.modify 0 (layBlock (ua fw))).modify 1 (layBlock (ub (ordF.map Int.ofNat)).toArray)).modify 2 (layBlock (ub (laneF.map Int.ofNat)).toArray) }
end Go.Proofs.YtbmodfegcmaieaaDoor

namespace Go.Proofs.YtbmodfegcmaieaaDoor.blockSame
open Go.ChangeShapes Go.WideShapes Go.ChangeAt Go.RowKit

set_option maxRecDepth 100000 in
/-- What the walk gives, for every argument and every world that holds the tables. -/
theorem contract (H : Type) (enc : TypeId × Value → H) (W : World) (base : Nat) (args : Array Value) (ds gs : List (DataW H)) (before : List MemPlace)
    (hval : ∀ (j : Nat) t v, Tryd.f7.params[j]? = some t → args[j]? = some v → Value.okWide Tryd.prog W .any base t v)
    (hW : DataW.Whole enc Tryd.prog Tryd.f7.params.toList Rows.blockSameSpec.vars false W args.toList ds gs before) (hsz : (DataW.weightsEach Tryd.prog (Tryd.f7.params.toList ++ (OpenSpec.ofChange Rows.blockSameSpec).bare.plain.varTypes Tryd.prog) (ds ++ gs)).all (· ≤ reachBytes) = true) (hL : laidMetH Tryd.prog Rows.blockSameRow.laid W) :
    Calls Tryd.prog 7 args W fun e W' => ∃ v, e = .returned v ∧ Rows.blockSameSpec.post enc Tryd.prog Tryd.f7 false true false false W args v W' := by
  have hW' := hW
  obtain ⟨p, q, hA0, hV, rfl, hfz, hnd⟩ := hW
  have hA : DataW.TrodAll enc Tryd.prog W 0 (fun _ => true) true Tryd.f7.params.toList args.toList ds p := hA0
  rw [Tryd.params7] at hA hval hsz
  obtain ⟨v0, vs0, d0, ds0, p0, q0, hargs, rfl, rfl, h0, r0⟩ := trodAll_cons hA
  obtain ⟨v1, vs1, d1, ds1, p1, q1, rfl, rfl, rfl, h1, r1⟩ := trodAll_cons r0
  obtain ⟨v2, vs2, d2, ds2, p2, q2, rfl, rfl, rfl, h2, r2⟩ := trodAll_cons r1
  obtain ⟨rfl, rfl, rfl⟩ := trodAll_nil r2
  obtain rfl : args = #[v0, v1, v2] := by cases args; simp_all
  obtain ⟨rfl, rfl⟩ := trodVars_none hV
  have k0 := h0
  have lt0 : ∀ x ∈ p0, x.block < W.heap.size := by obtain ⟨m, hm⟩ := k0; exact DataW.trod_lt m _ _ _ hm
  obtain ⟨sa0, cap0, l0, rfl, q0_0, q0_1, q0_2, q0_3⟩ := open_steps (hval 0 27 v0 rfl rfl) h0 (fit_each hsz (j := 0) rfl rfl)
  have k1 := h1
  have lt1 : ∀ x ∈ p1, x.block < W.heap.size := by obtain ⟨m, hm⟩ := k1; exact DataW.trod_lt m _ _ _ hm
  obtain ⟨sa1, cap1, l1, rfl, q1_0, q1_1, q1_2, q1_3⟩ := open_steps (hval 1 27 v1 rfl rfl) h1 (fit_each hsz (j := 1) rfl rfl)
  obtain ⟨a2, rfl, rfl, rfl, w2⟩ := open_int Tryd.underlying3 (hval 2 3 v2 rfl rfl) h2
  obtain ⟨lo2, hi2⟩ := bounds_i64 w2
  clear hA0
  have hT : Tabs W := tabs_of_laid (by kernel_rfl) (by kernel_rfl) (by kernel_rfl) hL
  refine (blockSame_walk sa0 cap0 l0 sa1 cap1 l1 a2 W q0_0 q0_1 q0_2 q0_3 q1_0 q1_1 q1_2 q1_3 lo2 hi2 hT).mono fun e W' ⟨he, bel⟩ => ?_
  subst he
  exact ⟨_, rfl, _, _, _, [], _, [], hW', trodAll_mk1 (shut_bool Tryd.underlying4 _), (trodAll_cons_mk (Below.trod laidOut (by kernel_rfl) (of_decide_eq_true (by kernel_rfl)) k0 bel lt0) (trodAll_cons_mk (Below.trod laidOut (by kernel_rfl) (of_decide_eq_true (by kernel_rfl)) k1 bel lt1) (trodAll_cons_mk (shut_int Tryd.underlying3 w2) trodAll_mk0))), rfl, bel.frame _, fun h => by cases h⟩

set_option maxRecDepth 100000 in
theorem laid_met (os : Os) : laidMet Tryd.prog Rows.blockSameRow.laid ((layTabs (World.holding Tryd.prog os ⟨#[], #[], []⟩)).forCall (fun _ _ => 0) ⟨#[], #[.slice none 0 0, .slice none 0 0, .int .i64 0], []⟩).memory :=
  laidMet_of_run' 8 (by kernel_rfl) (by kernel_rfl)
set_option maxRecDepth 100000 in
theorem reads (os : Os) {H : Type} (enc : TypeId × Value → H) : ∃ places, DataW.whole enc Tryd.prog ((layTabs (World.holding Tryd.prog os ⟨#[], #[], []⟩)).forCall (fun _ _ => 0) ⟨#[], #[.slice none 0 0, .slice none 0 0, .int .i64 0], []⟩).memory Tryd.f7.params.toList Rows.blockSameSpec.vars false (#[.slice none 0 0, .slice none 0 0, .int .i64 0] : Array Value).toList 8 = some ([.nil, .nil, .lit (.int .i64 0)], [], places) :=
  ⟨[], by kernel_rfl⟩

set_option maxRecDepth 100000 in
theorem lifted (os : Os) (started : os.Started) (H : Type) (enc : TypeId × Value → H) (F : Stop.Interp) :
    ReturnsInHanded {} Tryd.checked os 7 .any ((OpenSpec.ofChange Rows.blockSameSpec).preRow enc Tryd.prog Tryd.f7 Rows.blockSameRow.domain false Rows.blockSameRow.laid) (((OpenSpec.ofChange Rows.blockSameSpec).at F).post enc Tryd.prog Tryd.f7 false true false false) := by
  obtain ⟨places, hx⟩ := reads os enc
  refine returnsInHanded_of_row (C := Tryd.checked) (s := OpenSpec.ofChange Rows.blockSameSpec) own started (by kernel_rfl) Tryd.func7
    (witness_row_at (enc := enc) (C := Tryd.checked) false (layTabs (World.holding Tryd.prog os ⟨#[], #[], []⟩)) #[.slice none 0 0, .slice none 0 0, .int .i64 0] rfl (by kernel_rfl) (by kernel_rfl) (by kernel_rfl)
      (OpenSpec.preRow_of_cond 8 hx (by kernel_rfl) (fun k hk => by cases hk) (by kernel_rfl) (laid_met os))) ?_
  intro W base args ds gs before hval hW _ _ hsz hL _ _
  exact contract H enc W base args ds gs before hval hW hsz hL

set_option maxRecDepth 100000 in
theorem said : Rows.BlockSameSaid :=
  OpenClaim.holds_of_cond 7 Tryd.f7 rfl rfl rfl rfl rfl rfl rfl ⟨rfl, rfl, rfl, rfl, rfl⟩ rfl rfl rfl rfl rfl (by kernel_rfl) Tryd.func7 (by kernel_rfl)
    (of_decide_eq_true (by kernel_rfl)) (by unfold Func.isWrapper; first | (rw [if_pos (by decide +kernel)]; kernel_rfl) | (rw [if_neg (by decide +kernel)]; exact ⟨rfl, rfl⟩))
    (fun os started H enc _ F => by rw [OpenClaim.pre_eq_preRow]; exact lifted os started H enc F)

set_option maxRecDepth 100000 in
theorem plain (f : FuncId) (fn : Func) (hf : Tryd.pinned.checked.prog.funcNamed Rows.blockSameRow.func = some f) (hfn : Tryd.pinned.checked.prog.funcs[f]? = some fn) :
    false = Tryd.pinned.checked.prog.looks [] ∧ ∀ (j : Nat) t, fn.params[j]? = some t → Tryd.pinned.checked.prog.wantsStandIn t = false := by
  obtain rfl : f = 7 := Option.some.inj ((show Tryd.prog.funcNamed Rows.blockSameRow.func = some 7 by kernel_rfl).symm.trans hf) |>.symm
  obtain rfl : fn = Tryd.f7 := (Option.some.inj (Tryd.func7.symm.trans hfn)).symm
  refine ⟨by kernel_rfl, fun j t ht => ?_⟩
  rw [Tryd.params7] at ht
  have hm : t = 27 ∨ t = 27 ∨ t = 3 := by simpa using Array.mem_of_getElem? ht
  rcases hm with rfl | rfl | rfl
  · exact (show Tryd.prog.wantsStandIn 27 = false by kernel_rfl)
  · exact (show Tryd.prog.wantsStandIn 27 = false by kernel_rfl)
  · exact (show Tryd.prog.wantsStandIn 3 = false by kernel_rfl)

set_option maxRecDepth 100000 in
/-- THE CARD. -/
theorem card : Rows.BlockSameCardSaid :=
  Claim7.holds_tied_plain_at .later [] _ _ _ _ said (fun _ h => by cases h) (by kernel_rfl) (fun _ h => by cases h) blockSame_row_tie rfl ⟨rfl, rfl⟩ (by kernel_rfl) rfl plain (by kernel_rfl)
end Go.Proofs.YtbmodfegcmaieaaDoor.blockSame
namespace Go.Proofs.YtbmodfegcmaieaaDoor
set_option maxRecDepth 100000 in
theorem blockSame_holds : Rows.BlockSameCardSaid := blockSame.card
#print axioms blockSame_holds
end Go.Proofs.YtbmodfegcmaieaaDoor
