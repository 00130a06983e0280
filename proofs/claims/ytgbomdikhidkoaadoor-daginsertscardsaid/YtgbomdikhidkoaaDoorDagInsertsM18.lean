/- What the reading of an argument that is a slice of bytes gives the walks. -/
import Derived.Test.YtgbomdikhidkoaaDoorDagInsertsM12
import Derived.Test.YtgbomdikhidkoaaDoorTxL
import Derived.Deep.RegionHeld2
import Derived.Test.YtgbomdikhidkoaaDoorDigs
import Derived.Test.YtgbomdikhidkoaaDoorDagInsertsM0
import Derived.Deep.RegionHeld3
import Derived.Test.YtgbomdikhidkoaaDoorPK
import Derived.ProofKit
import Derived.OpenShut
import Derived.SizedLaws
namespace Go.Proofs.YtgbomdikhidkoaaDoor
open Go.RowKit

/-- What Insert answers. -/
def InAt (B : Nat) (w' : World) (e : Ending) (l : List CV) (c : CV) : Prop :=
  (insE l c ≠ 0 ∧ e = .returned (.tuple #[.agg #[.slice none 0 0], .int .i64 (insE l c)])) ∨ (insE l c = 0 ∧ ∃ ra rc ks, e = .returned (.tuple #[.agg #[.slice ra (List.length ks) rc], .int .i64 0]) ∧ cvs ks = l ++ [c] ∧ DagAt w' ra rc ks ∧ (∀ sb so, ra = some ⟨sb, so, none⟩ → B ≤ sb) ∧ ∀ k ∈ ks, ∀ q, CtIn k q → B ≤ q)
set_option maxRecDepth 100000 in
theorem InAt.err {B : Nat} {w' : World} {l : List CV} {c : CV} {x : Int} (h : insE l c = x) (hx : x ≠ 0) : InAt B w' (.returned (.tuple #[.agg #[.slice none 0 0], .int .i64 x])) l c := .inl ⟨by rw [h]; exact hx, by rw [h]⟩
set_option maxRecDepth 100000 in
theorem certs_stk (s n cc : Nat) (ca : Option Addr) (vd : Value) (w : World) (hb : w.heap[s]? = some (.cells #[.slice ca n cc, vd] 76 (0, 0))) :
    Calls Tryd.prog 43 #[.pointer (some ⟨s, 0, none⟩)] w fun e w' => e = .returned (.slice ca n cc) ∧ w = w' := by
  have c0 := cells_at hb 0 _ rfl
  go_enter Tryd.func43, Tryd.ntmps43
  go_wp2_with fail
  go_ret
  exact ⟨rfl, rfl⟩
set_option maxRecDepth 100000 in
set_option maxHeartbeats 2000000 in
theorem dagInsert_any (ls : List Ct) (sa : Option Addr) (n cap : Nat) (c : Ct) (w : World) (hn : n = ls.length) (hd : DagAt w sa cap ls) (hc : CtAt w c) (hT : Tabs w) :
    Calls Tryd.prog 20 #[.agg #[.slice sa n cap], .agg #[.int .i64 c.au, .int .i64 c.rd, .slice c.ba c.bl.length c.bc, .slice c.pa c.pl.length c.pc, .slice c.va c.vl.length c.vc]] w fun e w' => InAt w.heap.size w' e (cvs ls) c.v ∧ Below w.heap.size w w' := by
  subst hn
  have hA : Below w.heap.size w (((w.alloc (.cells #[.slice sa ls.length cap] 24)).alloc (.cells #[.int .i64 c.au, .int .i64 c.rd, .slice c.ba c.bl.length c.bc, .slice c.pa c.pl.length c.pc, .slice c.va c.vl.length c.vc] 35)).alloc (.cells #[.slice none 0 0] 24)) := (((Below.refl _ _).alloc (Nat.le_refl _) _).alloc (by rw [size_alloc]; omega) _).alloc (by rw [size_alloc, size_alloc]; omega) _
  have q0 : (((w.alloc (.cells #[.slice sa ls.length cap] 24)).alloc (.cells #[.int .i64 c.au, .int .i64 c.rd, .slice c.ba c.bl.length c.bc, .slice c.pa c.pl.length c.pc, .slice c.va c.vl.length c.vc] 35)).alloc (.cells #[.slice none 0 0] 24)).heap[w.heap.size]? = some (.cells #[.slice sa ls.length cap] 24 (0, 0)) := heap_keep (heap_keep (heap_alloc_new w _))
  have q1 : (((w.alloc (.cells #[.slice sa ls.length cap] 24)).alloc (.cells #[.int .i64 c.au, .int .i64 c.rd, .slice c.ba c.bl.length c.bc, .slice c.pa c.pl.length c.pc, .slice c.va c.vl.length c.vc] 35)).alloc (.cells #[.slice none 0 0] 24)).heap[w.heap.size + 1]? = some (.cells #[.int .i64 c.au, .int .i64 c.rd, .slice c.ba c.bl.length c.bc, .slice c.pa c.pl.length c.pc, .slice c.va c.vl.length c.vc] 35 (0, 0)) := heap_keep (by have := heap_alloc_new (w.alloc (.cells #[.slice sa ls.length cap] 24)) (.cells #[.int .i64 c.au, .int .i64 c.rd, .slice c.ba c.bl.length c.bc, .slice c.pa c.pl.length c.pc, .slice c.va c.vl.length c.vc] 35); rw [size_alloc] at this; exact this)
  have q2 : (((w.alloc (.cells #[.slice sa ls.length cap] 24)).alloc (.cells #[.int .i64 c.au, .int .i64 c.rd, .slice c.ba c.bl.length c.bc, .slice c.pa c.pl.length c.pc, .slice c.va c.vl.length c.vc] 35)).alloc (.cells #[.slice none 0 0] 24)).heap[w.heap.size + 1 + 1]? = some (.cells #[.slice none 0 0] 24 (0, 0)) := by
    have := heap_alloc_new ((w.alloc (.cells #[.slice sa ls.length cap] 24)).alloc (.cells #[.int .i64 c.au, .int .i64 c.rd, .slice c.ba c.bl.length c.bc, .slice c.pa c.pl.length c.pc, .slice c.va c.vl.length c.vc] 35)) (.cells #[.slice none 0 0] 24)
    rw [size_alloc, size_alloc] at this; exact this
  have hsz : (((w.alloc (.cells #[.slice sa ls.length cap] 24)).alloc (.cells #[.int .i64 c.au, .int .i64 c.rd, .slice c.ba c.bl.length c.bc, .slice c.pa c.pl.length c.pc, .slice c.va c.vl.length c.vc] 35)).alloc (.cells #[.slice none 0 0] 24)).heap.size = w.heap.size + 3 := by simp
  go_enter Tryd.func20, Tryd.ntmps20
  go_wp2_with fail
  generalize ((w.alloc (.cells #[.slice sa ls.length cap] 24)).alloc (.cells #[.int .i64 c.au, .int .i64 c.rd, .slice c.ba c.bl.length c.bc, .slice c.pa c.pl.length c.pc, .slice c.va c.vl.length c.vc] 35)).alloc (.cells #[.slice none 0 0] 24) = W0 at hA q0 q1 q2 hsz ⊢
  generalize hO : w.heap.size + 1 + 1 = O at q2 ⊢
  have HOg : w.heap.size ≤ O := by omega
  have HOn : w.heap.size + 1 < O := by omega
  have hOW : O < W0.heap.size := lt_of_heap q2
  clear hO hsz
  refine (open_any ls sa _ cap W0 rfl (hd.below hA) (hT.below hA)).mono ?_
  intro e w1 hO
  have hb1 := hO.below
  have hOo := hO.out
  clear hO
  have hB1 := hA.trans (hb1.mono hA.size)
  have r1 := (hb1.block _ (lt_of_heap q1)).trans q1
  have r2 := (hb1.block _ (lt_of_heap q2)).trans q2
  rcases hOo with ⟨hF, he⟩ | ⟨hF, s, ks, he, hcv, hown⟩
  · have HM : Hid (insE (cvs ls) c.v = 12) := by
      show _ = _
      rw [insE, hF]; rfl
    clear hF
    subst he
    dsimp only
    have d0 := cells_at r2 0 _ rfl
    have f0 := frozen_at r2 0
    go_wp2_with fail
    refine bodyPost_ret (v := .tuple #[.agg #[.slice none 0 0], .int .i64 12]) (by simp [results, Tryd.results20, go_sem, d0]) rfl ⟨InAt.err HM.out (by decide), hB1.setCell HOg _⟩
  · have HM : Hid (insE (cvs ls) c.v = stkE (cvs ls) c.v) := insE_stk _ hF
    have HCV : Hid _ := hcv
    clear hF hcv
    subst he
    dsimp only
    have e0 := cells_at r1 0 _ rfl
    have e1 := cells_at r1 1 _ rfl
    have e2 := cells_at r1 2 _ rfl
    have e3 := cells_at r1 3 _ rfl
    have e4 := cells_at r1 4 _ rfl
    have HIN := insert_stk ks W0.heap.size s c w1 hown hb1.size (hc.below hB1) (hT.below hB1)
    go_wp2_with fail
    refine HIN.mono ?_
    intro e w2 h2
    have he := h2.told
    have hb2 := h2.below
    have ho2 := h2.own
    rw [HCV.out, ← HM.out] at he ho2
    clear h2 HIN e0 e1 e2 e3 e4 hown
    subst he
    dsimp only
    have hB2 : Below w.heap.size w w2 := hA.trans ((hb1.trans hb2).mono hA.size)
    have r2 := (hb2.block _ hOW).trans r2
    generalize hI : insE (cvs ls) c.v = x at *
    have HI : Hid _ := hI
    clear hI HM
    by_cases hx : x = 0
    · have HO : Hid (∃ y : Ct, y.v = c.v ∧ StkOwn w2 W0.heap.size s (ks ++ [y])) := by
        show ∃ y, _
        rcases ho2 with ⟨h, _⟩ | ⟨_, h⟩
        · exact absurd hx h
        · exact h
      obtain ⟨y, hy, hown2⟩ := HO.out
      obtain ⟨vc, vd, ds, hk, hsame, hsm⟩ := hown2.out
      obtain ⟨ra, rc, hv, hl, hL, hfr⟩ := dag_of_owns hk.rc hk.ac
      subst hv
      have HKS : Hid (cvs (ks ++ [y]) = cvs ls ++ [c.v]) := by
        show _ = _
        rw [← HCV.out, ← hy]
        simp [cvs]
      have hLL := hL (by omega)
      have HAC : Hid (∀ k ∈ ks ++ [y], ∀ b, CtIn k b → W0.heap.size ≤ b) := by
        show ∀ k, _
        exact fun k hk' b hb => ((hk.ac k hk').2 b hb).1
      have HFR : Hid _ := hfr
      have bx := hk.box
      subst hx
      clear ho2 HO hown2 hy hsame hL hfr hl hk
      have d0 := cells_at r2 0 _ rfl
      have f0 := frozen_at r2 0
      go_wp2_with fail
      refine (certs_stk s _ rc ra vd w2 bx).mono ?_
      rintro e w3 ⟨he, rfl⟩
      subst he
      dsimp only
      go_wp2_with fail
      refine bodyPost_ret (v := .tuple #[.agg #[.slice ra (ks ++ [y]).length rc], .int .i64 0]) (by simp [results, Tryd.results20, go_sem, d0]) rfl ⟨.inr ⟨HI.out, ra, rc, ks ++ [y], rfl, HKS.out, ?_, ?_, ?_⟩, hB2.setCell HOg _⟩
      · refine ⟨hLL.le, hLL.max, hLL.small, hLL.some, ⟨?_⟩, fun k hk' => ?_⟩
        · rcases hLL.certs.cells with h | ⟨sb, so, e, h⟩
          · exact .inl h
          · refine .inr ⟨sb, so, e, fun j hj => ?_⟩
            obtain ⟨a0, a1, a2, a3, a4⟩ := h j hj
            have hne : O ≠ sb := by have := (HFR.out sb so e).1; omega
            exact ⟨(World.cell?_setCell_far _ _ _ _ hne).trans a0, (World.cell?_setCell_far _ _ _ _ hne).trans a1, (World.cell?_setCell_far _ _ _ _ hne).trans a2, (World.cell?_setCell_far _ _ _ _ hne).trans a3, (World.cell?_setCell_far _ _ _ _ hne).trans a4⟩
        · exact (hLL.each k hk').keep (by simp) (fun b hb => heap_setCell_other _ ⟨O, 0, none⟩ b _ (by have := HAC.out k hk' b hb; show b ≠ O; omega))
      · intro sb so e
        have := (HFR.out sb so e).1
        have := hA.size
        omega
      · intro k hk' b hb
        have := HAC.out k hk' b hb
        have := hA.size
        omega
    · have HX : Hid _ := hx
      have hxn : (x != 0) = true := by simpa using hx
      have d0 := cells_at r2 0 _ rfl
      have f0 := frozen_at r2 0
      clear ho2
      go_wp2_with fail
      refine bodyPost_ret (v := .tuple #[.agg #[.slice none 0 0], .int .i64 x]) (by simp [results, Tryd.results20, go_sem, d0]) rfl ⟨InAt.err HI.out HX.out, hB2.setCell HOg _⟩
end Go.Proofs.YtgbomdikhidkoaaDoor

namespace Go.Proofs.YtgbomdikhidkoaaDoor
open Go.RowKit

set_option maxRecDepth 100000 in
theorem sameBytes_any (xs ys : List Int) (sa sb : Option Addr) (n m c d : Nat) (w : World) (hn : n = xs.length) (hm : m = ys.length) (ha : SliceAt w sa c xs) (hb : SliceAt w sb d ys) :
    Calls Tryd.prog 52 #[.slice sa n c, .slice sb m d] w fun e w' => e = .returned (.bool (decide (txL xs = txL ys))) ∧ w = w' := by
  have h1 := run_text w sa n c xs hn ha
  have h2 := run_text w sb m d ys hm hb
  clear hn hm ha hb
  unfold txL
  generalize bstr xs = A at *
  generalize bstr ys = B at *
  go_enter Tryd.func52, Tryd.ntmps52
  go_wp2_with fail
  go_ret
  refine ⟨ret_bool ?_, rfl⟩
  by_cases h : A.toList = B.toList <;> simp [h]
end Go.Proofs.YtgbomdikhidkoaaDoor

namespace Go.Proofs.YtgbomdikhidkoaaDoor
open Go.RowKit

set_option maxRecDepth 100000 in
theorem twice_yes (ps : List Part) (k m : Nat) (hm : m < k) (h : txL (partAt ps m).bs = txL (partAt ps k).bs) : twice ps k = true := by
  simp only [twice, List.any_eq_true]
  exact ⟨m, by simpa using hm, by simpa using h⟩
set_option maxRecDepth 100000 in
theorem twice_no (ps : List Part) (k : Nat) (h : ∀ j, j < k → ¬ txL (partAt ps j).bs = txL (partAt ps k).bs) : twice ps k = false := by
  simp only [twice, List.any_eq_false]
  intro j hj
  simpa using h j (by simpa using hj)

set_option maxRecDepth 100000 in
set_option maxHeartbeats 1000000 in
theorem digestsFault_any (ps : List Part) (sa : Option Addr) (n cap : Nat) (w : World) (hn : n = ps.length) (hcm : n ≤ 9000000000000000000) (hp : PartsAt w sa ps) :
    Calls Tryd.prog 58 #[.slice sa n cap] w fun e w' => e = .returned (.int .i64 (digF ps)) ∧ Below w.heap.size w w' := by
  subst hn
  go_enter Tryd.func58, Tryd.ntmps58
  go_wp2_with fail
  go_loopw [3] (fun i wr => ∃ k : Nat, k ≤ ps.length ∧ i = .int .i64 k ∧ digTo1 ps k = 0 ∧ Below w.heap.size w wr) (fun i _ => ps.length - (intOf i).toNat)
  case atStart => exact ⟨0, Nat.zero_le _, rfl, rfl, Below.refl _ _⟩
  case round =>
    obtain ⟨k, hk, rfl, h0, hb⟩ := hrel
    by_cases hlt : k < ps.length
    · have hpw := hp.below hb
      obtain ⟨sb, so, rfl, hc⟩ : ∃ sb so, sa = some ⟨sb, so, none⟩ ∧ ∀ j (h : j < ps.length), wr.cell? ⟨sb, so + j, none⟩ = some (.slice (ps[j]).sa (ps[j]).bs.length (ps[j]).cap) := by
        rcases hpw.cells with h | h
        · rw [h] at hlt; simp at hlt
        · exact h
      have hx := hpw.each (ps[k]) (List.getElem_mem hlt)
      have hpe := partAt_get ps k hlt
      have ck := hc k hlt
      have Hc : Hid (∀ j (h : j < ps.length), wr.cell? ⟨sb, so + j, none⟩ = some (.slice (ps[j]).sa (ps[j]).bs.length (ps[j]).cap)) := hc
      clear hc
      have hltI : (k : Int) < ps.length := by omega
      have hAt : Hid (digAt ps k = if (ps[k]).bs.length ≠ 32 then 4 else if twice ps k then 7 else 0) := by
        show _ = _
        rw [digAt, hpe]
      have hF : Hid (digAt ps k ≠ 0 → digF ps = digAt ps k) := by
        show _ → _
        exact digF_at ps k hlt h0
      have hS : Hid (digAt ps k = 0 → digTo1 ps (k + 1) = 0) := by
        show _ → _
        intro h
        rw [digTo1, h0, h]; rfl
      have hxl : (ps[k]).bs.length ≤ 9223372036854775807 := Nat.le_trans hx.le hx.max
      generalize hpk : ps[k] = p at *
      by_cases h32 : p.bs.length = 32
      · have e7 : Hid (twice ps k = true → digF ps = 7) := by
          show _ → _
          intro hT
          have : digAt ps k = 7 := by rw [hAt.out, if_neg (by simp [h32]), hT]; rfl
          rw [hF.out (by rw [this]; decide), this]
        have e0 : Hid (twice ps k = false → digTo1 ps (k + 1) = 0) := by
          show _ → _
          intro hT
          exact hS.out (by rw [hAt.out, if_neg (by simp [h32]), hT]; rfl)
        have hY : Hid (∀ m, m < k → txL (partAt ps m).bs = txL p.bs → twice ps k = true) := by
          show ∀ m, _
          intro m hm h
          exact twice_yes ps k m hm (by rw [hpe]; exact h)
        have hN : Hid ((∀ j, j < k → ¬ txL (partAt ps j).bs = txL p.bs) → twice ps k = false) := by
          show _ → _
          intro h
          exact twice_no ps k (fun j hj => by rw [hpe]; exact h j hj)
        clear hAt hF hS h0 hpe
        go_wp2_with fail
        go_loopw [4] (fun i wq => ∃ m : Nat, m ≤ k ∧ i = .int .i64 m ∧ (∀ j, j < m → ¬ txL (partAt ps j).bs = txL p.bs) ∧ Below w.heap.size w wq) (fun i _ => k - (intOf i).toNat)
        case atStart => exact ⟨0, Nat.zero_le _, rfl, (fun j hj => by omega), hb⟩
        case round =>
          clear Hc hx ck hb hpw
          obtain ⟨m, hm, rfl, hno, hb⟩ := hrel
          have hpw := hp.below hb
          by_cases hmk : m < k
          · have hmp : m < ps.length := by omega
            have hc : ∀ j (h : j < ps.length), wr.cell? ⟨sb, so + j, none⟩ = some (.slice (ps[j]).sa (ps[j]).bs.length (ps[j]).cap) := by
              rcases hpw.cells with h | ⟨sb', so', e, h⟩
              · rw [h] at hlt; simp at hlt
              · cases e; exact h
            have cm := hc m hmp
            have ck := hc k hlt
            have hx := hpw.each (ps[k]) (List.getElem_mem hlt)
            rw [hpk] at ck hx
            clear hc
            have hxm := hpw.each (ps[m]) (List.getElem_mem hmp)
            have hpm := partAt_get ps m hmp
            have hmkI : (m : Int) < k := by omega
            have hmpI : (m : Int) < ps.length := by omega
            have Hno : Hid (¬ txL (ps[m]).bs = txL p.bs → ∀ j, j < m + 1 → ¬ txL (partAt ps j).bs = txL p.bs) := by
              show _ → _
              intro h j hj
              rcases Nat.lt_or_ge j m with g | g
              · exact hno j g
              · obtain rfl : j = m := by omega
                rw [hpm]; exact h
            have Hyes : Hid (txL (ps[m]).bs = txL p.bs → digF ps = 7) := by
              show _ → _
              intro h
              exact e7.out (hY.out m hmk (by rw [hpm]; exact h))
            clear hno hpm
            generalize ps[m] = q at *
            go_wp2_with fail
            go_region_held2 (fun w' => w'.cell? ⟨sb, so + m, none⟩ = some (.slice q.sa q.bs.length q.cap) ∧ w'.cell? ⟨sb, so + k, none⟩ = some (.slice p.sa p.bs.length p.cap)) (go_keep) ((go_at_call 52; refine (sameBytes_any q.bs p.bs q.sa p.sa _ _ q.cap p.cap _ (by first | rfl | exact h32.symm) (by first | rfl | exact h32.symm) (hxm.below ?_) (hx.below ?_)).mono ?_; exact (Below.refl _ _).drew; exact (Below.refl _ _).drew; rintro e w1 ⟨rfl, rfl⟩))
            all_goals
              by_cases h : txL q.bs = txL p.bs
              · have hy := Hyes.out h
                rw [decide_eq_true h]
                clear Hyes Hno h
                go_wp2_with fail
                go_ret
                exact ⟨ret_int hy.symm, hb.drew⟩
              · have hn := Hno.out h
                rw [decide_eq_false h]
                clear Hyes Hno h
                go_wp2_with fail
                go_roundw
                case rel =>
                  have hR : ∃ m' : Nat, m' ≤ k ∧ (Value.int .i64 ((m : Int) + 1)) = .int .i64 m' ∧ (∀ j, j < m' → ¬ txL (partAt ps j).bs = txL p.bs) ∧ Below w.heap.size w wr.drew := ⟨m + 1, by omega, by go_num, hn, hb.drew⟩
                  first | exact hR | ((repeat apply Exists.intro); exact ⟨hR, rfl⟩)
                case measure => simp [intOf]; omega
          · obtain rfl : m = k := by omega
            have h1 := e0.out (hN.out hno)
            clear hno
            go_wp2_with fail
            go_roundw
            case rel =>
              have hR : ∃ k' : Nat, k' ≤ ps.length ∧ (Value.int .i64 ((m : Int) + 1)) = .int .i64 k' ∧ digTo1 ps k' = 0 ∧ Below w.heap.size w wr := ⟨m + 1, by omega, by go_num, h1, hb⟩
              first | exact hR | ((repeat apply Exists.intro); exact ⟨hR, rfl⟩)
            case measure => simp [intOf]; omega
      · have h32I : ¬ (p.bs.length : Int) = 32 := by omega
        have e4 : Hid (digF ps = 4) := by
          show _ = _
          have : digAt ps k = 4 := by rw [hAt.out, if_pos h32]
          rw [hF.out (by rw [this]; decide), this]
        clear hAt hF hS
        go_wp2_with fail
        go_ret
        exact ⟨ret_int e4.out.symm, hb⟩
    · obtain rfl : k = ps.length := by omega
      go_wp2_with fail
      go_ret
      exact ⟨ret_int h0.symm, hb⟩
end Go.Proofs.YtgbomdikhidkoaaDoor

namespace Go.Proofs.YtgbomdikhidkoaaDoor
open Go.RowKit

set_option maxRecDepth 100000 in
set_option maxHeartbeats 1000000 in
theorem certOf_any (ls : List Ct) (sa : Option Addr) (n cap : Nat) (au rd : Int) (w : World) (hn : n = ls.length) (hk2 : n ≤ 3000000000000000000) (hp : CertsAt w sa ls) :
    Calls Tryd.prog 31 #[.slice sa n cap, .int .i64 au, .int .i64 rd] w fun e w' => e = .returned (.int .i64 (cOf (cvs ls) au rd)) ∧ w = w' := by
  subst hn
  go_enter Tryd.func31, Tryd.ntmps31
  go_wp2_with fail
  go_loop [7] (fun i => ∃ m : Nat, m ≤ ls.length ∧ i = .int .i64 m ∧ fidx (cHit (cvs ls) au rd) m = -1) (fun i => ls.length - (intOf i).toNat)
  case atStart => exact ⟨0, Nat.zero_le _, rfl, rfl⟩
  case round =>
    obtain ⟨m, hm, rfl, hno⟩ := hrel
    by_cases hlt : m < ls.length
    · obtain ⟨sb, so, rfl, c0, c1, _, _, _⟩ := hp.at m hlt
      have hg := cHit_get ls au rd m hlt
      have hltI : (m : Int) < ls.length := by omega
      have Hf : Hid ((ls[m]).au = au ∧ (ls[m]).rd = rd → cOf (cvs ls) au rd = m) := by
        show _ → _
        intro h
        exact fidx_hit _ m _ hno (by rw [hg]; simpa using h) (by rw [cvs_length]; exact hlt)
      have Hn : Hid (¬ ((ls[m]).au = au ∧ (ls[m]).rd = rd) → fidx (cHit (cvs ls) au rd) (m + 1) = -1) := by
        show _ → _
        intro h
        exact fidx_step _ m hno (by rw [hg]; simpa using h)
      clear hno hg
      generalize ls[m] = s at *
      by_cases h : s.au = au ∧ s.rd = rd
      · obtain ⟨rfl, rfl⟩ := h
        have He : Hid (cOf (cvs ls) s.au s.rd = m) := Hf.out ⟨rfl, rfl⟩
        clear Hf Hn
        go_wp2_with fail
        all_goals
          go_ret
          exact ⟨ret_int He.out.symm, rfl⟩
      · have He : Hid (fidx (cHit (cvs ls) au rd) (m + 1) = -1) := Hn.out h
        clear Hf Hn
        go_wp2_with fail
        all_goals
          go_round
          case rel => exact ⟨m + 1, by omega, by go_num, He.out⟩
          case measure => simp [intOf]; omega
    · obtain rfl : m = ls.length := by omega
      have He : Hid (cOf (cvs ls) au rd = -1) := by
        show fidx _ _ = -1
        rw [cvs_length]; exact hno
      clear hno
      go_wp2_with fail
      go_ret
      exact ⟨ret_int He.out.symm, rfl⟩
set_option maxRecDepth 100000 in
set_option maxHeartbeats 1000000 in
theorem placeOf_any (l : List CV) (ds : List Part) (da : Option Addr) (n cap : Nat) (bs : List Int) (ka : Option Addr) (kn kc : Nat) (w : World) (hn : n = ds.length) (hS : bss ds = l.map CV.d) (hk2 : n ≤ 3000000000000000000) (hd : PartsAt w da ds) (hkn : kn = bs.length) (hk : SliceAt w ka kc bs) :
    Calls Tryd.prog 34 #[.slice da n cap, .slice ka kn kc] w fun e w' => e = .returned (.int .i64 (pOf l bs)) ∧ w = w' := by
  subst hn hkn
  have HL : Hid (ds.length = l.length) := digs_length hS
  have HS : Hid (bss ds = l.map CV.d) := hS
  clear hS
  go_enter Tryd.func34, Tryd.ntmps34
  go_wp2_with fail
  go_loop [5] (fun i => ∃ m : Nat, m ≤ ds.length ∧ i = .int .i64 m ∧ fidx (dHit l bs) m = -1) (fun i => ds.length - (intOf i).toNat)
  case atStart => exact ⟨0, Nat.zero_le _, rfl, rfl⟩
  case round =>
    obtain ⟨m, hm, rfl, hno⟩ := hrel
    by_cases hlt : m < ds.length
    · rcases hd.cells with hc | ⟨sb, so, rfl, hc⟩
      · subst hc; simp at hlt
      have ck := hc m hlt
      have hx := hd.each (ds[m]) (List.getElem_mem hlt)
      have hltI : (m : Int) < ds.length := by omega
      have hg := digs_get HS.out m hlt
      have Hf : Hid (txL (ds[m]).bs = txL bs → pOf l bs = m) := by
        show _ → _
        intro h
        exact fidx_hit _ m _ hno (by rw [dHit, hg]; simpa using h) (by rw [← HL.out]; exact hlt)
      have Hn : Hid (¬ txL (ds[m]).bs = txL bs → fidx (dHit l bs) (m + 1) = -1) := by
        show _ → _
        intro h
        exact fidx_step _ m hno (by rw [dHit, hg]; simpa using h)
      clear hno hg hc
      generalize ds[m] = p at *
      go_wp2_with fail
      refine (sameBytes_any p.bs bs p.sa ka _ _ p.cap kc w rfl rfl hx hk).mono ?_
      rintro e w1 ⟨he, rfl⟩
      subst he
      dsimp only
      by_cases h : txL p.bs = txL bs
      · have He : Hid (pOf l bs = m) := Hf.out h
        rw [decide_eq_true h]
        clear Hf Hn h
        go_wp2_with fail
        go_ret
        exact ⟨ret_int He.out.symm, rfl⟩
      · have He : Hid (fidx (dHit l bs) (m + 1) = -1) := Hn.out h
        rw [decide_eq_false h]
        clear Hf Hn h
        go_wp2_with fail
        go_round
        case rel => exact ⟨m + 1, by omega, by go_num, He.out⟩
        case measure => simp [intOf]; omega
    · obtain rfl : m = ds.length := by omega
      have He : Hid (pOf l bs = -1) := by
        show fidx _ _ = -1
        rw [← HL.out]; exact hno
      clear hno
      go_wp2_with fail
      go_ret
      exact ⟨ret_int He.out.symm, rfl⟩
end Go.Proofs.YtgbomdikhidkoaaDoor

namespace Go.Proofs.YtgbomdikhidkoaaDoor
open Go.RowKit

set_option maxRecDepth 100000 in
set_option maxHeartbeats 1000000 in
theorem parentsFault_any (ls : List Ct) (ca : Option Addr) (cn cc : Nat) (ds : List Part) (da : Option Addr) (dn dc : Nat) (au rd : Int) (ba : Option Addr) (bn bc : Nat) (pl : List Part) (pa : Option Addr) (pn pc : Nat) (w : World) (hcn : cn = ls.length) (hdn : dn = ls.length) (hpn : pn = pl.length) (hS : bss ds = (cvs ls).map CV.d) (hk2 : ls.length ≤ 3000000000000000000) (hpl : pl.length ≤ 4) (hrd : 1 ≤ rd ∧ rd ≤ 1048576) (hd : PartsAt w da ds) (hc : CertsAt w ca ls) (hp : PartsAt w pa pl) :
    Calls Tryd.prog 32 #[.slice ca cn cc, .slice da dn dc, .agg #[.int .i64 au, .int .i64 rd, .slice ba bn bc, .slice pa pn pc]] w fun e w' => e = .returned (.int .i64 (parF (cvs ls) rd (bss pl))) ∧ Below w.heap.size w w' := by
  have hA := (Below.refl w.heap.size w).alloc (Nat.le_refl _) (.cells #[.int .i64 au, .int .i64 rd, .slice ba bn bc, .slice pa pn pc] 32)
  have r0 := heap_alloc_new w (.cells #[.int .i64 au, .int .i64 rd, .slice ba bn bc, .slice pa pn pc] 32)
  subst hcn hpn
  have hdl : dn = ds.length := by rw [digs_length hS, cvs_length]; exact hdn
  have HS : Hid (bss ds = (cvs ls).map CV.d) := hS
  clear hS
  have HD : Hid (dn = ds.length) := hdl
  clear hdl
  subst hdn
  go_enter Tryd.func32, Tryd.ntmps32
  go_wp2_with fail
  generalize w.alloc (.cells #[.int .i64 au, .int .i64 rd, .slice ba bn bc, .slice pa pl.length pc] 32) = W0 at hA r0 ⊢
  have d1 : W0.cell? ⟨w.heap.size, 1, none⟩ = some (.int .i64 rd) := cells_at r0 1 _ rfl
  have d3 : W0.cell? ⟨w.heap.size, 3, none⟩ = some (.slice pa pl.length pc) := cells_at r0 3 _ rfl
  have hd0 := hd.below hA
  have hc0 := hc.below hA
  have hp0 := hp.below hA
  have hlt0 : w.heap.size < W0.heap.size := lt_of_heap r0
  clear hd hc hp
  go_loopw [8, 7] (fun i e wr => ∃ m : Nat, m ≤ pl.length ∧ i = .int .i64 m ∧ e = .int .i64 (parTo (cvs ls) rd (bss pl) m) ∧ parTo (cvs ls) rd (bss pl) m ≠ 9 ∧ Below W0.heap.size W0 wr) (fun i _ _ => pl.length - (intOf i).toNat)
  case atStart => exact ⟨0, Nat.zero_le _, rfl, rfl, by rw [parTo]; decide, Below.refl _ _⟩
  case round =>
    obtain ⟨m, hm, rfl, rfl, hno, hbr⟩ := hrel
    replace d1 := (hbr.cell (p := ⟨w.heap.size, 1, none⟩) hlt0).trans d1
    replace d3 := (hbr.cell (p := ⟨w.heap.size, 3, none⟩) hlt0).trans d3
    replace hd0 := hd0.below hbr
    replace hc0 := hc0.below hbr
    replace hp0 := hp0.below hbr
    have hAr := hA.trans (hbr.mono hA.size)
    by_cases hlt : m < pl.length
    · rcases hp0.cells with hcc | ⟨pb, po, rfl, hcc⟩
      · subst hcc; simp at hlt
      have ck := hcc m hlt
      have hx := hp0.each (pl[m]) (List.getElem_mem hlt)
      have hltI : (m : Int) < pl.length := by omega
      have hg := bss_get pl m hlt
      have hlb : m < (bss pl).length := by rw [bss_length]; exact hlt
      have Hn : Hid (pOf (cvs ls) (pl[m]).bs < 0 → parTo (cvs ls) rd (bss pl) (m + 1) = 8) := by
        show _ → _
        intro h
        exact parTo_none _ _ _ m hno (by rw [hg]; exact h)
      have Ho : Hid (¬ pOf (cvs ls) (pl[m]).bs < 0 → (cvAt (cvs ls) (pOf (cvs ls) (pl[m]).bs).toNat).rd ≠ rd - 1 → parF (cvs ls) rd (bss pl) = 9) := by
        show _ → _ → _
        intro h1 h2
        exact parTo_order _ _ _ m (by rw [hg]; exact h1) (by rw [hg]; exact h2) hlb
      have Hk : Hid (¬ pOf (cvs ls) (pl[m]).bs < 0 → (cvAt (cvs ls) (pOf (cvs ls) (pl[m]).bs).toNat).rd = rd - 1 → parTo (cvs ls) rd (bss pl) (m + 1) = parTo (cvs ls) rd (bss pl) m) := by
        show _ → _ → _
        intro h1 h2
        exact parTo_ok _ _ _ m (by rw [hg]; exact h1) (by rw [hg]; exact h2)
      have HN : Hid (parTo (cvs ls) rd (bss pl) m ≠ 9) := hno
      clear hno hg hcc hlb
      generalize pl[m] = p at *
      have hB := pOf_bounds (cvs ls) p.bs
      rw [cvs_length] at hB
      have hcl : ∀ k : Nat, k < ls.length → ∃ sb so, ca = some ⟨sb, so, none⟩ ∧ wr.cell? ⟨sb, so + k * 5 + 1, none⟩ = some (.int .i64 (cvAt (cvs ls) k).rd) := fun k hk => by
        obtain ⟨sb, so, e, _, c1, _⟩ := hc0.at k hk
        exact ⟨sb, so, e, by rw [cvAt_get ls k hk]; exact c1⟩
      have HCL : Hid _ := hcl
      clear hcl
      generalize parTo (cvs ls) rd (bss pl) m = E at *
      go_wp2_with fail
      refine (placeOf_any (cvs ls) ds da _ dc p.bs p.sa _ p.cap wr HD.out HS.out hk2 hd0 rfl hx).mono ?_
      rintro e w1 ⟨he, rfl⟩
      subst he
      dsimp only
      generalize pOf (cvs ls) p.bs = r at *
      by_cases hr : r < 0
      · have He : Hid (parTo (cvs ls) rd (bss pl) (m + 1) = 8) := Hn.out hr
        clear Hn Ho Hk HCL
        obtain rfl : r = -1 := by omega
        go_wp2_with fail
        refine wp_region_held_drew (S := fun w' => w'.cell? ⟨w.heap.size, 1, none⟩ = some (.int .i64 rd)) (by kernel_rfl) d1 (fun hHeld => ?_)
        refine take_dst (i := 0) (d := 24) (v := .int .i64 (-1)) rfl rfl (by kernel_rfl) (by kernel_rfl) (by kernel_rfl) (fun _ _ _ h => h) (Or.inl ⟨by rfl, ?_⟩) hHeld ?_
        · (intro w0 hSw; (try dsimp only at hSw); go_simp)
        simp only [Act.put, List.setIfInBounds_toArray, List.set_cons_zero, List.set_cons_succ]
        refine take_dst (i := 1) (d := 25) (v := .bool false) rfl rfl (by kernel_rfl) (by kernel_rfl) (by kernel_rfl) (fun _ _ _ h => h) (Or.inl ⟨by rfl, ?_⟩) hHeld ?_
        · (intro w0 hSw; (try dsimp only at hSw); go_simp)
        simp only [Act.put, List.setIfInBounds_toArray, List.set_cons_zero, List.set_cons_succ]
        refine take_dst (i := 2) (d := 26) (v := .bool false) rfl rfl (by kernel_rfl) (by kernel_rfl) (by kernel_rfl) (fun _ _ _ h => h) (Or.inl ⟨by rfl, ?_⟩) hHeld ?_
        · (intro w0 hSw; (try dsimp only at hSw); go_simp)
        simp only [Act.put, List.setIfInBounds_toArray, List.set_cons_zero, List.set_cons_succ]
        refine take_dst (i := 3) (d := 27) (v := undef) rfl rfl (by kernel_rfl) (by kernel_rfl) (by kernel_rfl) (fun _ _ _ h => h) (Or.inr ⟨by rfl, rfl⟩) hHeld ?_
        simp only [Act.put, List.setIfInBounds_toArray, List.set_cons_zero, List.set_cons_succ]
        refine take_dst (i := 4) (d := 28) (v := undef) rfl rfl (by kernel_rfl) (by kernel_rfl) (by kernel_rfl) (fun _ _ _ h => h) (Or.inr ⟨by rfl, rfl⟩) hHeld ?_
        simp only [Act.put, List.setIfInBounds_toArray, List.set_cons_zero, List.set_cons_succ]
        refine take_dst (i := 5) (d := 29) (v := undef) rfl rfl (by kernel_rfl) (by kernel_rfl) (by kernel_rfl) (fun _ _ _ h => h) (Or.inr ⟨by rfl, rfl⟩) hHeld ?_
        simp only [Act.put, List.setIfInBounds_toArray, List.set_cons_zero, List.set_cons_succ]
        refine take_dst (i := 6) (d := 30) (v := undef) rfl rfl (by kernel_rfl) (by kernel_rfl) (by kernel_rfl) (fun _ _ _ h => h) (Or.inr ⟨by rfl, rfl⟩) hHeld ?_
        simp only [Act.put, List.setIfInBounds_toArray, List.set_cons_zero, List.set_cons_succ]
        refine take_dst (i := 7) (d := 31) (v := undef) rfl rfl (by kernel_rfl) (by kernel_rfl) (by kernel_rfl) (fun _ _ _ h => h) (Or.inr ⟨by rfl, rfl⟩) hHeld ?_
        simp only [Act.put, List.setIfInBounds_toArray, List.set_cons_zero, List.set_cons_succ]
        refine take_dst (i := 8) (d := 32) (v := undef) rfl rfl (by kernel_rfl) (by kernel_rfl) (by kernel_rfl) (fun _ _ _ h => h) (Or.inr ⟨by rfl, rfl⟩) hHeld ?_
        simp only [Act.put, List.setIfInBounds_toArray, List.set_cons_zero, List.set_cons_succ]
        refine take_dst (i := 9) (d := 33) (v := undef) rfl rfl (by kernel_rfl) (by kernel_rfl) (by kernel_rfl) (fun _ _ _ h => h) (Or.inr ⟨by rfl, rfl⟩) hHeld ?_
        simp only [Act.put, List.setIfInBounds_toArray, List.set_cons_zero, List.set_cons_succ]
        refine take_dst (i := 10) (d := 34) (v := undef) rfl rfl (by kernel_rfl) (by kernel_rfl) (by kernel_rfl) (fun _ _ _ h => h) (Or.inr ⟨by rfl, rfl⟩) hHeld ?_
        simp only [Act.put, List.setIfInBounds_toArray, List.set_cons_zero, List.set_cons_succ]
        refine take_dst (i := 11) (d := 35) (v := undef) rfl rfl (by kernel_rfl) (by kernel_rfl) (by kernel_rfl) (fun _ _ _ h => h) (Or.inr ⟨by rfl, rfl⟩) hHeld ?_
        simp only [Act.put, List.setIfInBounds_toArray, List.set_cons_zero, List.set_cons_succ]
        refine take_dst (i := 12) (d := 36) (v := undef) rfl rfl (by kernel_rfl) (by kernel_rfl) (by kernel_rfl) (fun _ _ _ h => h) (Or.inr ⟨by rfl, rfl⟩) hHeld ?_
        simp only [Act.put, List.setIfInBounds_toArray, List.set_cons_zero, List.set_cons_succ]
        refine take_dst (i := 13) (d := 37) (v := .bool false) rfl rfl (by kernel_rfl) (by kernel_rfl) (by kernel_rfl) (fun _ _ _ h => h) (Or.inl ⟨by rfl, ?_⟩) hHeld ?_
        · (intro w0 hSw; (try dsimp only at hSw); go_simp)
        simp only [Act.put, List.setIfInBounds_toArray, List.set_cons_zero, List.set_cons_succ]
        refine wpAnyH_done (by kernel_rfl) ?_ _
        go_wp2_with fail
        go_roundw
        case rel =>
          have hR : ∃ m' : Nat, m' ≤ pl.length ∧ (Value.int .i64 ((m : Int) + 1)) = .int .i64 m' ∧ (Value.int .i64 8) = .int .i64 (parTo (cvs ls) rd (bss pl) m') ∧ parTo (cvs ls) rd (bss pl) m' ≠ 9 ∧ Below W0.heap.size W0 wr.drew := ⟨m + 1, by omega, by go_num, by rw [He.out], by rw [He.out]; decide, hbr.drew⟩
          first | exact hR | ((repeat apply Exists.intro); exact ⟨hR, rfl⟩)
        case measure => simp [intOf]; omega
      · obtain ⟨k, rfl⟩ : ∃ k : Nat, r = k := ⟨r.toNat, by omega⟩
        obtain ⟨sb, so, rfl, c1⟩ := HCL.out k (by omega)
        simp only [Int.toNat_natCast] at Ho Hk
        clear Hn HCL
        generalize (cvAt (cvs ls) k).rd = y at *
        have hwr : IntKind.i64.wrap (rd - 1) = rd - 1 := by rw [IntKind.wrap_i64]; omega
        by_cases hy : y = rd - 1
        · have He : Hid (parTo (cvs ls) rd (bss pl) (m + 1) = E) := Hk.out (by omega) hy
          subst hy
          clear Hk Ho
          have hwe : (rd - 1 != IntKind.i64.wrap (rd - 1)) = false := by rw [hwr]; simp
          go_wp2_with fail
          go_region_held3 (fun w' => w'.cell? ⟨w.heap.size, 1, none⟩ = some (.int .i64 rd) ∧ w'.cell? ⟨sb, so + k * 5 + 1, none⟩ = some (.int .i64 (rd - 1))) (go_keep) (fail)
          all_goals
            go_wp2_with fail
            go_roundw
            case rel =>
              have hR : ∃ m' : Nat, m' ≤ pl.length ∧ (Value.int .i64 ((m : Int) + 1)) = .int .i64 m' ∧ (Value.int .i64 E) = .int .i64 (parTo (cvs ls) rd (bss pl) m') ∧ parTo (cvs ls) rd (bss pl) m' ≠ 9 ∧ Below W0.heap.size W0 wr.drew := ⟨m + 1, by omega, by go_num, by rw [He.out], by rw [He.out]; exact HN.out, hbr.drew⟩
              first | exact hR | ((repeat apply Exists.intro); exact ⟨hR, rfl⟩)
            case measure => simp [intOf]; omega
        · have He : Hid (parF (cvs ls) rd (bss pl) = 9) := Ho.out (by omega) hy
          clear Hk Ho
          have hwe : (y != IntKind.i64.wrap (rd - 1)) = true := by rw [hwr]; simpa using hy
          go_wp2_with fail
          go_region_held3 (fun w' => w'.cell? ⟨w.heap.size, 1, none⟩ = some (.int .i64 rd) ∧ w'.cell? ⟨sb, so + k * 5 + 1, none⟩ = some (.int .i64 y)) (go_keep) (fail)
          all_goals
            go_wp2_with fail
            go_ret
            exact ⟨ret_int He.out.symm, hAr.drew⟩
    · obtain rfl : m = pl.length := by omega
      have He : Hid (parF (cvs ls) rd (bss pl) = parTo (cvs ls) rd (bss pl) pl.length) := by
        show parTo _ _ _ _ = _
        rw [bss_length]
      clear hno
      generalize parTo (cvs ls) rd (bss pl) pl.length = E at *
      go_wp2_with fail
      go_ret
      exact ⟨ret_int He.out.symm, hAr⟩
end Go.Proofs.YtgbomdikhidkoaaDoor

namespace Go.Proofs.YtgbomdikhidkoaaDoor
open Go.ChangeShapes Go.WideShapes Go.ChangeAt Go.RowKit

set_option maxRecDepth 100000 in
theorem cU8 : Tryd.prog.cellsOf 5 = 1 := by kernel_rfl
set_option maxRecDepth 100000 in
theorem own : ownKnob Tryd.prog.godebug = none := by kernel_rfl
set_option maxRecDepth 100000 in
theorem laidOut : laidOutB Tryd.prog = true := by kernel_rfl
/-- Each is a byte. -/
def AllU8 (bs : List Int) : Prop := ∀ x ∈ bs, 0 ≤ x ∧ x ≤ 255
set_option maxRecDepth 100000 in
theorem open_bytes_cells {H : Type} {enc : TypeId × Value → H} {W : World} {fuel : Nat} {cs : List Value} {x : DataW H × List MemPlace}
    (hf : DataW.trod enc Tryd.prog W 0 (fun _ => true) true fuel 29 cs = some x) :
    ∃ sa cap bs, cs = [.slice sa (List.length bs) cap] ∧ SliceAt W sa cap bs ∧ AllU8 bs := by
  rcases open_ints Tryd.underlying29 Tryd.underlying5 cU8 hf with ⟨rfl, _⟩ | ⟨x, len0, cap0, zs, rfl, _, hl, hm, hz, _, hcell, hwz⟩
  · exact ⟨none, 0, [], rfl, ⟨Nat.le_refl _, by decide, .inl rfl, fun _ => rfl, .inl rfl⟩, fun x hx => by cases hx⟩
  · simp only [if_true] at hz
    have hlen : (zs.take len0).length = len0 := by rw [List.length_take, hz]; omega
    refine ⟨some x, cap0, zs.take len0, by rw [hlen], ?_, fun y hy => bounds_u8 (hwz y (List.mem_of_mem_take hy))⟩
    rcases Nat.eq_zero_or_pos cap0 with h0 | h0
    · subst h0
      obtain rfl : len0 = 0 := by omega
      exact ⟨by simp, hm, .inl rfl, fun _ => rfl, .inl (by simp)⟩
    · obtain ⟨b, off, rfl, hc⟩ := ints_at hcell (by omega)
      refine ⟨by omega, hm, .inr ⟨b, off, rfl⟩, (fun e => by cases e), .inr ⟨b, off, rfl, fun j hj => ?_⟩⟩
      rw [hc j (by omega)]
      have : j < len0 := by omega
      simp [List.getD, this]
set_option maxRecDepth 100000 in
theorem open_bytes {H : Type} {enc : TypeId × Value → H} {W : World} {base : Nat} {v : Value} {d : DataW H} {p : List MemPlace}
    (hv : Value.okWide Tryd.prog W .any base 29 v) (h : DataW.Trod enc Tryd.prog W 0 (fun _ => true) true 29 v d p) :
    ∃ sa cap bs, v = .slice sa (List.length bs) cap ∧ SliceAt W sa cap bs ∧ AllU8 bs := by
  obtain ⟨a0, len0, cap0, rfl⟩ := okWide_slice Tryd.underlying29 hv
  obtain ⟨fuel, hf⟩ := h
  obtain ⟨sa, cap, bs, hcs, h1, h2⟩ := open_bytes_cells hf
  simp [Value.cells] at hcs
  obtain ⟨rfl, rfl, rfl⟩ := hcs
  exact ⟨_, _, bs, rfl, h1, h2⟩
set_option maxRecDepth 100000 in
theorem bU8 : Tryd.prog.bytesOf 5 = 1 := by kernel_rfl
set_option maxRecDepth 100000 in
/-- The form's own reach, of one argument. -/
theorem fit_each {H : Type} {ts : List TypeId} {ds : List (DataW H)} (h : (DataW.weightsEach Tryd.prog ts ds).all (· ≤ reachBytes) = true) {j : Nat} {t : TypeId} {d : DataW H} (ht : ts[j]? = some t) (hd : ds[j]? = some d) : ∀ n ∈ d.weights Tryd.prog t, n ≤ reachBytes := fun n hn => by
  simpa using List.all_eq_true.1 h n (DataW.weights_mem_each ht hd n hn)
set_option maxRecDepth 100000 in
/-- A slice of bytes has room for so many. -/
theorem bytes_fit {H : Type} {enc : TypeId × Value → H} {W : World} {fuel : Nat} {cs : List Value} {x : DataW H × List MemPlace} {sa : Option Addr} {n cap : Nat}
    (hf : DataW.trod enc Tryd.prog W 0 (fun _ => true) true fuel 29 cs = some x) (hfit : ∀ n ∈ x.1.weights Tryd.prog 29, n ≤ reachBytes) (e : cs = [.slice sa n cap]) : cap ≤ 140737488351232 := by
  rcases open_ints Tryd.underlying29 Tryd.underlying5 cU8 hf with ⟨rfl, _⟩ | ⟨a, len, cap', zs, rfl, _, hl, hm, hz, rfl, _, _⟩
  · simp at e
    omega
  · simp at e
    obtain ⟨_, rfl, rfl⟩ := e
    have := hfit (((zs.take len).length + (zs.drop len).length) * Tryd.prog.bytesOf 5) (by simp [DataW.weights, Tryd.underlying29, lits])
    rw [bU8] at this
    simp only [if_true] at hz
    simp [reachBytes] at this
    omega
end Go.Proofs.YtgbomdikhidkoaaDoor
