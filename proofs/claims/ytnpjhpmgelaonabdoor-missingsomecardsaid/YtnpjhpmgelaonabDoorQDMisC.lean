/- dag.Missing, for every dag and header. -/
import Derived.Test.YtnpjhpmgelaonabDoorGLateF
import Derived.Test.YtnpjhpmgelaonabDoorGK
namespace Go.Proofs.YtnpjhpmgelaonabDoor
open Go.RowKit

set_option maxRecDepth 100000 in
theorem ret_errM {x y : Int} (h : x = y) : Ending.returned (.tuple #[.slice none 0 0, .int .i64 x]) = .returned (.tuple #[.slice none 0 0, .int .i64 y]) := by rw [h]
set_option maxRecDepth 100000 in
theorem ret_lenM {a : Option Addr} {n m c : Nat} (h : n = m) : Ending.returned (.tuple #[.slice a n c, .int .i64 0]) = .returned (.tuple #[.slice a m c, .int .i64 0]) := by rw [h]
/-- P5.3: what is told. -/
def missE (l : List CV) (au rd : Int) (bl pl : List Part) : Int := if dagF l ≠ 0 then dagF l else if headerF au rd bl pl ≠ 0 then headerF au rd bl pl else if parF l rd (bss pl) = 9 then 9 else 0
/-- What Missing answers. -/
def MgAt (w' : World) (e : Ending) (l : List CV) (au rd : Int) (bl pl : List Part) : Prop :=
  (missE l au rd bl pl ≠ 0 ∧ e = .returned (.tuple #[.slice none 0 0, .int .i64 (missE l au rd bl pl)])) ∨ (missE l au rd bl pl = 0 ∧ ∃ ma mc ms, e = .returned (.tuple #[.slice ma (List.length ms) mc, .int .i64 0]) ∧ bss ms = misF l (bss pl) ∧ ListAt w' ma mc ms)
set_option maxRecDepth 100000 in
theorem missE_same {l : List CV} {au rd : Int} {xl bl yl pl : List Part} (h1 : Same xl bl) (h2 : Same yl pl) : missE l au rd xl yl = missE l au rd bl pl := by
  rw [missE, missE, headerF_sameH h1 h2, bss_same h2]
set_option maxRecDepth 100000 in
set_option maxHeartbeats 1000000 in
theorem dagMissing_any (ls : List Ct) (sa : Option Addr) (n cap : Nat) (au rd : Int) (ba : Option Addr) (bn bc : Nat) (bl : List Part) (pa : Option Addr) (pn pc : Nat) (pl : List Part) (w : World) (hn : n = ls.length) (hbn : bn = bl.length) (hpn : pn = pl.length) (hd : DagAt w sa cap ls) (hb : ListAt w ba bc bl) (hp : ListAt w pa pc pl) (hT : Tabs w) :
    Calls Tryd.prog 14 #[.agg #[.slice sa n cap], .agg #[.int .i64 au, .int .i64 rd, .slice ba bn bc, .slice pa pn pc]] w fun e w' => MgAt w' e (cvs ls) au rd bl pl ∧ Below w.heap.size w w' := by
  subst hn hbn hpn
  have hA : Below w.heap.size w ((w.alloc (.cells #[.slice sa ls.length cap] 25)).alloc (.cells #[.int .i64 au, .int .i64 rd, .slice ba bl.length bc, .slice pa pl.length pc] 41)) := ((Below.refl _ _).alloc (Nat.le_refl _) _).alloc (by rw [size_alloc]; omega) _
  have q1 : ((w.alloc (.cells #[.slice sa ls.length cap] 25)).alloc (.cells #[.int .i64 au, .int .i64 rd, .slice ba bl.length bc, .slice pa pl.length pc] 41)).heap[w.heap.size + 1]? = some (.cells #[.int .i64 au, .int .i64 rd, .slice ba bl.length bc, .slice pa pl.length pc] 41 (0, 0)) := by
    have := heap_alloc_new (w.alloc (.cells #[.slice sa ls.length cap] 25)) (.cells #[.int .i64 au, .int .i64 rd, .slice ba bl.length bc, .slice pa pl.length pc] 41)
    rw [size_alloc] at this; exact this
  go_enter Tryd.func14, Tryd.ntmps14
  have q0 := cells_at (heap_alloc2_old w (.cells #[.slice sa ls.length cap] 25) (.cells #[.int .i64 au, .int .i64 rd, .slice ba bl.length bc, .slice pa pl.length pc] 41)) 0 _ rfl
  go_wp2_with fail
  generalize (w.alloc (.cells #[.slice sa ls.length cap] 25)).alloc (.cells #[.int .i64 au, .int .i64 rd, .slice ba bl.length bc, .slice pa pl.length pc] 41) = W0 at hA q1 q0 ⊢
  clear q0
  refine (open_any ls sa _ cap W0 rfl (hd.below hA) (hT.below hA)).mono ?_
  intro e w1 hO
  have hb1 := hO.below
  have hOo := hO.out
  clear hO
  have hB1 := hA.trans (hb1.mono hA.size)
  have r1 := (hb1.block _ (lt_of_heap q1)).trans q1
  rcases hOo with ⟨hF, he⟩ | ⟨hF, s, ks, he, hcv, hown⟩
  · have HM : Hid (missE (cvs ls) au rd bl pl = 12) := by
      show _ = _
      rw [missE, hF]; rfl
    clear hF
    subst he
    dsimp only
    go_wp2_with fail
    go_ret2
    exact ⟨.inl ⟨by rw [HM.out]; decide, ret_errM HM.out.symm⟩, hB1⟩
  · have HM : Hid (missE (cvs ls) au rd bl pl = if headerF au rd bl pl ≠ 0 then headerF au rd bl pl else if parF (cvs ls) rd (bss pl) = 9 then 9 else 0) := by
      show _ = _
      rw [missE, hF]; rfl
    have HCV : Hid _ := hcv
    clear hF hcv
    subst he
    dsimp only
    have e0 := cells_at r1 0 _ rfl
    have e1 := cells_at r1 1 _ rfl
    have e2 := cells_at r1 2 _ rfl
    have e3 := cells_at r1 3 _ rfl
    go_wp2_with fail
    refine (checkHeader_any au rd ba bc bl pa pc pl w1 (hb.below hB1) (hp.below hB1)).mono ?_
    rintro e w2 ⟨he, hb2⟩
    subst he
    dsimp only
    clear e0 e1 e2 e3
    have hB2 := hB1.trans (hb2.mono hB1.size)
    have r2 := (hb2.block _ (lt_of_heap r1)).trans r1
    have hown2 := hown.below hb2
    by_cases hx : headerF au rd bl pl = 0
    · obtain ⟨y1, y2, y3, y4, y5, y6⟩ := headerF_ok hx
      have HM2 : Hid (missE (cvs ls) au rd bl pl = if parF (cvs ls) rd (bss pl) = 9 then 9 else 0) := by
        show _ = _
        rw [HM.out, if_neg (fun h => h hx)]
      rw [hx]
      obtain ⟨vc, vd, ds, hk, hsame, hsm⟩ := hown2.out
      obtain ⟨ca, cc, da, dc, z1, z2, hat⟩ := hk.at hsame hsm
      subst z1 z2
      have HMS := missing_any ks s ca cc da dc ds au rd ba bl.length bc pl pa pc w2 hat y4 y2 (hp.below hB2).parts (fun p hp => by rw [y6 p hp]; decide)
      clear hx HM y1 y2 y3 y4 y5 y6 hsame hk hown hown2
      have e0 := cells_at r2 0 _ rfl
      have e1 := cells_at r2 1 _ rfl
      have e2 := cells_at r2 2 _ rfl
      have e3 := cells_at r2 3 _ rfl
      go_wp2_with fail
      refine HMS.mono ?_
      rintro e w3 ⟨hM, hb3⟩
      have hB3 := hB2.trans (hb3.mono hB2.size)
      unfold MisAt at hM
      rw [HCV.out] at hM
      clear HMS
      rcases hM with ⟨h9, he⟩ | ⟨h9, ma, mc, ms, he, hS, hL, -⟩
      · have HT : Hid (missE (cvs ls) au rd bl pl = 9) := by
          show _ = _
          rw [HM2.out, if_pos h9]
        clear h9 HM2
        subst he
        dsimp only
        go_wp2_with fail
        go_ret2
        exact ⟨.inl ⟨by rw [HT.out]; decide, ret_errM HT.out.symm⟩, hB3⟩
      · have HT : Hid (missE (cvs ls) au rd bl pl = 0) := by
          show _ = _
          rw [HM2.out, if_neg h9]
        have HS : Hid _ := hS
        clear h9 HM2 hS
        subst he
        dsimp only
        go_wp2_with fail
        go_ret2
        exact ⟨.inr ⟨HT.out, ma, mc, ms, rfl, HS.out, hL⟩, hB3⟩
    · have HT : Hid (missE (cvs ls) au rd bl pl = headerF au rd bl pl) := by
        show _ = _
        rw [HM.out, if_pos hx]
      have HX : Hid _ := hx
      have hxn : (headerF au rd bl pl != 0) = true := by simpa using hx
      clear HM
      generalize headerF au rd bl pl = x at *
      go_wp2_with fail
      go_ret2
      exact ⟨.inl ⟨by rw [HT.out]; exact HX.out, ret_errM HT.out.symm⟩, hB2⟩
end Go.Proofs.YtnpjhpmgelaonabDoor
