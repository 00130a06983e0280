/- The certificates of InsertLate: what is told of them. -/
import Derived.Test.YtbmodfegcmaieaaDoorGStk6
namespace Go.Proofs.YtbmodfegcmaieaaDoor
open Go.RowKit

set_option maxRecDepth 100000 in
theorem digs32 {ds : List Part} {l : List CV} (h : bss ds = l.map CV.d) : ∀ p ∈ ds, p.bs.length ≤ 140737488355328 := by
  intro p hp
  have h1 : p.bs ∈ l.map CV.d := by rw [← h]; exact List.mem_map.2 ⟨p, hp, rfl⟩
  obtain ⟨c, _, hc⟩ := List.mem_map.1 h1
  rw [← hc, c.d_length]
  decide
/-- What Digests answers. -/
def DigAt (w' : World) (e : Ending) (l : List CV) (rd : Int) : Prop :=
  (dagF l = 12 ∧ e = .returned (.tuple #[.slice none 0 0, .int .i64 12])) ∨ (dagF l = 0 ∧ ∃ ma mc ms, e = .returned (.tuple #[.slice ma (List.length ms) mc, .int .i64 0]) ∧ bss ms = dgF l rd ∧ ListAt w' ma mc ms)
/-- The same, as memory of its own. -/
structure DigO (w w' : World) (e : Ending) (l : List CV) (rd : Int) : Prop where
  below : Below w.heap.size w w'
  out : (dagF l = 12 ∧ e = .returned (.tuple #[.slice none 0 0, .int .i64 12])) ∨ (dagF l = 0 ∧ ∃ ma mc ms, e = .returned (.tuple #[.slice ma (List.length ms) mc, .int .i64 0]) ∧ bss ms = dgF l rd ∧ ListAt w' ma mc ms ∧ Fresh w.heap.size ma ms)
set_option maxRecDepth 100000 in
set_option maxHeartbeats 1000000 in
theorem dagDigests_own (ls : List Ct) (sa : Option Addr) (n cap : Nat) (rd : Int) (w : World) (hn : n = ls.length) (hd : DagAt w sa cap ls) (hT : Tabs w) :
    Calls Tryd.prog 44 #[.agg #[.slice sa n cap], .int .i64 rd] w fun e w' => DigO w w' e (cvs ls) rd := by
  subst hn
  have hA := (Below.refl w.heap.size w).alloc (Nat.le_refl _) (.cells #[.slice sa ls.length cap] 51)
  go_enter Tryd.func44, Tryd.ntmps44
  go_wp2_with fail
  generalize w.alloc (.cells #[.slice sa ls.length cap] 51) = W0 at hA ⊢
  refine (open_any ls sa _ cap W0 rfl (hd.below hA) (hT.below hA)).mono ?_
  intro e w1 hO
  have hb1 := hO.below
  have hOo := hO.out
  clear hO
  have hB1 := hA.trans (hb1.mono hA.size)
  rcases hOo with ⟨hF, he⟩ | ⟨hF, s, ks, he, hcv, hown⟩
  · have HF : Hid _ := hF
    clear hF
    subst he
    dsimp only
    go_wp2_with fail
    go_ret2
    exact ⟨hB1, .inl ⟨HF.out, rfl⟩⟩
  · have HF : Hid _ := hF
    have HCV : Hid _ := hcv
    clear hF hcv
    subst he
    dsimp only
    obtain ⟨vc, vd, ds, hk, hsame, hsm⟩ := hown.out
    obtain ⟨ca, cc, da, dc, e1, e2, hat⟩ := hk.at hsame hsm
    subst e1 e2
    have hre : ∀ p ∈ ds, p.bs.length ≤ 140737488355328 := digs32 hsame
    have HDG := digests_stk ks s ca cc da dc ds rd w1 hat hre
    clear hre hsame hown hk
    go_wp2_with fail
    refine HDG.mono ?_
    rintro e w2 ⟨ma, mc, ms, he, hM, hL, hfr, hb2⟩
    have HM : Hid _ := hM
    clear hM
    subst he
    dsimp only
    have hB2 := hB1.trans (hb2.mono hB1.size)
    go_wp2_with fail
    go_ret2
    exact ⟨hB2, .inr ⟨HF.out, ma, mc, ms, rfl, by rw [HM.out, HCV.out], hL, ⟨fun sb so e => Nat.le_trans hB1.size (hfr.row sb so e), fun p hp sb so e => Nat.le_trans hB1.size (hfr.each p hp sb so e)⟩⟩⟩
set_option maxRecDepth 100000 in
theorem dagDigests_any (ls : List Ct) (sa : Option Addr) (n cap : Nat) (rd : Int) (w : World) (hn : n = ls.length) (hd : DagAt w sa cap ls) (hT : Tabs w) :
    Calls Tryd.prog 44 #[.agg #[.slice sa n cap], .int .i64 rd] w fun e w' => DigAt w' e (cvs ls) rd ∧ Below w.heap.size w w' :=
  (dagDigests_own ls sa n cap rd w hn hd hT).mono (fun _ _ h => ⟨by
    rcases h.out with h1 | ⟨h1, ma, mc, ms, h2, h3, h4, _⟩
    · exact .inl h1
    · exact .inr ⟨h1, ma, mc, ms, h2, h3, h4⟩, h.below⟩)
/-- What Round answers. -/
def RndAt (e : Ending) (l : List CV) : Prop :=
  (dagF l = 12 ∧ e = .returned (.tuple #[.int .i64 0, .int .i64 12])) ∨ (dagF l = 0 ∧ ∃ r : Int, e = .returned (.tuple #[.int .i64 r, .int .i64 0]) ∧ NextR l r)
set_option maxRecDepth 100000 in
set_option maxHeartbeats 1000000 in
theorem dagRound_any (ls : List Ct) (sa : Option Addr) (n cap : Nat) (w : World) (hn : n = ls.length) (hd : DagAt w sa cap ls) (hT : Tabs w) :
    Calls Tryd.prog 71 #[.agg #[.slice sa n cap]] w fun e w' => RndAt e (cvs ls) ∧ Below w.heap.size w w' := by
  subst hn
  have hA := (Below.refl w.heap.size w).alloc (Nat.le_refl _) (.cells #[.slice sa ls.length cap] 51)
  go_enter Tryd.func71, Tryd.ntmps71
  go_wp2_with fail
  generalize w.alloc (.cells #[.slice sa ls.length cap] 51) = W0 at hA ⊢
  refine (open_any ls sa _ cap W0 rfl (hd.below hA) (hT.below hA)).mono ?_
  intro e w1 hO
  have hb1 := hO.below
  have hOo := hO.out
  clear hO
  have hB1 := hA.trans (hb1.mono hA.size)
  rcases hOo with ⟨hF, he⟩ | ⟨hF, s, ks, he, hcv, hown⟩
  · have HF : Hid _ := hF
    clear hF
    subst he
    dsimp only
    go_wp2_with fail
    go_ret2
    exact ⟨.inl ⟨HF.out, rfl⟩, hB1⟩
  · have HF : Hid _ := hF
    have HCV : Hid _ := hcv
    clear hF hcv
    subst he
    dsimp only
    obtain ⟨vc, vd, ds, hk, hsame, hsm⟩ := hown.out
    obtain ⟨ca, cc, da, dc, e1, e2, hat⟩ := hk.at hsame hsm
    subst e1 e2
    have HDG := round_stk ks s ca cc da dc ds w1 hat (by rw [HCV.out]; exact HF.out)
    clear hsame hown hk
    go_wp2_with fail
    refine HDG.mono ?_
    rintro e w2 ⟨r, he, hN, hb2⟩
    have HN : Hid _ := hN
    clear hN
    subst he
    dsimp only
    have hB2 := hB1.trans (hb2.mono hB1.size)
    go_wp2_with fail
    go_ret2
    exact ⟨.inr ⟨HF.out, r, rfl, by rw [← HCV.out]; exact HN.out⟩, hB2⟩
end Go.Proofs.YtbmodfegcmaieaaDoor

namespace Go.Proofs.YtbmodfegcmaieaaDoor
open Go.RowKit

/-- What Insert answers. -/
def InAt (B : Nat) (w' : World) (e : Ending) (l : List CV) (c : CV) : Prop :=
  (insE l c ≠ 0 ∧ e = .returned (.tuple #[.agg #[.slice none 0 0], .int .i64 (insE l c)])) ∨ (insE l c = 0 ∧ ∃ ra rc ks, e = .returned (.tuple #[.agg #[.slice ra (List.length ks) rc], .int .i64 0]) ∧ cvs ks = l ++ [c] ∧ DagAt w' ra rc ks ∧ (∀ sb so, ra = some ⟨sb, so, none⟩ → B ≤ sb) ∧ ∀ k ∈ ks, ∀ q, CtIn k q → B ≤ q)
set_option maxRecDepth 100000 in
theorem InAt.err {B : Nat} {w' : World} {l : List CV} {c : CV} {x : Int} (h : insE l c = x) (hx : x ≠ 0) : InAt B w' (.returned (.tuple #[.agg #[.slice none 0 0], .int .i64 x])) l c := .inl ⟨by rw [h]; exact hx, by rw [h]⟩
set_option maxRecDepth 100000 in
theorem certs_stk (s n cc : Nat) (ca : Option Addr) (vd : Value) (w : World) (hb : w.heap[s]? = some (.cells #[.slice ca n cc, vd] 115 (0, 0))) :
    Calls Tryd.prog 95 #[.pointer (some ⟨s, 0, none⟩)] w fun e w' => e = .returned (.slice ca n cc) ∧ w = w' := by
  have c0 := cells_at hb 0 _ rfl
  go_enter Tryd.func95, Tryd.ntmps95
  go_wp2_with fail
  go_ret
  exact ⟨rfl, rfl⟩
set_option maxRecDepth 100000 in
set_option maxHeartbeats 2000000 in
theorem dagInsert_any (ls : List Ct) (sa : Option Addr) (n cap : Nat) (c : Ct) (w : World) (hn : n = ls.length) (hd : DagAt w sa cap ls) (hc : CtAt w c) (hT : Tabs w) :
    Calls Tryd.prog 72 #[.agg #[.slice sa n cap], .agg #[.int .i64 c.au, .int .i64 c.rd, .slice c.ba c.bl.length c.bc, .slice c.pa c.pl.length c.pc, .slice c.va c.vl.length c.vc]] w fun e w' => InAt w.heap.size w' e (cvs ls) c.v ∧ Below w.heap.size w w' := by
  subst hn
  have hA : Below w.heap.size w (((w.alloc (.cells #[.slice sa ls.length cap] 51)).alloc (.cells #[.int .i64 c.au, .int .i64 c.rd, .slice c.ba c.bl.length c.bc, .slice c.pa c.pl.length c.pc, .slice c.va c.vl.length c.vc] 63)).alloc (.cells #[.slice none 0 0] 51)) := (((Below.refl _ _).alloc (Nat.le_refl _) _).alloc (by rw [size_alloc]; omega) _).alloc (by rw [size_alloc, size_alloc]; omega) _
  have q0 : (((w.alloc (.cells #[.slice sa ls.length cap] 51)).alloc (.cells #[.int .i64 c.au, .int .i64 c.rd, .slice c.ba c.bl.length c.bc, .slice c.pa c.pl.length c.pc, .slice c.va c.vl.length c.vc] 63)).alloc (.cells #[.slice none 0 0] 51)).heap[w.heap.size]? = some (.cells #[.slice sa ls.length cap] 51 (0, 0)) := heap_keep (heap_keep (heap_alloc_new w _))
  have q1 : (((w.alloc (.cells #[.slice sa ls.length cap] 51)).alloc (.cells #[.int .i64 c.au, .int .i64 c.rd, .slice c.ba c.bl.length c.bc, .slice c.pa c.pl.length c.pc, .slice c.va c.vl.length c.vc] 63)).alloc (.cells #[.slice none 0 0] 51)).heap[w.heap.size + 1]? = some (.cells #[.int .i64 c.au, .int .i64 c.rd, .slice c.ba c.bl.length c.bc, .slice c.pa c.pl.length c.pc, .slice c.va c.vl.length c.vc] 63 (0, 0)) := heap_keep (by have := heap_alloc_new (w.alloc (.cells #[.slice sa ls.length cap] 51)) (.cells #[.int .i64 c.au, .int .i64 c.rd, .slice c.ba c.bl.length c.bc, .slice c.pa c.pl.length c.pc, .slice c.va c.vl.length c.vc] 63); rw [size_alloc] at this; exact this)
  have q2 : (((w.alloc (.cells #[.slice sa ls.length cap] 51)).alloc (.cells #[.int .i64 c.au, .int .i64 c.rd, .slice c.ba c.bl.length c.bc, .slice c.pa c.pl.length c.pc, .slice c.va c.vl.length c.vc] 63)).alloc (.cells #[.slice none 0 0] 51)).heap[w.heap.size + 1 + 1]? = some (.cells #[.slice none 0 0] 51 (0, 0)) := by
    have := heap_alloc_new ((w.alloc (.cells #[.slice sa ls.length cap] 51)).alloc (.cells #[.int .i64 c.au, .int .i64 c.rd, .slice c.ba c.bl.length c.bc, .slice c.pa c.pl.length c.pc, .slice c.va c.vl.length c.vc] 63)) (.cells #[.slice none 0 0] 51)
    rw [size_alloc, size_alloc] at this; exact this
  have hsz : (((w.alloc (.cells #[.slice sa ls.length cap] 51)).alloc (.cells #[.int .i64 c.au, .int .i64 c.rd, .slice c.ba c.bl.length c.bc, .slice c.pa c.pl.length c.pc, .slice c.va c.vl.length c.vc] 63)).alloc (.cells #[.slice none 0 0] 51)).heap.size = w.heap.size + 3 := by simp
  go_enter Tryd.func72, Tryd.ntmps72
  go_wp2_with fail
  generalize ((w.alloc (.cells #[.slice sa ls.length cap] 51)).alloc (.cells #[.int .i64 c.au, .int .i64 c.rd, .slice c.ba c.bl.length c.bc, .slice c.pa c.pl.length c.pc, .slice c.va c.vl.length c.vc] 63)).alloc (.cells #[.slice none 0 0] 51) = W0 at hA q0 q1 q2 hsz ⊢
  generalize hO : w.heap.size + 1 + 1 = O at q2 ⊢
  have HOg : w.heap.size ≤ O := by omega
  have HOn : w.heap.size + 1 < O := by omega
  have hOW : O < W0.heap.size := lt_of_heap q2
  clear hO hsz
  refine (open_any ls sa _ cap W0 rfl (hd.below hA) (hT.below hA)).mono ?_
  intro e w1 hO
  have hb1 := hO.below
  have hOo := hO.out
  clear hO
  have hB1 := hA.trans (hb1.mono hA.size)
  have r1 := (hb1.block _ (lt_of_heap q1)).trans q1
  have r2 := (hb1.block _ (lt_of_heap q2)).trans q2
  rcases hOo with ⟨hF, he⟩ | ⟨hF, s, ks, he, hcv, hown⟩
  · have HM : Hid (insE (cvs ls) c.v = 12) := by
      show _ = _
      rw [insE, hF]; rfl
    clear hF
    subst he
    dsimp only
    have d0 := cells_at r2 0 _ rfl
    have f0 := frozen_at r2 0
    go_wp2_with fail
    refine bodyPost_ret (v := .tuple #[.agg #[.slice none 0 0], .int .i64 12]) (by simp [results, Tryd.results72, go_sem, d0]) rfl ⟨InAt.err HM.out (by decide), hB1.setCell HOg _⟩
  · have HM : Hid (insE (cvs ls) c.v = stkE (cvs ls) c.v) := insE_stk _ hF
    have HCV : Hid _ := hcv
    clear hF hcv
    subst he
    dsimp only
    have e0 := cells_at r1 0 _ rfl
    have e1 := cells_at r1 1 _ rfl
    have e2 := cells_at r1 2 _ rfl
    have e3 := cells_at r1 3 _ rfl
    have e4 := cells_at r1 4 _ rfl
    have HIN := insert_stk ks W0.heap.size s c w1 hown hb1.size (hc.below hB1) (hT.below hB1)
    go_wp2_with fail
    refine HIN.mono ?_
    intro e w2 h2
    have he := h2.told
    have hb2 := h2.below
    have ho2 := h2.own
    rw [HCV.out, ← HM.out] at he ho2
    clear h2 HIN e0 e1 e2 e3 e4 hown
    subst he
    dsimp only
    have hB2 : Below w.heap.size w w2 := hA.trans ((hb1.trans hb2).mono hA.size)
    have r2 := (hb2.block _ hOW).trans r2
    generalize hI : insE (cvs ls) c.v = x at *
    have HI : Hid _ := hI
    clear hI HM
    by_cases hx : x = 0
    · have HO : Hid (∃ y : Ct, y.v = c.v ∧ StkOwn w2 W0.heap.size s (ks ++ [y])) := by
        show ∃ y, _
        rcases ho2 with ⟨h, _⟩ | ⟨_, h⟩
        · exact absurd hx h
        · exact h
      obtain ⟨y, hy, hown2⟩ := HO.out
      obtain ⟨vc, vd, ds, hk, hsame, hsm⟩ := hown2.out
      obtain ⟨ra, rc, hv, hl, hL, hfr⟩ := dag_of_owns hk.rc hk.ac
      subst hv
      have HKS : Hid (cvs (ks ++ [y]) = cvs ls ++ [c.v]) := by
        show _ = _
        rw [← HCV.out, ← hy]
        simp [cvs]
      have hLL := hL (by omega)
      have HAC : Hid (∀ k ∈ ks ++ [y], ∀ b, CtIn k b → W0.heap.size ≤ b) := by
        show ∀ k, _
        exact fun k hk' b hb => ((hk.ac k hk').2 b hb).1
      have HFR : Hid _ := hfr
      have bx := hk.box
      subst hx
      clear ho2 HO hown2 hy hsame hL hfr hl hk
      have d0 := cells_at r2 0 _ rfl
      have f0 := frozen_at r2 0
      go_wp2_with fail
      refine (certs_stk s _ rc ra vd w2 bx).mono ?_
      rintro e w3 ⟨he, rfl⟩
      subst he
      dsimp only
      go_wp2_with fail
      refine bodyPost_ret (v := .tuple #[.agg #[.slice ra (ks ++ [y]).length rc], .int .i64 0]) (by simp [results, Tryd.results72, go_sem, d0]) rfl ⟨.inr ⟨HI.out, ra, rc, ks ++ [y], rfl, HKS.out, ?_, ?_, ?_⟩, hB2.setCell HOg _⟩
      · refine ⟨hLL.le, hLL.max, hLL.small, hLL.some, ⟨?_⟩, fun k hk' => ?_⟩
        · rcases hLL.certs.cells with h | ⟨sb, so, e, h⟩
          · exact .inl h
          · refine .inr ⟨sb, so, e, fun j hj => ?_⟩
            obtain ⟨a0, a1, a2, a3, a4⟩ := h j hj
            have hne : O ≠ sb := by have := (HFR.out sb so e).1; omega
            exact ⟨(World.cell?_setCell_far _ _ _ _ hne).trans a0, (World.cell?_setCell_far _ _ _ _ hne).trans a1, (World.cell?_setCell_far _ _ _ _ hne).trans a2, (World.cell?_setCell_far _ _ _ _ hne).trans a3, (World.cell?_setCell_far _ _ _ _ hne).trans a4⟩
        · exact (hLL.each k hk').keep (by simp) (fun b hb => heap_setCell_other _ ⟨O, 0, none⟩ b _ (by have := HAC.out k hk' b hb; show b ≠ O; omega))
      · intro sb so e
        have := (HFR.out sb so e).1
        have := hA.size
        omega
      · intro k hk' b hb
        have := HAC.out k hk' b hb
        have := hA.size
        omega
    · have HX : Hid _ := hx
      have hxn : (x != 0) = true := by simpa using hx
      have d0 := cells_at r2 0 _ rfl
      have f0 := frozen_at r2 0
      clear ho2
      go_wp2_with fail
      refine bodyPost_ret (v := .tuple #[.agg #[.slice none 0 0], .int .i64 x]) (by simp [results, Tryd.results72, go_sem, d0]) rfl ⟨InAt.err HI.out HX.out, hB2.setCell HOg _⟩
end Go.Proofs.YtbmodfegcmaieaaDoor

namespace Go.Proofs.YtbmodfegcmaieaaDoor
open Go.RowKit

def lateC (a : Nat) : CV := ⟨(a : Int), 1, [], [], [0, 1, 2]⟩
def lateL (k i : Nat) : List CV := ((List.range i).filter (fun a => decide (a ≠ k))).map lateC
set_option maxRecDepth 100000 in
theorem late_skip (k : Nat) : lateL k (k + 1) = lateL k k := by simp [lateL, List.range_succ, List.filter_append]
set_option maxRecDepth 100000 in
theorem late_next {k i : Nat} (h : i ≠ k) : lateL k (i + 1) = lateL k i ++ [lateC i] := by simp [lateL, List.range_succ, List.filter_append, h]
set_option maxRecDepth 100000 in
theorem late_ins : ∀ k, k < 4 → ∀ i, i < 4 → i ≠ k → insE (lateL k i) (lateC i) = 0 := by decide +kernel
set_option maxRecDepth 100000 in
theorem late_dag : ∀ k, k < 4 → dagF (lateL k 4) = 0 := by decide +kernel
set_option maxRecDepth 100000 in
theorem late_last : ∀ k, k < 4 → insE (lateL k 4) ⟨(k : Int), 1, [], [], [1, 2, 3]⟩ = 0 := by decide +kernel
set_option maxRecDepth 100000 in
theorem late_all : ∀ k, k < 4 → dagF (lateL k 4 ++ [⟨(k : Int), 1, [], [], [1, 2, 3]⟩]) = 0 := by decide +kernel
set_option maxRecDepth 100000 in
theorem late_one {l : List CV} (h1 : 3 ≤ (dgF l 1).length) (h2 : (dgF l 2).length < 3) : NextR l 2 := ⟨by decide, fun k a b => by
  obtain rfl : k = 1 := by omega
  exact h1, h2⟩
set_option maxRecDepth 100000 in
theorem late_d1 : ∀ k, k < 4 → (dgF (lateL k 4) 1).length = 3 ∧ (dgF (lateL k 4) 2).length = 0 := by
  intro k hk
  rw [dgF_len, dgF_len]
  revert k
  decide +kernel
set_option maxRecDepth 100000 in
theorem late_d2 : ∀ k, k < 4 → (dgF (lateL k 4 ++ [⟨(k : Int), 1, [], [], [1, 2, 3]⟩]) 1).length = 4 ∧ (dgF (lateL k 4 ++ [⟨(k : Int), 1, [], [], [1, 2, 3]⟩]) 2).length = 0 := by
  intro k hk
  rw [dgF_len, dgF_len]
  revert k
  decide +kernel
set_option maxRecDepth 100000 in
/-- A dag stays where a block of another one is rewritten. -/
theorem dag_setCell {w : World} {sa : Option Addr} {cap : Nat} {ls : List Ct} (h : DagAt w sa cap ls) (b j : Nat) (v : Value) (h1 : ∀ sb so, sa = some ⟨sb, so, none⟩ → b ≠ sb) (h2 : ∀ c ∈ ls, ∀ q, CtIn c q → q ≠ b) : DagAt (w.setCell ⟨b, j, none⟩ v) sa cap ls := by
  refine ⟨h.le, h.max, h.small, h.some, ⟨?_⟩, fun c hc => (h.each c hc).keep (by simp) (fun q hq => heap_setCell_other _ ⟨b, j, none⟩ q _ (h2 c hc q hq))⟩
  rcases h.certs.cells with g | ⟨sb, so, e, g⟩
  · exact .inl g
  · refine .inr ⟨sb, so, e, fun i hi => ?_⟩
    obtain ⟨a0, a1, a2, a3, a4⟩ := g i hi
    have hne := h1 sb so e
    exact ⟨(World.cell?_setCell_far _ _ _ _ hne).trans a0, (World.cell?_setCell_far _ _ _ _ hne).trans a1, (World.cell?_setCell_far _ _ _ _ hne).trans a2, (World.cell?_setCell_far _ _ _ _ hne).trans a3, (World.cell?_setCell_far _ _ _ _ hne).trans a4⟩
set_option maxRecDepth 100000 in
theorem dag_none (w : World) : DagAt w none 0 [] := ⟨Nat.le_refl _, by decide, by decide, .inl rfl, ⟨.inl rfl⟩, fun c hc => by cases hc⟩
/-- A certificate of no lists, and three voters. -/
def bareC (au rd : Int) (b : Nat) (x y z : Int) : Ct := ⟨au, rd, none, 0, [], none, 0, [], some ⟨b, 0, none⟩, 3, [x, y, z]⟩
set_option maxRecDepth 100000 in
theorem list_none (w : World) : ListAt w none 0 [] := ⟨Nat.le_refl _, by decide, by decide, .inl rfl, ⟨.inl rfl, fun p hp => by cases hp⟩⟩
set_option maxRecDepth 100000 in
theorem bare_at {w : World} {b : Nat} {x y z : Int} (au rd : Int) (h : w.heap[b]? = some (.cells #[.int .i64 x, .int .i64 y, .int .i64 z] 3 (0, 0))) : CtAt w (bareC au rd b x y z) := by
  refine ⟨⟨list_none w, list_none w, fun sb so e => (by cases e), fun sb so e => (by cases e)⟩, ⟨.inr ⟨b, 0, rfl, fun j hj => ?_⟩⟩, by show (3 : Nat) ≤ _; decide⟩
  have hj3 : j < 3 := hj
  have h0 := cells_at h 0 _ rfl
  have h1 := cells_at h 1 _ rfl
  have h2 := cells_at h 2 _ rfl
  match j, hj3 with
  | 0, _ => simpa [bareC] using h0
  | 1, _ => simpa [bareC] using h1
  | 2, _ => simpa [bareC] using h2
end Go.Proofs.YtbmodfegcmaieaaDoor
