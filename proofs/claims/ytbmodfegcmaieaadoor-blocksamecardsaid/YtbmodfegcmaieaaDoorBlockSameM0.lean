/- Rows of texts. -/
import Derived.Test.YtbmodfegcmaieaaDoorGLateF
import Derived.Test.YtbmodfegcmaieaaDoorQStk5F
import Derived.Test.YtbmodfegcmaieaaDoorQDagP
import Derived.Test.YtbmodfegcmaieaaDoorGApp
import Derived.Shelf.SlSortCmp.WholeK
import Derived.Ground.SlsfProg
import Derived.Test.YtbmodfegcmaieaaDoorGAppR
import Derived.Test.YtbmodfegcmaieaaDoorGCalls
import Derived.Deep.RegionHeld3
import Derived.Laws.Externs
import Derived.Sort.Grow
import Derived.Sort.Statements
import Derived.Shelf.SlSortCmp.Insertion
import Derived.Test.YtbmodfegcmaieaaDoorGAppB
import Derived.Deep.RegionHeld
namespace Go.Proofs.YtbmodfegcmaieaaDoor
open Go.RowKit

/-- What Find answers, as memory of its own. -/
structure FndO (w w' : World) (e : Ending) (l : List CV) (k : List Int) : Prop where
  below : Below w.heap.size w w'
  out : (∃ ec : Int, e = .returned (.tuple #[.agg #[.int .i64 0, .int .i64 0, .slice none 0 0, .slice none 0 0, .slice none 0 0], .int .i64 ec]) ∧ ((dagF l = 12 ∧ ec = 12) ∨ (dagF l = 0 ∧ pOf l k = -1 ∧ ec = 8))) ∨ (dagF l = 0 ∧ 0 ≤ pOf l k ∧ ∃ c : Ct, e = .returned (.tuple #[.agg #[.int .i64 c.au, .int .i64 c.rd, .slice c.ba c.bl.length c.bc, .slice c.pa c.pl.length c.pc, .slice c.va c.vl.length c.vc], .int .i64 0]) ∧ c.v = cvAt l (pOf l k).toNat ∧ CtAt w' c ∧ (∀ b, CtIn c b → w.heap.size < b))
set_option maxRecDepth 100000 in
set_option maxHeartbeats 1000000 in
theorem dagFind_own (ls : List Ct) (sa : Option Addr) (n cap : Nat) (bs : List Int) (ka : Option Addr) (kn kc : Nat) (w : World) (hn : n = ls.length) (hkn : kn = bs.length) (hd : DagAt w sa cap ls) (hk : SliceAt w ka kc bs) (hT : Tabs w) :
    Calls Tryd.prog 38 #[.agg #[.slice sa n cap], .slice ka kn kc] w fun e w' => FndO w w' e (cvs ls) bs := by
  subst hn hkn
  have hA : Below w.heap.size w ((w.alloc (.cells #[.slice sa ls.length cap] 51)).alloc (.cells #[.int .i64 0, .int .i64 0, .slice none 0 0, .slice none 0 0, .slice none 0 0] 63)) := ((Below.refl _ _).alloc (Nat.le_refl _) _).alloc (by rw [size_alloc]; omega) _
  have q1 : ((w.alloc (.cells #[.slice sa ls.length cap] 51)).alloc (.cells #[.int .i64 0, .int .i64 0, .slice none 0 0, .slice none 0 0, .slice none 0 0] 63)).heap[w.heap.size + 1]? = some (.cells #[.int .i64 0, .int .i64 0, .slice none 0 0, .slice none 0 0, .slice none 0 0] 63 (0, 0)) := by
    have := heap_alloc_new (w.alloc (.cells #[.slice sa ls.length cap] 51)) (.cells #[.int .i64 0, .int .i64 0, .slice none 0 0, .slice none 0 0, .slice none 0 0] 63)
    rw [size_alloc] at this; exact this
  go_enter Tryd.func38, Tryd.ntmps38
  go_wp2_with fail
  generalize (w.alloc (.cells #[.slice sa ls.length cap] 51)).alloc (.cells #[.int .i64 0, .int .i64 0, .slice none 0 0, .slice none 0 0, .slice none 0 0] 63) = W0 at hA q1 ⊢
  refine (open_any ls sa _ cap W0 rfl (hd.below hA) (hT.below hA)).mono ?_
  intro e w1 hO
  have hb1 := hO.below
  have hOo := hO.out
  clear hO
  have hB1 := hA.trans (hb1.mono hA.size)
  have r2 := (hb1.block _ (lt_of_heap q1)).trans q1
  rcases hOo with ⟨hF, he⟩ | ⟨hF, s, ks, he, hcv, hown⟩
  · have HF : Hid _ := hF
    clear hF
    subst he
    dsimp only
    have d0 := cells_at r2 0 _ rfl
    have d1 := cells_at r2 1 _ rfl
    have d2 := cells_at r2 2 _ rfl
    have d3 := cells_at r2 3 _ rfl
    have d4 := cells_at r2 4 _ rfl
    have f0 := frozen_at r2 0
    have f1 := frozen_at r2 1
    have f2 := frozen_at r2 2
    have f3 := frozen_at r2 3
    have f4 := frozen_at r2 4
    go_wp2_with fail
    refine bodyPost_ret (v := .tuple #[.agg #[.int .i64 0, .int .i64 0, .slice none 0 0, .slice none 0 0, .slice none 0 0], .int .i64 12]) (by simp [results, Tryd.results38, go_sem, d0, d1, d2, d3, d4]) rfl ⟨?_, .inl ⟨12, rfl, .inl ⟨HF.out, rfl⟩⟩⟩
    exact ((((hB1.setCell (Nat.le_succ _) _).setCell (Nat.le_succ _) _).setCell (Nat.le_succ _) _).setCell (Nat.le_succ _) _).setCell (Nat.le_succ _) _
  · have HF : Hid _ := hF
    have HCV : Hid _ := hcv
    clear hF hcv
    subst he
    dsimp only
    obtain ⟨vc, vd, ds, hkk, hsame, hsm⟩ := hown.out
    obtain ⟨ca, cc, da, dc, e1, e2, hat⟩ := hkk.at hsame hsm
    subst e1 e2
    have HFD := find_stk ks s ca cc da dc ds bs ka _ kc w1 hat (all_f (by rw [HCV.out]; exact HF.out)) rfl (hk.below hB1)
    clear hsame hown hkk
    go_wp2_with fail
    refine HFD.mono ?_
    intro e w2 h2
    have hb2 := h2.below
    have h2o := h2.out
    rw [HCV.out] at h2o
    clear h2 HFD
    have hB2 := hB1.trans (hb2.mono hB1.size)
    have r2 := (hb2.block _ (lt_of_heap r2)).trans r2
    rcases h2o with ⟨hp, he⟩ | ⟨hp, x, he, hxv, hxa, hxin⟩
    · have HP : Hid _ := hp
      clear hp
      subst he
      dsimp only
      have d0 := cells_at r2 0 _ rfl
      have d1 := cells_at r2 1 _ rfl
      have d2 := cells_at r2 2 _ rfl
      have d3 := cells_at r2 3 _ rfl
      have d4 := cells_at r2 4 _ rfl
      have f0 := frozen_at r2 0
      have f1 := frozen_at r2 1
      have f2 := frozen_at r2 2
      have f3 := frozen_at r2 3
      have f4 := frozen_at r2 4
      go_wp2_with fail
      refine bodyPost_ret (v := .tuple #[.agg #[.int .i64 0, .int .i64 0, .slice none 0 0, .slice none 0 0, .slice none 0 0], .int .i64 8]) (by simp [results, Tryd.results38, go_sem, d0, d1, d2, d3, d4]) rfl ⟨?_, .inl ⟨8, rfl, .inr ⟨HF.out, HP.out, rfl⟩⟩⟩
      exact ((((hB2.setCell (Nat.le_succ _) _).setCell (Nat.le_succ _) _).setCell (Nat.le_succ _) _).setCell (Nat.le_succ _) _).setCell (Nat.le_succ _) _
    · have HP : Hid _ := hp
      have HXV : Hid _ := hxv
      have HIN : Hid (∀ b, CtIn x b → w1.heap.size < b) := hxin
      have hlt : w.heap.size + 1 < w1.heap.size := Nat.lt_of_lt_of_le (lt_of_heap q1) hb1.size
      clear hp hxv hxin
      subst he
      dsimp only
      have d0 := cells_at r2 0 _ rfl
      have d1 := cells_at r2 1 _ rfl
      have d2 := cells_at r2 2 _ rfl
      have d3 := cells_at r2 3 _ rfl
      have d4 := cells_at r2 4 _ rfl
      have f0 := frozen_at r2 0
      have f1 := frozen_at r2 1
      have f2 := frozen_at r2 2
      have f3 := frozen_at r2 3
      have f4 := frozen_at r2 4
      go_wp2_with fail
      refine bodyPost_ret (v := .tuple #[.agg #[.int .i64 x.au, .int .i64 x.rd, .slice x.ba x.bl.length x.bc, .slice x.pa x.pl.length x.pc, .slice x.va x.vl.length x.vc], .int .i64 0]) (by simp [results, Tryd.results38, go_sem, d0, d1, d2, d3, d4]) rfl ⟨?_, .inr ⟨HF.out, HP.out, x, rfl, HXV.out, ?_, ?_⟩⟩
      · exact ((((hB2.setCell (Nat.le_succ _) _).setCell (Nat.le_succ _) _).setCell (Nat.le_succ _) _).setCell (Nat.le_succ _) _).setCell (Nat.le_succ _) _
      · refine CtAt.keep hxa (by simp) (fun b hb => ?_)
        have hge := HIN.out b hb
        have hne : b ≠ w.heap.size + 1 := by omega
        rw [heap_setCell_other _ _ b _ hne, heap_setCell_other _ _ b _ hne, heap_setCell_other _ _ b _ hne, heap_setCell_other _ _ b _ hne, heap_setCell_other _ _ b _ hne]
      · intro b hb
        have := HIN.out b hb
        omega
end Go.Proofs.YtbmodfegcmaieaaDoor

namespace Go.Proofs.YtbmodfegcmaieaaDoor
open Go.RowKit

set_option maxRecDepth 100000 in
theorem find_at (ks : List Ct) (ka : Option Addr) (kc i : Nat) (p : Part) (w : World) (hF : dagF (cvs ks) = 0) (hV : ∀ x ∈ cvs ks, x.vl = [0, 1, 2]) (hi : i < ks.length) (hd : DagAt w ka kc ks) (hp : SliceAt w p.sa p.cap p.bs) (hpd : p.bs = (cvAt (cvs ks) i).d) (h32 : p.bs.length = 32) (hT : Tabs w) :
    Calls Tryd.prog 38 #[.agg #[.slice ka ks.length kc], .slice p.sa 32 p.cap] w fun e w' => (∃ c : Ct, e = .returned (.tuple #[.agg #[.int .i64 c.au, .int .i64 c.rd, .slice c.ba c.bl.length c.bc, .slice c.pa c.pl.length c.pc, .slice c.va c.vl.length c.vc], .int .i64 0]) ∧ CtAt w' c ∧ Hid ((c.v = cvAt (cvs ks) i ∨ (unlikeC (cvAt (cvs ks) i) c.v ∧ Coll (cvs ks))) ∧ c.v ∈ cvs ks) ∧ ∀ b, CtIn c b → w.heap.size ≤ b) ∧ Below w.heap.size w w' := by
  refine (dagFind_own ks ka _ kc p.bs p.sa 32 p.cap w rfl h32.symm hd hp hT).mono ?_
  intro e w' hO
  refine ⟨?_, hO.below⟩
  have hi' : i < (cvs ks).length := by rw [cvs_length]; exact hi
  rcases hO.out with ⟨ec, _, ⟨hz, _⟩ | ⟨_, hz, _⟩⟩ | ⟨_, _, c, he, hcv, hC, hfr⟩
  · rw [hF] at hz; cases hz
  · have := (pOf_self hi').1
    rw [← hpd] at this; omega
  · refine ⟨c, he, hC, ?_, fun b hb => Nat.le_of_lt (hfr b hb)⟩
    have h := pOf_or hV hi'
    rw [← hpd, ← hcv] at h
    refine ⟨h, ?_⟩
    rw [hcv, hpd]
    obtain ⟨g1, g2, _⟩ := pOf_self hi'
    exact cvAt_mem (by omega)
set_option maxRecDepth 100000 in
theorem pOf_short {l : List CV} {d : List Int} (hu : ∀ x ∈ d, 0 ≤ x ∧ x ≤ 255) (hd : d.length ≠ 32) : pOf l d = -1 := by
  refine fidx_none _ _ (fun j hj => ?_)
  rw [dHit]
  refine decide_eq_false (fun h => hd ?_)
  rw [← txL_inj (CV.d_u8 _) hu h, CV.d_length]
end Go.Proofs.YtbmodfegcmaieaaDoor

namespace Go.Proofs.YtbmodfegcmaieaaDoor
open Go.Shelf

def sortO_ren : Go.Shelf.Ren := ⟨fun | 6 => 74 | 15 => 97 | 14 => 96 | 28 => 123 | 29 => 124 | 20 => 115 | 21 => 116 | 22 => 117 | 23 => 118 | 24 => 119 | 25 => 120 | 26 => 121 | 27 => 122 | 46 => 132 | 47 => 133 | 48 => 134 | 49 => 135 | 50 => 136 | 57 => 138 | n => n, fun | 22 => 87 | 24 => 91 | 25 => 113 | 3 => 3 | 39 => 124 | 0 => 0 | 53 => 141 | 55 => 164 | 4 => 4 | 46 => 156 | 45 => 155 | 50 => 160 | 5 => 5 | 9 => 9 | 66 => 177 | 70 => 181 | 76 => 185 | 77 => 186 | n => n, fun | n => n⟩
set_option maxRecDepth 100000 in
theorem sortO : Go.Proofs.SlLaysF0.n6 Tryd.prog sortO_ren := {
  mixed := by kernel_rfl
  f6 := ⟨Tryd.f74.name, by decide, Tryd.func74.trans (congrArg some (by kernel_rfl))⟩
  f14 := ⟨Tryd.f96.name, by decide, Tryd.func96.trans (congrArg some (by kernel_rfl))⟩
  f15 := Tryd.func97.trans (congrArg some (by kernel_rfl))
  f20 := ⟨Tryd.f115.name, by decide, Tryd.func115.trans (congrArg some (by kernel_rfl))⟩
  f21 := ⟨Tryd.f116.name, by decide, Tryd.func116.trans (congrArg some (by kernel_rfl))⟩
  f22 := ⟨Tryd.f117.name, by decide, Tryd.func117.trans (congrArg some (by kernel_rfl))⟩
  f23 := ⟨Tryd.f118.name, by decide, Tryd.func118.trans (congrArg some (by kernel_rfl))⟩
  f24 := ⟨Tryd.f119.name, by decide, Tryd.func119.trans (congrArg some (by kernel_rfl))⟩
  f25 := ⟨Tryd.f120.name, by decide, Tryd.func120.trans (congrArg some (by kernel_rfl))⟩
  f26 := ⟨Tryd.f121.name, by decide, Tryd.func121.trans (congrArg some (by kernel_rfl))⟩
  f27 := ⟨Tryd.f122.name, by decide, Tryd.func122.trans (congrArg some (by kernel_rfl))⟩
  f28 := Tryd.func123.trans (congrArg some (by kernel_rfl))
  f29 := Tryd.func124.trans (congrArg some (by kernel_rfl))
  f46 := ⟨Tryd.f132.name, by decide, Tryd.func132.trans (congrArg some (by kernel_rfl))⟩
  f47 := Tryd.func133.trans (congrArg some (by kernel_rfl))
  f48 := Tryd.func134.trans (congrArg some (by kernel_rfl))
  f49 := ⟨Tryd.f135.name, by decide, Tryd.func135.trans (congrArg some (by kernel_rfl))⟩
  f50 := ⟨Tryd.f136.name, by decide, Tryd.func136.trans (congrArg some (by kernel_rfl))⟩
  f57 := ⟨Tryd.f138.name, by decide, Tryd.func138.trans (congrArg some (by kernel_rfl))⟩
  t0 := Tryd.underlying0
  a0 := Tryd.isAgg0
  z0 := Tryd.sizeOf0
  v0 := Tryd.zeroValue0
  t3 := Tryd.underlying3
  a3 := Tryd.isAgg3
  z3 := Tryd.sizeOf3
  v3 := Tryd.zeroValue3
  t4 := Tryd.underlying4
  a4 := Tryd.isAgg4
  z4 := Tryd.sizeOf4
  v4 := Tryd.zeroValue4
  t5 := Tryd.underlying5
  a5 := Tryd.isAgg5
  z5 := Tryd.sizeOf5
  v5 := Tryd.zeroValue5
  t9 := Tryd.underlying9
  a9 := Tryd.isAgg9
  z9 := Tryd.sizeOf9
  v9 := Tryd.zeroValue9
  t22 := Tryd.underlying87
  a22 := Tryd.isAgg87
  z22 := Tryd.sizeOf87
  v22 := Tryd.zeroValue87
  t25 := Tryd.underlying113
  a25 := Tryd.isAgg113
  z25 := Tryd.sizeOf113
  v25 := Tryd.zeroValue113
  t39 := Tryd.underlying124
  a39 := Tryd.isAgg124
  z39 := Tryd.sizeOf124
  v39 := Tryd.zeroValue124
  t45 := Tryd.underlying155
  a45 := Tryd.isAgg155
  z45 := Tryd.sizeOf155
  v45 := Tryd.zeroValue155
  t46 := Tryd.underlying156
  a46 := Tryd.isAgg156
  z46 := Tryd.sizeOf156
  v46 := Tryd.zeroValue156
  t50 := Tryd.underlying160
  a50 := Tryd.isAgg160
  z50 := Tryd.sizeOf160
  v50 := Tryd.zeroValue160
  t53 := Tryd.underlying141
  a53 := Tryd.isAgg141
  z53 := Tryd.sizeOf141
  v53 := Tryd.zeroValue141
  t55 := Tryd.underlying164
  a55 := Tryd.isAgg164
  z55 := Tryd.sizeOf164
  v55 := Tryd.zeroValue164
  t66 := Tryd.underlying177
  a66 := Tryd.isAgg177
  z66 := Tryd.sizeOf177
  v66 := Tryd.zeroValue177
  t70 := Tryd.underlying181
  a70 := Tryd.isAgg181
  z70 := Tryd.sizeOf181
  v70 := Tryd.zeroValue181
  t76 := Tryd.underlying185
  a76 := Tryd.isAgg185
  z76 := Tryd.sizeOf185
  v76 := Tryd.zeroValue185
  t77 := Tryd.underlying186
  a77 := Tryd.isAgg186
  z77 := Tryd.sizeOf186
  v77 := Tryd.zeroValue186 }
end Go.Proofs.YtbmodfegcmaieaaDoor

namespace Go.Proofs.YtbmodfegcmaieaaDoor
open Go.RowKit

def cI (x y : Int) : Int := if x < y then -1 else if y < x then 1 else 0
/-- A comparison by which just what is the same is even. -/
structure Lin {α : Type} (c : α → α → Int) : Prop where
  refl : ∀ x, c x x = 0
  eq : ∀ x y, c x y = 0 → x = y
  neg : ∀ x y, c x y < 0 → 0 < c y x
  pos : ∀ x y, 0 < c x y → c y x < 0
  trans : ∀ x y z, c x y < 0 → c y z < 0 → c x z < 0
set_option maxRecDepth 100000 in
theorem cI_lt {x y : Int} (h : x < y) : cI x y = -1 := by simp [cI, h]
set_option maxRecDepth 100000 in
theorem cI_gt {x y : Int} (h : y < x) : cI x y = 1 := by have h2 : ¬ x < y := by omega
                                                         simp [cI, h, h2]
set_option maxRecDepth 100000 in
theorem cI_eq (x : Int) : cI x x = 0 := by simp [cI]
set_option maxRecDepth 100000 in
theorem cI_or (x y : Int) : (x < y ∧ cI x y = -1) ∨ (y < x ∧ cI x y = 1) ∨ (x = y ∧ cI x y = 0) := by
  rcases Int.lt_trichotomy x y with h | h | h
  · exact .inl ⟨h, cI_lt h⟩
  · subst h; exact .inr (.inr ⟨rfl, cI_eq _⟩)
  · exact .inr (.inl ⟨h, cI_gt h⟩)
set_option maxRecDepth 100000 in
theorem lin_cI : Lin cI := by
  refine ⟨fun x => cI_eq x, fun x y h => ?_, fun x y h => ?_, fun x y h => ?_, fun x y z h1 h2 => ?_⟩
  · rcases cI_or x y with g | g | g <;> omega
  · rcases cI_or x y with g | g | g <;> rcases cI_or y x with k | k | k <;> omega
  · rcases cI_or x y with g | g | g <;> rcases cI_or y x with k | k | k <;> omega
  · rcases cI_or x y with g | g | g <;> rcases cI_or y z with k | k | k <;> rcases cI_or x z with l | l | l <;> omega
/-- One behind the other. -/
def lexC {α β : Type} (c : α → α → Int) (d : β → β → Int) (x y : α × β) : Int := if c x.1 y.1 ≠ 0 then c x.1 y.1 else d x.2 y.2
set_option maxRecDepth 100000 in
theorem lin_lex {α β : Type} {c : α → α → Int} {d : β → β → Int} (hc : Lin c) (hd : Lin d) : Lin (lexC c d) := by
  refine ⟨fun x => ?_, fun x y h => ?_, fun x y h => ?_, fun x y h => ?_, fun x y z h1 h2 => ?_⟩
  · simp [lexC, hc.refl, hd.refl]
  · unfold lexC at h
    split at h
    · contradiction
    · rename_i g
      have g : c x.1 y.1 = 0 := by simpa using g
      exact Prod.ext (hc.eq _ _ g) (hd.eq _ _ h)
  · unfold lexC at h ⊢
    split at h
    · have := hc.neg _ _ h
      rw [if_pos (by omega)]; exact this
    · rename_i g
      have g : c x.1 y.1 = 0 := by simpa using g
      have e := hc.eq _ _ g
      rw [e, if_neg (by simp [hc.refl])]; exact hd.neg _ _ h
  · unfold lexC at h ⊢
    split at h
    · have := hc.pos _ _ h
      rw [if_pos (by omega)]; exact this
    · rename_i g
      have g : c x.1 y.1 = 0 := by simpa using g
      have e := hc.eq _ _ g
      rw [e, if_neg (by simp [hc.refl])]; exact hd.pos _ _ h
  · unfold lexC at h1 h2 ⊢
    by_cases g1 : c x.1 y.1 = 0
    · have e := hc.eq _ _ g1
      rw [if_neg (by simpa using g1)] at h1
      rw [e]
      by_cases g2 : c y.1 z.1 = 0
      · rw [if_neg (by simpa using g2)] at h2 ⊢
        exact hd.trans _ _ _ h1 h2
      · rw [if_pos g2] at h2 ⊢
        exact h2
    · rw [if_pos g1] at h1
      by_cases g2 : c y.1 z.1 = 0
      · have e := hc.eq _ _ g2
        rw [← e, if_pos g1]; exact h1
      · rw [if_pos g2] at h2
        have := hc.trans _ _ _ h1 h2
        rw [if_pos (by omega)]; exact this
set_option maxRecDepth 100000 in
theorem Lin.swo {α β : Type} {c : α → α → Int} (h : Lin c) (k : β → α) : Go.Sort.SWO (Go.Proofs.ltOf fun x y : β => c (k x) (k y)) := by
  refine ⟨fun x => ?_, fun x y z h1 h2 => ?_, fun x y z h1 h2 => ?_⟩
  · simp [Go.Proofs.ltOf, h.refl]
  · simp only [Go.Proofs.ltOf, decide_eq_true_eq] at *
    exact h.trans _ _ _ h1 h2
  · simp only [Go.Proofs.ltOf, decide_eq_false_iff_not] at *
    intro h3
    rcases Int.lt_trichotomy (c (k x) (k y)) 0 with g | g | g
    · exact h1 g
    · rw [h.eq _ _ g] at h3; exact h2 h3
    · rcases Int.lt_trichotomy (c (k y) (k z)) 0 with g2 | g2 | g2
      · exact h2 g2
      · rw [← h.eq _ _ g2] at h3; exact h1 h3
      · have a := h.trans _ _ _ (h.pos _ _ g2) (h.pos _ _ g)
        have b := h.neg _ _ a
        omega
/-- The first that is not nought. -/
def orF : List Int → Int
  | [] => 0
  | x :: r => if x ≠ 0 then x else orF r
/-- Rounds, then authors. -/
def cmpRA (x y : Int × Int) : Int := lexC cI cI x y
set_option maxRecDepth 100000 in
theorem lin_cmpRA : Lin cmpRA := lin_lex lin_cI lin_cI
set_option maxRecDepth 100000 in
theorem cmpRA_or (a b c d : Int) : cmpRA (a, b) (c, d) = orF [cI a c, cI b d] := by
  simp only [cmpRA, lexC, orF]
  by_cases h0 : cI a c = 0
  · by_cases h1 : cI b d = 0 <;> simp [h0, h1]
  · simp [h0]
set_option maxRecDepth 100000 in
theorem cmpRA_neg {x y : Int × Int} : cmpRA x y < 0 ↔ (x.1 < y.1 ∨ (x.1 = y.1 ∧ x.2 < y.2)) := by
  unfold cmpRA lexC
  rcases cI_or x.1 y.1 with h | h | h <;> rcases cI_or x.2 y.2 with g | g | g <;> rw [h.2, g.2] <;> simp <;> omega
set_option maxRecDepth 100000 in
theorem isNaN_any (x : Int) (w : World) : Calls Tryd.prog 98 #[.int .i64 x] w fun e w' => e = .returned (.bool false) ∧ w = w' := by
  go_enter Tryd.func98, Tryd.ntmps98
  go_wp2
  go_ret
  exact ⟨by simp, rfl⟩
set_option maxRecDepth 100000 in
set_option maxHeartbeats 1000000 in
theorem compareInt_any (x y : Int) (w : World) : Calls Tryd.prog 77 #[.int .i64 x, .int .i64 y] w fun e w' => e = .returned (.int .i64 (cI x y)) ∧ w = w' := by
  rcases Int.lt_trichotomy x y with h | h | h
  · have hF : Hid (cI x y = -1) := cI_lt h
    go_enter Tryd.func77, Tryd.ntmps77
    go_wp2_with (go_at_call 98; refine (isNaN_any _ _).mono ?_; rintro e w' ⟨rfl, rfl⟩)
    go_ret
    exact ⟨ret_int hF.out.symm, rfl⟩
  · subst h
    have hF : Hid (cI x x = 0) := cI_eq x
    go_enter Tryd.func77, Tryd.ntmps77
    go_wp2_with (go_at_call 98; refine (isNaN_any _ _).mono ?_; rintro e w' ⟨rfl, rfl⟩)
    go_ret
    exact ⟨ret_int hF.out.symm, rfl⟩
  · have hF : Hid (cI x y = 1) := cI_gt h
    have h2 : ¬ x < y := by omega
    go_enter Tryd.func77, Tryd.ntmps77
    go_wp2_with (go_at_call 98; refine (isNaN_any _ _).mono ?_; rintro e w' ⟨rfl, rfl⟩)
    go_ret
    exact ⟨ret_int hF.out.symm, rfl⟩
/-- Nothing but draws and new blocks. -/
def Gr (w w' : World) : Prop := ∃ q os, w' = Go.Sort.grow (w.drewN q) os
set_option maxRecDepth 100000 in
theorem Gr.refl (w : World) : Gr w w := ⟨0, #[], by simp [Go.Sort.grow, World.drewN]⟩
set_option maxRecDepth 100000 in
theorem Gr.trans {a b c : World} (h : Gr a b) (k : Gr b c) : Gr a c := by
  obtain ⟨q, os, rfl⟩ := h
  obtain ⟨q', os', rfl⟩ := k
  exact ⟨q + q', os ++ os', by simp [Go.Sort.grow, World.drewN, Array.append_assoc, Nat.add_assoc]⟩
set_option maxRecDepth 100000 in
theorem Gr.alloc {a b : World} (h : Gr a b) (o : Obj) : Gr a (b.alloc o) := h.trans ⟨0, #[o], by rw [Go.Sort.alloc_eq_grow]; rfl⟩
set_option maxRecDepth 100000 in
theorem Gr.drew {a b : World} (h : Gr a b) : Gr a b.drew := h.trans ⟨1, #[], by unfold Go.Sort.grow; rw [Array.append_empty]; rfl⟩
set_option maxRecDepth 100000 in
theorem Gr.below {a b : World} (h : Gr a b) : Below a.heap.size a b := by
  obtain ⟨q, os, rfl⟩ := h
  refine ⟨rfl, rfl, rfl, by simp [Go.Sort.grow, World.drewN], fun k hk => ?_⟩
  show (a.heap ++ os)[k]? = _
  rw [Array.getElem?_append_left hk]
set_option maxRecDepth 100000 in
set_option maxHeartbeats 1000000 in
theorem cmpOr_any (l : List Int) (sb so cap : Nat) (w : World) (hl : l.length ≤ 1000) (h : ∀ j (h : j < l.length), w.cell? ⟨sb, so + j, none⟩ = some (.int .i64 (l[j]))) :
    Calls Tryd.prog 76 #[.slice (some ⟨sb, so, none⟩) l.length cap] w fun e w' => e = .returned (.int .i64 (orF l)) ∧ w = w' := by
  have HH : Hid (∀ j (h : j < l.length), w.cell? ⟨sb, so + j, none⟩ = some (.int .i64 (l[j]))) := h
  clear h
  go_enter Tryd.func76, Tryd.ntmps76
  go_wp2_with fail
  go_loop [8] (fun i => ∃ m : Nat, m ≤ l.length ∧ i = .int .i64 m ∧ orF l = orF (l.drop m)) (fun i => l.length - (intOf i).toNat)
  case atStart => exact ⟨0, Nat.zero_le _, rfl, rfl⟩
  case round =>
    obtain ⟨m, hm, rfl, hno⟩ := hrel
    by_cases hlt : m < l.length
    · have c0 := HH.out m hlt
      have hd : Hid (l.drop m = l[m] :: l.drop (m + 1)) := List.drop_eq_getElem_cons hlt
      have HN : Hid (orF l = orF (l.drop m)) := hno
      clear hno
      have hltI : (m : Int) < l.length := by omega
      generalize l[m] = x at *
      by_cases hx : x = 0
      · have h2 : Hid (orF l = orF (l.drop (m + 1))) := by show _ = _; rw [HN.out, hd.out, orF, if_neg (by simp [hx])]
        clear HN hd
        go_wp2_with fail
        go_round
        case rel => exact ⟨m + 1, by omega, by go_num, h2.out⟩
        case measure => simp [intOf]; omega
      · have h2 : Hid (orF l = x) := by show _ = _; rw [HN.out, hd.out, orF, if_pos hx]
        clear HN hd
        go_wp2_with fail
        go_ret
        exact ⟨ret_int h2.out.symm, rfl⟩
    · obtain rfl : m = l.length := by omega
      have h2 : Hid (orF l = 0) := by show _ = _; rw [hno, List.drop_length]; rfl
      clear hno
      go_wp2_with fail
      go_ret
      exact ⟨ret_int h2.out.symm, rfl⟩
end Go.Proofs.YtbmodfegcmaieaaDoor

namespace Go.Proofs.YtbmodfegcmaieaaDoor
open Go.RowKit

set_option maxRecDepth 100000 in
set_option maxHeartbeats 4000000 in
theorem cmpStep_any (au rd bu sd : Int) (a2 : Option Addr) (n2 c2 : Nat) (a3 : Option Addr) (n3 c3 : Nat) (a4 : Option Addr) (n4 c4 : Nat) (b2 : Option Addr) (m2 d2 : Nat) (b3 : Option Addr) (m3 d3 : Nat) (b4 : Option Addr) (m4 d4 : Nat) (w : World) :
    Calls Tryd.prog 75 #[.agg #[.int .i64 au, .int .i64 rd, .slice a2 n2 c2, .slice a3 n3 c3, .slice a4 n4 c4], .agg #[.int .i64 bu, .int .i64 sd, .slice b2 m2 d2, .slice b3 m3 d3, .slice b4 m4 d4]] w fun e w' => e = .returned (.int .i64 (cmpRA (rd, au) (sd, bu))) ∧ Gr w w' := by
  have hG : Gr w ((w.alloc (.cells #[.int .i64 au, .int .i64 rd, .slice a2 n2 c2, .slice a3 n3 c3, .slice a4 n4 c4] 91)).alloc (.cells #[.int .i64 bu, .int .i64 sd, .slice b2 m2 d2, .slice b3 m3 d3, .slice b4 m4 d4] 91)) := ((Gr.refl w).alloc _).alloc _
  have q0 := heap_alloc2_old w (.cells #[.int .i64 au, .int .i64 rd, .slice a2 n2 c2, .slice a3 n3 c3, .slice a4 n4 c4] 91) (.cells #[.int .i64 bu, .int .i64 sd, .slice b2 m2 d2, .slice b3 m3 d3, .slice b4 m4 d4] 91)
  have q1 : ((w.alloc (.cells #[.int .i64 au, .int .i64 rd, .slice a2 n2 c2, .slice a3 n3 c3, .slice a4 n4 c4] 91)).alloc (.cells #[.int .i64 bu, .int .i64 sd, .slice b2 m2 d2, .slice b3 m3 d3, .slice b4 m4 d4] 91)).heap[w.heap.size + 1]? = some (.cells #[.int .i64 bu, .int .i64 sd, .slice b2 m2 d2, .slice b3 m3 d3, .slice b4 m4 d4] 91 (0, 0)) := by
    have := heap_alloc_new (w.alloc (.cells #[.int .i64 au, .int .i64 rd, .slice a2 n2 c2, .slice a3 n3 c3, .slice a4 n4 c4] 91)) (.cells #[.int .i64 bu, .int .i64 sd, .slice b2 m2 d2, .slice b3 m3 d3, .slice b4 m4 d4] 91)
    rw [size_alloc] at this; exact this
  have HC : Hid (cmpRA (rd, au) (sd, bu) = orF [cI rd sd, cI au bu]) := cmpRA_or rd au sd bu
  go_enter Tryd.func75, Tryd.ntmps75
  go_wp2_with fail
  generalize (w.alloc (.cells #[.int .i64 au, .int .i64 rd, .slice a2 n2 c2, .slice a3 n3 c3, .slice a4 n4 c4] 91)).alloc (.cells #[.int .i64 bu, .int .i64 sd, .slice b2 m2 d2, .slice b3 m3 d3, .slice b4 m4 d4] 91) = W0 at hG q0 q1 ⊢
  have k0 := cells_at q0 0 _ rfl
  have k1 := cells_at q0 1 _ rfl
  have l0 := cells_at q1 0 _ rfl
  have l1 := cells_at q1 1 _ rfl
  have H0 := compareInt_any rd sd W0.drew
  have H1 := compareInt_any au bu W0.drew
  generalize cI rd sd = r0 at *
  generalize cI au bu = r1 at *
  refine wp_region_held_drew (S := (fun w' => w'.cell? ⟨w.heap.size, 0, none⟩ = some (.int .i64 au) ∧ w'.cell? ⟨w.heap.size, 1, none⟩ = some (.int .i64 rd) ∧ w'.cell? ⟨w.heap.size + 1, 0, none⟩ = some (.int .i64 bu) ∧ w'.cell? ⟨w.heap.size + 1, 1, none⟩ = some (.int .i64 sd))) (by kernel_rfl) ⟨k0, k1, l0, l1⟩ (fun hHeld => ?_)
  refine take_dst (i := 0) (d := 5) (v := .pointer (some ⟨w.heap.size, 0, none⟩)) rfl rfl (by kernel_rfl) (by kernel_rfl) (by kernel_rfl) (fun _ _ _ h => h) (Or.inl ⟨by rfl, ?_⟩) hHeld ?_
  · (intro w0 hSw; (try dsimp only at hSw); go_simp)
  simp only [Act.put, List.setIfInBounds_toArray, List.set_cons_zero, List.set_cons_succ]
  refine take_dst (i := 1) (d := 6) (v := .pointer (some ⟨w.heap.size, 1, none⟩)) rfl rfl (by kernel_rfl) (by kernel_rfl) (by kernel_rfl) (fun _ _ _ h => h) (Or.inl ⟨by rfl, ?_⟩) hHeld ?_
  · (intro w0 hSw; (try dsimp only at hSw); go_simp)
  simp only [Act.put, List.setIfInBounds_toArray, List.set_cons_zero, List.set_cons_succ]
  refine take_dst (i := 2) (d := 7) (v := .int .i64 rd) rfl rfl (by kernel_rfl) (by kernel_rfl) (by kernel_rfl) (fun _ _ _ h => h) (Or.inl ⟨by rfl, ?_⟩) hHeld ?_
  · (intro w0 hSw; (try dsimp only at hSw); go_simp)
  simp only [Act.put, List.setIfInBounds_toArray, List.set_cons_zero, List.set_cons_succ]
  refine take_dst (i := 3) (d := 8) (v := .pointer (some ⟨w.heap.size + 1, 0, none⟩)) rfl rfl (by kernel_rfl) (by kernel_rfl) (by kernel_rfl) (fun _ _ _ h => h) (Or.inl ⟨by rfl, ?_⟩) hHeld ?_
  · (intro w0 hSw; (try dsimp only at hSw); go_simp)
  simp only [Act.put, List.setIfInBounds_toArray, List.set_cons_zero, List.set_cons_succ]
  refine take_dst (i := 4) (d := 9) (v := .pointer (some ⟨w.heap.size + 1, 1, none⟩)) rfl rfl (by kernel_rfl) (by kernel_rfl) (by kernel_rfl) (fun _ _ _ h => h) (Or.inl ⟨by rfl, ?_⟩) hHeld ?_
  · (intro w0 hSw; (try dsimp only at hSw); go_simp)
  simp only [Act.put, List.setIfInBounds_toArray, List.set_cons_zero, List.set_cons_succ]
  refine take_dst (i := 5) (d := 10) (v := .int .i64 sd) rfl rfl (by kernel_rfl) (by kernel_rfl) (by kernel_rfl) (fun _ _ _ h => h) (Or.inl ⟨by rfl, ?_⟩) hHeld ?_
  · (intro w0 hSw; (try dsimp only at hSw); go_simp)
  simp only [Act.put, List.setIfInBounds_toArray, List.set_cons_zero, List.set_cons_succ]
  refine take_dst (i := 7) (d := 12) (v := .pointer (some ⟨w.heap.size, 0, none⟩)) rfl rfl (by kernel_rfl) (by kernel_rfl) (by kernel_rfl) (fun _ _ _ h => h) (Or.inl ⟨by rfl, ?_⟩) hHeld ?_
  · (intro w0 hSw; (try dsimp only at hSw); go_simp)
  simp only [Act.put, List.setIfInBounds_toArray, List.set_cons_zero, List.set_cons_succ]
  refine take_dst (i := 8) (d := 13) (v := .pointer (some ⟨w.heap.size, 0, none⟩)) rfl rfl (by kernel_rfl) (by kernel_rfl) (by kernel_rfl) (fun _ _ _ h => h) (Or.inl ⟨by rfl, ?_⟩) hHeld ?_
  · (intro w0 hSw; (try dsimp only at hSw); go_simp)
  simp only [Act.put, List.setIfInBounds_toArray, List.set_cons_zero, List.set_cons_succ]
  refine take_dst (i := 9) (d := 14) (v := .int .i64 au) rfl rfl (by kernel_rfl) (by kernel_rfl) (by kernel_rfl) (fun _ _ _ h => h) (Or.inl ⟨by rfl, ?_⟩) hHeld ?_
  · (intro w0 hSw; (try dsimp only at hSw); go_simp)
  simp only [Act.put, List.setIfInBounds_toArray, List.set_cons_zero, List.set_cons_succ]
  refine take_dst (i := 10) (d := 15) (v := .pointer (some ⟨w.heap.size + 1, 0, none⟩)) rfl rfl (by kernel_rfl) (by kernel_rfl) (by kernel_rfl) (fun _ _ _ h => h) (Or.inl ⟨by rfl, ?_⟩) hHeld ?_
  · (intro w0 hSw; (try dsimp only at hSw); go_simp)
  simp only [Act.put, List.setIfInBounds_toArray, List.set_cons_zero, List.set_cons_succ]
  refine take_dst (i := 11) (d := 16) (v := .pointer (some ⟨w.heap.size + 1, 0, none⟩)) rfl rfl (by kernel_rfl) (by kernel_rfl) (by kernel_rfl) (fun _ _ _ h => h) (Or.inl ⟨by rfl, ?_⟩) hHeld ?_
  · (intro w0 hSw; (try dsimp only at hSw); go_simp)
  simp only [Act.put, List.setIfInBounds_toArray, List.set_cons_zero, List.set_cons_succ]
  refine take_dst (i := 12) (d := 17) (v := .int .i64 bu) rfl rfl (by kernel_rfl) (by kernel_rfl) (by kernel_rfl) (fun _ _ _ h => h) (Or.inl ⟨by rfl, ?_⟩) hHeld ?_
  · (intro w0 hSw; (try dsimp only at hSw); go_simp)
  simp only [Act.put, List.setIfInBounds_toArray, List.set_cons_zero, List.set_cons_succ]
  refine wpAnyH_ready (rs := [6]) (by kernel_rfl) (by simp) (AllReadyH.cons rfl (fun K hK => ?_) AllReadyH.nil)
  refine step_calls_dst rfl 11 rfl 77 [.tmp 7, .tmp 10] #[3, 3] rfl [.int .i64 rd, .int .i64 sd] rfl (enters_of Tryd.func77 (by kernel_rfl) rfl) (fun v w' => v = .int .i64 r0 ∧ W0.drew = w') (H0.mono (fun e w2 h => ⟨_, h.1, rfl, h.2⟩)) ?_
  rintro v w2 ⟨rfl, rfl⟩
  refine hK.out _ _ ⟨k0, k1, l0, l1⟩ (fun hHeld => ?_)
  simp only [Act.put, List.setIfInBounds_toArray, List.set_cons_zero, List.set_cons_succ]
  refine wpAnyH_ready (rs := [13]) (by kernel_rfl) (by simp) (AllReadyH.cons rfl (fun K hK => ?_) AllReadyH.nil)
  refine step_calls_dst rfl 18 rfl 77 [.tmp 14, .tmp 17] #[3, 3] rfl [.int .i64 au, .int .i64 bu] rfl (enters_of Tryd.func77 (by kernel_rfl) rfl) (fun v w' => v = .int .i64 r1 ∧ W0.drew = w') (H1.mono (fun e w2 h => ⟨_, h.1, rfl, h.2⟩)) ?_
  rintro v w2 ⟨rfl, rfl⟩
  refine hK.out _ _ ⟨k0, k1, l0, l1⟩ (fun hHeld => ?_)
  simp only [Act.put, List.setIfInBounds_toArray, List.set_cons_zero, List.set_cons_succ]
  refine wpAnyH_ready (rs := [14]) (by kernel_rfl) (by simp) (AllReadyH.cons rfl (fun K hK => ?_) AllReadyH.nil)
  refine step_run rfl 19 rfl (.slice (some ⟨W0.heap.size, 0, none⟩) 2 2) (W0.drew.alloc (.cells #[.int .i64 r0, .int .i64 r1] 3)) (by go_simp) ?_
  have m0 := heap_keep (o := .cells #[.int .i64 r0, .int .i64 r1] 3) (w := W0.drew) q0
  have m1 := heap_keep (o := .cells #[.int .i64 r0, .int .i64 r1] 3) (w := W0.drew) q1
  have m2 := heap_alloc_new W0.drew (.cells #[.int .i64 r0, .int .i64 r1] 3)
  have hG2 := (hG.drew).alloc (.cells #[.int .i64 r0, .int .i64 r1] 3)
  have HO := cmpOr_any [r0, r1] W0.heap.size 0 2 (W0.drew.alloc (.cells #[.int .i64 r0, .int .i64 r1] 3)) (by simp) (by
    intro j hj
    have hj : j < 2 := hj
    match j, hj with
    | 0, _ => exact cells_at m2 0 _ rfl
    | 1, _ => exact cells_at m2 1 _ rfl)
  generalize W0.drew.alloc (.cells #[.int .i64 r0, .int .i64 r1] 3) = W1 at m0 m1 m2 hG2 HO ⊢
  have n0 := cells_at m0 0 _ rfl
  have n1 := cells_at m0 1 _ rfl
  have o0 := cells_at m1 0 _ rfl
  have o1 := cells_at m1 1 _ rfl
  rw [← HC.out] at HO
  refine hK.out _ _ ⟨n0, n1, o0, o1⟩ (fun hHeld => ?_)
  simp only [Act.put, List.setIfInBounds_toArray, List.set_cons_zero, List.set_cons_succ]
  refine wpAnyH_ready (rs := [15]) (by kernel_rfl) (by simp) (AllReadyH.cons rfl (fun K hK => ?_) AllReadyH.nil)
  refine step_calls_dst rfl 20 rfl 76 [.tmp 19] #[61] rfl [.slice (some ⟨W0.heap.size, 0, none⟩) 2 2] rfl (enters_of Tryd.func76 (by kernel_rfl) rfl) (fun v w' => v = .int .i64 (cmpRA (rd, au) (sd, bu)) ∧ W1 = w') (HO.mono (fun e w2 h => ⟨_, h.1, rfl, h.2⟩)) ?_
  rintro v w2 ⟨rfl, rfl⟩
  refine hK.out _ _ ⟨n0, n1, o0, o1⟩ (fun hHeld => ?_)
  simp only [Act.put, List.setIfInBounds_toArray, List.set_cons_zero, List.set_cons_succ]
  generalize hr : cmpRA (rd, au) (sd, bu) = r
  have HR : Hid (cmpRA (rd, au) (sd, bu) = r) := hr
  clear hr
  refine wpAnyH_ready (rs := [16]) (by kernel_rfl) (by simp) (AllReadyH.cons rfl (fun K hK => ?_) AllReadyH.nil)
  refine step_run rfl 4 rfl (.int .i64 r) W1 (by go_simp) ?_
  refine hK.out _ _ ⟨n0, n1, o0, o1⟩ (fun hHeld => ?_)
  simp only [Act.put, List.setIfInBounds_toArray, List.set_cons_zero, List.set_cons_succ]
  refine wpAnyH_done (by kernel_rfl) ?_ _
  go_wp2_with fail
  go_ret
  exact ⟨ret_int HR.out.symm, hG2⟩
end Go.Proofs.YtbmodfegcmaieaaDoor

namespace Go.Proofs.YtbmodfegcmaieaaDoor
open Go.RowKit

set_option maxRecDepth 100000 in
theorem infoStr : (Tryd.prog.info? 9).map (fun i => (i.zero, i.size, i.bytes)) = some (some (.string ByteArray.empty), 1, 16) := by kernel_rfl
def sv (ss : List ByteArray) : List Value := ss.map Value.string
set_option maxRecDepth 100000 in
theorem sv_length (ss : List ByteArray) : (sv ss).length = ss.length := by simp [sv]
set_option maxRecDepth 100000 in
theorem sv_one (ss : List ByteArray) : ∀ u ∈ sv ss, u.oneCell' = true := by
  intro u hu; simp [sv] at hu; obtain ⟨x, _, rfl⟩ := hu; rfl
set_option maxRecDepth 100000 in
theorem strsAt_of_owns {w : World} {base n : Nat} {v : Value} {ss : List ByteArray} (h : w.ownsRow base 9 1 v n (sv ss)) (hz : ∀ s ∈ ss, s.size ≤ maxLen) : ∃ ra rc, v = .slice ra n rc ∧ n = ss.length ∧ StrsAt w ra ss ∧ ∀ sb so, ra = some ⟨sb, so, none⟩ → base ≤ sb := by
  have hl : n = ss.length := by have := h.1; rw [sv_length] at this; omega
  rcases h.2 with ⟨rfl, hn⟩ | ⟨g, cap, cur, rfl, _⟩
  · have hb : ss = [] := List.eq_nil_of_length_eq_zero (by omega)
    subst hn hb
    exact ⟨none, 0, rfl, rfl, ⟨.inl rfl, hz⟩, fun _ _ e => by cases e⟩
  · refine ⟨some ⟨g, 0, none⟩, cap, rfl, hl, ⟨.inr ⟨g, 0, rfl, fun j hj => ?_⟩, hz⟩, fun sb so e => by cases e; exact (h.lt _ rfl).1⟩
    rw [Nat.zero_add, World.ownsRow.cellAt h j (by omega)]
    simp [sv, hj]
set_option maxRecDepth 100000 in
theorem StrsAt.setCell {w : World} {sa : Option Addr} {ss : List ByteArray} (h : StrsAt w sa ss) (b j : Nat) (v : Value) (hne : ∀ sb so, sa = some ⟨sb, so, none⟩ → b ≠ sb) : StrsAt (w.setCell ⟨b, j, none⟩ v) sa ss := by
  refine ⟨?_, h.size⟩
  rcases h.cells with h | ⟨sb, so, rfl, hc⟩
  · exact .inl h
  · exact .inr ⟨sb, so, rfl, fun k hk => (World.cell?_setCell_far _ _ _ _ (hne sb so rfl)).trans (hc k hk)⟩
end Go.Proofs.YtbmodfegcmaieaaDoor
