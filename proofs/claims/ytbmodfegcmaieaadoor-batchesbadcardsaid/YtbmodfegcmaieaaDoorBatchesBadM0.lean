/- What is reached from a digest: in plain lists. -/
import Derived.Test.YtbmodfegcmaieaaDoorQDagP
import Derived.Test.YtbmodfegcmaieaaDoorQDFndC
import Derived.Test.YtbmodfegcmaieaaDoorGApp
import Derived.Shelf.SlSortCmp.WholeK
import Derived.Ground.SlsfProg
import Derived.Test.YtbmodfegcmaieaaDoorGAppR
import Derived.Test.YtbmodfegcmaieaaDoorGCalls
import Derived.Deep.RegionHeld3
import Derived.Laws.Externs
import Derived.Sort.Grow
import Derived.Sort.Statements
import Derived.Shelf.SlSortCmp.Insertion
import Derived.Test.YtbmodfegcmaieaaDoorGBtRow
import Derived.Test.YtbmodfegcmaieaaDoorGBcF
import Derived.Maps.Own
import Derived.Maps.OwnSet
import Derived.Maps.OwnOps
import Derived.Maps.Views
import Derived.StringKeys
import Derived.Test.YtbmodfegcmaieaaDoorGGrowG
namespace Go.Proofs.YtbmodfegcmaieaaDoor
open Go.RowKit

set_option maxRecDepth 100000 in
theorem find_at (ks : List Ct) (ka : Option Addr) (kc i : Nat) (p : Part) (w : World) (hF : dagF (cvs ks) = 0) (hV : ∀ x ∈ cvs ks, x.vl = [0, 1, 2]) (hi : i < ks.length) (hd : DagAt w ka kc ks) (hp : SliceAt w p.sa p.cap p.bs) (hpd : p.bs = (cvAt (cvs ks) i).d) (h32 : p.bs.length = 32) (hT : Tabs w) :
    Calls Tryd.prog 38 #[.agg #[.slice ka ks.length kc], .slice p.sa 32 p.cap] w fun e w' => (∃ c : Ct, e = .returned (.tuple #[.agg #[.int .i64 c.au, .int .i64 c.rd, .slice c.ba c.bl.length c.bc, .slice c.pa c.pl.length c.pc, .slice c.va c.vl.length c.vc], .int .i64 0]) ∧ CtAt w' c ∧ Hid ((c.v = cvAt (cvs ks) i ∨ (unlikeC (cvAt (cvs ks) i) c.v ∧ Coll (cvs ks))) ∧ c.v ∈ cvs ks) ∧ ∀ b, CtIn c b → w.heap.size ≤ b) ∧ Below w.heap.size w w' := by
  refine (dagFind_own ks ka _ kc p.bs p.sa 32 p.cap w rfl h32.symm hd hp hT).mono ?_
  intro e w' hO
  refine ⟨?_, hO.below⟩
  have hi' : i < (cvs ks).length := by rw [cvs_length]; exact hi
  rcases hO.out with ⟨ec, _, ⟨hz, _⟩ | ⟨_, hz, _⟩⟩ | ⟨_, _, c, he, hcv, hC, hfr⟩
  · rw [hF] at hz; cases hz
  · have := (pOf_self hi').1
    rw [← hpd] at this; omega
  · refine ⟨c, he, hC, ?_, fun b hb => Nat.le_of_lt (hfr b hb)⟩
    have h := pOf_or hV hi'
    rw [← hpd, ← hcv] at h
    refine ⟨h, ?_⟩
    rw [hcv, hpd]
    obtain ⟨g1, g2, _⟩ := pOf_self hi'
    exact cvAt_mem (by omega)
set_option maxRecDepth 100000 in
theorem pOf_short {l : List CV} {d : List Int} (hu : ∀ x ∈ d, 0 ≤ x ∧ x ≤ 255) (hd : d.length ≠ 32) : pOf l d = -1 := by
  refine fidx_none _ _ (fun j hj => ?_)
  rw [dHit]
  refine decide_eq_false (fun h => hd ?_)
  rw [← txL_inj (CV.d_u8 _) hu h, CV.d_length]
end Go.Proofs.YtbmodfegcmaieaaDoor

namespace Go.Proofs.YtbmodfegcmaieaaDoor
open Go.Shelf

def sortO_ren : Go.Shelf.Ren := ⟨fun | 6 => 74 | 15 => 97 | 14 => 96 | 28 => 123 | 29 => 124 | 20 => 115 | 21 => 116 | 22 => 117 | 23 => 118 | 24 => 119 | 25 => 120 | 26 => 121 | 27 => 122 | 46 => 132 | 47 => 133 | 48 => 134 | 49 => 135 | 50 => 136 | 57 => 138 | n => n, fun | 22 => 87 | 24 => 91 | 25 => 113 | 3 => 3 | 39 => 124 | 0 => 0 | 53 => 141 | 55 => 164 | 4 => 4 | 46 => 156 | 45 => 155 | 50 => 160 | 5 => 5 | 9 => 9 | 66 => 177 | 70 => 181 | 76 => 185 | 77 => 186 | n => n, fun | n => n⟩
set_option maxRecDepth 100000 in
theorem sortO : Go.Proofs.SlLaysF0.n6 Tryd.prog sortO_ren := {
  mixed := by kernel_rfl
  f6 := ⟨Tryd.f74.name, by decide, Tryd.func74.trans (congrArg some (by kernel_rfl))⟩
  f14 := ⟨Tryd.f96.name, by decide, Tryd.func96.trans (congrArg some (by kernel_rfl))⟩
  f15 := Tryd.func97.trans (congrArg some (by kernel_rfl))
  f20 := ⟨Tryd.f115.name, by decide, Tryd.func115.trans (congrArg some (by kernel_rfl))⟩
  f21 := ⟨Tryd.f116.name, by decide, Tryd.func116.trans (congrArg some (by kernel_rfl))⟩
  f22 := ⟨Tryd.f117.name, by decide, Tryd.func117.trans (congrArg some (by kernel_rfl))⟩
  f23 := ⟨Tryd.f118.name, by decide, Tryd.func118.trans (congrArg some (by kernel_rfl))⟩
  f24 := ⟨Tryd.f119.name, by decide, Tryd.func119.trans (congrArg some (by kernel_rfl))⟩
  f25 := ⟨Tryd.f120.name, by decide, Tryd.func120.trans (congrArg some (by kernel_rfl))⟩
  f26 := ⟨Tryd.f121.name, by decide, Tryd.func121.trans (congrArg some (by kernel_rfl))⟩
  f27 := ⟨Tryd.f122.name, by decide, Tryd.func122.trans (congrArg some (by kernel_rfl))⟩
  f28 := Tryd.func123.trans (congrArg some (by kernel_rfl))
  f29 := Tryd.func124.trans (congrArg some (by kernel_rfl))
  f46 := ⟨Tryd.f132.name, by decide, Tryd.func132.trans (congrArg some (by kernel_rfl))⟩
  f47 := Tryd.func133.trans (congrArg some (by kernel_rfl))
  f48 := Tryd.func134.trans (congrArg some (by kernel_rfl))
  f49 := ⟨Tryd.f135.name, by decide, Tryd.func135.trans (congrArg some (by kernel_rfl))⟩
  f50 := ⟨Tryd.f136.name, by decide, Tryd.func136.trans (congrArg some (by kernel_rfl))⟩
  f57 := ⟨Tryd.f138.name, by decide, Tryd.func138.trans (congrArg some (by kernel_rfl))⟩
  t0 := Tryd.underlying0
  a0 := Tryd.isAgg0
  z0 := Tryd.sizeOf0
  v0 := Tryd.zeroValue0
  t3 := Tryd.underlying3
  a3 := Tryd.isAgg3
  z3 := Tryd.sizeOf3
  v3 := Tryd.zeroValue3
  t4 := Tryd.underlying4
  a4 := Tryd.isAgg4
  z4 := Tryd.sizeOf4
  v4 := Tryd.zeroValue4
  t5 := Tryd.underlying5
  a5 := Tryd.isAgg5
  z5 := Tryd.sizeOf5
  v5 := Tryd.zeroValue5
  t9 := Tryd.underlying9
  a9 := Tryd.isAgg9
  z9 := Tryd.sizeOf9
  v9 := Tryd.zeroValue9
  t22 := Tryd.underlying87
  a22 := Tryd.isAgg87
  z22 := Tryd.sizeOf87
  v22 := Tryd.zeroValue87
  t25 := Tryd.underlying113
  a25 := Tryd.isAgg113
  z25 := Tryd.sizeOf113
  v25 := Tryd.zeroValue113
  t39 := Tryd.underlying124
  a39 := Tryd.isAgg124
  z39 := Tryd.sizeOf124
  v39 := Tryd.zeroValue124
  t45 := Tryd.underlying155
  a45 := Tryd.isAgg155
  z45 := Tryd.sizeOf155
  v45 := Tryd.zeroValue155
  t46 := Tryd.underlying156
  a46 := Tryd.isAgg156
  z46 := Tryd.sizeOf156
  v46 := Tryd.zeroValue156
  t50 := Tryd.underlying160
  a50 := Tryd.isAgg160
  z50 := Tryd.sizeOf160
  v50 := Tryd.zeroValue160
  t53 := Tryd.underlying141
  a53 := Tryd.isAgg141
  z53 := Tryd.sizeOf141
  v53 := Tryd.zeroValue141
  t55 := Tryd.underlying164
  a55 := Tryd.isAgg164
  z55 := Tryd.sizeOf164
  v55 := Tryd.zeroValue164
  t66 := Tryd.underlying177
  a66 := Tryd.isAgg177
  z66 := Tryd.sizeOf177
  v66 := Tryd.zeroValue177
  t70 := Tryd.underlying181
  a70 := Tryd.isAgg181
  z70 := Tryd.sizeOf181
  v70 := Tryd.zeroValue181
  t76 := Tryd.underlying185
  a76 := Tryd.isAgg185
  z76 := Tryd.sizeOf185
  v76 := Tryd.zeroValue185
  t77 := Tryd.underlying186
  a77 := Tryd.isAgg186
  z77 := Tryd.sizeOf186
  v77 := Tryd.zeroValue186 }
end Go.Proofs.YtbmodfegcmaieaaDoor

namespace Go.Proofs.YtbmodfegcmaieaaDoor
open Go.RowKit

def cI (x y : Int) : Int := if x < y then -1 else if y < x then 1 else 0
/-- A comparison by which just what is the same is even. -/
structure Lin {α : Type} (c : α → α → Int) : Prop where
  refl : ∀ x, c x x = 0
  eq : ∀ x y, c x y = 0 → x = y
  neg : ∀ x y, c x y < 0 → 0 < c y x
  pos : ∀ x y, 0 < c x y → c y x < 0
  trans : ∀ x y z, c x y < 0 → c y z < 0 → c x z < 0
set_option maxRecDepth 100000 in
theorem cI_lt {x y : Int} (h : x < y) : cI x y = -1 := by simp [cI, h]
set_option maxRecDepth 100000 in
theorem cI_gt {x y : Int} (h : y < x) : cI x y = 1 := by have h2 : ¬ x < y := by omega
                                                         simp [cI, h, h2]
set_option maxRecDepth 100000 in
theorem cI_eq (x : Int) : cI x x = 0 := by simp [cI]
set_option maxRecDepth 100000 in
theorem cI_or (x y : Int) : (x < y ∧ cI x y = -1) ∨ (y < x ∧ cI x y = 1) ∨ (x = y ∧ cI x y = 0) := by
  rcases Int.lt_trichotomy x y with h | h | h
  · exact .inl ⟨h, cI_lt h⟩
  · subst h; exact .inr (.inr ⟨rfl, cI_eq _⟩)
  · exact .inr (.inl ⟨h, cI_gt h⟩)
set_option maxRecDepth 100000 in
theorem lin_cI : Lin cI := by
  refine ⟨fun x => cI_eq x, fun x y h => ?_, fun x y h => ?_, fun x y h => ?_, fun x y z h1 h2 => ?_⟩
  · rcases cI_or x y with g | g | g <;> omega
  · rcases cI_or x y with g | g | g <;> rcases cI_or y x with k | k | k <;> omega
  · rcases cI_or x y with g | g | g <;> rcases cI_or y x with k | k | k <;> omega
  · rcases cI_or x y with g | g | g <;> rcases cI_or y z with k | k | k <;> rcases cI_or x z with l | l | l <;> omega
/-- One behind the other. -/
def lexC {α β : Type} (c : α → α → Int) (d : β → β → Int) (x y : α × β) : Int := if c x.1 y.1 ≠ 0 then c x.1 y.1 else d x.2 y.2
set_option maxRecDepth 100000 in
theorem lin_lex {α β : Type} {c : α → α → Int} {d : β → β → Int} (hc : Lin c) (hd : Lin d) : Lin (lexC c d) := by
  refine ⟨fun x => ?_, fun x y h => ?_, fun x y h => ?_, fun x y h => ?_, fun x y z h1 h2 => ?_⟩
  · simp [lexC, hc.refl, hd.refl]
  · unfold lexC at h
    split at h
    · contradiction
    · rename_i g
      have g : c x.1 y.1 = 0 := by simpa using g
      exact Prod.ext (hc.eq _ _ g) (hd.eq _ _ h)
  · unfold lexC at h ⊢
    split at h
    · have := hc.neg _ _ h
      rw [if_pos (by omega)]; exact this
    · rename_i g
      have g : c x.1 y.1 = 0 := by simpa using g
      have e := hc.eq _ _ g
      rw [e, if_neg (by simp [hc.refl])]; exact hd.neg _ _ h
  · unfold lexC at h ⊢
    split at h
    · have := hc.pos _ _ h
      rw [if_pos (by omega)]; exact this
    · rename_i g
      have g : c x.1 y.1 = 0 := by simpa using g
      have e := hc.eq _ _ g
      rw [e, if_neg (by simp [hc.refl])]; exact hd.pos _ _ h
  · unfold lexC at h1 h2 ⊢
    by_cases g1 : c x.1 y.1 = 0
    · have e := hc.eq _ _ g1
      rw [if_neg (by simpa using g1)] at h1
      rw [e]
      by_cases g2 : c y.1 z.1 = 0
      · rw [if_neg (by simpa using g2)] at h2 ⊢
        exact hd.trans _ _ _ h1 h2
      · rw [if_pos g2] at h2 ⊢
        exact h2
    · rw [if_pos g1] at h1
      by_cases g2 : c y.1 z.1 = 0
      · have e := hc.eq _ _ g2
        rw [← e, if_pos g1]; exact h1
      · rw [if_pos g2] at h2
        have := hc.trans _ _ _ h1 h2
        rw [if_pos (by omega)]; exact this
set_option maxRecDepth 100000 in
theorem Lin.swo {α β : Type} {c : α → α → Int} (h : Lin c) (k : β → α) : Go.Sort.SWO (Go.Proofs.ltOf fun x y : β => c (k x) (k y)) := by
  refine ⟨fun x => ?_, fun x y z h1 h2 => ?_, fun x y z h1 h2 => ?_⟩
  · simp [Go.Proofs.ltOf, h.refl]
  · simp only [Go.Proofs.ltOf, decide_eq_true_eq] at *
    exact h.trans _ _ _ h1 h2
  · simp only [Go.Proofs.ltOf, decide_eq_false_iff_not] at *
    intro h3
    rcases Int.lt_trichotomy (c (k x) (k y)) 0 with g | g | g
    · exact h1 g
    · rw [h.eq _ _ g] at h3; exact h2 h3
    · rcases Int.lt_trichotomy (c (k y) (k z)) 0 with g2 | g2 | g2
      · exact h2 g2
      · rw [← h.eq _ _ g2] at h3; exact h1 h3
      · have a := h.trans _ _ _ (h.pos _ _ g2) (h.pos _ _ g)
        have b := h.neg _ _ a
        omega
/-- The first that is not nought. -/
def orF : List Int → Int
  | [] => 0
  | x :: r => if x ≠ 0 then x else orF r
/-- Rounds, then authors. -/
def cmpRA (x y : Int × Int) : Int := lexC cI cI x y
set_option maxRecDepth 100000 in
theorem lin_cmpRA : Lin cmpRA := lin_lex lin_cI lin_cI
set_option maxRecDepth 100000 in
theorem cmpRA_or (a b c d : Int) : cmpRA (a, b) (c, d) = orF [cI a c, cI b d] := by
  simp only [cmpRA, lexC, orF]
  by_cases h0 : cI a c = 0
  · by_cases h1 : cI b d = 0 <;> simp [h0, h1]
  · simp [h0]
set_option maxRecDepth 100000 in
theorem cmpRA_neg {x y : Int × Int} : cmpRA x y < 0 ↔ (x.1 < y.1 ∨ (x.1 = y.1 ∧ x.2 < y.2)) := by
  unfold cmpRA lexC
  rcases cI_or x.1 y.1 with h | h | h <;> rcases cI_or x.2 y.2 with g | g | g <;> rw [h.2, g.2] <;> simp <;> omega
set_option maxRecDepth 100000 in
theorem isNaN_any (x : Int) (w : World) : Calls Tryd.prog 98 #[.int .i64 x] w fun e w' => e = .returned (.bool false) ∧ w = w' := by
  go_enter Tryd.func98, Tryd.ntmps98
  go_wp2
  go_ret
  exact ⟨by simp, rfl⟩
set_option maxRecDepth 100000 in
set_option maxHeartbeats 1000000 in
theorem compareInt_any (x y : Int) (w : World) : Calls Tryd.prog 77 #[.int .i64 x, .int .i64 y] w fun e w' => e = .returned (.int .i64 (cI x y)) ∧ w = w' := by
  rcases Int.lt_trichotomy x y with h | h | h
  · have hF : Hid (cI x y = -1) := cI_lt h
    go_enter Tryd.func77, Tryd.ntmps77
    go_wp2_with (go_at_call 98; refine (isNaN_any _ _).mono ?_; rintro e w' ⟨rfl, rfl⟩)
    go_ret
    exact ⟨ret_int hF.out.symm, rfl⟩
  · subst h
    have hF : Hid (cI x x = 0) := cI_eq x
    go_enter Tryd.func77, Tryd.ntmps77
    go_wp2_with (go_at_call 98; refine (isNaN_any _ _).mono ?_; rintro e w' ⟨rfl, rfl⟩)
    go_ret
    exact ⟨ret_int hF.out.symm, rfl⟩
  · have hF : Hid (cI x y = 1) := cI_gt h
    have h2 : ¬ x < y := by omega
    go_enter Tryd.func77, Tryd.ntmps77
    go_wp2_with (go_at_call 98; refine (isNaN_any _ _).mono ?_; rintro e w' ⟨rfl, rfl⟩)
    go_ret
    exact ⟨ret_int hF.out.symm, rfl⟩
/-- Nothing but draws and new blocks. -/
def Gr (w w' : World) : Prop := ∃ q os, w' = Go.Sort.grow (w.drewN q) os
set_option maxRecDepth 100000 in
theorem Gr.refl (w : World) : Gr w w := ⟨0, #[], by simp [Go.Sort.grow, World.drewN]⟩
set_option maxRecDepth 100000 in
theorem Gr.trans {a b c : World} (h : Gr a b) (k : Gr b c) : Gr a c := by
  obtain ⟨q, os, rfl⟩ := h
  obtain ⟨q', os', rfl⟩ := k
  exact ⟨q + q', os ++ os', by simp [Go.Sort.grow, World.drewN, Array.append_assoc, Nat.add_assoc]⟩
set_option maxRecDepth 100000 in
theorem Gr.alloc {a b : World} (h : Gr a b) (o : Obj) : Gr a (b.alloc o) := h.trans ⟨0, #[o], by rw [Go.Sort.alloc_eq_grow]; rfl⟩
set_option maxRecDepth 100000 in
theorem Gr.drew {a b : World} (h : Gr a b) : Gr a b.drew := h.trans ⟨1, #[], by unfold Go.Sort.grow; rw [Array.append_empty]; rfl⟩
set_option maxRecDepth 100000 in
theorem Gr.below {a b : World} (h : Gr a b) : Below a.heap.size a b := by
  obtain ⟨q, os, rfl⟩ := h
  refine ⟨rfl, rfl, rfl, by simp [Go.Sort.grow, World.drewN], fun k hk => ?_⟩
  show (a.heap ++ os)[k]? = _
  rw [Array.getElem?_append_left hk]
set_option maxRecDepth 100000 in
set_option maxHeartbeats 1000000 in
theorem cmpOr_any (l : List Int) (sb so cap : Nat) (w : World) (hl : l.length ≤ 1000) (h : ∀ j (h : j < l.length), w.cell? ⟨sb, so + j, none⟩ = some (.int .i64 (l[j]))) :
    Calls Tryd.prog 76 #[.slice (some ⟨sb, so, none⟩) l.length cap] w fun e w' => e = .returned (.int .i64 (orF l)) ∧ w = w' := by
  have HH : Hid (∀ j (h : j < l.length), w.cell? ⟨sb, so + j, none⟩ = some (.int .i64 (l[j]))) := h
  clear h
  go_enter Tryd.func76, Tryd.ntmps76
  go_wp2_with fail
  go_loop [8] (fun i => ∃ m : Nat, m ≤ l.length ∧ i = .int .i64 m ∧ orF l = orF (l.drop m)) (fun i => l.length - (intOf i).toNat)
  case atStart => exact ⟨0, Nat.zero_le _, rfl, rfl⟩
  case round =>
    obtain ⟨m, hm, rfl, hno⟩ := hrel
    by_cases hlt : m < l.length
    · have c0 := HH.out m hlt
      have hd : Hid (l.drop m = l[m] :: l.drop (m + 1)) := List.drop_eq_getElem_cons hlt
      have HN : Hid (orF l = orF (l.drop m)) := hno
      clear hno
      have hltI : (m : Int) < l.length := by omega
      generalize l[m] = x at *
      by_cases hx : x = 0
      · have h2 : Hid (orF l = orF (l.drop (m + 1))) := by show _ = _; rw [HN.out, hd.out, orF, if_neg (by simp [hx])]
        clear HN hd
        go_wp2_with fail
        go_round
        case rel => exact ⟨m + 1, by omega, by go_num, h2.out⟩
        case measure => simp [intOf]; omega
      · have h2 : Hid (orF l = x) := by show _ = _; rw [HN.out, hd.out, orF, if_pos hx]
        clear HN hd
        go_wp2_with fail
        go_ret
        exact ⟨ret_int h2.out.symm, rfl⟩
    · obtain rfl : m = l.length := by omega
      have h2 : Hid (orF l = 0) := by show _ = _; rw [hno, List.drop_length]; rfl
      clear hno
      go_wp2_with fail
      go_ret
      exact ⟨ret_int h2.out.symm, rfl⟩
end Go.Proofs.YtbmodfegcmaieaaDoor

namespace Go.Proofs.YtbmodfegcmaieaaDoor
open Go.RowKit

set_option maxRecDepth 100000 in
set_option maxHeartbeats 4000000 in
theorem cmpStep_any (au rd bu sd : Int) (a2 : Option Addr) (n2 c2 : Nat) (a3 : Option Addr) (n3 c3 : Nat) (a4 : Option Addr) (n4 c4 : Nat) (b2 : Option Addr) (m2 d2 : Nat) (b3 : Option Addr) (m3 d3 : Nat) (b4 : Option Addr) (m4 d4 : Nat) (w : World) :
    Calls Tryd.prog 75 #[.agg #[.int .i64 au, .int .i64 rd, .slice a2 n2 c2, .slice a3 n3 c3, .slice a4 n4 c4], .agg #[.int .i64 bu, .int .i64 sd, .slice b2 m2 d2, .slice b3 m3 d3, .slice b4 m4 d4]] w fun e w' => e = .returned (.int .i64 (cmpRA (rd, au) (sd, bu))) ∧ Gr w w' := by
  have hG : Gr w ((w.alloc (.cells #[.int .i64 au, .int .i64 rd, .slice a2 n2 c2, .slice a3 n3 c3, .slice a4 n4 c4] 91)).alloc (.cells #[.int .i64 bu, .int .i64 sd, .slice b2 m2 d2, .slice b3 m3 d3, .slice b4 m4 d4] 91)) := ((Gr.refl w).alloc _).alloc _
  have q0 := heap_alloc2_old w (.cells #[.int .i64 au, .int .i64 rd, .slice a2 n2 c2, .slice a3 n3 c3, .slice a4 n4 c4] 91) (.cells #[.int .i64 bu, .int .i64 sd, .slice b2 m2 d2, .slice b3 m3 d3, .slice b4 m4 d4] 91)
  have q1 : ((w.alloc (.cells #[.int .i64 au, .int .i64 rd, .slice a2 n2 c2, .slice a3 n3 c3, .slice a4 n4 c4] 91)).alloc (.cells #[.int .i64 bu, .int .i64 sd, .slice b2 m2 d2, .slice b3 m3 d3, .slice b4 m4 d4] 91)).heap[w.heap.size + 1]? = some (.cells #[.int .i64 bu, .int .i64 sd, .slice b2 m2 d2, .slice b3 m3 d3, .slice b4 m4 d4] 91 (0, 0)) := by
    have := heap_alloc_new (w.alloc (.cells #[.int .i64 au, .int .i64 rd, .slice a2 n2 c2, .slice a3 n3 c3, .slice a4 n4 c4] 91)) (.cells #[.int .i64 bu, .int .i64 sd, .slice b2 m2 d2, .slice b3 m3 d3, .slice b4 m4 d4] 91)
    rw [size_alloc] at this; exact this
  have HC : Hid (cmpRA (rd, au) (sd, bu) = orF [cI rd sd, cI au bu]) := cmpRA_or rd au sd bu
  go_enter Tryd.func75, Tryd.ntmps75
  go_wp2_with fail
  generalize (w.alloc (.cells #[.int .i64 au, .int .i64 rd, .slice a2 n2 c2, .slice a3 n3 c3, .slice a4 n4 c4] 91)).alloc (.cells #[.int .i64 bu, .int .i64 sd, .slice b2 m2 d2, .slice b3 m3 d3, .slice b4 m4 d4] 91) = W0 at hG q0 q1 ⊢
  have k0 := cells_at q0 0 _ rfl
  have k1 := cells_at q0 1 _ rfl
  have l0 := cells_at q1 0 _ rfl
  have l1 := cells_at q1 1 _ rfl
  have H0 := compareInt_any rd sd W0.drew
  have H1 := compareInt_any au bu W0.drew
  generalize cI rd sd = r0 at *
  generalize cI au bu = r1 at *
  refine wp_region_held_drew (S := (fun w' => w'.cell? ⟨w.heap.size, 0, none⟩ = some (.int .i64 au) ∧ w'.cell? ⟨w.heap.size, 1, none⟩ = some (.int .i64 rd) ∧ w'.cell? ⟨w.heap.size + 1, 0, none⟩ = some (.int .i64 bu) ∧ w'.cell? ⟨w.heap.size + 1, 1, none⟩ = some (.int .i64 sd))) (by kernel_rfl) ⟨k0, k1, l0, l1⟩ (fun hHeld => ?_)
  refine take_dst (i := 0) (d := 5) (v := .pointer (some ⟨w.heap.size, 0, none⟩)) rfl rfl (by kernel_rfl) (by kernel_rfl) (by kernel_rfl) (fun _ _ _ h => h) (Or.inl ⟨by rfl, ?_⟩) hHeld ?_
  · (intro w0 hSw; (try dsimp only at hSw); go_simp)
  simp only [Act.put, List.setIfInBounds_toArray, List.set_cons_zero, List.set_cons_succ]
  refine take_dst (i := 1) (d := 6) (v := .pointer (some ⟨w.heap.size, 1, none⟩)) rfl rfl (by kernel_rfl) (by kernel_rfl) (by kernel_rfl) (fun _ _ _ h => h) (Or.inl ⟨by rfl, ?_⟩) hHeld ?_
  · (intro w0 hSw; (try dsimp only at hSw); go_simp)
  simp only [Act.put, List.setIfInBounds_toArray, List.set_cons_zero, List.set_cons_succ]
  refine take_dst (i := 2) (d := 7) (v := .int .i64 rd) rfl rfl (by kernel_rfl) (by kernel_rfl) (by kernel_rfl) (fun _ _ _ h => h) (Or.inl ⟨by rfl, ?_⟩) hHeld ?_
  · (intro w0 hSw; (try dsimp only at hSw); go_simp)
  simp only [Act.put, List.setIfInBounds_toArray, List.set_cons_zero, List.set_cons_succ]
  refine take_dst (i := 3) (d := 8) (v := .pointer (some ⟨w.heap.size + 1, 0, none⟩)) rfl rfl (by kernel_rfl) (by kernel_rfl) (by kernel_rfl) (fun _ _ _ h => h) (Or.inl ⟨by rfl, ?_⟩) hHeld ?_
  · (intro w0 hSw; (try dsimp only at hSw); go_simp)
  simp only [Act.put, List.setIfInBounds_toArray, List.set_cons_zero, List.set_cons_succ]
  refine take_dst (i := 4) (d := 9) (v := .pointer (some ⟨w.heap.size + 1, 1, none⟩)) rfl rfl (by kernel_rfl) (by kernel_rfl) (by kernel_rfl) (fun _ _ _ h => h) (Or.inl ⟨by rfl, ?_⟩) hHeld ?_
  · (intro w0 hSw; (try dsimp only at hSw); go_simp)
  simp only [Act.put, List.setIfInBounds_toArray, List.set_cons_zero, List.set_cons_succ]
  refine take_dst (i := 5) (d := 10) (v := .int .i64 sd) rfl rfl (by kernel_rfl) (by kernel_rfl) (by kernel_rfl) (fun _ _ _ h => h) (Or.inl ⟨by rfl, ?_⟩) hHeld ?_
  · (intro w0 hSw; (try dsimp only at hSw); go_simp)
  simp only [Act.put, List.setIfInBounds_toArray, List.set_cons_zero, List.set_cons_succ]
  refine take_dst (i := 7) (d := 12) (v := .pointer (some ⟨w.heap.size, 0, none⟩)) rfl rfl (by kernel_rfl) (by kernel_rfl) (by kernel_rfl) (fun _ _ _ h => h) (Or.inl ⟨by rfl, ?_⟩) hHeld ?_
  · (intro w0 hSw; (try dsimp only at hSw); go_simp)
  simp only [Act.put, List.setIfInBounds_toArray, List.set_cons_zero, List.set_cons_succ]
  refine take_dst (i := 8) (d := 13) (v := .pointer (some ⟨w.heap.size, 0, none⟩)) rfl rfl (by kernel_rfl) (by kernel_rfl) (by kernel_rfl) (fun _ _ _ h => h) (Or.inl ⟨by rfl, ?_⟩) hHeld ?_
  · (intro w0 hSw; (try dsimp only at hSw); go_simp)
  simp only [Act.put, List.setIfInBounds_toArray, List.set_cons_zero, List.set_cons_succ]
  refine take_dst (i := 9) (d := 14) (v := .int .i64 au) rfl rfl (by kernel_rfl) (by kernel_rfl) (by kernel_rfl) (fun _ _ _ h => h) (Or.inl ⟨by rfl, ?_⟩) hHeld ?_
  · (intro w0 hSw; (try dsimp only at hSw); go_simp)
  simp only [Act.put, List.setIfInBounds_toArray, List.set_cons_zero, List.set_cons_succ]
  refine take_dst (i := 10) (d := 15) (v := .pointer (some ⟨w.heap.size + 1, 0, none⟩)) rfl rfl (by kernel_rfl) (by kernel_rfl) (by kernel_rfl) (fun _ _ _ h => h) (Or.inl ⟨by rfl, ?_⟩) hHeld ?_
  · (intro w0 hSw; (try dsimp only at hSw); go_simp)
  simp only [Act.put, List.setIfInBounds_toArray, List.set_cons_zero, List.set_cons_succ]
  refine take_dst (i := 11) (d := 16) (v := .pointer (some ⟨w.heap.size + 1, 0, none⟩)) rfl rfl (by kernel_rfl) (by kernel_rfl) (by kernel_rfl) (fun _ _ _ h => h) (Or.inl ⟨by rfl, ?_⟩) hHeld ?_
  · (intro w0 hSw; (try dsimp only at hSw); go_simp)
  simp only [Act.put, List.setIfInBounds_toArray, List.set_cons_zero, List.set_cons_succ]
  refine take_dst (i := 12) (d := 17) (v := .int .i64 bu) rfl rfl (by kernel_rfl) (by kernel_rfl) (by kernel_rfl) (fun _ _ _ h => h) (Or.inl ⟨by rfl, ?_⟩) hHeld ?_
  · (intro w0 hSw; (try dsimp only at hSw); go_simp)
  simp only [Act.put, List.setIfInBounds_toArray, List.set_cons_zero, List.set_cons_succ]
  refine wpAnyH_ready (rs := [6]) (by kernel_rfl) (by simp) (AllReadyH.cons rfl (fun K hK => ?_) AllReadyH.nil)
  refine step_calls_dst rfl 11 rfl 77 [.tmp 7, .tmp 10] #[3, 3] rfl [.int .i64 rd, .int .i64 sd] rfl (enters_of Tryd.func77 (by kernel_rfl) rfl) (fun v w' => v = .int .i64 r0 ∧ W0.drew = w') (H0.mono (fun e w2 h => ⟨_, h.1, rfl, h.2⟩)) ?_
  rintro v w2 ⟨rfl, rfl⟩
  refine hK.out _ _ ⟨k0, k1, l0, l1⟩ (fun hHeld => ?_)
  simp only [Act.put, List.setIfInBounds_toArray, List.set_cons_zero, List.set_cons_succ]
  refine wpAnyH_ready (rs := [13]) (by kernel_rfl) (by simp) (AllReadyH.cons rfl (fun K hK => ?_) AllReadyH.nil)
  refine step_calls_dst rfl 18 rfl 77 [.tmp 14, .tmp 17] #[3, 3] rfl [.int .i64 au, .int .i64 bu] rfl (enters_of Tryd.func77 (by kernel_rfl) rfl) (fun v w' => v = .int .i64 r1 ∧ W0.drew = w') (H1.mono (fun e w2 h => ⟨_, h.1, rfl, h.2⟩)) ?_
  rintro v w2 ⟨rfl, rfl⟩
  refine hK.out _ _ ⟨k0, k1, l0, l1⟩ (fun hHeld => ?_)
  simp only [Act.put, List.setIfInBounds_toArray, List.set_cons_zero, List.set_cons_succ]
  refine wpAnyH_ready (rs := [14]) (by kernel_rfl) (by simp) (AllReadyH.cons rfl (fun K hK => ?_) AllReadyH.nil)
  refine step_run rfl 19 rfl (.slice (some ⟨W0.heap.size, 0, none⟩) 2 2) (W0.drew.alloc (.cells #[.int .i64 r0, .int .i64 r1] 3)) (by go_simp) ?_
  have m0 := heap_keep (o := .cells #[.int .i64 r0, .int .i64 r1] 3) (w := W0.drew) q0
  have m1 := heap_keep (o := .cells #[.int .i64 r0, .int .i64 r1] 3) (w := W0.drew) q1
  have m2 := heap_alloc_new W0.drew (.cells #[.int .i64 r0, .int .i64 r1] 3)
  have hG2 := (hG.drew).alloc (.cells #[.int .i64 r0, .int .i64 r1] 3)
  have HO := cmpOr_any [r0, r1] W0.heap.size 0 2 (W0.drew.alloc (.cells #[.int .i64 r0, .int .i64 r1] 3)) (by simp) (by
    intro j hj
    have hj : j < 2 := hj
    match j, hj with
    | 0, _ => exact cells_at m2 0 _ rfl
    | 1, _ => exact cells_at m2 1 _ rfl)
  generalize W0.drew.alloc (.cells #[.int .i64 r0, .int .i64 r1] 3) = W1 at m0 m1 m2 hG2 HO ⊢
  have n0 := cells_at m0 0 _ rfl
  have n1 := cells_at m0 1 _ rfl
  have o0 := cells_at m1 0 _ rfl
  have o1 := cells_at m1 1 _ rfl
  rw [← HC.out] at HO
  refine hK.out _ _ ⟨n0, n1, o0, o1⟩ (fun hHeld => ?_)
  simp only [Act.put, List.setIfInBounds_toArray, List.set_cons_zero, List.set_cons_succ]
  refine wpAnyH_ready (rs := [15]) (by kernel_rfl) (by simp) (AllReadyH.cons rfl (fun K hK => ?_) AllReadyH.nil)
  refine step_calls_dst rfl 20 rfl 76 [.tmp 19] #[61] rfl [.slice (some ⟨W0.heap.size, 0, none⟩) 2 2] rfl (enters_of Tryd.func76 (by kernel_rfl) rfl) (fun v w' => v = .int .i64 (cmpRA (rd, au) (sd, bu)) ∧ W1 = w') (HO.mono (fun e w2 h => ⟨_, h.1, rfl, h.2⟩)) ?_
  rintro v w2 ⟨rfl, rfl⟩
  refine hK.out _ _ ⟨n0, n1, o0, o1⟩ (fun hHeld => ?_)
  simp only [Act.put, List.setIfInBounds_toArray, List.set_cons_zero, List.set_cons_succ]
  generalize hr : cmpRA (rd, au) (sd, bu) = r
  have HR : Hid (cmpRA (rd, au) (sd, bu) = r) := hr
  clear hr
  refine wpAnyH_ready (rs := [16]) (by kernel_rfl) (by simp) (AllReadyH.cons rfl (fun K hK => ?_) AllReadyH.nil)
  refine step_run rfl 4 rfl (.int .i64 r) W1 (by go_simp) ?_
  refine hK.out _ _ ⟨n0, n1, o0, o1⟩ (fun hHeld => ?_)
  simp only [Act.put, List.setIfInBounds_toArray, List.set_cons_zero, List.set_cons_succ]
  refine wpAnyH_done (by kernel_rfl) ?_ _
  go_wp2_with fail
  go_ret
  exact ⟨ret_int HR.out.symm, hG2⟩
end Go.Proofs.YtbmodfegcmaieaaDoor

namespace Go.Proofs.YtbmodfegcmaieaaDoor
open Go.RowKit Go.WideMaps Go.Maps

set_option maxRecDepth 100000 in
theorem keyT : Keyed Tryd.prog 9 := string_keyed Tryd.underlying9
set_option maxRecDepth 100000 in
theorem zeroU (w : World) : (zeroValue 120).run Tryd.prog w = .ok (.agg #[]) w := by kernel_rfl
def keyS (s : ByteArray) : Lit := .string s.data.toList
set_option maxRecDepth 100000 in
theorem keyS_inj {a b : ByteArray} (h : keyS a = keyS b) : a = b := by
  unfold keyS at h
  injection h with h
  exact ByteArray.ext (Array.toList_inj.1 h)
set_option maxRecDepth 100000 in
theorem has_texts (l : List ByteArray) (s : ByteArray) : Maps.has (setOf (H := Unit) (.agg []) (l.map keyS)) (keyS s) = inO s l := by
  rw [has_setOf _ _ _ (by intro x hx; obtain ⟨y, _, rfl⟩ := List.mem_map.1 hx; exact trivial)]
  rw [Bool.eq_iff_iff]
  simp only [List.any_map, List.any_eq_true, Function.comp, inO_iff]
  constructor
  · rintro ⟨y, hy, h⟩
    rw [← keyS_inj ((WideAt.sameKey_iff (show WideAt.IsKeyLit (keyS s) from trivial)).1 h)]
    exact hy
  · intro h
    exact ⟨s, h, (WideAt.sameKey_iff (show WideAt.IsKeyLit (keyS s) from trivial)).2 rfl⟩
set_option maxRecDepth 100000 in
theorem makeMapT (n : Int) (w : World) : (Instr.makeMap 119 (some (.int .i64 n))).run Tryd.prog w = .ok (.map (some w.heap.size)) (w.alloc (.map #[] 0)) := by
  simp [Instr.makeMap, run_underlying Tryd.underlying119, Result.andThen]
  rfl
set_option maxRecDepth 100000 in
set_option maxHeartbeats 4000000 in
theorem eachOnce_any (ss : List ByteArray) (sa : Option Addr) (n cap : Nat) (w : World) (hn : n = ss.length) (hl : ss.length ≤ 1099511627776) (hp : StrsAt w sa ss) :
    Calls Tryd.prog 59 #[.slice sa n cap] w fun e w' => ∃ v, e = .returned v ∧ w'.ownsRow (w.heap.size + 1) 9 1 v (onceS [] ss).length (sv (onceS [] ss)) ∧ Below w.heap.size w w' := by
  subst hn
  obtain ⟨i, hi, hz0, hz1, hz2⟩ := info_parts infoStr
  have hmm := makeMapT
  go_enter Tryd.func59, Tryd.ntmps59
  go_wp2_with fail
  go_loopw [14, 3] (fun j v wr => ∃ m : Nat, m ≤ ss.length ∧ j = .int .i64 m ∧ wr.ownsMap Tryd.prog 9 (unitElem (H := Unit)) w.heap.size m (setOf (.agg []) ((onceS [] (ss.take m)).map keyS)) ∧ wr.ownsRow (w.heap.size + 1) 9 1 v (onceS [] (ss.take m)).length (sv (onceS [] (ss.take m))) ∧ Below w.heap.size w wr) (fun j _ _ => ss.length - (intOf j).toNat)
  case atStart => exact ⟨0, Nat.zero_le _, rfl, World.ownsMap_made _ _ _ _, World.ownsRow_nil _ _ _ _, (Below.refl _ _).alloc (Nat.le_refl _) _⟩
  case round =>
    obtain ⟨m, hm, rfl, hown, ho, hb⟩ := hrel
    by_cases hlt : m < ss.length
    · obtain ⟨tb, tq, rfl, hc⟩ : ∃ tb tq, sa = some ⟨tb, tq, none⟩ ∧ ∀ j, j < ss.length → w.cell? ⟨tb, tq + j, none⟩ = some (.string (ss.getD j ByteArray.empty)) := by
        rcases hp.cells with h | h
        · rw [h] at hlt; simp at hlt
        · exact h
      have ck := (hb.cell (p := ⟨tb, tq + m, none⟩) (block_lt_of_cell (hc m hlt))).trans (hc m hlt)
      have hltI : (m : Int) < ss.length := by omega
      have hsz : (ss.getD m ByteArray.empty).size ≤ maxLen := hp.size _ (by simp [List.getD, hlt])
      have hst : Hid (onceS [] (ss.take (m + 1)) = bif inO (ss.getD m ByteArray.empty) (onceS [] (ss.take m)) then onceS [] (ss.take m) else onceS [] (ss.take m) ++ [ss.getD m ByteArray.empty]) := by
        show _ = _
        rw [List.take_succ_eq_append_getElem hlt, onceS_snoc]
        simp [List.getD, hlt]
      have hL : (onceS [] (ss.take m)).length ≤ m := by
        have h := onceS_len (ss.take m) []
        rw [List.length_take] at h
        simp at h
        omega
      clear hc
      generalize ss.getD m ByteArray.empty = x at ck hst hsz
      generalize onceS [] (ss.take m) = acc at *
      have hkey : keyOf Tryd.prog 9 (.string x) = some (keyS x) := keyOf_string_mk Tryd.underlying9 hsz
      have HS : Hid (x.size ≤ maxLen) := hsz
      have HH : Hid (Maps.has (setOf (H := Unit) (.agg []) (acc.map keyS)) (keyS x) = inO x acc) := has_texts acc x
      clear hsz
      cases hx : inO x acc
      case true =>
        have HX : Hid (onceS [] (ss.take (m + 1)) = acc) := by show _ = _; rw [hst.out, hx]; rfl
        have HB : Hid (Maps.has (setOf (H := Unit) (.agg []) (acc.map keyS)) (keyS x) = true) := by show _ = _; rw [HH.out, hx]
        clear hst HH hx
        go_wp2_with (at_lookup; refine wpList_lookup_own_unit _ rfl _ _ 119 rfl 9 120 keyT Tryd.underlying119 (zeroU _) w.heap.size m _ rfl hown _ _ rfl hkey ?_; rw [HB.out])
        go_roundw
        case rel =>
          exact ⟨m + 1, by omega, by go_num, by rw [HX.out]; exact (hown.alloc _).mono (Nat.le_succ _), by rw [HX.out]; exact World.ownsRow.alloc ho _, hb.alloc hb.size _⟩
        case measure => simp [intOf]; omega
      case false =>
        have HX : Hid (onceS [] (ss.take (m + 1)) = acc ++ [x]) := by show _ = _; rw [hst.out, hx]; rfl
        have HB : Hid (Maps.has (setOf (H := Unit) (.agg []) (acc.map keyS)) (keyS x) = false) := by show _ = _; rw [HH.out, hx]
        clear hst HH hx
        go_wp2_with (first
          | (at_lookup; refine wpList_lookup_own_unit _ rfl _ _ 119 rfl 9 120 keyT Tryd.underlying119 (zeroU _) w.heap.size m _ rfl hown _ _ rfl hkey ?_; rw [HB.out])
          | (at_mapUpdate; refine wpList_mapUpdate_own _ rfl _ _ _ 119 rfl 9 120 keyT Tryd.underlying119 (unitElem (H := Unit)) w.heap.size m _ rfl (hown.alloc _) (by unfold maxLen; omega) _ _ _ rfl rfl hkey _ [] unitElem_mk ?_; intro w5 hown5 hgrow5; have ho5 := World.ownsRow.kept (World.ownsRow.alloc ho (.cells #[] 120)) hgrow5 (.inr fun e => Nat.not_succ_le_self _ (ho.lt _ e).1); have hB5 := Below.grown (hb.alloc hb.size (.cells #[] 120)) hgrow5 (le_alloc hb.size _) (fun j hj => by cases hj; exact Nat.le_refl _))
          | (at_builtin; refine wpList_append_own _ rfl _ _ 40 rfl (w.heap.size + 1) 9 i (.string ByteArray.empty) 1 16 Tryd.underlying40 hi hz0 hz1 hz2 rfl (by decide) _ acc.length _ rfl (World.ownsRow.alloc ho5 _) ⟨w5.heap.size, 0, none⟩ 1 1 [.string x] rfl rfl (cells_new _ _ _) (sv_one [_]) (by unfold maxLen; omega) (by omega) (le_alloc hown5.lt _) ?_; intro v1 w6 ho6 hg6 _))
        have hown6 := World.ownsMap.kept (hown5.alloc _) hg6 (fun e => Nat.not_succ_le_self _ (ho5.lt _ e.symm).1)
        have hb6 := Below.grown (hB5.alloc hB5.size _) hg6 (le_alloc hB5.size _) (fun q e => Nat.le_of_succ_le (ho5.lt q e).1)
        go_roundw
        case rel =>
          refine ⟨m + 1, by omega, by go_num, ?_, ?_, hb6⟩
          · rw [HX.out, List.map_append, List.map_cons, List.map_nil, setOf_snoc]; exact hown6
          · rw [HX.out]; simpa [sv] using ho6
        case measure => simp [intOf]; omega
    · obtain rfl : m = ss.length := by omega
      rw [List.take_of_length_le (Nat.le_refl _)] at hown ho
      go_wp2_with fail
      go_ret
      exact ⟨_, rfl, ho, hb⟩
end Go.Proofs.YtbmodfegcmaieaaDoor

namespace Go.Proofs.YtbmodfegcmaieaaDoor
open Go.RowKit

/-- One certificate more, from the last to the first. -/
def rchS (st : List ByteArray × List CV) (c : CV) : List ByteArray × List CV := bif inO (bstr c.d) st.1 then (st.1 ++ c.pl.map bstr, st.2 ++ [c]) else st
/-- What was met, and what is reached, when the certificates from m on were looked at. -/
def rchTo (l : List CV) (k : List Int) (m : Nat) : List ByteArray × List CV := ((l.drop m).reverse).foldl rchS ([bstr k], [])
set_option maxRecDepth 100000 in
theorem rchTo_end (l : List CV) (k : List Int) : rchTo l k l.length = ([bstr k], []) := by simp [rchTo]
set_option maxRecDepth 100000 in
theorem rchTo_step (l : List CV) (k : List Int) (m : Nat) (h : m < l.length) : rchTo l k m = rchS (rchTo l k (m + 1)) (cvAt l m) := by
  rw [rchTo, rchTo, List.drop_eq_getElem_cons h, List.reverse_cons, List.foldl_append]
  simp [cvAt, h]
end Go.Proofs.YtbmodfegcmaieaaDoor
