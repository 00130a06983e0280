/- wire's reader.slot and header. -/
import Derived.Test.YthlknldicpeobaaRdD
namespace Go.Proofs.Ythlknldicpeobaa
open Go.RowKit

/-- What is left to a reader, and whether it was too short. -/
abbrev St := List Int × Bool
def nx (n : Nat) (s : St) : St := (tkL n s.1 s.2, tkS n s.1 s.2)
def tT (n : Nat) (s : St) : List Int := tkT n s.1 s.2
def nB (n : Nat) (s : St) : Int := numB (tT n s)
def dgs (s : St) : List (List Int) := dgD (nx 1 s).1 (nx 1 s).2 (dN s.1 s.2)
def dgS (s : St) : St := dgL (nx 1 s).1 (nx 1 s).2 (dN s.1 s.2)
structure GoodS (s : St) : Prop where
  len : s.1.length ≤ 100000
  u8 : U8s s.1
set_option maxRecDepth 100000 in
theorem GoodS.nx {n : Nat} {s : St} (h : GoodS s) : GoodS (nx n s) := ⟨Nat.le_trans tk_len h.len, h.u8.tkL⟩
set_option maxRecDepth 100000 in
theorem GoodS.dgS {s : St} (h : GoodS s) : GoodS (dgS s) := ⟨Nat.le_trans (dgL_len _ _ _) (h.nx (n := 1)).len, dgL_u8 _ _ _ (h.nx (n := 1)).u8⟩
def RdS (w : World) (R : Nat) (s : St) : Prop := RdrAt w R s.1 s.2
set_option maxRecDepth 100000 in
theorem number_st (R n : Nat) (s : St) (w : World) (hR : RdS w R s) (hs : GoodS s) (hn : n ≤ 3) :
    Calls Try.prog 49 #[.pointer (some ⟨R, 0, none⟩), .int .i64 (n : Int)] w fun e w' => e = .returned (.int .i64 (nB n s)) ∧ RdS w' R (nx n s) ∧ Only R w w' :=
  (number_any R n s.1 s.2 w hR hs.len hn hs.u8).mono (fun _ _ h => h.out)
set_option maxRecDepth 100000 in
theorem round_st (R : Nat) (s : St) (w : World) (hR : RdS w R s) (hs : GoodS s) :
    Calls Try.prog 54 #[.pointer (some ⟨R, 0, none⟩)] w fun e w' => e = .returned (.int .i64 (nB 3 s)) ∧ RdS w' R (nx 3 s) ∧ Only R w w' :=
  (round_any R s.1 s.2 w hR hs.len hs.u8).mono (fun _ _ h => h.out)
set_option maxRecDepth 100000 in
theorem list_only {R B : Nat} {w w' : World} {ra : Option Addr} {rc : Nat} {qs : List Part} (h : ListAt w ra rc qs) (hf : Fresh B ra qs) (ho : Only R w w') (hR : R < B) : ListAt w' ra rc qs := by
  refine ⟨h.le, h.max, h.small, h.some, ⟨?_, fun p hp => (h.parts.each p hp).only ho (fun sb so e => by have := hf.each p hp sb so e; omega)⟩⟩
  rcases h.parts.cells with hc | ⟨sb, so, e, hc⟩
  · exact .inl hc
  · exact .inr ⟨sb, so, e, fun j hj => (World.cell?_of_block (ho.block sb (block_lt_of_cell (hc j hj)) (by have := hf.row sb so e; omega))).trans (hc j hj)⟩
structure SlotR (w w' : World) (e : Ending) (R : Nat) (s : St) : Prop where
  out : ∃ da dc, e = .returned (.agg #[.int .i64 (nB 1 s), .int .i64 (nB 3 (nx 1 s)), .slice da (tT 32 (nx 3 (nx 1 s))).length dc]) ∧ SliceAt w' da dc (tT 32 (nx 3 (nx 1 s))) ∧ (∀ sb so, da = some ⟨sb, so, none⟩ → w.heap.size ≤ sb) ∧ RdS w' R (nx 32 (nx 3 (nx 1 s))) ∧ Only R w w'
set_option maxRecDepth 100000 in
set_option maxHeartbeats 1000000 in
theorem slot_any (R : Nat) (s : St) (w : World) (hR : RdS w R s) (hs : GoodS s) :
    Calls Try.prog 52 #[.pointer (some ⟨R, 0, none⟩)] w fun e w' => SlotR w w' e R s := by
  have hlt : R < w.heap.size := hR.lt
  have hA : Below w.heap.size w (w.alloc (.cells #[.int .i64 0, .int .i64 0, .slice none 0 0] 30)) := (Below.refl _ _).alloc (Nat.le_refl _) _
  have q0 := heap_alloc_new w (.cells #[.int .i64 0, .int .i64 0, .slice none 0 0] 30)
  have hsz : w.heap.size < (w.alloc (.cells #[.int .i64 0, .int .i64 0, .slice none 0 0] 30)).heap.size := lt_of_heap q0
  go_enter Try.func52, Try.ntmps52
  go_wp2_with fail
  generalize w.alloc (.cells #[.int .i64 0, .int .i64 0, .slice none 0 0] 30) = W0 at hA q0 hsz ⊢
  refine (number_st R 1 s W0 (RdrAt.below hR hA) hs (by omega)).mono ?_
  rintro e w1 ⟨he, hR1, ho1⟩
  subst he
  dsimp only
  go_wp2_with fail
  refine (round_st R _ w1 hR1 hs.nx).mono ?_
  rintro e w2 ⟨he, hR2, ho2⟩
  subst he
  dsimp only
  go_wp2_with fail
  refine (digest_any R _ _ w2 hR2 hs.nx.nx.len).mono ?_
  rintro e w3 ⟨da, dc, he, hs3, hf3, hR3, ho3⟩
  subst he
  dsimp only
  have hO := (ho1.trans ho2).trans ho3
  have p3 := (hO.block _ hsz (by omega)).trans q0
  have d0 := cells_at p3 0 _ rfl
  have d1 := cells_at p3 1 _ rfl
  have d2 := cells_at p3 2 _ rfl
  have f0 := frozen_at p3 0
  have f1 := frozen_at p3 1
  have f2 := frozen_at p3 2
  have hX : Hid (SlotR w (((w3.setCell ⟨w.heap.size, 0, none⟩ (.int .i64 (nB 1 s))).setCell ⟨w.heap.size, 1, none⟩ (.int .i64 (nB 3 (nx 1 s)))).setCell ⟨w.heap.size, 2, none⟩ (.slice da (tT 32 (nx 3 (nx 1 s))).length dc)) (.returned (.agg #[.int .i64 (nB 1 s), .int .i64 (nB 3 (nx 1 s)), .slice da (tT 32 (nx 3 (nx 1 s))).length dc])) R s) := by
    have hsz2 := (ho1.trans ho2).size
    have hne : ∀ sb so, da = some ⟨sb, so, none⟩ → w.heap.size ≠ sb := fun sb so e => by have := (hf3 sb so e).1; omega
    refine ⟨da, dc, rfl, ?_, fun sb so e => by have := (hf3 sb so e).1; omega, ((hR3.far hlt).far hlt).far hlt, ?_⟩
    · have far : ∀ (W : World) (j : Nat) (v : Value), SliceAt W da dc (tT 32 (nx 3 (nx 1 s))) → SliceAt (W.setCell ⟨w.heap.size, j, none⟩ v) da dc (tT 32 (nx 3 (nx 1 s))) := fun W j v h => h.only (R := w.heap.size) ((Only.refl _ W).setCell) (fun sb so e e2 => hne sb so e e2.symm)
      exact far _ _ _ (far _ _ _ (far _ _ _ hs3))
    · have hOw := (only_of_below (R := R) hA).trans hO
      refine ⟨hOw.os, hOw.tape, hOw.output, by simpa using hOw.size, fun k hk hn => ?_⟩
      exact (heap_setCell_other _ ⟨w.heap.size, 2, none⟩ k _ (by show k ≠ w.heap.size; omega)).trans ((heap_setCell_other _ ⟨w.heap.size, 1, none⟩ k _ (by show k ≠ w.heap.size; omega)).trans ((heap_setCell_other _ ⟨w.heap.size, 0, none⟩ k _ (by show k ≠ w.heap.size; omega)).trans (hOw.block k hk hn)))
  clear hs3 hf3 hR3 hR1 hR2 hO ho1 ho2 ho3 p3
  change Hid (SlotR w (((w3.setCell ⟨w.heap.size, 0, none⟩ (.int .i64 (nB 1 s))).setCell ⟨w.heap.size, 1, none⟩ (.int .i64 (nB 3 (nx 1 s)))).setCell ⟨w.heap.size, 2, none⟩ (.slice da (tkT 32 (nx 3 (nx 1 s)).1 (nx 3 (nx 1 s)).2).length dc)) (.returned (.agg #[.int .i64 (nB 1 s), .int .i64 (nB 3 (nx 1 s)), .slice da (tkT 32 (nx 3 (nx 1 s)).1 (nx 3 (nx 1 s)).2).length dc])) R s) at hX
  go_wp2_with fail
  exact bodyPost_ret (v := .agg #[.int .i64 (nB 1 s), .int .i64 (nB 3 (nx 1 s)), .slice da (tkT 32 (nx 3 (nx 1 s)).1 (nx 3 (nx 1 s)).2).length dc]) (by simp [results, Try.results52, go_sem, d0, d1, d2]) rfl hX.out
structure HeadRd (w w' : World) (e : Ending) (R : Nat) (s : St) : Prop where
  out : ∃ ba bc bl pa pc pl, e = .returned (.agg #[.int .i64 (nB 1 s), .int .i64 (nB 3 (nx 1 s)), .slice ba (List.length bl) bc, .slice pa (List.length pl) pc]) ∧ bl.map (·.bs) = dgs (nx 3 (nx 1 s)) ∧ pl.map (·.bs) = dgs (dgS (nx 3 (nx 1 s))) ∧ ListAt w' ba bc bl ∧ ListAt w' pa pc pl ∧ Fresh w.heap.size ba bl ∧ Fresh w.heap.size pa pl ∧ RdS w' R (dgS (dgS (nx 3 (nx 1 s)))) ∧ Only R w w'
set_option maxRecDepth 100000 in
set_option maxHeartbeats 1000000 in
theorem header_rd (R : Nat) (s : St) (w : World) (hR : RdS w R s) (hs : GoodS s) :
    Calls Try.prog 51 #[.pointer (some ⟨R, 0, none⟩)] w fun e w' => HeadRd w w' e R s := by
  have hlt : R < w.heap.size := hR.lt
  have hA : Below w.heap.size w (w.alloc (.cells #[.int .i64 0, .int .i64 0, .slice none 0 0, .slice none 0 0] 28)) := (Below.refl _ _).alloc (Nat.le_refl _) _
  have q0 := heap_alloc_new w (.cells #[.int .i64 0, .int .i64 0, .slice none 0 0, .slice none 0 0] 28)
  have hsz : w.heap.size < (w.alloc (.cells #[.int .i64 0, .int .i64 0, .slice none 0 0, .slice none 0 0] 28)).heap.size := lt_of_heap q0
  go_enter Try.func51, Try.ntmps51
  go_wp2_with fail
  generalize w.alloc (.cells #[.int .i64 0, .int .i64 0, .slice none 0 0, .slice none 0 0] 28) = W0 at hA q0 hsz ⊢
  refine (number_st R 1 s W0 (RdrAt.below hR hA) hs (by omega)).mono ?_
  rintro e w1 ⟨he, hR1, ho1⟩
  subst he
  dsimp only
  go_wp2_with fail
  refine (round_st R _ w1 hR1 hs.nx).mono ?_
  rintro e w2 ⟨he, hR2, ho2⟩
  subst he
  dsimp only
  go_wp2_with fail
  refine (digests_any R _ _ w2 hR2 hs.nx.nx.len hs.nx.nx.u8).mono ?_
  rintro e w3 ⟨ba, bc, bl, he, hq3, hL3, hF3, hR3, ho3⟩
  subst he
  dsimp only
  go_wp2_with fail
  refine (digests_any R _ _ w3 hR3 (GoodS.dgS hs.nx.nx).len (GoodS.dgS hs.nx.nx).u8).mono ?_
  rintro e w4 ⟨pa, pc, pl, he, hq4, hL4, hF4, hR4, ho4⟩
  subst he
  dsimp only
  have hO := ((ho1.trans ho2).trans ho3).trans ho4
  have hsz2 := (ho1.trans ho2).size
  have hsz3 := ((ho1.trans ho2).trans ho3).size
  have p3 := (hO.block _ hsz (by omega)).trans q0
  have d0 := cells_at p3 0 _ rfl
  have d1 := cells_at p3 1 _ rfl
  have d2 := cells_at p3 2 _ rfl
  have d3 := cells_at p3 3 _ rfl
  have f0 := frozen_at p3 0
  have f1 := frozen_at p3 1
  have f2 := frozen_at p3 2
  have f3 := frozen_at p3 3
  have hX : Hid (HeadRd w ((((w4.setCell ⟨w.heap.size, 0, none⟩ (.int .i64 (nB 1 s))).setCell ⟨w.heap.size, 1, none⟩ (.int .i64 (nB 3 (nx 1 s)))).setCell ⟨w.heap.size, 2, none⟩ (.slice ba bl.length bc)).setCell ⟨w.heap.size, 3, none⟩ (.slice pa pl.length pc)) (.returned (.agg #[.int .i64 (nB 1 s), .int .i64 (nB 3 (nx 1 s)), .slice ba bl.length bc, .slice pa pl.length pc])) R s) := by
    have hL3' := list_only hL3 hF3 ho4 (by omega)
    have far : ∀ (W : World) (ra : Option Addr) (rc : Nat) (qs : List Part) (B j : Nat) (v : Value), w.heap.size < B → Fresh B ra qs → ListAt W ra rc qs → ListAt (W.setCell ⟨w.heap.size, j, none⟩ v) ra rc qs := fun W ra rc qs B j v hB hF h => h.setCell hF _ _ _ hB
    refine ⟨ba, bc, bl, pa, pc, pl, rfl, hq3, hq4, ?_, ?_, ⟨fun sb so e => by have := hF3.row sb so e; omega, fun p hp sb so e => by have := hF3.each p hp sb so e; omega⟩, ⟨fun sb so e => by have := hF4.row sb so e; omega, fun p hp sb so e => by have := hF4.each p hp sb so e; omega⟩, (((hR4.far hlt).far hlt).far hlt).far hlt, ?_⟩
    · exact far _ _ _ _ _ _ _ (by omega) hF3 (far _ _ _ _ _ _ _ (by omega) hF3 (far _ _ _ _ _ _ _ (by omega) hF3 (far _ _ _ _ w2.heap.size _ _ (by omega) hF3 hL3')))
    · exact far _ _ _ _ _ _ _ (by omega) hF4 (far _ _ _ _ _ _ _ (by omega) hF4 (far _ _ _ _ _ _ _ (by omega) hF4 (far _ _ _ _ w3.heap.size _ _ (by omega) hF4 hL4)))
    · have hOw := (only_of_below (R := R) hA).trans hO
      refine ⟨hOw.os, hOw.tape, hOw.output, by simpa using hOw.size, fun k hk hn => ?_⟩
      exact (heap_setCell_other _ ⟨w.heap.size, 3, none⟩ k _ (by show k ≠ w.heap.size; omega)).trans ((heap_setCell_other _ ⟨w.heap.size, 2, none⟩ k _ (by show k ≠ w.heap.size; omega)).trans ((heap_setCell_other _ ⟨w.heap.size, 1, none⟩ k _ (by show k ≠ w.heap.size; omega)).trans ((heap_setCell_other _ ⟨w.heap.size, 0, none⟩ k _ (by show k ≠ w.heap.size; omega)).trans (hOw.block k hk hn))))
  clear hq3 hq4 hL3 hL4 hF3 hF4 hR3 hR4 hR1 hR2 hO ho1 ho2 ho3 ho4 p3 hsz2 hsz3
  go_wp2_with fail
  exact bodyPost_ret (v := .agg #[.int .i64 (nB 1 s), .int .i64 (nB 3 (nx 1 s)), .slice ba bl.length bc, .slice pa pl.length pc]) (by simp [results, Try.results51, go_sem, d0, d1, d2, d3]) rfl hX.out
end Go.Proofs.Ythlknldicpeobaa
