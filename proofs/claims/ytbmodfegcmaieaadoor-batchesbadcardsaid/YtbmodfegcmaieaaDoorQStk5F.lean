/- stock: Find. -/
import Derived.Test.YtbmodfegcmaieaaDoorGStk6
namespace Go.Proofs.YtbmodfegcmaieaaDoor
open Go.RowKit

/-- What a stock's Find answers. -/
structure FndS (w w' : World) (e : Ending) (l : List CV) (k : List Int) : Prop where
  below : Below w.heap.size w w'
  out : (pOf l k = -1 ∧ e = .returned (.tuple #[.agg #[.int .i64 0, .int .i64 0, .slice none 0 0, .slice none 0 0, .slice none 0 0], .int .i64 8])) ∨ (0 ≤ pOf l k ∧ ∃ c : Ct, e = .returned (.tuple #[.agg #[.int .i64 c.au, .int .i64 c.rd, .slice c.ba c.bl.length c.bc, .slice c.pa c.pl.length c.pc, .slice c.va c.vl.length c.vc], .int .i64 0]) ∧ c.v = cvAt l (pOf l k).toNat ∧ CtAt w' c ∧ (∀ b, CtIn c b → w.heap.size < b))
set_option maxRecDepth 100000 in
set_option maxHeartbeats 1000000 in
theorem find_stk (ls : List Ct) (s : Nat) (ca : Option Addr) (cc : Nat) (da : Option Addr) (dc : Nat) (ds : List Part) (bs : List Int) (ka : Option Addr) (kn kc : Nat) (w : World) (hs : StkAt w s ls ca cc da dc ds) (hF : ∀ c ∈ ls, c.v.f = 0) (hkn : kn = bs.length) (hk : SliceAt w ka kc bs) :
    Calls Tryd.prog 57 #[.pointer (some ⟨s, 0, none⟩), .slice ka kn kc] w fun e w' => FndS w w' e (cvs ls) bs := by
  subst hkn
  have HF : Hid _ := hF
  clear hF
  have hA := (Below.refl w.heap.size w).alloc (Nat.le_refl _) (.cells #[.int .i64 0, .int .i64 0, .slice none 0 0, .slice none 0 0, .slice none 0 0] 63)
  have q1 := heap_alloc_new w (.cells #[.int .i64 0, .int .i64 0, .slice none 0 0, .slice none 0 0, .slice none 0 0] 63)
  go_enter Tryd.func57, Tryd.ntmps57
  go_wp2_with fail
  generalize w.alloc (.cells #[.int .i64 0, .int .i64 0, .slice none 0 0, .slice none 0 0, .slice none 0 0] 63) = W1 at hA q1 ⊢
  refine (withDigest_any ls s ca cc da dc ds bs ka _ kc W1 (hs.below hA) rfl (hk.below hA)).mono ?_
  rintro e w2 ⟨he, hb2⟩
  subst he
  dsimp only
  have hB2 := hA.trans (hb2.mono hA.size)
  have r2 := (hb2.block _ (lt_of_heap q1)).trans q1
  have hbd := pOf_bounds (cvs ls) bs
  rw [cvs_length] at hbd
  have hs2 := hs.below hB2
  by_cases hr : pOf (cvs ls) bs < 0
  · have HP : Hid (pOf (cvs ls) bs = -1) := by
      show _ = _
      omega
    rw [HP.out]
    have d0 := cells_at r2 0 _ rfl
    have d1 := cells_at r2 1 _ rfl
    have d2 := cells_at r2 2 _ rfl
    have d3 := cells_at r2 3 _ rfl
    have d4 := cells_at r2 4 _ rfl
    have f0 := frozen_at r2 0
    have f1 := frozen_at r2 1
    have f2 := frozen_at r2 2
    have f3 := frozen_at r2 3
    have f4 := frozen_at r2 4
    clear hr hbd
    go_wp2_with fail
    refine bodyPost_ret (v := .tuple #[.agg #[.int .i64 0, .int .i64 0, .slice none 0 0, .slice none 0 0, .slice none 0 0], .int .i64 8]) (by simp [results, Tryd.results57, go_sem, d0, d1, d2, d3, d4]) rfl ⟨?_, .inl ⟨HP.out, rfl⟩⟩
    exact ((((hB2.setCell (Nat.le_refl _) _).setCell (Nat.le_refl _) _).setCell (Nat.le_refl _) _).setCell (Nat.le_refl _) _).setCell (Nat.le_refl _) _
  · obtain ⟨k, hke⟩ : ∃ k : Nat, pOf (cvs ls) bs = k := ⟨(pOf (cvs ls) bs).toNat, by omega⟩
    have HP : Hid (pOf (cvs ls) bs = k) := hke
    rw [hke] at hbd hr
    rw [hke]
    have hkl : k < ls.length := by omega
    have hkI : (k : Int) < ls.length := by omega
    have h0 : ¬ (k : Int) < 0 := by omega
    clear hke
    have b0 := cells_at hs2.box 0 _ rfl
    obtain ⟨sb, so, rfl, c0, c1, c2, c3, c4⟩ := hs2.at'.certs.at k hkl
    have hct := hs2.at'.each (ls[k]) (List.getElem_mem hkl)
    obtain ⟨m1, m2, m3, m4, m5⟩ := ct_small (HF.out (ls[k]) (List.getElem_mem hkl))
    have HCC := cloneCert_any (ls[k]) w2 hct m1 m2 (by omega) m4 m5
    have HV : Hid ((ls[k]).v = cvAt (cvs ls) k) := (cvAt_get ls k hkl).symm
    clear hct m1 m2 m3 m4 m5 hs2
    generalize ls[k] = x0 at *
    go_wp2_with fail
    refine HCC.mono ?_
    rintro e w3 ⟨x, he, hxv, hxa, hxin, hb3⟩
    subst he
    dsimp only
    clear HCC b0 c0 c1 c2 c3 c4
    have r2 := (hb3.block _ (lt_of_heap r2)).trans r2
    have d0 := cells_at r2 0 _ rfl
    have d1 := cells_at r2 1 _ rfl
    have d2 := cells_at r2 2 _ rfl
    have d3 := cells_at r2 3 _ rfl
    have d4 := cells_at r2 4 _ rfl
    have f0 := frozen_at r2 0
    have f1 := frozen_at r2 1
    have f2 := frozen_at r2 2
    have f3 := frozen_at r2 3
    have f4 := frozen_at r2 4
    have hB3 := hB2.trans (hb3.mono hB2.size)
    have hlt : w.heap.size < w2.heap.size := Nat.lt_of_lt_of_le (lt_of_heap q1) hb2.size
    have HXV : Hid (x.v = x0.v) := hxv
    have HIN : Hid (∀ b, CtIn x b → w2.heap.size ≤ b) := hxin
    clear hxv hxin
    go_wp2_with fail
    refine bodyPost_ret (v := .tuple #[.agg #[.int .i64 x.au, .int .i64 x.rd, .slice x.ba x.bl.length x.bc, .slice x.pa x.pl.length x.pc, .slice x.va x.vl.length x.vc], .int .i64 0]) (by simp [results, Tryd.results57, go_sem, d0, d1, d2, d3, d4]) rfl ⟨?_, .inr ⟨by rw [HP.out]; omega, x, rfl, ?_, ?_, ?_⟩⟩
    · exact ((((hB3.setCell (Nat.le_refl _) _).setCell (Nat.le_refl _) _).setCell (Nat.le_refl _) _).setCell (Nat.le_refl _) _).setCell (Nat.le_refl _) _
    · rw [HP.out, HXV.out, HV.out]; rfl
    · refine CtAt.keep hxa (by simp) (fun b hb => ?_)
      have hge := HIN.out b hb
      have hne : b ≠ w.heap.size := by omega
      rw [heap_setCell_other _ _ b _ hne, heap_setCell_other _ _ b _ hne, heap_setCell_other _ _ b _ hne, heap_setCell_other _ _ b _ hne, heap_setCell_other _ _ b _ hne]
    · intro b hb
      have := HIN.out b hb
      omega
end Go.Proofs.YtbmodfegcmaieaaDoor
