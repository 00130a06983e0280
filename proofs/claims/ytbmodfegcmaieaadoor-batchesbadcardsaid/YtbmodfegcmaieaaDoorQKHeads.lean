/- sheaveskeep.headers, of a dag whose headers may be. -/
import Derived.Test.YtbmodfegcmaieaaDoorQHRow
import Derived.Test.YtbmodfegcmaieaaDoorGKDag0
import Derived.Test.YtbmodfegcmaieaaDoorGGrowG
namespace Go.Proofs.YtbmodfegcmaieaaDoor
open Go.RowKit

def Ct.hd (c : Ct) : Hd := ⟨c.au, c.rd, c.ba, c.bc, c.bl, c.pa, c.pc, c.pl⟩
set_option maxRecDepth 100000 in
theorem hd_in {c : Ct} {b : Nat} (h : HdIn c.hd b) : CtIn c b := by
  rcases h with h | h | h
  · exact .inl h
  · exact .inr (.inl h)
  · exact .inr (.inr (.inl h))
set_option maxRecDepth 100000 in
theorem hd_at {w : World} {c : Ct} (h : CtAt w c) (hf : c.v.f = 0) (hu : U8C c.v) : HdAt w c.hd := by
  refine ⟨h.hat, ?_, fun p hp => ?_, fun p hp => ?_⟩
  · show headerF c.au c.rd c.bl c.pl = 0
    rw [Ct.hf_v]; exact certF_head (vl := c.vl) hf
  · exact hu.1 p.bs (List.mem_map.2 ⟨p, hp, rfl⟩)
  · exact hu.2 p.bs (List.mem_map.2 ⟨p, hp, rfl⟩)
/-- What headers answers. -/
structure HsIs (w w' : World) (e : Ending) (ks : List Ct) : Prop where
  below : Below w.heap.size w w'
  out : ∃ v, e = .returned v ∧ w'.ownsRow w.heap.size 60 4 v ks.length (hdv (ks.map Ct.hd))
set_option maxRecDepth 100000 in
set_option maxHeartbeats 1000000 in
theorem headers_any (ks : List Ct) (ka : Option Addr) (n kc : Nat) (w : World) (hn : n = ks.length) (hle : ks.length ≤ 1000) (hd : DagAt w ka kc ks) :
    Calls Tryd.prog 40 #[.agg #[.slice ka n kc]] w fun e w' => HsIs w w' e ks := by
  subst hn
  have hA : Below w.heap.size w (w.alloc (.cells #[.slice ka ks.length kc] 51)) := (Below.refl _ _).alloc (Nat.le_refl _) _
  have r1 := heap_alloc_new w (.cells #[.slice ka ks.length kc] 51)
  obtain ⟨i, hi, hz0, hz1, hz2⟩ := info_parts infoHd
  go_enter Tryd.func40, Tryd.ntmps40
  go_wp2_with fail
  generalize w.alloc (.cells #[.slice ka ks.length kc] 51) = W0 at hA r1 ⊢
  have hlt1 : w.heap.size < W0.heap.size := lt_of_heap r1
  go_loopw [4, 3] (fun j v wr => ∃ m : Nat, m ≤ ks.length ∧ j = .int .i64 m ∧ wr.ownsRow W0.heap.size 60 4 v m (hdv ((ks.take m).map Ct.hd)) ∧ Below W0.heap.size W0 wr) (fun j _ _ => ks.length - (intOf j).toNat)
  case atStart => exact ⟨0, Nat.zero_le _, rfl, World.ownsRow_nil _ _ _ _, Below.refl _ _⟩
  case round =>
    obtain ⟨m, hm, rfl, ho, hbr⟩ := hrel
    have hAr := hA.trans (hbr.mono hA.size)
    have s1 := (hbr.block _ hlt1).trans r1
    have d0 := cells_at s1 0 _ rfl
    by_cases hlt : m < ks.length
    · have hltI : (m : Int) < ks.length := by omega
      have hdr := hd.below hAr
      obtain ⟨kb, ko, rfl, hcc⟩ : ∃ kb ko, ka = some ⟨kb, ko, none⟩ ∧ _ := by
        rcases hdr.certs.cells with h | h
        · rw [h] at hlt; simp at hlt
        · exact h
      obtain ⟨c0, c1, c2, c3, c4⟩ := hcc m hlt
      have HST : Hid (hdv ((ks.take m).map Ct.hd) ++ (ks[m]).hd.cs = hdv ((ks.take (m + 1)).map Ct.hd)) := by
        show _ = _
        rw [List.take_succ_eq_append_getElem hlt, List.map_append, List.map_singleton, hdv_snoc]
      clear hcc
      generalize hdv ((ks.take m).map Ct.hd) = HS at ho HST
      generalize ks[m] = c at c0 c1 c2 c3 c4 HST
      have hsz := hbr.size
      go_wp2_with (at_builtin; refine wpList_append_own_at _ rfl _ _ 66 rfl W0.heap.size 60 i (.agg #[.int .i64 0, .int .i64 0, .slice none 0 0, .slice none 0 0]) 4 64 Tryd.underlying66 hi hz0 hz1 hz2 rfl (by decide) _ m _ rfl (World.ownsRow.alloc ho _) ⟨wr.heap.size, 0, none⟩ 1 1 (Hd.cs c.hd) rfl rfl (cells_new _ _ _) (hd_one _) (by unfold maxLen; omega) (by omega) (le_alloc hsz _) ?_; intro v1 w3 ho3 hg3 _ hat)
      have hB3 := Below.grown (hbr.alloc hbr.size _) hg3 (le_alloc hbr.size _) (fun q e => (ho.lt q e).1)
      go_roundw
      case rel => exact ⟨m + 1, by omega, by go_num, by rw [← HST.out]; exact ho3, hB3⟩
      case measure => simp [intOf]; omega
    · obtain rfl : m = ks.length := by omega
      rw [List.take_length] at ho
      go_wp2_with fail
      go_ret
      exact ⟨hAr, _, rfl, ⟨ho.1, ho.2.imp id (fun ⟨g, c, cur, e1, e2, r⟩ => ⟨g, c, cur, e1, Nat.le_trans hA.size e2, r⟩)⟩⟩
end Go.Proofs.YtbmodfegcmaieaaDoor
