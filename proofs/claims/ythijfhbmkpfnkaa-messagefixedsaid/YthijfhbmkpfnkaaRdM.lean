/- wire's reader.message. -/
import Derived.Test.YthijfhbmkpfnkaaRdB
import Derived.Test.YthijfhbmkpfnkaaMvM
namespace Go.Proofs.Ythijfhbmkpfnkaa
open Go.RowKit

/-- What a message says. -/
structure MC where
  (fr tt ki bau bnu : Int) (ss : List ByteArray) (hau hrd : Int) (bl pl : List (List Int)) (sau srd : Int) (ds : List Int) (cau crd : Int) (cbl cpl : List (List Int)) (vl : List Int) (ro : Int)
def MV.c (x : MV) : MC := ⟨x.m.fr, x.m.tt, x.m.ki, x.m.bau, x.m.bnu, x.ss, x.m.hau, x.m.hrd, x.bl.map (·.bs), x.pl.map (·.bs), x.m.sau, x.m.srd, x.ds, x.m.cau, x.m.crd, x.cbl.map (·.bs), x.cpl.map (·.bs), x.vl, x.m.ro⟩
/-- The message that bytes tell, by its kind. -/
def pM (s : St) : MC :=
  if nB 1 s = 1 then ⟨nB 1 (nx 1 s), nB 1 (nx 1 (nx 1 s)), nB 1 s, nB 1 (nx 1 (nx 1 (nx 1 s))), nB 3 (nx 1 (nx 1 (nx 1 (nx 1 s)))), bT (nx 1 (bS3 (nx 1 (nx 1 (nx 1 s))))) (bN (nx 1 (nx 1 (nx 1 s)))), 0, 0, [], [], 0, 0, [], 0, 0, [], [], [], 0⟩
  else if nB 1 s = 2 then ⟨nB 1 (nx 1 s), nB 1 (nx 1 (nx 1 s)), nB 1 s, 0, 0, [], nB 1 (nx 1 (nx 1 (nx 1 s))), nB 3 (nx 1 (nx 1 (nx 1 (nx 1 s)))), dgs (nx 3 (nx 1 (nx 1 (nx 1 (nx 1 s))))), dgs (dgS (nx 3 (nx 1 (nx 1 (nx 1 (nx 1 s)))))), 0, 0, [], 0, 0, [], [], [], 0⟩
  else if nB 1 s = 3 then ⟨nB 1 (nx 1 s), nB 1 (nx 1 (nx 1 s)), nB 1 s, 0, 0, [], 0, 0, [], [], nB 1 (nx 1 (nx 1 (nx 1 s))), nB 3 (nx 1 (nx 1 (nx 1 (nx 1 s)))), tT 32 (nx 3 (nx 1 (nx 1 (nx 1 (nx 1 s))))), 0, 0, [], [], [], 0⟩
  else if nB 1 s = 4 then ⟨nB 1 (nx 1 s), nB 1 (nx 1 (nx 1 s)), nB 1 s, 0, 0, [], 0, 0, [], [], 0, 0, [], nB 1 (nx 1 (nx 1 (nx 1 s))), nB 3 (nx 1 (nx 1 (nx 1 (nx 1 s)))), dgs (nx 3 (nx 1 (nx 1 (nx 1 (nx 1 s))))), dgs (dgS (nx 3 (nx 1 (nx 1 (nx 1 (nx 1 s)))))), nV (nx 1 (hS4 (nx 1 (nx 1 (nx 1 s))))) (cN (nx 1 (nx 1 (nx 1 s)))), 0⟩
  else ⟨nB 1 (nx 1 s), nB 1 (nx 1 (nx 1 s)), nB 1 s, 0, 0, [], 0, 0, [], [], 0, 0, [], 0, 0, [], [], [], nB 3 (nx 1 (nx 1 (nx 1 s)))⟩
/-- What is left behind it. -/
def mS (s : St) : St :=
  if nB 1 s = 1 then bL (nx 1 (bS3 (nx 1 (nx 1 (nx 1 s))))) (bN (nx 1 (nx 1 (nx 1 s)))) else if nB 1 s = 2 then dgS (dgS (nx 3 (nx 1 (nx 1 (nx 1 (nx 1 s)))))) else if nB 1 s = 3 then nx 32 (nx 3 (nx 1 (nx 1 (nx 1 (nx 1 s))))) else if nB 1 s = 4 then nL (nx 1 (hS4 (nx 1 (nx 1 (nx 1 s))))) (cN (nx 1 (nx 1 (nx 1 s)))) else nx 3 (nx 1 (nx 1 (nx 1 s)))
structure MsgRd (w w' : World) (e : Ending) (R : Nat) (s : St) : Prop where
  out : ∃ x : MV, e = .returned (.agg #[.int .i64 x.m.fr, .int .i64 x.m.tt, .int .i64 x.m.ki, .int .i64 x.m.bau, .int .i64 x.m.bnu, .slice x.m.bta x.m.btn x.m.btc, .int .i64 x.m.hau, .int .i64 x.m.hrd, .slice x.m.hba x.m.hbn x.m.hbc, .slice x.m.hpa x.m.hpn x.m.hpc, .int .i64 x.m.sau, .int .i64 x.m.srd, .slice x.m.sda x.m.sdn x.m.sdc, .int .i64 x.m.cau, .int .i64 x.m.crd, .slice x.m.cba x.m.cbn x.m.cbc, .slice x.m.cpa x.m.cpn x.m.cpc, .slice x.m.cva x.m.cvn x.m.cvc, .int .i64 x.m.ro]) ∧ MAt w' x ∧ HasM (fun q => w.heap.size ≤ q) x ∧ x.c = pM s ∧ RdS w' R (mS s) ∧ Only R w w'
set_option maxRecDepth 100000 in
set_option maxHeartbeats 8000000 in
theorem message_rd (R : Nat) (s : St) (w : World) (hR : RdS w R s) (hs : GoodS s) (hk : 1 ≤ nB 1 s ∧ nB 1 s ≤ 5) :
    Calls Try.prog 36 #[.pointer (some ⟨R, 0, none⟩)] w fun e w' => MsgRd w w' e R s := by
  have hlt : R < w.heap.size := RdrAt.lt hR
  have hA : Below w.heap.size w (w.alloc (.cells #[.int .i64 0, .int .i64 0, .int .i64 0, .int .i64 0, .int .i64 0, .slice none 0 0, .int .i64 0, .int .i64 0, .slice none 0 0, .slice none 0 0, .int .i64 0, .int .i64 0, .slice none 0 0, .int .i64 0, .int .i64 0, .slice none 0 0, .slice none 0 0, .slice none 0 0, .int .i64 0] 37)) := (Below.refl _ _).alloc (Nat.le_refl _) _
  have q0 := heap_alloc_new w (.cells #[.int .i64 0, .int .i64 0, .int .i64 0, .int .i64 0, .int .i64 0, .slice none 0 0, .int .i64 0, .int .i64 0, .slice none 0 0, .slice none 0 0, .int .i64 0, .int .i64 0, .slice none 0 0, .int .i64 0, .int .i64 0, .slice none 0 0, .slice none 0 0, .slice none 0 0, .int .i64 0] 37)
  have hsz : w.heap.size < (w.alloc (.cells #[.int .i64 0, .int .i64 0, .int .i64 0, .int .i64 0, .int .i64 0, .slice none 0 0, .int .i64 0, .int .i64 0, .slice none 0 0, .slice none 0 0, .int .i64 0, .int .i64 0, .slice none 0 0, .int .i64 0, .int .i64 0, .slice none 0 0, .slice none 0 0, .slice none 0 0, .int .i64 0] 37)).heap.size := lt_of_heap q0
  have hgs3 : GoodS (nx 1 (nx 1 (nx 1 s))) := hs.nx.nx.nx
  have hn1 : bN (nx 1 (nx 1 (nx 1 s))) ≤ 255 := by have := nB1_bounds (s := bS3 (nx 1 (nx 1 (nx 1 s)))) hgs3.nx.nx; show (nB 1 (bS3 (nx 1 (nx 1 (nx 1 s))))).toNat ≤ 255; omega
  have hn4 : cN (nx 1 (nx 1 (nx 1 s))) ≤ 255 := by have := nB1_bounds (s := hS4 (nx 1 (nx 1 (nx 1 s)))) (GoodS.dgS (GoodS.dgS hgs3.nx.nx)); show (nB 1 (hS4 (nx 1 (nx 1 (nx 1 s))))).toNat ≤ 255; omega
  go_enter Try.func36, Try.ntmps36
  go_wp2_with fail
  generalize w.alloc (.cells #[.int .i64 0, .int .i64 0, .int .i64 0, .int .i64 0, .int .i64 0, .slice none 0 0, .int .i64 0, .int .i64 0, .slice none 0 0, .slice none 0 0, .int .i64 0, .int .i64 0, .slice none 0 0, .int .i64 0, .int .i64 0, .slice none 0 0, .slice none 0 0, .slice none 0 0, .int .i64 0] 37) = W0 at hA q0 hsz ⊢
  refine (number_st R 1 s W0 (RdrAt.below hR hA) hs (by omega)).mono ?_
  rintro e w1 ⟨he, hR1, ho1⟩
  subst he
  dsimp only
  go_wp2_with fail
  refine (number_st R 1 _ w1 hR1 hs.nx (by omega)).mono ?_
  rintro e w2 ⟨he, hR2, ho2⟩
  subst he
  dsimp only
  go_wp2_with fail
  refine (number_st R 1 _ w2 hR2 hs.nx.nx (by omega)).mono ?_
  rintro e w3 ⟨he, hR3, ho3⟩
  subst he
  dsimp only
  have hO3 := (ho1.trans ho2).trans ho3
  have p3 := (hO3.block _ hsz (by omega)).trans q0
  have hlt3 : w.heap.size < w3.heap.size := lt_of_heap p3
  have qz := heap_alloc_new w3 (.cells #[.int .i64 0, .int .i64 0, .int .i64 0, .int .i64 0, .int .i64 0, .slice none 0 0, .int .i64 0, .int .i64 0, .slice none 0 0, .slice none 0 0, .int .i64 0, .int .i64 0, .slice none 0 0, .int .i64 0, .int .i64 0, .slice none 0 0, .slice none 0 0, .slice none 0 0, .int .i64 0] 37)
  have hAM : Below w3.heap.size w3 ((w3.alloc (.cells #[.int .i64 0, .int .i64 0, .int .i64 0, .int .i64 0, .int .i64 0, .slice none 0 0, .int .i64 0, .int .i64 0, .slice none 0 0, .slice none 0 0, .int .i64 0, .int .i64 0, .slice none 0 0, .int .i64 0, .int .i64 0, .slice none 0 0, .slice none 0 0, .slice none 0 0, .int .i64 0] 37)).setRow w3.heap.size #[.int .i64 (nB 1 (nx 1 s)), .int .i64 (nB 1 (nx 1 (nx 1 s))), .int .i64 (nB 1 s), .int .i64 0, .int .i64 0, .slice none 0 0, .int .i64 0, .int .i64 0, .slice none 0 0, .slice none 0 0, .int .i64 0, .int .i64 0, .slice none 0 0, .int .i64 0, .int .i64 0, .slice none 0 0, .slice none 0 0, .slice none 0 0, .int .i64 0]) := laid_row w3 #[.int .i64 0, .int .i64 0, .int .i64 0, .int .i64 0, .int .i64 0, .slice none 0 0, .int .i64 0, .int .i64 0, .slice none 0 0, .slice none 0 0, .int .i64 0, .int .i64 0, .slice none 0 0, .int .i64 0, .int .i64 0, .slice none 0 0, .slice none 0 0, .slice none 0 0, .int .i64 0] #[.int .i64 (nB 1 (nx 1 s)), .int .i64 (nB 1 (nx 1 (nx 1 s))), .int .i64 (nB 1 s), .int .i64 0, .int .i64 0, .slice none 0 0, .int .i64 0, .int .i64 0, .slice none 0 0, .slice none 0 0, .int .i64 0, .int .i64 0, .slice none 0 0, .int .i64 0, .int .i64 0, .slice none 0 0, .slice none 0 0, .slice none 0 0, .int .i64 0] 37
  have qM := setRow_heap _ _ _ #[.int .i64 (nB 1 (nx 1 s)), .int .i64 (nB 1 (nx 1 (nx 1 s))), .int .i64 (nB 1 s), .int .i64 0, .int .i64 0, .slice none 0 0, .int .i64 0, .int .i64 0, .slice none 0 0, .slice none 0 0, .int .i64 0, .int .i64 0, .slice none 0 0, .int .i64 0, .int .i64 0, .slice none 0 0, .slice none 0 0, .slice none 0 0, .int .i64 0] _ _ qz
  have zM := (hAM.block _ hlt3).trans p3
  have hszM : w3.heap.size < ((w3.alloc (.cells #[.int .i64 0, .int .i64 0, .int .i64 0, .int .i64 0, .int .i64 0, .slice none 0 0, .int .i64 0, .int .i64 0, .slice none 0 0, .slice none 0 0, .int .i64 0, .int .i64 0, .slice none 0 0, .int .i64 0, .int .i64 0, .slice none 0 0, .slice none 0 0, .slice none 0 0, .int .i64 0] 37)).setRow w3.heap.size #[.int .i64 (nB 1 (nx 1 s)), .int .i64 (nB 1 (nx 1 (nx 1 s))), .int .i64 (nB 1 s), .int .i64 0, .int .i64 0, .slice none 0 0, .int .i64 0, .int .i64 0, .slice none 0 0, .slice none 0 0, .int .i64 0, .int .i64 0, .slice none 0 0, .int .i64 0, .int .i64 0, .slice none 0 0, .slice none 0 0, .slice none 0 0, .int .i64 0]).heap.size := lt_of_heap qM
  go_upto_region 2 with (refine wpList_store_row rfl 37 _ _ rfl w3.heap.size #[.int .i64 (nB 1 (nx 1 s)), .int .i64 (nB 1 (nx 1 (nx 1 s))), .int .i64 (nB 1 s), .int .i64 0, .int .i64 0, .slice none 0 0, .int .i64 0, .int .i64 0, .slice none 0 0, .slice none 0 0, .int .i64 0, .int .i64 0, .slice none 0 0, .int .i64 0, .int .i64 0, .slice none 0 0, .slice none 0 0, .slice none 0 0, .int .i64 0] rfl rfl 37 _ qz sMsg' rfl (by simp [Value.oneCell']) ?_)
  generalize (w3.alloc (.cells #[.int .i64 0, .int .i64 0, .int .i64 0, .int .i64 0, .int .i64 0, .slice none 0 0, .int .i64 0, .int .i64 0, .slice none 0 0, .slice none 0 0, .int .i64 0, .int .i64 0, .slice none 0 0, .int .i64 0, .int .i64 0, .slice none 0 0, .slice none 0 0, .slice none 0 0, .int .i64 0] 37)).setRow w3.heap.size #[.int .i64 (nB 1 (nx 1 s)), .int .i64 (nB 1 (nx 1 (nx 1 s))), .int .i64 (nB 1 s), .int .i64 0, .int .i64 0, .slice none 0 0, .int .i64 0, .int .i64 0, .slice none 0 0, .slice none 0 0, .int .i64 0, .int .i64 0, .slice none 0 0, .int .i64 0, .int .i64 0, .slice none 0 0, .slice none 0 0, .slice none 0 0, .int .i64 0] = WB at hAM qM zM hszM ⊢
  have hRM : RdS WB R (nx 1 (nx 1 (nx 1 s))) := RdrAt.below hR3 hAM
  have hOM : Only R W0 WB := hO3.trans (only_of_below hAM)
  have hOw0 : Only R w W0 := only_of_below hA
  generalize hMB : w3.heap.size = MB at qM hszM hlt3 ⊢
  clear hMB hAM qz p3 hO3 ho1 ho2 ho3 hR1 hR2 hR3 q0
  have c2 : WB.cell? ⟨MB, 2, none⟩ = some (.int .i64 (nB 1 s)) := cells_at qM 2 _ rfl
  have hkk : nB 1 s = 1 ∨ nB 1 s = 2 ∨ nB 1 s = 3 ∨ nB 1 s = 4 ∨ nB 1 s = 5 := by omega
  clear hk
  rcases hkk with hk | hk | hk | hk | hk
  · rw [hk] at qM c2 ⊢
    have HKI : Hid (nB 1 s = 1) := hk
    clear hk
    go_wp2_with fail
    refine (batch_rd R (nx 1 (nx 1 (nx 1 s))) WB hRM hgs3).mono ?_
    rintro e w5 ⟨ta, tc, he, hS5, hf5, hR5, ho5⟩
    subst he
    dsimp only
    have r5 := (ho5.block _ hszM (by omega)).trans qM
    have z5 := (ho5.block _ (by omega) (by omega)).trans zM
    have hO5 := hOM.trans ho5
    have hne0 : w.heap.size ≠ MB := by omega
    have hneM := hne0
    have x3 : w5.cell? ⟨MB, 3, none⟩ = some (.int .i64 0) := cells_at r5 3 _ rfl
    have y3 := frozen_at r5 3
    have x4 : w5.cell? ⟨MB, 4, none⟩ = some (.int .i64 0) := cells_at r5 4 _ rfl
    have y4 := frozen_at r5 4
    have x5 : w5.cell? ⟨MB, 5, none⟩ = some (.slice none 0 0) := cells_at r5 5 _ rfl
    have y5 := frozen_at r5 5
    have rF : (((w5.setCell ⟨MB, 3, none⟩ (.int .i64 (nB 1 (nx 1 (nx 1 (nx 1 s)))))).setCell ⟨MB, 4, none⟩ (.int .i64 (nB 3 (nx 1 (nx 1 (nx 1 (nx 1 s))))))).setCell ⟨MB, 5, none⟩ (.slice ta (bN (nx 1 (nx 1 (nx 1 s)))) tc)).heap[MB]? = some (.cells #[.int .i64 (nB 1 (nx 1 s)), .int .i64 (nB 1 (nx 1 (nx 1 s))), .int .i64 1, .int .i64 (nB 1 (nx 1 (nx 1 (nx 1 s)))), .int .i64 (nB 3 (nx 1 (nx 1 (nx 1 (nx 1 s))))), .slice ta (bN (nx 1 (nx 1 (nx 1 s)))) tc, .int .i64 0, .int .i64 0, .slice none 0 0, .slice none 0 0, .int .i64 0, .int .i64 0, .slice none 0 0, .int .i64 0, .int .i64 0, .slice none 0 0, .slice none 0 0, .slice none 0 0, .int .i64 0] 37 (0, 0)) := by simpa using (heap_setCell_same _ _ 5 _ _ (.slice ta (bN (nx 1 (nx 1 (nx 1 s)))) tc) (heap_setCell_same _ _ 4 _ _ (.int .i64 (nB 3 (nx 1 (nx 1 (nx 1 (nx 1 s)))))) (heap_setCell_same _ _ 3 _ _ (.int .i64 (nB 1 (nx 1 (nx 1 (nx 1 s))))) r5)))
    have zF := (heap_far (j := 5) (v := .slice ta (bN (nx 1 (nx 1 (nx 1 s)))) tc) (heap_far (j := 4) (v := .int .i64 (nB 3 (nx 1 (nx 1 (nx 1 (nx 1 s)))))) (heap_far (j := 3) (v := .int .i64 (nB 1 (nx 1 (nx 1 (nx 1 s))))) z5 hneM) hneM) hneM)
    have HX : Hid (∃ x : MV, (.agg #[.int .i64 x.m.fr, .int .i64 x.m.tt, .int .i64 x.m.ki, .int .i64 x.m.bau, .int .i64 x.m.bnu, .slice x.m.bta x.m.btn x.m.btc, .int .i64 x.m.hau, .int .i64 x.m.hrd, .slice x.m.hba x.m.hbn x.m.hbc, .slice x.m.hpa x.m.hpn x.m.hpc, .int .i64 x.m.sau, .int .i64 x.m.srd, .slice x.m.sda x.m.sdn x.m.sdc, .int .i64 x.m.cau, .int .i64 x.m.crd, .slice x.m.cba x.m.cbn x.m.cbc, .slice x.m.cpa x.m.cpn x.m.cpc, .slice x.m.cva x.m.cvn x.m.cvc, .int .i64 x.m.ro] : Value) = .agg #[.int .i64 (nB 1 (nx 1 s)), .int .i64 (nB 1 (nx 1 (nx 1 s))), .int .i64 1, .int .i64 (nB 1 (nx 1 (nx 1 (nx 1 s)))), .int .i64 (nB 3 (nx 1 (nx 1 (nx 1 (nx 1 s))))), .slice ta (bN (nx 1 (nx 1 (nx 1 s)))) tc, .int .i64 0, .int .i64 0, .slice none 0 0, .slice none 0 0, .int .i64 0, .int .i64 0, .slice none 0 0, .int .i64 0, .int .i64 0, .slice none 0 0, .slice none 0 0, .slice none 0 0, .int .i64 0] ∧ MAt w5 x ∧ HasM (fun q => WB.heap.size ≤ q) x ∧ x.c = pM s ∧ RdS w5 R (mS s)) := by
      refine ⟨⟨⟨nB 1 (nx 1 s), nB 1 (nx 1 (nx 1 s)), 1, nB 1 (nx 1 (nx 1 (nx 1 s))), nB 3 (nx 1 (nx 1 (nx 1 (nx 1 s)))), 0, 0, 0, 0, 0, 0, 0, ta, none, none, none, none, none, none, bN (nx 1 (nx 1 (nx 1 s))), tc, 0, 0, 0, 0, 0, 0, 0, 0, 0, 0, 0, 0⟩, bT (nx 1 (bS3 (nx 1 (nx 1 (nx 1 s))))) (bN (nx 1 (nx 1 (nx 1 s)))), [], [], [], [], [], []⟩, rfl, ⟨⟨(bT_length _ _).symm, rfl, rfl, rfl, rfl, rfl, by rw [bT_length]; have := hn1; omega, by simp, by simp, hS5, (list_nilM _), (list_nilM _), (list_nilM _), (list_nilM _), ⟨.inl rfl⟩⟩, (nilM _), rfl⟩, NewM.has (x := ⟨⟨nB 1 (nx 1 s), nB 1 (nx 1 (nx 1 s)), 1, nB 1 (nx 1 (nx 1 (nx 1 s))), nB 3 (nx 1 (nx 1 (nx 1 (nx 1 s)))), 0, 0, 0, 0, 0, 0, 0, ta, none, none, none, none, none, none, bN (nx 1 (nx 1 (nx 1 s))), tc, 0, 0, 0, 0, 0, 0, 0, 0, 0, 0, 0, 0⟩, bT (nx 1 (bS3 (nx 1 (nx 1 (nx 1 s))))) (bN (nx 1 (nx 1 (nx 1 s)))), [], [], [], [], [], []⟩) ⟨hf5, ⟨(fun _ _ e => by cases e), (fun p hp => by cases hp)⟩, ⟨(fun _ _ e => by cases e), (fun p hp => by cases hp)⟩, (fun _ _ e => by cases e), ⟨(fun _ _ e => by cases e), (fun p hp => by cases hp)⟩, ⟨(fun _ _ e => by cases e), (fun p hp => by cases hp)⟩, (fun _ _ e => by cases e)⟩, ?_, ?_⟩
      · simp only [MV.c, pM, HKI.out]; rfl
      · simp only [mS, HKI.out]
        exact hR5
    have HQ : Hid (∀ q, q ≠ MB → (((w5.setCell ⟨MB, 3, none⟩ (.int .i64 (nB 1 (nx 1 (nx 1 (nx 1 s)))))).setCell ⟨MB, 4, none⟩ (.int .i64 (nB 3 (nx 1 (nx 1 (nx 1 (nx 1 s))))))).setCell ⟨MB, 5, none⟩ (.slice ta (bN (nx 1 (nx 1 (nx 1 s)))) tc)).heap[q]? = w5.heap[q]?) := by
      show ∀ _, _
      intro q hq1
      exact ((heap_setCell_other _ ⟨MB, 5, none⟩ q _ hq1).trans ((heap_setCell_other _ ⟨MB, 4, none⟩ q _ hq1).trans ((heap_setCell_other _ ⟨MB, 3, none⟩ q _ hq1).trans (rfl : w5.heap[q]? = w5.heap[q]?))))
    have HZ : Hid ((((w5.setCell ⟨MB, 3, none⟩ (.int .i64 (nB 1 (nx 1 (nx 1 (nx 1 s)))))).setCell ⟨MB, 4, none⟩ (.int .i64 (nB 3 (nx 1 (nx 1 (nx 1 (nx 1 s))))))).setCell ⟨MB, 5, none⟩ (.slice ta (bN (nx 1 (nx 1 (nx 1 s)))) tc)).heap.size = w5.heap.size) := by show _ = _; simp
    have HO : Hid ((((w5.setCell ⟨MB, 3, none⟩ (.int .i64 (nB 1 (nx 1 (nx 1 (nx 1 s)))))).setCell ⟨MB, 4, none⟩ (.int .i64 (nB 3 (nx 1 (nx 1 (nx 1 (nx 1 s))))))).setCell ⟨MB, 5, none⟩ (.slice ta (bN (nx 1 (nx 1 (nx 1 s)))) tc)).os = w5.os ∧ (((w5.setCell ⟨MB, 3, none⟩ (.int .i64 (nB 1 (nx 1 (nx 1 (nx 1 s)))))).setCell ⟨MB, 4, none⟩ (.int .i64 (nB 3 (nx 1 (nx 1 (nx 1 (nx 1 s))))))).setCell ⟨MB, 5, none⟩ (.slice ta (bN (nx 1 (nx 1 (nx 1 s)))) tc)).tape = w5.tape ∧ (((w5.setCell ⟨MB, 3, none⟩ (.int .i64 (nB 1 (nx 1 (nx 1 (nx 1 s)))))).setCell ⟨MB, 4, none⟩ (.int .i64 (nB 3 (nx 1 (nx 1 (nx 1 (nx 1 s))))))).setCell ⟨MB, 5, none⟩ (.slice ta (bN (nx 1 (nx 1 (nx 1 s)))) tc)).output = w5.output) := ⟨rfl, rfl, rfl⟩
    go_upto_region 13 with fail
    generalize (((w5.setCell ⟨MB, 3, none⟩ (.int .i64 (nB 1 (nx 1 (nx 1 (nx 1 s)))))).setCell ⟨MB, 4, none⟩ (.int .i64 (nB 3 (nx 1 (nx 1 (nx 1 (nx 1 s))))))).setCell ⟨MB, 5, none⟩ (.slice ta (bN (nx 1 (nx 1 (nx 1 s)))) tc)) = VF at rF zF HQ HZ HO ⊢
    clear r5 z5 x3 y3 x4 y4 x5 y5
    go_wp2_with (first | refine wpList_load_row rfl 37 _ rfl MB rfl 37 #[.int .i64 (nB 1 (nx 1 s)), .int .i64 (nB 1 (nx 1 (nx 1 s))), .int .i64 1, .int .i64 (nB 1 (nx 1 (nx 1 (nx 1 s)))), .int .i64 (nB 3 (nx 1 (nx 1 (nx 1 (nx 1 s))))), .slice ta (bN (nx 1 (nx 1 (nx 1 s)))) tc, .int .i64 0, .int .i64 0, .slice none 0 0, .slice none 0 0, .int .i64 0, .int .i64 0, .slice none 0 0, .int .i64 0, .int .i64 0, .slice none 0 0, .slice none 0 0, .slice none 0 0, .int .i64 0] (0, 0) _ rF Try.underlying37 rfl sMsg' ?_ | refine wpList_store_row rfl 37 _ _ rfl w.heap.size #[.int .i64 (nB 1 (nx 1 s)), .int .i64 (nB 1 (nx 1 (nx 1 s))), .int .i64 1, .int .i64 (nB 1 (nx 1 (nx 1 (nx 1 s)))), .int .i64 (nB 3 (nx 1 (nx 1 (nx 1 (nx 1 s))))), .slice ta (bN (nx 1 (nx 1 (nx 1 s)))) tc, .int .i64 0, .int .i64 0, .slice none 0 0, .slice none 0 0, .int .i64 0, .int .i64 0, .slice none 0 0, .int .i64 0, .int .i64 0, .slice none 0 0, .slice none 0 0, .slice none 0 0, .int .i64 0] rfl rfl 37 _ zF sMsg' rfl (by simp [Value.oneCell']) ?_)
    obtain ⟨x, hxe, hxM, hxH, hxc, hxR⟩ := HX.out
    refine bodyPost_ret (v := .agg #[.int .i64 (nB 1 (nx 1 s)), .int .i64 (nB 1 (nx 1 (nx 1 s))), .int .i64 1, .int .i64 (nB 1 (nx 1 (nx 1 (nx 1 s)))), .int .i64 (nB 3 (nx 1 (nx 1 (nx 1 (nx 1 s))))), .slice ta (bN (nx 1 (nx 1 (nx 1 s)))) tc, .int .i64 0, .int .i64 0, .slice none 0 0, .slice none 0 0, .int .i64 0, .int .i64 0, .slice none 0 0, .int .i64 0, .int .i64 0, .slice none 0 0, .slice none 0 0, .slice none 0 0, .int .i64 0]) (results_cell_row (fn := Try.f36) (p := 2) (ty := 37) rfl _ _ w.heap.size 37 _ (0, 0) _ rfl (setRow_heap _ _ _ _ _ _ zF) Try.underlying37 rfl sMsg') rfl ⟨x, by rw [hxe], ?_, hxH.mono (fun q hq => by omega), hxc, ?_, ?_⟩
    · refine hxM.stays (G := fun q => WB.heap.size ≤ q) (fun q hq => ?_) hxH
      exact (setRow_other _ w.heap.size q _ (by omega)).trans (HQ.out q (by omega))
    · refine RdrAt.stays hxR (fun q hq => ?_)
      exact (setRow_other _ w.heap.size q _ (by omega)).trans (HQ.out q (by omega))
    · have hOw := hOw0.trans hO5
      refine ⟨HO.out.1.trans hOw.os, HO.out.2.1.trans hOw.tape, HO.out.2.2.trans hOw.output, by have := hOw.size; have := HZ.out; simp [World.setRow]; omega, fun q hq hn => ?_⟩
      exact ((setRow_other _ w.heap.size q _ (by omega)).trans (HQ.out q (by omega))).trans (hOw.block q hq hn)
  · rw [hk] at qM c2 ⊢
    have HKI : Hid (nB 1 s = 2) := hk
    clear hk
    go_wp2_with fail
    refine (header_rd R (nx 1 (nx 1 (nx 1 s))) WB hRM hgs3).mono ?_
    rintro e w5 ⟨ba, bc, bl, pa, pc, pl, he, hq1, hq2, hL1, hL2, hF1, hF2, hR5, ho5⟩
    subst he
    dsimp only
    have r5 := (ho5.block _ hszM (by omega)).trans qM
    have z5 := (ho5.block _ (by omega) (by omega)).trans zM
    have hO5 := hOM.trans ho5
    have hne0 : w.heap.size ≠ MB := by omega
    have hneM := hne0
    have x6 : w5.cell? ⟨MB, 6, none⟩ = some (.int .i64 0) := cells_at r5 6 _ rfl
    have y6 := frozen_at r5 6
    have x7 : w5.cell? ⟨MB, 7, none⟩ = some (.int .i64 0) := cells_at r5 7 _ rfl
    have y7 := frozen_at r5 7
    have x8 : w5.cell? ⟨MB, 8, none⟩ = some (.slice none 0 0) := cells_at r5 8 _ rfl
    have y8 := frozen_at r5 8
    have x9 : w5.cell? ⟨MB, 9, none⟩ = some (.slice none 0 0) := cells_at r5 9 _ rfl
    have y9 := frozen_at r5 9
    have rF : ((((w5.setCell ⟨MB, 6, none⟩ (.int .i64 (nB 1 (nx 1 (nx 1 (nx 1 s)))))).setCell ⟨MB, 7, none⟩ (.int .i64 (nB 3 (nx 1 (nx 1 (nx 1 (nx 1 s))))))).setCell ⟨MB, 8, none⟩ (.slice ba bl.length bc)).setCell ⟨MB, 9, none⟩ (.slice pa pl.length pc)).heap[MB]? = some (.cells #[.int .i64 (nB 1 (nx 1 s)), .int .i64 (nB 1 (nx 1 (nx 1 s))), .int .i64 2, .int .i64 0, .int .i64 0, .slice none 0 0, .int .i64 (nB 1 (nx 1 (nx 1 (nx 1 s)))), .int .i64 (nB 3 (nx 1 (nx 1 (nx 1 (nx 1 s))))), .slice ba bl.length bc, .slice pa pl.length pc, .int .i64 0, .int .i64 0, .slice none 0 0, .int .i64 0, .int .i64 0, .slice none 0 0, .slice none 0 0, .slice none 0 0, .int .i64 0] 37 (0, 0)) := by simpa using (heap_setCell_same _ _ 9 _ _ (.slice pa pl.length pc) (heap_setCell_same _ _ 8 _ _ (.slice ba bl.length bc) (heap_setCell_same _ _ 7 _ _ (.int .i64 (nB 3 (nx 1 (nx 1 (nx 1 (nx 1 s)))))) (heap_setCell_same _ _ 6 _ _ (.int .i64 (nB 1 (nx 1 (nx 1 (nx 1 s))))) r5))))
    have zF := (heap_far (j := 9) (v := .slice pa pl.length pc) (heap_far (j := 8) (v := .slice ba bl.length bc) (heap_far (j := 7) (v := .int .i64 (nB 3 (nx 1 (nx 1 (nx 1 (nx 1 s)))))) (heap_far (j := 6) (v := .int .i64 (nB 1 (nx 1 (nx 1 (nx 1 s))))) z5 hneM) hneM) hneM) hneM)
    have HX : Hid (∃ x : MV, (.agg #[.int .i64 x.m.fr, .int .i64 x.m.tt, .int .i64 x.m.ki, .int .i64 x.m.bau, .int .i64 x.m.bnu, .slice x.m.bta x.m.btn x.m.btc, .int .i64 x.m.hau, .int .i64 x.m.hrd, .slice x.m.hba x.m.hbn x.m.hbc, .slice x.m.hpa x.m.hpn x.m.hpc, .int .i64 x.m.sau, .int .i64 x.m.srd, .slice x.m.sda x.m.sdn x.m.sdc, .int .i64 x.m.cau, .int .i64 x.m.crd, .slice x.m.cba x.m.cbn x.m.cbc, .slice x.m.cpa x.m.cpn x.m.cpc, .slice x.m.cva x.m.cvn x.m.cvc, .int .i64 x.m.ro] : Value) = .agg #[.int .i64 (nB 1 (nx 1 s)), .int .i64 (nB 1 (nx 1 (nx 1 s))), .int .i64 2, .int .i64 0, .int .i64 0, .slice none 0 0, .int .i64 (nB 1 (nx 1 (nx 1 (nx 1 s)))), .int .i64 (nB 3 (nx 1 (nx 1 (nx 1 (nx 1 s))))), .slice ba bl.length bc, .slice pa pl.length pc, .int .i64 0, .int .i64 0, .slice none 0 0, .int .i64 0, .int .i64 0, .slice none 0 0, .slice none 0 0, .slice none 0 0, .int .i64 0] ∧ MAt w5 x ∧ HasM (fun q => WB.heap.size ≤ q) x ∧ x.c = pM s ∧ RdS w5 R (mS s)) := by
      refine ⟨⟨⟨nB 1 (nx 1 s), nB 1 (nx 1 (nx 1 s)), 2, 0, 0, nB 1 (nx 1 (nx 1 (nx 1 s))), nB 3 (nx 1 (nx 1 (nx 1 (nx 1 s)))), 0, 0, 0, 0, 0, none, ba, pa, none, none, none, none, 0, 0, bl.length, bc, pl.length, pc, 0, 0, 0, 0, 0, 0, 0, 0⟩, [], bl, pl, [], [], [], []⟩, rfl, ⟨⟨rfl, rfl, rfl, rfl, rfl, rfl, by simp, by simp, by simp, ⟨.inl rfl, fun s h => by cases h⟩, hL1, hL2, (list_nilM _), (list_nilM _), ⟨.inl rfl⟩⟩, (nilM _), rfl⟩, NewM.has (x := ⟨⟨nB 1 (nx 1 s), nB 1 (nx 1 (nx 1 s)), 2, 0, 0, nB 1 (nx 1 (nx 1 (nx 1 s))), nB 3 (nx 1 (nx 1 (nx 1 (nx 1 s)))), 0, 0, 0, 0, 0, none, ba, pa, none, none, none, none, 0, 0, bl.length, bc, pl.length, pc, 0, 0, 0, 0, 0, 0, 0, 0⟩, [], bl, pl, [], [], [], []⟩) ⟨(fun _ _ e => by cases e), hF1, hF2, (fun _ _ e => by cases e), ⟨(fun _ _ e => by cases e), (fun p hp => by cases hp)⟩, ⟨(fun _ _ e => by cases e), (fun p hp => by cases hp)⟩, (fun _ _ e => by cases e)⟩, ?_, ?_⟩
      · simp only [MV.c, pM, HKI.out, hq1, hq2]; rfl
      · simp only [mS, HKI.out]
        exact hR5
    clear hq1 hq2 hL1 hL2 hF1 hF2
    have HQ : Hid (∀ q, q ≠ MB → ((((w5.setCell ⟨MB, 6, none⟩ (.int .i64 (nB 1 (nx 1 (nx 1 (nx 1 s)))))).setCell ⟨MB, 7, none⟩ (.int .i64 (nB 3 (nx 1 (nx 1 (nx 1 (nx 1 s))))))).setCell ⟨MB, 8, none⟩ (.slice ba bl.length bc)).setCell ⟨MB, 9, none⟩ (.slice pa pl.length pc)).heap[q]? = w5.heap[q]?) := by
      show ∀ _, _
      intro q hq1
      exact ((heap_setCell_other _ ⟨MB, 9, none⟩ q _ hq1).trans ((heap_setCell_other _ ⟨MB, 8, none⟩ q _ hq1).trans ((heap_setCell_other _ ⟨MB, 7, none⟩ q _ hq1).trans ((heap_setCell_other _ ⟨MB, 6, none⟩ q _ hq1).trans (rfl : w5.heap[q]? = w5.heap[q]?)))))
    have HZ : Hid (((((w5.setCell ⟨MB, 6, none⟩ (.int .i64 (nB 1 (nx 1 (nx 1 (nx 1 s)))))).setCell ⟨MB, 7, none⟩ (.int .i64 (nB 3 (nx 1 (nx 1 (nx 1 (nx 1 s))))))).setCell ⟨MB, 8, none⟩ (.slice ba bl.length bc)).setCell ⟨MB, 9, none⟩ (.slice pa pl.length pc)).heap.size = w5.heap.size) := by show _ = _; simp
    have HO : Hid (((((w5.setCell ⟨MB, 6, none⟩ (.int .i64 (nB 1 (nx 1 (nx 1 (nx 1 s)))))).setCell ⟨MB, 7, none⟩ (.int .i64 (nB 3 (nx 1 (nx 1 (nx 1 (nx 1 s))))))).setCell ⟨MB, 8, none⟩ (.slice ba bl.length bc)).setCell ⟨MB, 9, none⟩ (.slice pa pl.length pc)).os = w5.os ∧ ((((w5.setCell ⟨MB, 6, none⟩ (.int .i64 (nB 1 (nx 1 (nx 1 (nx 1 s)))))).setCell ⟨MB, 7, none⟩ (.int .i64 (nB 3 (nx 1 (nx 1 (nx 1 (nx 1 s))))))).setCell ⟨MB, 8, none⟩ (.slice ba bl.length bc)).setCell ⟨MB, 9, none⟩ (.slice pa pl.length pc)).tape = w5.tape ∧ ((((w5.setCell ⟨MB, 6, none⟩ (.int .i64 (nB 1 (nx 1 (nx 1 (nx 1 s)))))).setCell ⟨MB, 7, none⟩ (.int .i64 (nB 3 (nx 1 (nx 1 (nx 1 (nx 1 s))))))).setCell ⟨MB, 8, none⟩ (.slice ba bl.length bc)).setCell ⟨MB, 9, none⟩ (.slice pa pl.length pc)).output = w5.output) := ⟨rfl, rfl, rfl⟩
    go_upto_region 13 with fail
    generalize ((((w5.setCell ⟨MB, 6, none⟩ (.int .i64 (nB 1 (nx 1 (nx 1 (nx 1 s)))))).setCell ⟨MB, 7, none⟩ (.int .i64 (nB 3 (nx 1 (nx 1 (nx 1 (nx 1 s))))))).setCell ⟨MB, 8, none⟩ (.slice ba bl.length bc)).setCell ⟨MB, 9, none⟩ (.slice pa pl.length pc)) = VF at rF zF HQ HZ HO ⊢
    clear r5 z5 x6 y6 x7 y7 x8 y8 x9 y9
    go_wp2_with (first | refine wpList_load_row rfl 37 _ rfl MB rfl 37 #[.int .i64 (nB 1 (nx 1 s)), .int .i64 (nB 1 (nx 1 (nx 1 s))), .int .i64 2, .int .i64 0, .int .i64 0, .slice none 0 0, .int .i64 (nB 1 (nx 1 (nx 1 (nx 1 s)))), .int .i64 (nB 3 (nx 1 (nx 1 (nx 1 (nx 1 s))))), .slice ba bl.length bc, .slice pa pl.length pc, .int .i64 0, .int .i64 0, .slice none 0 0, .int .i64 0, .int .i64 0, .slice none 0 0, .slice none 0 0, .slice none 0 0, .int .i64 0] (0, 0) _ rF Try.underlying37 rfl sMsg' ?_ | refine wpList_store_row rfl 37 _ _ rfl w.heap.size #[.int .i64 (nB 1 (nx 1 s)), .int .i64 (nB 1 (nx 1 (nx 1 s))), .int .i64 2, .int .i64 0, .int .i64 0, .slice none 0 0, .int .i64 (nB 1 (nx 1 (nx 1 (nx 1 s)))), .int .i64 (nB 3 (nx 1 (nx 1 (nx 1 (nx 1 s))))), .slice ba bl.length bc, .slice pa pl.length pc, .int .i64 0, .int .i64 0, .slice none 0 0, .int .i64 0, .int .i64 0, .slice none 0 0, .slice none 0 0, .slice none 0 0, .int .i64 0] rfl rfl 37 _ zF sMsg' rfl (by simp [Value.oneCell']) ?_)
    obtain ⟨x, hxe, hxM, hxH, hxc, hxR⟩ := HX.out
    refine bodyPost_ret (v := .agg #[.int .i64 (nB 1 (nx 1 s)), .int .i64 (nB 1 (nx 1 (nx 1 s))), .int .i64 2, .int .i64 0, .int .i64 0, .slice none 0 0, .int .i64 (nB 1 (nx 1 (nx 1 (nx 1 s)))), .int .i64 (nB 3 (nx 1 (nx 1 (nx 1 (nx 1 s))))), .slice ba bl.length bc, .slice pa pl.length pc, .int .i64 0, .int .i64 0, .slice none 0 0, .int .i64 0, .int .i64 0, .slice none 0 0, .slice none 0 0, .slice none 0 0, .int .i64 0]) (results_cell_row (fn := Try.f36) (p := 2) (ty := 37) rfl _ _ w.heap.size 37 _ (0, 0) _ rfl (setRow_heap _ _ _ _ _ _ zF) Try.underlying37 rfl sMsg') rfl ⟨x, by rw [hxe], ?_, hxH.mono (fun q hq => by omega), hxc, ?_, ?_⟩
    · refine hxM.stays (G := fun q => WB.heap.size ≤ q) (fun q hq => ?_) hxH
      exact (setRow_other _ w.heap.size q _ (by omega)).trans (HQ.out q (by omega))
    · refine RdrAt.stays hxR (fun q hq => ?_)
      exact (setRow_other _ w.heap.size q _ (by omega)).trans (HQ.out q (by omega))
    · have hOw := hOw0.trans hO5
      refine ⟨HO.out.1.trans hOw.os, HO.out.2.1.trans hOw.tape, HO.out.2.2.trans hOw.output, by have := hOw.size; have := HZ.out; simp [World.setRow]; omega, fun q hq hn => ?_⟩
      exact ((setRow_other _ w.heap.size q _ (by omega)).trans (HQ.out q (by omega))).trans (hOw.block q hq hn)
  · rw [hk] at qM c2 ⊢
    have HKI : Hid (nB 1 s = 3) := hk
    clear hk
    go_wp2_with fail
    refine (slot_any R (nx 1 (nx 1 (nx 1 s))) WB hRM hgs3).mono ?_
    rintro e w5 ⟨da, dc, he, hS5, hf5, hR5, ho5⟩
    subst he
    dsimp only
    have r5 := (ho5.block _ hszM (by omega)).trans qM
    have z5 := (ho5.block _ (by omega) (by omega)).trans zM
    have hO5 := hOM.trans ho5
    have hne0 : w.heap.size ≠ MB := by omega
    have hneM := hne0
    have x10 : w5.cell? ⟨MB, 10, none⟩ = some (.int .i64 0) := cells_at r5 10 _ rfl
    have y10 := frozen_at r5 10
    have x11 : w5.cell? ⟨MB, 11, none⟩ = some (.int .i64 0) := cells_at r5 11 _ rfl
    have y11 := frozen_at r5 11
    have x12 : w5.cell? ⟨MB, 12, none⟩ = some (.slice none 0 0) := cells_at r5 12 _ rfl
    have y12 := frozen_at r5 12
    have rF : (((w5.setCell ⟨MB, 10, none⟩ (.int .i64 (nB 1 (nx 1 (nx 1 (nx 1 s)))))).setCell ⟨MB, 11, none⟩ (.int .i64 (nB 3 (nx 1 (nx 1 (nx 1 (nx 1 s))))))).setCell ⟨MB, 12, none⟩ (.slice da (tT 32 (nx 3 (nx 1 (nx 1 (nx 1 (nx 1 s)))))).length dc)).heap[MB]? = some (.cells #[.int .i64 (nB 1 (nx 1 s)), .int .i64 (nB 1 (nx 1 (nx 1 s))), .int .i64 3, .int .i64 0, .int .i64 0, .slice none 0 0, .int .i64 0, .int .i64 0, .slice none 0 0, .slice none 0 0, .int .i64 (nB 1 (nx 1 (nx 1 (nx 1 s)))), .int .i64 (nB 3 (nx 1 (nx 1 (nx 1 (nx 1 s))))), .slice da (tT 32 (nx 3 (nx 1 (nx 1 (nx 1 (nx 1 s)))))).length dc, .int .i64 0, .int .i64 0, .slice none 0 0, .slice none 0 0, .slice none 0 0, .int .i64 0] 37 (0, 0)) := by simpa using (heap_setCell_same _ _ 12 _ _ (.slice da (tT 32 (nx 3 (nx 1 (nx 1 (nx 1 (nx 1 s)))))).length dc) (heap_setCell_same _ _ 11 _ _ (.int .i64 (nB 3 (nx 1 (nx 1 (nx 1 (nx 1 s)))))) (heap_setCell_same _ _ 10 _ _ (.int .i64 (nB 1 (nx 1 (nx 1 (nx 1 s))))) r5)))
    have zF := (heap_far (j := 12) (v := .slice da (tT 32 (nx 3 (nx 1 (nx 1 (nx 1 (nx 1 s)))))).length dc) (heap_far (j := 11) (v := .int .i64 (nB 3 (nx 1 (nx 1 (nx 1 (nx 1 s)))))) (heap_far (j := 10) (v := .int .i64 (nB 1 (nx 1 (nx 1 (nx 1 s))))) z5 hneM) hneM) hneM)
    have HX : Hid (∃ x : MV, (.agg #[.int .i64 x.m.fr, .int .i64 x.m.tt, .int .i64 x.m.ki, .int .i64 x.m.bau, .int .i64 x.m.bnu, .slice x.m.bta x.m.btn x.m.btc, .int .i64 x.m.hau, .int .i64 x.m.hrd, .slice x.m.hba x.m.hbn x.m.hbc, .slice x.m.hpa x.m.hpn x.m.hpc, .int .i64 x.m.sau, .int .i64 x.m.srd, .slice x.m.sda x.m.sdn x.m.sdc, .int .i64 x.m.cau, .int .i64 x.m.crd, .slice x.m.cba x.m.cbn x.m.cbc, .slice x.m.cpa x.m.cpn x.m.cpc, .slice x.m.cva x.m.cvn x.m.cvc, .int .i64 x.m.ro] : Value) = .agg #[.int .i64 (nB 1 (nx 1 s)), .int .i64 (nB 1 (nx 1 (nx 1 s))), .int .i64 3, .int .i64 0, .int .i64 0, .slice none 0 0, .int .i64 0, .int .i64 0, .slice none 0 0, .slice none 0 0, .int .i64 (nB 1 (nx 1 (nx 1 (nx 1 s)))), .int .i64 (nB 3 (nx 1 (nx 1 (nx 1 (nx 1 s))))), .slice da (tT 32 (nx 3 (nx 1 (nx 1 (nx 1 (nx 1 s)))))).length dc, .int .i64 0, .int .i64 0, .slice none 0 0, .slice none 0 0, .slice none 0 0, .int .i64 0] ∧ MAt w5 x ∧ HasM (fun q => WB.heap.size ≤ q) x ∧ x.c = pM s ∧ RdS w5 R (mS s)) := by
      refine ⟨⟨⟨nB 1 (nx 1 s), nB 1 (nx 1 (nx 1 s)), 3, 0, 0, 0, 0, nB 1 (nx 1 (nx 1 (nx 1 s))), nB 3 (nx 1 (nx 1 (nx 1 (nx 1 s)))), 0, 0, 0, none, none, none, da, none, none, none, 0, 0, 0, 0, 0, 0, (tT 32 (nx 3 (nx 1 (nx 1 (nx 1 (nx 1 s)))))).length, dc, 0, 0, 0, 0, 0, 0⟩, [], [], [], [], [], tT 32 (nx 3 (nx 1 (nx 1 (nx 1 (nx 1 s))))), []⟩, rfl, ⟨⟨rfl, rfl, rfl, rfl, rfl, rfl, by simp, by simp, by have := tkT_len (n := 32) (l := (nx 3 (nx 1 (nx 1 (nx 1 (nx 1 s))))).1) (sh := (nx 3 (nx 1 (nx 1 (nx 1 (nx 1 s))))).2); show (tkT _ _ _).length ≤ _; omega, ⟨.inl rfl, fun s h => by cases h⟩, (list_nilM _), (list_nilM _), (list_nilM _), (list_nilM _), ⟨.inl rfl⟩⟩, hS5, rfl⟩, NewM.has (x := ⟨⟨nB 1 (nx 1 s), nB 1 (nx 1 (nx 1 s)), 3, 0, 0, 0, 0, nB 1 (nx 1 (nx 1 (nx 1 s))), nB 3 (nx 1 (nx 1 (nx 1 (nx 1 s)))), 0, 0, 0, none, none, none, da, none, none, none, 0, 0, 0, 0, 0, 0, (tT 32 (nx 3 (nx 1 (nx 1 (nx 1 (nx 1 s)))))).length, dc, 0, 0, 0, 0, 0, 0⟩, [], [], [], [], [], tT 32 (nx 3 (nx 1 (nx 1 (nx 1 (nx 1 s))))), []⟩) ⟨(fun _ _ e => by cases e), ⟨(fun _ _ e => by cases e), (fun p hp => by cases hp)⟩, ⟨(fun _ _ e => by cases e), (fun p hp => by cases hp)⟩, hf5, ⟨(fun _ _ e => by cases e), (fun p hp => by cases hp)⟩, ⟨(fun _ _ e => by cases e), (fun p hp => by cases hp)⟩, (fun _ _ e => by cases e)⟩, ?_, ?_⟩
      · simp only [MV.c, pM, HKI.out]; rfl
      · simp only [mS, HKI.out]
        exact hR5
    have HQ : Hid (∀ q, q ≠ MB → (((w5.setCell ⟨MB, 10, none⟩ (.int .i64 (nB 1 (nx 1 (nx 1 (nx 1 s)))))).setCell ⟨MB, 11, none⟩ (.int .i64 (nB 3 (nx 1 (nx 1 (nx 1 (nx 1 s))))))).setCell ⟨MB, 12, none⟩ (.slice da (tT 32 (nx 3 (nx 1 (nx 1 (nx 1 (nx 1 s)))))).length dc)).heap[q]? = w5.heap[q]?) := by
      show ∀ _, _
      intro q hq1
      exact ((heap_setCell_other _ ⟨MB, 12, none⟩ q _ hq1).trans ((heap_setCell_other _ ⟨MB, 11, none⟩ q _ hq1).trans ((heap_setCell_other _ ⟨MB, 10, none⟩ q _ hq1).trans (rfl : w5.heap[q]? = w5.heap[q]?))))
    have HZ : Hid ((((w5.setCell ⟨MB, 10, none⟩ (.int .i64 (nB 1 (nx 1 (nx 1 (nx 1 s)))))).setCell ⟨MB, 11, none⟩ (.int .i64 (nB 3 (nx 1 (nx 1 (nx 1 (nx 1 s))))))).setCell ⟨MB, 12, none⟩ (.slice da (tT 32 (nx 3 (nx 1 (nx 1 (nx 1 (nx 1 s)))))).length dc)).heap.size = w5.heap.size) := by show _ = _; simp
    have HO : Hid ((((w5.setCell ⟨MB, 10, none⟩ (.int .i64 (nB 1 (nx 1 (nx 1 (nx 1 s)))))).setCell ⟨MB, 11, none⟩ (.int .i64 (nB 3 (nx 1 (nx 1 (nx 1 (nx 1 s))))))).setCell ⟨MB, 12, none⟩ (.slice da (tT 32 (nx 3 (nx 1 (nx 1 (nx 1 (nx 1 s)))))).length dc)).os = w5.os ∧ (((w5.setCell ⟨MB, 10, none⟩ (.int .i64 (nB 1 (nx 1 (nx 1 (nx 1 s)))))).setCell ⟨MB, 11, none⟩ (.int .i64 (nB 3 (nx 1 (nx 1 (nx 1 (nx 1 s))))))).setCell ⟨MB, 12, none⟩ (.slice da (tT 32 (nx 3 (nx 1 (nx 1 (nx 1 (nx 1 s)))))).length dc)).tape = w5.tape ∧ (((w5.setCell ⟨MB, 10, none⟩ (.int .i64 (nB 1 (nx 1 (nx 1 (nx 1 s)))))).setCell ⟨MB, 11, none⟩ (.int .i64 (nB 3 (nx 1 (nx 1 (nx 1 (nx 1 s))))))).setCell ⟨MB, 12, none⟩ (.slice da (tT 32 (nx 3 (nx 1 (nx 1 (nx 1 (nx 1 s)))))).length dc)).output = w5.output) := ⟨rfl, rfl, rfl⟩
    go_upto_region 13 with fail
    generalize (((w5.setCell ⟨MB, 10, none⟩ (.int .i64 (nB 1 (nx 1 (nx 1 (nx 1 s)))))).setCell ⟨MB, 11, none⟩ (.int .i64 (nB 3 (nx 1 (nx 1 (nx 1 (nx 1 s))))))).setCell ⟨MB, 12, none⟩ (.slice da (tT 32 (nx 3 (nx 1 (nx 1 (nx 1 (nx 1 s)))))).length dc)) = VF at rF zF HQ HZ HO ⊢
    clear r5 z5 x10 y10 x11 y11 x12 y12
    go_wp2_with (first | refine wpList_load_row rfl 37 _ rfl MB rfl 37 #[.int .i64 (nB 1 (nx 1 s)), .int .i64 (nB 1 (nx 1 (nx 1 s))), .int .i64 3, .int .i64 0, .int .i64 0, .slice none 0 0, .int .i64 0, .int .i64 0, .slice none 0 0, .slice none 0 0, .int .i64 (nB 1 (nx 1 (nx 1 (nx 1 s)))), .int .i64 (nB 3 (nx 1 (nx 1 (nx 1 (nx 1 s))))), .slice da (tT 32 (nx 3 (nx 1 (nx 1 (nx 1 (nx 1 s)))))).length dc, .int .i64 0, .int .i64 0, .slice none 0 0, .slice none 0 0, .slice none 0 0, .int .i64 0] (0, 0) _ rF Try.underlying37 rfl sMsg' ?_ | refine wpList_store_row rfl 37 _ _ rfl w.heap.size #[.int .i64 (nB 1 (nx 1 s)), .int .i64 (nB 1 (nx 1 (nx 1 s))), .int .i64 3, .int .i64 0, .int .i64 0, .slice none 0 0, .int .i64 0, .int .i64 0, .slice none 0 0, .slice none 0 0, .int .i64 (nB 1 (nx 1 (nx 1 (nx 1 s)))), .int .i64 (nB 3 (nx 1 (nx 1 (nx 1 (nx 1 s))))), .slice da (tT 32 (nx 3 (nx 1 (nx 1 (nx 1 (nx 1 s)))))).length dc, .int .i64 0, .int .i64 0, .slice none 0 0, .slice none 0 0, .slice none 0 0, .int .i64 0] rfl rfl 37 _ zF sMsg' rfl (by simp [Value.oneCell']) ?_)
    obtain ⟨x, hxe, hxM, hxH, hxc, hxR⟩ := HX.out
    refine bodyPost_ret (v := .agg #[.int .i64 (nB 1 (nx 1 s)), .int .i64 (nB 1 (nx 1 (nx 1 s))), .int .i64 3, .int .i64 0, .int .i64 0, .slice none 0 0, .int .i64 0, .int .i64 0, .slice none 0 0, .slice none 0 0, .int .i64 (nB 1 (nx 1 (nx 1 (nx 1 s)))), .int .i64 (nB 3 (nx 1 (nx 1 (nx 1 (nx 1 s))))), .slice da (tT 32 (nx 3 (nx 1 (nx 1 (nx 1 (nx 1 s)))))).length dc, .int .i64 0, .int .i64 0, .slice none 0 0, .slice none 0 0, .slice none 0 0, .int .i64 0]) (results_cell_row (fn := Try.f36) (p := 2) (ty := 37) rfl _ _ w.heap.size 37 _ (0, 0) _ rfl (setRow_heap _ _ _ _ _ _ zF) Try.underlying37 rfl sMsg') rfl ⟨x, by rw [hxe], ?_, hxH.mono (fun q hq => by omega), hxc, ?_, ?_⟩
    · refine hxM.stays (G := fun q => WB.heap.size ≤ q) (fun q hq => ?_) hxH
      exact (setRow_other _ w.heap.size q _ (by omega)).trans (HQ.out q (by omega))
    · refine RdrAt.stays hxR (fun q hq => ?_)
      exact (setRow_other _ w.heap.size q _ (by omega)).trans (HQ.out q (by omega))
    · have hOw := hOw0.trans hO5
      refine ⟨HO.out.1.trans hOw.os, HO.out.2.1.trans hOw.tape, HO.out.2.2.trans hOw.output, by have := hOw.size; have := HZ.out; simp [World.setRow]; omega, fun q hq hn => ?_⟩
      exact ((setRow_other _ w.heap.size q _ (by omega)).trans (HQ.out q (by omega))).trans (hOw.block q hq hn)
  · rw [hk] at qM c2 ⊢
    have HKI : Hid (nB 1 s = 4) := hk
    clear hk
    go_wp2_with fail
    refine (cert_rd R (nx 1 (nx 1 (nx 1 s))) WB hRM hgs3).mono ?_
    rintro e w5 ⟨ba, bc, bl, pa, pc, pl, va, vc, he, hq1, hq2, hL1, hL2, hF1, hF2, hI5, hf5, hR5, ho5⟩
    subst he
    dsimp only
    have r5 := (ho5.block _ hszM (by omega)).trans qM
    have z5 := (ho5.block _ (by omega) (by omega)).trans zM
    have hO5 := hOM.trans ho5
    have hne0 : w.heap.size ≠ MB := by omega
    have hneM := hne0
    have x13 : w5.cell? ⟨MB, 13, none⟩ = some (.int .i64 0) := cells_at r5 13 _ rfl
    have y13 := frozen_at r5 13
    have x14 : w5.cell? ⟨MB, 14, none⟩ = some (.int .i64 0) := cells_at r5 14 _ rfl
    have y14 := frozen_at r5 14
    have x15 : w5.cell? ⟨MB, 15, none⟩ = some (.slice none 0 0) := cells_at r5 15 _ rfl
    have y15 := frozen_at r5 15
    have x16 : w5.cell? ⟨MB, 16, none⟩ = some (.slice none 0 0) := cells_at r5 16 _ rfl
    have y16 := frozen_at r5 16
    have x17 : w5.cell? ⟨MB, 17, none⟩ = some (.slice none 0 0) := cells_at r5 17 _ rfl
    have y17 := frozen_at r5 17
    have rF : (((((w5.setCell ⟨MB, 13, none⟩ (.int .i64 (nB 1 (nx 1 (nx 1 (nx 1 s)))))).setCell ⟨MB, 14, none⟩ (.int .i64 (nB 3 (nx 1 (nx 1 (nx 1 (nx 1 s))))))).setCell ⟨MB, 15, none⟩ (.slice ba bl.length bc)).setCell ⟨MB, 16, none⟩ (.slice pa pl.length pc)).setCell ⟨MB, 17, none⟩ (.slice va (cN (nx 1 (nx 1 (nx 1 s)))) vc)).heap[MB]? = some (.cells #[.int .i64 (nB 1 (nx 1 s)), .int .i64 (nB 1 (nx 1 (nx 1 s))), .int .i64 4, .int .i64 0, .int .i64 0, .slice none 0 0, .int .i64 0, .int .i64 0, .slice none 0 0, .slice none 0 0, .int .i64 0, .int .i64 0, .slice none 0 0, .int .i64 (nB 1 (nx 1 (nx 1 (nx 1 s)))), .int .i64 (nB 3 (nx 1 (nx 1 (nx 1 (nx 1 s))))), .slice ba bl.length bc, .slice pa pl.length pc, .slice va (cN (nx 1 (nx 1 (nx 1 s)))) vc, .int .i64 0] 37 (0, 0)) := by simpa using (heap_setCell_same _ _ 17 _ _ (.slice va (cN (nx 1 (nx 1 (nx 1 s)))) vc) (heap_setCell_same _ _ 16 _ _ (.slice pa pl.length pc) (heap_setCell_same _ _ 15 _ _ (.slice ba bl.length bc) (heap_setCell_same _ _ 14 _ _ (.int .i64 (nB 3 (nx 1 (nx 1 (nx 1 (nx 1 s)))))) (heap_setCell_same _ _ 13 _ _ (.int .i64 (nB 1 (nx 1 (nx 1 (nx 1 s))))) r5)))))
    have zF := (heap_far (j := 17) (v := .slice va (cN (nx 1 (nx 1 (nx 1 s)))) vc) (heap_far (j := 16) (v := .slice pa pl.length pc) (heap_far (j := 15) (v := .slice ba bl.length bc) (heap_far (j := 14) (v := .int .i64 (nB 3 (nx 1 (nx 1 (nx 1 (nx 1 s)))))) (heap_far (j := 13) (v := .int .i64 (nB 1 (nx 1 (nx 1 (nx 1 s))))) z5 hneM) hneM) hneM) hneM) hneM)
    have HX : Hid (∃ x : MV, (.agg #[.int .i64 x.m.fr, .int .i64 x.m.tt, .int .i64 x.m.ki, .int .i64 x.m.bau, .int .i64 x.m.bnu, .slice x.m.bta x.m.btn x.m.btc, .int .i64 x.m.hau, .int .i64 x.m.hrd, .slice x.m.hba x.m.hbn x.m.hbc, .slice x.m.hpa x.m.hpn x.m.hpc, .int .i64 x.m.sau, .int .i64 x.m.srd, .slice x.m.sda x.m.sdn x.m.sdc, .int .i64 x.m.cau, .int .i64 x.m.crd, .slice x.m.cba x.m.cbn x.m.cbc, .slice x.m.cpa x.m.cpn x.m.cpc, .slice x.m.cva x.m.cvn x.m.cvc, .int .i64 x.m.ro] : Value) = .agg #[.int .i64 (nB 1 (nx 1 s)), .int .i64 (nB 1 (nx 1 (nx 1 s))), .int .i64 4, .int .i64 0, .int .i64 0, .slice none 0 0, .int .i64 0, .int .i64 0, .slice none 0 0, .slice none 0 0, .int .i64 0, .int .i64 0, .slice none 0 0, .int .i64 (nB 1 (nx 1 (nx 1 (nx 1 s)))), .int .i64 (nB 3 (nx 1 (nx 1 (nx 1 (nx 1 s))))), .slice ba bl.length bc, .slice pa pl.length pc, .slice va (cN (nx 1 (nx 1 (nx 1 s)))) vc, .int .i64 0] ∧ MAt w5 x ∧ HasM (fun q => WB.heap.size ≤ q) x ∧ x.c = pM s ∧ RdS w5 R (mS s)) := by
      refine ⟨⟨⟨nB 1 (nx 1 s), nB 1 (nx 1 (nx 1 s)), 4, 0, 0, 0, 0, 0, 0, nB 1 (nx 1 (nx 1 (nx 1 s))), nB 3 (nx 1 (nx 1 (nx 1 (nx 1 s)))), 0, none, none, none, none, ba, pa, va, 0, 0, 0, 0, 0, 0, 0, 0, bl.length, bc, pl.length, pc, cN (nx 1 (nx 1 (nx 1 s))), vc⟩, [], [], [], bl, pl, [], nV (nx 1 (hS4 (nx 1 (nx 1 (nx 1 s))))) (cN (nx 1 (nx 1 (nx 1 s))))⟩, rfl, ⟨⟨rfl, rfl, rfl, rfl, rfl, (nV_length _ _).symm, by simp, by rw [nV_length]; have := hn4; omega, by simp, ⟨.inl rfl, fun s h => by cases h⟩, (list_nilM _), (list_nilM _), hL1, hL2, hI5⟩, (nilM _), rfl⟩, NewM.has (x := ⟨⟨nB 1 (nx 1 s), nB 1 (nx 1 (nx 1 s)), 4, 0, 0, 0, 0, 0, 0, nB 1 (nx 1 (nx 1 (nx 1 s))), nB 3 (nx 1 (nx 1 (nx 1 (nx 1 s)))), 0, none, none, none, none, ba, pa, va, 0, 0, 0, 0, 0, 0, 0, 0, bl.length, bc, pl.length, pc, cN (nx 1 (nx 1 (nx 1 s))), vc⟩, [], [], [], bl, pl, [], nV (nx 1 (hS4 (nx 1 (nx 1 (nx 1 s))))) (cN (nx 1 (nx 1 (nx 1 s))))⟩) ⟨(fun _ _ e => by cases e), ⟨(fun _ _ e => by cases e), (fun p hp => by cases hp)⟩, ⟨(fun _ _ e => by cases e), (fun p hp => by cases hp)⟩, (fun _ _ e => by cases e), hF1, hF2, hf5⟩, ?_, ?_⟩
      · simp only [MV.c, pM, HKI.out, hq1, hq2]; rfl
      · simp only [mS, HKI.out]
        exact hR5
    clear hq1 hq2 hL1 hL2 hF1 hF2 hI5
    have HQ : Hid (∀ q, q ≠ MB → (((((w5.setCell ⟨MB, 13, none⟩ (.int .i64 (nB 1 (nx 1 (nx 1 (nx 1 s)))))).setCell ⟨MB, 14, none⟩ (.int .i64 (nB 3 (nx 1 (nx 1 (nx 1 (nx 1 s))))))).setCell ⟨MB, 15, none⟩ (.slice ba bl.length bc)).setCell ⟨MB, 16, none⟩ (.slice pa pl.length pc)).setCell ⟨MB, 17, none⟩ (.slice va (cN (nx 1 (nx 1 (nx 1 s)))) vc)).heap[q]? = w5.heap[q]?) := by
      show ∀ _, _
      intro q hq1
      exact ((heap_setCell_other _ ⟨MB, 17, none⟩ q _ hq1).trans ((heap_setCell_other _ ⟨MB, 16, none⟩ q _ hq1).trans ((heap_setCell_other _ ⟨MB, 15, none⟩ q _ hq1).trans ((heap_setCell_other _ ⟨MB, 14, none⟩ q _ hq1).trans ((heap_setCell_other _ ⟨MB, 13, none⟩ q _ hq1).trans (rfl : w5.heap[q]? = w5.heap[q]?))))))
    have HZ : Hid ((((((w5.setCell ⟨MB, 13, none⟩ (.int .i64 (nB 1 (nx 1 (nx 1 (nx 1 s)))))).setCell ⟨MB, 14, none⟩ (.int .i64 (nB 3 (nx 1 (nx 1 (nx 1 (nx 1 s))))))).setCell ⟨MB, 15, none⟩ (.slice ba bl.length bc)).setCell ⟨MB, 16, none⟩ (.slice pa pl.length pc)).setCell ⟨MB, 17, none⟩ (.slice va (cN (nx 1 (nx 1 (nx 1 s)))) vc)).heap.size = w5.heap.size) := by show _ = _; simp
    have HO : Hid ((((((w5.setCell ⟨MB, 13, none⟩ (.int .i64 (nB 1 (nx 1 (nx 1 (nx 1 s)))))).setCell ⟨MB, 14, none⟩ (.int .i64 (nB 3 (nx 1 (nx 1 (nx 1 (nx 1 s))))))).setCell ⟨MB, 15, none⟩ (.slice ba bl.length bc)).setCell ⟨MB, 16, none⟩ (.slice pa pl.length pc)).setCell ⟨MB, 17, none⟩ (.slice va (cN (nx 1 (nx 1 (nx 1 s)))) vc)).os = w5.os ∧ (((((w5.setCell ⟨MB, 13, none⟩ (.int .i64 (nB 1 (nx 1 (nx 1 (nx 1 s)))))).setCell ⟨MB, 14, none⟩ (.int .i64 (nB 3 (nx 1 (nx 1 (nx 1 (nx 1 s))))))).setCell ⟨MB, 15, none⟩ (.slice ba bl.length bc)).setCell ⟨MB, 16, none⟩ (.slice pa pl.length pc)).setCell ⟨MB, 17, none⟩ (.slice va (cN (nx 1 (nx 1 (nx 1 s)))) vc)).tape = w5.tape ∧ (((((w5.setCell ⟨MB, 13, none⟩ (.int .i64 (nB 1 (nx 1 (nx 1 (nx 1 s)))))).setCell ⟨MB, 14, none⟩ (.int .i64 (nB 3 (nx 1 (nx 1 (nx 1 (nx 1 s))))))).setCell ⟨MB, 15, none⟩ (.slice ba bl.length bc)).setCell ⟨MB, 16, none⟩ (.slice pa pl.length pc)).setCell ⟨MB, 17, none⟩ (.slice va (cN (nx 1 (nx 1 (nx 1 s)))) vc)).output = w5.output) := ⟨rfl, rfl, rfl⟩
    go_upto_region 13 with fail
    generalize (((((w5.setCell ⟨MB, 13, none⟩ (.int .i64 (nB 1 (nx 1 (nx 1 (nx 1 s)))))).setCell ⟨MB, 14, none⟩ (.int .i64 (nB 3 (nx 1 (nx 1 (nx 1 (nx 1 s))))))).setCell ⟨MB, 15, none⟩ (.slice ba bl.length bc)).setCell ⟨MB, 16, none⟩ (.slice pa pl.length pc)).setCell ⟨MB, 17, none⟩ (.slice va (cN (nx 1 (nx 1 (nx 1 s)))) vc)) = VF at rF zF HQ HZ HO ⊢
    clear r5 z5 x13 y13 x14 y14 x15 y15 x16 y16 x17 y17
    go_wp2_with (first | refine wpList_load_row rfl 37 _ rfl MB rfl 37 #[.int .i64 (nB 1 (nx 1 s)), .int .i64 (nB 1 (nx 1 (nx 1 s))), .int .i64 4, .int .i64 0, .int .i64 0, .slice none 0 0, .int .i64 0, .int .i64 0, .slice none 0 0, .slice none 0 0, .int .i64 0, .int .i64 0, .slice none 0 0, .int .i64 (nB 1 (nx 1 (nx 1 (nx 1 s)))), .int .i64 (nB 3 (nx 1 (nx 1 (nx 1 (nx 1 s))))), .slice ba bl.length bc, .slice pa pl.length pc, .slice va (cN (nx 1 (nx 1 (nx 1 s)))) vc, .int .i64 0] (0, 0) _ rF Try.underlying37 rfl sMsg' ?_ | refine wpList_store_row rfl 37 _ _ rfl w.heap.size #[.int .i64 (nB 1 (nx 1 s)), .int .i64 (nB 1 (nx 1 (nx 1 s))), .int .i64 4, .int .i64 0, .int .i64 0, .slice none 0 0, .int .i64 0, .int .i64 0, .slice none 0 0, .slice none 0 0, .int .i64 0, .int .i64 0, .slice none 0 0, .int .i64 (nB 1 (nx 1 (nx 1 (nx 1 s)))), .int .i64 (nB 3 (nx 1 (nx 1 (nx 1 (nx 1 s))))), .slice ba bl.length bc, .slice pa pl.length pc, .slice va (cN (nx 1 (nx 1 (nx 1 s)))) vc, .int .i64 0] rfl rfl 37 _ zF sMsg' rfl (by simp [Value.oneCell']) ?_)
    obtain ⟨x, hxe, hxM, hxH, hxc, hxR⟩ := HX.out
    refine bodyPost_ret (v := .agg #[.int .i64 (nB 1 (nx 1 s)), .int .i64 (nB 1 (nx 1 (nx 1 s))), .int .i64 4, .int .i64 0, .int .i64 0, .slice none 0 0, .int .i64 0, .int .i64 0, .slice none 0 0, .slice none 0 0, .int .i64 0, .int .i64 0, .slice none 0 0, .int .i64 (nB 1 (nx 1 (nx 1 (nx 1 s)))), .int .i64 (nB 3 (nx 1 (nx 1 (nx 1 (nx 1 s))))), .slice ba bl.length bc, .slice pa pl.length pc, .slice va (cN (nx 1 (nx 1 (nx 1 s)))) vc, .int .i64 0]) (results_cell_row (fn := Try.f36) (p := 2) (ty := 37) rfl _ _ w.heap.size 37 _ (0, 0) _ rfl (setRow_heap _ _ _ _ _ _ zF) Try.underlying37 rfl sMsg') rfl ⟨x, by rw [hxe], ?_, hxH.mono (fun q hq => by omega), hxc, ?_, ?_⟩
    · refine hxM.stays (G := fun q => WB.heap.size ≤ q) (fun q hq => ?_) hxH
      exact (setRow_other _ w.heap.size q _ (by omega)).trans (HQ.out q (by omega))
    · refine RdrAt.stays hxR (fun q hq => ?_)
      exact (setRow_other _ w.heap.size q _ (by omega)).trans (HQ.out q (by omega))
    · have hOw := hOw0.trans hO5
      refine ⟨HO.out.1.trans hOw.os, HO.out.2.1.trans hOw.tape, HO.out.2.2.trans hOw.output, by have := hOw.size; have := HZ.out; simp [World.setRow]; omega, fun q hq hn => ?_⟩
      exact ((setRow_other _ w.heap.size q _ (by omega)).trans (HQ.out q (by omega))).trans (hOw.block q hq hn)
  · rw [hk] at qM c2 ⊢
    have HKI : Hid (nB 1 s = 5) := hk
    clear hk
    go_wp2_with fail
    refine (round_st R (nx 1 (nx 1 (nx 1 s))) WB hRM hgs3).mono ?_
    rintro e w5 ⟨he, hR5, ho5⟩
    subst he
    dsimp only
    have r5 := (ho5.block _ hszM (by omega)).trans qM
    have z5 := (ho5.block _ (by omega) (by omega)).trans zM
    have hO5 := hOM.trans ho5
    have hne0 : w.heap.size ≠ MB := by omega
    have hneM := hne0
    have x18 : w5.cell? ⟨MB, 18, none⟩ = some (.int .i64 0) := cells_at r5 18 _ rfl
    have y18 := frozen_at r5 18
    have rF : (w5.setCell ⟨MB, 18, none⟩ (.int .i64 (nB 3 (nx 1 (nx 1 (nx 1 s)))))).heap[MB]? = some (.cells #[.int .i64 (nB 1 (nx 1 s)), .int .i64 (nB 1 (nx 1 (nx 1 s))), .int .i64 5, .int .i64 0, .int .i64 0, .slice none 0 0, .int .i64 0, .int .i64 0, .slice none 0 0, .slice none 0 0, .int .i64 0, .int .i64 0, .slice none 0 0, .int .i64 0, .int .i64 0, .slice none 0 0, .slice none 0 0, .slice none 0 0, .int .i64 (nB 3 (nx 1 (nx 1 (nx 1 s))))] 37 (0, 0)) := by simpa using (heap_setCell_same _ _ 18 _ _ (.int .i64 (nB 3 (nx 1 (nx 1 (nx 1 s))))) r5)
    have zF := (heap_far (j := 18) (v := .int .i64 (nB 3 (nx 1 (nx 1 (nx 1 s))))) z5 hneM)
    have HX : Hid (∃ x : MV, (.agg #[.int .i64 x.m.fr, .int .i64 x.m.tt, .int .i64 x.m.ki, .int .i64 x.m.bau, .int .i64 x.m.bnu, .slice x.m.bta x.m.btn x.m.btc, .int .i64 x.m.hau, .int .i64 x.m.hrd, .slice x.m.hba x.m.hbn x.m.hbc, .slice x.m.hpa x.m.hpn x.m.hpc, .int .i64 x.m.sau, .int .i64 x.m.srd, .slice x.m.sda x.m.sdn x.m.sdc, .int .i64 x.m.cau, .int .i64 x.m.crd, .slice x.m.cba x.m.cbn x.m.cbc, .slice x.m.cpa x.m.cpn x.m.cpc, .slice x.m.cva x.m.cvn x.m.cvc, .int .i64 x.m.ro] : Value) = .agg #[.int .i64 (nB 1 (nx 1 s)), .int .i64 (nB 1 (nx 1 (nx 1 s))), .int .i64 5, .int .i64 0, .int .i64 0, .slice none 0 0, .int .i64 0, .int .i64 0, .slice none 0 0, .slice none 0 0, .int .i64 0, .int .i64 0, .slice none 0 0, .int .i64 0, .int .i64 0, .slice none 0 0, .slice none 0 0, .slice none 0 0, .int .i64 (nB 3 (nx 1 (nx 1 (nx 1 s))))] ∧ MAt w5 x ∧ HasM (fun q => WB.heap.size ≤ q) x ∧ x.c = pM s ∧ RdS w5 R (mS s)) := by
      refine ⟨⟨⟨nB 1 (nx 1 s), nB 1 (nx 1 (nx 1 s)), 5, 0, 0, 0, 0, 0, 0, 0, 0, nB 3 (nx 1 (nx 1 (nx 1 s))), none, none, none, none, none, none, none, 0, 0, 0, 0, 0, 0, 0, 0, 0, 0, 0, 0, 0, 0⟩, [], [], [], [], [], [], []⟩, rfl, ⟨⟨rfl, rfl, rfl, rfl, rfl, rfl, by simp, by simp, by simp, ⟨.inl rfl, fun s h => by cases h⟩, (list_nilM _), (list_nilM _), (list_nilM _), (list_nilM _), ⟨.inl rfl⟩⟩, (nilM _), rfl⟩, NewM.has (x := ⟨⟨nB 1 (nx 1 s), nB 1 (nx 1 (nx 1 s)), 5, 0, 0, 0, 0, 0, 0, 0, 0, nB 3 (nx 1 (nx 1 (nx 1 s))), none, none, none, none, none, none, none, 0, 0, 0, 0, 0, 0, 0, 0, 0, 0, 0, 0, 0, 0⟩, [], [], [], [], [], [], []⟩) ⟨(fun _ _ e => by cases e), ⟨(fun _ _ e => by cases e), (fun p hp => by cases hp)⟩, ⟨(fun _ _ e => by cases e), (fun p hp => by cases hp)⟩, (fun _ _ e => by cases e), ⟨(fun _ _ e => by cases e), (fun p hp => by cases hp)⟩, ⟨(fun _ _ e => by cases e), (fun p hp => by cases hp)⟩, (fun _ _ e => by cases e)⟩, ?_, ?_⟩
      · simp only [MV.c, pM, HKI.out]; rfl
      · simp only [mS, HKI.out]
        exact hR5
    have HQ : Hid (∀ q, q ≠ MB → (w5.setCell ⟨MB, 18, none⟩ (.int .i64 (nB 3 (nx 1 (nx 1 (nx 1 s)))))).heap[q]? = w5.heap[q]?) := by
      show ∀ _, _
      intro q hq1
      exact ((heap_setCell_other _ ⟨MB, 18, none⟩ q _ hq1).trans (rfl : w5.heap[q]? = w5.heap[q]?))
    have HZ : Hid ((w5.setCell ⟨MB, 18, none⟩ (.int .i64 (nB 3 (nx 1 (nx 1 (nx 1 s)))))).heap.size = w5.heap.size) := by show _ = _; simp
    have HO : Hid ((w5.setCell ⟨MB, 18, none⟩ (.int .i64 (nB 3 (nx 1 (nx 1 (nx 1 s)))))).os = w5.os ∧ (w5.setCell ⟨MB, 18, none⟩ (.int .i64 (nB 3 (nx 1 (nx 1 (nx 1 s)))))).tape = w5.tape ∧ (w5.setCell ⟨MB, 18, none⟩ (.int .i64 (nB 3 (nx 1 (nx 1 (nx 1 s)))))).output = w5.output) := ⟨rfl, rfl, rfl⟩
    go_upto_region 13 with fail
    generalize (w5.setCell ⟨MB, 18, none⟩ (.int .i64 (nB 3 (nx 1 (nx 1 (nx 1 s)))))) = VF at rF zF HQ HZ HO ⊢
    clear r5 z5 x18 y18
    go_wp2_with (first | refine wpList_load_row rfl 37 _ rfl MB rfl 37 #[.int .i64 (nB 1 (nx 1 s)), .int .i64 (nB 1 (nx 1 (nx 1 s))), .int .i64 5, .int .i64 0, .int .i64 0, .slice none 0 0, .int .i64 0, .int .i64 0, .slice none 0 0, .slice none 0 0, .int .i64 0, .int .i64 0, .slice none 0 0, .int .i64 0, .int .i64 0, .slice none 0 0, .slice none 0 0, .slice none 0 0, .int .i64 (nB 3 (nx 1 (nx 1 (nx 1 s))))] (0, 0) _ rF Try.underlying37 rfl sMsg' ?_ | refine wpList_store_row rfl 37 _ _ rfl w.heap.size #[.int .i64 (nB 1 (nx 1 s)), .int .i64 (nB 1 (nx 1 (nx 1 s))), .int .i64 5, .int .i64 0, .int .i64 0, .slice none 0 0, .int .i64 0, .int .i64 0, .slice none 0 0, .slice none 0 0, .int .i64 0, .int .i64 0, .slice none 0 0, .int .i64 0, .int .i64 0, .slice none 0 0, .slice none 0 0, .slice none 0 0, .int .i64 (nB 3 (nx 1 (nx 1 (nx 1 s))))] rfl rfl 37 _ zF sMsg' rfl (by simp [Value.oneCell']) ?_)
    obtain ⟨x, hxe, hxM, hxH, hxc, hxR⟩ := HX.out
    refine bodyPost_ret (v := .agg #[.int .i64 (nB 1 (nx 1 s)), .int .i64 (nB 1 (nx 1 (nx 1 s))), .int .i64 5, .int .i64 0, .int .i64 0, .slice none 0 0, .int .i64 0, .int .i64 0, .slice none 0 0, .slice none 0 0, .int .i64 0, .int .i64 0, .slice none 0 0, .int .i64 0, .int .i64 0, .slice none 0 0, .slice none 0 0, .slice none 0 0, .int .i64 (nB 3 (nx 1 (nx 1 (nx 1 s))))]) (results_cell_row (fn := Try.f36) (p := 2) (ty := 37) rfl _ _ w.heap.size 37 _ (0, 0) _ rfl (setRow_heap _ _ _ _ _ _ zF) Try.underlying37 rfl sMsg') rfl ⟨x, by rw [hxe], ?_, hxH.mono (fun q hq => by omega), hxc, ?_, ?_⟩
    · refine hxM.stays (G := fun q => WB.heap.size ≤ q) (fun q hq => ?_) hxH
      exact (setRow_other _ w.heap.size q _ (by omega)).trans (HQ.out q (by omega))
    · refine RdrAt.stays hxR (fun q hq => ?_)
      exact (setRow_other _ w.heap.size q _ (by omega)).trans (HQ.out q (by omega))
    · have hOw := hOw0.trans hO5
      refine ⟨HO.out.1.trans hOw.os, HO.out.2.1.trans hOw.tape, HO.out.2.2.trans hOw.output, by have := hOw.size; have := HZ.out; simp [World.setRow]; omega, fun q hq hn => ?_⟩
      exact ((setRow_other _ w.heap.size q _ (by omega)).trans (HQ.out q (by omega))).trans (hOw.block q hq hn)
end Go.Proofs.Ythijfhbmkpfnkaa
