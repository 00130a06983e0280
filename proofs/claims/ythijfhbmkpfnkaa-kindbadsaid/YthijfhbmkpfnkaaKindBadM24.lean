/- The law sheaveskeep.KindBad answers true for every argument, and each argument reads behind the call as it read before: no condition but the form's own reach. -/
import Derived.Test.YthijfhbmkpfnkaaMsgF
import Derived.Test.YthijfhbmkpfnkaaCheckM
import Derived.Test.YthijfhbmkpfnkaaKindBadM18
import Derived.Test.YthijfhbmkpfnkaaKindBadM12
import Derived.Test.YthijfhbmkpfnkaaOpenB
import Derived.Test.YthijfhbmkpfnkaaRows
import Derived.WalkKit
import Derived.ProofKit
import Derived.OpenShut
import Derived.Deep.DeepHandedRow
import Derived.SevenTiedAt
import Derived.Below
namespace Go.Proofs.Ythijfhbmkpfnkaa
open Go.RowKit

set_option maxRecDepth 100000 in
theorem check_any (m : Msg) (ss : List ByteArray) (bl pl cbl cpl : List Part) (vl : List Int) (w : World) (H : MsgAt w m ss bl pl cbl cpl vl) :
    Calls Try.prog 12 #[.agg #[.int .i64 m.fr, .int .i64 m.tt, .int .i64 m.ki, .int .i64 m.bau, .int .i64 m.bnu, .slice m.bta m.btn m.btc, .int .i64 m.hau, .int .i64 m.hrd, .slice m.hba m.hbn m.hbc, .slice m.hpa m.hpn m.hpc, .int .i64 m.sau, .int .i64 m.srd, .slice m.sda m.sdn m.sdc, .int .i64 m.cau, .int .i64 m.crd, .slice m.cba m.cbn m.cbc, .slice m.cpa m.cpn m.cpc, .slice m.cva m.cvn m.cvc, .int .i64 m.ro]] w fun e w' => e = .returned (.int .i64 (checkF m (carriedF m ss bl pl cbl cpl vl))) ∧ Below w.heap.size w w' := by
  refine check_of m (carriedF m ss bl pl cbl cpl vl) w (fun h => ?_) (fun w1 hb1 => ?_)
  · rcases Decidable.em (1 ≤ m.ki ∧ m.ki ≤ 5) with g | g
    · exact g
    · rw [carriedF, if_neg (by omega), if_neg (by omega), if_neg (by omega), if_neg (by omega), if_neg (by omega)] at h
      cases h
  · have H1 := H.below hb1
    by_cases k1 : m.ki = 1
    · rw [carriedF, if_pos k1]
      exact carry_bundle m ss w1 k1 H.e1 (by have := H.s1; have := H.e1; unfold maxLen; omega) H1.txs
    by_cases k2 : m.ki = 2
    · rw [carriedF, if_neg k1, if_pos k2]
      exact carry_offer m bl pl w1 k2 H.e2 H.e3 H1.bat H1.par
    by_cases k3 : m.ki = 3
    · rw [carriedF, if_neg k1, if_neg k2, if_pos k3]
      exact carry_vote m w1 k3
    by_cases k4 : m.ki = 4
    · rw [carriedF, if_neg k1, if_neg k2, if_neg k3, if_pos k4]
      exact carry_proof m cbl cpl vl w1 k4 H.e4 H.e5 H.e6 H.s6 H1.cbat H1.cpar H1.vot
    by_cases k5 : m.ki = 5
    · rw [carriedF, if_neg k1, if_neg k2, if_neg k3, if_neg k4, if_pos k5]
      have hw := carry_want m w1 k5
      rw [wantF] at hw
      exact hw
    · rw [carriedF, if_neg k1, if_neg k2, if_neg k3, if_neg k4, if_neg k5]
      exact carry_none m w1 (by omega)
end Go.Proofs.Ythijfhbmkpfnkaa

namespace Go.Proofs.Ythijfhbmkpfnkaa
open Go.RowKit

/-- What Decode gives. -/
structure DecIs (w w' : World) (e : Ending) (bs : List Int) : Prop where
  out : (readF bs ≠ 0 ∧ e = .returned (.tuple #[.agg #[.int .i64 0, .int .i64 0, .int .i64 0, .int .i64 0, .int .i64 0, .slice none 0 0, .int .i64 0, .int .i64 0, .slice none 0 0, .slice none 0 0, .int .i64 0, .int .i64 0, .slice none 0 0, .int .i64 0, .int .i64 0, .slice none 0 0, .slice none 0 0, .slice none 0 0, .int .i64 0], .int .i64 (readF bs)])) ∨ (readF bs = 0 ∧ ∃ x : MV, x.c = pM (bs, false) ∧ MAt w' x ∧ HasM (fun q => w.heap.size ≤ q) x ∧ ((checkF x.m x.car = 0 ∧ e = .returned (.tuple #[.agg #[.int .i64 x.m.fr, .int .i64 x.m.tt, .int .i64 x.m.ki, .int .i64 x.m.bau, .int .i64 x.m.bnu, .slice x.m.bta x.m.btn x.m.btc, .int .i64 x.m.hau, .int .i64 x.m.hrd, .slice x.m.hba x.m.hbn x.m.hbc, .slice x.m.hpa x.m.hpn x.m.hpc, .int .i64 x.m.sau, .int .i64 x.m.srd, .slice x.m.sda x.m.sdn x.m.sdc, .int .i64 x.m.cau, .int .i64 x.m.crd, .slice x.m.cba x.m.cbn x.m.cbc, .slice x.m.cpa x.m.cpn x.m.cpc, .slice x.m.cva x.m.cvn x.m.cvc, .int .i64 x.m.ro], .int .i64 0])) ∨ (checkF x.m x.car ≠ 0 ∧ e = .returned (.tuple #[.agg #[.int .i64 0, .int .i64 0, .int .i64 0, .int .i64 0, .int .i64 0, .slice none 0 0, .int .i64 0, .int .i64 0, .slice none 0 0, .slice none 0 0, .int .i64 0, .int .i64 0, .slice none 0 0, .int .i64 0, .int .i64 0, .slice none 0 0, .slice none 0 0, .slice none 0 0, .int .i64 0], .int .i64 (checkF x.m x.car)]))))
  below : Below w.heap.size w w'
set_option maxRecDepth 100000 in
set_option maxHeartbeats 4000000 in
theorem decode_any (bs : List Int) (sa : Option Addr) (n cap : Nat) (w : World) (hn : n = bs.length) (hs : SliceAt w sa cap bs) (hu : U8s bs) (hl : bs.length ≤ 140737488355328) :
    Calls Try.prog 10 #[.slice sa n cap] w fun e w' => DecIs w w' e bs := by
  have hA : Below w.heap.size w (w.alloc (.cells #[.int .i64 0, .int .i64 0, .int .i64 0, .int .i64 0, .int .i64 0, .slice none 0 0, .int .i64 0, .int .i64 0, .slice none 0 0, .slice none 0 0, .int .i64 0, .int .i64 0, .slice none 0 0, .int .i64 0, .int .i64 0, .slice none 0 0, .slice none 0 0, .slice none 0 0, .int .i64 0] 37)) := (Below.refl _ _).alloc (Nat.le_refl _) _
  have q0 := heap_alloc_new w (.cells #[.int .i64 0, .int .i64 0, .int .i64 0, .int .i64 0, .int .i64 0, .slice none 0 0, .int .i64 0, .int .i64 0, .slice none 0 0, .slice none 0 0, .int .i64 0, .int .i64 0, .slice none 0 0, .int .i64 0, .int .i64 0, .slice none 0 0, .slice none 0 0, .slice none 0 0, .int .i64 0] 37)
  have hsz : w.heap.size < (w.alloc (.cells #[.int .i64 0, .int .i64 0, .int .i64 0, .int .i64 0, .int .i64 0, .slice none 0 0, .int .i64 0, .int .i64 0, .slice none 0 0, .slice none 0 0, .int .i64 0, .int .i64 0, .slice none 0 0, .int .i64 0, .int .i64 0, .slice none 0 0, .slice none 0 0, .slice none 0 0, .int .i64 0] 37)).heap.size := lt_of_heap q0
  have hRd := read_any bs sa n cap _ hn (hs.below hA) hu hl
  clear hn hs hu hl
  go_enter Try.func10, Try.ntmps10
  go_wp2_with fail
  generalize w.alloc (.cells #[.int .i64 0, .int .i64 0, .int .i64 0, .int .i64 0, .int .i64 0, .slice none 0 0, .int .i64 0, .int .i64 0, .slice none 0 0, .slice none 0 0, .int .i64 0, .int .i64 0, .slice none 0 0, .int .i64 0, .int .i64 0, .slice none 0 0, .slice none 0 0, .slice none 0 0, .int .i64 0] 37) = W0 at hA q0 hsz hRd ⊢
  refine hRd.mono ?_
  rintro e w1 ⟨hout, hb1⟩
  clear hRd
  have hB1 := hA.trans (hb1.mono hA.size)
  have p0 := (hb1.block _ hsz).trans q0
  have hlt1 : w.heap.size < w1.heap.size := lt_of_heap p0
  rcases hout with ⟨hF, he⟩ | ⟨hF, x, he, hM, hH, hc⟩
  · subst he
    dsimp only
    have HF : Hid (readF bs ≠ 0) := hF
    generalize hFq : readF bs = F at *
    have HFq : Hid (readF bs = F) := hFq
    clear hFq
    have hFb : (F == 0) = false := by simp [hF]
    have qz := heap_alloc_new w1 (.cells #[.int .i64 0, .int .i64 0, .int .i64 0, .int .i64 0, .int .i64 0, .slice none 0 0, .int .i64 0, .int .i64 0, .slice none 0 0, .slice none 0 0, .int .i64 0, .int .i64 0, .slice none 0 0, .int .i64 0, .int .i64 0, .slice none 0 0, .slice none 0 0, .slice none 0 0, .int .i64 0] 37)
    have hAM : Below w1.heap.size w1 ((w1.alloc (.cells #[.int .i64 0, .int .i64 0, .int .i64 0, .int .i64 0, .int .i64 0, .slice none 0 0, .int .i64 0, .int .i64 0, .slice none 0 0, .slice none 0 0, .int .i64 0, .int .i64 0, .slice none 0 0, .int .i64 0, .int .i64 0, .slice none 0 0, .slice none 0 0, .slice none 0 0, .int .i64 0] 37)).setRow w1.heap.size #[.int .i64 0, .int .i64 0, .int .i64 0, .int .i64 0, .int .i64 0, .slice none 0 0, .int .i64 0, .int .i64 0, .slice none 0 0, .slice none 0 0, .int .i64 0, .int .i64 0, .slice none 0 0, .int .i64 0, .int .i64 0, .slice none 0 0, .slice none 0 0, .slice none 0 0, .int .i64 0]) := laid_row w1 #[.int .i64 0, .int .i64 0, .int .i64 0, .int .i64 0, .int .i64 0, .slice none 0 0, .int .i64 0, .int .i64 0, .slice none 0 0, .slice none 0 0, .int .i64 0, .int .i64 0, .slice none 0 0, .int .i64 0, .int .i64 0, .slice none 0 0, .slice none 0 0, .slice none 0 0, .int .i64 0] #[.int .i64 0, .int .i64 0, .int .i64 0, .int .i64 0, .int .i64 0, .slice none 0 0, .int .i64 0, .int .i64 0, .slice none 0 0, .slice none 0 0, .int .i64 0, .int .i64 0, .slice none 0 0, .int .i64 0, .int .i64 0, .slice none 0 0, .slice none 0 0, .slice none 0 0, .int .i64 0] 37
    have zM := (hAM.block _ hlt1).trans p0
    go_upto_region 2 with (refine wpList_store_row rfl 37 _ _ rfl w1.heap.size #[.int .i64 0, .int .i64 0, .int .i64 0, .int .i64 0, .int .i64 0, .slice none 0 0, .int .i64 0, .int .i64 0, .slice none 0 0, .slice none 0 0, .int .i64 0, .int .i64 0, .slice none 0 0, .int .i64 0, .int .i64 0, .slice none 0 0, .slice none 0 0, .slice none 0 0, .int .i64 0] rfl rfl 37 _ qz sMsg' rfl (by simp [Value.oneCell']) ?_)
    generalize (w1.alloc (.cells #[.int .i64 0, .int .i64 0, .int .i64 0, .int .i64 0, .int .i64 0, .slice none 0 0, .int .i64 0, .int .i64 0, .slice none 0 0, .slice none 0 0, .int .i64 0, .int .i64 0, .slice none 0 0, .int .i64 0, .int .i64 0, .slice none 0 0, .slice none 0 0, .slice none 0 0, .int .i64 0] 37)).setRow w1.heap.size #[.int .i64 0, .int .i64 0, .int .i64 0, .int .i64 0, .int .i64 0, .slice none 0 0, .int .i64 0, .int .i64 0, .slice none 0 0, .slice none 0 0, .int .i64 0, .int .i64 0, .slice none 0 0, .int .i64 0, .int .i64 0, .slice none 0 0, .slice none 0 0, .slice none 0 0, .int .i64 0] = W4 at hAM zM ⊢
    have hB4 := hB1.trans (hAM.mono hB1.size)
    go_wp2_with (refine wpList_store_row rfl 37 _ _ rfl w.heap.size #[.int .i64 0, .int .i64 0, .int .i64 0, .int .i64 0, .int .i64 0, .slice none 0 0, .int .i64 0, .int .i64 0, .slice none 0 0, .slice none 0 0, .int .i64 0, .int .i64 0, .slice none 0 0, .int .i64 0, .int .i64 0, .slice none 0 0, .slice none 0 0, .slice none 0 0, .int .i64 0] rfl rfl 37 _ zM sMsg' rfl (by simp [Value.oneCell']) ?_)
    exact bodyPost_ret (v := .tuple #[.agg #[.int .i64 0, .int .i64 0, .int .i64 0, .int .i64 0, .int .i64 0, .slice none 0 0, .int .i64 0, .int .i64 0, .slice none 0 0, .slice none 0 0, .int .i64 0, .int .i64 0, .slice none 0 0, .int .i64 0, .int .i64 0, .slice none 0 0, .slice none 0 0, .slice none 0 0, .int .i64 0], .int .i64 F]) (results_cell_slot (fn := Try.f10) (p := 2) (q := 3) (ty := 37) rfl _ _ w.heap.size 37 _ (0, 0) _ (.int .i64 F) ⟨rfl, rfl⟩ (setRow_heap _ _ _ _ _ _ zM) Try.underlying37 rfl sMsg') rfl ⟨.inl ⟨by rw [HFq.out]; exact HF.out, by rw [HFq.out]⟩, (Upd.setRow zM).below hB4 hB4.size (Nat.le_refl _)⟩
  · subst he
    dsimp only
    have HX : Hid (readF bs = 0 ∧ MAt w1 x ∧ HasM (fun q => W0.heap.size ≤ q) x ∧ x.c = pM (bs, false)) := ⟨hF, hM, hH, hc⟩
    clear hF hM hH hc
    have qz := heap_alloc_new w1 (.cells #[.int .i64 0, .int .i64 0, .int .i64 0, .int .i64 0, .int .i64 0, .slice none 0 0, .int .i64 0, .int .i64 0, .slice none 0 0, .slice none 0 0, .int .i64 0, .int .i64 0, .slice none 0 0, .int .i64 0, .int .i64 0, .slice none 0 0, .slice none 0 0, .slice none 0 0, .int .i64 0] 37)
    have hAM : Below w1.heap.size w1 ((w1.alloc (.cells #[.int .i64 0, .int .i64 0, .int .i64 0, .int .i64 0, .int .i64 0, .slice none 0 0, .int .i64 0, .int .i64 0, .slice none 0 0, .slice none 0 0, .int .i64 0, .int .i64 0, .slice none 0 0, .int .i64 0, .int .i64 0, .slice none 0 0, .slice none 0 0, .slice none 0 0, .int .i64 0] 37)).setRow w1.heap.size #[.int .i64 x.m.fr, .int .i64 x.m.tt, .int .i64 x.m.ki, .int .i64 x.m.bau, .int .i64 x.m.bnu, .slice x.m.bta x.m.btn x.m.btc, .int .i64 x.m.hau, .int .i64 x.m.hrd, .slice x.m.hba x.m.hbn x.m.hbc, .slice x.m.hpa x.m.hpn x.m.hpc, .int .i64 x.m.sau, .int .i64 x.m.srd, .slice x.m.sda x.m.sdn x.m.sdc, .int .i64 x.m.cau, .int .i64 x.m.crd, .slice x.m.cba x.m.cbn x.m.cbc, .slice x.m.cpa x.m.cpn x.m.cpc, .slice x.m.cva x.m.cvn x.m.cvc, .int .i64 x.m.ro]) := laid_row w1 #[.int .i64 0, .int .i64 0, .int .i64 0, .int .i64 0, .int .i64 0, .slice none 0 0, .int .i64 0, .int .i64 0, .slice none 0 0, .slice none 0 0, .int .i64 0, .int .i64 0, .slice none 0 0, .int .i64 0, .int .i64 0, .slice none 0 0, .slice none 0 0, .slice none 0 0, .int .i64 0] #[.int .i64 x.m.fr, .int .i64 x.m.tt, .int .i64 x.m.ki, .int .i64 x.m.bau, .int .i64 x.m.bnu, .slice x.m.bta x.m.btn x.m.btc, .int .i64 x.m.hau, .int .i64 x.m.hrd, .slice x.m.hba x.m.hbn x.m.hbc, .slice x.m.hpa x.m.hpn x.m.hpc, .int .i64 x.m.sau, .int .i64 x.m.srd, .slice x.m.sda x.m.sdn x.m.sdc, .int .i64 x.m.cau, .int .i64 x.m.crd, .slice x.m.cba x.m.cbn x.m.cbc, .slice x.m.cpa x.m.cpn x.m.cpc, .slice x.m.cva x.m.cvn x.m.cvc, .int .i64 x.m.ro] 37
    have qM := setRow_heap _ _ _ #[.int .i64 x.m.fr, .int .i64 x.m.tt, .int .i64 x.m.ki, .int .i64 x.m.bau, .int .i64 x.m.bnu, .slice x.m.bta x.m.btn x.m.btc, .int .i64 x.m.hau, .int .i64 x.m.hrd, .slice x.m.hba x.m.hbn x.m.hbc, .slice x.m.hpa x.m.hpn x.m.hpc, .int .i64 x.m.sau, .int .i64 x.m.srd, .slice x.m.sda x.m.sdn x.m.sdc, .int .i64 x.m.cau, .int .i64 x.m.crd, .slice x.m.cba x.m.cbn x.m.cbc, .slice x.m.cpa x.m.cpn x.m.cpc, .slice x.m.cva x.m.cvn x.m.cvc, .int .i64 x.m.ro] _ _ qz
    have zM := (hAM.block _ hlt1).trans p0
    go_upto_region 2 with (refine wpList_store_row rfl 37 _ _ rfl w1.heap.size #[.int .i64 x.m.fr, .int .i64 x.m.tt, .int .i64 x.m.ki, .int .i64 x.m.bau, .int .i64 x.m.bnu, .slice x.m.bta x.m.btn x.m.btc, .int .i64 x.m.hau, .int .i64 x.m.hrd, .slice x.m.hba x.m.hbn x.m.hbc, .slice x.m.hpa x.m.hpn x.m.hpc, .int .i64 x.m.sau, .int .i64 x.m.srd, .slice x.m.sda x.m.sdn x.m.sdc, .int .i64 x.m.cau, .int .i64 x.m.crd, .slice x.m.cba x.m.cbn x.m.cbc, .slice x.m.cpa x.m.cpn x.m.cpc, .slice x.m.cva x.m.cvn x.m.cvc, .int .i64 x.m.ro] rfl rfl 37 _ qz sMsg' rfl (by simp [Value.oneCell']) ?_)
    generalize (w1.alloc (.cells #[.int .i64 0, .int .i64 0, .int .i64 0, .int .i64 0, .int .i64 0, .slice none 0 0, .int .i64 0, .int .i64 0, .slice none 0 0, .slice none 0 0, .int .i64 0, .int .i64 0, .slice none 0 0, .int .i64 0, .int .i64 0, .slice none 0 0, .slice none 0 0, .slice none 0 0, .int .i64 0] 37)).setRow w1.heap.size #[.int .i64 x.m.fr, .int .i64 x.m.tt, .int .i64 x.m.ki, .int .i64 x.m.bau, .int .i64 x.m.bnu, .slice x.m.bta x.m.btn x.m.btc, .int .i64 x.m.hau, .int .i64 x.m.hrd, .slice x.m.hba x.m.hbn x.m.hbc, .slice x.m.hpa x.m.hpn x.m.hpc, .int .i64 x.m.sau, .int .i64 x.m.srd, .slice x.m.sda x.m.sdn x.m.sdc, .int .i64 x.m.cau, .int .i64 x.m.crd, .slice x.m.cba x.m.cbn x.m.cbc, .slice x.m.cpa x.m.cpn x.m.cpc, .slice x.m.cva x.m.cvn x.m.cvc, .int .i64 x.m.ro] = W4 at hAM qM zM ⊢
    have hB4 := hB1.trans (hAM.mono hB1.size)
    have hM4 := HX.out.2.1.below hAM
    have hC := check_any x.m x.ss x.bl x.pl x.cbl x.cpl x.vl W4 hM4.at'
    have hCe : checkF x.m (carriedF x.m x.ss x.bl x.pl x.cbl x.cpl x.vl) = checkF x.m x.car := rfl
    rw [hCe] at hC
    have HM4 : Hid (MAt W4 x) := hM4
    clear hM4 hCe qz
    generalize hMB : w1.heap.size = MB at qM hlt1 ⊢
    clear hMB
    go_wp2_with (refine wpList_load_row rfl 37 _ rfl MB rfl 37 #[.int .i64 x.m.fr, .int .i64 x.m.tt, .int .i64 x.m.ki, .int .i64 x.m.bau, .int .i64 x.m.bnu, .slice x.m.bta x.m.btn x.m.btc, .int .i64 x.m.hau, .int .i64 x.m.hrd, .slice x.m.hba x.m.hbn x.m.hbc, .slice x.m.hpa x.m.hpn x.m.hpc, .int .i64 x.m.sau, .int .i64 x.m.srd, .slice x.m.sda x.m.sdn x.m.sdc, .int .i64 x.m.cau, .int .i64 x.m.crd, .slice x.m.cba x.m.cbn x.m.cbc, .slice x.m.cpa x.m.cpn x.m.cpc, .slice x.m.cva x.m.cvn x.m.cvc, .int .i64 x.m.ro] (0, 0) _ qM Try.underlying37 rfl sMsg' ?_)
    refine hC.mono ?_
    rintro e w5 ⟨he, hb5⟩
    subst he
    dsimp only
    clear hC
    have q5 := (hb5.block _ (lt_of_heap qM)).trans qM
    have z5 := (hb5.block _ (lt_of_heap zM)).trans zM
    have hB5 := hB4.trans (hb5.mono hB4.size)
    have HM5 : Hid (MAt w5 x) := HM4.out.below hb5
    generalize hR : checkF x.m x.car = F at *
    have HR : Hid (checkF x.m x.car = F) := hR
    clear hR
    by_cases hF : F = 0
    · subst hF
      go_wp2_with (first | refine wpList_load_row rfl 37 _ rfl MB rfl 37 #[.int .i64 x.m.fr, .int .i64 x.m.tt, .int .i64 x.m.ki, .int .i64 x.m.bau, .int .i64 x.m.bnu, .slice x.m.bta x.m.btn x.m.btc, .int .i64 x.m.hau, .int .i64 x.m.hrd, .slice x.m.hba x.m.hbn x.m.hbc, .slice x.m.hpa x.m.hpn x.m.hpc, .int .i64 x.m.sau, .int .i64 x.m.srd, .slice x.m.sda x.m.sdn x.m.sdc, .int .i64 x.m.cau, .int .i64 x.m.crd, .slice x.m.cba x.m.cbn x.m.cbc, .slice x.m.cpa x.m.cpn x.m.cpc, .slice x.m.cva x.m.cvn x.m.cvc, .int .i64 x.m.ro] (0, 0) _ q5 Try.underlying37 rfl sMsg' ?_ | refine wpList_store_row rfl 37 _ _ rfl w.heap.size #[.int .i64 x.m.fr, .int .i64 x.m.tt, .int .i64 x.m.ki, .int .i64 x.m.bau, .int .i64 x.m.bnu, .slice x.m.bta x.m.btn x.m.btc, .int .i64 x.m.hau, .int .i64 x.m.hrd, .slice x.m.hba x.m.hbn x.m.hbc, .slice x.m.hpa x.m.hpn x.m.hpc, .int .i64 x.m.sau, .int .i64 x.m.srd, .slice x.m.sda x.m.sdn x.m.sdc, .int .i64 x.m.cau, .int .i64 x.m.crd, .slice x.m.cba x.m.cbn x.m.cbc, .slice x.m.cpa x.m.cpn x.m.cpc, .slice x.m.cva x.m.cvn x.m.cvc, .int .i64 x.m.ro] rfl rfl 37 _ z5 sMsg' rfl (by simp [Value.oneCell']) ?_)
      exact bodyPost_ret (v := .tuple #[.agg #[.int .i64 x.m.fr, .int .i64 x.m.tt, .int .i64 x.m.ki, .int .i64 x.m.bau, .int .i64 x.m.bnu, .slice x.m.bta x.m.btn x.m.btc, .int .i64 x.m.hau, .int .i64 x.m.hrd, .slice x.m.hba x.m.hbn x.m.hbc, .slice x.m.hpa x.m.hpn x.m.hpc, .int .i64 x.m.sau, .int .i64 x.m.srd, .slice x.m.sda x.m.sdn x.m.sdc, .int .i64 x.m.cau, .int .i64 x.m.crd, .slice x.m.cba x.m.cbn x.m.cbc, .slice x.m.cpa x.m.cpn x.m.cpc, .slice x.m.cva x.m.cvn x.m.cvc, .int .i64 x.m.ro], .int .i64 0]) (results_cell_slot (fn := Try.f10) (p := 2) (q := 3) (ty := 37) rfl _ _ w.heap.size 37 _ (0, 0) _ (.int .i64 0) ⟨rfl, rfl⟩ (setRow_heap _ _ _ _ _ _ z5) Try.underlying37 rfl sMsg') rfl ⟨.inr ⟨HX.out.1, x, HX.out.2.2.2, HM5.out.setRow HX.out.2.2.1 hsz, HX.out.2.2.1.mono (fun q hq => by omega), .inl ⟨HR.out, rfl⟩⟩, (Upd.setRow z5).below hB5 hB5.size (Nat.le_refl _)⟩
    · have HF : Hid (F ≠ 0) := hF
      go_wp2_with (refine wpList_store_row rfl 37 _ _ rfl w.heap.size #[.int .i64 0, .int .i64 0, .int .i64 0, .int .i64 0, .int .i64 0, .slice none 0 0, .int .i64 0, .int .i64 0, .slice none 0 0, .slice none 0 0, .int .i64 0, .int .i64 0, .slice none 0 0, .int .i64 0, .int .i64 0, .slice none 0 0, .slice none 0 0, .slice none 0 0, .int .i64 0] rfl rfl 37 _ z5 sMsg' rfl (by simp [Value.oneCell']) ?_)
      refine bodyPost_ret (v := .tuple #[.agg #[.int .i64 0, .int .i64 0, .int .i64 0, .int .i64 0, .int .i64 0, .slice none 0 0, .int .i64 0, .int .i64 0, .slice none 0 0, .slice none 0 0, .int .i64 0, .int .i64 0, .slice none 0 0, .int .i64 0, .int .i64 0, .slice none 0 0, .slice none 0 0, .slice none 0 0, .int .i64 0], .int .i64 F]) (results_cell_slot (fn := Try.f10) (p := 2) (q := 3) (ty := 37) rfl _ _ w.heap.size 37 _ (0, 0) _ (.int .i64 F) ⟨rfl, rfl⟩ (setRow_heap _ _ _ _ _ _ z5) Try.underlying37 rfl sMsg') rfl ⟨.inr ⟨HX.out.1, x, HX.out.2.2.2, HM5.out.setRow HX.out.2.2.1 hsz, HX.out.2.2.1.mono (fun q hq => by omega), .inr ⟨?_, ?_⟩⟩, (Upd.setRow z5).below hB5 hB5.size (Nat.le_refl _)⟩
      · rw [HR.out]; exact HF.out
      · rw [HR.out]
end Go.Proofs.Ythijfhbmkpfnkaa

namespace Go.Proofs.Ythijfhbmkpfnkaa
open Go.RowKit

set_option maxRecDepth 100000 in
theorem made_zerosK (K : Nat) (hK : K ≤ 500000) : ∃ (ZZ : Array Value) (zl : List Int), (zl.length = K ∧ U8s zl) ∧ (∀ w : World, (Instr.makeSlice 30 (.int .i64 (K : Int)) (.int .i64 (K : Int))).run Try.prog w = .ok (.slice (some ⟨w.heap.size, 0, none⟩) K K) (w.alloc (.cells ZZ 5))) ∧ ∀ w : World, SliceAt (w.alloc (.cells ZZ 5)) (some ⟨w.heap.size, 0, none⟩) K zl := by
  obtain ⟨i, hi, hz0, hz1, hz2⟩ := info_parts infoU8
  refine ⟨madeCells (Value.int .u8 0).cells (K * 1), List.replicate K 0, ⟨by simp, fun x hx => by rw [List.eq_of_mem_replicate hx]; omega⟩, fun w => ?_, fun w => ?_⟩
  · have h := run_make (P := Try.prog) w 30 5 i (.int .u8 0) Try.underlying30 hi hz0 .i64 .i64 (K : Int) (K : Int) (by omega) (Int.le_refl _) (by rw [hz2]; omega) (by omega)
    simpa [hz1] using h
  · have h := World.ownsRow_lit (base := w.heap.size) (e := 5) (size := 1) w (madeCells (Value.int .u8 0).cells (K * 1)) K (Nat.le_refl _) (by unfold maxLen; omega) (size_madeCells _ _)
    rw [zeros_made] at h
    exact (sliceAt_of_owns h).2
def zeroM : Msg := ⟨0, 0, 0, 0, 0, 0, 0, 0, 0, 0, 0, 0, none, none, none, none, none, none, none, 0, 0, 0, 0, 0, 0, 0, 0, 0, 0, 0, 0, 0, 0⟩
set_option maxRecDepth 100000 in
theorem digTo1_ne (ps : List Part) (k : Nat) : digTo1 ps k ≠ 3 := by
  induction k with
  | zero => show (0 : Int) ≠ 3; decide
  | succ k ih =>
    rw [digTo1]
    split
    · exact ih
    · unfold digAt
      split
      · decide
      · split <;> decide
set_option maxRecDepth 100000 in
theorem headerF_ne (au rd : Int) (bl pl : List Part) : headerF au rd bl pl ≠ 3 := by
  unfold headerF parentsF
  repeat' split
  all_goals first | exact digTo1_ne _ _ | decide
set_option maxRecDepth 100000 in
theorem vTo_ne (vl : List Int) (k : Nat) : vTo vl k ≠ 3 := by
  induction k with
  | zero => show (0 : Int) ≠ 3; decide
  | succ k ih =>
    rw [vTo]
    split
    · exact ih
    · unfold vAt
      split
      · decide
      · split <;> decide
set_option maxRecDepth 100000 in
theorem carriedF_ne {m : Msg} {ss : List ByteArray} {bl pl cbl cpl : List Part} {vl : List Int} (hk : 1 ≤ m.ki ∧ m.ki ≤ 5) : carriedF m ss bl pl cbl cpl vl ≠ 3 := by
  unfold carriedF
  split
  · unfold batchF; repeat' split
    all_goals decide
  · split
    · exact headerF_ne _ _ _ _
    · split
      · unfold slotF; repeat' split
        all_goals decide
      · split
        · unfold certF votersF
          repeat' split
          all_goals first | exact headerF_ne _ _ _ _ | exact vTo_ne _ _ | decide
        · split
          · split <;> decide
          · omega
set_option maxRecDepth 100000 in
theorem checkF_ne {m : Msg} {e : Int} (h : e ≠ 3) : checkF m e ≠ 3 := by
  unfold checkF
  split
  · decide
  · split
    · exact h
    · split <;> decide
set_option maxRecDepth 100000 in
theorem pM_ki (s : St) : (pM s).ki = nB 1 s := by
  unfold pM
  repeat' split
  all_goals rfl
set_option maxRecDepth 100000 in
theorem dec_kind {w w' : World} {e : Ending} {bs : List Int} (h : DecIs w w' e bs) (hl : bs.length ≤ 4000) (hne : bs ≠ []) : ∃ (m : Msg) (F : Int), e = .returned (.tuple #[.agg #[.int .i64 m.fr, .int .i64 m.tt, .int .i64 m.ki, .int .i64 m.bau, .int .i64 m.bnu, .slice m.bta m.btn m.btc, .int .i64 m.hau, .int .i64 m.hrd, .slice m.hba m.hbn m.hbc, .slice m.hpa m.hpn m.hpc, .int .i64 m.sau, .int .i64 m.srd, .slice m.sda m.sdn m.sdc, .int .i64 m.cau, .int .i64 m.crd, .slice m.cba m.cbn m.cbc, .slice m.cpa m.cpn m.cpc, .slice m.cva m.cvn m.cvc, .int .i64 m.ro], .int .i64 F]) ∧ (F = 3 ↔ ¬ (1 ≤ bs.getD 0 0 ∧ bs.getD 0 0 ≤ 5)) ∧ Below w.heap.size w w' := by
  have hR : readF bs = 3 ↔ ¬ (1 ≤ bs.getD 0 0 ∧ bs.getD 0 0 ≤ 5) := by
    rw [readF, if_neg (by omega), if_neg hne]
    by_cases hk : 1 ≤ bs.getD 0 0 ∧ bs.getD 0 0 ≤ 5
    · rw [if_neg (fun h => h hk)]
      refine ⟨fun h9 => ?_, fun h9 => absurd hk h9⟩
      split at h9
      · cases h9
      · split at h9 <;> cases h9
    · rw [if_pos hk]
      exact ⟨fun _ => hk, fun _ => rfl⟩
  rcases h.out with ⟨hF, he⟩ | ⟨hF, x, hc, _, _, hx⟩
  · exact ⟨zeroM, readF bs, he, hR, h.below⟩
  · have hk : 1 ≤ bs.getD 0 0 ∧ bs.getD 0 0 ≤ 5 := by
      rcases Decidable.em (1 ≤ bs.getD 0 0 ∧ bs.getD 0 0 ≤ 5) with h9 | h9
      · exact h9
      · have := hR.2 h9; rw [hF] at this; cases this
    have hki : x.m.ki = bs.getD 0 0 := by
      have h1 : x.c.ki = x.m.ki := rfl
      rw [← h1, hc, pM_ki, nB1_first hne]
    have h3 : checkF x.m x.car ≠ 3 := checkF_ne (carriedF_ne (by rw [hki]; exact hk))
    rcases hx with ⟨hx, he⟩ | ⟨hx, he⟩
    · exact ⟨x.m, 0, he, ⟨(fun h9 => by cases h9), fun h9 => absurd hk h9⟩, h.below⟩
    · exact ⟨zeroM, _, he, ⟨fun h9 => absurd h9 h3, fun h9 => absurd hk h9⟩, h.below⟩
set_option maxRecDepth 100000 in
theorem dec_big {w w' : World} {e : Ending} {bs : List Int} (h : DecIs w w' e bs) (hl : 4000 < bs.length) : e = .returned (.tuple #[.agg #[.int .i64 zeroM.fr, .int .i64 zeroM.tt, .int .i64 zeroM.ki, .int .i64 zeroM.bau, .int .i64 zeroM.bnu, .slice zeroM.bta zeroM.btn zeroM.btc, .int .i64 zeroM.hau, .int .i64 zeroM.hrd, .slice zeroM.hba zeroM.hbn zeroM.hbc, .slice zeroM.hpa zeroM.hpn zeroM.hpc, .int .i64 zeroM.sau, .int .i64 zeroM.srd, .slice zeroM.sda zeroM.sdn zeroM.sdc, .int .i64 zeroM.cau, .int .i64 zeroM.crd, .slice zeroM.cba zeroM.cbn zeroM.cbc, .slice zeroM.cpa zeroM.cpn zeroM.cpc, .slice zeroM.cva zeroM.cvn zeroM.cvc, .int .i64 zeroM.ro], .int .i64 1]) ∧ Below w.heap.size w w' := by
  have hR : readF bs = 1 := by rw [readF, if_pos hl]
  rcases h.out with ⟨_, he⟩ | ⟨hF, _⟩
  · rw [hR] at he; exact ⟨he, h.below⟩
  · rw [hR] at hF; cases hF
set_option maxRecDepth 100000 in
theorem dec_nil {w w' : World} {e : Ending} (h : DecIs w w' e []) : e = .returned (.tuple #[.agg #[.int .i64 zeroM.fr, .int .i64 zeroM.tt, .int .i64 zeroM.ki, .int .i64 zeroM.bau, .int .i64 zeroM.bnu, .slice zeroM.bta zeroM.btn zeroM.btc, .int .i64 zeroM.hau, .int .i64 zeroM.hrd, .slice zeroM.hba zeroM.hbn zeroM.hbc, .slice zeroM.hpa zeroM.hpn zeroM.hpc, .int .i64 zeroM.sau, .int .i64 zeroM.srd, .slice zeroM.sda zeroM.sdn zeroM.sdc, .int .i64 zeroM.cau, .int .i64 zeroM.crd, .slice zeroM.cba zeroM.cbn zeroM.cbc, .slice zeroM.cpa zeroM.cpn zeroM.cpc, .slice zeroM.cva zeroM.cvn zeroM.cvc, .int .i64 zeroM.ro], .int .i64 5]) ∧ Below w.heap.size w w' := by
  have hR : readF [] = 5 := rfl
  rcases h.out with ⟨_, he⟩ | ⟨hF, _⟩
  · rw [hR] at he; exact ⟨he, h.below⟩
  · rw [hR] at hF; cases hF
set_option maxRecDepth 100000 in
set_option maxHeartbeats 4000000 in
theorem kindBad_walk (k : Int) (l : List Int) (sa : Option Addr) (cap : Nat) (w : World) (hk0 : 0 ≤ k) (hk1 : k ≤ 255) (hs : SliceAt w sa cap l) (hu : AllU8 l) (hr : cap ≤ 140737488351232) :
    Calls Try.prog 7 #[.int .u8 k, .slice sa l.length cap] w fun e w' => e = .returned (.bool true) ∧ Below w.heap.size w w' := by
  have hle := hs.le
  have hub : ∀ M : Nat, U8s ([k] ++ l.take M) := fun M x hx => by
    rcases List.mem_append.1 hx with h | h
    · obtain rfl : x = k := by simpa using h
      exact ⟨hk0, hk1⟩
    · exact hu x (List.mem_of_mem_take h)
  by_cases hm : l.length ≤ 50
  · have hmI : (l.length : Int) ≤ 50 := by omega
    obtain ⟨M, hM⟩ : ∃ M, M = l.length := ⟨_, rfl⟩
    have hM1 : M ≤ l.length := by omega
    have hM2 : M ≤ 50 := by omega
    replace hub := hub M
    rw [← hM] at hmI ⊢
    clear hm hM
    have hCut := hs.takeR M cap (by omega) (by omega) (Nat.le_refl _) hs.nil
    have hTl : (l.take M).length = M := by rw [List.length_take]; omega
    have HTl : Hid ((l.take M).length = M) := hTl
    have hlit := World.ownsRow_lit (base := w.heap.size) (e := 5) (size := 1) w (ub [k]).toArray 1 (Nat.le_refl _) (by decide) rfl
    have hA0 : Below w.heap.size w (w.alloc (.cells (ub [k]).toArray 5)) := (Below.refl _ _).alloc (Nat.le_refl _) _
    have hMI : (M : Int) ≤ cap := by omega
    have hM0 : (0 : Int) ≤ M := by omega
    have hcA := hCut.below hA0
    clear hTl
    go_enter Try.func7, Try.ntmps7
    go_wp2_with (at_builtin; refine wpList_append_part rfl _ _ rfl w.heap.size _ 1 [k] rfl hlit sa M cap (l.take M) rfl HTl.out.symm hcA (by omega) (le_alloc (Nat.le_refl _) _) ?_; intro v1 w1 ho1 hg1)

    have hb1 : Below w.heap.size w w1 := Below.grown hA0 hg1 hA0.size (fun q e => (hlit.lt q e).1)
    obtain ⟨ba, bc, hv, -, hs1⟩ := owns_form ho1
    subst hv
    have hD := decode_any ([k] ++ l.take M) ba _ bc w1 (by rw [List.length_append, HTl.out]) hs1 hub (by rw [List.length_append, HTl.out]; show 1 + M ≤ _; omega)
    clear ho1 hg1 hlit hcA hCut
    refine hD.mono ?_
    intro e w2 hd2
    clear hD
    obtain ⟨m2, F2, he, hF2, hb2⟩ := dec_kind hd2 (by rw [List.length_append, HTl.out]; show 1 + M ≤ _; omega) (by simp)
    have HF2 : Hid (F2 = 3 ↔ ¬ (1 ≤ k ∧ k ≤ 5)) := hF2
    subst he
    dsimp only
    clear hF2 hd2
    have hB2 := hb1.trans (hb2.mono hb1.size)
    have qz := heap_alloc_new w2 (.cells #[.int .i64 0, .int .i64 0, .int .i64 0, .int .i64 0, .int .i64 0, .slice none 0 0, .int .i64 0, .int .i64 0, .slice none 0 0, .slice none 0 0, .int .i64 0, .int .i64 0, .slice none 0 0, .int .i64 0, .int .i64 0, .slice none 0 0, .slice none 0 0, .slice none 0 0, .int .i64 0] 37)
    have hA3 : Below w2.heap.size w2 ((w2.alloc (.cells #[.int .i64 0, .int .i64 0, .int .i64 0, .int .i64 0, .int .i64 0, .slice none 0 0, .int .i64 0, .int .i64 0, .slice none 0 0, .slice none 0 0, .int .i64 0, .int .i64 0, .slice none 0 0, .int .i64 0, .int .i64 0, .slice none 0 0, .slice none 0 0, .slice none 0 0, .int .i64 0] 37)).setRow w2.heap.size #[.int .i64 m2.fr, .int .i64 m2.tt, .int .i64 m2.ki, .int .i64 m2.bau, .int .i64 m2.bnu, .slice m2.bta m2.btn m2.btc, .int .i64 m2.hau, .int .i64 m2.hrd, .slice m2.hba m2.hbn m2.hbc, .slice m2.hpa m2.hpn m2.hpc, .int .i64 m2.sau, .int .i64 m2.srd, .slice m2.sda m2.sdn m2.sdc, .int .i64 m2.cau, .int .i64 m2.crd, .slice m2.cba m2.cbn m2.cbc, .slice m2.cpa m2.cpn m2.cpc, .slice m2.cva m2.cvn m2.cvc, .int .i64 m2.ro]) := laid_row w2 #[.int .i64 0, .int .i64 0, .int .i64 0, .int .i64 0, .int .i64 0, .slice none 0 0, .int .i64 0, .int .i64 0, .slice none 0 0, .slice none 0 0, .int .i64 0, .int .i64 0, .slice none 0 0, .int .i64 0, .int .i64 0, .slice none 0 0, .slice none 0 0, .slice none 0 0, .int .i64 0] #[.int .i64 m2.fr, .int .i64 m2.tt, .int .i64 m2.ki, .int .i64 m2.bau, .int .i64 m2.bnu, .slice m2.bta m2.btn m2.btc, .int .i64 m2.hau, .int .i64 m2.hrd, .slice m2.hba m2.hbn m2.hbc, .slice m2.hpa m2.hpn m2.hpc, .int .i64 m2.sau, .int .i64 m2.srd, .slice m2.sda m2.sdn m2.sdc, .int .i64 m2.cau, .int .i64 m2.crd, .slice m2.cba m2.cbn m2.cbc, .slice m2.cpa m2.cpn m2.cpc, .slice m2.cva m2.cvn m2.cvc, .int .i64 m2.ro] 37
    go_upto_region 3 with (refine wpList_store_row rfl 37 _ _ rfl w2.heap.size #[.int .i64 m2.fr, .int .i64 m2.tt, .int .i64 m2.ki, .int .i64 m2.bau, .int .i64 m2.bnu, .slice m2.bta m2.btn m2.btc, .int .i64 m2.hau, .int .i64 m2.hrd, .slice m2.hba m2.hbn m2.hbc, .slice m2.hpa m2.hpn m2.hpc, .int .i64 m2.sau, .int .i64 m2.srd, .slice m2.sda m2.sdn m2.sdc, .int .i64 m2.cau, .int .i64 m2.crd, .slice m2.cba m2.cbn m2.cbc, .slice m2.cpa m2.cpn m2.cpc, .slice m2.cva m2.cvn m2.cvc, .int .i64 m2.ro] rfl rfl 37 _ qz sMsg' rfl (by simp [Value.oneCell']) ?_)
    generalize (w2.alloc (.cells #[.int .i64 0, .int .i64 0, .int .i64 0, .int .i64 0, .int .i64 0, .slice none 0 0, .int .i64 0, .int .i64 0, .slice none 0 0, .slice none 0 0, .int .i64 0, .int .i64 0, .slice none 0 0, .int .i64 0, .int .i64 0, .slice none 0 0, .slice none 0 0, .slice none 0 0, .int .i64 0] 37)).setRow w2.heap.size #[.int .i64 m2.fr, .int .i64 m2.tt, .int .i64 m2.ki, .int .i64 m2.bau, .int .i64 m2.bnu, .slice m2.bta m2.btn m2.btc, .int .i64 m2.hau, .int .i64 m2.hrd, .slice m2.hba m2.hbn m2.hbc, .slice m2.hpa m2.hpn m2.hpc, .int .i64 m2.sau, .int .i64 m2.srd, .slice m2.sda m2.sdn m2.sdc, .int .i64 m2.cau, .int .i64 m2.crd, .slice m2.cba m2.cbn m2.cbc, .slice m2.cpa m2.cpn m2.cpc, .slice m2.cva m2.cvn m2.cvc, .int .i64 m2.ro] = W2 at hA3 ⊢
    clear qz
    have hB3 := hB2.trans (hA3.mono hB2.size)
    obtain ⟨ZB, zb, hzb, hmk2, hzs2⟩ := made_zerosK 4001 (by decide)
    have hmk3 : ∀ w : World, (Instr.makeSlice 30 (.int .i64 4001) (.int .i64 4001)).run Try.prog w = .ok (.slice (some ⟨w.heap.size, 0, none⟩) 4001 4001) (w.alloc (.cells ZB 5)) := hmk2
    have hDb := decode_any zb (some ⟨W2.heap.size, 0, none⟩) 4001 4001 _ hzb.1.symm (hzs2 W2) hzb.2 (by rw [hzb.1]; decide)
    have hAz : Below W2.heap.size W2 (W2.alloc (.cells ZB 5)) := (Below.refl _ _).alloc (Nat.le_refl _) _
    have HZB : Hid (zb.length = 4001) := hzb.1
    clear hmk2 hzs2 hzb
    go_wp2_with fail
    refine hDb.mono ?_
    intro e w3 hd3
    clear hDb hmk3
    obtain ⟨he, hb3⟩ := dec_big hd3 (by rw [HZB.out]; decide)
    subst he
    dsimp only
    clear hd3
    have hBz := hB3.trans (hAz.mono hB3.size)
    have hB3' := hBz.trans (hb3.mono hBz.size)
    have qz := heap_alloc_new w3 (.cells #[.int .i64 0, .int .i64 0, .int .i64 0, .int .i64 0, .int .i64 0, .slice none 0 0, .int .i64 0, .int .i64 0, .slice none 0 0, .slice none 0 0, .int .i64 0, .int .i64 0, .slice none 0 0, .int .i64 0, .int .i64 0, .slice none 0 0, .slice none 0 0, .slice none 0 0, .int .i64 0] 37)
    have hA4 : Below w3.heap.size w3 ((w3.alloc (.cells #[.int .i64 0, .int .i64 0, .int .i64 0, .int .i64 0, .int .i64 0, .slice none 0 0, .int .i64 0, .int .i64 0, .slice none 0 0, .slice none 0 0, .int .i64 0, .int .i64 0, .slice none 0 0, .int .i64 0, .int .i64 0, .slice none 0 0, .slice none 0 0, .slice none 0 0, .int .i64 0] 37)).setRow w3.heap.size #[.int .i64 zeroM.fr, .int .i64 zeroM.tt, .int .i64 zeroM.ki, .int .i64 zeroM.bau, .int .i64 zeroM.bnu, .slice zeroM.bta zeroM.btn zeroM.btc, .int .i64 zeroM.hau, .int .i64 zeroM.hrd, .slice zeroM.hba zeroM.hbn zeroM.hbc, .slice zeroM.hpa zeroM.hpn zeroM.hpc, .int .i64 zeroM.sau, .int .i64 zeroM.srd, .slice zeroM.sda zeroM.sdn zeroM.sdc, .int .i64 zeroM.cau, .int .i64 zeroM.crd, .slice zeroM.cba zeroM.cbn zeroM.cbc, .slice zeroM.cpa zeroM.cpn zeroM.cpc, .slice zeroM.cva zeroM.cvn zeroM.cvc, .int .i64 zeroM.ro]) := laid_row w3 #[.int .i64 0, .int .i64 0, .int .i64 0, .int .i64 0, .int .i64 0, .slice none 0 0, .int .i64 0, .int .i64 0, .slice none 0 0, .slice none 0 0, .int .i64 0, .int .i64 0, .slice none 0 0, .int .i64 0, .int .i64 0, .slice none 0 0, .slice none 0 0, .slice none 0 0, .int .i64 0] #[.int .i64 zeroM.fr, .int .i64 zeroM.tt, .int .i64 zeroM.ki, .int .i64 zeroM.bau, .int .i64 zeroM.bnu, .slice zeroM.bta zeroM.btn zeroM.btc, .int .i64 zeroM.hau, .int .i64 zeroM.hrd, .slice zeroM.hba zeroM.hbn zeroM.hbc, .slice zeroM.hpa zeroM.hpn zeroM.hpc, .int .i64 zeroM.sau, .int .i64 zeroM.srd, .slice zeroM.sda zeroM.sdn zeroM.sdc, .int .i64 zeroM.cau, .int .i64 zeroM.crd, .slice zeroM.cba zeroM.cbn zeroM.cbc, .slice zeroM.cpa zeroM.cpn zeroM.cpc, .slice zeroM.cva zeroM.cvn zeroM.cvc, .int .i64 zeroM.ro] 37
    go_upto_region 4 with (refine wpList_store_row rfl 37 _ _ rfl w3.heap.size #[.int .i64 zeroM.fr, .int .i64 zeroM.tt, .int .i64 zeroM.ki, .int .i64 zeroM.bau, .int .i64 zeroM.bnu, .slice zeroM.bta zeroM.btn zeroM.btc, .int .i64 zeroM.hau, .int .i64 zeroM.hrd, .slice zeroM.hba zeroM.hbn zeroM.hbc, .slice zeroM.hpa zeroM.hpn zeroM.hpc, .int .i64 zeroM.sau, .int .i64 zeroM.srd, .slice zeroM.sda zeroM.sdn zeroM.sdc, .int .i64 zeroM.cau, .int .i64 zeroM.crd, .slice zeroM.cba zeroM.cbn zeroM.cbc, .slice zeroM.cpa zeroM.cpn zeroM.cpc, .slice zeroM.cva zeroM.cvn zeroM.cvc, .int .i64 zeroM.ro] rfl rfl 37 _ qz sMsg' rfl (by simp [Value.oneCell']) ?_)
    generalize (w3.alloc (.cells #[.int .i64 0, .int .i64 0, .int .i64 0, .int .i64 0, .int .i64 0, .slice none 0 0, .int .i64 0, .int .i64 0, .slice none 0 0, .slice none 0 0, .int .i64 0, .int .i64 0, .slice none 0 0, .int .i64 0, .int .i64 0, .slice none 0 0, .slice none 0 0, .slice none 0 0, .int .i64 0] 37)).setRow w3.heap.size #[.int .i64 zeroM.fr, .int .i64 zeroM.tt, .int .i64 zeroM.ki, .int .i64 zeroM.bau, .int .i64 zeroM.bnu, .slice zeroM.bta zeroM.btn zeroM.btc, .int .i64 zeroM.hau, .int .i64 zeroM.hrd, .slice zeroM.hba zeroM.hbn zeroM.hbc, .slice zeroM.hpa zeroM.hpn zeroM.hpc, .int .i64 zeroM.sau, .int .i64 zeroM.srd, .slice zeroM.sda zeroM.sdn zeroM.sdc, .int .i64 zeroM.cau, .int .i64 zeroM.crd, .slice zeroM.cba zeroM.cbn zeroM.cbc, .slice zeroM.cpa zeroM.cpn zeroM.cpc, .slice zeroM.cva zeroM.cvn zeroM.cvc, .int .i64 zeroM.ro] = W3 at hA4 ⊢
    clear qz
    have hB4 := hB3'.trans (hA4.mono hB3'.size)
    have hDn := decode_any [] none 0 0 W3 rfl (nilM _) (fun x hx => by cases hx) (by decide)
    go_wp2_with fail
    refine hDn.mono ?_
    intro e w4 hd4
    clear hDn
    obtain ⟨he, hb4⟩ := dec_nil hd4
    subst he
    dsimp only
    clear hd4
    have hB4' := hB4.trans (hb4.mono hB4.size)
    have qz := heap_alloc_new w4 (.cells #[.int .i64 0, .int .i64 0, .int .i64 0, .int .i64 0, .int .i64 0, .slice none 0 0, .int .i64 0, .int .i64 0, .slice none 0 0, .slice none 0 0, .int .i64 0, .int .i64 0, .slice none 0 0, .int .i64 0, .int .i64 0, .slice none 0 0, .slice none 0 0, .slice none 0 0, .int .i64 0] 37)
    have hA5 : Below w4.heap.size w4 ((w4.alloc (.cells #[.int .i64 0, .int .i64 0, .int .i64 0, .int .i64 0, .int .i64 0, .slice none 0 0, .int .i64 0, .int .i64 0, .slice none 0 0, .slice none 0 0, .int .i64 0, .int .i64 0, .slice none 0 0, .int .i64 0, .int .i64 0, .slice none 0 0, .slice none 0 0, .slice none 0 0, .int .i64 0] 37)).setRow w4.heap.size #[.int .i64 zeroM.fr, .int .i64 zeroM.tt, .int .i64 zeroM.ki, .int .i64 zeroM.bau, .int .i64 zeroM.bnu, .slice zeroM.bta zeroM.btn zeroM.btc, .int .i64 zeroM.hau, .int .i64 zeroM.hrd, .slice zeroM.hba zeroM.hbn zeroM.hbc, .slice zeroM.hpa zeroM.hpn zeroM.hpc, .int .i64 zeroM.sau, .int .i64 zeroM.srd, .slice zeroM.sda zeroM.sdn zeroM.sdc, .int .i64 zeroM.cau, .int .i64 zeroM.crd, .slice zeroM.cba zeroM.cbn zeroM.cbc, .slice zeroM.cpa zeroM.cpn zeroM.cpc, .slice zeroM.cva zeroM.cvn zeroM.cvc, .int .i64 zeroM.ro]) := laid_row w4 #[.int .i64 0, .int .i64 0, .int .i64 0, .int .i64 0, .int .i64 0, .slice none 0 0, .int .i64 0, .int .i64 0, .slice none 0 0, .slice none 0 0, .int .i64 0, .int .i64 0, .slice none 0 0, .int .i64 0, .int .i64 0, .slice none 0 0, .slice none 0 0, .slice none 0 0, .int .i64 0] #[.int .i64 zeroM.fr, .int .i64 zeroM.tt, .int .i64 zeroM.ki, .int .i64 zeroM.bau, .int .i64 zeroM.bnu, .slice zeroM.bta zeroM.btn zeroM.btc, .int .i64 zeroM.hau, .int .i64 zeroM.hrd, .slice zeroM.hba zeroM.hbn zeroM.hbc, .slice zeroM.hpa zeroM.hpn zeroM.hpc, .int .i64 zeroM.sau, .int .i64 zeroM.srd, .slice zeroM.sda zeroM.sdn zeroM.sdc, .int .i64 zeroM.cau, .int .i64 zeroM.crd, .slice zeroM.cba zeroM.cbn zeroM.cbc, .slice zeroM.cpa zeroM.cpn zeroM.cpc, .slice zeroM.cva zeroM.cvn zeroM.cvc, .int .i64 zeroM.ro] 37
    go_upto_region 5 with (refine wpList_store_row rfl 37 _ _ rfl w4.heap.size #[.int .i64 zeroM.fr, .int .i64 zeroM.tt, .int .i64 zeroM.ki, .int .i64 zeroM.bau, .int .i64 zeroM.bnu, .slice zeroM.bta zeroM.btn zeroM.btc, .int .i64 zeroM.hau, .int .i64 zeroM.hrd, .slice zeroM.hba zeroM.hbn zeroM.hbc, .slice zeroM.hpa zeroM.hpn zeroM.hpc, .int .i64 zeroM.sau, .int .i64 zeroM.srd, .slice zeroM.sda zeroM.sdn zeroM.sdc, .int .i64 zeroM.cau, .int .i64 zeroM.crd, .slice zeroM.cba zeroM.cbn zeroM.cbc, .slice zeroM.cpa zeroM.cpn zeroM.cpc, .slice zeroM.cva zeroM.cvn zeroM.cvc, .int .i64 zeroM.ro] rfl rfl 37 _ qz sMsg' rfl (by simp [Value.oneCell']) ?_)
    generalize (w4.alloc (.cells #[.int .i64 0, .int .i64 0, .int .i64 0, .int .i64 0, .int .i64 0, .slice none 0 0, .int .i64 0, .int .i64 0, .slice none 0 0, .slice none 0 0, .int .i64 0, .int .i64 0, .slice none 0 0, .int .i64 0, .int .i64 0, .slice none 0 0, .slice none 0 0, .slice none 0 0, .int .i64 0] 37)).setRow w4.heap.size #[.int .i64 zeroM.fr, .int .i64 zeroM.tt, .int .i64 zeroM.ki, .int .i64 zeroM.bau, .int .i64 zeroM.bnu, .slice zeroM.bta zeroM.btn zeroM.btc, .int .i64 zeroM.hau, .int .i64 zeroM.hrd, .slice zeroM.hba zeroM.hbn zeroM.hbc, .slice zeroM.hpa zeroM.hpn zeroM.hpc, .int .i64 zeroM.sau, .int .i64 zeroM.srd, .slice zeroM.sda zeroM.sdn zeroM.sdc, .int .i64 zeroM.cau, .int .i64 zeroM.crd, .slice zeroM.cba zeroM.cbn zeroM.cbc, .slice zeroM.cpa zeroM.cpn zeroM.cpc, .slice zeroM.cva zeroM.cvn zeroM.cvc, .int .i64 zeroM.ro] = W4 at hA5 ⊢
    clear qz
    have hB5 := hB4'.trans (hA5.mono hB4'.size)
    by_cases h3 : F2 = 3
    · have hk := HF2.out.1 h3
      subst h3
      by_cases h1 : k < 1
      · go_wp2_with fail
        go_ret
        exact ⟨rfl, hB5⟩
      · have h5 : 5 < k := by omega
        go_wp2_with fail
        go_ret
        exact ⟨rfl, hB5⟩
    · have hk : 1 ≤ k ∧ k ≤ 5 := by
        rcases Decidable.em (1 ≤ k ∧ k ≤ 5) with h | h
        · exact h
        · exact absurd (HF2.out.2 h) h3
      have h1 : ¬ k < 1 := by omega
      have h5 : ¬ 5 < k := by omega
      have hb9 : (F2 == 3) = false := by simp [h3]
      go_wp2_with fail
      go_ret
      exact ⟨by first | rfl | simp [h3], hB5⟩
  · have hmI : ¬ (l.length : Int) ≤ 50 := by omega
    have hM1 : 50 ≤ l.length := by omega
    replace hub := hub 50
    have hCut := hs.takeR 50 cap (by omega) (by omega) (Nat.le_refl _) hs.nil
    have hTl : (l.take 50).length = 50 := by rw [List.length_take]; omega
    have HTl : Hid ((l.take 50).length = 50) := hTl
    have hlit := World.ownsRow_lit (base := w.heap.size) (e := 5) (size := 1) w (ub [k]).toArray 1 (Nat.le_refl _) (by decide) rfl
    have hA0 : Below w.heap.size w (w.alloc (.cells (ub [k]).toArray 5)) := (Below.refl _ _).alloc (Nat.le_refl _) _
    have hMI : (50 : Int) ≤ cap := by omega
    have hM0 : (0 : Int) ≤ 50 := by omega
    have hcA := hCut.below hA0
    clear hTl
    go_enter Try.func7, Try.ntmps7
    go_wp2_with (at_builtin; refine wpList_append_part rfl _ _ rfl w.heap.size _ 1 [k] rfl hlit sa 50 cap (l.take 50) rfl HTl.out.symm hcA (by omega) (le_alloc (Nat.le_refl _) _) ?_; intro v1 w1 ho1 hg1)

    have hb1 : Below w.heap.size w w1 := Below.grown hA0 hg1 hA0.size (fun q e => (hlit.lt q e).1)
    obtain ⟨ba, bc, hv, -, hs1⟩ := owns_form ho1
    subst hv
    have hD := decode_any ([k] ++ l.take 50) ba _ bc w1 (by rw [List.length_append, HTl.out]) hs1 hub (by rw [List.length_append, HTl.out]; show 1 + 50 ≤ _; omega)
    clear ho1 hg1 hlit hcA hCut
    refine hD.mono ?_
    intro e w2 hd2
    clear hD
    obtain ⟨m2, F2, he, hF2, hb2⟩ := dec_kind hd2 (by rw [List.length_append, HTl.out]; show 1 + 50 ≤ _; omega) (by simp)
    have HF2 : Hid (F2 = 3 ↔ ¬ (1 ≤ k ∧ k ≤ 5)) := hF2
    subst he
    dsimp only
    clear hF2 hd2
    have hB2 := hb1.trans (hb2.mono hb1.size)
    have qz := heap_alloc_new w2 (.cells #[.int .i64 0, .int .i64 0, .int .i64 0, .int .i64 0, .int .i64 0, .slice none 0 0, .int .i64 0, .int .i64 0, .slice none 0 0, .slice none 0 0, .int .i64 0, .int .i64 0, .slice none 0 0, .int .i64 0, .int .i64 0, .slice none 0 0, .slice none 0 0, .slice none 0 0, .int .i64 0] 37)
    have hA3 : Below w2.heap.size w2 ((w2.alloc (.cells #[.int .i64 0, .int .i64 0, .int .i64 0, .int .i64 0, .int .i64 0, .slice none 0 0, .int .i64 0, .int .i64 0, .slice none 0 0, .slice none 0 0, .int .i64 0, .int .i64 0, .slice none 0 0, .int .i64 0, .int .i64 0, .slice none 0 0, .slice none 0 0, .slice none 0 0, .int .i64 0] 37)).setRow w2.heap.size #[.int .i64 m2.fr, .int .i64 m2.tt, .int .i64 m2.ki, .int .i64 m2.bau, .int .i64 m2.bnu, .slice m2.bta m2.btn m2.btc, .int .i64 m2.hau, .int .i64 m2.hrd, .slice m2.hba m2.hbn m2.hbc, .slice m2.hpa m2.hpn m2.hpc, .int .i64 m2.sau, .int .i64 m2.srd, .slice m2.sda m2.sdn m2.sdc, .int .i64 m2.cau, .int .i64 m2.crd, .slice m2.cba m2.cbn m2.cbc, .slice m2.cpa m2.cpn m2.cpc, .slice m2.cva m2.cvn m2.cvc, .int .i64 m2.ro]) := laid_row w2 #[.int .i64 0, .int .i64 0, .int .i64 0, .int .i64 0, .int .i64 0, .slice none 0 0, .int .i64 0, .int .i64 0, .slice none 0 0, .slice none 0 0, .int .i64 0, .int .i64 0, .slice none 0 0, .int .i64 0, .int .i64 0, .slice none 0 0, .slice none 0 0, .slice none 0 0, .int .i64 0] #[.int .i64 m2.fr, .int .i64 m2.tt, .int .i64 m2.ki, .int .i64 m2.bau, .int .i64 m2.bnu, .slice m2.bta m2.btn m2.btc, .int .i64 m2.hau, .int .i64 m2.hrd, .slice m2.hba m2.hbn m2.hbc, .slice m2.hpa m2.hpn m2.hpc, .int .i64 m2.sau, .int .i64 m2.srd, .slice m2.sda m2.sdn m2.sdc, .int .i64 m2.cau, .int .i64 m2.crd, .slice m2.cba m2.cbn m2.cbc, .slice m2.cpa m2.cpn m2.cpc, .slice m2.cva m2.cvn m2.cvc, .int .i64 m2.ro] 37
    go_upto_region 3 with (refine wpList_store_row rfl 37 _ _ rfl w2.heap.size #[.int .i64 m2.fr, .int .i64 m2.tt, .int .i64 m2.ki, .int .i64 m2.bau, .int .i64 m2.bnu, .slice m2.bta m2.btn m2.btc, .int .i64 m2.hau, .int .i64 m2.hrd, .slice m2.hba m2.hbn m2.hbc, .slice m2.hpa m2.hpn m2.hpc, .int .i64 m2.sau, .int .i64 m2.srd, .slice m2.sda m2.sdn m2.sdc, .int .i64 m2.cau, .int .i64 m2.crd, .slice m2.cba m2.cbn m2.cbc, .slice m2.cpa m2.cpn m2.cpc, .slice m2.cva m2.cvn m2.cvc, .int .i64 m2.ro] rfl rfl 37 _ qz sMsg' rfl (by simp [Value.oneCell']) ?_)
    generalize (w2.alloc (.cells #[.int .i64 0, .int .i64 0, .int .i64 0, .int .i64 0, .int .i64 0, .slice none 0 0, .int .i64 0, .int .i64 0, .slice none 0 0, .slice none 0 0, .int .i64 0, .int .i64 0, .slice none 0 0, .int .i64 0, .int .i64 0, .slice none 0 0, .slice none 0 0, .slice none 0 0, .int .i64 0] 37)).setRow w2.heap.size #[.int .i64 m2.fr, .int .i64 m2.tt, .int .i64 m2.ki, .int .i64 m2.bau, .int .i64 m2.bnu, .slice m2.bta m2.btn m2.btc, .int .i64 m2.hau, .int .i64 m2.hrd, .slice m2.hba m2.hbn m2.hbc, .slice m2.hpa m2.hpn m2.hpc, .int .i64 m2.sau, .int .i64 m2.srd, .slice m2.sda m2.sdn m2.sdc, .int .i64 m2.cau, .int .i64 m2.crd, .slice m2.cba m2.cbn m2.cbc, .slice m2.cpa m2.cpn m2.cpc, .slice m2.cva m2.cvn m2.cvc, .int .i64 m2.ro] = W2 at hA3 ⊢
    clear qz
    have hB3 := hB2.trans (hA3.mono hB2.size)
    obtain ⟨ZB, zb, hzb, hmk2, hzs2⟩ := made_zerosK 4001 (by decide)
    have hmk3 : ∀ w : World, (Instr.makeSlice 30 (.int .i64 4001) (.int .i64 4001)).run Try.prog w = .ok (.slice (some ⟨w.heap.size, 0, none⟩) 4001 4001) (w.alloc (.cells ZB 5)) := hmk2
    have hDb := decode_any zb (some ⟨W2.heap.size, 0, none⟩) 4001 4001 _ hzb.1.symm (hzs2 W2) hzb.2 (by rw [hzb.1]; decide)
    have hAz : Below W2.heap.size W2 (W2.alloc (.cells ZB 5)) := (Below.refl _ _).alloc (Nat.le_refl _) _
    have HZB : Hid (zb.length = 4001) := hzb.1
    clear hmk2 hzs2 hzb
    go_wp2_with fail
    refine hDb.mono ?_
    intro e w3 hd3
    clear hDb hmk3
    obtain ⟨he, hb3⟩ := dec_big hd3 (by rw [HZB.out]; decide)
    subst he
    dsimp only
    clear hd3
    have hBz := hB3.trans (hAz.mono hB3.size)
    have hB3' := hBz.trans (hb3.mono hBz.size)
    have qz := heap_alloc_new w3 (.cells #[.int .i64 0, .int .i64 0, .int .i64 0, .int .i64 0, .int .i64 0, .slice none 0 0, .int .i64 0, .int .i64 0, .slice none 0 0, .slice none 0 0, .int .i64 0, .int .i64 0, .slice none 0 0, .int .i64 0, .int .i64 0, .slice none 0 0, .slice none 0 0, .slice none 0 0, .int .i64 0] 37)
    have hA4 : Below w3.heap.size w3 ((w3.alloc (.cells #[.int .i64 0, .int .i64 0, .int .i64 0, .int .i64 0, .int .i64 0, .slice none 0 0, .int .i64 0, .int .i64 0, .slice none 0 0, .slice none 0 0, .int .i64 0, .int .i64 0, .slice none 0 0, .int .i64 0, .int .i64 0, .slice none 0 0, .slice none 0 0, .slice none 0 0, .int .i64 0] 37)).setRow w3.heap.size #[.int .i64 zeroM.fr, .int .i64 zeroM.tt, .int .i64 zeroM.ki, .int .i64 zeroM.bau, .int .i64 zeroM.bnu, .slice zeroM.bta zeroM.btn zeroM.btc, .int .i64 zeroM.hau, .int .i64 zeroM.hrd, .slice zeroM.hba zeroM.hbn zeroM.hbc, .slice zeroM.hpa zeroM.hpn zeroM.hpc, .int .i64 zeroM.sau, .int .i64 zeroM.srd, .slice zeroM.sda zeroM.sdn zeroM.sdc, .int .i64 zeroM.cau, .int .i64 zeroM.crd, .slice zeroM.cba zeroM.cbn zeroM.cbc, .slice zeroM.cpa zeroM.cpn zeroM.cpc, .slice zeroM.cva zeroM.cvn zeroM.cvc, .int .i64 zeroM.ro]) := laid_row w3 #[.int .i64 0, .int .i64 0, .int .i64 0, .int .i64 0, .int .i64 0, .slice none 0 0, .int .i64 0, .int .i64 0, .slice none 0 0, .slice none 0 0, .int .i64 0, .int .i64 0, .slice none 0 0, .int .i64 0, .int .i64 0, .slice none 0 0, .slice none 0 0, .slice none 0 0, .int .i64 0] #[.int .i64 zeroM.fr, .int .i64 zeroM.tt, .int .i64 zeroM.ki, .int .i64 zeroM.bau, .int .i64 zeroM.bnu, .slice zeroM.bta zeroM.btn zeroM.btc, .int .i64 zeroM.hau, .int .i64 zeroM.hrd, .slice zeroM.hba zeroM.hbn zeroM.hbc, .slice zeroM.hpa zeroM.hpn zeroM.hpc, .int .i64 zeroM.sau, .int .i64 zeroM.srd, .slice zeroM.sda zeroM.sdn zeroM.sdc, .int .i64 zeroM.cau, .int .i64 zeroM.crd, .slice zeroM.cba zeroM.cbn zeroM.cbc, .slice zeroM.cpa zeroM.cpn zeroM.cpc, .slice zeroM.cva zeroM.cvn zeroM.cvc, .int .i64 zeroM.ro] 37
    go_upto_region 4 with (refine wpList_store_row rfl 37 _ _ rfl w3.heap.size #[.int .i64 zeroM.fr, .int .i64 zeroM.tt, .int .i64 zeroM.ki, .int .i64 zeroM.bau, .int .i64 zeroM.bnu, .slice zeroM.bta zeroM.btn zeroM.btc, .int .i64 zeroM.hau, .int .i64 zeroM.hrd, .slice zeroM.hba zeroM.hbn zeroM.hbc, .slice zeroM.hpa zeroM.hpn zeroM.hpc, .int .i64 zeroM.sau, .int .i64 zeroM.srd, .slice zeroM.sda zeroM.sdn zeroM.sdc, .int .i64 zeroM.cau, .int .i64 zeroM.crd, .slice zeroM.cba zeroM.cbn zeroM.cbc, .slice zeroM.cpa zeroM.cpn zeroM.cpc, .slice zeroM.cva zeroM.cvn zeroM.cvc, .int .i64 zeroM.ro] rfl rfl 37 _ qz sMsg' rfl (by simp [Value.oneCell']) ?_)
    generalize (w3.alloc (.cells #[.int .i64 0, .int .i64 0, .int .i64 0, .int .i64 0, .int .i64 0, .slice none 0 0, .int .i64 0, .int .i64 0, .slice none 0 0, .slice none 0 0, .int .i64 0, .int .i64 0, .slice none 0 0, .int .i64 0, .int .i64 0, .slice none 0 0, .slice none 0 0, .slice none 0 0, .int .i64 0] 37)).setRow w3.heap.size #[.int .i64 zeroM.fr, .int .i64 zeroM.tt, .int .i64 zeroM.ki, .int .i64 zeroM.bau, .int .i64 zeroM.bnu, .slice zeroM.bta zeroM.btn zeroM.btc, .int .i64 zeroM.hau, .int .i64 zeroM.hrd, .slice zeroM.hba zeroM.hbn zeroM.hbc, .slice zeroM.hpa zeroM.hpn zeroM.hpc, .int .i64 zeroM.sau, .int .i64 zeroM.srd, .slice zeroM.sda zeroM.sdn zeroM.sdc, .int .i64 zeroM.cau, .int .i64 zeroM.crd, .slice zeroM.cba zeroM.cbn zeroM.cbc, .slice zeroM.cpa zeroM.cpn zeroM.cpc, .slice zeroM.cva zeroM.cvn zeroM.cvc, .int .i64 zeroM.ro] = W3 at hA4 ⊢
    clear qz
    have hB4 := hB3'.trans (hA4.mono hB3'.size)
    have hDn := decode_any [] none 0 0 W3 rfl (nilM _) (fun x hx => by cases hx) (by decide)
    go_wp2_with fail
    refine hDn.mono ?_
    intro e w4 hd4
    clear hDn
    obtain ⟨he, hb4⟩ := dec_nil hd4
    subst he
    dsimp only
    clear hd4
    have hB4' := hB4.trans (hb4.mono hB4.size)
    have qz := heap_alloc_new w4 (.cells #[.int .i64 0, .int .i64 0, .int .i64 0, .int .i64 0, .int .i64 0, .slice none 0 0, .int .i64 0, .int .i64 0, .slice none 0 0, .slice none 0 0, .int .i64 0, .int .i64 0, .slice none 0 0, .int .i64 0, .int .i64 0, .slice none 0 0, .slice none 0 0, .slice none 0 0, .int .i64 0] 37)
    have hA5 : Below w4.heap.size w4 ((w4.alloc (.cells #[.int .i64 0, .int .i64 0, .int .i64 0, .int .i64 0, .int .i64 0, .slice none 0 0, .int .i64 0, .int .i64 0, .slice none 0 0, .slice none 0 0, .int .i64 0, .int .i64 0, .slice none 0 0, .int .i64 0, .int .i64 0, .slice none 0 0, .slice none 0 0, .slice none 0 0, .int .i64 0] 37)).setRow w4.heap.size #[.int .i64 zeroM.fr, .int .i64 zeroM.tt, .int .i64 zeroM.ki, .int .i64 zeroM.bau, .int .i64 zeroM.bnu, .slice zeroM.bta zeroM.btn zeroM.btc, .int .i64 zeroM.hau, .int .i64 zeroM.hrd, .slice zeroM.hba zeroM.hbn zeroM.hbc, .slice zeroM.hpa zeroM.hpn zeroM.hpc, .int .i64 zeroM.sau, .int .i64 zeroM.srd, .slice zeroM.sda zeroM.sdn zeroM.sdc, .int .i64 zeroM.cau, .int .i64 zeroM.crd, .slice zeroM.cba zeroM.cbn zeroM.cbc, .slice zeroM.cpa zeroM.cpn zeroM.cpc, .slice zeroM.cva zeroM.cvn zeroM.cvc, .int .i64 zeroM.ro]) := laid_row w4 #[.int .i64 0, .int .i64 0, .int .i64 0, .int .i64 0, .int .i64 0, .slice none 0 0, .int .i64 0, .int .i64 0, .slice none 0 0, .slice none 0 0, .int .i64 0, .int .i64 0, .slice none 0 0, .int .i64 0, .int .i64 0, .slice none 0 0, .slice none 0 0, .slice none 0 0, .int .i64 0] #[.int .i64 zeroM.fr, .int .i64 zeroM.tt, .int .i64 zeroM.ki, .int .i64 zeroM.bau, .int .i64 zeroM.bnu, .slice zeroM.bta zeroM.btn zeroM.btc, .int .i64 zeroM.hau, .int .i64 zeroM.hrd, .slice zeroM.hba zeroM.hbn zeroM.hbc, .slice zeroM.hpa zeroM.hpn zeroM.hpc, .int .i64 zeroM.sau, .int .i64 zeroM.srd, .slice zeroM.sda zeroM.sdn zeroM.sdc, .int .i64 zeroM.cau, .int .i64 zeroM.crd, .slice zeroM.cba zeroM.cbn zeroM.cbc, .slice zeroM.cpa zeroM.cpn zeroM.cpc, .slice zeroM.cva zeroM.cvn zeroM.cvc, .int .i64 zeroM.ro] 37
    go_upto_region 5 with (refine wpList_store_row rfl 37 _ _ rfl w4.heap.size #[.int .i64 zeroM.fr, .int .i64 zeroM.tt, .int .i64 zeroM.ki, .int .i64 zeroM.bau, .int .i64 zeroM.bnu, .slice zeroM.bta zeroM.btn zeroM.btc, .int .i64 zeroM.hau, .int .i64 zeroM.hrd, .slice zeroM.hba zeroM.hbn zeroM.hbc, .slice zeroM.hpa zeroM.hpn zeroM.hpc, .int .i64 zeroM.sau, .int .i64 zeroM.srd, .slice zeroM.sda zeroM.sdn zeroM.sdc, .int .i64 zeroM.cau, .int .i64 zeroM.crd, .slice zeroM.cba zeroM.cbn zeroM.cbc, .slice zeroM.cpa zeroM.cpn zeroM.cpc, .slice zeroM.cva zeroM.cvn zeroM.cvc, .int .i64 zeroM.ro] rfl rfl 37 _ qz sMsg' rfl (by simp [Value.oneCell']) ?_)
    generalize (w4.alloc (.cells #[.int .i64 0, .int .i64 0, .int .i64 0, .int .i64 0, .int .i64 0, .slice none 0 0, .int .i64 0, .int .i64 0, .slice none 0 0, .slice none 0 0, .int .i64 0, .int .i64 0, .slice none 0 0, .int .i64 0, .int .i64 0, .slice none 0 0, .slice none 0 0, .slice none 0 0, .int .i64 0] 37)).setRow w4.heap.size #[.int .i64 zeroM.fr, .int .i64 zeroM.tt, .int .i64 zeroM.ki, .int .i64 zeroM.bau, .int .i64 zeroM.bnu, .slice zeroM.bta zeroM.btn zeroM.btc, .int .i64 zeroM.hau, .int .i64 zeroM.hrd, .slice zeroM.hba zeroM.hbn zeroM.hbc, .slice zeroM.hpa zeroM.hpn zeroM.hpc, .int .i64 zeroM.sau, .int .i64 zeroM.srd, .slice zeroM.sda zeroM.sdn zeroM.sdc, .int .i64 zeroM.cau, .int .i64 zeroM.crd, .slice zeroM.cba zeroM.cbn zeroM.cbc, .slice zeroM.cpa zeroM.cpn zeroM.cpc, .slice zeroM.cva zeroM.cvn zeroM.cvc, .int .i64 zeroM.ro] = W4 at hA5 ⊢
    clear qz
    have hB5 := hB4'.trans (hA5.mono hB4'.size)
    by_cases h3 : F2 = 3
    · have hk := HF2.out.1 h3
      subst h3
      by_cases h1 : k < 1
      · go_wp2_with fail
        go_ret
        exact ⟨rfl, hB5⟩
      · have h5 : 5 < k := by omega
        go_wp2_with fail
        go_ret
        exact ⟨rfl, hB5⟩
    · have hk : 1 ≤ k ∧ k ≤ 5 := by
        rcases Decidable.em (1 ≤ k ∧ k ≤ 5) with h | h
        · exact h
        · exact absurd (HF2.out.2 h) h3
      have h1 : ¬ k < 1 := by omega
      have h5 : ¬ 5 < k := by omega
      have hb9 : (F2 == 3) = false := by simp [h3]
      go_wp2_with fail
      go_ret
      exact ⟨by first | rfl | simp [h3], hB5⟩
end Go.Proofs.Ythijfhbmkpfnkaa

namespace Go.Proofs.Ythijfhbmkpfnkaa.kindBad
open Go.ChangeShapes Go.WideShapes Go.ChangeAt Go.RowKit

set_option maxRecDepth 100000 in
/-- What the walk gives, for every argument and every world. -/
theorem contract (H : Type) (enc : TypeId × Value → H) (W : World) (base : Nat) (args : Array Value) (ds gs : List (DataW H)) (before : List MemPlace)
    (hval : ∀ (j : Nat) t v, Try.f7.params[j]? = some t → args[j]? = some v → Value.okWide Try.prog W .any base t v)
    (hW : DataW.Whole enc Try.prog Try.f7.params.toList Rows.kindBadSpec.vars false W args.toList ds gs before) (hsz : (DataW.weightsEach Try.prog (Try.f7.params.toList ++ (OpenSpec.ofChange Rows.kindBadSpec).bare.plain.varTypes Try.prog) (ds ++ gs)).all (· ≤ reachBytes) = true) (_hL : laidMetH Try.prog Rows.kindBadRow.laid W) :
    Calls Try.prog 7 args W fun e W' => ∃ v, e = .returned v ∧ Rows.kindBadSpec.post enc Try.prog Try.f7 false true false false W args v W' := by
  have hW' := hW
  obtain ⟨p, q, hA0, hV, rfl, hfz, hnd⟩ := hW
  have hA : DataW.TrodAll enc Try.prog W 0 (fun _ => true) true Try.f7.params.toList args.toList ds p := hA0
  rw [Try.params7] at hA hval hsz
  obtain ⟨v0, vs0, d0, ds0, p0, q0, hargs, rfl, rfl, h0, r0⟩ := trodAll_cons hA
  obtain ⟨v1, vs1, d1, ds1, p1, q1, rfl, rfl, rfl, h1, r1⟩ := trodAll_cons r0
  obtain ⟨rfl, rfl, rfl⟩ := trodAll_nil r1
  obtain rfl : args = #[v0, v1] := by cases args; simp_all
  obtain ⟨rfl, rfl⟩ := trodVars_none hV
  obtain ⟨a0, rfl, rfl, rfl, w0⟩ := open_int Try.underlying5 (hval 0 5 v0 rfl rfl) h0
  obtain ⟨lo0, hi0⟩ := bounds_u8 w0
  have k1 := h1
  have lt1 : ∀ x ∈ p1, x.block < W.heap.size := by obtain ⟨m, hm⟩ := k1; exact DataW.trod_lt m _ _ _ hm
  obtain ⟨sa1, cap1, bs1, rfl, hs1, hu1⟩ := open_bytes (hval 1 30 v1 rfl rfl) h1
  have hc1 : cap1 ≤ 140737488351232 := by obtain ⟨m, hm⟩ := k1; exact bytes_fit hm (fit_each hsz (j := 1) rfl rfl) rfl
  clear hA0
  refine (kindBad_walk a0 bs1 sa1 cap1 W lo0 hi0 hs1 hu1 hc1).mono fun e W' ⟨he, bel⟩ => ?_
  subst he
  exact ⟨_, rfl, _, _, _, [], _, [], hW', trodAll_mk1 (shut_bool Try.underlying4 _), (trodAll_cons_mk (shut_int Try.underlying5 w0) (trodAll_cons_mk (Below.trod laidOut (by kernel_rfl) (of_decide_eq_true (by kernel_rfl)) k1 bel lt1) trodAll_mk0)), rfl, bel.frame _, fun h => by cases h⟩

set_option maxRecDepth 100000 in
theorem laid_met (os : Os) : laidMet Try.prog Rows.kindBadRow.laid ((World.holding Try.prog os ⟨#[], #[], []⟩).forCall (fun _ _ => 0) ⟨#[], #[.int .u8 0, .slice none 0 0], []⟩).memory :=
  laidMet_of_run' 8 (by kernel_rfl) (by kernel_rfl)
set_option maxRecDepth 100000 in
theorem reads (os : Os) {H : Type} (enc : TypeId × Value → H) : ∃ places, DataW.whole enc Try.prog ((World.holding Try.prog os ⟨#[], #[], []⟩).forCall (fun _ _ => 0) ⟨#[], #[.int .u8 0, .slice none 0 0], []⟩).memory Try.f7.params.toList Rows.kindBadSpec.vars false (#[.int .u8 0, .slice none 0 0] : Array Value).toList 8 = some ([.lit (.int .u8 0), .nil], [], places) :=
  ⟨[], by kernel_rfl⟩

set_option maxRecDepth 100000 in
theorem lifted (os : Os) (started : os.Started) (H : Type) (enc : TypeId × Value → H) (F : Stop.Interp) :
    ReturnsInHanded {} Try.checked os 7 .any ((OpenSpec.ofChange Rows.kindBadSpec).preRow enc Try.prog Try.f7 Rows.kindBadRow.domain false Rows.kindBadRow.laid) (((OpenSpec.ofChange Rows.kindBadSpec).at F).post enc Try.prog Try.f7 false true false false) := by
  obtain ⟨places, hx⟩ := reads os enc
  refine returnsInHanded_of_row (C := Try.checked) (s := OpenSpec.ofChange Rows.kindBadSpec) own started (by kernel_rfl) Try.func7
    (witness_row_at (enc := enc) (C := Try.checked) false (World.holding Try.prog os ⟨#[], #[], []⟩) #[.int .u8 0, .slice none 0 0] rfl (by kernel_rfl) (by kernel_rfl) (by kernel_rfl)
      (OpenSpec.preRow_of_cond 8 hx (by kernel_rfl) (fun k hk => by cases hk) (by kernel_rfl) (laid_met os))) ?_
  intro W base args ds gs before hval hW _ _ hsz hL _ _
  exact contract H enc W base args ds gs before hval hW hsz hL

set_option maxRecDepth 100000 in
theorem said : Rows.KindBadSaid :=
  OpenClaim.holds_of_cond 7 Try.f7 rfl rfl rfl rfl rfl rfl rfl ⟨rfl, rfl, rfl, rfl, rfl⟩ rfl rfl rfl rfl rfl (by kernel_rfl) Try.func7 (by kernel_rfl)
    (of_decide_eq_true (by kernel_rfl)) (by unfold Func.isWrapper; first | (rw [if_pos (by decide +kernel)]; kernel_rfl) | (rw [if_neg (by decide +kernel)]; exact ⟨rfl, rfl⟩))
    (fun os started H enc _ F => by rw [OpenClaim.pre_eq_preRow]; exact lifted os started H enc F)

end Go.Proofs.Ythijfhbmkpfnkaa.kindBad
namespace Go.Proofs.Ythijfhbmkpfnkaa
set_option maxRecDepth 100000 in
theorem kindBad_holds : Rows.KindBadSaid := kindBad.said
#print axioms kindBad_holds
end Go.Proofs.Ythijfhbmkpfnkaa
