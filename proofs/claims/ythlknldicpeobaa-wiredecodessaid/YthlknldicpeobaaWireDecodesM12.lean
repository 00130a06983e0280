/- The document's headerEmpty. -/
import Derived.Test.YthlknldicpeobaaCheckM
import Derived.Test.YthlknldicpeobaaWireDecodesM0
import Derived.Test.YthlknldicpeobaaWireDecodesM6
import Derived.Test.YthlknldicpeobaaPK
import Derived.Test.YthlknldicpeobaaMsg
namespace Go.Proofs.Ythlknldicpeobaa
open Go.RowKit

set_option maxRecDepth 100000 in
set_option maxHeartbeats 1000000 in
theorem carry_vote (m : Msg) (w : World) (hk : m.ki = 3) :
    Calls Try.prog 35 #[.agg #[.int .i64 m.fr, .int .i64 m.tt, .int .i64 m.ki, .int .i64 m.bau, .int .i64 m.bnu, .slice m.bta m.btn m.btc, .int .i64 m.hau, .int .i64 m.hrd, .slice m.hba m.hbn m.hbc, .slice m.hpa m.hpn m.hpc, .int .i64 m.sau, .int .i64 m.srd, .slice m.sda m.sdn m.sdc, .int .i64 m.cau, .int .i64 m.crd, .slice m.cba m.cbn m.cbc, .slice m.cpa m.cpn m.cpc, .slice m.cva m.cvn m.cvc, .int .i64 m.ro]] w fun e w' => e = .returned (.int .i64 (slotF m.sau m.srd m.sdn)) ∧ Below w.heap.size w w' := by
  rw [hk]
  go_enter Try.func35, Try.ntmps35
  go_wp2_with fail
  refine (checkSlot_any _ _ _ _ _ _).mono ?_
  rintro e w1 ⟨rfl, hb1⟩
  go_wp2_with fail
  go_ret
  exact ⟨rfl, below_alloc hb1⟩
end Go.Proofs.Ythlknldicpeobaa

namespace Go.Proofs.Ythlknldicpeobaa
open Go.RowKit

def wantF (ro : Int) : Int := if 1 ≤ ro ∧ ro ≤ 1048576 then 0 else 2
set_option maxRecDepth 100000 in
set_option maxHeartbeats 1000000 in
theorem carry_want (m : Msg) (w : World) (hk : m.ki = 5) :
    Calls Try.prog 35 #[.agg #[.int .i64 m.fr, .int .i64 m.tt, .int .i64 m.ki, .int .i64 m.bau, .int .i64 m.bnu, .slice m.bta m.btn m.btc, .int .i64 m.hau, .int .i64 m.hrd, .slice m.hba m.hbn m.hbc, .slice m.hpa m.hpn m.hpc, .int .i64 m.sau, .int .i64 m.srd, .slice m.sda m.sdn m.sdc, .int .i64 m.cau, .int .i64 m.crd, .slice m.cba m.cbn m.cbc, .slice m.cpa m.cpn m.cpc, .slice m.cva m.cvn m.cvc, .int .i64 m.ro]] w fun e w' => e = .returned (.int .i64 (wantF m.ro)) ∧ Below w.heap.size w w' := by
  rw [hk]
  by_cases hr : 1 ≤ m.ro ∧ m.ro ≤ 1048576
  · have hF : Hid (wantF m.ro = 0) := by show _ = _; simp [wantF, hr]
    go_enter Try.func35, Try.ntmps35
    go_wp2_with (go_at_call 59; first | (refine (isRound_true _ _ (by omega)).mono ?_; rintro e w' ⟨rfl, rfl⟩) | (refine (isRound_false _ _ (by omega)).mono ?_; rintro e w' ⟨rfl, rfl⟩))
    go_ret
    exact ⟨ret_int hF.out.symm, (Below.refl _ _).alloc (Nat.le_refl _) _⟩
  · have hF : Hid (wantF m.ro = 2) := by show _ = _; simp [wantF, hr]
    go_enter Try.func35, Try.ntmps35
    go_wp2_with (go_at_call 59; first | (refine (isRound_true _ _ (by omega)).mono ?_; rintro e w' ⟨rfl, rfl⟩) | (refine (isRound_false _ _ (by omega)).mono ?_; rintro e w' ⟨rfl, rfl⟩))
    go_ret
    exact ⟨ret_int hF.out.symm, (Below.refl _ _).alloc (Nat.le_refl _) _⟩
end Go.Proofs.Ythlknldicpeobaa

namespace Go.Proofs.Ythlknldicpeobaa
open Go.RowKit

set_option maxRecDepth 100000 in
theorem check_any (m : Msg) (ss : List ByteArray) (bl pl cbl cpl : List Part) (vl : List Int) (w : World) (H : MsgAt w m ss bl pl cbl cpl vl) :
    Calls Try.prog 15 #[.agg #[.int .i64 m.fr, .int .i64 m.tt, .int .i64 m.ki, .int .i64 m.bau, .int .i64 m.bnu, .slice m.bta m.btn m.btc, .int .i64 m.hau, .int .i64 m.hrd, .slice m.hba m.hbn m.hbc, .slice m.hpa m.hpn m.hpc, .int .i64 m.sau, .int .i64 m.srd, .slice m.sda m.sdn m.sdc, .int .i64 m.cau, .int .i64 m.crd, .slice m.cba m.cbn m.cbc, .slice m.cpa m.cpn m.cpc, .slice m.cva m.cvn m.cvc, .int .i64 m.ro]] w fun e w' => e = .returned (.int .i64 (checkF m (carriedF m ss bl pl cbl cpl vl))) ∧ Below w.heap.size w w' := by
  refine check_of m (carriedF m ss bl pl cbl cpl vl) w (fun h => ?_) (fun w1 hb1 => ?_)
  · rcases Decidable.em (1 ≤ m.ki ∧ m.ki ≤ 5) with g | g
    · exact g
    · rw [carriedF, if_neg (by omega), if_neg (by omega), if_neg (by omega), if_neg (by omega), if_neg (by omega)] at h
      cases h
  · have H1 := H.below hb1
    by_cases k1 : m.ki = 1
    · rw [carriedF, if_pos k1]
      exact carry_bundle m ss w1 k1 H.e1 (by have := H.s1; have := H.e1; unfold maxLen; omega) H1.txs
    by_cases k2 : m.ki = 2
    · rw [carriedF, if_neg k1, if_pos k2]
      exact carry_offer m bl pl w1 k2 H.e2 H.e3 H1.bat H1.par
    by_cases k3 : m.ki = 3
    · rw [carriedF, if_neg k1, if_neg k2, if_pos k3]
      exact carry_vote m w1 k3
    by_cases k4 : m.ki = 4
    · rw [carriedF, if_neg k1, if_neg k2, if_neg k3, if_pos k4]
      exact carry_proof m cbl cpl vl w1 k4 H.e4 H.e5 H.e6 H.s6 H1.cbat H1.cpar H1.vot
    by_cases k5 : m.ki = 5
    · rw [carriedF, if_neg k1, if_neg k2, if_neg k3, if_neg k4, if_pos k5]
      have hw := carry_want m w1 k5
      rw [wantF] at hw
      exact hw
    · rw [carriedF, if_neg k1, if_neg k2, if_neg k3, if_neg k4, if_neg k5]
      exact carry_none m w1 (by omega)
end Go.Proofs.Ythlknldicpeobaa

namespace Go.Proofs.Ythlknldicpeobaa
open Go.RowKit

/-- What Decode gives. -/
structure DecIs (w w' : World) (e : Ending) (bs : List Int) : Prop where
  out : (readF bs ≠ 0 ∧ e = .returned (.tuple #[.agg #[.int .i64 0, .int .i64 0, .int .i64 0, .int .i64 0, .int .i64 0, .slice none 0 0, .int .i64 0, .int .i64 0, .slice none 0 0, .slice none 0 0, .int .i64 0, .int .i64 0, .slice none 0 0, .int .i64 0, .int .i64 0, .slice none 0 0, .slice none 0 0, .slice none 0 0, .int .i64 0], .int .i64 (readF bs)])) ∨ (readF bs = 0 ∧ ∃ x : MV, x.c = pM (bs, false) ∧ MAt w' x ∧ HasM (fun q => w.heap.size ≤ q) x ∧ ((checkF x.m x.car = 0 ∧ e = .returned (.tuple #[.agg #[.int .i64 x.m.fr, .int .i64 x.m.tt, .int .i64 x.m.ki, .int .i64 x.m.bau, .int .i64 x.m.bnu, .slice x.m.bta x.m.btn x.m.btc, .int .i64 x.m.hau, .int .i64 x.m.hrd, .slice x.m.hba x.m.hbn x.m.hbc, .slice x.m.hpa x.m.hpn x.m.hpc, .int .i64 x.m.sau, .int .i64 x.m.srd, .slice x.m.sda x.m.sdn x.m.sdc, .int .i64 x.m.cau, .int .i64 x.m.crd, .slice x.m.cba x.m.cbn x.m.cbc, .slice x.m.cpa x.m.cpn x.m.cpc, .slice x.m.cva x.m.cvn x.m.cvc, .int .i64 x.m.ro], .int .i64 0])) ∨ (checkF x.m x.car ≠ 0 ∧ e = .returned (.tuple #[.agg #[.int .i64 0, .int .i64 0, .int .i64 0, .int .i64 0, .int .i64 0, .slice none 0 0, .int .i64 0, .int .i64 0, .slice none 0 0, .slice none 0 0, .int .i64 0, .int .i64 0, .slice none 0 0, .int .i64 0, .int .i64 0, .slice none 0 0, .slice none 0 0, .slice none 0 0, .int .i64 0], .int .i64 (checkF x.m x.car)]))))
  below : Below w.heap.size w w'
set_option maxRecDepth 100000 in
set_option maxHeartbeats 4000000 in
theorem decode_any (bs : List Int) (sa : Option Addr) (n cap : Nat) (w : World) (hn : n = bs.length) (hs : SliceAt w sa cap bs) (hu : U8s bs) (hl : bs.length ≤ 140737488355328) :
    Calls Try.prog 5 #[.slice sa n cap] w fun e w' => DecIs w w' e bs := by
  have hA : Below w.heap.size w (w.alloc (.cells #[.int .i64 0, .int .i64 0, .int .i64 0, .int .i64 0, .int .i64 0, .slice none 0 0, .int .i64 0, .int .i64 0, .slice none 0 0, .slice none 0 0, .int .i64 0, .int .i64 0, .slice none 0 0, .int .i64 0, .int .i64 0, .slice none 0 0, .slice none 0 0, .slice none 0 0, .int .i64 0] 35)) := (Below.refl _ _).alloc (Nat.le_refl _) _
  have q0 := heap_alloc_new w (.cells #[.int .i64 0, .int .i64 0, .int .i64 0, .int .i64 0, .int .i64 0, .slice none 0 0, .int .i64 0, .int .i64 0, .slice none 0 0, .slice none 0 0, .int .i64 0, .int .i64 0, .slice none 0 0, .int .i64 0, .int .i64 0, .slice none 0 0, .slice none 0 0, .slice none 0 0, .int .i64 0] 35)
  have hsz : w.heap.size < (w.alloc (.cells #[.int .i64 0, .int .i64 0, .int .i64 0, .int .i64 0, .int .i64 0, .slice none 0 0, .int .i64 0, .int .i64 0, .slice none 0 0, .slice none 0 0, .int .i64 0, .int .i64 0, .slice none 0 0, .int .i64 0, .int .i64 0, .slice none 0 0, .slice none 0 0, .slice none 0 0, .int .i64 0] 35)).heap.size := lt_of_heap q0
  have hRd := read_any bs sa n cap _ hn (hs.below hA) hu hl
  clear hn hs hu hl
  go_enter Try.func5, Try.ntmps5
  go_wp2_with fail
  generalize w.alloc (.cells #[.int .i64 0, .int .i64 0, .int .i64 0, .int .i64 0, .int .i64 0, .slice none 0 0, .int .i64 0, .int .i64 0, .slice none 0 0, .slice none 0 0, .int .i64 0, .int .i64 0, .slice none 0 0, .int .i64 0, .int .i64 0, .slice none 0 0, .slice none 0 0, .slice none 0 0, .int .i64 0] 35) = W0 at hA q0 hsz hRd ⊢
  refine hRd.mono ?_
  rintro e w1 ⟨hout, hb1⟩
  clear hRd
  have hB1 := hA.trans (hb1.mono hA.size)
  have p0 := (hb1.block _ hsz).trans q0
  have hlt1 : w.heap.size < w1.heap.size := lt_of_heap p0
  rcases hout with ⟨hF, he⟩ | ⟨hF, x, he, hM, hH, hc⟩
  · subst he
    dsimp only
    have HF : Hid (readF bs ≠ 0) := hF
    generalize hFq : readF bs = F at *
    have HFq : Hid (readF bs = F) := hFq
    clear hFq
    have hFb : (F == 0) = false := by simp [hF]
    have qz := heap_alloc_new w1 (.cells #[.int .i64 0, .int .i64 0, .int .i64 0, .int .i64 0, .int .i64 0, .slice none 0 0, .int .i64 0, .int .i64 0, .slice none 0 0, .slice none 0 0, .int .i64 0, .int .i64 0, .slice none 0 0, .int .i64 0, .int .i64 0, .slice none 0 0, .slice none 0 0, .slice none 0 0, .int .i64 0] 35)
    have hAM : Below w1.heap.size w1 ((w1.alloc (.cells #[.int .i64 0, .int .i64 0, .int .i64 0, .int .i64 0, .int .i64 0, .slice none 0 0, .int .i64 0, .int .i64 0, .slice none 0 0, .slice none 0 0, .int .i64 0, .int .i64 0, .slice none 0 0, .int .i64 0, .int .i64 0, .slice none 0 0, .slice none 0 0, .slice none 0 0, .int .i64 0] 35)).setRow w1.heap.size #[.int .i64 0, .int .i64 0, .int .i64 0, .int .i64 0, .int .i64 0, .slice none 0 0, .int .i64 0, .int .i64 0, .slice none 0 0, .slice none 0 0, .int .i64 0, .int .i64 0, .slice none 0 0, .int .i64 0, .int .i64 0, .slice none 0 0, .slice none 0 0, .slice none 0 0, .int .i64 0]) := laid_row w1 #[.int .i64 0, .int .i64 0, .int .i64 0, .int .i64 0, .int .i64 0, .slice none 0 0, .int .i64 0, .int .i64 0, .slice none 0 0, .slice none 0 0, .int .i64 0, .int .i64 0, .slice none 0 0, .int .i64 0, .int .i64 0, .slice none 0 0, .slice none 0 0, .slice none 0 0, .int .i64 0] #[.int .i64 0, .int .i64 0, .int .i64 0, .int .i64 0, .int .i64 0, .slice none 0 0, .int .i64 0, .int .i64 0, .slice none 0 0, .slice none 0 0, .int .i64 0, .int .i64 0, .slice none 0 0, .int .i64 0, .int .i64 0, .slice none 0 0, .slice none 0 0, .slice none 0 0, .int .i64 0] 35
    have zM := (hAM.block _ hlt1).trans p0
    go_upto_region 2 with (refine wpList_store_row rfl 35 _ _ rfl w1.heap.size #[.int .i64 0, .int .i64 0, .int .i64 0, .int .i64 0, .int .i64 0, .slice none 0 0, .int .i64 0, .int .i64 0, .slice none 0 0, .slice none 0 0, .int .i64 0, .int .i64 0, .slice none 0 0, .int .i64 0, .int .i64 0, .slice none 0 0, .slice none 0 0, .slice none 0 0, .int .i64 0] rfl rfl 35 _ qz sMsg' rfl (by simp [Value.oneCell']) ?_)
    generalize (w1.alloc (.cells #[.int .i64 0, .int .i64 0, .int .i64 0, .int .i64 0, .int .i64 0, .slice none 0 0, .int .i64 0, .int .i64 0, .slice none 0 0, .slice none 0 0, .int .i64 0, .int .i64 0, .slice none 0 0, .int .i64 0, .int .i64 0, .slice none 0 0, .slice none 0 0, .slice none 0 0, .int .i64 0] 35)).setRow w1.heap.size #[.int .i64 0, .int .i64 0, .int .i64 0, .int .i64 0, .int .i64 0, .slice none 0 0, .int .i64 0, .int .i64 0, .slice none 0 0, .slice none 0 0, .int .i64 0, .int .i64 0, .slice none 0 0, .int .i64 0, .int .i64 0, .slice none 0 0, .slice none 0 0, .slice none 0 0, .int .i64 0] = W4 at hAM zM ⊢
    have hB4 := hB1.trans (hAM.mono hB1.size)
    go_wp2_with (refine wpList_store_row rfl 35 _ _ rfl w.heap.size #[.int .i64 0, .int .i64 0, .int .i64 0, .int .i64 0, .int .i64 0, .slice none 0 0, .int .i64 0, .int .i64 0, .slice none 0 0, .slice none 0 0, .int .i64 0, .int .i64 0, .slice none 0 0, .int .i64 0, .int .i64 0, .slice none 0 0, .slice none 0 0, .slice none 0 0, .int .i64 0] rfl rfl 35 _ zM sMsg' rfl (by simp [Value.oneCell']) ?_)
    exact bodyPost_ret (v := .tuple #[.agg #[.int .i64 0, .int .i64 0, .int .i64 0, .int .i64 0, .int .i64 0, .slice none 0 0, .int .i64 0, .int .i64 0, .slice none 0 0, .slice none 0 0, .int .i64 0, .int .i64 0, .slice none 0 0, .int .i64 0, .int .i64 0, .slice none 0 0, .slice none 0 0, .slice none 0 0, .int .i64 0], .int .i64 F]) (results_cell_slot (fn := Try.f5) (p := 2) (q := 3) (ty := 35) rfl _ _ w.heap.size 35 _ (0, 0) _ (.int .i64 F) ⟨rfl, rfl⟩ (setRow_heap _ _ _ _ _ _ zM) Try.underlying35 rfl sMsg') rfl ⟨.inl ⟨by rw [HFq.out]; exact HF.out, by rw [HFq.out]⟩, (Upd.setRow zM).below hB4 hB4.size (Nat.le_refl _)⟩
  · subst he
    dsimp only
    have HX : Hid (readF bs = 0 ∧ MAt w1 x ∧ HasM (fun q => W0.heap.size ≤ q) x ∧ x.c = pM (bs, false)) := ⟨hF, hM, hH, hc⟩
    clear hF hM hH hc
    have qz := heap_alloc_new w1 (.cells #[.int .i64 0, .int .i64 0, .int .i64 0, .int .i64 0, .int .i64 0, .slice none 0 0, .int .i64 0, .int .i64 0, .slice none 0 0, .slice none 0 0, .int .i64 0, .int .i64 0, .slice none 0 0, .int .i64 0, .int .i64 0, .slice none 0 0, .slice none 0 0, .slice none 0 0, .int .i64 0] 35)
    have hAM : Below w1.heap.size w1 ((w1.alloc (.cells #[.int .i64 0, .int .i64 0, .int .i64 0, .int .i64 0, .int .i64 0, .slice none 0 0, .int .i64 0, .int .i64 0, .slice none 0 0, .slice none 0 0, .int .i64 0, .int .i64 0, .slice none 0 0, .int .i64 0, .int .i64 0, .slice none 0 0, .slice none 0 0, .slice none 0 0, .int .i64 0] 35)).setRow w1.heap.size #[.int .i64 x.m.fr, .int .i64 x.m.tt, .int .i64 x.m.ki, .int .i64 x.m.bau, .int .i64 x.m.bnu, .slice x.m.bta x.m.btn x.m.btc, .int .i64 x.m.hau, .int .i64 x.m.hrd, .slice x.m.hba x.m.hbn x.m.hbc, .slice x.m.hpa x.m.hpn x.m.hpc, .int .i64 x.m.sau, .int .i64 x.m.srd, .slice x.m.sda x.m.sdn x.m.sdc, .int .i64 x.m.cau, .int .i64 x.m.crd, .slice x.m.cba x.m.cbn x.m.cbc, .slice x.m.cpa x.m.cpn x.m.cpc, .slice x.m.cva x.m.cvn x.m.cvc, .int .i64 x.m.ro]) := laid_row w1 #[.int .i64 0, .int .i64 0, .int .i64 0, .int .i64 0, .int .i64 0, .slice none 0 0, .int .i64 0, .int .i64 0, .slice none 0 0, .slice none 0 0, .int .i64 0, .int .i64 0, .slice none 0 0, .int .i64 0, .int .i64 0, .slice none 0 0, .slice none 0 0, .slice none 0 0, .int .i64 0] #[.int .i64 x.m.fr, .int .i64 x.m.tt, .int .i64 x.m.ki, .int .i64 x.m.bau, .int .i64 x.m.bnu, .slice x.m.bta x.m.btn x.m.btc, .int .i64 x.m.hau, .int .i64 x.m.hrd, .slice x.m.hba x.m.hbn x.m.hbc, .slice x.m.hpa x.m.hpn x.m.hpc, .int .i64 x.m.sau, .int .i64 x.m.srd, .slice x.m.sda x.m.sdn x.m.sdc, .int .i64 x.m.cau, .int .i64 x.m.crd, .slice x.m.cba x.m.cbn x.m.cbc, .slice x.m.cpa x.m.cpn x.m.cpc, .slice x.m.cva x.m.cvn x.m.cvc, .int .i64 x.m.ro] 35
    have qM := setRow_heap _ _ _ #[.int .i64 x.m.fr, .int .i64 x.m.tt, .int .i64 x.m.ki, .int .i64 x.m.bau, .int .i64 x.m.bnu, .slice x.m.bta x.m.btn x.m.btc, .int .i64 x.m.hau, .int .i64 x.m.hrd, .slice x.m.hba x.m.hbn x.m.hbc, .slice x.m.hpa x.m.hpn x.m.hpc, .int .i64 x.m.sau, .int .i64 x.m.srd, .slice x.m.sda x.m.sdn x.m.sdc, .int .i64 x.m.cau, .int .i64 x.m.crd, .slice x.m.cba x.m.cbn x.m.cbc, .slice x.m.cpa x.m.cpn x.m.cpc, .slice x.m.cva x.m.cvn x.m.cvc, .int .i64 x.m.ro] _ _ qz
    have zM := (hAM.block _ hlt1).trans p0
    go_upto_region 2 with (refine wpList_store_row rfl 35 _ _ rfl w1.heap.size #[.int .i64 x.m.fr, .int .i64 x.m.tt, .int .i64 x.m.ki, .int .i64 x.m.bau, .int .i64 x.m.bnu, .slice x.m.bta x.m.btn x.m.btc, .int .i64 x.m.hau, .int .i64 x.m.hrd, .slice x.m.hba x.m.hbn x.m.hbc, .slice x.m.hpa x.m.hpn x.m.hpc, .int .i64 x.m.sau, .int .i64 x.m.srd, .slice x.m.sda x.m.sdn x.m.sdc, .int .i64 x.m.cau, .int .i64 x.m.crd, .slice x.m.cba x.m.cbn x.m.cbc, .slice x.m.cpa x.m.cpn x.m.cpc, .slice x.m.cva x.m.cvn x.m.cvc, .int .i64 x.m.ro] rfl rfl 35 _ qz sMsg' rfl (by simp [Value.oneCell']) ?_)
    generalize (w1.alloc (.cells #[.int .i64 0, .int .i64 0, .int .i64 0, .int .i64 0, .int .i64 0, .slice none 0 0, .int .i64 0, .int .i64 0, .slice none 0 0, .slice none 0 0, .int .i64 0, .int .i64 0, .slice none 0 0, .int .i64 0, .int .i64 0, .slice none 0 0, .slice none 0 0, .slice none 0 0, .int .i64 0] 35)).setRow w1.heap.size #[.int .i64 x.m.fr, .int .i64 x.m.tt, .int .i64 x.m.ki, .int .i64 x.m.bau, .int .i64 x.m.bnu, .slice x.m.bta x.m.btn x.m.btc, .int .i64 x.m.hau, .int .i64 x.m.hrd, .slice x.m.hba x.m.hbn x.m.hbc, .slice x.m.hpa x.m.hpn x.m.hpc, .int .i64 x.m.sau, .int .i64 x.m.srd, .slice x.m.sda x.m.sdn x.m.sdc, .int .i64 x.m.cau, .int .i64 x.m.crd, .slice x.m.cba x.m.cbn x.m.cbc, .slice x.m.cpa x.m.cpn x.m.cpc, .slice x.m.cva x.m.cvn x.m.cvc, .int .i64 x.m.ro] = W4 at hAM qM zM ⊢
    have hB4 := hB1.trans (hAM.mono hB1.size)
    have hM4 := HX.out.2.1.below hAM
    have hC := check_any x.m x.ss x.bl x.pl x.cbl x.cpl x.vl W4 hM4.at'
    have hCe : checkF x.m (carriedF x.m x.ss x.bl x.pl x.cbl x.cpl x.vl) = checkF x.m x.car := rfl
    rw [hCe] at hC
    have HM4 : Hid (MAt W4 x) := hM4
    clear hM4 hCe qz
    generalize hMB : w1.heap.size = MB at qM hlt1 ⊢
    clear hMB
    go_wp2_with (refine wpList_load_row rfl 35 _ rfl MB rfl 35 #[.int .i64 x.m.fr, .int .i64 x.m.tt, .int .i64 x.m.ki, .int .i64 x.m.bau, .int .i64 x.m.bnu, .slice x.m.bta x.m.btn x.m.btc, .int .i64 x.m.hau, .int .i64 x.m.hrd, .slice x.m.hba x.m.hbn x.m.hbc, .slice x.m.hpa x.m.hpn x.m.hpc, .int .i64 x.m.sau, .int .i64 x.m.srd, .slice x.m.sda x.m.sdn x.m.sdc, .int .i64 x.m.cau, .int .i64 x.m.crd, .slice x.m.cba x.m.cbn x.m.cbc, .slice x.m.cpa x.m.cpn x.m.cpc, .slice x.m.cva x.m.cvn x.m.cvc, .int .i64 x.m.ro] (0, 0) _ qM Try.underlying35 rfl sMsg' ?_)
    refine hC.mono ?_
    rintro e w5 ⟨he, hb5⟩
    subst he
    dsimp only
    clear hC
    have q5 := (hb5.block _ (lt_of_heap qM)).trans qM
    have z5 := (hb5.block _ (lt_of_heap zM)).trans zM
    have hB5 := hB4.trans (hb5.mono hB4.size)
    have HM5 : Hid (MAt w5 x) := HM4.out.below hb5
    generalize hR : checkF x.m x.car = F at *
    have HR : Hid (checkF x.m x.car = F) := hR
    clear hR
    by_cases hF : F = 0
    · subst hF
      go_wp2_with (first | refine wpList_load_row rfl 35 _ rfl MB rfl 35 #[.int .i64 x.m.fr, .int .i64 x.m.tt, .int .i64 x.m.ki, .int .i64 x.m.bau, .int .i64 x.m.bnu, .slice x.m.bta x.m.btn x.m.btc, .int .i64 x.m.hau, .int .i64 x.m.hrd, .slice x.m.hba x.m.hbn x.m.hbc, .slice x.m.hpa x.m.hpn x.m.hpc, .int .i64 x.m.sau, .int .i64 x.m.srd, .slice x.m.sda x.m.sdn x.m.sdc, .int .i64 x.m.cau, .int .i64 x.m.crd, .slice x.m.cba x.m.cbn x.m.cbc, .slice x.m.cpa x.m.cpn x.m.cpc, .slice x.m.cva x.m.cvn x.m.cvc, .int .i64 x.m.ro] (0, 0) _ q5 Try.underlying35 rfl sMsg' ?_ | refine wpList_store_row rfl 35 _ _ rfl w.heap.size #[.int .i64 x.m.fr, .int .i64 x.m.tt, .int .i64 x.m.ki, .int .i64 x.m.bau, .int .i64 x.m.bnu, .slice x.m.bta x.m.btn x.m.btc, .int .i64 x.m.hau, .int .i64 x.m.hrd, .slice x.m.hba x.m.hbn x.m.hbc, .slice x.m.hpa x.m.hpn x.m.hpc, .int .i64 x.m.sau, .int .i64 x.m.srd, .slice x.m.sda x.m.sdn x.m.sdc, .int .i64 x.m.cau, .int .i64 x.m.crd, .slice x.m.cba x.m.cbn x.m.cbc, .slice x.m.cpa x.m.cpn x.m.cpc, .slice x.m.cva x.m.cvn x.m.cvc, .int .i64 x.m.ro] rfl rfl 35 _ z5 sMsg' rfl (by simp [Value.oneCell']) ?_)
      exact bodyPost_ret (v := .tuple #[.agg #[.int .i64 x.m.fr, .int .i64 x.m.tt, .int .i64 x.m.ki, .int .i64 x.m.bau, .int .i64 x.m.bnu, .slice x.m.bta x.m.btn x.m.btc, .int .i64 x.m.hau, .int .i64 x.m.hrd, .slice x.m.hba x.m.hbn x.m.hbc, .slice x.m.hpa x.m.hpn x.m.hpc, .int .i64 x.m.sau, .int .i64 x.m.srd, .slice x.m.sda x.m.sdn x.m.sdc, .int .i64 x.m.cau, .int .i64 x.m.crd, .slice x.m.cba x.m.cbn x.m.cbc, .slice x.m.cpa x.m.cpn x.m.cpc, .slice x.m.cva x.m.cvn x.m.cvc, .int .i64 x.m.ro], .int .i64 0]) (results_cell_slot (fn := Try.f5) (p := 2) (q := 3) (ty := 35) rfl _ _ w.heap.size 35 _ (0, 0) _ (.int .i64 0) ⟨rfl, rfl⟩ (setRow_heap _ _ _ _ _ _ z5) Try.underlying35 rfl sMsg') rfl ⟨.inr ⟨HX.out.1, x, HX.out.2.2.2, HM5.out.setRow HX.out.2.2.1 hsz, HX.out.2.2.1.mono (fun q hq => by omega), .inl ⟨HR.out, rfl⟩⟩, (Upd.setRow z5).below hB5 hB5.size (Nat.le_refl _)⟩
    · have HF : Hid (F ≠ 0) := hF
      go_wp2_with (refine wpList_store_row rfl 35 _ _ rfl w.heap.size #[.int .i64 0, .int .i64 0, .int .i64 0, .int .i64 0, .int .i64 0, .slice none 0 0, .int .i64 0, .int .i64 0, .slice none 0 0, .slice none 0 0, .int .i64 0, .int .i64 0, .slice none 0 0, .int .i64 0, .int .i64 0, .slice none 0 0, .slice none 0 0, .slice none 0 0, .int .i64 0] rfl rfl 35 _ z5 sMsg' rfl (by simp [Value.oneCell']) ?_)
      refine bodyPost_ret (v := .tuple #[.agg #[.int .i64 0, .int .i64 0, .int .i64 0, .int .i64 0, .int .i64 0, .slice none 0 0, .int .i64 0, .int .i64 0, .slice none 0 0, .slice none 0 0, .int .i64 0, .int .i64 0, .slice none 0 0, .int .i64 0, .int .i64 0, .slice none 0 0, .slice none 0 0, .slice none 0 0, .int .i64 0], .int .i64 F]) (results_cell_slot (fn := Try.f5) (p := 2) (q := 3) (ty := 35) rfl _ _ w.heap.size 35 _ (0, 0) _ (.int .i64 F) ⟨rfl, rfl⟩ (setRow_heap _ _ _ _ _ _ z5) Try.underlying35 rfl sMsg') rfl ⟨.inr ⟨HX.out.1, x, HX.out.2.2.2, HM5.out.setRow HX.out.2.2.1 hsz, HX.out.2.2.1.mono (fun q hq => by omega), .inr ⟨?_, ?_⟩⟩, (Upd.setRow z5).below hB5 hB5.size (Nat.le_refl _)⟩
      · rw [HR.out]; exact HF.out
      · rw [HR.out]
end Go.Proofs.Ythlknldicpeobaa

namespace Go.Proofs.Ythlknldicpeobaa
open Go.RowKit

set_option maxRecDepth 100000 in
theorem in_bool (n a b : Int) (r : Bool) (w : World) (h : r = decide (a ≤ n ∧ n ≤ b)) : Calls Try.prog 16 #[.int .i64 n, .int .i64 a, .int .i64 b] w fun e w' => e = .returned (.bool r) ∧ w = w' := by
  by_cases h1 : a ≤ n
  · by_cases h2 : n ≤ b
    · obtain rfl : r = true := by simp [h, h1, h2]
      clear h
      go_enter Try.func16, Try.ntmps16
      go_wp2
      go_ret
      exact ⟨rfl, rfl⟩
    · obtain rfl : r = false := by simp [h, h2]
      clear h
      go_enter Try.func16, Try.ntmps16
      go_wp2
      go_ret
      exact ⟨rfl, rfl⟩
  · obtain rfl : r = false := by simp [h, h1]
    clear h
    go_enter Try.func16, Try.ntmps16
    go_wp2
    go_ret
    exact ⟨rfl, rfl⟩
set_option maxRecDepth 100000 in
theorem in_true (n a b : Int) (w : World) (h : a ≤ n ∧ n ≤ b) : Calls Try.prog 16 #[.int .i64 n, .int .i64 a, .int .i64 b] w fun e w' => e = .returned (.bool true) ∧ w = w' := in_bool n a b true w (by simp [h])
set_option maxRecDepth 100000 in
theorem in_false (n a b : Int) (w : World) (h : ¬ (a ≤ n ∧ n ≤ b)) : Calls Try.prog 16 #[.int .i64 n, .int .i64 a, .int .i64 b] w fun e w' => e = .returned (.bool false) ∧ w = w' := in_bool n a b false w (by rw [decide_eq_false h])
end Go.Proofs.Ythlknldicpeobaa

namespace Go.Proofs.Ythlknldicpeobaa
open Go.RowKit

set_option maxRecDepth 100000 in
set_option maxHeartbeats 400000 in
theorem headerEmpty_bool (au nu : Int) (sa : Option Addr) (n c : Nat) (sb : Option Addr) (m d : Nat) (r : Bool) (w : World) (h : r = decide (au = 0 ∧ nu = 0 ∧ n = 0 ∧ m = 0)) :
    Calls Try.prog 43 #[.agg #[.int .i64 au, .int .i64 nu, .slice sa n c, .slice sb m d]] w fun e w' => e = .returned (.bool r) ∧ Below w.heap.size w w' := by
  by_cases h1 : au = 0
  · by_cases h2 : nu = 0
    · by_cases h3 : n = 0
      · by_cases h4 : m = 0
        · obtain rfl : r = true := by simp [h, h1, h2, h3, h4]
          clear h
          go_enter Try.func43, Try.ntmps43
          go_wp2_with fail
          go_ret
          exact ⟨by first | rfl | exact ret_bool (beq_eq_false_iff_ne.2 (by omega)), (Below.refl _ _).alloc (Nat.le_refl _) _⟩
        · have h4I : ¬ (m : Int) = 0 := by omega
          obtain rfl : r = false := by simp [h, h4]
          clear h
          go_enter Try.func43, Try.ntmps43
          go_wp2_with fail
          go_ret
          exact ⟨by first | rfl | exact ret_bool (beq_eq_false_iff_ne.2 (by omega)), (Below.refl _ _).alloc (Nat.le_refl _) _⟩
      · have h3I : ¬ (n : Int) = 0 := by omega
        obtain rfl : r = false := by simp [h, h3]
        clear h
        go_enter Try.func43, Try.ntmps43
        go_wp2_with fail
        go_ret
        exact ⟨by first | rfl | exact ret_bool (beq_eq_false_iff_ne.2 (by omega)), (Below.refl _ _).alloc (Nat.le_refl _) _⟩
    · obtain rfl : r = false := by simp [h, h2]
      clear h
      go_enter Try.func43, Try.ntmps43
      go_wp2_with fail
      go_ret
      exact ⟨by first | rfl | exact ret_bool (beq_eq_false_iff_ne.2 (by omega)), (Below.refl _ _).alloc (Nat.le_refl _) _⟩
  · obtain rfl : r = false := by simp [h, h1]
    clear h
    go_enter Try.func43, Try.ntmps43
    go_wp2_with fail
    go_ret
    exact ⟨by first | rfl | exact ret_bool (beq_eq_false_iff_ne.2 (by omega)), (Below.refl _ _).alloc (Nat.le_refl _) _⟩
set_option maxRecDepth 100000 in
theorem headerEmpty_true (au nu : Int) (sa : Option Addr) (n c : Nat) (sb : Option Addr) (m d : Nat) (w : World) (h : au = 0 ∧ nu = 0 ∧ n = 0 ∧ m = 0) : Calls Try.prog 43 #[.agg #[.int .i64 au, .int .i64 nu, .slice sa n c, .slice sb m d]] w fun e w' => e = .returned (.bool true) ∧ Below w.heap.size w w' := headerEmpty_bool _ _ _ _ _ _ _ _ true w (by simp [h])
set_option maxRecDepth 100000 in
theorem headerEmpty_false (au nu : Int) (sa : Option Addr) (n c : Nat) (sb : Option Addr) (m d : Nat) (w : World) (h : ¬ (au = 0 ∧ nu = 0 ∧ n = 0 ∧ m = 0)) : Calls Try.prog 43 #[.agg #[.int .i64 au, .int .i64 nu, .slice sa n c, .slice sb m d]] w fun e w' => e = .returned (.bool false) ∧ Below w.heap.size w w' := headerEmpty_bool _ _ _ _ _ _ _ _ false w (by rw [decide_eq_false h])
end Go.Proofs.Ythlknldicpeobaa
