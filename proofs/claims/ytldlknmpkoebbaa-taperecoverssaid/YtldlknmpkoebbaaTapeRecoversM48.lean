/- A struct that is loaded as a row, behind a guard that is met. -/
import Derived.Test.YtldlknmpkoebbaaTapeRecoversM42
import Derived.Test.YtldlknmpkoebbaaCheckAny
import Derived.Test.YtldlknmpkoebbaaTapeRecoversM18
import Derived.Test.YtldlknmpkoebbaaTapeRecoversM12
import Derived.Test.YtldlknmpkoebbaaTapeRecoversM0
import Derived.Test.YtldlknmpkoebbaaHeadF
import Derived.Test.YtldlknmpkoebbaaCertF
import Derived.Test.YtldlknmpkoebbaaPK
import Derived.Laws.Rows
namespace Go.Proofs.Ytldlknmpkoebbaa
open Go.RowKit

/-- What Decode gives. -/
structure DecIs (w w' : World) (e : Ending) (bs : List Int) : Prop where
  out : (readF bs ≠ 0 ∧ e = .returned (.tuple #[.agg #[.int .i64 0, .int .i64 0, .int .i64 0, .int .i64 0, .int .i64 0, .slice none 0 0, .int .i64 0, .int .i64 0, .slice none 0 0, .slice none 0 0, .int .i64 0, .int .i64 0, .slice none 0 0, .int .i64 0, .int .i64 0, .slice none 0 0, .slice none 0 0, .slice none 0 0, .int .i64 0], .int .i64 (readF bs)])) ∨ (readF bs = 0 ∧ ∃ x : MV, x.c = pM (bs, false) ∧ MAt w' x ∧ HasM (fun q => w.heap.size ≤ q) x ∧ ((checkF x.m x.car = 0 ∧ e = .returned (.tuple #[.agg #[.int .i64 x.m.fr, .int .i64 x.m.tt, .int .i64 x.m.ki, .int .i64 x.m.bau, .int .i64 x.m.bnu, .slice x.m.bta x.m.btn x.m.btc, .int .i64 x.m.hau, .int .i64 x.m.hrd, .slice x.m.hba x.m.hbn x.m.hbc, .slice x.m.hpa x.m.hpn x.m.hpc, .int .i64 x.m.sau, .int .i64 x.m.srd, .slice x.m.sda x.m.sdn x.m.sdc, .int .i64 x.m.cau, .int .i64 x.m.crd, .slice x.m.cba x.m.cbn x.m.cbc, .slice x.m.cpa x.m.cpn x.m.cpc, .slice x.m.cva x.m.cvn x.m.cvc, .int .i64 x.m.ro], .int .i64 0])) ∨ (checkF x.m x.car ≠ 0 ∧ e = .returned (.tuple #[.agg #[.int .i64 0, .int .i64 0, .int .i64 0, .int .i64 0, .int .i64 0, .slice none 0 0, .int .i64 0, .int .i64 0, .slice none 0 0, .slice none 0 0, .int .i64 0, .int .i64 0, .slice none 0 0, .int .i64 0, .int .i64 0, .slice none 0 0, .slice none 0 0, .slice none 0 0, .int .i64 0], .int .i64 (checkF x.m x.car)]))))
  below : Below w.heap.size w w'
set_option maxRecDepth 100000 in
set_option maxHeartbeats 4000000 in
theorem decode_any (bs : List Int) (sa : Option Addr) (n cap : Nat) (w : World) (hn : n = bs.length) (hs : SliceAt w sa cap bs) (hu : U8s bs) (hl : bs.length ≤ 140737488355328) :
    Calls Try.prog 29 #[.slice sa n cap] w fun e w' => DecIs w w' e bs := by
  have hA : Below w.heap.size w (w.alloc (.cells #[.int .i64 0, .int .i64 0, .int .i64 0, .int .i64 0, .int .i64 0, .slice none 0 0, .int .i64 0, .int .i64 0, .slice none 0 0, .slice none 0 0, .int .i64 0, .int .i64 0, .slice none 0 0, .int .i64 0, .int .i64 0, .slice none 0 0, .slice none 0 0, .slice none 0 0, .int .i64 0] 53)) := (Below.refl _ _).alloc (Nat.le_refl _) _
  have q0 := heap_alloc_new w (.cells #[.int .i64 0, .int .i64 0, .int .i64 0, .int .i64 0, .int .i64 0, .slice none 0 0, .int .i64 0, .int .i64 0, .slice none 0 0, .slice none 0 0, .int .i64 0, .int .i64 0, .slice none 0 0, .int .i64 0, .int .i64 0, .slice none 0 0, .slice none 0 0, .slice none 0 0, .int .i64 0] 53)
  have hsz : w.heap.size < (w.alloc (.cells #[.int .i64 0, .int .i64 0, .int .i64 0, .int .i64 0, .int .i64 0, .slice none 0 0, .int .i64 0, .int .i64 0, .slice none 0 0, .slice none 0 0, .int .i64 0, .int .i64 0, .slice none 0 0, .int .i64 0, .int .i64 0, .slice none 0 0, .slice none 0 0, .slice none 0 0, .int .i64 0] 53)).heap.size := lt_of_heap q0
  have hRd := read_any bs sa n cap _ hn (hs.below hA) hu hl
  clear hn hs hu hl
  go_enter Try.func29, Try.ntmps29
  go_wp2_with fail
  generalize w.alloc (.cells #[.int .i64 0, .int .i64 0, .int .i64 0, .int .i64 0, .int .i64 0, .slice none 0 0, .int .i64 0, .int .i64 0, .slice none 0 0, .slice none 0 0, .int .i64 0, .int .i64 0, .slice none 0 0, .int .i64 0, .int .i64 0, .slice none 0 0, .slice none 0 0, .slice none 0 0, .int .i64 0] 53) = W0 at hA q0 hsz hRd ⊢
  refine hRd.mono ?_
  rintro e w1 ⟨hout, hb1⟩
  clear hRd
  have hB1 := hA.trans (hb1.mono hA.size)
  have p0 := (hb1.block _ hsz).trans q0
  have hlt1 : w.heap.size < w1.heap.size := lt_of_heap p0
  rcases hout with ⟨hF, he⟩ | ⟨hF, x, he, hM, hH, hc⟩
  · subst he
    dsimp only
    have HF : Hid (readF bs ≠ 0) := hF
    generalize hFq : readF bs = F at *
    have HFq : Hid (readF bs = F) := hFq
    clear hFq
    have hFb : (F == 0) = false := by simp [hF]
    have qz := heap_alloc_new w1 (.cells #[.int .i64 0, .int .i64 0, .int .i64 0, .int .i64 0, .int .i64 0, .slice none 0 0, .int .i64 0, .int .i64 0, .slice none 0 0, .slice none 0 0, .int .i64 0, .int .i64 0, .slice none 0 0, .int .i64 0, .int .i64 0, .slice none 0 0, .slice none 0 0, .slice none 0 0, .int .i64 0] 53)
    have hAM : Below w1.heap.size w1 ((w1.alloc (.cells #[.int .i64 0, .int .i64 0, .int .i64 0, .int .i64 0, .int .i64 0, .slice none 0 0, .int .i64 0, .int .i64 0, .slice none 0 0, .slice none 0 0, .int .i64 0, .int .i64 0, .slice none 0 0, .int .i64 0, .int .i64 0, .slice none 0 0, .slice none 0 0, .slice none 0 0, .int .i64 0] 53)).setRow w1.heap.size #[.int .i64 0, .int .i64 0, .int .i64 0, .int .i64 0, .int .i64 0, .slice none 0 0, .int .i64 0, .int .i64 0, .slice none 0 0, .slice none 0 0, .int .i64 0, .int .i64 0, .slice none 0 0, .int .i64 0, .int .i64 0, .slice none 0 0, .slice none 0 0, .slice none 0 0, .int .i64 0]) := laid_row w1 #[.int .i64 0, .int .i64 0, .int .i64 0, .int .i64 0, .int .i64 0, .slice none 0 0, .int .i64 0, .int .i64 0, .slice none 0 0, .slice none 0 0, .int .i64 0, .int .i64 0, .slice none 0 0, .int .i64 0, .int .i64 0, .slice none 0 0, .slice none 0 0, .slice none 0 0, .int .i64 0] #[.int .i64 0, .int .i64 0, .int .i64 0, .int .i64 0, .int .i64 0, .slice none 0 0, .int .i64 0, .int .i64 0, .slice none 0 0, .slice none 0 0, .int .i64 0, .int .i64 0, .slice none 0 0, .int .i64 0, .int .i64 0, .slice none 0 0, .slice none 0 0, .slice none 0 0, .int .i64 0] 53
    have zM := (hAM.block _ hlt1).trans p0
    go_upto_region 2 with (refine wpList_store_row rfl 53 _ _ rfl w1.heap.size #[.int .i64 0, .int .i64 0, .int .i64 0, .int .i64 0, .int .i64 0, .slice none 0 0, .int .i64 0, .int .i64 0, .slice none 0 0, .slice none 0 0, .int .i64 0, .int .i64 0, .slice none 0 0, .int .i64 0, .int .i64 0, .slice none 0 0, .slice none 0 0, .slice none 0 0, .int .i64 0] rfl rfl 53 _ qz sMsg' rfl (by simp [Value.oneCell']) ?_)
    generalize (w1.alloc (.cells #[.int .i64 0, .int .i64 0, .int .i64 0, .int .i64 0, .int .i64 0, .slice none 0 0, .int .i64 0, .int .i64 0, .slice none 0 0, .slice none 0 0, .int .i64 0, .int .i64 0, .slice none 0 0, .int .i64 0, .int .i64 0, .slice none 0 0, .slice none 0 0, .slice none 0 0, .int .i64 0] 53)).setRow w1.heap.size #[.int .i64 0, .int .i64 0, .int .i64 0, .int .i64 0, .int .i64 0, .slice none 0 0, .int .i64 0, .int .i64 0, .slice none 0 0, .slice none 0 0, .int .i64 0, .int .i64 0, .slice none 0 0, .int .i64 0, .int .i64 0, .slice none 0 0, .slice none 0 0, .slice none 0 0, .int .i64 0] = W4 at hAM zM ⊢
    have hB4 := hB1.trans (hAM.mono hB1.size)
    go_wp2_with (refine wpList_store_row rfl 53 _ _ rfl w.heap.size #[.int .i64 0, .int .i64 0, .int .i64 0, .int .i64 0, .int .i64 0, .slice none 0 0, .int .i64 0, .int .i64 0, .slice none 0 0, .slice none 0 0, .int .i64 0, .int .i64 0, .slice none 0 0, .int .i64 0, .int .i64 0, .slice none 0 0, .slice none 0 0, .slice none 0 0, .int .i64 0] rfl rfl 53 _ zM sMsg' rfl (by simp [Value.oneCell']) ?_)
    exact bodyPost_ret (v := .tuple #[.agg #[.int .i64 0, .int .i64 0, .int .i64 0, .int .i64 0, .int .i64 0, .slice none 0 0, .int .i64 0, .int .i64 0, .slice none 0 0, .slice none 0 0, .int .i64 0, .int .i64 0, .slice none 0 0, .int .i64 0, .int .i64 0, .slice none 0 0, .slice none 0 0, .slice none 0 0, .int .i64 0], .int .i64 F]) (results_cell_slot (fn := Try.f29) (p := 2) (q := 3) (ty := 53) rfl _ _ w.heap.size 53 _ (0, 0) _ (.int .i64 F) ⟨rfl, rfl⟩ (setRow_heap _ _ _ _ _ _ zM) Try.underlying53 rfl sMsg') rfl ⟨.inl ⟨by rw [HFq.out]; exact HF.out, by rw [HFq.out]⟩, (Upd.setRow zM).below hB4 hB4.size (Nat.le_refl _)⟩
  · subst he
    dsimp only
    have HX : Hid (readF bs = 0 ∧ MAt w1 x ∧ HasM (fun q => W0.heap.size ≤ q) x ∧ x.c = pM (bs, false)) := ⟨hF, hM, hH, hc⟩
    clear hF hM hH hc
    have qz := heap_alloc_new w1 (.cells #[.int .i64 0, .int .i64 0, .int .i64 0, .int .i64 0, .int .i64 0, .slice none 0 0, .int .i64 0, .int .i64 0, .slice none 0 0, .slice none 0 0, .int .i64 0, .int .i64 0, .slice none 0 0, .int .i64 0, .int .i64 0, .slice none 0 0, .slice none 0 0, .slice none 0 0, .int .i64 0] 53)
    have hAM : Below w1.heap.size w1 ((w1.alloc (.cells #[.int .i64 0, .int .i64 0, .int .i64 0, .int .i64 0, .int .i64 0, .slice none 0 0, .int .i64 0, .int .i64 0, .slice none 0 0, .slice none 0 0, .int .i64 0, .int .i64 0, .slice none 0 0, .int .i64 0, .int .i64 0, .slice none 0 0, .slice none 0 0, .slice none 0 0, .int .i64 0] 53)).setRow w1.heap.size #[.int .i64 x.m.fr, .int .i64 x.m.tt, .int .i64 x.m.ki, .int .i64 x.m.bau, .int .i64 x.m.bnu, .slice x.m.bta x.m.btn x.m.btc, .int .i64 x.m.hau, .int .i64 x.m.hrd, .slice x.m.hba x.m.hbn x.m.hbc, .slice x.m.hpa x.m.hpn x.m.hpc, .int .i64 x.m.sau, .int .i64 x.m.srd, .slice x.m.sda x.m.sdn x.m.sdc, .int .i64 x.m.cau, .int .i64 x.m.crd, .slice x.m.cba x.m.cbn x.m.cbc, .slice x.m.cpa x.m.cpn x.m.cpc, .slice x.m.cva x.m.cvn x.m.cvc, .int .i64 x.m.ro]) := laid_row w1 #[.int .i64 0, .int .i64 0, .int .i64 0, .int .i64 0, .int .i64 0, .slice none 0 0, .int .i64 0, .int .i64 0, .slice none 0 0, .slice none 0 0, .int .i64 0, .int .i64 0, .slice none 0 0, .int .i64 0, .int .i64 0, .slice none 0 0, .slice none 0 0, .slice none 0 0, .int .i64 0] #[.int .i64 x.m.fr, .int .i64 x.m.tt, .int .i64 x.m.ki, .int .i64 x.m.bau, .int .i64 x.m.bnu, .slice x.m.bta x.m.btn x.m.btc, .int .i64 x.m.hau, .int .i64 x.m.hrd, .slice x.m.hba x.m.hbn x.m.hbc, .slice x.m.hpa x.m.hpn x.m.hpc, .int .i64 x.m.sau, .int .i64 x.m.srd, .slice x.m.sda x.m.sdn x.m.sdc, .int .i64 x.m.cau, .int .i64 x.m.crd, .slice x.m.cba x.m.cbn x.m.cbc, .slice x.m.cpa x.m.cpn x.m.cpc, .slice x.m.cva x.m.cvn x.m.cvc, .int .i64 x.m.ro] 53
    have qM := setRow_heap _ _ _ #[.int .i64 x.m.fr, .int .i64 x.m.tt, .int .i64 x.m.ki, .int .i64 x.m.bau, .int .i64 x.m.bnu, .slice x.m.bta x.m.btn x.m.btc, .int .i64 x.m.hau, .int .i64 x.m.hrd, .slice x.m.hba x.m.hbn x.m.hbc, .slice x.m.hpa x.m.hpn x.m.hpc, .int .i64 x.m.sau, .int .i64 x.m.srd, .slice x.m.sda x.m.sdn x.m.sdc, .int .i64 x.m.cau, .int .i64 x.m.crd, .slice x.m.cba x.m.cbn x.m.cbc, .slice x.m.cpa x.m.cpn x.m.cpc, .slice x.m.cva x.m.cvn x.m.cvc, .int .i64 x.m.ro] _ _ qz
    have zM := (hAM.block _ hlt1).trans p0
    go_upto_region 2 with (refine wpList_store_row rfl 53 _ _ rfl w1.heap.size #[.int .i64 x.m.fr, .int .i64 x.m.tt, .int .i64 x.m.ki, .int .i64 x.m.bau, .int .i64 x.m.bnu, .slice x.m.bta x.m.btn x.m.btc, .int .i64 x.m.hau, .int .i64 x.m.hrd, .slice x.m.hba x.m.hbn x.m.hbc, .slice x.m.hpa x.m.hpn x.m.hpc, .int .i64 x.m.sau, .int .i64 x.m.srd, .slice x.m.sda x.m.sdn x.m.sdc, .int .i64 x.m.cau, .int .i64 x.m.crd, .slice x.m.cba x.m.cbn x.m.cbc, .slice x.m.cpa x.m.cpn x.m.cpc, .slice x.m.cva x.m.cvn x.m.cvc, .int .i64 x.m.ro] rfl rfl 53 _ qz sMsg' rfl (by simp [Value.oneCell']) ?_)
    generalize (w1.alloc (.cells #[.int .i64 0, .int .i64 0, .int .i64 0, .int .i64 0, .int .i64 0, .slice none 0 0, .int .i64 0, .int .i64 0, .slice none 0 0, .slice none 0 0, .int .i64 0, .int .i64 0, .slice none 0 0, .int .i64 0, .int .i64 0, .slice none 0 0, .slice none 0 0, .slice none 0 0, .int .i64 0] 53)).setRow w1.heap.size #[.int .i64 x.m.fr, .int .i64 x.m.tt, .int .i64 x.m.ki, .int .i64 x.m.bau, .int .i64 x.m.bnu, .slice x.m.bta x.m.btn x.m.btc, .int .i64 x.m.hau, .int .i64 x.m.hrd, .slice x.m.hba x.m.hbn x.m.hbc, .slice x.m.hpa x.m.hpn x.m.hpc, .int .i64 x.m.sau, .int .i64 x.m.srd, .slice x.m.sda x.m.sdn x.m.sdc, .int .i64 x.m.cau, .int .i64 x.m.crd, .slice x.m.cba x.m.cbn x.m.cbc, .slice x.m.cpa x.m.cpn x.m.cpc, .slice x.m.cva x.m.cvn x.m.cvc, .int .i64 x.m.ro] = W4 at hAM qM zM ⊢
    have hB4 := hB1.trans (hAM.mono hB1.size)
    have hM4 := HX.out.2.1.below hAM
    have hC := check_any x.m x.ss x.bl x.pl x.cbl x.cpl x.vl W4 hM4.at'
    have hCe : checkF x.m (carriedF x.m x.ss x.bl x.pl x.cbl x.cpl x.vl) = checkF x.m x.car := rfl
    rw [hCe] at hC
    have HM4 : Hid (MAt W4 x) := hM4
    clear hM4 hCe qz
    generalize hMB : w1.heap.size = MB at qM hlt1 ⊢
    clear hMB
    go_wp2_with (refine wpList_load_row rfl 53 _ rfl MB rfl 53 #[.int .i64 x.m.fr, .int .i64 x.m.tt, .int .i64 x.m.ki, .int .i64 x.m.bau, .int .i64 x.m.bnu, .slice x.m.bta x.m.btn x.m.btc, .int .i64 x.m.hau, .int .i64 x.m.hrd, .slice x.m.hba x.m.hbn x.m.hbc, .slice x.m.hpa x.m.hpn x.m.hpc, .int .i64 x.m.sau, .int .i64 x.m.srd, .slice x.m.sda x.m.sdn x.m.sdc, .int .i64 x.m.cau, .int .i64 x.m.crd, .slice x.m.cba x.m.cbn x.m.cbc, .slice x.m.cpa x.m.cpn x.m.cpc, .slice x.m.cva x.m.cvn x.m.cvc, .int .i64 x.m.ro] (0, 0) _ qM Try.underlying53 rfl sMsg' ?_)
    refine hC.mono ?_
    rintro e w5 ⟨he, hb5⟩
    subst he
    dsimp only
    clear hC
    have q5 := (hb5.block _ (lt_of_heap qM)).trans qM
    have z5 := (hb5.block _ (lt_of_heap zM)).trans zM
    have hB5 := hB4.trans (hb5.mono hB4.size)
    have HM5 : Hid (MAt w5 x) := HM4.out.below hb5
    generalize hR : checkF x.m x.car = F at *
    have HR : Hid (checkF x.m x.car = F) := hR
    clear hR
    by_cases hF : F = 0
    · subst hF
      go_wp2_with (first | refine wpList_load_row rfl 53 _ rfl MB rfl 53 #[.int .i64 x.m.fr, .int .i64 x.m.tt, .int .i64 x.m.ki, .int .i64 x.m.bau, .int .i64 x.m.bnu, .slice x.m.bta x.m.btn x.m.btc, .int .i64 x.m.hau, .int .i64 x.m.hrd, .slice x.m.hba x.m.hbn x.m.hbc, .slice x.m.hpa x.m.hpn x.m.hpc, .int .i64 x.m.sau, .int .i64 x.m.srd, .slice x.m.sda x.m.sdn x.m.sdc, .int .i64 x.m.cau, .int .i64 x.m.crd, .slice x.m.cba x.m.cbn x.m.cbc, .slice x.m.cpa x.m.cpn x.m.cpc, .slice x.m.cva x.m.cvn x.m.cvc, .int .i64 x.m.ro] (0, 0) _ q5 Try.underlying53 rfl sMsg' ?_ | refine wpList_store_row rfl 53 _ _ rfl w.heap.size #[.int .i64 x.m.fr, .int .i64 x.m.tt, .int .i64 x.m.ki, .int .i64 x.m.bau, .int .i64 x.m.bnu, .slice x.m.bta x.m.btn x.m.btc, .int .i64 x.m.hau, .int .i64 x.m.hrd, .slice x.m.hba x.m.hbn x.m.hbc, .slice x.m.hpa x.m.hpn x.m.hpc, .int .i64 x.m.sau, .int .i64 x.m.srd, .slice x.m.sda x.m.sdn x.m.sdc, .int .i64 x.m.cau, .int .i64 x.m.crd, .slice x.m.cba x.m.cbn x.m.cbc, .slice x.m.cpa x.m.cpn x.m.cpc, .slice x.m.cva x.m.cvn x.m.cvc, .int .i64 x.m.ro] rfl rfl 53 _ z5 sMsg' rfl (by simp [Value.oneCell']) ?_)
      exact bodyPost_ret (v := .tuple #[.agg #[.int .i64 x.m.fr, .int .i64 x.m.tt, .int .i64 x.m.ki, .int .i64 x.m.bau, .int .i64 x.m.bnu, .slice x.m.bta x.m.btn x.m.btc, .int .i64 x.m.hau, .int .i64 x.m.hrd, .slice x.m.hba x.m.hbn x.m.hbc, .slice x.m.hpa x.m.hpn x.m.hpc, .int .i64 x.m.sau, .int .i64 x.m.srd, .slice x.m.sda x.m.sdn x.m.sdc, .int .i64 x.m.cau, .int .i64 x.m.crd, .slice x.m.cba x.m.cbn x.m.cbc, .slice x.m.cpa x.m.cpn x.m.cpc, .slice x.m.cva x.m.cvn x.m.cvc, .int .i64 x.m.ro], .int .i64 0]) (results_cell_slot (fn := Try.f29) (p := 2) (q := 3) (ty := 53) rfl _ _ w.heap.size 53 _ (0, 0) _ (.int .i64 0) ⟨rfl, rfl⟩ (setRow_heap _ _ _ _ _ _ z5) Try.underlying53 rfl sMsg') rfl ⟨.inr ⟨HX.out.1, x, HX.out.2.2.2, HM5.out.setRow HX.out.2.2.1 hsz, HX.out.2.2.1.mono (fun q hq => by omega), .inl ⟨HR.out, rfl⟩⟩, (Upd.setRow z5).below hB5 hB5.size (Nat.le_refl _)⟩
    · have HF : Hid (F ≠ 0) := hF
      go_wp2_with (refine wpList_store_row rfl 53 _ _ rfl w.heap.size #[.int .i64 0, .int .i64 0, .int .i64 0, .int .i64 0, .int .i64 0, .slice none 0 0, .int .i64 0, .int .i64 0, .slice none 0 0, .slice none 0 0, .int .i64 0, .int .i64 0, .slice none 0 0, .int .i64 0, .int .i64 0, .slice none 0 0, .slice none 0 0, .slice none 0 0, .int .i64 0] rfl rfl 53 _ z5 sMsg' rfl (by simp [Value.oneCell']) ?_)
      refine bodyPost_ret (v := .tuple #[.agg #[.int .i64 0, .int .i64 0, .int .i64 0, .int .i64 0, .int .i64 0, .slice none 0 0, .int .i64 0, .int .i64 0, .slice none 0 0, .slice none 0 0, .int .i64 0, .int .i64 0, .slice none 0 0, .int .i64 0, .int .i64 0, .slice none 0 0, .slice none 0 0, .slice none 0 0, .int .i64 0], .int .i64 F]) (results_cell_slot (fn := Try.f29) (p := 2) (q := 3) (ty := 53) rfl _ _ w.heap.size 53 _ (0, 0) _ (.int .i64 F) ⟨rfl, rfl⟩ (setRow_heap _ _ _ _ _ _ z5) Try.underlying53 rfl sMsg') rfl ⟨.inr ⟨HX.out.1, x, HX.out.2.2.2, HM5.out.setRow HX.out.2.2.1 hsz, HX.out.2.2.1.mono (fun q hq => by omega), .inr ⟨?_, ?_⟩⟩, (Upd.setRow z5).below hB5 hB5.size (Nat.le_refl _)⟩
      · rw [HR.out]; exact HF.out
      · rw [HR.out]
end Go.Proofs.Ytldlknmpkoebbaa

namespace Go.Proofs.Ytldlknmpkoebbaa
open Go.RowKit

set_option maxRecDepth 100000 in
theorem U8s.app {a b : List Int} (ha : U8s a) (hb : U8s b) : U8s (a ++ b) := fun x hx => (List.mem_append.1 hx).elim (ha x) (hb x)
set_option maxRecDepth 100000 in
theorem U8s.cons {a : Int} {b : List Int} (ha : 0 ≤ a ∧ a ≤ 255) (hb : U8s b) : U8s (a :: b) := fun x hx => by
  rcases List.mem_cons.1 hx with h | h
  · rw [h]; exact ha
  · exact hb x h
set_option maxRecDepth 100000 in
theorem U8s.nil : U8s [] := fun x hx => by cases hx
set_option maxRecDepth 100000 in
theorem U8s.take {a : List Int} (k : Nat) (ha : U8s a) : U8s (a.take k) := fun x hx => ha x (List.mem_of_mem_take hx)
set_option maxRecDepth 100000 in
theorem u8_rd3 {n : Int} (h : 1 ≤ n ∧ n ≤ 1048576) : U8s (rd3 n) := U8s.cons (by omega) (U8s.cons (by omega) (U8s.cons (by omega) U8s.nil))
set_option maxRecDepth 100000 in
theorem u8_flat (qs : List Part) (h : ∀ p ∈ qs, ∀ x ∈ p.bs, 0 ≤ x ∧ x ≤ 255) : U8s (flatB qs) := by
  induction qs with
  | nil => exact U8s.nil
  | cons p qs ih => exact U8s.app (h p (by simp)) (ih fun q hq => h q (by simp [hq]))
set_option maxRecDepth 100000 in
theorem u8_digs (qs : List Part) (hl : qs.length ≤ 255) (h : ∀ p ∈ qs, ∀ x ∈ p.bs, 0 ≤ x ∧ x ≤ 255) : U8s (digsB qs) := U8s.cons (by omega) (u8_flat qs h)
set_option maxRecDepth 100000 in
theorem u8_tb (s : ByteArray) : U8s (tb s) := fun x hx => by
  obtain ⟨b, _, rfl⟩ := List.mem_map.1 hx
  have := b.toNat_lt
  omega
set_option maxRecDepth 100000 in
theorem u8_txs (ss : List ByteArray) (h : ∀ s ∈ ss, s.size ≤ 20) : U8s (txsB ss) := by
  induction ss with
  | nil => exact U8s.nil
  | cons s ss ih =>
    have := h s (by simp)
    exact U8s.cons (by omega) (U8s.app (u8_tb s) (ih fun q hq => h q (by simp [hq])))
set_option maxRecDepth 100000 in
theorem u8_head {au rd : Int} {bl pl : List Part} (h : headerF au rd bl pl = 0) (hb : ∀ p ∈ bl, ∀ x ∈ p.bs, 0 ≤ x ∧ x ≤ 255) (hp : ∀ p ∈ pl, ∀ x ∈ p.bs, 0 ≤ x ∧ x ≤ 255) : U8s (headB au rd bl pl) := by
  obtain ⟨h1, h2, h3, h4, _, _⟩ := headerF_ok h
  exact U8s.app (U8s.app (U8s.app (U8s.cons (by omega) U8s.nil) (u8_rd3 h2)) (u8_digs bl (by omega) hb)) (u8_digs pl (by omega) hp)
set_option maxRecDepth 100000 in
/-- A message's bytes are bytes. -/
theorem u8_msg {x : MV} (h : checkF x.m x.car = 0) (hu : U8M x.bl x.pl x.cbl x.cpl x.ds) : U8s x.bytes := by
  obtain ⟨hf, ht, hc, _⟩ := checkF_ok h
  have hc' : carriedF x.m x.ss x.bl x.pl x.cbl x.cpl x.vl = 0 := hc
  have hk := carriedF_kind hc'
  refine U8s.app (U8s.cons (by omega) (U8s.cons (by omega) (U8s.cons (by omega) U8s.nil))) ?_
  rcases hk with k | k | k | k | k
  · rw [carried1 k] at hc'
    rw [bodyB1 k]
    obtain ⟨h1, h2, h3, h4⟩ := batchF_ok hc'
    exact U8s.app (U8s.app (U8s.app (U8s.cons (by omega) U8s.nil) (u8_rd3 h2)) (U8s.cons (by omega) U8s.nil)) (u8_txs _ fun s hs => (h4 s hs).2)
  · rw [carried2 k] at hc'
    rw [bodyB2 k]
    exact u8_head hc' hu.hb hu.hp
  · rw [carried3 k] at hc'
    rw [bodyB3 k]
    obtain ⟨h1, h2, _⟩ := slotF_ok hc'
    exact U8s.app (U8s.app (U8s.cons (by omega) U8s.nil) (u8_rd3 h2)) hu.sd
  · rw [carried4 k] at hc'
    rw [bodyB4 k]
    obtain ⟨h1, h2, h3, h4⟩ := certF_ok hc'
    exact U8s.app (U8s.app (u8_head h1 hu.cb hu.cp) (U8s.cons (by omega) U8s.nil)) (fun y hy => by have := h4 y hy; omega)
  · rw [carried5 k] at hc'
    rw [bodyB5 k]
    split at hc'
    · rename_i h9
      exact u8_rd3 h9
    · cases hc'
set_option maxRecDepth 100000 in
theorem msg_len {w : World} {x : MV} (hM : MAt w x) (h : checkF x.m x.car = 0) : 3 < x.bytes.length ∧ x.bytes.length ≤ 323 := by
  obtain ⟨_, _, hc, _⟩ := checkF_ok h
  have hc' : carriedF x.m x.ss x.bl x.pl x.cbl x.cpl x.vl = 0 := hc
  have hl := bodyB_le (ds := x.ds) hM.dn hc'
  have e : x.bytes.length = 3 + (bodyB x.m x.ss x.bl x.pl x.cbl x.cpl x.ds x.vl).length := by simp [MV.bytes, msgB]; omega
  have hp : 0 < (bodyB x.m x.ss x.bl x.pl x.cbl x.cpl x.ds x.vl).length := by
    rcases carriedF_kind hc' with k | k | k | k | k
    · rw [bodyB1 k]; simp [batchB]
    · rw [bodyB2 k]; simp [headB]
    · rw [bodyB3 k]; simp
    · rw [bodyB4 k]; simp [certB]; omega
    · rw [bodyB5 k]; simp [rd3]
  omega
set_option maxRecDepth 100000 in
/-- What is torn is told to be short. -/
theorem torn_read {w : World} {x : MV} (hM : MAt w x) (h : checkF x.m x.car = 0) (K : Nat) (hK : K < x.bytes.length) : readF (x.bytes.take K) = 5 := by
  obtain ⟨_, hlen⟩ := msg_len hM h
  obtain ⟨_, _, hc, he⟩ := checkF_ok h
  have hc' : carriedF x.m x.ss x.bl x.pl x.cbl x.cpl x.vl = 0 := hc
  have hk := carriedF_kind hc'
  have hS : mS (x.bytes, false) = ([], false) := by
    have := (parse_back x [] hM hc he).2
    rw [List.append_nil] at this
    exact this
  have hT : (mS (x.bytes.take K, false)).2 = true := by
    refine mS_torn (q := x.bytes.drop K) (fun e => ?_) ?_
    · have := congrArg List.length e
      rw [List.length_drop, List.length_nil] at this
      omega
    · rw [List.take_append_drop]; exact hS
  have hL : (x.bytes.take K).length ≤ 4000 := by rw [List.length_take]; omega
  rw [readF, if_neg (by omega)]
  by_cases hn : x.bytes.take K = []
  · rw [if_pos hn]
  · rw [if_neg hn]
    have hg : (x.bytes.take K).getD 0 0 = x.m.ki := by
      cases K with
      | zero => exact absurd (List.take_zero) hn
      | succ K => rfl
    rw [hg, if_neg (by omega), if_pos hT]
set_option maxRecDepth 100000 in
theorem dec_torn {w w' : World} {e : Ending} {bs : List Int} (h : DecIs w w' e bs) (hF : readF bs = 5) : e = .returned (.tuple #[.agg #[.int .i64 0, .int .i64 0, .int .i64 0, .int .i64 0, .int .i64 0, .slice none 0 0, .int .i64 0, .int .i64 0, .slice none 0 0, .slice none 0 0, .int .i64 0, .int .i64 0, .slice none 0 0, .int .i64 0, .int .i64 0, .slice none 0 0, .slice none 0 0, .slice none 0 0, .int .i64 0], .int .i64 5]) ∧ Below w.heap.size w w' := by
  rcases h.out with ⟨_, he⟩ | ⟨h0, _⟩
  · rw [hF] at he
    exact ⟨he, h.below⟩
  · rw [hF] at h0; cases h0
end Go.Proofs.Ytldlknmpkoebbaa

namespace Go.Proofs.Ytldlknmpkoebbaa
open Go.RowKit

set_option maxRecDepth 100000 in
theorem bsAt_c {ps qs : List Part} (h : Same ps qs) (k : Nat) : (partAt ps k).bs = (partAt qs k).bs := by
  have hk : (ps.map (·.bs))[k]? = (qs.map (·.bs))[k]? := by rw [h]
  simp only [List.getElem?_map] at hk
  simp only [partAt, List.getD]
  cases h1 : ps[k]? <;> cases h2 : qs[k]? <;> simp_all
set_option maxRecDepth 100000 in
theorem digTo1_c {ps qs : List Part} (h : Same ps qs) (k : Nat) : digTo1 ps k = digTo1 qs k := by
  induction k with
  | zero => rfl
  | succ k ih =>
    have e1 : digAt ps k = digAt qs k := by
      have e2 : twice ps k = twice qs k := by
        simp only [twice, bsAt_c h]
      rw [digAt, digAt, e2, bsAt_c h k]
    rw [digTo1, digTo1, ih, e1]
set_option maxRecDepth 100000 in
theorem digF_c {ps qs : List Part} (h : Same ps qs) : digF ps = digF qs := by
  rw [digF, digF, h.length, digTo1_c h]
set_option maxRecDepth 100000 in
theorem headerF_c {au rd : Int} {bl pl bl' pl' : List Part} (h1 : Same bl bl') (h2 : Same pl pl') : headerF au rd bl pl = headerF au rd bl' pl' := by
  rw [headerF, headerF, digF_c h1, digF_c h2, h1.length, h2.length]
set_option maxRecDepth 100000 in
theorem certF_c {au rd : Int} {bl pl bl' pl' : List Part} {vl : List Int} (h1 : Same bl bl') (h2 : Same pl pl') : certF au rd bl pl vl = certF au rd bl' pl' vl := by
  rw [certF, certF, headerF_c h1 h2]
set_option maxRecDepth 100000 in
set_option maxHeartbeats 1000000 in
/-- What is told of a message hangs on what it says. -/
theorem check_c {w w' : World} {x y : MV} (hx : MAt w x) (hy : MAt w' y) (h : y.c = x.c) : checkF y.m y.car = checkF x.m x.car := by
  simp only [MV.c, MC.mk.injEq] at h
  obtain ⟨e1, e2, e3, e4, e5, e6, e7, e8, e9, e10, e11, e12, e13, e14, e15, e16, e17, e18, e19⟩ := h
  have n1 : y.m.btn = x.m.btn := by rw [hy.at'.e1, hx.at'.e1, e6]
  have n2 : y.m.hbn = x.m.hbn := by rw [hy.at'.e2, hx.at'.e2]; exact Same.length e9
  have n3 : y.m.hpn = x.m.hpn := by rw [hy.at'.e3, hx.at'.e3]; exact Same.length e10
  have n4 : y.m.cbn = x.m.cbn := by rw [hy.at'.e4, hx.at'.e4]; exact Same.length e16
  have n5 : y.m.cpn = x.m.cpn := by rw [hy.at'.e5, hx.at'.e5]; exact Same.length e17
  have n6 : y.m.cvn = x.m.cvn := by rw [hy.at'.e6, hx.at'.e6, e18]
  have n7 : y.m.sdn = x.m.sdn := by rw [hy.dn, hx.dn, e13]
  have hH : headerF y.m.hau y.m.hrd y.bl y.pl = headerF x.m.hau x.m.hrd x.bl x.pl := by rw [e7, e8]; exact headerF_c e9 e10
  have hK : certF y.m.cau y.m.crd y.cbl y.cpl y.vl = certF x.m.cau x.m.crd x.cbl x.cpl x.vl := by rw [e14, e15, e18]; exact certF_c e16 e17
  have c1 : y.car = x.car := by
    show carriedF y.m y.ss y.bl y.pl y.cbl y.cpl y.vl = carriedF x.m x.ss x.bl x.pl x.cbl x.cpl x.vl
    rw [carriedF, carriedF, hH, hK, e3, e4, e5, e6, e11, e12, n7, e19]
  have hm : msgEmpty (strip y.m) = msgEmpty (strip x.m) := by
    rw [strip, strip, e3]
    by_cases k1 : x.m.ki = 1
    · rw [if_pos k1, if_pos k1]
      simp only [msgEmpty, e7, e8, e11, e12, e14, e15, e19, n2, n3, n4, n5, n6, n7]
    · rw [if_neg k1, if_neg k1]
      by_cases k2 : x.m.ki = 2
      · rw [if_pos k2, if_pos k2]
        simp only [msgEmpty, e4, e5, e11, e12, e14, e15, e19, n1, n4, n5, n6, n7]
      · rw [if_neg k2, if_neg k2]
        by_cases k3 : x.m.ki = 3
        · rw [if_pos k3, if_pos k3]
          simp only [msgEmpty, e4, e5, e7, e8, e14, e15, e19, n1, n2, n3, n4, n5, n6]
        · rw [if_neg k3, if_neg k3]
          by_cases k4 : x.m.ki = 4
          · rw [if_pos k4, if_pos k4]
            simp only [msgEmpty, e4, e5, e7, e8, e11, e12, e19, n1, n2, n3, n7]
          · rw [if_neg k4, if_neg k4]
            simp only [msgEmpty, e4, e5, e7, e8, e11, e12, e14, e15, n1, n2, n3, n4, n5, n6, n7]
  rw [checkF, checkF, e1, e2, c1, hm]
end Go.Proofs.Ytldlknmpkoebbaa

namespace Go.Proofs.Ytldlknmpkoebbaa
open Go.RowKit

set_option maxRecDepth 100000 in
theorem msg_first {x : MV} (hC : checkF x.m x.car = 0) (r : List Int) : x.bytes ++ r ≠ [] ∧ (x.bytes ++ r).getD 0 0 = x.m.ki ∧ 1 ≤ x.m.ki ∧ x.m.ki ≤ 5 := by
  obtain ⟨_, _, hc, _⟩ := checkF_ok hC
  have hc' : carriedF x.m x.ss x.bl x.pl x.cbl x.cpl x.vl = 0 := hc
  have hk := carriedF_kind hc'
  have e : x.bytes ++ r = x.m.ki :: (x.m.fr :: (x.m.tt :: (bodyB x.m x.ss x.bl x.pl x.cbl x.cpl x.ds x.vl ++ r))) := by simp [MV.bytes, msgB]
  rw [e]
  exact ⟨by simp, rfl, by omega, by omega⟩
set_option maxRecDepth 100000 in
/-- A message is decoded as it was encoded. -/
theorem dec_back {w0 w w' : World} {e : Ending} {x : MV} (hM : MAt w0 x) (hC : checkF x.m x.car = 0) (h : DecIs w w' e x.bytes) :
    ∃ y : MV, y.c = x.c ∧ MAt w' y ∧ HasM (fun q => w.heap.size ≤ q) y ∧ e = .returned (.tuple #[.agg #[.int .i64 y.m.fr, .int .i64 y.m.tt, .int .i64 y.m.ki, .int .i64 y.m.bau, .int .i64 y.m.bnu, .slice y.m.bta y.m.btn y.m.btc, .int .i64 y.m.hau, .int .i64 y.m.hrd, .slice y.m.hba y.m.hbn y.m.hbc, .slice y.m.hpa y.m.hpn y.m.hpc, .int .i64 y.m.sau, .int .i64 y.m.srd, .slice y.m.sda y.m.sdn y.m.sdc, .int .i64 y.m.cau, .int .i64 y.m.crd, .slice y.m.cba y.m.cbn y.m.cbc, .slice y.m.cpa y.m.cpn y.m.cpc, .slice y.m.cva y.m.cvn y.m.cvc, .int .i64 y.m.ro], .int .i64 0]) ∧ Below w.heap.size w w' := by
  obtain ⟨_, _, hc, he⟩ := checkF_ok hC
  obtain ⟨_, hlen⟩ := msg_len hM hC
  obtain ⟨f1, f2, f3, f4⟩ := msg_first hC []
  obtain ⟨p1, p2⟩ := parse_back x [] hM hc he
  rw [List.append_nil] at f1 f2 p1 p2
  have hR : readF x.bytes = 0 := by
    rw [readF, if_neg (by omega), if_neg f1, f2, if_neg (by omega), p2, if_neg (by simp), if_neg (by simp)]
  rcases h.out with ⟨h0, _⟩ | ⟨_, y, hy, hA, hH, hx⟩
  · exact absurd hR h0
  · have hyc : y.c = x.c := hy.trans p1
    have hk := (check_c hM hA hyc).trans hC
    rcases hx with ⟨_, he⟩ | ⟨h9, _⟩
    · exact ⟨y, hyc, hA, hH, he, h.below⟩
    · exact absurd hk h9
set_option maxRecDepth 100000 in
/-- With a byte more it is none. -/
theorem dec_more {w0 w w' : World} {e : Ending} {x : MV} {t : Int} (hM : MAt w0 x) (hC : checkF x.m x.car = 0) (h : DecIs w w' e (x.bytes ++ [t])) : e = .returned (.tuple #[.agg #[.int .i64 0, .int .i64 0, .int .i64 0, .int .i64 0, .int .i64 0, .slice none 0 0, .int .i64 0, .int .i64 0, .slice none 0 0, .slice none 0 0, .int .i64 0, .int .i64 0, .slice none 0 0, .int .i64 0, .int .i64 0, .slice none 0 0, .slice none 0 0, .slice none 0 0, .int .i64 0], .int .i64 4]) ∧ Below w.heap.size w w' := by
  obtain ⟨_, _, hc, he⟩ := checkF_ok hC
  obtain ⟨_, hlen⟩ := msg_len hM hC
  obtain ⟨f1, f2, f3, f4⟩ := msg_first hC [t]
  obtain ⟨p1, p2⟩ := parse_back x [t] hM hc he
  have hl : (x.bytes ++ [t]).length ≤ 4000 := by rw [List.length_append, List.length_singleton]; omega
  have hR : readF (x.bytes ++ [t]) = 4 := by
    rw [readF, if_neg (by omega), if_neg f1, f2, if_neg (by omega), p2, if_neg (by simp), if_pos (by simp)]
  rcases h.out with ⟨_, he⟩ | ⟨h0, _⟩
  · rw [hR] at he
    exact ⟨he, h.below⟩
  · rw [hR] at h0; cases h0
end Go.Proofs.Ytldlknmpkoebbaa

namespace Go.Proofs.Ytldlknmpkoebbaa
open Go.RowKit

set_option maxRecDepth 100000 in
theorem un_nx {n : Nat} {s : St} (h : (nx n s).2 = false) : s.1 = tT n s ++ (nx n s).1 ∧ (tT n s).length = n ∧ s.2 = false := by
  obtain ⟨l, sh⟩ := s
  have h' : tkS n l sh = false := h
  simp only [tkS, Bool.or_eq_false_iff, decide_eq_false_iff_not] at h'
  obtain ⟨rfl, hl⟩ := h'
  obtain ⟨a1, a2, a3⟩ := tk_ok (n := n) (l := l) (by omega)
  refine ⟨?_, ?_, rfl⟩
  · show l = tkT n l false ++ tkL n l false
    rw [a1, a2, List.take_append_drop]
  · show (tkT n l false).length = n
    rw [a1, List.length_take]; omega
set_option maxRecDepth 100000 in
theorem u8_nx {n : Nat} {s : St} (h : U8s s.1) : U8s (nx n s).1 := U8s.tkL h
set_option maxRecDepth 100000 in
theorem u8_tT {n : Nat} {s : St} (h : U8s s.1) : U8s (tT n s) := U8s.tkT h
set_option maxRecDepth 100000 in
theorem un_one {s : St} (h : (nx 1 s).2 = false) : s.1 = nB 1 s :: (nx 1 s).1 ∧ s.2 = false := by
  obtain ⟨h1, h2, h3⟩ := un_nx h
  refine ⟨?_, h3⟩
  match ht : tT 1 s, h2 with
  | [a], _ =>
    have hn : nB 1 s = a := by show numB (tT 1 s) = a; rw [ht]; simp [numB]
    rw [ht] at h1
    rw [hn]
    exact h1
set_option maxRecDepth 100000 in
theorem un_three {s : St} (hu : U8s s.1) (h : (nx 3 s).2 = false) : s.1 = rd3 (nB 3 s) ++ (nx 3 s).1 ∧ s.2 = false := by
  obtain ⟨h1, h2, h3⟩ := un_nx h
  have hu3 := u8_tT (n := 3) hu
  refine ⟨?_, h3⟩
  match ht : tT 3 s, h2 with
  | [a, b, c], _ =>
    rw [ht] at h1 hu3
    have ha := hu3 a (by simp)
    have hb := hu3 b (by simp)
    have hc := hu3 c (by simp)
    have hn : nB 3 s = 65536 * a + 256 * b + c := by
      show numB (tT 3 s) = _
      rw [ht]
      simp [numB]
      omega
    have e : rd3 (nB 3 s) = [a, b, c] := by
      rw [hn]
      simp only [rd3, List.cons.injEq, and_true]
      refine ⟨?_, ?_, ?_⟩ <;> omega
    rw [e]
    exact h1
set_option maxRecDepth 100000 in
theorem un_dg {s : St} (k : Nat) (h : (dgL s.1 s.2 k).2 = false) : s.1 = (dgD s.1 s.2 k).flatten ++ (dgL s.1 s.2 k).1 ∧ (dgD s.1 s.2 k).length = k ∧ s.2 = false := by
  induction k with
  | zero => exact ⟨rfl, rfl, h⟩
  | succ k ih =>
    have h1 : (nx 32 (dgL s.1 s.2 k)).2 = false := h
    obtain ⟨e1, _, e3⟩ := un_nx h1
    obtain ⟨i1, i2, i3⟩ := ih e3
    refine ⟨?_, ?_, i3⟩
    · show s.1 = (dgD s.1 s.2 k ++ [tT 32 (dgL s.1 s.2 k)]).flatten ++ (nx 32 (dgL s.1 s.2 k)).1
      rw [List.flatten_append, List.flatten_singleton, List.append_assoc, ← e1]
      exact i1
    · show (dgD s.1 s.2 k ++ [tkT 32 (dgL s.1 s.2 k).1 (dgL s.1 s.2 k).2]).length = k + 1
      rw [List.length_append, i2]; rfl
set_option maxRecDepth 100000 in
theorem un_dgs {s : St} (hu : U8s s.1) (h : (dgS s).2 = false) : s.1 = ((dgs s).length : Int) :: ((dgs s).flatten ++ (dgS s).1) ∧ s.2 = false := by
  obtain ⟨d1, d2, d3⟩ := un_dg (s := nx 1 s) (dN s.1 s.2) h
  obtain ⟨e1, e3⟩ := un_one d3
  refine ⟨?_, e3⟩
  have hb : 0 ≤ nB 1 s := by
    have := hu (nB 1 s) (by rw [e1]; simp)
    omega
  have hN : ((dgs s).length : Int) = nB 1 s := by
    have e : (dgs s).length = (nB 1 s).toNat := d2
    rw [e]; omega
  rw [hN]
  have e : (nx 1 s).1 = (dgs s).flatten ++ (dgS s).1 := d1
  rw [← e]
  exact e1
set_option maxRecDepth 100000 in
theorem u8_dgS {s : St} (hu : U8s s.1) (h : (dgS s).2 = false) : U8s (dgS s).1 := fun x hx => hu x (by rw [(un_dgs hu h).1]; simp [hx])
set_option maxRecDepth 100000 in
theorem un_nL {s : St} (k : Nat) (h : (nL s k).2 = false) : s.1 = nV s k ++ (nL s k).1 ∧ (nV s k).length = k ∧ s.2 = false := by
  induction k with
  | zero => exact ⟨rfl, rfl, h⟩
  | succ k ih =>
    have h1 : (nx 1 (nL s k)).2 = false := h
    obtain ⟨e1, e3⟩ := un_one h1
    obtain ⟨i1, i2, i3⟩ := ih e3
    refine ⟨?_, ?_, i3⟩
    · show s.1 = (nV s k ++ [nB 1 (nL s k)]) ++ (nx 1 (nL s k)).1
      rw [List.append_assoc, List.singleton_append, ← e1]
      exact i1
    · show (nV s k ++ [nB 1 (nL s k)]).length = k + 1
      rw [List.length_append, i2]; rfl
set_option maxRecDepth 100000 in
theorem tb_bstr {l : List Int} (h : U8s l) : tb (bstr l) = l := by
  rw [tb, bstr_data, List.map_map]
  conv => rhs; rw [← List.map_id l]
  refine List.map_congr_left fun x hx => ?_
  have := h x hx
  simp
  omega
set_option maxRecDepth 100000 in
theorem un_bL {s : St} (hu : U8s s.1) (k : Nat) (h : (bL s k).2 = false) : s.1 = txsB (bT s k) ++ (bL s k).1 ∧ (bT s k).length = k ∧ s.2 = false ∧ U8s (bL s k).1 := by
  induction k with
  | zero => exact ⟨rfl, rfl, h, hu⟩
  | succ k ih =>
    have h1 : (nx (nB 1 (bL s k)).toNat (nx 1 (bL s k))).2 = false := h
    obtain ⟨e1, e2, e3⟩ := un_nx h1
    obtain ⟨f1, f3⟩ := un_one e3
    obtain ⟨i1, i2, i3, i4⟩ := ih f3
    have hb : 0 ≤ nB 1 (bL s k) := by
      have := i4 (nB 1 (bL s k)) (by rw [f1]; simp)
      omega
    refine ⟨?_, ?_, i3, u8_nx (u8_nx i4)⟩
    · show s.1 = txsB (bT s k ++ [bstr (tT (nB 1 (bL s k)).toNat (nx 1 (bL s k)))]) ++ (nx (nB 1 (bL s k)).toNat (nx 1 (bL s k))).1
      rw [txsB_snoc, bstr_size, tb_bstr (u8_tT (u8_nx i4)), e2, List.append_assoc, List.cons_append, ← e1, Int.toNat_of_nonneg hb, ← f1]
      exact i1
    · show (bT s k ++ [bstr (tT (nB 1 (bL s k)).toNat (nx 1 (bL s k)))]).length = k + 1
      rw [List.length_append, i2]; rfl
set_option maxRecDepth 100000 in
theorem flat_c {qs : List Part} {l : List (List Int)} (h : qs.map (·.bs) = l) : digsB qs = (l.length : Int) :: l.flatten := by
  subst h
  rw [digsB, List.length_map]
  congr 1
  induction qs with
  | nil => rfl
  | cons p qs ih => simp [flatB, ih]
set_option maxRecDepth 100000 in
set_option maxHeartbeats 1000000 in
/-- No message has two forms. -/
theorem un_msg {y : MV} {bs : List Int} (hC : checkF y.m y.car = 0) (hu : U8s bs) (hS : mS (bs, false) = ([], false)) (hc : y.c = pM (bs, false)) : y.bytes = bs := by
  have hS2 : (mS (bs, false)).2 = false := by rw [hS]
  obtain ⟨s, hs⟩ : ∃ s : St, (bs, false) = s := ⟨_, rfl⟩
  have hb : bs = s.1 := by rw [← hs]
  rw [hs] at hS hS2 hc
  rw [hb] at hu ⊢
  clear hs hb
  have hB : y.bytes = y.m.ki :: y.m.fr :: y.m.tt :: bodyB y.m y.ss y.bl y.pl y.cbl y.cpl y.ds y.vl := rfl
  rw [hB]
  by_cases k1 : nB 1 s = 1
  · rw [pM, if_pos k1] at hc
    rw [mS, if_pos k1] at hS hS2
    simp only [MV.c, MC.mk.injEq] at hc
    obtain ⟨e1, e2, e3, e4, e5, e6, _⟩ := hc
    have hu' : U8s (nx 1 (bS3 (nx 1 (nx 1 (nx 1 s))))).1 := u8_nx (u8_nx (u8_nx (u8_nx (u8_nx (u8_nx hu)))))
    obtain ⟨a1, a2, a3, _⟩ := un_bL hu' _ hS2
    obtain ⟨b1, b3⟩ := un_one a3
    obtain ⟨c1, c3⟩ := un_three (s := nx 1 (nx 1 (nx 1 (nx 1 s)))) (u8_nx (u8_nx (u8_nx (u8_nx hu)))) b3
    obtain ⟨d1, d3⟩ := un_one c3
    obtain ⟨f1, f3⟩ := un_one d3
    obtain ⟨g1, g3⟩ := un_one f3
    obtain ⟨i1, i3⟩ := un_one g3
    have hb0 : 0 ≤ nB 1 (bS3 (nx 1 (nx 1 (nx 1 s)))) := by
      have := (show U8s (bS3 (nx 1 (nx 1 (nx 1 s)))).1 from u8_nx (u8_nx (u8_nx (u8_nx (u8_nx hu))))) (nB 1 (bS3 (nx 1 (nx 1 (nx 1 s))))) (by rw [b1]; simp)
      omega
    have hN : (y.ss.length : Int) = nB 1 (bS3 (nx 1 (nx 1 (nx 1 s)))) := by
      rw [e6, a2]
      show (((nB 1 (bS3 (nx 1 (nx 1 (nx 1 s))))).toNat : Nat) : Int) = _
      omega
    rw [bodyB1 (e3.trans k1), batchB, hN, e3, e1, e2, e4, e5, e6]
    rw [i1, g1, f1, d1, c1]
    have b1' : (nx 3 (nx 1 (nx 1 (nx 1 (nx 1 s))))).1 = nB 1 (bS3 (nx 1 (nx 1 (nx 1 s)))) :: (nx 1 (bS3 (nx 1 (nx 1 (nx 1 s))))).1 := b1
    rw [b1', a1, hS]
    simp
  · by_cases k2 : nB 1 s = 2
    · rw [pM, if_neg k1, if_pos k2] at hc
      rw [mS, if_neg k1, if_pos k2] at hS hS2
      simp only [MV.c, MC.mk.injEq] at hc
      obtain ⟨e1, e2, e3, _, _, _, e7, e8, e9, e10, _⟩ := hc
      have hu3 : U8s (nx 3 (nx 1 (nx 1 (nx 1 (nx 1 s))))).1 := u8_nx (u8_nx (u8_nx (u8_nx (u8_nx hu))))
      obtain ⟨x1, x3⟩ := un_dgs (fun z hz => by
        have h9 : (dgS (nx 3 (nx 1 (nx 1 (nx 1 (nx 1 s)))))).2 = false := (dgS_ext [] hS2).2
        exact u8_dgS hu3 h9 z hz) hS2
      obtain ⟨y1, y3⟩ := un_dgs hu3 x3
      obtain ⟨c1, c3⟩ := un_three (u8_nx (u8_nx (u8_nx (u8_nx hu)))) y3
      obtain ⟨d1, d3⟩ := un_one c3
      obtain ⟨f1, f3⟩ := un_one d3
      obtain ⟨g1, g3⟩ := un_one f3
      obtain ⟨i1, i3⟩ := un_one g3
      rw [bodyB2 (e3.trans k2), headB, flat_c e9, flat_c e10, e3, e1, e2, e7, e8]
      rw [i1, g1, f1, d1, c1, y1, x1, hS]
      simp
    · by_cases k3 : nB 1 s = 3
      · rw [pM, if_neg k1, if_neg k2, if_pos k3] at hc
        rw [mS, if_neg k1, if_neg k2, if_pos k3] at hS hS2
        simp only [MV.c, MC.mk.injEq] at hc
        obtain ⟨e1, e2, e3, _, _, _, _, _, _, _, e11, e12, e13, _⟩ := hc
        obtain ⟨x1, _, x3⟩ := un_nx hS2
        obtain ⟨c1, c3⟩ := un_three (u8_nx (u8_nx (u8_nx (u8_nx hu)))) x3
        obtain ⟨d1, d3⟩ := un_one c3
        obtain ⟨f1, f3⟩ := un_one d3
        obtain ⟨g1, g3⟩ := un_one f3
        obtain ⟨i1, i3⟩ := un_one g3
        rw [bodyB3 (e3.trans k3), e3, e1, e2, e11, e12, e13]
        rw [i1, g1, f1, d1, c1, x1, hS]
        simp
      · by_cases k4 : nB 1 s = 4
        · rw [pM, if_neg k1, if_neg k2, if_neg k3, if_pos k4] at hc
          rw [mS, if_neg k1, if_neg k2, if_neg k3, if_pos k4] at hS hS2
          simp only [MV.c, MC.mk.injEq] at hc
          obtain ⟨e1, e2, e3, _, _, _, _, _, _, _, _, _, _, e14, e15, e16, e17, e18, _⟩ := hc
          obtain ⟨a1, a2, a3⟩ := un_nL _ hS2
          obtain ⟨b1, b3⟩ := un_one a3
          have hu3 : U8s (nx 3 (nx 1 (nx 1 (nx 1 (nx 1 s))))).1 := u8_nx (u8_nx (u8_nx (u8_nx (u8_nx hu))))
          have b4 : (dgS (dgS (nx 3 (nx 1 (nx 1 (nx 1 (nx 1 s))))))).2 = false := b3
          have b5 : (dgS (nx 3 (nx 1 (nx 1 (nx 1 (nx 1 s)))))).2 = false := (dgS_ext [] b4).2
          have hu4 := u8_dgS hu3 b5
          have hu5 := u8_dgS hu4 b4
          obtain ⟨x1, x3⟩ := un_dgs hu4 b4
          obtain ⟨y1, y3⟩ := un_dgs hu3 x3
          obtain ⟨c1, c3⟩ := un_three (u8_nx (u8_nx (u8_nx (u8_nx hu)))) y3
          obtain ⟨d1, d3⟩ := un_one c3
          obtain ⟨f1, f3⟩ := un_one d3
          obtain ⟨g1, g3⟩ := un_one f3
          obtain ⟨i1, i3⟩ := un_one g3
          have b1' : (dgS (dgS (nx 3 (nx 1 (nx 1 (nx 1 (nx 1 s))))))).1 = nB 1 (hS4 (nx 1 (nx 1 (nx 1 s)))) :: (nx 1 (hS4 (nx 1 (nx 1 (nx 1 s))))).1 := b1
          have hb0 : 0 ≤ nB 1 (hS4 (nx 1 (nx 1 (nx 1 s)))) := by
            have := hu5 (nB 1 (hS4 (nx 1 (nx 1 (nx 1 s))))) (by rw [b1']; simp)
            omega
          have hN : (y.vl.length : Int) = nB 1 (hS4 (nx 1 (nx 1 (nx 1 s)))) := by
            rw [e18, a2]
            show (((nB 1 (hS4 (nx 1 (nx 1 (nx 1 s))))).toNat : Nat) : Int) = _
            omega
          rw [bodyB4 (e3.trans k4), certB, headB, flat_c e16, flat_c e17, hN, e3, e1, e2, e14, e15, e18]
          rw [i1, g1, f1, d1, c1, y1, x1, b1', a1, hS]
          simp
        · rw [pM, if_neg k1, if_neg k2, if_neg k3, if_neg k4] at hc
          rw [mS, if_neg k1, if_neg k2, if_neg k3, if_neg k4] at hS hS2
          simp only [MV.c, MC.mk.injEq] at hc
          obtain ⟨e1, e2, e3, _, _, _, _, _, _, _, _, _, _, _, _, _, _, _, e19⟩ := hc
          obtain ⟨c1, c3⟩ := un_three (u8_nx (u8_nx (u8_nx hu))) hS2
          obtain ⟨f1, f3⟩ := un_one c3
          obtain ⟨g1, g3⟩ := un_one f3
          obtain ⟨i1, i3⟩ := un_one g3
          have k5 : y.m.ki = 5 := by
            obtain ⟨_, _, h9, _⟩ := checkF_ok hC
            have h9' : carriedF y.m y.ss y.bl y.pl y.cbl y.cpl y.vl = 0 := h9
            have := carriedF_kind h9'
            omega
          rw [bodyB5 k5, e3, e1, e2, e19]
          rw [i1, g1, f1, c1, hS]
          simp
end Go.Proofs.Ytldlknmpkoebbaa

namespace Go.Proofs.Ytldlknmpkoebbaa
open Go.RowKit

set_option maxRecDepth 100000 in
theorem wpList_load_row_w {ops : Array Oper} {rest : List Oper} {o : Oper} {a : Act} {w : World} {Q : Exit → Act → World → Prop} (hw : Region.wanted o (yielded ops a.tmps) = true) (ty : TypeId) (x : Operand) (ho : o.op = .load ty x)
    (g : Nat) (hx : a.eval x = .pointer (some ⟨g, 0, none⟩)) (t : TypeId) (cs : Array Value) (fr : Nat × Nat) (d : TypeDesc) (hg : w.heap[g]? = some (.cells cs t fr))
    (hu : Try.prog.underlying ty = some d) (hd : (match d with | .struct _ | .array _ _ => true | _ => false) = true) (hi : (Try.prog.info? ty).map (·.size) = some cs.size)
    (h : wpList Try.prog ops Q rest (a.put o.dst (.agg cs)) w) : wpList Try.prog ops Q (o :: rest) a w := by
  refine wpList_step fun K hK => ?_
  rw [if_pos hw]
  exact wp_load_row ty x ho g hx t cs fr d hg hu (by cases d <;> first | exact hd | rfl) hi (hK _ _ h)
set_option maxRecDepth 100000 in
/-- A struct that is loaded as a row: what the operation answers. -/
theorem run_load_row {o : Oper} {a : Act} {w : World} (ty : TypeId) (x : Operand) (ho : o.op = .load ty x)
    (g : Nat) (hx : a.eval x = .pointer (some ⟨g, 0, none⟩)) (t : TypeId) (cs : Array Value) (fr : Nat × Nat) (d : TypeDesc) (hg : w.heap[g]? = some (.cells cs t fr))
    (hu : Try.prog.underlying ty = some d) (hd : (match d with | .struct _ | .array _ _ => true | _ => false) = true) (hi : (Try.prog.info? ty).map (·.size) = some cs.size) :
    (execOp a.eval o).run Try.prog w = .ok (.value (.agg cs)) w := by
  unfold execOp
  simp only [ho, hx, Instr.loadAt, Instr.sureAddr, Sem.run_bind, Sem.run_pure, Result.andThen_ok, run_loadVar_row w g t ty cs fr d hg hu (by cases d <;> first | exact hd | rfl) hi]
end Go.Proofs.Ytldlknmpkoebbaa
