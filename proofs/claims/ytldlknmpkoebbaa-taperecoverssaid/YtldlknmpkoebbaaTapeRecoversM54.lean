/- sheaveskeep.some: a digest of raw numbers. -/
import Derived.Test.YtldlknmpkoebbaaTChk
import Derived.Test.YtldlknmpkoebbaaTapeRecoversM30
import Derived.Test.YtldlknmpkoebbaaTapeRecoversM48
import Derived.Deep.CutRange
import Derived.Deep.DeepCutAuto
import Derived.Test.YtldlknmpkoebbaaBase
import Derived.Test.YtldlknmpkoebbaaSx
import Derived.Laws.Strings
import Derived.Test.YtldlknmpkoebbaaTapeRecoversM6
import Derived.Test.YtldlknmpkoebbaaTapeRecoversM36
import Derived.Test.YtldlknmpkoebbaaTapeRecoversM0
import Derived.Shelf.Abstract
import Derived.Deep.RegionHeld3
import Derived.Test.YtldlknmpkoebbaaTapeRecoversM18
import Derived.Test.YtldlknmpkoebbaaApp
namespace Go.Proofs.Ytldlknmpkoebbaa
open Go.RowKit

set_option maxRecDepth 100000 in
theorem getD_memT {l : List Int} {k : Nat} (h : k < l.length) : l.getD k 0 ∈ l := by
  have e : l.getD k 0 = l[k] := by simp [List.getD, h]
  rw [e]
  exact List.getElem_mem h
/-- No record begins these bytes. -/
def noRec (bs : List Int) : Prop := ∀ (w0 : World) (x : MV) (r : List Int), MAt w0 x → IsRec x → bs ≠ x.onTape ++ r
set_option maxRecDepth 100000 in
theorem onTape_form {bs : List Int} {x : MV} {r : List Int} (h : bs = x.onTape ++ r) : bs.getD 0 0 = (x.bytes.length : Int) / 256 ∧ bs.getD 1 0 = (x.bytes.length : Int) % 256 ∧ bs.length = 2 + x.bytes.length + r.length ∧ (bs.drop 2).take x.bytes.length = x.bytes := by
  subst h
  refine ⟨rfl, rfl, by simp [MV.onTape]; omega, ?_⟩
  simp [MV.onTape]
set_option maxRecDepth 100000 in
theorem dec_fixT {w w' : World} {e : Ending} {bs : List Int} (h : DecIs w w' e bs) (hu : U8s bs) :
    (∃ F : Int, F ≠ 0 ∧ e = .returned (.tuple #[.agg #[.int .i64 0, .int .i64 0, .int .i64 0, .int .i64 0, .int .i64 0, .slice none 0 0, .int .i64 0, .int .i64 0, .slice none 0 0, .slice none 0 0, .int .i64 0, .int .i64 0, .slice none 0 0, .int .i64 0, .int .i64 0, .slice none 0 0, .slice none 0 0, .slice none 0 0, .int .i64 0], .int .i64 F])) ∨ ∃ y : MV, MAt w' y ∧ HasM (fun q => w.heap.size ≤ q) y ∧ checkF y.m y.car = 0 ∧ y.bytes = bs ∧ e = .returned (.tuple #[.agg #[.int .i64 y.m.fr, .int .i64 y.m.tt, .int .i64 y.m.ki, .int .i64 y.m.bau, .int .i64 y.m.bnu, .slice y.m.bta y.m.btn y.m.btc, .int .i64 y.m.hau, .int .i64 y.m.hrd, .slice y.m.hba y.m.hbn y.m.hbc, .slice y.m.hpa y.m.hpn y.m.hpc, .int .i64 y.m.sau, .int .i64 y.m.srd, .slice y.m.sda y.m.sdn y.m.sdc, .int .i64 y.m.cau, .int .i64 y.m.crd, .slice y.m.cba y.m.cbn y.m.cbc, .slice y.m.cpa y.m.cpn y.m.cpc, .slice y.m.cva y.m.cvn y.m.cvc, .int .i64 y.m.ro], .int .i64 0]) := by
  rcases h.out with ⟨h0, he⟩ | ⟨h0, y, hy, hA, hH, hx⟩
  · exact .inl ⟨_, h0, he⟩
  · rcases hx with ⟨hC, he⟩ | ⟨hC, he⟩
    · refine .inr ⟨y, hA, hH, hC, ?_, he⟩
      have hS : mS (bs, false) = ([], false) := by
        unfold readF at h0
        split at h0
        · cases h0
        · split at h0
          · cases h0
          · split at h0
            · cases h0
            · split at h0
              · cases h0
              · rename_i h9
                split at h0
                · cases h0
                · rename_i h8
                  refine Prod.ext ?_ ?_
                  · exact Decidable.not_not.1 h8
                  · exact eq_false_of_ne_true h9
      exact un_msg hC hu hS hy
    · exact .inl ⟨_, hC, he⟩
set_option maxRecDepth 100000 in
/-- Records of the same bytes say the same. -/
theorem same_c {w w0 : World} {x y : MV} (hx : MAt w x) (hy : MAt w0 y) (cx : checkF x.m x.car = 0) (cy : checkF y.m y.car = 0) (h : y.bytes = x.bytes) : y.c = x.c := by
  have px := (parse_back x [] hx (checkF_ok cx).2.2.1 (checkF_ok cx).2.2.2).1
  have py := (parse_back y [] hy (checkF_ok cy).2.2.1 (checkF_ok cy).2.2.2).1
  rw [← px, ← py, h]
set_option maxRecDepth 100000 in
theorem rec_of {y : MV} (cy : checkF y.m y.car = 0) (h : recF y.m 0 = 0) : IsRec y := by
  obtain ⟨_, _, h1, h2⟩ := checkF_ok cy
  rw [recF, if_neg (by simp)] at h
  split at h
  · cases h
  · rename_i h9
    exact ⟨h1, h2, by omega, by omega, by omega⟩
set_option maxRecDepth 100000 in
theorem recF_of {y : MV} (h : IsRec y) : recF y.m 0 = 0 := by
  rw [recF, if_neg (by simp), if_neg]
  rintro (h9 | h9 | h9)
  · exact h9 h.fr
  · exact h9 h.tt
  · exact h.ki h9
set_option maxRecDepth 100000 in
theorem recF_c {x y : MV} (h : y.c = x.c) : recF y.m 0 = recF x.m 0 := by
  simp only [MV.c, MC.mk.injEq] at h
  rw [recF, recF, h.1, h.2.1, h.2.2.1]
structure FirstIs (w w' : World) (e : Ending) (bs : List Int) : Prop where
  out : (e = .returned (.tuple #[.agg #[.int .i64 0, .int .i64 0, .int .i64 0, .int .i64 0, .int .i64 0, .slice none 0 0, .int .i64 0, .int .i64 0, .slice none 0 0, .slice none 0 0, .int .i64 0, .int .i64 0, .slice none 0 0, .int .i64 0, .int .i64 0, .slice none 0 0, .slice none 0 0, .slice none 0 0, .int .i64 0], .int .i64 0]) ∧ noRec bs) ∨ ∃ (y : MV) (r : List Int), bs = y.onTape ++ r ∧ MAt w' y ∧ HasM (fun q => w.heap.size ≤ q) y ∧ IsRec y ∧ e = .returned (.tuple #[.agg #[.int .i64 y.m.fr, .int .i64 y.m.tt, .int .i64 y.m.ki, .int .i64 y.m.bau, .int .i64 y.m.bnu, .slice y.m.bta y.m.btn y.m.btc, .int .i64 y.m.hau, .int .i64 y.m.hrd, .slice y.m.hba y.m.hbn y.m.hbc, .slice y.m.hpa y.m.hpn y.m.hpc, .int .i64 y.m.sau, .int .i64 y.m.srd, .slice y.m.sda y.m.sdn y.m.sdc, .int .i64 y.m.cau, .int .i64 y.m.crd, .slice y.m.cba y.m.cbn y.m.cbc, .slice y.m.cpa y.m.cpn y.m.cpc, .slice y.m.cva y.m.cvn y.m.cvc, .int .i64 y.m.ro], .int .i64 (y.onTape.length : Int)])
  below : Below w.heap.size w w'
set_option maxRecDepth 100000 in
set_option maxHeartbeats 1500000 in
theorem first_any (bs : List Int) (sa : Option Addr) (n cap : Nat) (w : World) (hn : n = bs.length) (hs : SliceAt w sa cap bs) (hu : U8s bs) (hl : bs.length ≤ 400000) :
    Calls Try.prog 19 #[.slice sa n cap] w fun e w' => FirstIs w w' e bs := by
  have hA : Below w.heap.size w (w.alloc (.cells #[.int .i64 0, .int .i64 0, .int .i64 0, .int .i64 0, .int .i64 0, .slice none 0 0, .int .i64 0, .int .i64 0, .slice none 0 0, .slice none 0 0, .int .i64 0, .int .i64 0, .slice none 0 0, .int .i64 0, .int .i64 0, .slice none 0 0, .slice none 0 0, .slice none 0 0, .int .i64 0] 53)) := (Below.refl _ _).alloc (Nat.le_refl _) _
  have q0 := heap_alloc_new w (.cells #[.int .i64 0, .int .i64 0, .int .i64 0, .int .i64 0, .int .i64 0, .slice none 0 0, .int .i64 0, .int .i64 0, .slice none 0 0, .slice none 0 0, .int .i64 0, .int .i64 0, .slice none 0 0, .int .i64 0, .int .i64 0, .slice none 0 0, .slice none 0 0, .slice none 0 0, .int .i64 0] 53)
  by_cases h2 : n < 2
  · have hNo : Hid (noRec bs) := by
      show noRec bs
      intro w0 x r _ _ e
      have := (onTape_form e).2.2.1
      omega
    have h2I : (n : Int) < 2 := by omega
    clear hs hu hn hl
    go_enter Try.func19, Try.ntmps19
    go_upto_region 2 with fail
    generalize w.alloc (.cells #[.int .i64 0, .int .i64 0, .int .i64 0, .int .i64 0, .int .i64 0, .slice none 0 0, .int .i64 0, .int .i64 0, .slice none 0 0, .slice none 0 0, .int .i64 0, .int .i64 0, .slice none 0 0, .int .i64 0, .int .i64 0, .slice none 0 0, .slice none 0 0, .slice none 0 0, .int .i64 0] 53) = W0 at hA q0 ⊢
    go_wp2_with (refine wpList_store_row rfl 53 _ _ rfl w.heap.size #[.int .i64 0, .int .i64 0, .int .i64 0, .int .i64 0, .int .i64 0, .slice none 0 0, .int .i64 0, .int .i64 0, .slice none 0 0, .slice none 0 0, .int .i64 0, .int .i64 0, .slice none 0 0, .int .i64 0, .int .i64 0, .slice none 0 0, .slice none 0 0, .slice none 0 0, .int .i64 0] rfl rfl 53 _ q0 sMsg' rfl (by simp [Value.oneCell']) ?_)
    exact bodyPost_ret (v := .tuple #[.agg #[.int .i64 0, .int .i64 0, .int .i64 0, .int .i64 0, .int .i64 0, .slice none 0 0, .int .i64 0, .int .i64 0, .slice none 0 0, .slice none 0 0, .int .i64 0, .int .i64 0, .slice none 0 0, .int .i64 0, .int .i64 0, .slice none 0 0, .slice none 0 0, .slice none 0 0, .int .i64 0], .int .i64 0]) (results_cell_slot (fn := Try.f19) (p := 2) (q := 3) (ty := 53) rfl _ _ w.heap.size 53 _ (0, 0) _ (.int .i64 0) ⟨rfl, rfl⟩ (setRow_heap _ _ _ _ _ _ q0) Try.underlying53 rfl sMsg') rfl ⟨.inl ⟨rfl, hNo.out⟩, (Upd.setRow q0).below hA hA.size (Nat.le_refl _)⟩
  · obtain ⟨b0, hb0⟩ : ∃ b, bs.getD 0 0 = b := ⟨_, rfl⟩
    obtain ⟨b1, hb1⟩ : ∃ b, bs.getD 1 0 = b := ⟨_, rfl⟩
    obtain ⟨sb, so, rfl, hc⟩ : ∃ sb so, sa = some ⟨sb, so, none⟩ ∧ ∀ j, j < bs.length → w.cell? ⟨sb, so + j, none⟩ = some (.int .u8 (bs.getD j 0)) := by
      rcases hs.bytes with h | h
      · subst h; simp at hn; omega
      · exact h
    have c0 := hc 0 (by omega)
    have c1 := hc 1 (by omega)
    rw [hb0] at c0
    rw [hb1] at c1
    have h2I : ¬ ((n : Int) < 2) := by omega
    have hi0 : (0 : Int) < n := by omega
    have hi1 : (1 : Int) < n := by omega
    go_enter Try.func19, Try.ntmps19
    go_upto_region 3 with fail
    have d0 : (w.alloc (.cells #[.int .i64 0, .int .i64 0, .int .i64 0, .int .i64 0, .int .i64 0, .slice none 0 0, .int .i64 0, .int .i64 0, .slice none 0 0, .slice none 0 0, .int .i64 0, .int .i64 0, .slice none 0 0, .int .i64 0, .int .i64 0, .slice none 0 0, .slice none 0 0, .slice none 0 0, .int .i64 0] 53)).cell? ⟨sb, so, none⟩ = some (.int .u8 b0) := (World.cell?_of_block (hA.block sb (block_lt_of_cell c0))).trans c0
    have d1 := (World.cell?_of_block (hA.block sb (block_lt_of_cell c1))).trans c1
    have hs0 := hs.below hA
    have hu0 := hu b0 (by rw [← hb0]; exact getD_memT (by omega))
    have hu1 := hu b1 (by rw [← hb1]; exact getD_memT (by omega))
    clear c0 c1 hc
    generalize w.alloc (.cells #[.int .i64 0, .int .i64 0, .int .i64 0, .int .i64 0, .int .i64 0, .slice none 0 0, .int .i64 0, .int .i64 0, .slice none 0 0, .slice none 0 0, .int .i64 0, .int .i64 0, .slice none 0 0, .int .i64 0, .int .i64 0, .slice none 0 0, .slice none 0 0, .slice none 0 0, .int .i64 0] 53) = W0 at hA q0 d0 d1 hs0 ⊢
    obtain ⟨L, hL⟩ : ∃ L : Nat, b0 * 256 + b1 = L := ⟨(b0 * 256 + b1).toNat, by omega⟩
    have hLE : 2 + b0 * 256 + b1 = ((2 + L : Nat) : Int) := by omega
    have HF : Hid (∀ (x : MV) (r : List Int), bs = x.onTape ++ r → x.bytes.length = L ∧ 2 + L ≤ n ∧ (bs.drop 2).take L = x.bytes) := by
      show ∀ _, _
      intro x r e
      obtain ⟨f1, f2, f3, f4⟩ := onTape_form e
      have hXL : x.bytes.length = L := by omega
      rw [hXL] at f4
      exact ⟨hXL, by omega, f4⟩
    obtain ⟨E, hE⟩ : ∃ E : Nat, 2 + L = E := ⟨_, rfl⟩
    rw [hE] at hLE
    have HLE : Hid _ := hLE
    have Hhs : Hid _ := hs
    have Hhu : Hid _ := hu
    have Hn : Hid _ := hn
    clear hLE hs hu hn
    go_cut [4] (fun v wx => v = .int .i64 (E : Int) ∧ Below w.heap.size w wx ∧ wx.heap[w.heap.size]? = some (.cells #[.int .i64 0, .int .i64 0, .int .i64 0, .int .i64 0, .int .i64 0, .slice none 0 0, .int .i64 0, .int .i64 0, .slice none 0 0, .slice none 0 0, .int .i64 0, .int .i64 0, .slice none 0 0, .int .i64 0, .int .i64 0, .slice none 0 0, .slice none 0 0, .slice none 0 0, .int .i64 0] 53 (0, 0)))
    case first =>
      go_region
      all_goals
        go_wp2_with fail
        go_meet
        case rel => exact ⟨by rw [← HLE.out], hA.drew, q0⟩
    case rest =>
      obtain ⟨rfl, hA2, q2⟩ := hcut
      clear hA q0 d0 d1 hs0
      have hs2 := Hhs.out.below hA2
      have hu := Hhu.out
      have hn := Hn.out
      generalize wc = W2 at hA2 q2 hs2 ⊢
      apply_assumption
      by_cases hEn : n < E
      · have hEI : (n : Int) < E := by omega
        have hNo : Hid (noRec bs) := by
          show noRec bs
          intro w0 x r _ _ e
          have := (HF.out x r e).2.1
          omega
        clear hu hs2
        go_wp2_with (refine wpList_store_row rfl 53 _ _ rfl w.heap.size #[.int .i64 0, .int .i64 0, .int .i64 0, .int .i64 0, .int .i64 0, .slice none 0 0, .int .i64 0, .int .i64 0, .slice none 0 0, .slice none 0 0, .int .i64 0, .int .i64 0, .slice none 0 0, .int .i64 0, .int .i64 0, .slice none 0 0, .slice none 0 0, .slice none 0 0, .int .i64 0] rfl rfl 53 _ q2 sMsg' rfl (by simp [Value.oneCell']) ?_)
        exact bodyPost_ret (v := .tuple #[.agg #[.int .i64 0, .int .i64 0, .int .i64 0, .int .i64 0, .int .i64 0, .slice none 0 0, .int .i64 0, .int .i64 0, .slice none 0 0, .slice none 0 0, .int .i64 0, .int .i64 0, .slice none 0 0, .int .i64 0, .int .i64 0, .slice none 0 0, .slice none 0 0, .slice none 0 0, .int .i64 0], .int .i64 0]) (results_cell_slot (fn := Try.f19) (p := 2) (q := 3) (ty := 53) rfl _ _ w.heap.size 53 _ (0, 0) _ (.int .i64 0) ⟨rfl, rfl⟩ (setRow_heap _ _ _ _ _ _ q2) Try.underlying53 rfl sMsg') rfl ⟨.inl ⟨rfl, hNo.out⟩, (Upd.setRow q2).below hA2 hA2.size (Nat.le_refl _)⟩
      · have hEI : ¬ ((n : Int) < E) := by omega
        have hcap := hs2.le
        have hcI : (E : Int) ≤ cap := by omega
        have h2E : (2 : Int) ≤ E := by omega
        have hC1 := (cut_slice (n := 2) hs2 (by omega)).takeR L L (by rw [List.length_drop]; omega) (Nat.le_refl _) (by omega) (fun e => by cases e)
        have hC2 : E = 2 → SliceAt W2 (some ⟨sb, so, none⟩) L ((bs.drop 2).take L) := by
          intro h
          have hL0 : L = 0 := by omega
          rw [hL0]
          exact hs2.takeR 0 0 (Nat.zero_le _) (Nat.le_refl _) (Nat.zero_le _) (fun e => by cases e)
        have hTl : ((bs.drop 2).take L).length = L := by rw [List.length_take, List.length_drop]; omega
        have hU2 : U8s ((bs.drop 2).take L) := fun z hz => hu z (List.mem_of_mem_drop (List.mem_of_mem_take hz))
        have hB : Hid (∀ y : MV, y.bytes = (bs.drop 2).take L → bs = y.onTape ++ bs.drop E ∧ (y.onTape.length : Int) = E) := by
          show ∀ _, _
          intro y hy
          have hyl : y.bytes.length = L := by rw [hy, hTl]
          have hb : bs = b0 :: b1 :: bs.drop 2 := by
            match bs, hb0, hb1, hn with
            | a :: b :: l, e1, e2, _ =>
              have e1' : a = b0 := e1
              have e2' : b = b1 := e2
              rw [e1', e2']; rfl
            | [], _, _, h9 => simp at h9; omega
            | [_], _, _, h9 => simp at h9; omega
          have hd : bs.drop E = (bs.drop 2).drop L := by rw [List.drop_drop]; congr 1; omega
          constructor
          · rw [MV.onTape, hyl, hd, hy, List.append_assoc, List.take_append_drop]
            rw [show (L : Int) / 256 = b0 by omega, show (L : Int) % 256 = b1 by omega]
            exact hb
          · rw [MV.onTape, List.length_append, hyl]
            simp
            omega
        have HD1 : Hid (Calls Try.prog 29 #[.slice (some ⟨sb, so + 2, none⟩) (E - 2) (E - 2)] W2 fun e w' => DecIs W2 w' e ((bs.drop 2).take L)) := by
          show Calls _ _ _ _ _
          rw [show E - 2 = L by omega]
          exact decode_any _ _ L L W2 hTl.symm hC1 hU2 (by omega)
        have HD2 : Hid (E = 2 → Calls Try.prog 29 #[.slice (some ⟨sb, so, none⟩) 0 0] W2 fun e w' => DecIs W2 w' e ((bs.drop 2).take L)) := fun h => by
          have h9 := decode_any _ _ L L W2 hTl.symm (hC2 h) hU2 (by omega)
          rw [show L = 0 by omega] at h9 ⊢
          exact h9
        have HU2 : Hid _ := hU2
        have HE : Hid _ := hE
        clear hTl hb0 hb1 hC1 hC2 hs2 hu hU2 hL hu0 hu1
        rcases (by omega : E = 2 ∨ 2 < E) with hE2 | hE2
        · subst hE2
          have HD : Hid _ := HD2.out rfl
          have hn2 : ¬ ((n : Int) < 2) := by omega
          have hc2 : (2 : Int) ≤ cap := by omega
          clear HD1 HD2 HE hEI hcI h2E hEn hcap hn hE
          go_upto_region 6 with fail
          go_cut [5, 6] (fun x v wx => ∃ A : Nat, x = .pointer (some ⟨A, 0, none⟩) ∧ Below w.heap.size w wx ∧ wx.heap[w.heap.size]? = some (.cells #[.int .i64 0, .int .i64 0, .int .i64 0, .int .i64 0, .int .i64 0, .slice none 0 0, .int .i64 0, .int .i64 0, .slice none 0 0, .slice none 0 0, .int .i64 0, .int .i64 0, .slice none 0 0, .int .i64 0, .int .i64 0, .slice none 0 0, .slice none 0 0, .slice none 0 0, .int .i64 0] 53 (0, 0)) ∧ ((∃ F : Int, F ≠ 0 ∧ v = .int .i64 F ∧ Hid (noRec bs)) ∨ ∃ y : MV, v = .int .i64 0 ∧ MAt wx y ∧ HasM (fun q => W2.heap.size ≤ q) y ∧ checkF y.m y.car = 0 ∧ y.bytes = (bs.drop 2).take L ∧ wx.heap[A]? = some (.cells #[.int .i64 y.m.fr, .int .i64 y.m.tt, .int .i64 y.m.ki, .int .i64 y.m.bau, .int .i64 y.m.bnu, .slice y.m.bta y.m.btn y.m.btc, .int .i64 y.m.hau, .int .i64 y.m.hrd, .slice y.m.hba y.m.hbn y.m.hbc, .slice y.m.hpa y.m.hpn y.m.hpc, .int .i64 y.m.sau, .int .i64 y.m.srd, .slice y.m.sda y.m.sdn y.m.sdc, .int .i64 y.m.cau, .int .i64 y.m.crd, .slice y.m.cba y.m.cbn y.m.cbc, .slice y.m.cpa y.m.cpn y.m.cpc, .slice y.m.cva y.m.cvn y.m.cvc, .int .i64 y.m.ro] 53 (0, 0))))
          case first =>
            clear hB
            go_wp2_with fail
            refine Calls.mono (HD.out) ?_
            all_goals
              intro e w3 hd3
              have hb3 := hd3.below
              have hB3 := hA2.trans (hb3.mono hA2.size)
              have z3 := (hb3.block _ (lt_of_heap q2)).trans q2
              have HX : Hid (∀ (w0 : World) (x : MV) (r : List Int), MAt w0 x → IsRec x → bs = x.onTape ++ r → (bs.drop 2).take L = x.bytes ∧ ∃ m : Msg, e = .returned (.tuple #[.agg #[.int .i64 m.fr, .int .i64 m.tt, .int .i64 m.ki, .int .i64 m.bau, .int .i64 m.bnu, .slice m.bta m.btn m.btc, .int .i64 m.hau, .int .i64 m.hrd, .slice m.hba m.hbn m.hbc, .slice m.hpa m.hpn m.hpc, .int .i64 m.sau, .int .i64 m.srd, .slice m.sda m.sdn m.sdc, .int .i64 m.cau, .int .i64 m.crd, .slice m.cba m.cbn m.cbc, .slice m.cpa m.cpn m.cpc, .slice m.cva m.cvn m.cvc, .int .i64 m.ro], .int .i64 0])) := by
                show ∀ _, _
                intro w0 x r h1 h2 h3
                have h4 := (HF.out x r h3).2.2
                rw [h4] at hd3
                obtain ⟨y, _, _, _, he, _⟩ := dec_back h1 h2.check hd3
                exact ⟨h4, y.m, he⟩
              rcases dec_fixT hd3 HU2.out with ⟨F, hF0, he⟩ | ⟨y, hY, hH, hC, hyb, he⟩
              · have hNo : Hid (noRec bs) := by
                  show noRec bs
                  intro w0 x r h1 h2 h3
                  obtain ⟨_, m, h4⟩ := HX.out w0 x r h1 h2 h3
                  rw [he] at h4
                  simp at h4
                  exact hF0 h4.2
                clear hd3 HX
                subst he
                dsimp only
                have qz := heap_alloc_new w3 (.cells #[.int .i64 0, .int .i64 0, .int .i64 0, .int .i64 0, .int .i64 0, .slice none 0 0, .int .i64 0, .int .i64 0, .slice none 0 0, .slice none 0 0, .int .i64 0, .int .i64 0, .slice none 0 0, .int .i64 0, .int .i64 0, .slice none 0 0, .slice none 0 0, .slice none 0 0, .int .i64 0] 53)
                have hA4 : Below w3.heap.size w3 ((w3.alloc (.cells #[.int .i64 0, .int .i64 0, .int .i64 0, .int .i64 0, .int .i64 0, .slice none 0 0, .int .i64 0, .int .i64 0, .slice none 0 0, .slice none 0 0, .int .i64 0, .int .i64 0, .slice none 0 0, .int .i64 0, .int .i64 0, .slice none 0 0, .slice none 0 0, .slice none 0 0, .int .i64 0] 53)).setRow w3.heap.size #[.int .i64 0, .int .i64 0, .int .i64 0, .int .i64 0, .int .i64 0, .slice none 0 0, .int .i64 0, .int .i64 0, .slice none 0 0, .slice none 0 0, .int .i64 0, .int .i64 0, .slice none 0 0, .int .i64 0, .int .i64 0, .slice none 0 0, .slice none 0 0, .slice none 0 0, .int .i64 0]) := laid_row w3 #[.int .i64 0, .int .i64 0, .int .i64 0, .int .i64 0, .int .i64 0, .slice none 0 0, .int .i64 0, .int .i64 0, .slice none 0 0, .slice none 0 0, .int .i64 0, .int .i64 0, .slice none 0 0, .int .i64 0, .int .i64 0, .slice none 0 0, .slice none 0 0, .slice none 0 0, .int .i64 0] #[.int .i64 0, .int .i64 0, .int .i64 0, .int .i64 0, .int .i64 0, .slice none 0 0, .int .i64 0, .int .i64 0, .slice none 0 0, .slice none 0 0, .int .i64 0, .int .i64 0, .slice none 0 0, .int .i64 0, .int .i64 0, .slice none 0 0, .slice none 0 0, .slice none 0 0, .int .i64 0] 53
                have q4 := setRow_heap _ _ _ #[.int .i64 0, .int .i64 0, .int .i64 0, .int .i64 0, .int .i64 0, .slice none 0 0, .int .i64 0, .int .i64 0, .slice none 0 0, .slice none 0 0, .int .i64 0, .int .i64 0, .slice none 0 0, .int .i64 0, .int .i64 0, .slice none 0 0, .slice none 0 0, .slice none 0 0, .int .i64 0] _ _ qz
                have z4 := (hA4.block _ (lt_of_heap z3)).trans z3
                have hB4 := hB3.trans (hA4.mono hB3.size)
                go_wp2_with (refine wpList_store_row rfl 53 _ _ rfl w3.heap.size #[.int .i64 0, .int .i64 0, .int .i64 0, .int .i64 0, .int .i64 0, .slice none 0 0, .int .i64 0, .int .i64 0, .slice none 0 0, .slice none 0 0, .int .i64 0, .int .i64 0, .slice none 0 0, .int .i64 0, .int .i64 0, .slice none 0 0, .slice none 0 0, .slice none 0 0, .int .i64 0] rfl rfl 53 _ qz sMsg' rfl (by simp [Value.oneCell']) ?_)
                go_meet
                case rel => exact ⟨w3.heap.size, rfl, hB4, z4, .inl ⟨F, hF0, rfl, hNo⟩⟩
              · clear hd3 HX
                subst he
                dsimp only
                have hY4 := hY
                have qz := heap_alloc_new w3 (.cells #[.int .i64 0, .int .i64 0, .int .i64 0, .int .i64 0, .int .i64 0, .slice none 0 0, .int .i64 0, .int .i64 0, .slice none 0 0, .slice none 0 0, .int .i64 0, .int .i64 0, .slice none 0 0, .int .i64 0, .int .i64 0, .slice none 0 0, .slice none 0 0, .slice none 0 0, .int .i64 0] 53)
                have hA4 : Below w3.heap.size w3 ((w3.alloc (.cells #[.int .i64 0, .int .i64 0, .int .i64 0, .int .i64 0, .int .i64 0, .slice none 0 0, .int .i64 0, .int .i64 0, .slice none 0 0, .slice none 0 0, .int .i64 0, .int .i64 0, .slice none 0 0, .int .i64 0, .int .i64 0, .slice none 0 0, .slice none 0 0, .slice none 0 0, .int .i64 0] 53)).setRow w3.heap.size #[.int .i64 y.m.fr, .int .i64 y.m.tt, .int .i64 y.m.ki, .int .i64 y.m.bau, .int .i64 y.m.bnu, .slice y.m.bta y.m.btn y.m.btc, .int .i64 y.m.hau, .int .i64 y.m.hrd, .slice y.m.hba y.m.hbn y.m.hbc, .slice y.m.hpa y.m.hpn y.m.hpc, .int .i64 y.m.sau, .int .i64 y.m.srd, .slice y.m.sda y.m.sdn y.m.sdc, .int .i64 y.m.cau, .int .i64 y.m.crd, .slice y.m.cba y.m.cbn y.m.cbc, .slice y.m.cpa y.m.cpn y.m.cpc, .slice y.m.cva y.m.cvn y.m.cvc, .int .i64 y.m.ro]) := laid_row w3 #[.int .i64 0, .int .i64 0, .int .i64 0, .int .i64 0, .int .i64 0, .slice none 0 0, .int .i64 0, .int .i64 0, .slice none 0 0, .slice none 0 0, .int .i64 0, .int .i64 0, .slice none 0 0, .int .i64 0, .int .i64 0, .slice none 0 0, .slice none 0 0, .slice none 0 0, .int .i64 0] #[.int .i64 y.m.fr, .int .i64 y.m.tt, .int .i64 y.m.ki, .int .i64 y.m.bau, .int .i64 y.m.bnu, .slice y.m.bta y.m.btn y.m.btc, .int .i64 y.m.hau, .int .i64 y.m.hrd, .slice y.m.hba y.m.hbn y.m.hbc, .slice y.m.hpa y.m.hpn y.m.hpc, .int .i64 y.m.sau, .int .i64 y.m.srd, .slice y.m.sda y.m.sdn y.m.sdc, .int .i64 y.m.cau, .int .i64 y.m.crd, .slice y.m.cba y.m.cbn y.m.cbc, .slice y.m.cpa y.m.cpn y.m.cpc, .slice y.m.cva y.m.cvn y.m.cvc, .int .i64 y.m.ro] 53
                have q4 := setRow_heap _ _ _ #[.int .i64 y.m.fr, .int .i64 y.m.tt, .int .i64 y.m.ki, .int .i64 y.m.bau, .int .i64 y.m.bnu, .slice y.m.bta y.m.btn y.m.btc, .int .i64 y.m.hau, .int .i64 y.m.hrd, .slice y.m.hba y.m.hbn y.m.hbc, .slice y.m.hpa y.m.hpn y.m.hpc, .int .i64 y.m.sau, .int .i64 y.m.srd, .slice y.m.sda y.m.sdn y.m.sdc, .int .i64 y.m.cau, .int .i64 y.m.crd, .slice y.m.cba y.m.cbn y.m.cbc, .slice y.m.cpa y.m.cpn y.m.cpc, .slice y.m.cva y.m.cvn y.m.cvc, .int .i64 y.m.ro] _ _ qz
                have z4 := (hA4.block _ (lt_of_heap z3)).trans z3
                have hB4 := hB3.trans (hA4.mono hB3.size)
                go_wp2_with (refine wpList_store_row rfl 53 _ _ rfl w3.heap.size #[.int .i64 y.m.fr, .int .i64 y.m.tt, .int .i64 y.m.ki, .int .i64 y.m.bau, .int .i64 y.m.bnu, .slice y.m.bta y.m.btn y.m.btc, .int .i64 y.m.hau, .int .i64 y.m.hrd, .slice y.m.hba y.m.hbn y.m.hbc, .slice y.m.hpa y.m.hpn y.m.hpc, .int .i64 y.m.sau, .int .i64 y.m.srd, .slice y.m.sda y.m.sdn y.m.sdc, .int .i64 y.m.cau, .int .i64 y.m.crd, .slice y.m.cba y.m.cbn y.m.cbc, .slice y.m.cpa y.m.cpn y.m.cpc, .slice y.m.cva y.m.cvn y.m.cvc, .int .i64 y.m.ro] rfl rfl 53 _ qz sMsg' rfl (by simp [Value.oneCell']) ?_)
                go_meet
                case rel => exact ⟨w3.heap.size, rfl, hB4, z4, .inr ⟨y, rfl, hY.below hA4, hH, hC, hyb, q4⟩⟩
          case rest =>
            obtain ⟨A, rfl, hB4, z4, h⟩ := hcut
            generalize wc = W4 at hB4 z4 h ⊢
            apply_assumption
            rcases h with ⟨F, hF0, rfl, hNo⟩ | ⟨y, rfl, hY4, hH, hC, hyb, q4⟩
            · have hFb : (F != 0) = true := by simp [hF0]
              clear hB
              go_wp2_with (refine wpList_store_row rfl 53 _ _ rfl w.heap.size #[.int .i64 0, .int .i64 0, .int .i64 0, .int .i64 0, .int .i64 0, .slice none 0 0, .int .i64 0, .int .i64 0, .slice none 0 0, .slice none 0 0, .int .i64 0, .int .i64 0, .slice none 0 0, .int .i64 0, .int .i64 0, .slice none 0 0, .slice none 0 0, .slice none 0 0, .int .i64 0] rfl rfl 53 _ z4 sMsg' rfl (by simp [Value.oneCell']) ?_)
              exact bodyPost_ret (v := .tuple #[.agg #[.int .i64 0, .int .i64 0, .int .i64 0, .int .i64 0, .int .i64 0, .slice none 0 0, .int .i64 0, .int .i64 0, .slice none 0 0, .slice none 0 0, .int .i64 0, .int .i64 0, .slice none 0 0, .int .i64 0, .int .i64 0, .slice none 0 0, .slice none 0 0, .slice none 0 0, .int .i64 0], .int .i64 0]) (results_cell_slot (fn := Try.f19) (p := 2) (q := 3) (ty := 53) rfl _ _ w.heap.size 53 _ (0, 0) _ (.int .i64 0) ⟨rfl, rfl⟩ (setRow_heap _ _ _ _ _ _ z4) Try.underlying53 rfl sMsg') rfl ⟨.inl ⟨rfl, hNo.out⟩, (Upd.setRow z4).below hB4 hB4.size (Nat.le_refl _)⟩
            · obtain ⟨hbB, hbE⟩ := hB.out y hyb
              have hCk := tapeCheck_any y.m y.ss y.bl y.pl y.cbl y.cpl y.vl W4 hY4.at'
              have hC' : checkF y.m (carriedF y.m y.ss y.bl y.pl y.cbl y.cpl y.vl) = 0 := hC
              rw [hC'] at hCk
              have HR : Hid (∀ (w0 : World) (x : MV) (r : List Int), MAt w0 x → IsRec x → bs = x.onTape ++ r → recF y.m 0 = 0) := by
                show ∀ _, _
                intro w0 x r h1 h2 h3
                have h4 := (HF.out x r h3).2.2
                rw [recF_c (same_c h1 hY4 h2.check hC (hyb.trans h4))]
                exact recF_of h2
              have HI : Hid (recF y.m 0 = 0 → IsRec y) := rec_of hC
              have HbB : Hid _ := hbB
              have HbE : Hid _ := hbE
              clear hbB hbE hyb hC hC' hB
              generalize recF y.m 0 = R at *
              go_wp2_with (refine wpList_load_row_w rfl 53 _ rfl A rfl 53 #[.int .i64 y.m.fr, .int .i64 y.m.tt, .int .i64 y.m.ki, .int .i64 y.m.bau, .int .i64 y.m.bnu, .slice y.m.bta y.m.btn y.m.btc, .int .i64 y.m.hau, .int .i64 y.m.hrd, .slice y.m.hba y.m.hbn y.m.hbc, .slice y.m.hpa y.m.hpn y.m.hpc, .int .i64 y.m.sau, .int .i64 y.m.srd, .slice y.m.sda y.m.sdn y.m.sdc, .int .i64 y.m.cau, .int .i64 y.m.crd, .slice y.m.cba y.m.cbn y.m.cbc, .slice y.m.cpa y.m.cpn y.m.cpc, .slice y.m.cva y.m.cvn y.m.cvc, .int .i64 y.m.ro] (0, 0) _ q4 Try.underlying53 rfl sMsg' ?_)
              refine hCk.mono ?_
              rintro e w5 ⟨he, hb5⟩
              clear hCk
              subst he
              dsimp only
              have hB5 := hB4.trans (hb5.mono hB4.size)
              have z5 := (hb5.block _ (lt_of_heap z4)).trans z4
              have q5 := (hb5.block _ (lt_of_heap q4)).trans q4
              have hY5 := hY4.below hb5
              by_cases hR : R = 0
              · have hI : Hid (IsRec y) := HI.out hR
                subst hR
                go_wp2_with (first | refine wpList_load_row rfl 53 _ rfl A rfl 53 #[.int .i64 y.m.fr, .int .i64 y.m.tt, .int .i64 y.m.ki, .int .i64 y.m.bau, .int .i64 y.m.bnu, .slice y.m.bta y.m.btn y.m.btc, .int .i64 y.m.hau, .int .i64 y.m.hrd, .slice y.m.hba y.m.hbn y.m.hbc, .slice y.m.hpa y.m.hpn y.m.hpc, .int .i64 y.m.sau, .int .i64 y.m.srd, .slice y.m.sda y.m.sdn y.m.sdc, .int .i64 y.m.cau, .int .i64 y.m.crd, .slice y.m.cba y.m.cbn y.m.cbc, .slice y.m.cpa y.m.cpn y.m.cpc, .slice y.m.cva y.m.cvn y.m.cvc, .int .i64 y.m.ro] (0, 0) _ q5 Try.underlying53 rfl sMsg' ?_ | refine wpList_store_row rfl 53 _ _ rfl w.heap.size #[.int .i64 y.m.fr, .int .i64 y.m.tt, .int .i64 y.m.ki, .int .i64 y.m.bau, .int .i64 y.m.bnu, .slice y.m.bta y.m.btn y.m.btc, .int .i64 y.m.hau, .int .i64 y.m.hrd, .slice y.m.hba y.m.hbn y.m.hbc, .slice y.m.hpa y.m.hpn y.m.hpc, .int .i64 y.m.sau, .int .i64 y.m.srd, .slice y.m.sda y.m.sdn y.m.sdc, .int .i64 y.m.cau, .int .i64 y.m.crd, .slice y.m.cba y.m.cbn y.m.cbc, .slice y.m.cpa y.m.cpn y.m.cpc, .slice y.m.cva y.m.cvn y.m.cvc, .int .i64 y.m.ro] rfl rfl 53 _ z5 sMsg' rfl (by simp [Value.oneCell']) ?_)
                exact bodyPost_ret (v := .tuple #[.agg #[.int .i64 y.m.fr, .int .i64 y.m.tt, .int .i64 y.m.ki, .int .i64 y.m.bau, .int .i64 y.m.bnu, .slice y.m.bta y.m.btn y.m.btc, .int .i64 y.m.hau, .int .i64 y.m.hrd, .slice y.m.hba y.m.hbn y.m.hbc, .slice y.m.hpa y.m.hpn y.m.hpc, .int .i64 y.m.sau, .int .i64 y.m.srd, .slice y.m.sda y.m.sdn y.m.sdc, .int .i64 y.m.cau, .int .i64 y.m.crd, .slice y.m.cba y.m.cbn y.m.cbc, .slice y.m.cpa y.m.cpn y.m.cpc, .slice y.m.cva y.m.cvn y.m.cvc, .int .i64 y.m.ro], .int .i64 ((2 : Nat) : Int)]) (results_cell_slot (fn := Try.f19) (p := 2) (q := 3) (ty := 53) rfl _ _ w.heap.size 53 _ (0, 0) _ (.int .i64 ((2 : Nat) : Int)) ⟨rfl, rfl⟩ (setRow_heap _ _ _ _ _ _ z5) Try.underlying53 rfl sMsg') rfl ⟨.inr ⟨y, bs.drop 2, HbB.out, hY5.setRow (B := W2.heap.size) hH (lt_of_heap q2), hH.mono (fun q hq => Nat.le_trans hA2.size hq), hI.out, by rw [HbE.out]⟩, (Upd.setRow z5).below hB5 hB5.size (Nat.le_refl _)⟩
              · have hNo : Hid (noRec bs) := by
                  show noRec bs
                  intro w0 x r h1 h2 h3
                  exact hR (HR.out w0 x r h1 h2 h3)
                have hRb : (R != 0) = true := by simp [hR]
                go_wp2_with (refine wpList_store_row rfl 53 _ _ rfl w.heap.size #[.int .i64 0, .int .i64 0, .int .i64 0, .int .i64 0, .int .i64 0, .slice none 0 0, .int .i64 0, .int .i64 0, .slice none 0 0, .slice none 0 0, .int .i64 0, .int .i64 0, .slice none 0 0, .int .i64 0, .int .i64 0, .slice none 0 0, .slice none 0 0, .slice none 0 0, .int .i64 0] rfl rfl 53 _ z5 sMsg' rfl (by simp [Value.oneCell']) ?_)
                exact bodyPost_ret (v := .tuple #[.agg #[.int .i64 0, .int .i64 0, .int .i64 0, .int .i64 0, .int .i64 0, .slice none 0 0, .int .i64 0, .int .i64 0, .slice none 0 0, .slice none 0 0, .int .i64 0, .int .i64 0, .slice none 0 0, .int .i64 0, .int .i64 0, .slice none 0 0, .slice none 0 0, .slice none 0 0, .int .i64 0], .int .i64 0]) (results_cell_slot (fn := Try.f19) (p := 2) (q := 3) (ty := 53) rfl _ _ w.heap.size 53 _ (0, 0) _ (.int .i64 0) ⟨rfl, rfl⟩ (setRow_heap _ _ _ _ _ _ z5) Try.underlying53 rfl sMsg') rfl ⟨.inl ⟨rfl, hNo.out⟩, (Upd.setRow z5).below hB5 hB5.size (Nat.le_refl _)⟩
        · have h3E : (2 : Int) < E := by omega
          have h4E : ¬ E = 2 := by omega
          clear hn hE
          go_upto_region 6 with fail
          go_cut [5, 6] (fun x v wx => ∃ A : Nat, x = .pointer (some ⟨A, 0, none⟩) ∧ Below w.heap.size w wx ∧ wx.heap[w.heap.size]? = some (.cells #[.int .i64 0, .int .i64 0, .int .i64 0, .int .i64 0, .int .i64 0, .slice none 0 0, .int .i64 0, .int .i64 0, .slice none 0 0, .slice none 0 0, .int .i64 0, .int .i64 0, .slice none 0 0, .int .i64 0, .int .i64 0, .slice none 0 0, .slice none 0 0, .slice none 0 0, .int .i64 0] 53 (0, 0)) ∧ ((∃ F : Int, F ≠ 0 ∧ v = .int .i64 F ∧ Hid (noRec bs)) ∨ ∃ y : MV, v = .int .i64 0 ∧ MAt wx y ∧ HasM (fun q => W2.heap.size ≤ q) y ∧ checkF y.m y.car = 0 ∧ y.bytes = (bs.drop 2).take L ∧ wx.heap[A]? = some (.cells #[.int .i64 y.m.fr, .int .i64 y.m.tt, .int .i64 y.m.ki, .int .i64 y.m.bau, .int .i64 y.m.bnu, .slice y.m.bta y.m.btn y.m.btc, .int .i64 y.m.hau, .int .i64 y.m.hrd, .slice y.m.hba y.m.hbn y.m.hbc, .slice y.m.hpa y.m.hpn y.m.hpc, .int .i64 y.m.sau, .int .i64 y.m.srd, .slice y.m.sda y.m.sdn y.m.sdc, .int .i64 y.m.cau, .int .i64 y.m.crd, .slice y.m.cba y.m.cbn y.m.cbc, .slice y.m.cpa y.m.cpn y.m.cpc, .slice y.m.cva y.m.cvn y.m.cvc, .int .i64 y.m.ro] 53 (0, 0))))
          case first =>
            clear hB
            go_wp2_with fail
            refine Calls.mono (HD1.out) ?_
            all_goals
              intro e w3 hd3
              have hb3 := hd3.below
              have hB3 := hA2.trans (hb3.mono hA2.size)
              have z3 := (hb3.block _ (lt_of_heap q2)).trans q2
              have HX : Hid (∀ (w0 : World) (x : MV) (r : List Int), MAt w0 x → IsRec x → bs = x.onTape ++ r → (bs.drop 2).take L = x.bytes ∧ ∃ m : Msg, e = .returned (.tuple #[.agg #[.int .i64 m.fr, .int .i64 m.tt, .int .i64 m.ki, .int .i64 m.bau, .int .i64 m.bnu, .slice m.bta m.btn m.btc, .int .i64 m.hau, .int .i64 m.hrd, .slice m.hba m.hbn m.hbc, .slice m.hpa m.hpn m.hpc, .int .i64 m.sau, .int .i64 m.srd, .slice m.sda m.sdn m.sdc, .int .i64 m.cau, .int .i64 m.crd, .slice m.cba m.cbn m.cbc, .slice m.cpa m.cpn m.cpc, .slice m.cva m.cvn m.cvc, .int .i64 m.ro], .int .i64 0])) := by
                show ∀ _, _
                intro w0 x r h1 h2 h3
                have h4 := (HF.out x r h3).2.2
                rw [h4] at hd3
                obtain ⟨y, _, _, _, he, _⟩ := dec_back h1 h2.check hd3
                exact ⟨h4, y.m, he⟩
              rcases dec_fixT hd3 HU2.out with ⟨F, hF0, he⟩ | ⟨y, hY, hH, hC, hyb, he⟩
              · have hNo : Hid (noRec bs) := by
                  show noRec bs
                  intro w0 x r h1 h2 h3
                  obtain ⟨_, m, h4⟩ := HX.out w0 x r h1 h2 h3
                  rw [he] at h4
                  simp at h4
                  exact hF0 h4.2
                clear hd3 HX
                subst he
                dsimp only
                have qz := heap_alloc_new w3 (.cells #[.int .i64 0, .int .i64 0, .int .i64 0, .int .i64 0, .int .i64 0, .slice none 0 0, .int .i64 0, .int .i64 0, .slice none 0 0, .slice none 0 0, .int .i64 0, .int .i64 0, .slice none 0 0, .int .i64 0, .int .i64 0, .slice none 0 0, .slice none 0 0, .slice none 0 0, .int .i64 0] 53)
                have hA4 : Below w3.heap.size w3 ((w3.alloc (.cells #[.int .i64 0, .int .i64 0, .int .i64 0, .int .i64 0, .int .i64 0, .slice none 0 0, .int .i64 0, .int .i64 0, .slice none 0 0, .slice none 0 0, .int .i64 0, .int .i64 0, .slice none 0 0, .int .i64 0, .int .i64 0, .slice none 0 0, .slice none 0 0, .slice none 0 0, .int .i64 0] 53)).setRow w3.heap.size #[.int .i64 0, .int .i64 0, .int .i64 0, .int .i64 0, .int .i64 0, .slice none 0 0, .int .i64 0, .int .i64 0, .slice none 0 0, .slice none 0 0, .int .i64 0, .int .i64 0, .slice none 0 0, .int .i64 0, .int .i64 0, .slice none 0 0, .slice none 0 0, .slice none 0 0, .int .i64 0]) := laid_row w3 #[.int .i64 0, .int .i64 0, .int .i64 0, .int .i64 0, .int .i64 0, .slice none 0 0, .int .i64 0, .int .i64 0, .slice none 0 0, .slice none 0 0, .int .i64 0, .int .i64 0, .slice none 0 0, .int .i64 0, .int .i64 0, .slice none 0 0, .slice none 0 0, .slice none 0 0, .int .i64 0] #[.int .i64 0, .int .i64 0, .int .i64 0, .int .i64 0, .int .i64 0, .slice none 0 0, .int .i64 0, .int .i64 0, .slice none 0 0, .slice none 0 0, .int .i64 0, .int .i64 0, .slice none 0 0, .int .i64 0, .int .i64 0, .slice none 0 0, .slice none 0 0, .slice none 0 0, .int .i64 0] 53
                have q4 := setRow_heap _ _ _ #[.int .i64 0, .int .i64 0, .int .i64 0, .int .i64 0, .int .i64 0, .slice none 0 0, .int .i64 0, .int .i64 0, .slice none 0 0, .slice none 0 0, .int .i64 0, .int .i64 0, .slice none 0 0, .int .i64 0, .int .i64 0, .slice none 0 0, .slice none 0 0, .slice none 0 0, .int .i64 0] _ _ qz
                have z4 := (hA4.block _ (lt_of_heap z3)).trans z3
                have hB4 := hB3.trans (hA4.mono hB3.size)
                go_wp2_with (refine wpList_store_row rfl 53 _ _ rfl w3.heap.size #[.int .i64 0, .int .i64 0, .int .i64 0, .int .i64 0, .int .i64 0, .slice none 0 0, .int .i64 0, .int .i64 0, .slice none 0 0, .slice none 0 0, .int .i64 0, .int .i64 0, .slice none 0 0, .int .i64 0, .int .i64 0, .slice none 0 0, .slice none 0 0, .slice none 0 0, .int .i64 0] rfl rfl 53 _ qz sMsg' rfl (by simp [Value.oneCell']) ?_)
                go_meet
                case rel => exact ⟨w3.heap.size, rfl, hB4, z4, .inl ⟨F, hF0, rfl, hNo⟩⟩
              · clear hd3 HX
                subst he
                dsimp only
                have hY4 := hY
                have qz := heap_alloc_new w3 (.cells #[.int .i64 0, .int .i64 0, .int .i64 0, .int .i64 0, .int .i64 0, .slice none 0 0, .int .i64 0, .int .i64 0, .slice none 0 0, .slice none 0 0, .int .i64 0, .int .i64 0, .slice none 0 0, .int .i64 0, .int .i64 0, .slice none 0 0, .slice none 0 0, .slice none 0 0, .int .i64 0] 53)
                have hA4 : Below w3.heap.size w3 ((w3.alloc (.cells #[.int .i64 0, .int .i64 0, .int .i64 0, .int .i64 0, .int .i64 0, .slice none 0 0, .int .i64 0, .int .i64 0, .slice none 0 0, .slice none 0 0, .int .i64 0, .int .i64 0, .slice none 0 0, .int .i64 0, .int .i64 0, .slice none 0 0, .slice none 0 0, .slice none 0 0, .int .i64 0] 53)).setRow w3.heap.size #[.int .i64 y.m.fr, .int .i64 y.m.tt, .int .i64 y.m.ki, .int .i64 y.m.bau, .int .i64 y.m.bnu, .slice y.m.bta y.m.btn y.m.btc, .int .i64 y.m.hau, .int .i64 y.m.hrd, .slice y.m.hba y.m.hbn y.m.hbc, .slice y.m.hpa y.m.hpn y.m.hpc, .int .i64 y.m.sau, .int .i64 y.m.srd, .slice y.m.sda y.m.sdn y.m.sdc, .int .i64 y.m.cau, .int .i64 y.m.crd, .slice y.m.cba y.m.cbn y.m.cbc, .slice y.m.cpa y.m.cpn y.m.cpc, .slice y.m.cva y.m.cvn y.m.cvc, .int .i64 y.m.ro]) := laid_row w3 #[.int .i64 0, .int .i64 0, .int .i64 0, .int .i64 0, .int .i64 0, .slice none 0 0, .int .i64 0, .int .i64 0, .slice none 0 0, .slice none 0 0, .int .i64 0, .int .i64 0, .slice none 0 0, .int .i64 0, .int .i64 0, .slice none 0 0, .slice none 0 0, .slice none 0 0, .int .i64 0] #[.int .i64 y.m.fr, .int .i64 y.m.tt, .int .i64 y.m.ki, .int .i64 y.m.bau, .int .i64 y.m.bnu, .slice y.m.bta y.m.btn y.m.btc, .int .i64 y.m.hau, .int .i64 y.m.hrd, .slice y.m.hba y.m.hbn y.m.hbc, .slice y.m.hpa y.m.hpn y.m.hpc, .int .i64 y.m.sau, .int .i64 y.m.srd, .slice y.m.sda y.m.sdn y.m.sdc, .int .i64 y.m.cau, .int .i64 y.m.crd, .slice y.m.cba y.m.cbn y.m.cbc, .slice y.m.cpa y.m.cpn y.m.cpc, .slice y.m.cva y.m.cvn y.m.cvc, .int .i64 y.m.ro] 53
                have q4 := setRow_heap _ _ _ #[.int .i64 y.m.fr, .int .i64 y.m.tt, .int .i64 y.m.ki, .int .i64 y.m.bau, .int .i64 y.m.bnu, .slice y.m.bta y.m.btn y.m.btc, .int .i64 y.m.hau, .int .i64 y.m.hrd, .slice y.m.hba y.m.hbn y.m.hbc, .slice y.m.hpa y.m.hpn y.m.hpc, .int .i64 y.m.sau, .int .i64 y.m.srd, .slice y.m.sda y.m.sdn y.m.sdc, .int .i64 y.m.cau, .int .i64 y.m.crd, .slice y.m.cba y.m.cbn y.m.cbc, .slice y.m.cpa y.m.cpn y.m.cpc, .slice y.m.cva y.m.cvn y.m.cvc, .int .i64 y.m.ro] _ _ qz
                have z4 := (hA4.block _ (lt_of_heap z3)).trans z3
                have hB4 := hB3.trans (hA4.mono hB3.size)
                go_wp2_with (refine wpList_store_row rfl 53 _ _ rfl w3.heap.size #[.int .i64 y.m.fr, .int .i64 y.m.tt, .int .i64 y.m.ki, .int .i64 y.m.bau, .int .i64 y.m.bnu, .slice y.m.bta y.m.btn y.m.btc, .int .i64 y.m.hau, .int .i64 y.m.hrd, .slice y.m.hba y.m.hbn y.m.hbc, .slice y.m.hpa y.m.hpn y.m.hpc, .int .i64 y.m.sau, .int .i64 y.m.srd, .slice y.m.sda y.m.sdn y.m.sdc, .int .i64 y.m.cau, .int .i64 y.m.crd, .slice y.m.cba y.m.cbn y.m.cbc, .slice y.m.cpa y.m.cpn y.m.cpc, .slice y.m.cva y.m.cvn y.m.cvc, .int .i64 y.m.ro] rfl rfl 53 _ qz sMsg' rfl (by simp [Value.oneCell']) ?_)
                go_meet
                case rel => exact ⟨w3.heap.size, rfl, hB4, z4, .inr ⟨y, rfl, hY.below hA4, hH, hC, hyb, q4⟩⟩
          case rest =>
            obtain ⟨A, rfl, hB4, z4, h⟩ := hcut
            generalize wc = W4 at hB4 z4 h ⊢
            apply_assumption
            rcases h with ⟨F, hF0, rfl, hNo⟩ | ⟨y, rfl, hY4, hH, hC, hyb, q4⟩
            · have hFb : (F != 0) = true := by simp [hF0]
              clear hB
              go_wp2_with (refine wpList_store_row rfl 53 _ _ rfl w.heap.size #[.int .i64 0, .int .i64 0, .int .i64 0, .int .i64 0, .int .i64 0, .slice none 0 0, .int .i64 0, .int .i64 0, .slice none 0 0, .slice none 0 0, .int .i64 0, .int .i64 0, .slice none 0 0, .int .i64 0, .int .i64 0, .slice none 0 0, .slice none 0 0, .slice none 0 0, .int .i64 0] rfl rfl 53 _ z4 sMsg' rfl (by simp [Value.oneCell']) ?_)
              exact bodyPost_ret (v := .tuple #[.agg #[.int .i64 0, .int .i64 0, .int .i64 0, .int .i64 0, .int .i64 0, .slice none 0 0, .int .i64 0, .int .i64 0, .slice none 0 0, .slice none 0 0, .int .i64 0, .int .i64 0, .slice none 0 0, .int .i64 0, .int .i64 0, .slice none 0 0, .slice none 0 0, .slice none 0 0, .int .i64 0], .int .i64 0]) (results_cell_slot (fn := Try.f19) (p := 2) (q := 3) (ty := 53) rfl _ _ w.heap.size 53 _ (0, 0) _ (.int .i64 0) ⟨rfl, rfl⟩ (setRow_heap _ _ _ _ _ _ z4) Try.underlying53 rfl sMsg') rfl ⟨.inl ⟨rfl, hNo.out⟩, (Upd.setRow z4).below hB4 hB4.size (Nat.le_refl _)⟩
            · obtain ⟨hbB, hbE⟩ := hB.out y hyb
              have hCk := tapeCheck_any y.m y.ss y.bl y.pl y.cbl y.cpl y.vl W4 hY4.at'
              have hC' : checkF y.m (carriedF y.m y.ss y.bl y.pl y.cbl y.cpl y.vl) = 0 := hC
              rw [hC'] at hCk
              have HR : Hid (∀ (w0 : World) (x : MV) (r : List Int), MAt w0 x → IsRec x → bs = x.onTape ++ r → recF y.m 0 = 0) := by
                show ∀ _, _
                intro w0 x r h1 h2 h3
                have h4 := (HF.out x r h3).2.2
                rw [recF_c (same_c h1 hY4 h2.check hC (hyb.trans h4))]
                exact recF_of h2
              have HI : Hid (recF y.m 0 = 0 → IsRec y) := rec_of hC
              have HbB : Hid _ := hbB
              have HbE : Hid _ := hbE
              clear hbB hbE hyb hC hC' hB
              generalize recF y.m 0 = R at *
              go_wp2_with (refine wpList_load_row_w rfl 53 _ rfl A rfl 53 #[.int .i64 y.m.fr, .int .i64 y.m.tt, .int .i64 y.m.ki, .int .i64 y.m.bau, .int .i64 y.m.bnu, .slice y.m.bta y.m.btn y.m.btc, .int .i64 y.m.hau, .int .i64 y.m.hrd, .slice y.m.hba y.m.hbn y.m.hbc, .slice y.m.hpa y.m.hpn y.m.hpc, .int .i64 y.m.sau, .int .i64 y.m.srd, .slice y.m.sda y.m.sdn y.m.sdc, .int .i64 y.m.cau, .int .i64 y.m.crd, .slice y.m.cba y.m.cbn y.m.cbc, .slice y.m.cpa y.m.cpn y.m.cpc, .slice y.m.cva y.m.cvn y.m.cvc, .int .i64 y.m.ro] (0, 0) _ q4 Try.underlying53 rfl sMsg' ?_)
              refine hCk.mono ?_
              rintro e w5 ⟨he, hb5⟩
              clear hCk
              subst he
              dsimp only
              have hB5 := hB4.trans (hb5.mono hB4.size)
              have z5 := (hb5.block _ (lt_of_heap z4)).trans z4
              have q5 := (hb5.block _ (lt_of_heap q4)).trans q4
              have hY5 := hY4.below hb5
              by_cases hR : R = 0
              · have hI : Hid (IsRec y) := HI.out hR
                subst hR
                go_wp2_with (first | refine wpList_load_row rfl 53 _ rfl A rfl 53 #[.int .i64 y.m.fr, .int .i64 y.m.tt, .int .i64 y.m.ki, .int .i64 y.m.bau, .int .i64 y.m.bnu, .slice y.m.bta y.m.btn y.m.btc, .int .i64 y.m.hau, .int .i64 y.m.hrd, .slice y.m.hba y.m.hbn y.m.hbc, .slice y.m.hpa y.m.hpn y.m.hpc, .int .i64 y.m.sau, .int .i64 y.m.srd, .slice y.m.sda y.m.sdn y.m.sdc, .int .i64 y.m.cau, .int .i64 y.m.crd, .slice y.m.cba y.m.cbn y.m.cbc, .slice y.m.cpa y.m.cpn y.m.cpc, .slice y.m.cva y.m.cvn y.m.cvc, .int .i64 y.m.ro] (0, 0) _ q5 Try.underlying53 rfl sMsg' ?_ | refine wpList_store_row rfl 53 _ _ rfl w.heap.size #[.int .i64 y.m.fr, .int .i64 y.m.tt, .int .i64 y.m.ki, .int .i64 y.m.bau, .int .i64 y.m.bnu, .slice y.m.bta y.m.btn y.m.btc, .int .i64 y.m.hau, .int .i64 y.m.hrd, .slice y.m.hba y.m.hbn y.m.hbc, .slice y.m.hpa y.m.hpn y.m.hpc, .int .i64 y.m.sau, .int .i64 y.m.srd, .slice y.m.sda y.m.sdn y.m.sdc, .int .i64 y.m.cau, .int .i64 y.m.crd, .slice y.m.cba y.m.cbn y.m.cbc, .slice y.m.cpa y.m.cpn y.m.cpc, .slice y.m.cva y.m.cvn y.m.cvc, .int .i64 y.m.ro] rfl rfl 53 _ z5 sMsg' rfl (by simp [Value.oneCell']) ?_)
                exact bodyPost_ret (v := .tuple #[.agg #[.int .i64 y.m.fr, .int .i64 y.m.tt, .int .i64 y.m.ki, .int .i64 y.m.bau, .int .i64 y.m.bnu, .slice y.m.bta y.m.btn y.m.btc, .int .i64 y.m.hau, .int .i64 y.m.hrd, .slice y.m.hba y.m.hbn y.m.hbc, .slice y.m.hpa y.m.hpn y.m.hpc, .int .i64 y.m.sau, .int .i64 y.m.srd, .slice y.m.sda y.m.sdn y.m.sdc, .int .i64 y.m.cau, .int .i64 y.m.crd, .slice y.m.cba y.m.cbn y.m.cbc, .slice y.m.cpa y.m.cpn y.m.cpc, .slice y.m.cva y.m.cvn y.m.cvc, .int .i64 y.m.ro], .int .i64 (E : Int)]) (results_cell_slot (fn := Try.f19) (p := 2) (q := 3) (ty := 53) rfl _ _ w.heap.size 53 _ (0, 0) _ (.int .i64 (E : Int)) ⟨rfl, rfl⟩ (setRow_heap _ _ _ _ _ _ z5) Try.underlying53 rfl sMsg') rfl ⟨.inr ⟨y, bs.drop E, HbB.out, hY5.setRow (B := W2.heap.size) hH (lt_of_heap q2), hH.mono (fun q hq => Nat.le_trans hA2.size hq), hI.out, by rw [HbE.out]⟩, (Upd.setRow z5).below hB5 hB5.size (Nat.le_refl _)⟩
              · have hNo : Hid (noRec bs) := by
                  show noRec bs
                  intro w0 x r h1 h2 h3
                  exact hR (HR.out w0 x r h1 h2 h3)
                have hRb : (R != 0) = true := by simp [hR]
                go_wp2_with (refine wpList_store_row rfl 53 _ _ rfl w.heap.size #[.int .i64 0, .int .i64 0, .int .i64 0, .int .i64 0, .int .i64 0, .slice none 0 0, .int .i64 0, .int .i64 0, .slice none 0 0, .slice none 0 0, .int .i64 0, .int .i64 0, .slice none 0 0, .int .i64 0, .int .i64 0, .slice none 0 0, .slice none 0 0, .slice none 0 0, .int .i64 0] rfl rfl 53 _ z5 sMsg' rfl (by simp [Value.oneCell']) ?_)
                exact bodyPost_ret (v := .tuple #[.agg #[.int .i64 0, .int .i64 0, .int .i64 0, .int .i64 0, .int .i64 0, .slice none 0 0, .int .i64 0, .int .i64 0, .slice none 0 0, .slice none 0 0, .int .i64 0, .int .i64 0, .slice none 0 0, .int .i64 0, .int .i64 0, .slice none 0 0, .slice none 0 0, .slice none 0 0, .int .i64 0], .int .i64 0]) (results_cell_slot (fn := Try.f19) (p := 2) (q := 3) (ty := 53) rfl _ _ w.heap.size 53 _ (0, 0) _ (.int .i64 0) ⟨rfl, rfl⟩ (setRow_heap _ _ _ _ _ _ z5) Try.underlying53 rfl sMsg') rfl ⟨.inl ⟨rfl, hNo.out⟩, (Upd.setRow z5).below hB5 hB5.size (Nat.le_refl _)⟩
end Go.Proofs.Ytldlknmpkoebbaa

namespace Go.Proofs.Ytldlknmpkoebbaa
open Go.RowKit

/-- The number that a test takes out of a raw one. -/
def pk (n m : Int) : Int := if n < 0 then -(n + 1) % m else n % m
set_option maxRecDepth 100000 in
theorem pk_bounds (n m : Int) (hm : 0 < m) : 0 ≤ pk n m ∧ pk n m < m := by
  unfold pk; split
  · exact ⟨Int.emod_nonneg _ (by omega), Int.emod_lt_of_pos _ hm⟩
  · exact ⟨Int.emod_nonneg _ (by omega), Int.emod_lt_of_pos _ hm⟩
set_option maxRecDepth 100000 in
set_option maxHeartbeats 400000 in
theorem picked_any (n m : Int) (w : World) (h0 : -9223372036854775808 ≤ n) (h1 : n ≤ 9223372036854775807) (hm : 0 < m) (hm2 : m ≤ 9223372036854775807) :
    Calls Try.prog 11 #[.int .i64 n, .int .i64 m] w fun e w' => e = .returned (.int .i64 (pk n m)) ∧ w = w' := by
  have hm0 : (m == 0) = false := beq_eq_false_iff_ne.2 (by omega)
  by_cases h : n < 0
  · have hx : Hid (pk n m = -((n + 1).tmod m)) := by
      show _ = _
      rw [pk, if_pos h, ← Int.neg_tmod, Int.tmod_eq_emod_of_nonneg (by omega)]
    go_enter Try.func11, Try.ntmps11
    go_wp2
    go_ret
    exact ⟨ret_int hx.out.symm, rfl⟩
  · have hx : Hid (pk n m = n % m) := if_neg h
    go_enter Try.func11, Try.ntmps11
    go_wp2
    go_ret
    exact ⟨ret_int hx.out.symm, rfl⟩
end Go.Proofs.Ytldlknmpkoebbaa

namespace Go.Proofs.Ytldlknmpkoebbaa
open Go.RowKit

/-- A transaction of a raw text: one sign, or its first twenty bytes. -/
def txS (s : ByteArray) : ByteArray := if s.size = 0 then ⟨#[120]⟩ else s.extract 0 (min s.size 20)
set_option maxRecDepth 100000 in
theorem txS_size (s : ByteArray) : 1 ≤ (txS s).size ∧ (txS s).size ≤ 20 := by
  unfold txS
  by_cases h : s.size = 0
  · rw [if_pos h]; exact ⟨by decide, by decide⟩
  · rw [if_neg h]; simp; omega
set_option maxRecDepth 100000 in
theorem ret_str {a b : ByteArray} (h : a = b) : Ending.returned (.string a) = .returned (.string b) := by rw [h]
set_option maxRecDepth 100000 in
theorem cut_any (s : ByteArray) (w : World) (hs : s.size ≤ maxLen) :
    Calls Try.prog 96 #[.string s, .int .i64 20] w fun e w' => e = .returned (.string (s.extract 0 (min s.size 20))) ∧ w = w' := by
  unfold maxLen at hs
  by_cases h : s.size ≤ 20
  · have hm : min s.size 20 = s.size := by omega
    rw [hm]
    go_enter Try.func96, Try.ntmps96
    go_wp2_with fail
    go_ret
    exact ⟨ret_str (by simp), rfl⟩
  · have hm : min s.size 20 = 20 := by omega
    rw [hm]
    go_enter Try.func96, Try.ntmps96
    go_wp2_with fail
    go_ret
    exact ⟨rfl, rfl⟩
set_option maxRecDepth 100000 in
theorem empty_text (s : ByteArray) : s.toList.isEmpty = true ↔ s.size = 0 := by
  rw [List.isEmpty_iff, ← List.length_eq_zero_iff, ByteArray.toList_eq, Array.length_toList, ByteArray.size_data]
set_option maxRecDepth 100000 in
theorem tx_any (s : ByteArray) (w : World) (hs : s.size ≤ maxLen) :
    Calls Try.prog 79 #[.string s] w fun e w' => e = .returned (.string (txS s)) ∧ w = w' := by
  by_cases h : s.size = 0
  · have h1 : s.toList.isEmpty = true := (empty_text s).2 h
    have hF : Hid (txS s = ⟨#[120]⟩) := by show _ = _; rw [txS, if_pos h]
    clear h
    go_enter Try.func79, Try.ntmps79
    go_wp2_with fail
    go_ret
    exact ⟨ret_str hF.out.symm, rfl⟩
  · have h1 : s.toList.isEmpty = false := by
      rw [Bool.eq_false_iff]; exact fun e => h ((empty_text s).1 e)
    have hF : Hid (txS s = s.extract 0 (min s.size 20)) := by show _ = _; rw [txS, if_neg h]
    go_enter Try.func79, Try.ntmps79
    go_wp2_with fail
    refine (cut_any s w hs).mono ?_
    rintro e w1 ⟨he, rfl⟩
    subst he
    dsimp only
    go_wp2_with fail
    go_ret
    exact ⟨ret_str hF.out.symm, rfl⟩
end Go.Proofs.Ytldlknmpkoebbaa

namespace Go.Proofs.Ytldlknmpkoebbaa
open Go.RowKit

/-- The transactions of a raw batch. -/
def bTxs (ss : List ByteArray) : List ByteArray := if ss = [] then [⟨#[116]⟩] else (ss.take 4).map txS
set_option maxRecDepth 100000 in
set_option maxHeartbeats 1000000 in
theorem batch_raw (ki ra rb rc : Int) (sa : Option Addr) (cap : Nat) (ss : List ByteArray) (w : World) (h2 : I64 ra) (h3 : I64 rb) (h5 : TextsAt w sa cap ss) :
    Calls Try.prog 59 #[.agg #[.int .i64 ki, .int .i64 ra, .int .i64 rb, .int .i64 rc, .slice sa ss.length cap]] w fun e w' => ∃ ba bc, e = .returned (.agg #[.int .i64 (pk ra 4), .int .i64 (1 + pk rb 9), .slice ba (bTxs ss).length bc]) ∧ w'.ownsRow w.heap.size 9 1 (.slice ba (bTxs ss).length bc) (bTxs ss).length (sv (bTxs ss)) ∧ Below w.heap.size w w' := by
  obtain ⟨pa0, pa1⟩ := pk_bounds ra 4 (by decide)
  obtain ⟨pb0, pb1⟩ := pk_bounds rb 9 (by decide)
  have hle := h5.le
  have hre := h5.reach
  have q0 := heap_alloc2_old w (.cells #[.int .i64 ki, .int .i64 ra, .int .i64 rb, .int .i64 rc, .slice sa ss.length cap] 67) (.cells #[.int .i64 0, .int .i64 0, .slice none 0 0] 43)
  have k1 := cells_at q0 1 _ rfl
  have k2 := cells_at q0 2 _ rfl
  have hw : IntKind.i64.wrap (1 + pk rb 9) = 1 + pk rb 9 := by rw [IntKind.wrap_i64]; omega
  go_enter Try.func59, Try.ntmps59
  go_upto_region 1 with (fail)
  go_cut [3] (fun v wx => v = .pointer (some ⟨w.heap.size + 2, 0, none⟩) ∧ Below w.heap.size w wx ∧ wx.heap[w.heap.size]? = some (.cells #[.int .i64 ki, .int .i64 ra, .int .i64 rb, .int .i64 rc, .slice sa ss.length cap] 67 (0, 0)) ∧ wx.heap[w.heap.size + 1]? = some (.cells #[.int .i64 0, .int .i64 0, .slice none 0 0] 43 (0, 0)) ∧ wx.heap[w.heap.size + 2]? = some (.cells #[.int .i64 (pk ra 4), .int .i64 (1 + pk rb 9), .slice none 0 0] 43 (0, 0)))
  case first =>
    go_region_held3 (fun w' => w'.cell? ⟨w.heap.size, 1, none⟩ = some (.int .i64 ra) ∧ w'.cell? ⟨w.heap.size, 2, none⟩ = some (.int .i64 rb)) (go_keep) (first | (go_at_call 11; refine (picked_any _ _ _ (by first | exact h2.1 | exact h3.1) (by first | exact h2.2 | exact h3.2) (by omega) (by omega)).mono ?_; rintro e w9 ⟨rfl, rfl⟩))
    all_goals
      go_wp2_with fail
      go_meet
      case rel =>
        refine ⟨rfl, ((((Below.refl _ _).alloc (Nat.le_refl _) _).alloc (by simp) _).alloc (by simp; omega) _).drew, ?_, ?_, ?_⟩
        · exact heap_keep (heap_keep (heap_alloc_new w _))
        · exact heap_keep (heap_new_at _ _ _ (by simp))
        · exact heap_new_at _ _ _ (by simp)
  case rest =>
    obtain ⟨rfl, hW, r0, r1, r2⟩ := hcut
    clear k1 k2 q0 hw
    obtain ⟨i, hi, hz0, hz1, hz2⟩ := info_parts infoStr
    have hN := lt_of_heap r2
    go_wp2_with fail
    go_loopw [4] (fun j wr => ∃ (k : Nat) (v : Value), k ≤ ss.length ∧ k ≤ 4 ∧ j = .int .i64 k ∧ Below w.heap.size w wr ∧ wr.heap[w.heap.size]? = some (.cells #[.int .i64 ki, .int .i64 ra, .int .i64 rb, .int .i64 rc, .slice sa ss.length cap] 67 (0, 0)) ∧ wr.heap[w.heap.size + 1]? = some (.cells #[.int .i64 0, .int .i64 0, .slice none 0 0] 43 (0, 0)) ∧ wr.heap[w.heap.size + 2]? = some (.cells #[.int .i64 (pk ra 4), .int .i64 (1 + pk rb 9), v] 43 (0, 0)) ∧ wr.ownsRow (w.heap.size + 3) 9 1 v k (sv ((ss.take k).map txS))) (fun j _ => ss.length - (intOf j).toNat)
    case atStart => exact ⟨0, _, Nat.zero_le _, Nat.zero_le _, rfl, hW, r0, r1, r2, World.ownsRow_nil _ _ _ _⟩
    case round =>
      clear hW r0 r1 r2 hN
      obtain ⟨k, v, hk, hk4, rfl, hW, r0, r1, r2, ho⟩ := hrel
      have c4 : wr.cell? ⟨w.heap.size, 4, none⟩ = some (.slice sa ss.length cap) := cells_at r0 4 _ rfl
      have o2 : wr.cell? ⟨w.heap.size + 2, 2, none⟩ = some v := cells_at r2 2 _ rfl
      have of2 := frozen_at r2 2
      have hN : w.heap.size + 2 < wr.heap.size := lt_of_heap r2
      by_cases hlt : k < ss.length ∧ k < 4
      · obtain ⟨hlt, hlt4⟩ := hlt
        obtain ⟨sb, so, rfl, hc⟩ : ∃ sb so, sa = some ⟨sb, so, none⟩ ∧ ∀ j, j < ss.length → wr.cell? ⟨sb, so + j, none⟩ = some (.string (ss.getD j ByteArray.empty)) := by
          rcases (h5.strs.below hW).cells with h | h
          · rw [h] at hlt; simp at hlt
          · exact h
        have ck := hc k hlt
        have hsz : (ss.getD k ByteArray.empty).size ≤ maxLen := h5.strs.size _ (by simp [List.getD, hlt])
        have hltI : (k : Int) < ss.length := by omega
        have hlt4I : (k : Int) < 4 := by omega
        have hst : Hid ((ss.take (k + 1)).map txS = (ss.take k).map txS ++ [txS (ss.getD k ByteArray.empty)]) := by
          show _ = _
          rw [List.take_succ_eq_append_getElem hlt, List.map_append]
          simp only [List.map_cons, List.map_nil, List.getD, List.getElem?_eq_getElem hlt, Option.getD_some]
        have hvb : v.ownBlock ≠ some (w.heap.size + 2) := fun e => by have := (ho.lt _ e).1; omega
        clear hc
        generalize ss.getD k ByteArray.empty = x at ck hst hsz
        go_wp2_with fail
        have hA : Below wr.heap.size wr (wr.alloc (.cells #[.string (txS x)] 9)).drew := ((Below.refl _ _).alloc (Nat.le_refl _) _).drew
        have r0A : (wr.alloc (.cells #[.string (txS x)] 9)).drew.heap[w.heap.size]? = some (.cells #[.int .i64 ki, .int .i64 ra, .int .i64 rb, .int .i64 rc, .slice (some ⟨sb, so, none⟩) ss.length cap] 67 (0, 0)) := heap_keep r0
        have r1A : (wr.alloc (.cells #[.string (txS x)] 9)).drew.heap[w.heap.size + 1]? = some (.cells #[.int .i64 0, .int .i64 0, .slice none 0 0] 43 (0, 0)) := heap_keep r1
        have r2A : (wr.alloc (.cells #[.string (txS x)] 9)).drew.heap[w.heap.size + 2]? = some (.cells #[.int .i64 (pk ra 4), .int .i64 (1 + pk rb 9), v] 43 (0, 0)) := heap_keep r2
        have hv0 : v.ownBlock ≠ some w.heap.size := fun e => by have := (ho.lt _ e).1; omega
        have hv1 : v.ownBlock ≠ some (w.heap.size + 1) := fun e => by have := (ho.lt _ e).1; omega
        have ckA : (wr.alloc (.cells #[.string (txS x)] 9)).drew.cell? ⟨sb, so + k, none⟩ = some (.string x) := (hA.cell (p := ⟨sb, so + k, none⟩) (block_lt_of_cell ck)).trans ck
        have hsbN : sb < w.heap.size := by
          rcases h5.strs.cells with h | ⟨sb', so', e, h⟩
          · rw [h] at hlt; simp at hlt
          · cases e; exact block_lt_of_cell (h k hlt)
        have hent := enters_of Try.func79 (by kernel_rfl) rfl
        go_region_law (first | (refine step_calls rfl 79 _ _ rfl [.string x] rfl hent (fun u w9 => u = .string (txS x) ∧ w9 = _) ((tx_any x _ hsz).mono (fun e w9 ⟨he, hw9⟩ => ⟨_, he, rfl, hw9.symm⟩)) ?_; rintro u w9 ⟨rfl, rfl⟩) | (refine step_append_own rfl _ _ 41 rfl (w.heap.size + 3) 9 i (.string ByteArray.empty) 1 16 Try.underlying41 hi hz0 hz1 hz2 rfl (by decide) _ k _ rfl (World.ownsRow.alloc ho.drew _) ⟨wr.heap.size, 0, none⟩ 1 1 [.string (txS x)] rfl rfl (cells_new _ _ _) (sv_one [_]) (by unfold maxLen; omega) (by omega) (le_alloc hN _) ?_; intro v1 w2 ho1 hg1; have s0 := (hg1.block _ (lt_of_heap r0A) (fun e => hv0 e.symm)).trans r0A; have s1 := (hg1.block _ (lt_of_heap r1A) (fun e => hv1 e.symm)).trans r1A; have s2 := (hg1.block _ (lt_of_heap r2A) (fun e => hvb e.symm)).trans r2A; have p2 : w2.cell? ⟨w.heap.size + 2, 2, none⟩ = some v := cells_at s2 2 _ rfl; have p4 : w2.cell? ⟨w.heap.size, 4, none⟩ = some (.slice (some ⟨sb, so, none⟩) ss.length cap) := cells_at s0 4 _ rfl; have pk' : w2.cell? ⟨sb, so + k, none⟩ = some (.string x) := (World.cell?_of_block (hg1.block sb (block_lt_of_cell ckA) (fun e => by have := (ho.lt _ e.symm).1; omega))).trans ckA; have pf2 := frozen_at s2 2; obtain ⟨qa, qc, hq⟩ := owns_shape ho1; subst hq))
        all_goals
          go_wp2_with fail
          go_roundw
          case rel =>
            have hb2 : Below w.heap.size w w2 := Below.grown (hW.drew.alloc hW.size _) hg1 (le_alloc hW.size _) (fun q e => by have := (ho.lt q e).1; omega)
            have hR : ∃ (k' : Nat) (v' : Value), k' ≤ ss.length ∧ k' ≤ 4 ∧ (Value.int .i64 ((k : Int) + 1)) = .int .i64 k' ∧ Below w.heap.size w (w2.setCell ⟨w.heap.size + 2, 2, none⟩ (.slice qa (k + 1) qc)) ∧ (w2.setCell ⟨w.heap.size + 2, 2, none⟩ (.slice qa (k + 1) qc)).heap[w.heap.size]? = some (.cells #[.int .i64 ki, .int .i64 ra, .int .i64 rb, .int .i64 rc, .slice (some ⟨sb, so, none⟩) ss.length cap] 67 (0, 0)) ∧ (w2.setCell ⟨w.heap.size + 2, 2, none⟩ (.slice qa (k + 1) qc)).heap[w.heap.size + 1]? = some (.cells #[.int .i64 0, .int .i64 0, .slice none 0 0] 43 (0, 0)) ∧ (w2.setCell ⟨w.heap.size + 2, 2, none⟩ (.slice qa (k + 1) qc)).heap[w.heap.size + 2]? = some (.cells #[.int .i64 (pk ra 4), .int .i64 (1 + pk rb 9), v'] 43 (0, 0)) ∧ (w2.setCell ⟨w.heap.size + 2, 2, none⟩ (.slice qa (k + 1) qc)).ownsRow (w.heap.size + 3) 9 1 v' k' (sv ((ss.take k').map txS)) :=
              ⟨k + 1, .slice qa (k + 1) qc, by omega, by omega, by go_num, hb2.setCell (by simp) _, heap_far s0 (by omega), heap_far s1 (by omega), by simpa using heap_setCell_same _ _ 2 _ _ (.slice qa (k + 1) qc) s2, by rw [hst.out]; exact owns_far (by simpa [sv] using ho1) _ _ _ (by omega)⟩
            first | exact hR | ((repeat apply Exists.intro); exact ⟨hR, rfl⟩)
          case measure => simp [intOf]; omega
      · obtain ⟨za, zc, hz⟩ := owns_shape ho
        subst hz
        have p0 : wr.cell? ⟨w.heap.size + 2, 0, none⟩ = some (.int .i64 (pk ra 4)) := cells_at r2 0 _ rfl
        have p1 : wr.cell? ⟨w.heap.size + 2, 1, none⟩ = some (.int .i64 (1 + pk rb 9)) := cells_at r2 1 _ rfl
        have d0 : wr.cell? ⟨w.heap.size + 1, 0, none⟩ = some (.int .i64 0) := cells_at r1 0 _ rfl
        have d1 : wr.cell? ⟨w.heap.size + 1, 1, none⟩ = some (.int .i64 0) := cells_at r1 1 _ rfl
        have d2 : wr.cell? ⟨w.heap.size + 1, 2, none⟩ = some (.slice none 0 0) := cells_at r1 2 _ rfl
        have hN1 : w.heap.size + 1 < wr.heap.size := by omega
        have f0 := frozen_at r1 0
        have f1 := frozen_at r1 1
        have f2 := frozen_at r1 2
        by_cases h0 : k = 0
        · subst h0
          have hs0 : ss = [] := List.eq_nil_of_length_eq_zero (by omega)
          subst hs0
          go_wp2_with fail
          refine bodyPost_ret (v := .agg #[.int .i64 (pk ra 4), .int .i64 (1 + pk rb 9), .slice (some ⟨wr.heap.size, 0, none⟩) 1 1]) (by simp [results, Try.results59, go_sem, d0, d1, d2, hN1]) rfl ⟨_, _, rfl, ?_, ?_⟩
          · have hO := World.ownsRow_lit (base := w.heap.size) (e := 9) (size := 1) ((((wr.setCell ⟨w.heap.size + 2, 2, none⟩ (.slice (some ⟨wr.heap.size, 0, none⟩) 1 1)).setCell ⟨w.heap.size + 1, 0, none⟩ (.int .i64 (pk ra 4))).setCell ⟨w.heap.size + 1, 1, none⟩ (.int .i64 (1 + pk rb 9))).setCell ⟨w.heap.size + 1, 2, none⟩ (.slice (some ⟨wr.heap.size, 0, none⟩) 1 1)) (sv [⟨#[116]⟩]).toArray 1 (by simpa using hW.size) (by decide) rfl
            simpa [bTxs, sv] using hO
          · exact ((((hW.setCell (by simp) _).setCell (by simp) _).setCell (by simp) _).setCell (by simp) _).alloc (by simpa using hW.size) _
        · have h0I : ¬ (k : Int) = 0 := by omega
          have hB : Hid (bTxs ss = (ss.take k).map txS) := by
            show _ = _
            have hne : ss ≠ [] := fun e => by subst e; simp at hk; omega
            have : ss.take 4 = ss.take k := by
              by_cases h4 : k = 4
              · rw [h4]
              · have : k = ss.length := by omega
                rw [List.take_of_length_le (by omega), List.take_of_length_le (by omega)]
            rw [bTxs, if_neg hne, this]
          have hl : Hid (k = (bTxs ss).length) := by show _ = _; rw [hB.out]; simp; omega
          by_cases h4 : k < ss.length
          · obtain rfl : k = 4 := by omega
            have hltI : (4 : Int) < ss.length := by omega
            go_wp2_with fail
            refine bodyPost_ret (v := .agg #[.int .i64 (pk ra 4), .int .i64 (1 + pk rb 9), .slice za 4 zc]) (by simp [results, Try.results59, go_sem, d0, d1, d2]) rfl ?_
            rw [← hl.out, hB.out]
            exact ⟨_, _, rfl, ownsRow_base' (owns_far (owns_far (owns_far ho _ _ _ (by omega)) _ _ _ (by omega)) _ _ _ (by omega)) (by omega), (((hW.setCell (by simp) _).setCell (by simp) _).setCell (by simp) _)⟩
          · have hltI : ¬ (k : Int) < ss.length := by omega
            go_wp2_with fail
            refine bodyPost_ret (v := .agg #[.int .i64 (pk ra 4), .int .i64 (1 + pk rb 9), .slice za k zc]) (by simp [results, Try.results59, go_sem, d0, d1, d2]) rfl ?_
            rw [← hl.out, hB.out]
            exact ⟨_, _, rfl, ownsRow_base' (owns_far (owns_far (owns_far ho _ _ _ (by omega)) _ _ _ (by omega)) _ _ _ (by omega)) (by omega), (((hW.setCell (by simp) _).setCell (by simp) _).setCell (by simp) _)⟩
end Go.Proofs.Ytldlknmpkoebbaa

namespace Go.Proofs.Ytldlknmpkoebbaa
open Go.RowKit

set_option maxRecDepth 100000 in
theorem bTxs_ok (ss : List ByteArray) : (1 ≤ (bTxs ss).length ∧ (bTxs ss).length ≤ 4) ∧ ∀ s ∈ bTxs ss, 1 ≤ s.size ∧ s.size ≤ 20 := by
  unfold bTxs
  by_cases h : ss = []
  · rw [if_pos h]
    exact ⟨by simp, fun s hs => by simp at hs; subst hs; decide⟩
  · rw [if_neg h]
    have : 0 < ss.length := List.length_pos_iff.2 h
    refine ⟨by simp; omega, fun s hs => ?_⟩
    simp only [List.mem_map] at hs
    obtain ⟨x, _, rfl⟩ := hs
    exact txS_size x
set_option maxRecDepth 100000 in
theorem batchF_raw (ra rb : Int) (ss : List ByteArray) : batchF (pk ra 4) (1 + pk rb 9) (bTxs ss) = 0 := by
  obtain ⟨pa0, pa1⟩ := pk_bounds ra 4 (by decide)
  obtain ⟨pb0, pb1⟩ := pk_bounds rb 9 (by decide)
  obtain ⟨⟨h1, h2⟩, h3⟩ := bTxs_ok ss
  rw [batchF, if_neg (by omega), if_neg (by omega), if_pos]
  rw [List.all_eq_true]
  exact fun s hs => by simpa [txOk] using h3 s hs
end Go.Proofs.Ytldlknmpkoebbaa

namespace Go.Proofs.Ytldlknmpkoebbaa
open Go.RowKit

def someL (n m : Int) : List Int := (((List.replicate 32 0).set 0 (pk n 256)).set 1 (m % 256)).set 31 1
set_option maxRecDepth 100000 in
theorem someL_length (n m : Int) : (someL n m).length = 32 := by simp [someL]
set_option maxRecDepth 100000 in
theorem makeSome (w : World) : (Instr.makeSlice 22 (.int .i64 32) (.int .i64 32)).run Try.prog w = .ok (.slice (some ⟨w.heap.size, 0, none⟩) 32 32) (w.alloc (.cells (ub (List.replicate 32 0)).toArray 5)) := by kernel_rfl
set_option maxRecDepth 100000 in
theorem ub_set (l : List Int) (i : Nat) (x : Int) : (ub l).set i (.int .u8 x) = ub (l.set i x) := by simp [ub, List.map_set]

set_option maxRecDepth 100000 in
set_option maxHeartbeats 1000000 in
theorem some_any (n m : Int) (w : World) (hn : I64 n) :
    Calls Try.prog 61 #[.int .i64 n, .int .i64 m] w fun e w' => e = .returned (.slice (some ⟨w.heap.size, 0, none⟩) 32 32) ∧ w'.ownsRow w.heap.size 5 1 (.slice (some ⟨w.heap.size, 0, none⟩) 32 32) 32 (ub (someL n m)) ∧ Below w.heap.size w w' := by
  have hmk := fun w => makeSome w
  have ho := World.ownsRow_lit (base := w.heap.size) (e := 5) (size := 1) w (ub (List.replicate 32 0)).toArray 32 (Nat.le_refl _) (by decide) rfl
  have c0 := (World.ownsRow.cellAt ho 0 (by omega))
  have c1 := (World.ownsRow.cellAt ho 1 (by omega))
  have c31 := (World.ownsRow.cellAt ho 31 (by omega))
  have f0 := World.ownsRow.frozenAt ho 0
  have f1 := World.ownsRow.frozenAt ho 1
  have f31 := World.ownsRow.frozenAt ho 31
  obtain ⟨hp0, hp1⟩ := pk_bounds n 256 (by decide)
  have hO := World.ownsRow_lit (base := w.heap.size) (e := 5) (size := 1) w (ub (someL n m)).toArray 32 (Nat.le_refl _) (by decide) (by simp [ub, someL])
  go_enter Try.func61, Try.ntmps61
  go_wp2_with (go_at_call 11; refine (picked_any n 256 _ hn.1 hn.2 (by decide) (by decide)).mono ?_; rintro e w' ⟨rfl, rfl⟩)
  go_ret
  refine ⟨rfl, ?_, (Below.refl _ _).alloc (Nat.le_refl _) _⟩
  rw [ub_set, ub_set, ub_set]
  exact hO
end Go.Proofs.Ytldlknmpkoebbaa
