/- wire.read: what it answers, for all bytes. -/
import Derived.Test.YthijfhbmkpfnkaaRdM
namespace Go.Proofs.Ythijfhbmkpfnkaa
open Go.RowKit

set_option maxRecDepth 100000 in
theorem isKind_bool (k : Int) (r : Bool) (w : World) (h : r = decide (1 ≤ k ∧ k ≤ 5)) : Calls Try.prog 35 #[.int .i64 k] w fun e w' => e = .returned (.bool r) ∧ w = w' := by
  by_cases h1 : 1 ≤ k
  · by_cases h2 : k ≤ 5
    · obtain rfl : r = true := by simp [h, h1, h2]
      clear h
      go_enter Try.func35, Try.ntmps35
      go_wp2
      go_ret
      exact ⟨rfl, rfl⟩
    · obtain rfl : r = false := by simp [h, h2]
      clear h
      go_enter Try.func35, Try.ntmps35
      go_wp2
      go_ret
      exact ⟨rfl, rfl⟩
  · obtain rfl : r = false := by simp [h, h1]
    clear h
    go_enter Try.func35, Try.ntmps35
    go_wp2
    go_ret
    exact ⟨rfl, rfl⟩
/-- P2.10: what is told of bytes, but for what they say. -/
def readF (bs : List Int) : Int := if 4000 < bs.length then 1 else if bs = [] then 5 else if ¬ (1 ≤ bs.getD 0 0 ∧ bs.getD 0 0 ≤ 5) then 3 else if (mS (bs, false)).2 = true then 5 else if (mS (bs, false)).1 ≠ [] then 4 else 0
/-- What read gives. -/
structure ReadIs (w w' : World) (e : Ending) (bs : List Int) : Prop where
  out : (readF bs ≠ 0 ∧ e = .returned (.tuple #[.agg #[.int .i64 0, .int .i64 0, .int .i64 0, .int .i64 0, .int .i64 0, .slice none 0 0, .int .i64 0, .int .i64 0, .slice none 0 0, .slice none 0 0, .int .i64 0, .int .i64 0, .slice none 0 0, .int .i64 0, .int .i64 0, .slice none 0 0, .slice none 0 0, .slice none 0 0, .int .i64 0], .int .i64 (readF bs)]) ∨ readF bs = 0 ∧ ∃ x : MV, e = .returned (.tuple #[.agg #[.int .i64 x.m.fr, .int .i64 x.m.tt, .int .i64 x.m.ki, .int .i64 x.m.bau, .int .i64 x.m.bnu, .slice x.m.bta x.m.btn x.m.btc, .int .i64 x.m.hau, .int .i64 x.m.hrd, .slice x.m.hba x.m.hbn x.m.hbc, .slice x.m.hpa x.m.hpn x.m.hpc, .int .i64 x.m.sau, .int .i64 x.m.srd, .slice x.m.sda x.m.sdn x.m.sdc, .int .i64 x.m.cau, .int .i64 x.m.crd, .slice x.m.cba x.m.cbn x.m.cbc, .slice x.m.cpa x.m.cpn x.m.cpc, .slice x.m.cva x.m.cvn x.m.cvc, .int .i64 x.m.ro], .int .i64 0]) ∧ MAt w' x ∧ HasM (fun q => w.heap.size ≤ q) x ∧ x.c = pM (bs, false))
  below : Below w.heap.size w w'
set_option maxRecDepth 100000 in
theorem nB1_first {bs : List Int} (h : bs ≠ []) : nB 1 (bs, false) = bs.getD 0 0 := by
  cases bs with
  | nil => exact absurd rfl h
  | cons a l =>
    have e : tT 1 (a :: l, false) = [a] := (tk_ok (n := 1) (l := a :: l) (by simp)).1
    rw [nB, e]
    simp [numB]
set_option maxRecDepth 100000 in
theorem results_cell_slot {fn : Func} {p q : Tmp} {ty : TypeId} (h : fn.results = #[.cell p ty, .tmp q]) (tmps : Array Value) (w : World) (g : Nat) (t : TypeId) (cs : Array Value) (fr : Nat × Nat) (d : TypeDesc) (v : Value)
    (hp : tmps.getD p undef = .pointer (some ⟨g, 0, none⟩) ∧ tmps.getD q undef = v) (hg : w.heap[g]? = some (.cells cs t fr))
    (hu : Try.prog.underlying ty = some d) (hd : (match d with | .struct _ | .array _ _ => true | _ => false) = true) (hi : (Try.prog.info? ty).map (·.size) = some cs.size) :
    (results fn tmps).run Try.prog w = .ok (.tuple #[.agg cs, v]) w := by
  have hp' : tmps[p]?.getD undef = .pointer (some ⟨g, 0, none⟩) := by simpa using hp.1
  have hq' : tmps[q]?.getD undef = v := by simpa using hp.2
  simp [results, h, hp', hq', asAddr, run_loadVar_row w g t ty cs fr d hg hu (by cases d <;> first | exact hd | rfl) hi]
set_option maxRecDepth 100000 in
set_option maxHeartbeats 4000000 in
theorem read_any (bs : List Int) (sa : Option Addr) (n cap : Nat) (w : World) (hn : n = bs.length) (hs : SliceAt w sa cap bs) (hu : U8s bs) (hl : bs.length ≤ 140737488355328) :
    Calls Try.prog 24 #[.slice sa n cap] w fun e w' => ReadIs w w' e bs := by
  subst hn
  have hA : Below w.heap.size w (w.alloc (.cells #[.int .i64 0, .int .i64 0, .int .i64 0, .int .i64 0, .int .i64 0, .slice none 0 0, .int .i64 0, .int .i64 0, .slice none 0 0, .slice none 0 0, .int .i64 0, .int .i64 0, .slice none 0 0, .int .i64 0, .int .i64 0, .slice none 0 0, .slice none 0 0, .slice none 0 0, .int .i64 0] 37)) := (Below.refl _ _).alloc (Nat.le_refl _) _
  have q0 := heap_alloc_new w (.cells #[.int .i64 0, .int .i64 0, .int .i64 0, .int .i64 0, .int .i64 0, .slice none 0 0, .int .i64 0, .int .i64 0, .slice none 0 0, .slice none 0 0, .int .i64 0, .int .i64 0, .slice none 0 0, .int .i64 0, .int .i64 0, .slice none 0 0, .slice none 0 0, .slice none 0 0, .int .i64 0] 37)
  have hsz : w.heap.size < (w.alloc (.cells #[.int .i64 0, .int .i64 0, .int .i64 0, .int .i64 0, .int .i64 0, .slice none 0 0, .int .i64 0, .int .i64 0, .slice none 0 0, .slice none 0 0, .int .i64 0, .int .i64 0, .slice none 0 0, .int .i64 0, .int .i64 0, .slice none 0 0, .slice none 0 0, .slice none 0 0, .int .i64 0] 37)).heap.size := lt_of_heap q0
  by_cases h1 : 4000 < bs.length
  · have hF : Hid (readF bs = 1) := by show _ = _; rw [readF, if_pos h1]
    have h1I : (4000 : Int) < bs.length := by omega
    go_enter Try.func24, Try.ntmps24
    go_upto_region 2 with fail
    generalize w.alloc (.cells #[.int .i64 0, .int .i64 0, .int .i64 0, .int .i64 0, .int .i64 0, .slice none 0 0, .int .i64 0, .int .i64 0, .slice none 0 0, .slice none 0 0, .int .i64 0, .int .i64 0, .slice none 0 0, .int .i64 0, .int .i64 0, .slice none 0 0, .slice none 0 0, .slice none 0 0, .int .i64 0] 37) = W0 at hA q0 hsz ⊢
    go_wp2_with (refine wpList_store_row rfl 37 _ _ rfl w.heap.size #[.int .i64 0, .int .i64 0, .int .i64 0, .int .i64 0, .int .i64 0, .slice none 0 0, .int .i64 0, .int .i64 0, .slice none 0 0, .slice none 0 0, .int .i64 0, .int .i64 0, .slice none 0 0, .int .i64 0, .int .i64 0, .slice none 0 0, .slice none 0 0, .slice none 0 0, .int .i64 0] rfl rfl 37 _ q0 sMsg' rfl (by simp [Value.oneCell']) ?_)
    have hFc := hF.out
    refine bodyPost_ret (v := .tuple #[.agg #[.int .i64 0, .int .i64 0, .int .i64 0, .int .i64 0, .int .i64 0, .slice none 0 0, .int .i64 0, .int .i64 0, .slice none 0 0, .slice none 0 0, .int .i64 0, .int .i64 0, .slice none 0 0, .int .i64 0, .int .i64 0, .slice none 0 0, .slice none 0 0, .slice none 0 0, .int .i64 0], .int .i64 1]) (results_cell_slot (fn := Try.f24) (p := 2) (q := 3) (ty := 37) rfl _ _ w.heap.size 37 _ (0, 0) _ (.int .i64 1) ⟨rfl, rfl⟩ (setRow_heap _ _ _ _ _ _ q0) Try.underlying37 rfl sMsg') rfl ⟨.inl ⟨by rw [hFc]; decide, by rw [hFc]⟩, (Upd.setRow q0).below hA hA.size (Nat.le_refl _)⟩
  · have h1I : ¬ (4000 : Int) < bs.length := by omega
    by_cases h2 : bs = []
    · have hF : Hid (readF bs = 5) := by show _ = _; rw [readF, if_neg h1, if_pos h2]
      have h2I : ((bs.length : Int) == 0) = true := by rw [h2]; rfl
      clear h2 hs hu
      go_enter Try.func24, Try.ntmps24
      go_upto_region 4 with fail
      generalize w.alloc (.cells #[.int .i64 0, .int .i64 0, .int .i64 0, .int .i64 0, .int .i64 0, .slice none 0 0, .int .i64 0, .int .i64 0, .slice none 0 0, .slice none 0 0, .int .i64 0, .int .i64 0, .slice none 0 0, .int .i64 0, .int .i64 0, .slice none 0 0, .slice none 0 0, .slice none 0 0, .int .i64 0] 37) = W0 at hA q0 hsz ⊢
      go_wp2_with (refine wpList_store_row rfl 37 _ _ rfl w.heap.size #[.int .i64 0, .int .i64 0, .int .i64 0, .int .i64 0, .int .i64 0, .slice none 0 0, .int .i64 0, .int .i64 0, .slice none 0 0, .slice none 0 0, .int .i64 0, .int .i64 0, .slice none 0 0, .int .i64 0, .int .i64 0, .slice none 0 0, .slice none 0 0, .slice none 0 0, .int .i64 0] rfl rfl 37 _ q0 sMsg' rfl (by simp [Value.oneCell']) ?_)
      have hFc := hF.out
      refine bodyPost_ret (v := .tuple #[.agg #[.int .i64 0, .int .i64 0, .int .i64 0, .int .i64 0, .int .i64 0, .slice none 0 0, .int .i64 0, .int .i64 0, .slice none 0 0, .slice none 0 0, .int .i64 0, .int .i64 0, .slice none 0 0, .int .i64 0, .int .i64 0, .slice none 0 0, .slice none 0 0, .slice none 0 0, .int .i64 0], .int .i64 5]) (results_cell_slot (fn := Try.f24) (p := 2) (q := 3) (ty := 37) rfl _ _ w.heap.size 37 _ (0, 0) _ (.int .i64 5) ⟨rfl, rfl⟩ (setRow_heap _ _ _ _ _ _ q0) Try.underlying37 rfl sMsg') rfl ⟨.inl ⟨by rw [hFc]; decide, by rw [hFc]⟩, (Upd.setRow q0).below hA hA.size (Nat.le_refl _)⟩
    · have hpos : 0 < bs.length := by cases bs with | nil => exact absurd rfl h2 | cons _ _ => simp
      have hposI : (0 : Int) < bs.length := by omega
      have h2I : ((bs.length : Int) == 0) = false := by simp; omega
      obtain ⟨sb, so, rfl, hc⟩ : ∃ sb so, sa = some ⟨sb, so, none⟩ ∧ ∀ j, j < bs.length → w.cell? ⟨sb, so + j, none⟩ = some (.int .u8 (bs.getD j 0)) := by
        rcases hs.bytes with h | h
        · exact absurd h h2
        · exact h
      have hsb : sb < w.heap.size := block_lt_of_cell (hc 0 hpos)
      have c0 : (w.alloc (.cells #[.int .i64 0, .int .i64 0, .int .i64 0, .int .i64 0, .int .i64 0, .slice none 0 0, .int .i64 0, .int .i64 0, .slice none 0 0, .slice none 0 0, .int .i64 0, .int .i64 0, .slice none 0 0, .int .i64 0, .int .i64 0, .slice none 0 0, .slice none 0 0, .slice none 0 0, .int .i64 0] 37)).cell? ⟨sb, so, none⟩ = some (.int .u8 (bs.getD 0 0)) := (hA.cell (p := ⟨sb, so, none⟩) hsb).trans (hc 0 hpos)
      obtain ⟨hx0, hx1⟩ := hu (bs.getD 0 0) (by simp [List.getD, hpos])
      have hK := nB1_first h2
      have hR0 : readF bs = if ¬ (1 ≤ bs.getD 0 0 ∧ bs.getD 0 0 ≤ 5) then 3 else if (mS (bs, false)).2 = true then 5 else if (mS (bs, false)).1 ≠ [] then 4 else 0 := by rw [readF, if_neg h1, if_neg h2]
      have HR0 : Hid _ := hR0
      have HNE : Hid (bs ≠ []) := h2
      clear hR0 hc h2
      generalize hX : bs.getD 0 0 = X at *
      have HKX : Hid (nB 1 (bs, false) = X) := hK
      clear hK hX
      by_cases hk : 1 ≤ X ∧ X ≤ 5
      · have hkd : decide (1 ≤ X ∧ X ≤ 5) = true := decide_eq_true hk
        have HIK : Hid (∀ W : World, Calls Try.prog 35 #[.int .i64 X] W fun e w' => e = .returned (.bool true) ∧ W = w') := by
          show ∀ _, _
          intro W
          exact isKind_bool X true W hkd.symm
        have HKK : Hid (1 ≤ X ∧ X ≤ 5) := hk
        clear hkd
        obtain ⟨hk1, hk2⟩ := hk
        go_enter Try.func24, Try.ntmps24
        go_upto_region 8 with (go_at_call 35; refine (HIK.out _).mono ?_; rintro e w9 ⟨rfl, rfl⟩)
        have hA2 : Below w.heap.size w ((w.alloc (.cells #[.int .i64 0, .int .i64 0, .int .i64 0, .int .i64 0, .int .i64 0, .slice none 0 0, .int .i64 0, .int .i64 0, .slice none 0 0, .slice none 0 0, .int .i64 0, .int .i64 0, .slice none 0 0, .int .i64 0, .int .i64 0, .slice none 0 0, .slice none 0 0, .slice none 0 0, .int .i64 0] 37)).alloc (.cells #[.slice (some ⟨sb, so, none⟩) bs.length cap, .bool false] 72)) := hA.alloc hA.size _
        have qR := heap_alloc2_new w (.cells #[.int .i64 0, .int .i64 0, .int .i64 0, .int .i64 0, .int .i64 0, .slice none 0 0, .int .i64 0, .int .i64 0, .slice none 0 0, .slice none 0 0, .int .i64 0, .int .i64 0, .slice none 0 0, .int .i64 0, .int .i64 0, .slice none 0 0, .slice none 0 0, .slice none 0 0, .int .i64 0] 37) (.cells #[.slice (some ⟨sb, so, none⟩) bs.length cap, .bool false] 72)
        have q0A := heap_alloc2_old w (.cells #[.int .i64 0, .int .i64 0, .int .i64 0, .int .i64 0, .int .i64 0, .slice none 0 0, .int .i64 0, .int .i64 0, .slice none 0 0, .slice none 0 0, .int .i64 0, .int .i64 0, .slice none 0 0, .int .i64 0, .int .i64 0, .slice none 0 0, .slice none 0 0, .slice none 0 0, .int .i64 0] 37) (.cells #[.slice (some ⟨sb, so, none⟩) bs.length cap, .bool false] 72)
        generalize (w.alloc (.cells #[.int .i64 0, .int .i64 0, .int .i64 0, .int .i64 0, .int .i64 0, .slice none 0 0, .int .i64 0, .int .i64 0, .slice none 0 0, .slice none 0 0, .int .i64 0, .int .i64 0, .slice none 0 0, .int .i64 0, .int .i64 0, .slice none 0 0, .slice none 0 0, .slice none 0 0, .int .i64 0] 37)).alloc (.cells #[.slice (some ⟨sb, so, none⟩) bs.length cap, .bool false] 72) = W2 at hA2 qR q0A ⊢
        have hRd : RdS W2 (w.heap.size + 1) (bs, false) := ⟨some ⟨sb, so, none⟩, cap, qR, hs.below hA2, fun sb' so' e => by cases e; exact ⟨by omega, fun _ => by omega⟩⟩
        have hMs := message_rd (w.heap.size + 1) (bs, false) W2 hRd ⟨by show bs.length ≤ _; omega, hu⟩ (by rw [HKX.out]; exact HKK.out)
        have hszW : w.heap.size + 1 < W2.heap.size := lt_of_heap qR
        have HR1 : Hid (readF bs = if (mS (bs, false)).2 = true then 5 else if (mS (bs, false)).1 ≠ [] then 4 else 0) := by show _ = _; rw [HR0.out, if_neg (fun h => h HKK.out)]
        clear hRd c0 HR0 hs hu hA q0 hsz
        go_wp2_with fail
        refine hMs.mono ?_
        rintro e w3 ⟨x, he, hM, hH, hcx, hR3, ho3⟩
        subst he
        dsimp only
        clear hMs
        have z3 := (ho3.block _ (by omega) (by omega)).trans q0A
        obtain ⟨la, lc, hr3, -, -⟩ := RdrAt.out hR3
        generalize (mS (bs, false)).1 = ml at *
        generalize (mS (bs, false)).2 = msh at *
        have hOw : Only (w.heap.size + 1) w w3 := (only_of_below hA2).trans ho3
        have hB3 := hOw.below (B := w.heap.size) (by omega) (Nat.le_refl _)
        have hlt3 : w.heap.size + 1 < w3.heap.size := lt_of_heap hr3
        have qz := heap_alloc_new w3 (.cells #[.int .i64 0, .int .i64 0, .int .i64 0, .int .i64 0, .int .i64 0, .slice none 0 0, .int .i64 0, .int .i64 0, .slice none 0 0, .slice none 0 0, .int .i64 0, .int .i64 0, .slice none 0 0, .int .i64 0, .int .i64 0, .slice none 0 0, .slice none 0 0, .slice none 0 0, .int .i64 0] 37)
        have hAM : Below w3.heap.size w3 ((w3.alloc (.cells #[.int .i64 0, .int .i64 0, .int .i64 0, .int .i64 0, .int .i64 0, .slice none 0 0, .int .i64 0, .int .i64 0, .slice none 0 0, .slice none 0 0, .int .i64 0, .int .i64 0, .slice none 0 0, .int .i64 0, .int .i64 0, .slice none 0 0, .slice none 0 0, .slice none 0 0, .int .i64 0] 37)).setRow w3.heap.size #[.int .i64 x.m.fr, .int .i64 x.m.tt, .int .i64 x.m.ki, .int .i64 x.m.bau, .int .i64 x.m.bnu, .slice x.m.bta x.m.btn x.m.btc, .int .i64 x.m.hau, .int .i64 x.m.hrd, .slice x.m.hba x.m.hbn x.m.hbc, .slice x.m.hpa x.m.hpn x.m.hpc, .int .i64 x.m.sau, .int .i64 x.m.srd, .slice x.m.sda x.m.sdn x.m.sdc, .int .i64 x.m.cau, .int .i64 x.m.crd, .slice x.m.cba x.m.cbn x.m.cbc, .slice x.m.cpa x.m.cpn x.m.cpc, .slice x.m.cva x.m.cvn x.m.cvc, .int .i64 x.m.ro]) := laid_row w3 #[.int .i64 0, .int .i64 0, .int .i64 0, .int .i64 0, .int .i64 0, .slice none 0 0, .int .i64 0, .int .i64 0, .slice none 0 0, .slice none 0 0, .int .i64 0, .int .i64 0, .slice none 0 0, .int .i64 0, .int .i64 0, .slice none 0 0, .slice none 0 0, .slice none 0 0, .int .i64 0] #[.int .i64 x.m.fr, .int .i64 x.m.tt, .int .i64 x.m.ki, .int .i64 x.m.bau, .int .i64 x.m.bnu, .slice x.m.bta x.m.btn x.m.btc, .int .i64 x.m.hau, .int .i64 x.m.hrd, .slice x.m.hba x.m.hbn x.m.hbc, .slice x.m.hpa x.m.hpn x.m.hpc, .int .i64 x.m.sau, .int .i64 x.m.srd, .slice x.m.sda x.m.sdn x.m.sdc, .int .i64 x.m.cau, .int .i64 x.m.crd, .slice x.m.cba x.m.cbn x.m.cbc, .slice x.m.cpa x.m.cpn x.m.cpc, .slice x.m.cva x.m.cvn x.m.cvc, .int .i64 x.m.ro] 37
        have qM := setRow_heap _ _ _ #[.int .i64 x.m.fr, .int .i64 x.m.tt, .int .i64 x.m.ki, .int .i64 x.m.bau, .int .i64 x.m.bnu, .slice x.m.bta x.m.btn x.m.btc, .int .i64 x.m.hau, .int .i64 x.m.hrd, .slice x.m.hba x.m.hbn x.m.hbc, .slice x.m.hpa x.m.hpn x.m.hpc, .int .i64 x.m.sau, .int .i64 x.m.srd, .slice x.m.sda x.m.sdn x.m.sdc, .int .i64 x.m.cau, .int .i64 x.m.crd, .slice x.m.cba x.m.cbn x.m.cbc, .slice x.m.cpa x.m.cpn x.m.cpc, .slice x.m.cva x.m.cvn x.m.cvc, .int .i64 x.m.ro] _ _ qz
        have zM := (hAM.block _ (by omega)).trans z3
        have rM := (hAM.block _ hlt3).trans hr3
        have HMx : Hid (MAt w3 x ∧ HasM (fun q => W2.heap.size ≤ q) x ∧ x.c = pM (bs, false)) := ⟨hM, hH, hcx⟩
        clear hM hH hcx hR3
        go_upto_region 9 with (refine wpList_store_row rfl 37 _ _ rfl w3.heap.size #[.int .i64 x.m.fr, .int .i64 x.m.tt, .int .i64 x.m.ki, .int .i64 x.m.bau, .int .i64 x.m.bnu, .slice x.m.bta x.m.btn x.m.btc, .int .i64 x.m.hau, .int .i64 x.m.hrd, .slice x.m.hba x.m.hbn x.m.hbc, .slice x.m.hpa x.m.hpn x.m.hpc, .int .i64 x.m.sau, .int .i64 x.m.srd, .slice x.m.sda x.m.sdn x.m.sdc, .int .i64 x.m.cau, .int .i64 x.m.crd, .slice x.m.cba x.m.cbn x.m.cbc, .slice x.m.cpa x.m.cpn x.m.cpc, .slice x.m.cva x.m.cvn x.m.cvc, .int .i64 x.m.ro] rfl rfl 37 _ qz sMsg' rfl (by simp [Value.oneCell']) ?_)
        generalize (w3.alloc (.cells #[.int .i64 0, .int .i64 0, .int .i64 0, .int .i64 0, .int .i64 0, .slice none 0 0, .int .i64 0, .int .i64 0, .slice none 0 0, .slice none 0 0, .int .i64 0, .int .i64 0, .slice none 0 0, .int .i64 0, .int .i64 0, .slice none 0 0, .slice none 0 0, .slice none 0 0, .int .i64 0] 37)).setRow w3.heap.size #[.int .i64 x.m.fr, .int .i64 x.m.tt, .int .i64 x.m.ki, .int .i64 x.m.bau, .int .i64 x.m.bnu, .slice x.m.bta x.m.btn x.m.btc, .int .i64 x.m.hau, .int .i64 x.m.hrd, .slice x.m.hba x.m.hbn x.m.hbc, .slice x.m.hpa x.m.hpn x.m.hpc, .int .i64 x.m.sau, .int .i64 x.m.srd, .slice x.m.sda x.m.sdn x.m.sdc, .int .i64 x.m.cau, .int .i64 x.m.crd, .slice x.m.cba x.m.cbn x.m.cbc, .slice x.m.cpa x.m.cpn x.m.cpc, .slice x.m.cva x.m.cvn x.m.cvc, .int .i64 x.m.ro] = W4 at hAM qM zM rM ⊢
        have hB4 := hB3.trans (hAM.mono hB3.size)
        have hMx4 : Hid (MAt W4 x) := HMx.out.1.below hAM
        have s0 : W4.cell? ⟨w.heap.size + 1, 0, none⟩ = some (.slice la ml.length lc) := cells_at rM 0 _ rfl
        have s1 : W4.cell? ⟨w.heap.size + 1, 1, none⟩ = some (.bool msh) := cells_at rM 1 _ rfl
        clear qz z3 hr3 hAM
        cases msh with
        | true =>
          have hF : Hid (readF bs = 5) := by show _ = _; rw [HR1.out, if_pos rfl]
          go_wp2_with (refine wpList_store_row rfl 37 _ _ rfl w.heap.size #[.int .i64 0, .int .i64 0, .int .i64 0, .int .i64 0, .int .i64 0, .slice none 0 0, .int .i64 0, .int .i64 0, .slice none 0 0, .slice none 0 0, .int .i64 0, .int .i64 0, .slice none 0 0, .int .i64 0, .int .i64 0, .slice none 0 0, .slice none 0 0, .slice none 0 0, .int .i64 0] rfl rfl 37 _ zM sMsg' rfl (by simp [Value.oneCell']) ?_)
          have hFc := hF.out
          refine bodyPost_ret (v := .tuple #[.agg #[.int .i64 0, .int .i64 0, .int .i64 0, .int .i64 0, .int .i64 0, .slice none 0 0, .int .i64 0, .int .i64 0, .slice none 0 0, .slice none 0 0, .int .i64 0, .int .i64 0, .slice none 0 0, .int .i64 0, .int .i64 0, .slice none 0 0, .slice none 0 0, .slice none 0 0, .int .i64 0], .int .i64 5]) (results_cell_slot (fn := Try.f24) (p := 2) (q := 3) (ty := 37) rfl _ _ w.heap.size 37 _ (0, 0) _ (.int .i64 5) ⟨rfl, rfl⟩ (setRow_heap _ _ _ _ _ _ zM) Try.underlying37 rfl sMsg') rfl ⟨.inl ⟨by rw [hFc]; decide, by rw [hFc]⟩, (Upd.setRow zM).below hB4 hB4.size (Nat.le_refl _)⟩
        | false =>
          by_cases hml : ml = []
          · have hF : Hid (readF bs = 0) := by show _ = _; rw [HR1.out, if_neg (by decide), if_neg (fun h => h hml)]
            have hmI : ¬ (0 : Int) < (ml.length : Int) := by rw [hml]; decide
            clear hml HR1
            go_wp2_with (first | refine wpList_load_row rfl 37 _ rfl w3.heap.size rfl 37 #[.int .i64 x.m.fr, .int .i64 x.m.tt, .int .i64 x.m.ki, .int .i64 x.m.bau, .int .i64 x.m.bnu, .slice x.m.bta x.m.btn x.m.btc, .int .i64 x.m.hau, .int .i64 x.m.hrd, .slice x.m.hba x.m.hbn x.m.hbc, .slice x.m.hpa x.m.hpn x.m.hpc, .int .i64 x.m.sau, .int .i64 x.m.srd, .slice x.m.sda x.m.sdn x.m.sdc, .int .i64 x.m.cau, .int .i64 x.m.crd, .slice x.m.cba x.m.cbn x.m.cbc, .slice x.m.cpa x.m.cpn x.m.cpc, .slice x.m.cva x.m.cvn x.m.cvc, .int .i64 x.m.ro] (0, 0) _ qM Try.underlying37 rfl sMsg' ?_ | refine wpList_store_row rfl 37 _ _ rfl w.heap.size #[.int .i64 x.m.fr, .int .i64 x.m.tt, .int .i64 x.m.ki, .int .i64 x.m.bau, .int .i64 x.m.bnu, .slice x.m.bta x.m.btn x.m.btc, .int .i64 x.m.hau, .int .i64 x.m.hrd, .slice x.m.hba x.m.hbn x.m.hbc, .slice x.m.hpa x.m.hpn x.m.hpc, .int .i64 x.m.sau, .int .i64 x.m.srd, .slice x.m.sda x.m.sdn x.m.sdc, .int .i64 x.m.cau, .int .i64 x.m.crd, .slice x.m.cba x.m.cbn x.m.cbc, .slice x.m.cpa x.m.cpn x.m.cpc, .slice x.m.cva x.m.cvn x.m.cvc, .int .i64 x.m.ro] rfl rfl 37 _ zM sMsg' rfl (by simp [Value.oneCell']) ?_)
            refine bodyPost_ret (v := .tuple #[.agg #[.int .i64 x.m.fr, .int .i64 x.m.tt, .int .i64 x.m.ki, .int .i64 x.m.bau, .int .i64 x.m.bnu, .slice x.m.bta x.m.btn x.m.btc, .int .i64 x.m.hau, .int .i64 x.m.hrd, .slice x.m.hba x.m.hbn x.m.hbc, .slice x.m.hpa x.m.hpn x.m.hpc, .int .i64 x.m.sau, .int .i64 x.m.srd, .slice x.m.sda x.m.sdn x.m.sdc, .int .i64 x.m.cau, .int .i64 x.m.crd, .slice x.m.cba x.m.cbn x.m.cbc, .slice x.m.cpa x.m.cpn x.m.cpc, .slice x.m.cva x.m.cvn x.m.cvc, .int .i64 x.m.ro], .int .i64 0]) (results_cell_slot (fn := Try.f24) (p := 2) (q := 3) (ty := 37) rfl _ _ w.heap.size 37 _ (0, 0) _ (.int .i64 0) ⟨rfl, rfl⟩ (setRow_heap _ _ _ _ _ _ zM) Try.underlying37 rfl sMsg') rfl ⟨.inr ⟨hF.out, x, rfl, ?_, HMx.out.2.1.mono (fun q hq => by omega), HMx.out.2.2⟩, (Upd.setRow zM).below hB4 hB4.size (Nat.le_refl _)⟩
            exact hMx4.out.setRow (B := W2.heap.size) HMx.out.2.1 (by omega)
          · have hF : Hid (readF bs = 4) := by show _ = _; rw [HR1.out, if_neg (by decide), if_pos hml]
            have hmI : (0 : Int) < (ml.length : Int) := by have := length_pos_ne hml; omega
            clear hml HR1
            go_wp2_with (refine wpList_store_row rfl 37 _ _ rfl w.heap.size #[.int .i64 0, .int .i64 0, .int .i64 0, .int .i64 0, .int .i64 0, .slice none 0 0, .int .i64 0, .int .i64 0, .slice none 0 0, .slice none 0 0, .int .i64 0, .int .i64 0, .slice none 0 0, .int .i64 0, .int .i64 0, .slice none 0 0, .slice none 0 0, .slice none 0 0, .int .i64 0] rfl rfl 37 _ zM sMsg' rfl (by simp [Value.oneCell']) ?_)
            have hFc := hF.out
            refine bodyPost_ret (v := .tuple #[.agg #[.int .i64 0, .int .i64 0, .int .i64 0, .int .i64 0, .int .i64 0, .slice none 0 0, .int .i64 0, .int .i64 0, .slice none 0 0, .slice none 0 0, .int .i64 0, .int .i64 0, .slice none 0 0, .int .i64 0, .int .i64 0, .slice none 0 0, .slice none 0 0, .slice none 0 0, .int .i64 0], .int .i64 4]) (results_cell_slot (fn := Try.f24) (p := 2) (q := 3) (ty := 37) rfl _ _ w.heap.size 37 _ (0, 0) _ (.int .i64 4) ⟨rfl, rfl⟩ (setRow_heap _ _ _ _ _ _ zM) Try.underlying37 rfl sMsg') rfl ⟨.inl ⟨by rw [hFc]; decide, by rw [hFc]⟩, (Upd.setRow zM).below hB4 hB4.size (Nat.le_refl _)⟩
      · have hkd : decide (1 ≤ X ∧ X ≤ 5) = false := decide_eq_false hk
        have HIK : Hid (∀ W : World, Calls Try.prog 35 #[.int .i64 X] W fun e w' => e = .returned (.bool false) ∧ W = w') := by
          show ∀ _, _
          intro W
          exact isKind_bool X false W hkd.symm
        have hF : Hid (readF bs = 3) := by show _ = _; rw [HR0.out, if_pos hk]
        clear hkd hk
        go_enter Try.func24, Try.ntmps24
        go_upto_region 6 with (go_at_call 35; refine (HIK.out _).mono ?_; rintro e w9 ⟨rfl, rfl⟩)
        generalize w.alloc (.cells #[.int .i64 0, .int .i64 0, .int .i64 0, .int .i64 0, .int .i64 0, .slice none 0 0, .int .i64 0, .int .i64 0, .slice none 0 0, .slice none 0 0, .int .i64 0, .int .i64 0, .slice none 0 0, .int .i64 0, .int .i64 0, .slice none 0 0, .slice none 0 0, .slice none 0 0, .int .i64 0] 37) = W0 at hA q0 hsz c0 ⊢
        go_wp2_with (refine wpList_store_row rfl 37 _ _ rfl w.heap.size #[.int .i64 0, .int .i64 0, .int .i64 0, .int .i64 0, .int .i64 0, .slice none 0 0, .int .i64 0, .int .i64 0, .slice none 0 0, .slice none 0 0, .int .i64 0, .int .i64 0, .slice none 0 0, .int .i64 0, .int .i64 0, .slice none 0 0, .slice none 0 0, .slice none 0 0, .int .i64 0] rfl rfl 37 _ q0 sMsg' rfl (by simp [Value.oneCell']) ?_)
        have hFc := hF.out
        refine bodyPost_ret (v := .tuple #[.agg #[.int .i64 0, .int .i64 0, .int .i64 0, .int .i64 0, .int .i64 0, .slice none 0 0, .int .i64 0, .int .i64 0, .slice none 0 0, .slice none 0 0, .int .i64 0, .int .i64 0, .slice none 0 0, .int .i64 0, .int .i64 0, .slice none 0 0, .slice none 0 0, .slice none 0 0, .int .i64 0], .int .i64 3]) (results_cell_slot (fn := Try.f24) (p := 2) (q := 3) (ty := 37) rfl _ _ w.heap.size 37 _ (0, 0) _ (.int .i64 3) ⟨rfl, rfl⟩ (setRow_heap _ _ _ _ _ _ q0) Try.underlying37 rfl sMsg') rfl ⟨.inl ⟨by rw [hFc]; decide, by rw [hFc]⟩, (Upd.setRow q0).below hA hA.size (Nat.le_refl _)⟩
end Go.Proofs.Ythijfhbmkpfnkaa
