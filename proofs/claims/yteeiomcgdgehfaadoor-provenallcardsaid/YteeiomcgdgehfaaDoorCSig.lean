/- seal.isNode, checkSign; cmp.Compare, cmp.Or, bytes.Compare; seal.compare, for all signs. -/
import Derived.Test.YteeiomcgdgehfaaDoorCmpG
import Derived.Test.YteeiomcgdgehfaaDoorSx
import Derived.Test.YteeiomcgdgehfaaDoorCalls
import Derived.Deep.RegionHeld3
import Derived.Laws.Externs
import Derived.Lib.BytesEntry
import Derived.Sort.Grow
namespace Go.Proofs.YteeiomcgdgehfaaDoor
open Go.RowKit

set_option maxRecDepth 100000 in
theorem gNode_bool (n : Int) (r : Bool) (w : World) (h : r = decide (0 ≤ n ∧ n < 4)) : Calls Tryd.prog 33 #[.int .i64 n] w fun e w' => e = .returned (.bool r) ∧ w = w' := by
  by_cases h1 : 0 ≤ n
  · by_cases h2 : n < 4
    · obtain rfl : r = true := by simp [h, h1, h2]
      clear h
      go_enter Tryd.func33, Tryd.ntmps33
      go_wp2
      go_ret
      exact ⟨rfl, rfl⟩
    · obtain rfl : r = false := by simp [h, h2]
      clear h
      go_enter Tryd.func33, Tryd.ntmps33
      go_wp2
      go_ret
      exact ⟨rfl, rfl⟩
  · obtain rfl : r = false := by simp [h, h1]
    clear h
    go_enter Tryd.func33, Tryd.ntmps33
    go_wp2
    go_ret
    exact ⟨rfl, rfl⟩
set_option maxRecDepth 100000 in
set_option maxHeartbeats 1000000 in
theorem checkSign_any (nd au rd : Int) (sa : Option Addr) (n cap : Nat) (w : World) :
    Calls Tryd.prog 49 #[.agg #[.int .i64 nd, .int .i64 au, .int .i64 rd, .slice sa n cap]] w fun e w' => e = .returned (.int .i64 (signF nd au rd n)) ∧ Below w.heap.size w w' := by
  by_cases ha : 0 ≤ nd ∧ nd < 4
  · have hF : Hid (signF nd au rd n = slotF au rd n) := by show _ = _; rw [signF, if_neg (by simpa using ha)]
    have hA := (Below.refl w.heap.size w).alloc (Nat.le_refl _) (.cells #[.int .i64 nd, .int .i64 au, .int .i64 rd, .slice sa n cap] 52)
    go_enter Tryd.func49, Tryd.ntmps49
    go_wp2_with (first | (go_at_call 33; refine (gNode_bool _ true _ (by simp [ha])).mono ?_; rintro e w' ⟨rfl, rfl⟩) | (go_at_call 68; refine (checkSlot_any _ _ _ _ _ _).mono ?_; rintro e w' ⟨rfl, hb⟩))
    go_ret
    exact ⟨ret_int hF.out.symm, hA.trans (hb.mono hA.size)⟩
  · have hF : Hid (signF nd au rd n = 2) := by show _ = _; rw [signF, if_pos ha]
    go_enter Tryd.func49, Tryd.ntmps49
    go_wp2_with (go_at_call 33; refine (gNode_bool _ false _ (by simp [ha])).mono ?_; rintro e w' ⟨rfl, rfl⟩)
    go_ret
    exact ⟨ret_int hF.out.symm, (Below.refl _ _).alloc (Nat.le_refl _) _⟩
set_option maxRecDepth 100000 in
theorem isNaN_any (x : Int) (w : World) : Calls Tryd.prog 75 #[.int .i64 x] w fun e w' => e = .returned (.bool false) ∧ w = w' := by
  go_enter Tryd.func75, Tryd.ntmps75
  go_wp2
  go_ret
  exact ⟨by simp, rfl⟩
set_option maxRecDepth 100000 in
set_option maxHeartbeats 1000000 in
theorem compareInt_any (x y : Int) (w : World) : Calls Tryd.prog 57 #[.int .i64 x, .int .i64 y] w fun e w' => e = .returned (.int .i64 (cI x y)) ∧ w = w' := by
  rcases Int.lt_trichotomy x y with h | h | h
  · have hF : Hid (cI x y = -1) := cI_lt h
    go_enter Tryd.func57, Tryd.ntmps57
    go_wp2_with (go_at_call 75; refine (isNaN_any _ _).mono ?_; rintro e w' ⟨rfl, rfl⟩)
    go_ret
    exact ⟨ret_int hF.out.symm, rfl⟩
  · subst h
    have hF : Hid (cI x x = 0) := cI_eq x
    go_enter Tryd.func57, Tryd.ntmps57
    go_wp2_with (go_at_call 75; refine (isNaN_any _ _).mono ?_; rintro e w' ⟨rfl, rfl⟩)
    go_ret
    exact ⟨ret_int hF.out.symm, rfl⟩
  · have hF : Hid (cI x y = 1) := cI_gt h
    have h2 : ¬ x < y := by omega
    go_enter Tryd.func57, Tryd.ntmps57
    go_wp2_with (go_at_call 75; refine (isNaN_any _ _).mono ?_; rintro e w' ⟨rfl, rfl⟩)
    go_ret
    exact ⟨ret_int hF.out.symm, rfl⟩
set_option maxRecDepth 100000 in
theorem run_bytesOf (w : World) (sa : Option Addr) (n cap : Nat) (bs : List Int) (hn : n = bs.length) (h : SliceAt w sa cap bs) :
    (Extern.Bytes.bytesOf (.slice sa n cap)).run Tryd.prog w = .ok (bstr bs) w := by
  subst hn
  cases sa with
  | none =>
    obtain rfl := h.nil rfl
    obtain rfl : bs = [] := List.eq_nil_of_length_eq_zero (by have := h.le; omega)
    rfl
  | some a =>
    show (Extern.Bytes.loadBytes a bs.length .empty).run Tryd.prog w = _
    rw [Lib.run_loadBytesX w bs a .empty ?_]
    · congr 1
      refine ba_ext ?_
      rw [ByteArray.toList_eq, ByteArray.toList_eq, bstr_data]
      simp [Lib.bytesOf]
    · intro j x hx
      rcases h.bytes with hb | ⟨sb, so, e, hb⟩
      · subst hb; simp at hx
      · cases e
        have hj : j < bs.length := by
          rcases Nat.lt_or_ge j bs.length with g | g
          · exact g
          · rw [List.getElem?_eq_none g] at hx; cases hx
        rw [add_off, hb j hj]
        simp [hj] at hx
        simp [hj, hx]
set_option maxRecDepth 100000 in
set_option maxHeartbeats 1000000 in
theorem compareBs_any (xs ys : List Int) (sa sb : Option Addr) (n m c d : Nat) (w : World) (hn : n = xs.length) (hm : m = ys.length) (ha : SliceAt w sa c xs) (hb : SliceAt w sb d ys) :
    Calls Tryd.prog 58 #[.slice sa n c, .slice sb m d] w fun e w' => e = .returned (.int .i64 (Lib.compareBytes (bstr xs).data.toList (bstr ys).data.toList)) ∧ w = w' := by
  have h1 := run_bytesOf w sa n c xs hn ha
  have h2 := run_bytesOf w sb m d ys hm hb
  have hx : (Extern.BytealgCompare.compare #[.slice sa n c, .slice sb m d]).run Tryd.prog w = .ok (.int .i64 (Lib.compareBytes (bstr xs).data.toList (bstr ys).data.toList)) w := by
    change Sem.run Tryd.prog (do pure (goInt (Extern.BytealgCompare.cmp (← Extern.Bytes.bytesOf (.slice sa n c)) (← Extern.Bytes.bytesOf (.slice sb m d))))) w = _
    simp only [Sem.run_bind, Sem.run_pure, h1, h2, Result.andThen]
    rw [Lib.cmp_eq]
    rfl
  generalize Lib.compareBytes (bstr xs).data.toList (bstr ys).data.toList = r at hx ⊢
  clear h1 h2 hn hm ha hb
  go_enter Tryd.func58, Tryd.ntmps58
  go_wp2
  rw [run_callFunc_extern Tryd.func76 (by kernel_rfl) (by kernel_rfl) (by kernel_rfl) (e := Extern.BytealgCompare.compare) (by kernel_rfl), hx]
  simp only [Result.andThen]
  rw [Oper.upon_value]
  go_wp2
  go_ret
  exact ⟨rfl, rfl⟩
/-- Nothing but draws and new blocks. -/
def Gr (w w' : World) : Prop := ∃ q os, w' = Go.Sort.grow (w.drewN q) os
set_option maxRecDepth 100000 in
theorem Gr.refl (w : World) : Gr w w := ⟨0, #[], by simp [Go.Sort.grow, World.drewN]⟩
set_option maxRecDepth 100000 in
theorem Gr.trans {a b c : World} (h : Gr a b) (k : Gr b c) : Gr a c := by
  obtain ⟨q, os, rfl⟩ := h
  obtain ⟨q', os', rfl⟩ := k
  exact ⟨q + q', os ++ os', by simp [Go.Sort.grow, World.drewN, Array.append_assoc, Nat.add_assoc]⟩
set_option maxRecDepth 100000 in
theorem Gr.alloc {a b : World} (h : Gr a b) (o : Obj) : Gr a (b.alloc o) := h.trans ⟨0, #[o], by rw [Go.Sort.alloc_eq_grow]; rfl⟩
set_option maxRecDepth 100000 in
theorem Gr.drew {a b : World} (h : Gr a b) : Gr a b.drew := h.trans ⟨1, #[], by unfold Go.Sort.grow; rw [Array.append_empty]; rfl⟩
set_option maxRecDepth 100000 in
theorem Gr.below {a b : World} (h : Gr a b) : Below a.heap.size a b := by
  obtain ⟨q, os, rfl⟩ := h
  refine ⟨rfl, rfl, rfl, by simp [Go.Sort.grow, World.drewN], fun k hk => ?_⟩
  show (a.heap ++ os)[k]? = _
  rw [Array.getElem?_append_left hk]
set_option maxRecDepth 100000 in
set_option maxHeartbeats 1000000 in
theorem cmpOr_any (l : List Int) (sb so cap : Nat) (w : World) (hl : l.length ≤ 1000) (h : ∀ j (h : j < l.length), w.cell? ⟨sb, so + j, none⟩ = some (.int .i64 (l[j]))) :
    Calls Tryd.prog 56 #[.slice (some ⟨sb, so, none⟩) l.length cap] w fun e w' => e = .returned (.int .i64 (orF l)) ∧ w = w' := by
  have HH : Hid (∀ j (h : j < l.length), w.cell? ⟨sb, so + j, none⟩ = some (.int .i64 (l[j]))) := h
  clear h
  go_enter Tryd.func56, Tryd.ntmps56
  go_wp2_with fail
  go_loop [8] (fun i => ∃ m : Nat, m ≤ l.length ∧ i = .int .i64 m ∧ orF l = orF (l.drop m)) (fun i => l.length - (intOf i).toNat)
  case atStart => exact ⟨0, Nat.zero_le _, rfl, rfl⟩
  case round =>
    obtain ⟨m, hm, rfl, hno⟩ := hrel
    by_cases hlt : m < l.length
    · have c0 := HH.out m hlt
      have hd : Hid (l.drop m = l[m] :: l.drop (m + 1)) := List.drop_eq_getElem_cons hlt
      have HN : Hid (orF l = orF (l.drop m)) := hno
      clear hno
      have hltI : (m : Int) < l.length := by omega
      generalize l[m] = x at *
      by_cases hx : x = 0
      · have h2 : Hid (orF l = orF (l.drop (m + 1))) := by show _ = _; rw [HN.out, hd.out, orF, if_neg (by simp [hx])]
        clear HN hd
        go_wp2_with fail
        go_round
        case rel => exact ⟨m + 1, by omega, by go_num, h2.out⟩
        case measure => simp [intOf]; omega
      · have h2 : Hid (orF l = x) := by show _ = _; rw [HN.out, hd.out, orF, if_pos hx]
        clear HN hd
        go_wp2_with fail
        go_ret
        exact ⟨ret_int h2.out.symm, rfl⟩
    · obtain rfl : m = l.length := by omega
      have h2 : Hid (orF l = 0) := by show _ = _; rw [hno, List.drop_length]; rfl
      clear hno
      go_wp2_with fail
      go_ret
      exact ⟨ret_int h2.out.symm, rfl⟩
end Go.Proofs.YteeiomcgdgehfaaDoor
