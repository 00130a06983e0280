/- lines.Show, for every list of acts. -/
import Derived.Test.YtnpkpkknbflacaaDoorLnS
namespace Go.Proofs.YtnpkpkknbflacaaDoor
open Go.RowKit

/-- What counts of an act. -/
structure AV where
  k : Int
  n : Int
  p : Int
  t : ByteArray
def AV.z : AV := ⟨0, 0, 0, ByteArray.empty⟩
def AV.e (a : AV) : Int := actF a.k a.n a.p a.t.size
def AV.line (a : AV) : List UInt8 := lineU a.k a.n a.p a.t.data.toList
/-- A slice of acts. -/
structure ActsAt (w : World) (sa : Option Addr) (l : List AV) : Prop where
  cells : l = [] ∨ ∃ sb so, sa = some ⟨sb, so, none⟩ ∧ ∀ j, j < l.length → w.cell? ⟨sb, so + j * 4, none⟩ = some (.int .i64 (l.getD j .z).k) ∧ w.cell? ⟨sb, so + j * 4 + 1, none⟩ = some (.int .i64 (l.getD j .z).n) ∧ w.cell? ⟨sb, so + j * 4 + 2, none⟩ = some (.int .i64 (l.getD j .z).p) ∧ w.cell? ⟨sb, so + j * 4 + 3, none⟩ = some (.string (l.getD j .z).t)
  text : ∀ a ∈ l, a.t.size ≤ maxLen
set_option maxRecDepth 100000 in
theorem ActsAt.below {w w' : World} {sa : Option Addr} {l : List AV} (h : ActsAt w sa l) (hb : Below w.heap.size w w') : ActsAt w' sa l := by
  refine ⟨?_, h.text⟩
  rcases h.cells with h | ⟨sb, so, h1, h2⟩
  · exact .inl h
  · refine .inr ⟨sb, so, h1, fun j hj => ?_⟩
    obtain ⟨c0, c1, c2, c3⟩ := h2 j hj
    have hl := block_lt_of_cell c0
    exact ⟨(hb.cell (p := ⟨sb, so + j * 4, none⟩) hl).trans c0, (hb.cell (p := ⟨sb, so + j * 4 + 1, none⟩) hl).trans c1, (hb.cell (p := ⟨sb, so + j * 4 + 2, none⟩) hl).trans c2, (hb.cell (p := ⟨sb, so + j * 4 + 3, none⟩) hl).trans c3⟩
/-- The place of the first act that may not be; so many as there are, if all may be. -/
def fb (l : List AV) : Nat := (l.takeWhile fun a => decide (a.e = 0)).length
set_option maxRecDepth 100000 in
theorem fb_le (l : List AV) : fb l ≤ l.length := by
  unfold fb
  exact (List.takeWhile_prefix _).length_le
set_option maxRecDepth 100000 in
theorem fb_eq : ∀ (l : List AV) (k : Nat), (∀ a ∈ l.take k, a.e = 0) → k < l.length → (l.getD k .z).e ≠ 0 → fb l = k
  | [], _, _, h, _ => by simp at h
  | a :: l, 0, _, _, h2 => by
    have : a.e ≠ 0 := by simpa using h2
    simp [fb, this]
  | a :: l, k + 1, h, h1, h2 => by
    have ha : a.e = 0 := h a (by simp)
    have := fb_eq l k (fun x hx => h x (by simp [hx])) (by simpa using h1) (by simpa using h2)
    unfold fb at this ⊢
    simp [ha, this]
set_option maxRecDepth 100000 in
theorem fb_all (l : List AV) (h : ∀ a ∈ l, a.e = 0) : fb l = l.length := by
  induction l with
  | nil => rfl
  | cons a l ih =>
    have := ih (fun x hx => h x (by simp [hx]))
    unfold fb at this ⊢
    simp [h a (by simp), this]
/-- P9.2: what Show answers. -/
def showE (l : List AV) : Int := if 3000 < l.length then 1 else if fb l < l.length then (l.getD (fb l) .z).e else 0
def showP (l : List AV) : Int := if 3000 < l.length then 0 else if fb l < l.length then (fb l : Int) else 0
def showT (l : List AV) : List UInt8 := if 3000 < l.length then [] else if fb l < l.length then [] else l.flatMap AV.line
set_option maxRecDepth 100000 in
theorem ok_bounds {a : AV} (h : a.e = 0) : (1 ≤ a.k ∧ a.k ≤ 10) ∧ (0 ≤ a.n ∧ a.n < 4) ∧ (0 ≤ a.p ∧ a.p ≤ 400000) ∧ a.t.size ≤ 4000 ∧ moreB a.k a.n a.p a.t.size = false := by
  unfold AV.e actF at h
  split at h
  · omega
  · split at h
    · omega
    · split at h
      · omega
      · split at h
        · omega
        · split at h
          · omega
          · rename_i h5
            exact ⟨by omega, by omega, by omega, by omega, eq_false_of_ne_true h5⟩
set_option maxRecDepth 100000 in
theorem line_len {a : AV} (h : a.e = 0) : a.line.length ≤ 9000 := by
  obtain ⟨_, h2, h3, h4, _⟩ := ok_bounds h
  have zW := word_len a.k
  have zN := Lib.itoa_length_le a.n (by omega) (by omega)
  have zP := Lib.itoa_length_le a.p (by omega) (by omega)
  have zT := hexU_length a.t.data.toList
  rw [show a.t.data.toList.length = a.t.size from Array.length_toList] at zT
  unfold AV.line lineU
  simp only [List.length_append, List.length_cons, List.length_nil]
  split <;> split <;> split <;> simp only [List.length_cons, List.length_nil] <;> omega
set_option maxRecDepth 100000 in
theorem lines_len (l : List AV) (h : ∀ a ∈ l, a.e = 0) : (l.flatMap AV.line).length ≤ 9000 * l.length := by
  induction l with
  | nil => simp
  | cons a l ih =>
    have h1 := line_len (h a (by simp))
    have h2 := ih (fun x hx => h x (by simp [hx]))
    simp only [List.flatMap_cons, List.length_append, List.length_cons]
    omega
set_option maxRecDepth 100000 in
theorem take_av {l : List AV} {k : Nat} (h : k < l.length) : l.take (k + 1) = l.take k ++ [l.getD k .z] := by
  rw [List.take_succ_eq_append_getElem h]; simp [List.getD, h]
set_option maxRecDepth 100000 in
theorem ret_show {a a' : List UInt8} {p p' e e' : Int} (h1 : a' = a) (h2 : p' = p) (h3 : e' = e) : Ending.returned (.tuple #[.string ⟨a.toArray⟩, .int .i64 p, .int .i64 e]) = .returned (.tuple #[.string ⟨a'.toArray⟩, .int .i64 p', .int .i64 e']) := by rw [h1, h2, h3]
set_option maxRecDepth 100000 in
set_option maxHeartbeats 4000000 in
/-- lines.Show: P9.2. -/
theorem show_any (l : List AV) (sa : Option Addr) (n cap : Nat) (w : World) (hn : n = l.length) (hm : n ≤ maxLen) (hA : ActsAt w sa l) (hT : STabs w) :
    Calls Tryd.prog 17 #[.slice sa n cap] w fun e w' => e = .returned (.tuple #[.string ⟨(showT l).toArray⟩, .int .i64 (showP l), .int .i64 (showE l)]) ∧ Below w.heap.size w w' := by
  unfold maxLen at hm
  by_cases hbig : 3000 < n
  · have HE : Hid (showE l = 1) := by show _ = _; simp [showE]; omega
    have HP : Hid (showP l = 0) := by show _ = _; simp [showP]; omega
    have HS : Hid (showT l = []) := by show _ = _; simp [showT]; omega
    have hbI : (3000 : Int) < n := by omega
    clear hA hT hn
    go_enter Tryd.func17, Tryd.ntmps17
    go_wp2_with fail
    go_ret3
    exact ⟨ret_show HS.out HP.out HE.out, Below.refl _ _⟩
  have hbI : ¬ (3000 : Int) < n := by omega
  subst hn
  have hI0 : SB w.heap.size w.heap.size [] (w.alloc (.cells #[.pointer none, .slice none 0 0] 57)) := Lib.fresh_isBuilder 57 5 w
  have hB0 : Below w.heap.size w (w.alloc (.cells #[.pointer none, .slice none 0 0] 57)) := (Below.refl _ _).alloc (Nat.le_refl _) _
  have hTB := hT.tabB
  go_enter Tryd.func17, Tryd.ntmps17
  go_wp2_with fail
  generalize w.alloc (.cells #[.pointer none, .slice none 0 0] 57) = W0 at *
  go_loopw [14] (fun j wr => ∃ k : Nat, k ≤ l.length ∧ j = .int .i64 k ∧ Below w.heap.size w wr ∧ SB w.heap.size w.heap.size ((l.take k).flatMap AV.line) wr ∧ Hid (∀ a ∈ l.take k, a.e = 0)) (fun j _ => l.length - (intOf j).toNat)
  case atStart => exact ⟨0, Nat.zero_le _, rfl, hB0, hI0, by show ∀ _, _; simp⟩
  case round =>
    clear hB0 hI0
    obtain ⟨k, hk, rfl, hb, hS, hok⟩ := hrel
    by_cases hlt : k < l.length
    · have hltI : (k : Int) < l.length := by omega
      rcases (hA.below hb).cells with hc | ⟨sb, so, rfl, hc⟩
      · subst hc; simp at hlt
      obtain ⟨c0, c1, c2, c3⟩ := hc k hlt
      have htx := hA.text (l.getD k .z) (by rw [List.getD_eq_getElem?_getD, List.getElem?_eq_getElem hlt]; exact List.getElem_mem hlt)
      have HK : Hid (l.take (k + 1) = l.take k ++ [l.getD k .z]) := take_av hlt
      have HF : Hid ((l.getD k .z).e ≠ 0 → fb l = k) := fb_eq l k hok.out hlt
      have hLen : ((l.take k).flatMap AV.line).length ≤ 70000000000000 := by
        have h1 := lines_len (l.take k) hok.out
        have h2 : (l.take k).length ≤ k := List.length_take_le _ _
        omega
      have HAt : Hid (ActsAt w (some ⟨sb, so, none⟩) l) := hA
      clear hc hA
      have hTr := hTB.below hb
      generalize hacc : (l.take k).flatMap AV.line = acc at *
      have Hacc : Hid _ := hacc
      clear hacc
      generalize hav : l.getD k .z = a at *
      have Hav : Hid _ := hav
      clear hav
      obtain ⟨ak, an, ap, at'⟩ := a
      dsimp only at c0 c1 c2 c3 htx
      go_wp2_with fail
      have hTa := hTr.below ((Below.refl w.heap.size wr).alloc hb.size (.cells #[.int .i64 ak, .int .i64 an, .int .i64 ap, .string at'] 30))
      have hX0 : Wrote w.heap.size w.heap.size acc wr (wr.alloc (.cells #[.int .i64 ak, .int .i64 an, .int .i64 ap, .string at'] 30)) := (Wrote.refl hS).more hb.size ((Below.refl _ _).alloc (Nat.le_refl _) _)
      have qA := heap_alloc_new wr (.cells #[.int .i64 ak, .int .i64 an, .int .i64 ap, .string at'] 30)
      have hlw := hS.lt
      refine (actCheck_any ak an ap at' _ htx hTa.k).mono ?_
      rintro e w1 ⟨he, hb1⟩
      subst he
      dsimp only
      have qA1 := (hb1.block _ (lt_of_heap qA)).trans qA
      have hX1 := hX0.more (Nat.le_trans hb.size hX0.below.size) hb1
      have hT1 := hTr.below hX1.below
      have a0 := cells_at qA1 0 _ rfl
      have a1 := cells_at qA1 1 _ rfl
      have a2 := cells_at qA1 2 _ rfl
      have a3 := cells_at qA1 3 _ rfl
      have hB1 := hb.trans hX1.below
      have HE : Hid ((⟨ak, an, ap, at'⟩ : AV).e = actF ak an ap at'.size) := rfl
      generalize actF ak an ap at'.size = E at *
      clear hX0 qA hTa c0 c1 c2 c3
      by_cases hE : E = 0
      · subst hE
        obtain ⟨o1, o2, o3, o4, _⟩ := ok_bounds HE.out
        dsimp only at o1 o2 o3 o4
        go_wp2_with fail
        refine (showAct_any w.heap.size w.heap.size acc ak an ap at' w1 hX1.is hB1.size hLen o1 (by omega) (by omega) (by omega) (by omega) o4 hT1).mono ?_
        rintro e w2 ⟨he, hW2⟩
        subst he
        dsimp only
        go_wp2_with fail
        go_roundw
        case rel =>
          refine ⟨k + 1, by omega, by go_num, hB1.trans hW2.below, ?_, ?_⟩
          · rw [HK.out, List.flatMap_append, Hacc.out]
            simpa [AV.line] using hW2.is
          · show ∀ _, _
            rw [HK.out]
            intro x hx
            rcases List.mem_append.1 hx with g | g
            · exact hok.out x g
            · simp at g; subst g; exact HE.out
        case measure => simp [intOf]; omega
      · have hEb : (E != 0) = true := by simp [hE]
        have hfb := HF.out (by rw [HE.out]; exact hE)
        have h1 : Hid (showE l = E) := by show _ = _; rw [showE, if_neg (by omega), hfb, if_pos hlt, Hav.out, HE.out]
        have h2 : Hid (showP l = k) := by show _ = _; rw [showP, if_neg (by omega), hfb, if_pos hlt]
        have h3 : Hid (showT l = []) := by show _ = _; rw [showT, if_neg (by omega), hfb, if_pos hlt]
        clear hfb
        go_wp2_with fail
        go_ret3
        exact ⟨ret_show h3.out h2.out h1.out, hB1⟩
    · obtain rfl : k = l.length := by omega
      have hall : ∀ a ∈ l, a.e = 0 := by
        have := hok.out
        rwa [List.take_of_length_le (Nat.le_refl _)] at this
      have hfb := fb_all l hall
      have h1 : Hid (showE l = 0) := by show _ = _; rw [showE, if_neg (by omega), if_neg (by omega)]
      have h2 : Hid (showP l = 0) := by show _ = _; rw [showP, if_neg (by omega), if_neg (by omega)]
      have h3 : Hid (showT l = (l.take l.length).flatMap AV.line) := by show _ = _; rw [showT, if_neg (by omega), if_neg (by omega), List.take_of_length_le (Nat.le_refl _)]
      clear hfb hall
      generalize (l.take l.length).flatMap AV.line = acc at *
      go_wp2_with fail
      refine (bString_any w.heap.size w.heap.size acc wr hS hb.size).mono ?_
      rintro e w1 ⟨he, hb1⟩
      subst he
      dsimp only
      go_wp2_with fail
      go_ret3
      exact ⟨ret_show h3.out h2.out h1.out, hb.trans hb1⟩
end Go.Proofs.YtnpkpkknbflacaaDoor
