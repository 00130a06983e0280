/- wire.appendBatch, onto a row that the call owns. -/
import Derived.Test.YtbmodfegcmaieaaDoorGAppR
import Derived.Lib.AppendStr
import Derived.Test.YtbmodfegcmaieaaDoorGApp
namespace Go.Proofs.YtbmodfegcmaieaaDoor
open Go.RowKit

/-- The bytes of a text. -/
def tb (s : ByteArray) : List Int := s.data.toList.map fun b => (b.toNat : Int)
set_option maxRecDepth 100000 in
theorem tb_length (s : ByteArray) : (tb s).length = s.size := by simp [tb]
set_option maxRecDepth 100000 in
theorem strCells_tb (s : ByteArray) : Lib.strCells s = ub (tb s) := by simp [Lib.strCells, ub, tb]
set_option maxRecDepth 100000 in
theorem append_str_at (w : World) (ty : TypeId) (base : Nat) (v : Value) (n : Nat) (bs : List Int) (hown : w.ownsRow base 5 1 v n (ub bs)) (s : ByteArray) (hlen : n + s.size ≤ 140737488355328) (hbase : base ≤ w.heap.size) :
    ∃ v' w', (Builtin.append_ #[46, 9] ty #[v, .string s]).run Tryd.prog w = .ok v' w' ∧ w'.ownsRow base 5 1 v' (n + s.size) (ub (bs ++ tb s)) ∧ Grew w v w' v' := by
  obtain ⟨i, hi, hz0, hz1, hz2⟩ := info_parts infoU8
  have hm : n + s.size ≤ maxLen := by unfold maxLen; omega
  obtain ⟨v', w', hr, h2, h3, _⟩ := Lib.run_append_own_string (P := Tryd.prog) w base 46 9 ty 5 i Tryd.underlying46 Tryd.underlying9 hi hz0 hz1 hz2 v n (ub bs) hown s hm hlen hbase
  refine ⟨v', w', hr, by rw [show ub (bs ++ tb s) = ub bs ++ ub (tb s) by simp [ub], ← strCells_tb]; exact h2, ⟨h3, ?_⟩⟩
  intro q hq
  rcases hown.2 with ⟨rfl, hn⟩ | ⟨g, cap, cur, rfl, hg, hgc, h1, h2', h3', h4'⟩
  · subst hn
    have hnil : bs = [] := by have := hown.1; rw [ub_length] at this; exact List.eq_nil_of_length_eq_zero (by omega)
    subst hnil
    obtain ⟨v2, w2, hr2, k2, _, _⟩ := Lib.run_append_own_string (P := Tryd.prog) w w.heap.size 46 9 ty 5 i Tryd.underlying46 Tryd.underlying9 hi hz0 hz1 hz2 (.slice none 0 0) 0 [] (World.ownsRow_nil _ _ _ _) s hm hlen (Nat.le_refl _)
    have e := hr.symm.trans hr2
    cases e
    exact .inr (k2.lt q hq).1
  · by_cases hroom : n + s.size ≤ cap
    · have hr2 := Lib.run_append_room_string (P := Tryd.prog) w 46 9 ty 5 i Tryd.underlying46 Tryd.underlying9 hi hz1 g n cap cur hgc s hroom (by simp at h3'; omega)
      have e := hr.symm.trans hr2
      cases e
      exact .inl hq
    · have holds : ∀ j u, (ub bs)[j]? = some u → w.cell? ((⟨g, 0, none⟩ : Addr).add j) = some u := hown.cells (g := g) rfl
      have hr2 := Lib.run_append_grow_string (P := Tryd.prog) w 46 9 ty 5 i (.int .u8 0) Tryd.underlying46 Tryd.underlying9 hi hz0 ⟨g, 0, none⟩ n cap (ub bs) (by rw [hz1]; simpa using hown.1) holds s (by omega) (by omega) (by rw [hz2]; exact growslice_fits (by omega) (by omega))
      have e := hr.symm.trans hr2
      cases e
      cases hq
      exact .inr (Nat.le_refl _)
set_option maxRecDepth 100000 in
theorem wpList_append_str {w : World} {ops : Array Oper} {rest : List Oper} {o : Oper} {a : Act} {Q : Exit → Act → World → Prop} (hgd : o.guard = none) (sl x : Operand)
    (ho : o.op = .call { callee := .builtin .append, args := #[sl, x], argTypes := #[46, 9] })
    (base : Nat) (v : Value) (n : Nat) (bs : List Int) (hs : a.eval sl = v) (hown : w.ownsRow base 5 1 v n (ub bs)) (s : ByteArray) (hx : a.eval x = .string s) (hlen : n + s.size ≤ 140737488355328) (hbase : base ≤ w.heap.size)
    (h : ∀ v' w', w'.ownsRow base 5 1 v' (n + s.size) (ub (bs ++ tb s)) → Grew w v w' v' → wpList Tryd.prog ops Q rest (a.put o.dst v') w') : wpList Tryd.prog ops Q (o :: rest) a w := by
  refine wpList_plain hgd fun K hK => ?_
  obtain ⟨v', w', hr, h2, h3⟩ := append_str_at w o.type base v n bs hown s hlen hbase
  unfold Oper.wp execOp
  simp only [ho, resolve, invoke, builtin, Sem.run_bind, Sem.run_pure, Result.andThen_ok, List.map_toArray, List.map_cons, List.map_nil, hs, hx, hr]
  exact hK _ _ (h v' w' h2 h3)
set_option maxRecDepth 100000 in
theorem step_append_str {ops : Array Oper} {o : Oper} {a : Act} {w : World} {K : Act → World → Prop} {Q : Exit → Act → World → Prop} {E : Prop} (hgd : o.guard = none) (sl x : Operand)
    (ho : o.op = .call { callee := .builtin .append, args := #[sl, x], argTypes := #[46, 9] })
    (base : Nat) (v : Value) (n : Nat) (bs : List Int) (hs : a.eval sl = v) (hown : w.ownsRow base 5 1 v n (ub bs)) (s : ByteArray) (hx : a.eval x = .string s) (hlen : n + s.size ≤ 140737488355328) (hbase : base ≤ w.heap.size)
    (h : ∀ v' w', w'.ownsRow base 5 1 v' (n + s.size) (ub (bs ++ tb s)) → Grew w v w' v' → K (a.put o.dst v') w') : if Region.wanted o (yielded ops a.tmps) = true then Oper.wp Tryd.prog o a w K Q else E := by
  have hw : Region.wanted o (yielded ops a.tmps) = true := by simp [Region.wanted, hgd]
  rw [if_pos hw]
  obtain ⟨v', w', hr, h2, h3⟩ := append_str_at w o.type base v n bs hown s hlen hbase
  unfold Oper.wp execOp
  simp only [ho, resolve, invoke, builtin, Sem.run_bind, Sem.run_pure, Result.andThen_ok, List.map_toArray, List.map_cons, List.map_nil, hs, hx, hr]
  exact h v' w' h2 h3
end Go.Proofs.YtbmodfegcmaieaaDoor

namespace Go.Proofs.YtbmodfegcmaieaaDoor
open Go.RowKit

/-- The texts of a slice. -/
structure StrsAt (w : World) (sa : Option Addr) (ss : List ByteArray) : Prop where
  cells : ss = [] ∨ ∃ sb so, sa = some ⟨sb, so, none⟩ ∧ ∀ j, j < ss.length → w.cell? ⟨sb, so + j, none⟩ = some (.string (ss.getD j ByteArray.empty))
  size : ∀ s ∈ ss, s.size ≤ maxLen
set_option maxRecDepth 100000 in
theorem StrsAt.below {w w' : World} {sa : Option Addr} {ss : List ByteArray} (h : StrsAt w sa ss) (hb : Below w.heap.size w w') : StrsAt w' sa ss := by
  refine ⟨?_, h.size⟩
  rcases h.cells with h | ⟨sb, so, rfl, hc⟩
  · exact .inl h
  · exact .inr ⟨sb, so, rfl, fun j hj => (hb.cell (p := ⟨sb, so + j, none⟩) (block_lt_of_cell (hc j hj))).trans (hc j hj)⟩
end Go.Proofs.YtbmodfegcmaieaaDoor

namespace Go.Proofs.YtbmodfegcmaieaaDoor
open Go.RowKit

/-- P2.6: the texts of a batch, each behind its length. -/
def txsB : List ByteArray → List Int
  | [] => []
  | s :: l => (s.size : Int) :: (tb s ++ txsB l)
set_option maxRecDepth 100000 in
theorem txsB_snoc (l : List ByteArray) (s : ByteArray) : txsB (l ++ [s]) = txsB l ++ ((s.size : Int) :: tb s) := by
  induction l with
  | nil => simp [txsB]
  | cons x l ih => simp [txsB, ih]
set_option maxRecDepth 100000 in
theorem txsB_le (l : List ByteArray) (h : ∀ s ∈ l, s.size ≤ 20) : (txsB l).length ≤ 21 * l.length := by
  induction l with
  | nil => simp [txsB]
  | cons x l ih =>
    have h1 := h x (by simp)
    have h2 := ih (fun s hs => h s (by simp [hs]))
    simp [txsB, tb_length]; omega
/-- P2.6: the bytes of a batch. -/
def batchB (au nu : Int) (ss : List ByteArray) : List Int := [au] ++ rd3 nu ++ [(ss.length : Int)] ++ txsB ss
set_option maxRecDepth 100000 in
set_option maxHeartbeats 1000000 in
theorem appendBatch_any (base : Nat) (v : Value) (k : Nat) (bs : List Int) (au nu : Int) (sa : Option Addr) (n cap : Nat) (ss : List ByteArray) (w : World) (ha : 0 ≤ au ∧ au < 4) (hr : 0 ≤ nu ∧ nu ≤ 1048576) (hn : n = ss.length) (hl : ss.length ≤ 4) (hz : ∀ s ∈ ss, s.size ≤ 20) (hs : StrsAt w sa ss) (hne : ∀ sb so, sa = some ⟨sb, so, none⟩ → sb < w.heap.size ∧ v.ownBlock ≠ some sb)
    (ho : w.ownsRow base 5 1 v k (ub bs)) (hB : base ≤ w.heap.size) (hk : k ≤ 90000) :
    Calls Tryd.prog 62 #[v, .agg #[.int .i64 au, .int .i64 nu, .slice sa n cap]] w fun e w' => ∃ v', e = .returned v' ∧ w'.ownsRow base 5 1 v' (k + (batchB au nu ss).length) (ub (bs ++ batchB au nu ss)) ∧ Grew w v w' v' := by
  subst hn
  obtain ⟨i, hi, hz0, hz1, hz2⟩ := info_parts infoU8
  obtain ⟨ha0, ha1⟩ := ha
  have hvne : v.ownBlock ≠ some w.heap.size := fun e => by have := (ho.lt _ e).2; omega
  go_enter Tryd.func62, Tryd.ntmps62
  go_wp2_with (at_builtin; refine wpList_append_own_at _ rfl _ _ 46 rfl base 5 i (.int .u8 0) 1 1 Tryd.underlying46 hi hz0 hz1 hz2 rfl (by decide) _ k _ rfl (World.ownsRow.alloc (World.ownsRow.alloc ho _) _) ⟨w.heap.size + 1, 0, none⟩ 1 1 [.int .u8 au] rfl rfl (by have := cells_new (w.alloc (.cells #[.int .i64 au, .int .i64 nu, .slice sa ss.length cap] 42)) [.int .u8 au] 5; rw [size_alloc] at this; exact this) (u8_one [_]) (by unfold maxLen; omega) (by omega) (le_alloc (le_alloc hB _) _) ?_; intro v1 w1 ho1 hg1 _ hat; have G1 := Grew.of hg1 hat; have r1 := G1.row (heap_alloc2_old w _ _) hvne; have c1 : w1.cell? ⟨w.heap.size, 1, none⟩ = some (.int .i64 nu) := cells_at r1 1 _ rfl)
  have ho1' : w1.ownsRow base 5 1 v1 (k + 1) (ub (bs ++ [au])) := by simpa [ub] using ho1
  have hv1ne : v1.ownBlock ≠ some w.heap.size := fun e => by
    rcases G1.fresh _ e with g | g
    · exact hvne g
    · rw [size_alloc, size_alloc] at g; omega
  have G0 := G1.alloc.alloc
  clear ho1 hg1 hat G1
  refine (appendRound_any base v1 (k + 1) _ nu _ hr ho1' (Nat.le_trans hB G0.grown.size) (by omega)).mono ?_
  rintro e w2 ⟨v2, rfl, ho2, G2⟩
  have r2 := G2.row r1 hv1ne
  have c2 : w2.cell? ⟨w.heap.size, 2, none⟩ = some (.slice sa ss.length cap) := cells_at r2 2 _ rfl
  have hv2ne : v2.ownBlock ≠ some w.heap.size := fun e => by
    rcases G2.fresh _ e with g | g
    · exact hv1ne g
    · have := lt_of_heap r1; omega
  have G02 := G0.trans G2
  clear r1 c1
  go_wp2_with (at_builtin; refine wpList_append_own_at _ rfl _ _ 46 rfl base 5 i (.int .u8 0) 1 1 Tryd.underlying46 hi hz0 hz1 hz2 rfl (by decide) _ (k + 1 + 3) _ rfl (World.ownsRow.alloc ho2 _) ⟨w2.heap.size, 0, none⟩ 1 1 [.int .u8 (ss.length : Int)] rfl rfl (cells_new _ _ _) (u8_one [_]) (by unfold maxLen; omega) (by omega) (le_alloc (Nat.le_trans hB G02.grown.size) _) ?_; intro v3 w3 ho3 hg3 _ hat3; have G3 := (Grew.of hg3 hat3).alloc; have r3 := G3.row r2 hv2ne; have c3 : w3.cell? ⟨w.heap.size, 2, none⟩ = some (.slice sa ss.length cap) := cells_at r3 2 _ rfl)
  have ho3' : w3.ownsRow base 5 1 v3 (k + 1 + 3 + 1) (ub (bs ++ [au] ++ rd3 nu ++ [(ss.length : Int)])) := by simpa [ub] using ho3
  have G03 := G02.trans G3
  have hv3ne : v3.ownBlock ≠ some w.heap.size := fun e => by
    rcases G3.fresh _ e with g | g
    · exact hv2ne g
    · have := lt_of_heap r2; omega
  clear r2 c2 ho3 hg3 hat3 G3 ho2 G2 G0 G02 hv2ne hv1ne
  go_loopw [27, 0] (fun j t wr => ∃ m : Nat, m ≤ ss.length ∧ j = .int .i64 m ∧ wr.ownsRow base 5 1 t (k + 1 + 3 + 1 + (txsB (ss.take m)).length) (ub (bs ++ [au] ++ rd3 nu ++ [(ss.length : Int)] ++ txsB (ss.take m))) ∧ Grew w v wr t) (fun j _ _ => ss.length - (intOf j).toNat)
  case atStart => exact ⟨0, Nat.zero_le _, rfl, by simpa [txsB] using ho3', G03⟩
  case round =>
    clear ho3' G03 r3 c3 hv3ne
    obtain ⟨m, hm, rfl, ho, G⟩ := hrel
    by_cases hlt : m < ss.length
    · obtain ⟨sb, so, rfl, hc⟩ : ∃ sb so, sa = some ⟨sb, so, none⟩ ∧ ∀ j, j < ss.length → w.cell? ⟨sb, so + j, none⟩ = some (.string (ss.getD j ByteArray.empty)) := by
        rcases hs.cells with h | h
        · rw [h] at hlt; simp at hlt
        · exact h
      have ck0 := hc m hlt
      have ck : wr.cell? ⟨sb, so + m, none⟩ = some (.string (ss.getD m ByteArray.empty)) := (World.cell?_of_block (G.grown.block sb (block_lt_of_cell ck0) (fun e => (hne sb so rfl).2 e.symm))).trans ck0
      have hsz : (ss.getD m ByteArray.empty).size ≤ 20 := hz _ (by simp [List.getD, hlt])
      have hst : Hid (txsB (ss.take (m + 1)) = txsB (ss.take m) ++ (((ss.getD m ByteArray.empty).size : Int) :: tb (ss.getD m ByteArray.empty))) := by
        show _ = _
        rw [List.take_succ_eq_append_getElem hlt, txsB_snoc]
        simp only [List.getD, List.getElem?_eq_getElem hlt, Option.getD_some]
      have hLe : (txsB (ss.take m)).length ≤ 84 := by
        have h1 := txsB_le (ss.take m) (fun s h => hz s (List.mem_of_mem_take h))
        have h2 : (ss.take m).length ≤ 4 := by rw [List.length_take]; omega
        omega
      have hltI : (m : Int) < ss.length := by omega
      clear hc ck0
      generalize ss.getD m ByteArray.empty = x at ck hst hsz
      generalize txsB (ss.take m) = T at ho hst hLe
      have hBr : base ≤ wr.heap.size := Nat.le_trans hB G.grown.size
      go_wp2_with (at_builtin; first | (refine wpList_append_own_at _ rfl _ _ 46 rfl base 5 i (.int .u8 0) 1 1 Tryd.underlying46 hi hz0 hz1 hz2 rfl (by decide) _ (k + 1 + 3 + 1 + T.length) _ rfl (World.ownsRow.alloc ho _) ⟨wr.heap.size, 0, none⟩ 1 1 [.int .u8 (x.size : Int)] rfl rfl (cells_new _ _ _) (u8_one [_]) (by unfold maxLen; omega) (by omega) (le_alloc hBr _) ?_; intro v4 w4 ho4 hg4 _ hat4; have G4 := G.trans (Grew.of hg4 hat4).alloc; have ho4' : w4.ownsRow base 5 1 v4 (k + 1 + 3 + 1 + T.length + 1) (ub (bs ++ [au] ++ rd3 nu ++ [(ss.length : Int)] ++ T ++ [(x.size : Int)])) := (by simpa [ub] using ho4); clear ho4 hg4 hat4) | (refine wpList_append_str rfl _ _ rfl base _ (k + 1 + 3 + 1 + T.length + 1) _ rfl ho4' x rfl (by omega) (Nat.le_trans hB G4.grown.size) ?_; intro v5 w5 ho5 G5))
      go_roundw
      case rel =>
        have hR : ∃ m' : Nat, m' ≤ ss.length ∧ (Value.int .i64 ((m : Int) + 1)) = .int .i64 m' ∧ w5.ownsRow base 5 1 v5 (k + 1 + 3 + 1 + (txsB (ss.take m')).length) (ub (bs ++ [au] ++ rd3 nu ++ [(ss.length : Int)] ++ txsB (ss.take m'))) ∧ Grew w v w5 v5 :=
          ⟨m + 1, by omega, by go_num, by rw [hst.out]; simp only [List.length_append, List.length_cons, tb_length]; rw [show k + 1 + 3 + 1 + (T.length + (x.size + 1)) = k + 1 + 3 + 1 + T.length + 1 + x.size by omega]; simpa using ho5, G4.trans G5⟩
        first | exact hR | ((repeat apply Exists.intro); exact ⟨hR, rfl⟩)
      case measure => simp [intOf]; omega
    · obtain rfl : m = ss.length := by omega
      rw [List.take_of_length_le (Nat.le_refl _)] at ho
      have hltI : ¬ (ss.length : Int) < ss.length := by omega
      go_wp2_with fail
      go_ret
      refine ⟨_, rfl, ?_, G⟩
      have e : k + (batchB au nu ss).length = k + 1 + 3 + 1 + (txsB ss).length := by simp [batchB, rd3]; omega
      rw [e, show bs ++ batchB au nu ss = bs ++ [au] ++ rd3 nu ++ [(ss.length : Int)] ++ txsB ss by simp [batchB]]
      exact ho
end Go.Proofs.YtbmodfegcmaieaaDoor
