/- The document's three: a round as three bytes. -/
import Derived.Test.YtbmodfegcmaieaaDoorOrderBatchesM6
import Derived.Test.YtbmodfegcmaieaaDoorBcF
import Derived.Deep.Slices
import Derived.Test.YtbmodfegcmaieaaDoorStrsF
import Derived.Test.YtbmodfegcmaieaaDoorTxt
import Derived.Test.YtbmodfegcmaieaaDoorSx
import Derived.Test.YtbmodfegcmaieaaDoorBstr
import Derived.Test.YtbmodfegcmaieaaDoorApp
import Derived.Laws.AppendOwnNone
import Derived.Deep.RegionHeld3
import Derived.Deep.RegionHeld2
import Derived.Test.YtbmodfegcmaieaaDoorAppR
namespace Go.Proofs.YtbmodfegcmaieaaDoor
open Go.ChangeShapes Go.WideShapes Go.ChangeAt Go.RowKit Go.Deep

set_option maxRecDepth 100000 in
theorem cBatB : Tryd.prog.cellsOf 42 = 3 := by kernel_rfl
set_option maxRecDepth 100000 in
theorem cIntB : Tryd.prog.cellsOf 3 = 1 := by kernel_rfl
set_option maxRecDepth 100000 in
theorem cStrsB : Tryd.prog.cellsOf 40 = 1 := by kernel_rfl
/-- A slice of batches that came in. -/
structure BinAt (w : World) (sa : Option Addr) (bl : List Bc) : Prop where
  cells : bl = [] ∨ ∃ sb so, sa = some ⟨sb, so, none⟩ ∧ ∀ j (h : j < bl.length), w.cell? ⟨sb, so + j * 3, none⟩ = some (.int .i64 (bl[j]).v.au) ∧ w.cell? ⟨sb, so + j * 3 + 1, none⟩ = some (.int .i64 (bl[j]).v.nu) ∧ w.cell? ⟨sb, so + j * 3 + 2, none⟩ = some (.slice (bl[j]).ta (bl[j]).v.ss.length (bl[j]).tc)
  each : ∀ b ∈ bl, I64 b.v.au ∧ I64 b.v.nu ∧ TextsAt w b.ta b.tc b.v.ss
set_option maxRecDepth 100000 in
theorem BinAt.below {w w' : World} {sa : Option Addr} {bl : List Bc} (h : BinAt w sa bl) (hb : Below w.heap.size w w') : BinAt w' sa bl := by
  refine ⟨?_, fun b hb' => ⟨(h.each b hb').1, (h.each b hb').2.1, (h.each b hb').2.2.below hb⟩⟩
  rcases h.cells with h | ⟨sb, so, rfl, hc⟩
  · exact .inl h
  · refine .inr ⟨sb, so, rfl, fun j hj => ?_⟩
    obtain ⟨h0, h1, h2⟩ := hc j hj
    have hlt : sb < w.heap.size := block_lt_of_cell h0
    exact ⟨(hb.cell (p := ⟨sb, so + j * 3, none⟩) hlt).trans h0, (hb.cell (p := ⟨sb, so + j * 3 + 1, none⟩) hlt).trans h1, (hb.cell (p := ⟨sb, so + j * 3 + 2, none⟩) hlt).trans h2⟩
set_option maxRecDepth 100000 in
theorem open_bc_cells {H : Type} {enc : TypeId × Value → H} {W : World} {fuel : Nat} {cs : List Value} {x : DataW H × List MemPlace}
    (hf : DataW.trod enc Tryd.prog W 0 (fun _ => true) true fuel 42 cs = some x) (hfit : ∀ n ∈ x.1.weights Tryd.prog 42, n ≤ reachBytes) :
    ∃ r : Bc, cs = [.int .i64 r.v.au, .int .i64 r.v.nu, .slice r.ta r.v.ss.length r.tc] ∧ I64 r.v.au ∧ I64 r.v.nu ∧ TextsAt W r.ta r.tc r.v.ss := by
  obtain ⟨xs, n, _, rfl, hl, hlen, hg⟩ := DataW.trod_struct Tryd.underlying42 hf
  rw [cBatB] at hl
  match xs, hlen with
  | [y0, y1, y2], _ =>
  have h0 := hg 0 _ rfl
  have h1 := hg 1 _ rfl
  have h2 := hg 2 _ rfl
  match cs, hl with
  | [c0, c1, c2], _ =>
  obtain ⟨a0, e0, rfl, w0⟩ := DataW.trod_int Tryd.underlying3 h0
  obtain ⟨a1, e1, rfl, w1⟩ := DataW.trod_int Tryd.underlying3 h1
  obtain ⟨sa, cap, ss, e2, hT⟩ := open_texts_cells h2 (fun n hn => hfit n (by simp [DataW.weights, DataW.weightsEach, Tryd.underlying42, hn]))
  simp [cIntB, cStrsB] at e0 e1 e2
  subst e0 e1 e2
  exact ⟨⟨⟨a0, a1, ss⟩, sa, cap⟩, rfl, bounds_i64 w0, bounds_i64 w1, hT⟩
set_option maxRecDepth 100000 in
theorem weightsAll_memB {H : Type} (e : TypeId) (l : List (DataW H)) (d : DataW H) (hd : d ∈ l) : ∀ n ∈ d.weights Tryd.prog e, n ∈ DataW.weightsAll Tryd.prog e l := by
  induction l with
  | nil => cases hd
  | cons x r ih =>
    intro n hn
    rw [DataW.weightsAll]
    rcases List.mem_cons.1 hd with rfl | h
    · exact List.mem_append_left _ hn
    · exact List.mem_append_right _ (ih h n hn)
set_option maxRecDepth 100000 in
theorem bBatB : Tryd.prog.bytesOf 42 = 40 := by kernel_rfl
set_option maxRecDepth 100000 in
theorem open_batches {H : Type} {enc : TypeId × Value → H} {W : World} {base : Nat} {v : Value} {d : DataW H} {p : List MemPlace}
    (hv : Value.okWide Tryd.prog W .any base 22 v) (h : DataW.Trod enc Tryd.prog W 0 (fun _ => true) true 22 v d p) (hfit : ∀ n ∈ d.weights Tryd.prog 22, n ≤ reachBytes) :
    ∃ sa cap bl, v = .slice sa (List.length bl) cap ∧ BinAt W sa bl ∧ bl.length ≤ cap ∧ bl.length * 40 ≤ 140737488351232 := by
  obtain ⟨a0, len0, cap0, rfl⟩ := okWide_slice Tryd.underlying22 hv
  obtain ⟨fuel, hf⟩ := h
  rcases open_slice Tryd.underlying22 hf with ⟨he, _⟩ | ⟨a, len, cap, m, n, D, Pl, he, _, hl, hm, hmm, hd, hx⟩
  · simp [Value.cells] at he
    obtain ⟨rfl, rfl, rfl⟩ := he
    exact ⟨none, 0, [], rfl, ⟨.inl rfl, (fun p hp => by cases hp)⟩, Nat.le_refl _, by decide⟩
  · simp [Value.cells] at he
    obtain ⟨rfl, rfl, rfl⟩ := he
    simp only [Prod.mk.injEq] at hd
    obtain ⟨rfl, rfl⟩ := hd
    simp only [if_true] at hmm
    subst hmm
    rw [cBatB] at hx
    have hw := hfit ((((List.range len0).map D).length + ((List.range (m - len0)).map fun j => D (len0 + j)).length) * Tryd.prog.bytesOf 42) (by simp [DataW.weights, Tryd.underlying22])
    rw [bBatB] at hw
    simp [reachBytes] at hw
    have each : ∀ i, i < len0 → ∃ r : Bc, (W.cell? (a.add (i * 3)) = some (.int .i64 r.v.au) ∧ W.cell? (a.add (i * 3 + 1)) = some (.int .i64 r.v.nu) ∧ W.cell? (a.add (i * 3 + 2)) = some (.slice r.ta r.v.ss.length r.tc)) ∧ (I64 r.v.au ∧ I64 r.v.nu ∧ TextsAt W r.ta r.tc r.v.ss) := fun i hi => by
      obtain ⟨cs', h1, h2⟩ := hx i (by omega)
      have hfi : ∀ n ∈ (D i).weights Tryd.prog 42, n ≤ reachBytes := fun n hn => hfit n (by
        have := weightsAll_memB 42 ((List.range len0).map D) (D i) (List.mem_map.2 ⟨i, List.mem_range.2 hi, rfl⟩) n hn
        simp only [DataW.weights, Tryd.underlying22]
        exact List.mem_cons_of_mem _ (List.mem_append_left _ this))
      obtain ⟨r, rfl, ii⟩ := open_bc_cells h2 hfi
      obtain ⟨_, _, hcell⟩ := World.cells?_some h1
      have e0 := hcell 0 (by omega)
      have e1 := hcell 1 (by omega)
      have e2 := hcell 2 (by omega)
      rw [add_add] at e0 e1 e2
      exact ⟨r, ⟨by simpa using e0, by simpa using e1, by simpa using e2⟩, ii⟩
    obtain ⟨P, hP⟩ := @choose_lt Bc ⟨⟨⟨0, 0, []⟩, none, 0⟩⟩ len0 _ each
    have ha : 0 < len0 → ∃ b off, a = ⟨b, off, none⟩ := fun hi => by
      have h9 := (hP 0 hi).1.1
      cases a with
      | mk b off spot =>
        cases spot with
        | none => exact ⟨b, off, rfl⟩
        | some s => simp [World.cell?, Addr.add] at h9; split at h9 <;> cases h9
    refine ⟨some a, m, (List.range len0).map P, by simp, ⟨?_, ?_⟩, by simpa using hl, by simp; omega⟩
    · rcases Nat.eq_zero_or_pos len0 with h0 | h0
      · subst h0; exact .inl rfl
      · right
        obtain ⟨b, off, rfl⟩ := ha h0
        refine ⟨b, off, rfl, fun j hj => ?_⟩
        have hj' : j < len0 := by simpa using hj
        obtain ⟨e0, e1, e2⟩ := (hP j hj').1
        rw [add_off] at e0 e1 e2
        simp only [List.getElem_map, List.getElem_range]
        exact ⟨e0, by rw [Nat.add_assoc]; exact e1, by rw [Nat.add_assoc]; exact e2⟩
    · intro p hp
      simp at hp
      obtain ⟨j, hj, rfl⟩ := hp
      exact (hP j hj).2
end Go.Proofs.YtbmodfegcmaieaaDoor

namespace Go.Proofs.YtbmodfegcmaieaaDoor
open Go.RowKit

/-- Is a text among them? -/
def inS (s : ByteArray) (ss : List ByteArray) : Bool := ss.any fun x => decide (x = s)
set_option maxRecDepth 100000 in
theorem inS_true {s : ByteArray} {ss : List ByteArray} (h : s ∈ ss) : inS s ss = true := by simp [inS, h]
set_option maxRecDepth 100000 in
theorem inS_false {s : ByteArray} {ss : List ByteArray} (h : s ∉ ss) : inS s ss = false := by
  rw [inS, List.any_eq_false]
  intro x hx
  simp only [decide_eq_true_eq]
  exact fun e => h (e ▸ hx)
/-- Transactions that may be, all different. -/
def poolOk (ss : List ByteArray) : Bool := ss.all txOk && decide ss.Nodup
/-- P7.1 -/
def poolF (nx : Int) (ss : List ByteArray) : Int := if ¬ (1 ≤ nx ∧ nx ≤ 1048577) ∨ 40 < ss.length then 12 else if poolOk ss = true then 0 else 12
set_option maxRecDepth 100000 in
theorem poolOk_iff {ss : List ByteArray} : poolOk ss = true ↔ (∀ s ∈ ss, txOk s = true) ∧ ss.Nodup := by simp [poolOk]
set_option maxRecDepth 100000 in
theorem getD_at {ss : List ByteArray} {q : Nat} (hq : q < ss.length) : ss.getD q ByteArray.empty = ss[q] := by simp [List.getD, hq]
set_option maxRecDepth 100000 in
theorem mem_take_at {ss : List ByteArray} {q : Nat} {s : ByteArray} : s ∈ ss.take q ↔ ∃ i, ∃ h : i < ss.length, i < q ∧ ss[i] = s := by
  rw [List.mem_iff_getElem]
  constructor
  · rintro ⟨i, hi, rfl⟩
    have hi' : i < q ∧ i < ss.length := by rw [List.length_take] at hi; omega
    exact ⟨i, hi'.2, hi'.1, by simp⟩
  · rintro ⟨i, h, hiq, rfl⟩
    exact ⟨i, by rw [List.length_take]; omega, by simp⟩
set_option maxRecDepth 100000 in
theorem poolOk_of {ss : List ByteArray} (h : ∀ q, q < ss.length → txOk (ss.getD q ByteArray.empty) = true ∧ ss.getD q ByteArray.empty ∉ ss.take q) : poolOk ss = true := by
  refine poolOk_iff.2 ⟨fun s hs => ?_, ?_⟩
  · obtain ⟨i, hi, rfl⟩ := List.mem_iff_getElem.1 hs
    have := (h i hi).1
    rwa [getD_at hi] at this
  · rw [List.Nodup, List.pairwise_iff_getElem]
    intro i j hi hj hij he
    refine (h j hj).2 ?_
    rw [getD_at hj, mem_take_at]
    exact ⟨i, hi, hij, he⟩
set_option maxRecDepth 100000 in
theorem poolOk_no_tx {ss : List ByteArray} {q : Nat} (hq : q < ss.length) (h : txOk (ss.getD q ByteArray.empty) = false) : poolOk ss = false := by
  rw [Bool.eq_false_iff]
  intro e
  have := (poolOk_iff.1 e).1 ss[q] (List.getElem_mem hq)
  rw [getD_at hq] at h
  rw [h] at this
  cases this
set_option maxRecDepth 100000 in
theorem poolOk_no_in {ss : List ByteArray} {q : Nat} (hq : q < ss.length) (h : ss.getD q ByteArray.empty ∈ ss.take q) : poolOk ss = false := by
  rw [Bool.eq_false_iff]
  intro e
  rw [getD_at hq, mem_take_at] at h
  obtain ⟨i, hi, hiq, he⟩ := h
  have := (poolOk_iff.1 e).2
  rw [List.Nodup, List.pairwise_iff_getElem] at this
  exact this i q hi hq hiq he
set_option maxRecDepth 100000 in
theorem poolOk_nil : poolOk [] = true := by decide
set_option maxRecDepth 100000 in
theorem poolOk_snoc {ss : List ByteArray} {t : ByteArray} (h : poolOk ss = true) (ht : txOk t = true) (hn : t ∉ ss) : poolOk (ss ++ [t]) = true := by
  obtain ⟨h1, h2⟩ := poolOk_iff.1 h
  refine poolOk_iff.2 ⟨fun s hs => ?_, ?_⟩
  · rcases List.mem_append.1 hs with g | g
    · exact h1 s g
    · obtain rfl : s = t := by simpa using g
      exact ht
  · rw [List.nodup_append]
    refine ⟨h2, by simp, ?_⟩
    intro a ha b hb
    obtain rfl : b = t := by simpa using hb
    exact fun e => hn (e ▸ ha)
set_option maxRecDepth 100000 in
theorem poolOk_drop {ss : List ByteArray} (h : poolOk ss = true) (k : Nat) : poolOk (ss.drop k) = true := by
  obtain ⟨h1, h2⟩ := poolOk_iff.1 h
  exact poolOk_iff.2 ⟨fun s hs => h1 s (List.mem_of_mem_drop hs), h2.sublist (List.drop_sublist k ss)⟩
/-- What is read of a slice of texts: it came in, or a call made it. -/
structure TxsAt (w : World) (sa : Option Addr) (cap : Nat) (ss : List ByteArray) : Prop where
  le : ss.length ≤ cap
  max : cap ≤ maxLen
  nil : sa = none → cap = 0
  strs : StrsAt w sa ss
set_option maxRecDepth 100000 in
theorem TxsAt.below {w w' : World} {sa : Option Addr} {cap : Nat} {ss : List ByteArray} (h : TxsAt w sa cap ss) (hb : Below w.heap.size w w') : TxsAt w' sa cap ss := ⟨h.le, h.max, h.nil, h.strs.below hb⟩
set_option maxRecDepth 100000 in
theorem TextsAt.txs {w : World} {sa : Option Addr} {cap : Nat} {ss : List ByteArray} (h : TextsAt w sa cap ss) : TxsAt w sa cap ss := ⟨h.le, by have := h.reach; unfold maxLen; omega, h.nil, h.strs⟩
set_option maxRecDepth 100000 in
theorem txsAt_of_owns {w : World} {base n : Nat} {v : Value} {ss : List ByteArray} (h : w.ownsRow base 9 1 v n (sv ss)) (hz : ∀ s ∈ ss, s.size ≤ maxLen) : ∃ ra rc, v = .slice ra ss.length rc ∧ n = ss.length ∧ TxsAt w ra rc ss ∧ ∀ sb so, ra = some ⟨sb, so, none⟩ → base ≤ sb := by
  obtain ⟨ra, rc, rfl, hl, hs, hf⟩ := strsAt_of_owns h hz
  refine ⟨ra, rc, by rw [hl], hl, ?_, hf⟩
  rcases h.2 with ⟨e, hn⟩ | ⟨g, cap, cur, e, _, _, h1, h2, _, _⟩
  · cases e
    exact ⟨by omega, by decide, fun _ => rfl, hs⟩
  · cases e
    exact ⟨by omega, h2, (fun e => by cases e), hs⟩
set_option maxRecDepth 100000 in
theorem StrsAt.take {w : World} {sa : Option Addr} {ss : List ByteArray} (h : StrsAt w sa ss) (k : Nat) : StrsAt w sa (ss.take k) := by
  refine ⟨?_, fun s hs => h.size s (List.mem_of_mem_take hs)⟩
  rcases h.cells with h | ⟨sb, so, rfl, hc⟩
  · subst h; simp
  · refine .inr ⟨sb, so, rfl, fun j hj => ?_⟩
    have hj' : j < k ∧ j < ss.length := by rw [List.length_take] at hj; omega
    rw [hc j hj'.2]
    simp [List.getD, hj'.1]
set_option maxRecDepth 100000 in
theorem StrsAt.drop {w : World} {sb so : Nat} {ss : List ByteArray} (h : StrsAt w (some ⟨sb, so, none⟩) ss) (k : Nat) : StrsAt w (some ⟨sb, so + k, none⟩) (ss.drop k) := by
  refine ⟨?_, fun s hs => h.size s (List.mem_of_mem_drop hs)⟩
  rcases h.cells with h | ⟨b, o, e, hc⟩
  · subst h; simp
  · cases e
    refine .inr ⟨sb, so + k, rfl, fun j hj => ?_⟩
    have hj' : k + j < ss.length := by simp at hj; omega
    rw [Nat.add_assoc, hc (k + j) hj']
    simp [List.getD]
end Go.Proofs.YtbmodfegcmaieaaDoor

namespace Go.Proofs.YtbmodfegcmaieaaDoor
open Go.RowKit

set_option maxRecDepth 100000 in
theorem sv_app (xs ys : List ByteArray) : sv (xs ++ ys) = sv xs ++ sv ys := by simp [sv]
set_option maxRecDepth 100000 in
theorem txs_cells {w : World} {ad : Addr} {cap : Nat} {cs : List ByteArray} (hp : TxsAt w (some ad) cap cs) : ∀ j u, (sv cs)[j]? = some u → w.cell? (ad.add j) = some u := by
  intro j u hu
  rcases hp.strs.cells with hb | ⟨sb, so, e, hb⟩
  · subst hb; simp [sv] at hu
  · cases e
    have hj : j < cs.length := by
      rcases Nat.lt_or_ge j cs.length with g | g
      · exact g
      · rw [List.getElem?_eq_none (by rw [sv_length]; exact g)] at hu; cases hu
    rw [add_off, hb j hj]
    simp [sv, hj] at hu
    simp [hj, hu]
set_option maxRecDepth 100000 in
/-- 'append(l, p...)': l a row that the call owns, p whatever slice of texts, nil too. -/
theorem wpList_append_txs {w : World} {ops : Array Oper} {rest : List Oper} {o : Oper} {a : Act} {Q : Exit → Act → World → Prop} (hgd : o.guard = none) (s x : Operand)
    (ho : o.op = .call { callee := .builtin .append, args := #[s, x], argTypes := #[40, 40] })
    (base : Nat) (v : Value) (n : Nat) (bs : List ByteArray) (hs : a.eval s = v) (hown : w.ownsRow base 9 1 v n (sv bs))
    (sa : Option Addr) (m cap : Nat) (cs : List ByteArray) (hx : a.eval x = .slice sa m cap) (hm : m = cs.length) (hp : TxsAt w sa cap cs)
    (hlen : (n + m) * 16 ≤ 140737488355328) (hbase : base ≤ w.heap.size)
    (h : ∀ v' w', w'.ownsRow base 9 1 v' (n + m) (sv (bs ++ cs)) → w.grownBy w' v.ownBlock → wpList Tryd.prog ops Q rest (a.put o.dst v') w') : wpList Tryd.prog ops Q (o :: rest) a w := by
  obtain ⟨i, hi, hz0, hz1, hz2⟩ := info_parts infoStr
  cases sa with
  | none =>
    obtain rfl := hp.nil rfl
    obtain rfl : cs = [] := List.eq_nil_of_length_eq_zero (by have := hp.le; omega)
    subst hm
    exact wpList_append_own_none hgd s x 40 ho base 9 i 1 Tryd.underlying40 hi v n (sv bs) hs hown hx (h v w (by simpa using hown) (World.grownBy.refl _ _))
  | some ad =>
    refine wpList_append_own w hgd s x 40 ho base 9 i (.string ByteArray.empty) 1 16 Tryd.underlying40 hi hz0 hz1 hz2 rfl (by decide) v n (sv bs) hs hown ad m cap (sv cs) hx (by rw [sv_length, hm]; omega) (txs_cells hp) (sv_one cs) (by unfold maxLen; omega) hlen hbase (fun v' w' h1 h2 _ => h v' w' (by rw [sv_app]; exact h1) h2)
end Go.Proofs.YtbmodfegcmaieaaDoor

namespace Go.Proofs.YtbmodfegcmaieaaDoor
open Go.RowKit

set_option maxRecDepth 100000 in
set_option maxHeartbeats 400000 in
theorem texts_own (ss : List ByteArray) (sa : Option Addr) (n cap : Nat) (w : World) (hn : n = ss.length) (hs : TxsAt w sa cap ss) (hl : n * 16 ≤ 140737488355328) :
    Calls Tryd.prog 49 #[.slice sa n cap] w fun e w' => ∃ v, e = .returned v ∧ w'.ownsRow w.heap.size 9 1 v n (sv ss) ∧ Below w.heap.size w w' := by
  have Hn : Hid (n = ss.length) := hn
  clear hn
  go_enter Tryd.func49, Tryd.ntmps49
  go_wp2_with (at_builtin; refine wpList_append_txs rfl _ _ rfl w.heap.size _ 0 [] rfl (World.ownsRow_nil _ _ _ _) sa n cap ss rfl Hn.out hs (by omega) (Nat.le_refl _) ?_; intro v1 w1 ho1 hg1)
  go_ret
  rw [Nat.zero_add] at ho1
  exact ⟨v1, rfl, ho1, grown_none hg1⟩
end Go.Proofs.YtbmodfegcmaieaaDoor

namespace Go.Proofs.YtbmodfegcmaieaaDoor
open Go.RowKit

set_option maxRecDepth 100000 in
theorem owns_setFar {w : World} {B n : Nat} {e : TypeId} {s : Nat} {v : Value} {xs : List Value} (h : w.ownsRow B e s v n xs) (b j : Nat) (x : Value) (hb : ∀ q, v.ownBlock = some q → q ≠ b) : (w.setCell ⟨b, j, none⟩ x).ownsRow B e s v n xs := by
  obtain ⟨h1, h2⟩ := h
  refine ⟨h1, ?_⟩
  rcases h2 with h2 | ⟨g, cap, cur, rfl, hg, hc, r⟩
  · exact .inl h2
  · exact .inr ⟨g, cap, cur, rfl, hg, heap_far hc (hb g rfl), r⟩
set_option maxRecDepth 100000 in
set_option maxHeartbeats 1000000 in
theorem batch_own (b : Bc) (w : World) (hs : TextsAt w b.ta b.tc b.v.ss) :
    Calls Tryd.prog 29 #[.agg #[.int .i64 b.v.au, .int .i64 b.v.nu, .slice b.ta b.v.ss.length b.tc]] w fun e w' => ∃ ra rc, e = .returned (.agg #[.int .i64 b.v.au, .int .i64 b.v.nu, .slice ra b.v.ss.length rc]) ∧ w'.ownsRow w.heap.size 9 1 (.slice ra b.v.ss.length rc) b.v.ss.length (sv b.v.ss) ∧ Below w.heap.size w w' := by
  obtain ⟨⟨au, nu, ss⟩, sa, cap⟩ := b
  dsimp only at hs ⊢
  have hreach : ss.length * 16 ≤ 140737488355328 := by have := hs.le; have := hs.reach; omega
  go_enter Tryd.func29, Tryd.ntmps29
  go_wp2_with fail
  have hR : Below w.heap.size w ((w.alloc (.cells #[.int .i64 au, .int .i64 nu, .slice sa ss.length cap] 42)).alloc (.cells #[.int .i64 0, .int .i64 0, .slice none 0 0] 42)) := ((Below.refl _ _).alloc (Nat.le_refl _) _).alloc (by simp) _
  have q0 := row_new (below_alloc (Below.refl ((w.alloc (.cells #[.int .i64 au, .int .i64 nu, .slice sa ss.length cap] 42)).alloc (.cells #[.int .i64 0, .int .i64 0, .slice none 0 0] 42)).heap.size ((w.alloc (.cells #[.int .i64 au, .int .i64 nu, .slice sa ss.length cap] 42)).alloc (.cells #[.int .i64 0, .int .i64 0, .slice none 0 0] 42))))
  have k0 := cells_at q0 0 _ rfl
  have k1 := cells_at q0 1 _ rfl
  have k2 := cells_at q0 2 _ rfl
  go_region_held2 (fun w' => w'.cell? ⟨w.heap.size, 0, none⟩ = some (.int .i64 au) ∧ w'.cell? ⟨w.heap.size, 1, none⟩ = some (.int .i64 nu) ∧ w'.cell? ⟨w.heap.size, 2, none⟩ = some (.slice sa ss.length cap)) (go_keep) ((go_at_call 49; refine (texts_own ss sa _ cap _ rfl (hs.below ?_).txs hreach).mono ?_; exact hR.drew; rintro e w1 ⟨v1, rfl, ho1, hb1⟩; obtain ⟨ra, rc, hve⟩ := owns_shape ho1; subst hve; replace hb1 := below_drew hb1; have r1 := row_new hb1; have r0 := row_new (below_alloc hb1); rw [size_alloc] at r1; have c0 := cells_at r0 0 _ rfl; have c1 := cells_at r0 1 _ rfl; have c2 := cells_at r0 2 _ rfl; have d0 := cells_at r1 0 _ rfl; have d1 := cells_at r1 1 _ rfl; have d2 := cells_at r1 2 _ rfl; have f0 := frozen_at r1 0; have f1 := frozen_at r1 1; have f2 := frozen_at r1 2))
  all_goals
    go_wp2_with fail
    have hfr' : ∀ q, (Value.slice ra ss.length rc).ownBlock = some q → q ≠ w.heap.size + 1 := fun q e => by have := (ho1.lt q e).1; simp at this; omega
    have ho2 : w1.ownsRow w.heap.size 9 1 (.slice ra ss.length rc) ss.length (sv ss) := own_wideO ho1 (by simp; omega)
    refine bodyPost_ret (v := .agg #[.int .i64 au, .int .i64 nu, .slice ra ss.length rc]) (by simp [results, Tryd.results29, go_sem, d0, d1, d2]) rfl ⟨ra, rc, rfl, ?_, ?_⟩
    · exact owns_setFar (owns_setFar (owns_setFar ho2 _ _ _ hfr') _ _ _ hfr') _ _ _ hfr'
    · exact (((below_alloc (below_alloc hb1)).setCell (by simp) _).setCell (by simp) _).setCell (by simp) _
/-- What batches answers. -/
structure BcpO (w w' : World) (e : Ending) (bl : List Bc) : Prop where
  below : Below w.heap.size w w'
  out : ∃ (v : Value) (cl : List Bc), e = .returned v ∧ cl.map (·.v) = bl.map (·.v) ∧ w'.ownsRow w.heap.size 42 3 v cl.length (bcl cl) ∧ ∀ b ∈ cl, BcAt w' b
set_option maxRecDepth 100000 in
set_option maxHeartbeats 4000000 in
theorem batches_any (bl : List Bc) (sa : Option Addr) (n cap : Nat) (w : World) (hn : n = bl.length) (hl : bl.length * 40 ≤ 140737488351232) (hr : BinAt w sa bl) :
    Calls Tryd.prog 14 #[.slice sa n cap] w fun e w' => BcpO w w' e bl := by
  subst hn
  obtain ⟨ib, hib, hi0, hi1, hi2⟩ := info_parts infoBatch
  have HR : Hid (∀ W : World, Below w.heap.size w W → BinAt W sa bl) := by
    show ∀ W, _
    exact fun W hW => hr.below hW
  clear hr
  go_enter Tryd.func14, Tryd.ntmps14
  go_wp2_with fail
  go_loopw [4, 3] (fun j v wr => ∃ (m : Nat) (cl : List Bc), m ≤ bl.length ∧ j = .int .i64 m ∧ Hid (cl.map (·.v) = (bl.take m).map (·.v)) ∧ Hid (cl.length = m) ∧ wr.ownsRow w.heap.size 42 3 v m (bcl cl) ∧ Hid (∀ b ∈ cl, TxOwn wr w.heap.size b) ∧ Below w.heap.size w wr) (fun j _ _ => bl.length - (intOf j).toNat)
  case atStart => exact ⟨0, [], Nat.zero_le _, rfl, (show _ = _ from rfl), (show _ = _ from rfl), World.ownsRow_nil _ _ _ _, (show ∀ b ∈ [], _ from fun b hb => by cases hb), Below.refl _ _⟩
  case round =>
    obtain ⟨m, cl, hm, rfl, HBL, HLN, ho, HTX, hb⟩ := hrel
    by_cases hlt : m < bl.length
    · have hltI : (m : Int) < bl.length := by omega
      have hrr := HR.out wr hb
      obtain ⟨sb, so, hse, hc⟩ : ∃ sb so, sa = some ⟨sb, so, none⟩ ∧ ∀ j (h : j < bl.length), _ := by
        rcases hrr.cells with h | h
        · rw [h] at hlt; simp at hlt
        · exact h
      subst hse
      obtain ⟨c0, c1, c2⟩ := hc m hlt
      have i5 := (hrr.each (bl[m]) (List.getElem_mem hlt)).2.2
      have HRT : Hid ((bl.take (m + 1)).map (·.v) = (bl.take m).map (·.v) ++ [(bl[m]).v]) := by
        show _ = _
        rw [List.take_succ_eq_append_getElem hlt, List.map_append]; rfl
      have HSZ : Hid (∀ s ∈ (bl[m]).v.ss, s.size ≤ maxLen) := i5.strs.size
      clear hc hrr
      generalize bl[m] = r at c0 c1 c2 i5 HRT HSZ
      have HBT := batch_own r wr i5
      go_wp2_with fail
      refine HBT.mono ?_
      rintro e w2 ⟨ba, bc, he, hot, hb2⟩
      subst he
      dsimp only
      have hB2 := hb.trans (hb2.mono hb.size)
      have ho2 := owns_keep ho hb2
      have HTX2 : Hid (∀ b ∈ cl ++ [⟨r.v, ba, bc⟩], TxOwn w2 w.heap.size b) := by
        show ∀ b ∈ cl ++ [⟨r.v, ba, bc⟩], _
        intro b hb'
        rcases List.mem_append.1 hb' with g | g
        · exact ⟨owns_keep (HTX.out b g).1 hb2, (HTX.out b g).2⟩
        · obtain rfl : b = _ := by simpa using g
          exact ⟨own_wideO hot hb.size, HSZ.out⟩
      clear HBT c0 c1 c2 hot HTX i5
      have q2 := heap_alloc_new w2 (.cells #[.int .i64 r.v.au, .int .i64 r.v.nu, .slice ba r.v.ss.length bc] 42)
      have hA2 := (Below.refl w2.heap.size w2).alloc (Nat.le_refl _) (.cells #[.int .i64 r.v.au, .int .i64 r.v.nu, .slice ba r.v.ss.length bc] 42)
      go_upto_region 6 with fail
      generalize w2.alloc (.cells #[.int .i64 r.v.au, .int .i64 r.v.nu, .slice ba r.v.ss.length bc] 42) = W3 at q2 hA2 ⊢
      have g0 := cells_at q2 0 _ rfl
      have g1 := cells_at q2 1 _ rfl
      have g2 := cells_at q2 2 _ rfl
      have hB3 := hB2.trans (hA2.mono hB2.size)
      have ho3 := owns_keep ho2 hA2
      go_wp2_with (at_builtin; refine wpList_append_own_at _ rfl _ _ 22 rfl w.heap.size 42 ib (.agg #[.int .i64 0, .int .i64 0, .slice none 0 0]) 3 40 Tryd.underlying22 hib hi0 hi1 hi2 rfl (by decide) _ m _ rfl (World.ownsRow.alloc ho3 _) ⟨W3.heap.size, 0, none⟩ 1 1 (Bc.cs ⟨r.v, ba, bc⟩) rfl rfl (cells_new _ _ _) (bc_one _) (by unfold maxLen; omega) (by omega) (le_alloc hB3.size _) ?_; intro v5 w5 ho5 hg5 _ hat5)
      have G5 := Grew.of hg5 hat5
      have hB5 := Below.grown (hB3.alloc hB3.size _) hg5 (le_alloc hB3.size _) (fun q e => (ho3.lt q e).1)
      have HTX5 : Hid (∀ b ∈ cl ++ [⟨r.v, ba, bc⟩], TxOwn w5 w.heap.size b) := by
        show ∀ b ∈ cl ++ [⟨r.v, ba, bc⟩], _
        intro b hb'
        obtain ⟨t1, t2⟩ := HTX2.out b hb'
        exact ⟨owns_grew (World.ownsRow.alloc (owns_keep t1 hA2) _) (World.ownsRow.alloc ho3 _) (by decide) G5, t2⟩
      go_roundw
      case rel =>
        have hR : ∃ (m' : Nat) (cl' : List Bc), m' ≤ bl.length ∧ (Value.int .i64 ((m : Int) + 1)) = .int .i64 m' ∧ Hid (cl'.map (·.v) = (bl.take m').map (·.v)) ∧ Hid (cl'.length = m') ∧ w5.ownsRow w.heap.size 42 3 v5 m' (bcl cl') ∧ Hid (∀ b ∈ cl', TxOwn w5 w.heap.size b) ∧ Below w.heap.size w w5 :=
          ⟨m + 1, cl ++ [⟨r.v, ba, bc⟩], by omega, by go_num, (by
            show _ = _
            rw [HRT.out, ← HBL.out, List.map_append]; rfl), (by
            show _ = _
            rw [List.length_append, HLN.out]; rfl), by rw [bcl_app]; simpa [bcl] using ho5, HTX5, hB5⟩
        first | exact hR | ((repeat apply Exists.intro); exact ⟨hR, rfl⟩)
      case measure => simp [intOf]; omega
    · obtain rfl : m = bl.length := by omega
      have HOUT : Hid (∀ v, wr.ownsRow w.heap.size 42 3 v bl.length (bcl cl) → BcpO w wr (.returned v) bl) := by
        show ∀ v, _
        intro v hv
        refine ⟨hb, v, cl, rfl, by rw [HBL.out, List.take_length], by rw [HLN.out]; exact hv, fun b hb' => (HTX.out b hb').at⟩
      go_wp2_with fail
      go_ret
      exact HOUT.out _ ho
end Go.Proofs.YtbmodfegcmaieaaDoor

namespace Go.Proofs.YtbmodfegcmaieaaDoor
open Go.RowKit

set_option maxRecDepth 100000 in
set_option maxHeartbeats 400000 in
theorem three_any (n : Int) (w : World) (hn : 0 ≤ n ∧ n ≤ 1048576) :
    Calls Tryd.prog 69 #[.int .i64 n] w fun e w' => e = .returned (.slice (some ⟨w.heap.size, 0, none⟩) 3 3) ∧ w'.ownsRow w.heap.size 5 1 (.slice (some ⟨w.heap.size, 0, none⟩) 3 3) 3 (ub (rd3 n)) ∧ Below w.heap.size w w' := by
  obtain ⟨hn0, hn1⟩ := hn
  have hO := World.ownsRow_lit (base := w.heap.size) (e := 5) (size := 1) w (ub (rd3 n)).toArray 3 (Nat.le_refl _) (by decide) rfl
  have HO : Hid _ := hO
  clear hO
  go_enter Tryd.func69, Tryd.ntmps69
  go_wp2_with fail
  go_ret
  exact ⟨rfl, HO.out, (Below.refl _ _).alloc (Nat.le_refl _) _⟩
end Go.Proofs.YtbmodfegcmaieaaDoor
