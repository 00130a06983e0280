/- Package pool: what P7.1 says; the transactions of a pool in memory. -/
import Derived.Test.YtikolpdedmhljaaStrsF
import Derived.Test.YtikolpdedmhljaaTxt
import Derived.Test.YtikolpdedmhljaaTextsAt
import Derived.Test.YtikolpdedmhljaaSx
import Derived.Test.YtikolpdedmhljaaBstr
namespace Go.Proofs.Ytikolpdedmhljaa
open Go.RowKit

/-- Is a text among them? -/
def inS (s : ByteArray) (ss : List ByteArray) : Bool := ss.any fun x => decide (x = s)
set_option maxRecDepth 100000 in
theorem inS_true {s : ByteArray} {ss : List ByteArray} (h : s ∈ ss) : inS s ss = true := by simp [inS, h]
set_option maxRecDepth 100000 in
theorem inS_false {s : ByteArray} {ss : List ByteArray} (h : s ∉ ss) : inS s ss = false := by
  rw [inS, List.any_eq_false]
  intro x hx
  simp only [decide_eq_true_eq]
  exact fun e => h (e ▸ hx)
/-- Transactions that may be, all different. -/
def poolOk (ss : List ByteArray) : Bool := ss.all txOk && decide ss.Nodup
/-- P7.1 -/
def poolF (nx : Int) (ss : List ByteArray) : Int := if ¬ (1 ≤ nx ∧ nx ≤ 1048577) ∨ 40 < ss.length then 12 else if poolOk ss = true then 0 else 12
set_option maxRecDepth 100000 in
theorem poolOk_iff {ss : List ByteArray} : poolOk ss = true ↔ (∀ s ∈ ss, txOk s = true) ∧ ss.Nodup := by simp [poolOk]
set_option maxRecDepth 100000 in
theorem getD_at {ss : List ByteArray} {q : Nat} (hq : q < ss.length) : ss.getD q ByteArray.empty = ss[q] := by simp [List.getD, hq]
set_option maxRecDepth 100000 in
theorem mem_take_at {ss : List ByteArray} {q : Nat} {s : ByteArray} : s ∈ ss.take q ↔ ∃ i, ∃ h : i < ss.length, i < q ∧ ss[i] = s := by
  rw [List.mem_iff_getElem]
  constructor
  · rintro ⟨i, hi, rfl⟩
    have hi' : i < q ∧ i < ss.length := by rw [List.length_take] at hi; omega
    exact ⟨i, hi'.2, hi'.1, by simp⟩
  · rintro ⟨i, h, hiq, rfl⟩
    exact ⟨i, by rw [List.length_take]; omega, by simp⟩
set_option maxRecDepth 100000 in
theorem poolOk_of {ss : List ByteArray} (h : ∀ q, q < ss.length → txOk (ss.getD q ByteArray.empty) = true ∧ ss.getD q ByteArray.empty ∉ ss.take q) : poolOk ss = true := by
  refine poolOk_iff.2 ⟨fun s hs => ?_, ?_⟩
  · obtain ⟨i, hi, rfl⟩ := List.mem_iff_getElem.1 hs
    have := (h i hi).1
    rwa [getD_at hi] at this
  · rw [List.Nodup, List.pairwise_iff_getElem]
    intro i j hi hj hij he
    refine (h j hj).2 ?_
    rw [getD_at hj, mem_take_at]
    exact ⟨i, hi, hij, he⟩
set_option maxRecDepth 100000 in
theorem poolOk_no_tx {ss : List ByteArray} {q : Nat} (hq : q < ss.length) (h : txOk (ss.getD q ByteArray.empty) = false) : poolOk ss = false := by
  rw [Bool.eq_false_iff]
  intro e
  have := (poolOk_iff.1 e).1 ss[q] (List.getElem_mem hq)
  rw [getD_at hq] at h
  rw [h] at this
  cases this
set_option maxRecDepth 100000 in
theorem poolOk_no_in {ss : List ByteArray} {q : Nat} (hq : q < ss.length) (h : ss.getD q ByteArray.empty ∈ ss.take q) : poolOk ss = false := by
  rw [Bool.eq_false_iff]
  intro e
  rw [getD_at hq, mem_take_at] at h
  obtain ⟨i, hi, hiq, he⟩ := h
  have := (poolOk_iff.1 e).2
  rw [List.Nodup, List.pairwise_iff_getElem] at this
  exact this i q hi hq hiq he
set_option maxRecDepth 100000 in
theorem poolOk_nil : poolOk [] = true := by decide
set_option maxRecDepth 100000 in
theorem poolOk_snoc {ss : List ByteArray} {t : ByteArray} (h : poolOk ss = true) (ht : txOk t = true) (hn : t ∉ ss) : poolOk (ss ++ [t]) = true := by
  obtain ⟨h1, h2⟩ := poolOk_iff.1 h
  refine poolOk_iff.2 ⟨fun s hs => ?_, ?_⟩
  · rcases List.mem_append.1 hs with g | g
    · exact h1 s g
    · obtain rfl : s = t := by simpa using g
      exact ht
  · rw [List.nodup_append]
    refine ⟨h2, by simp, ?_⟩
    intro a ha b hb
    obtain rfl : b = t := by simpa using hb
    exact fun e => hn (e ▸ ha)
set_option maxRecDepth 100000 in
theorem poolOk_drop {ss : List ByteArray} (h : poolOk ss = true) (k : Nat) : poolOk (ss.drop k) = true := by
  obtain ⟨h1, h2⟩ := poolOk_iff.1 h
  exact poolOk_iff.2 ⟨fun s hs => h1 s (List.mem_of_mem_drop hs), h2.sublist (List.drop_sublist k ss)⟩
/-- What is read of a slice of texts: it came in, or a call made it. -/
structure TxsAt (w : World) (sa : Option Addr) (cap : Nat) (ss : List ByteArray) : Prop where
  le : ss.length ≤ cap
  max : cap ≤ maxLen
  nil : sa = none → cap = 0
  strs : StrsAt w sa ss
set_option maxRecDepth 100000 in
theorem TxsAt.below {w w' : World} {sa : Option Addr} {cap : Nat} {ss : List ByteArray} (h : TxsAt w sa cap ss) (hb : Below w.heap.size w w') : TxsAt w' sa cap ss := ⟨h.le, h.max, h.nil, h.strs.below hb⟩
set_option maxRecDepth 100000 in
theorem TextsAt.txs {w : World} {sa : Option Addr} {cap : Nat} {ss : List ByteArray} (h : TextsAt w sa cap ss) : TxsAt w sa cap ss := ⟨h.le, by have := h.reach; unfold maxLen; omega, h.nil, h.strs⟩
set_option maxRecDepth 100000 in
theorem txsAt_of_owns {w : World} {base n : Nat} {v : Value} {ss : List ByteArray} (h : w.ownsRow base 9 1 v n (sv ss)) (hz : ∀ s ∈ ss, s.size ≤ maxLen) : ∃ ra rc, v = .slice ra ss.length rc ∧ n = ss.length ∧ TxsAt w ra rc ss ∧ ∀ sb so, ra = some ⟨sb, so, none⟩ → base ≤ sb := by
  obtain ⟨ra, rc, rfl, hl, hs, hf⟩ := strsAt_of_owns h hz
  refine ⟨ra, rc, by rw [hl], hl, ?_, hf⟩
  rcases h.2 with ⟨e, hn⟩ | ⟨g, cap, cur, e, _, _, h1, h2, _, _⟩
  · cases e
    exact ⟨by omega, by decide, fun _ => rfl, hs⟩
  · cases e
    exact ⟨by omega, h2, (fun e => by cases e), hs⟩
set_option maxRecDepth 100000 in
theorem StrsAt.take {w : World} {sa : Option Addr} {ss : List ByteArray} (h : StrsAt w sa ss) (k : Nat) : StrsAt w sa (ss.take k) := by
  refine ⟨?_, fun s hs => h.size s (List.mem_of_mem_take hs)⟩
  rcases h.cells with h | ⟨sb, so, rfl, hc⟩
  · subst h; simp
  · refine .inr ⟨sb, so, rfl, fun j hj => ?_⟩
    have hj' : j < k ∧ j < ss.length := by rw [List.length_take] at hj; omega
    rw [hc j hj'.2]
    simp [List.getD, hj'.1]
set_option maxRecDepth 100000 in
theorem StrsAt.drop {w : World} {sb so : Nat} {ss : List ByteArray} (h : StrsAt w (some ⟨sb, so, none⟩) ss) (k : Nat) : StrsAt w (some ⟨sb, so + k, none⟩) (ss.drop k) := by
  refine ⟨?_, fun s hs => h.size s (List.mem_of_mem_drop hs)⟩
  rcases h.cells with h | ⟨b, o, e, hc⟩
  · subst h; simp
  · cases e
    refine .inr ⟨sb, so + k, rfl, fun j hj => ?_⟩
    have hj' : k + j < ss.length := by simp at hj; omega
    rw [Nat.add_assoc, hc (k + j) hj']
    simp [List.getD]
end Go.Proofs.Ytikolpdedmhljaa
