/- Slices of batches, and what P6.2 says of them. -/
import Derived.Test.YtbmodfegcmaieaaDoorGBstr
import Derived.Test.YtbmodfegcmaieaaDoorGCBatch
import Derived.Test.YtbmodfegcmaieaaDoorGAppB
import Derived.Test.YtbmodfegcmaieaaDoorGIntsL
namespace Go.Proofs.YtbmodfegcmaieaaDoor
open Go.RowKit

set_option maxRecDepth 100000 in
theorem bstr_sz (bs : List Int) : (bstr bs).size = bs.length := by
  have h := congrArg List.length (bstr_data bs)
  simpa using h
/-- Is a text among them? -/
def inO (s : ByteArray) (ss : List ByteArray) : Bool := ss.any fun x => decide (x = s)
set_option maxRecDepth 100000 in
theorem inO_iff {s : ByteArray} {ss : List ByteArray} : inO s ss = true ↔ s ∈ ss := by simp [inO]
/-- Of each text the first one stays, behind those that stand in acc. -/
def onceS : List ByteArray → List ByteArray → List ByteArray
  | acc, [] => acc
  | acc, s :: r => onceS (bif inO s acc then acc else acc ++ [s]) r
set_option maxRecDepth 100000 in
theorem onceS_snoc (s : ByteArray) : ∀ (l acc : List ByteArray), onceS acc (l ++ [s]) = bif inO s (onceS acc l) then onceS acc l else onceS acc l ++ [s]
  | [], acc => rfl
  | x :: r, acc => by simp only [List.cons_append, onceS]; exact onceS_snoc s r _
set_option maxRecDepth 100000 in
theorem onceS_len : ∀ (l acc : List ByteArray), (onceS acc l).length ≤ acc.length + l.length
  | [], acc => by simp [onceS]
  | x :: r, acc => by
    have h := onceS_len r (bif inO x acc then acc else acc ++ [x])
    simp only [onceS, List.length_cons]
    cases hx : inO x acc
    · simp only [hx, cond_false, List.length_append, List.length_cons, List.length_nil] at h ⊢; omega
    · simp only [hx, cond_true] at h ⊢; omega
set_option maxRecDepth 100000 in
theorem onceS_mem : ∀ (l acc : List ByteArray) (s : ByteArray), s ∈ onceS acc l → s ∈ acc ∨ s ∈ l
  | [], _, _, h => .inl h
  | x :: r, acc, s, h => by
    rcases onceS_mem r _ s h with h | h
    · cases hx : inO x acc
      case true => rw [hx] at h; exact .inl h
      case false =>
        rw [hx] at h
        rcases List.mem_append.1 h with h | h
        · exact .inl h
        · simp at h; subst h; exact .inr (by simp)
    · exact .inr (by simp [h])
set_option maxRecDepth 100000 in
theorem onceS_sub : ∀ (l acc : List ByteArray) (s : ByteArray), (s ∈ acc ∨ s ∈ l) → s ∈ onceS acc l
  | [], _, _, h => by
    rcases h with h | h
    · exact h
    · cases h
  | x :: r, acc, s, h => by
    refine onceS_sub r _ s ?_
    cases hx : inO x acc
    · rcases h with h | h
      · exact .inl (List.mem_append.2 (.inl h))
      · rcases List.mem_cons.1 h with h | h
        · subst h; exact .inl (List.mem_append.2 (.inr (by simp)))
        · exact .inr h
    · rcases h with h | h
      · exact .inl h
      · rcases List.mem_cons.1 h with h | h
        · subst h; exact .inl (inO_iff.1 hx)
        · exact .inr h
set_option maxRecDepth 100000 in
theorem onceS_nodup : ∀ (l acc : List ByteArray), acc.Nodup → (onceS acc l).Nodup
  | [], _, h => h
  | x :: r, acc, h => by
    refine onceS_nodup r _ ?_
    cases hx : inO x acc
    · show (acc ++ [x]).Nodup
      rw [List.nodup_append]
      refine ⟨h, by simp, ?_⟩
      intro a ha b hb e
      obtain rfl : b = x := by simpa using hb
      subst e
      rw [inO_iff.2 ha] at hx; cases hx
    · exact h
set_option maxRecDepth 100000 in
theorem onceS_iff (l : List ByteArray) (s : ByteArray) : s ∈ onceS [] l ↔ s ∈ l := by
  constructor
  · intro h
    rcases onceS_mem l [] s h with h | h
    · cases h
    · exact h
  · intro h; exact onceS_sub l [] s (.inr h)
set_option maxRecDepth 100000 in
theorem once_len {a b : List ByteArray} (ha : a.Nodup) (hb : b.Nodup) (h : ∀ s, s ∈ a ↔ s ∈ b) : a.length = b.length := ((List.perm_ext_iff_of_nodup ha hb).2 h).length_eq
end Go.Proofs.YtbmodfegcmaieaaDoor

namespace Go.Proofs.YtbmodfegcmaieaaDoor
open Go.RowKit

set_option maxRecDepth 100000 in
theorem batchF_ok {au nu : Int} {ss : List ByteArray} (h : batchF au nu ss = 0) : (0 ≤ au ∧ au < 4) ∧ (1 ≤ nu ∧ nu ≤ 1048576) ∧ (1 ≤ ss.length ∧ ss.length ≤ 4) ∧ ∀ s ∈ ss, 1 ≤ s.size ∧ s.size ≤ 20 := by
  unfold batchF at h
  split at h
  · cases h
  · split at h
    · cases h
    · split at h
      · rename_i h1 h2 h3
        refine ⟨by omega, by omega, by omega, fun s hs => ?_⟩
        have := List.all_eq_true.1 h3 s hs
        simpa [txOk] using this
      · cases h
end Go.Proofs.YtbmodfegcmaieaaDoor

namespace Go.Proofs.YtbmodfegcmaieaaDoor
open Go.RowKit

/-- What counts of a batch. -/
structure BW where
  (au nu : Int) (ss : List ByteArray)
def BW.d (b : BW) : List Int := tagD 1 (batchB b.au b.nu b.ss)
def BW.f (b : BW) : Int := batchF b.au b.nu b.ss
/-- A batch, and where its texts lie. -/
structure Bc where
  v : BW
  ta : Option Addr
  tc : Nat
def Bc.cs (b : Bc) : List Value := [.int .i64 b.v.au, .int .i64 b.v.nu, .slice b.ta b.v.ss.length b.tc]
def Bc.val (b : Bc) : Value := .agg #[.int .i64 b.v.au, .int .i64 b.v.nu, .slice b.ta b.v.ss.length b.tc]
structure BcAt (w : World) (b : Bc) : Prop where
  strs : StrsAt w b.ta b.v.ss
  le : b.v.ss.length ≤ b.tc
  max : b.tc ≤ maxLen
  nil : b.ta = none → b.tc = 0
  lt : ∀ sb so, b.ta = some ⟨sb, so, none⟩ → sb < w.heap.size
set_option maxRecDepth 100000 in
theorem BcAt.below {w w' : World} {b : Bc} (h : BcAt w b) (hb : Below w.heap.size w w') : BcAt w' b := ⟨h.strs.below hb, h.le, h.max, h.nil, fun sb so e => Nat.lt_of_lt_of_le (h.lt sb so e) hb.size⟩
/-- What is read of a slice of batches. -/
structure BcsAt (w : World) (sa : Option Addr) (bl : List Bc) : Prop where
  cells : bl = [] ∨ ∃ sb so, sa = some ⟨sb, so, none⟩ ∧ ∀ j (h : j < bl.length), w.cell? ⟨sb, so + j * 3, none⟩ = some (.int .i64 (bl[j]).v.au) ∧ w.cell? ⟨sb, so + j * 3 + 1, none⟩ = some (.int .i64 (bl[j]).v.nu) ∧ w.cell? ⟨sb, so + j * 3 + 2, none⟩ = some (.slice (bl[j]).ta (bl[j]).v.ss.length (bl[j]).tc)
  each : ∀ b ∈ bl, BcAt w b
set_option maxRecDepth 100000 in
theorem BcsAt.below {w w' : World} {sa : Option Addr} {bl : List Bc} (h : BcsAt w sa bl) (hb : Below w.heap.size w w') : BcsAt w' sa bl := by
  refine ⟨?_, fun b hb' => (h.each b hb').below hb⟩
  rcases h.cells with h | ⟨sb, so, rfl, hc⟩
  · exact .inl h
  · refine .inr ⟨sb, so, rfl, fun j hj => ?_⟩
    obtain ⟨h0, h1, h2⟩ := hc j hj
    have hlt : sb < w.heap.size := block_lt_of_cell h0
    exact ⟨(hb.cell (p := ⟨sb, so + j * 3, none⟩) hlt).trans h0, (hb.cell (p := ⟨sb, so + j * 3 + 1, none⟩) hlt).trans h1, (hb.cell (p := ⟨sb, so + j * 3 + 2, none⟩) hlt).trans h2⟩
set_option maxRecDepth 100000 in
theorem BcsAt.at {w : World} {sa : Option Addr} {bl : List Bc} (h : BcsAt w sa bl) (m : Nat) (hm : m < bl.length) : ∃ sb so, sa = some ⟨sb, so, none⟩ ∧ w.cell? ⟨sb, so + m * 3, none⟩ = some (.int .i64 (bl[m]).v.au) ∧ w.cell? ⟨sb, so + m * 3 + 1, none⟩ = some (.int .i64 (bl[m]).v.nu) ∧ w.cell? ⟨sb, so + m * 3 + 2, none⟩ = some (.slice (bl[m]).ta (bl[m]).v.ss.length (bl[m]).tc) := by
  rcases h.cells with h | ⟨sb, so, rfl, hc⟩
  · rw [h] at hm; simp at hm
  · exact ⟨sb, so, rfl, hc m hm⟩
/-- Has one of them that digest? -/
def hasB (l : List BW) (d : List Int) : Bool := l.any fun b => decide (bstr b.d = bstr d)
/-- Is the k'th one none, or one of those ahead of it? -/
def badB (l : List BW) (k : Nat) : Bool := decide ((l.getD k ⟨0, 0, []⟩).f ≠ 0) || hasB (l.take k) (l.getD k ⟨0, 0, []⟩).d
/-- P6.2. -/
def bsF (l : List BW) : Int := if 800 < l.length ∨ (List.range l.length).any (badB l) = true then 12 else 0
set_option maxRecDepth 100000 in
theorem bsF_zero {l : List BW} (h : bsF l = 0) : l.length ≤ 800 ∧ ∀ k, k < l.length → badB l k = false := by
  unfold bsF at h
  split at h
  · cases h
  · rename_i g
    simp only [not_or, Nat.not_lt, Bool.not_eq_true] at g
    refine ⟨g.1, fun k hk => ?_⟩
    have := List.any_eq_false.1 g.2 k (List.mem_range.2 hk)
    simpa using this
set_option maxRecDepth 100000 in
theorem bsF_ok {l : List BW} (h : l.length ≤ 800) (g : ∀ k, k < l.length → badB l k = false) : bsF l = 0 := by
  unfold bsF
  rw [if_neg]
  rintro (h1 | h1)
  · omega
  · obtain ⟨k, hk, h2⟩ := List.any_eq_true.1 h1
    rw [g k (List.mem_range.1 hk)] at h2; cases h2
set_option maxRecDepth 100000 in
theorem bsF_bad {l : List BW} {k : Nat} (hk : k < l.length) (h : badB l k = true) : bsF l = 12 := by
  unfold bsF
  rw [if_pos]
  exact .inr (List.any_eq_true.2 ⟨k, List.mem_range.2 hk, h⟩)
set_option maxRecDepth 100000 in
theorem bsF_long {l : List BW} (h : 800 < l.length) : bsF l = 12 := by unfold bsF; rw [if_pos (.inl h)]
set_option maxRecDepth 100000 in
theorem bsF_or (l : List BW) : bsF l = 0 ∨ bsF l = 12 := by unfold bsF; split <;> simp
/-- The batch of a digest, its texts. -/
def bOf (l : List BW) (d : List Int) : Option BW := l.find? fun b => decide (bstr b.d = bstr d)
/-- The texts of batches, one behind the other; nothing, where one is missing. -/
def txsH (l : List BW) : List (List Int) → Option (List ByteArray)
  | [] => some []
  | d :: r => match bOf l d, txsH l r with
    | some b, some t => some (b.ss ++ t)
    | _, _ => none
set_option maxRecDepth 100000 in
theorem txsH_snoc (l : List BW) (ds : List (List Int)) (d : List Int) (t : List ByteArray) (h : txsH l ds = some t) : txsH l (ds ++ [d]) = (bOf l d).map (fun b => t ++ b.ss) := by
  induction ds generalizing t with
  | nil =>
    obtain rfl : [] = t := by simpa [txsH] using h
    simp only [List.nil_append, txsH]
    cases bOf l d <;> simp
  | cons x r ih =>
    simp only [List.cons_append, txsH] at h ⊢
    cases hb : bOf l x with
    | none => rw [hb] at h; cases h
    | some b =>
      rw [hb] at h
      cases hr : txsH l r with
      | none => rw [hr] at h; cases h
      | some q =>
        rw [hr] at h
        obtain rfl : b.ss ++ q = t := by simpa using h
        rw [ih q hr]
        cases bOf l d <;> simp
set_option maxRecDepth 100000 in
theorem txsH_none (l : List BW) (ds : List (List Int)) (d : List Int) (hd : d ∈ ds) (h : bOf l d = none) : txsH l ds = none := by
  induction ds with
  | nil => cases hd
  | cons x r ih =>
    simp only [txsH]
    rcases List.mem_cons.1 hd with e | e
    · subst e; rw [h]
    · rw [ih e]; cases bOf l x <;> rfl
set_option maxRecDepth 100000 in
theorem txsH_some {l : List BW} {ds : List (List Int)} (h : ∀ d ∈ ds, (bOf l d).isSome = true) : ∃ t, txsH l ds = some t := by
  induction ds with
  | nil => exact ⟨[], rfl⟩
  | cons x r ih =>
    obtain ⟨t, ht⟩ := ih (fun d hd => h d (by simp [hd]))
    obtain ⟨b, hb⟩ := Option.isSome_iff_exists.1 (h x (by simp))
    exact ⟨b.ss ++ t, by simp [txsH, hb, ht]⟩
set_option maxRecDepth 100000 in
theorem txsH_mem {l : List BW} {ds : List (List Int)} {t : List ByteArray} (h : txsH l ds = some t) (s : ByteArray) : s ∈ t ↔ ∃ d ∈ ds, ∃ b, bOf l d = some b ∧ s ∈ b.ss := by
  induction ds generalizing t with
  | nil =>
    obtain rfl : [] = t := by simpa [txsH] using h
    simp
  | cons x r ih =>
    simp only [txsH] at h
    cases hb : bOf l x with
    | none => rw [hb] at h; cases h
    | some b =>
      rw [hb] at h
      cases hr : txsH l r with
      | none => rw [hr] at h; cases h
      | some q =>
        rw [hr] at h
        obtain rfl : b.ss ++ q = t := by simpa using h
        rw [List.mem_append, ih hr]
        constructor
        · rintro (h1 | ⟨d, h1, h2⟩)
          · exact ⟨x, by simp, b, hb, h1⟩
          · exact ⟨d, by simp [h1], h2⟩
        · rintro ⟨d, h1, b', h2, h3⟩
          rcases List.mem_cons.1 h1 with e | e
          · subst e; rw [hb] at h2; cases h2; exact .inl h3
          · exact .inr ⟨d, e, b', h2, h3⟩
set_option maxRecDepth 100000 in
theorem bOf_mem {l : List BW} {d : List Int} {b : BW} (h : bOf l d = some b) : b ∈ l ∧ bstr b.d = bstr d := ⟨List.mem_of_find?_eq_some h, of_decide_eq_true (List.find?_some (p := fun b : BW => decide (bstr b.d = bstr d)) h)⟩
set_option maxRecDepth 100000 in
theorem bOf_none {l : List BW} {d : List Int} : bOf l d = none ↔ hasB l d = false := by
  unfold bOf hasB
  rw [List.find?_eq_none, List.any_eq_false]
set_option maxRecDepth 100000 in
theorem bOf_some {l : List BW} {d : List Int} : (bOf l d).isSome = hasB l d := by
  cases h : bOf l d with
  | none => rw [bOf_none.1 h]; rfl
  | some b =>
    cases h2 : hasB l d with
    | false => rw [bOf_none.2 h2] at h; cases h
    | true => rfl
set_option maxRecDepth 100000 in
theorem txsH_length {l : List BW} (hl : ∀ b ∈ l, b.ss.length ≤ 4) {ds : List (List Int)} {t : List ByteArray} (h : txsH l ds = some t) : t.length ≤ 4 * ds.length := by
  induction ds generalizing t with
  | nil =>
    obtain rfl : [] = t := by simpa [txsH] using h
    simp
  | cons x r ih =>
    simp only [txsH] at h
    cases hb : bOf l x with
    | none => rw [hb] at h; cases h
    | some b =>
      rw [hb] at h
      cases hr : txsH l r with
      | none => rw [hr] at h; cases h
      | some q =>
        rw [hr] at h
        obtain rfl : b.ss ++ q = t := by simpa using h
        have := ih hr
        have := hl b (bOf_mem hb).1
        simp only [List.length_append, List.length_cons]; omega
end Go.Proofs.YtbmodfegcmaieaaDoor
