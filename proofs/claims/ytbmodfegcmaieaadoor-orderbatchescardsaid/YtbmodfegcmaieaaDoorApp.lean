/- Appends onto a row that the call owns, inside a region that draws its order; a slice of bytes as a text. -/
import Derived.Test.YtbmodfegcmaieaaDoorPK
import Derived.Deep.RegionLaw
import Derived.Laws.AppendOwnNone
namespace Go.Proofs.YtbmodfegcmaieaaDoor
open Go.RowKit

set_option maxRecDepth 100000 in
theorem step_append_own {P : Program} {ops : Array Oper} {o : Oper} {a : Act} {w : World} {K : Act → World → Prop} {Q : Exit → Act → World → Prop} {E : Prop}
    (hg : o.guard = none) (s x : Operand) (t : TypeId) (ho : o.op = .call { callee := .builtin .append, args := #[s, x], argTypes := #[t, t] })
    (base : Nat) (e : TypeId) (i : TypeInfo) (z : Value) (size bytes : Nat) (ht : P.underlying t = some (.slice e)) (hi : P.info? e = some i) (hz : i.zero = some z)
    (hsize : i.size = size) (hby : i.bytes = bytes) (hzs : z.cells.size = size) (hsz : 0 < size)
    (v : Value) (n : Nat) (xs : List Value) (hs : a.eval s = v) (hown : w.ownsRow base e size v n xs)
    (ad : Addr) (m c : Nat) (news : List Value) (hx : a.eval x = .slice (some ad) m c) (hl : news.length = m * size) (hnews : ∀ j u, news[j]? = some u → w.cell? (ad.add j) = some u) (h1 : ∀ u ∈ news, u.oneCell' = true)
    (h63 : n + m ≤ maxLen) (hbytes : (n + m) * bytes ≤ 140737488355328) (hbase : base ≤ w.heap.size)
    (hK : ∀ v' w', w'.ownsRow base e size v' (n + m) (xs ++ news) → w.grownBy w' v.ownBlock → K (a.put o.dst v') w') :
    if Region.wanted o (yielded ops a.tmps) = true then Oper.wp P o a w K Q else E := by
  have hw : Region.wanted o (yielded ops a.tmps) = true := by simp [Region.wanted, hg]
  rw [if_pos hw]
  exact wp_append_own w s x t ho base e i z size bytes ht hi hz hsize hby hzs hsz v n xs hs hown ad m c news hx hl hnews h1 h63 hbytes hbase fun v' w' h2 h3 _ => hK v' w' h2 h3

set_option maxRecDepth 100000 in
theorem owns_form {w : World} {base n : Nat} {v : Value} {bs : List Int} (h : w.ownsRow base 5 1 v n (ub bs)) : ∃ sa cap, v = .slice sa n cap ∧ n = bs.length ∧ SliceAt w sa cap bs := by
  have hl : n = bs.length := by have := h.1; rw [ub_length] at this; omega
  rcases h.2 with ⟨rfl, hn⟩ | ⟨g, cap, cur, rfl, _⟩
  · have hb : bs = [] := List.eq_nil_of_length_eq_zero (by omega)
    subst hn hb
    exact ⟨none, 0, rfl, rfl, ⟨Nat.le_refl _, by decide, .inl rfl, fun _ => rfl, .inl rfl⟩⟩
  · exact ⟨some ⟨g, 0, none⟩, cap, rfl, hl, (sliceAt_of_owns h).2⟩
set_option maxRecDepth 100000 in
theorem owns_snoc {w : World} {base n : Nat} {v : Value} {bs : List Int} {c : Int} (h : w.ownsRow base 5 1 v n (ub bs ++ [.int .u8 c])) : w.ownsRow base 5 1 v n (ub (bs ++ [c])) := by rw [show ub (bs ++ [c]) = ub bs ++ [.int .u8 c] by simp [ub]]; exact h
set_option maxRecDepth 100000 in
theorem le_alloc {B : Nat} {w : World} (h : B ≤ w.heap.size) (o : Obj) : B ≤ (w.alloc o).heap.size := by simp; exact Nat.le_succ_of_le h
/-- The text of bytes. -/
def bstr (bs : List Int) : ByteArray := bs.foldl (fun r n => r.push (UInt8.ofNat n.toNat)) ByteArray.empty
set_option maxRecDepth 100000 in
theorem run_text (w : World) (sa : Option Addr) (n cap : Nat) (bs : List Int) (hn : n = bs.length) (h : SliceAt w sa cap bs) :
    (convert 46 9 (.slice sa n cap)).run Tryd.prog w = .ok (.string (bstr bs)) w := by
  subst hn
  rw [run_convert_bytes_string w 46 9 5 sa _ _ Tryd.underlying46 Tryd.underlying5 Tryd.underlying9]
  cases sa with
  | none =>
    obtain rfl := h.nil rfl
    obtain rfl : bs = [] := List.eq_nil_of_length_eq_zero (by have := h.le; omega)
    rfl
  | some a =>
    refine run_bytesToString w a bs.length cap bs ?_
    have hl : (ub bs).length = bs.length := ub_length bs
    rw [← hl]
    refine run_loadCells_list (P := Tryd.prog) w a (ub bs) ?_
    intro j v hv
    rcases h.bytes with hb | ⟨sb, so, e, hb⟩
    · subst hb; simp [ub] at hv
    · cases e
      have hj : j < bs.length := by
        rcases Nat.lt_or_ge j bs.length with g | g
        · exact g
        · rw [List.getElem?_eq_none (by rw [ub_length]; exact g)] at hv; cases hv
      rw [add_off, hb j hj]
      simp [ub, hj] at hv
      simp [hj, hv]
set_option maxRecDepth 100000 in
/-- 'append(b, p...)': b a row that the call owns, p whatever slice of bytes, nil too. -/
theorem wpList_append_part {w : World} {ops : Array Oper} {rest : List Oper} {o : Oper} {a : Act} {Q : Exit → Act → World → Prop} (hgd : o.guard = none) (s x : Operand)
    (ho : o.op = .call { callee := .builtin .append, args := #[s, x], argTypes := #[46, 46] })
    (base : Nat) (v : Value) (n : Nat) (bs : List Int) (hs : a.eval s = v) (hown : w.ownsRow base 5 1 v n (ub bs))
    (sa : Option Addr) (m cap : Nat) (cs : List Int) (hx : a.eval x = .slice sa m cap) (hm : m = cs.length) (hp : SliceAt w sa cap cs)
    (hlen : n + m ≤ 140737488355328) (hbase : base ≤ w.heap.size)
    (h : ∀ v' w', w'.ownsRow base 5 1 v' (n + m) (ub (bs ++ cs)) → w.grownBy w' v.ownBlock → wpList Tryd.prog ops Q rest (a.put o.dst v') w') : wpList Tryd.prog ops Q (o :: rest) a w := by
  obtain ⟨i, hi, hz0, hz1, hz2⟩ := info_parts infoU8
  cases sa with
  | none =>
    obtain rfl := hp.nil rfl
    obtain rfl : cs = [] := List.eq_nil_of_length_eq_zero (by have := hp.le; omega)
    subst hm
    exact wpList_append_own_none hgd s x 46 ho base 5 i 1 Tryd.underlying46 hi v n (ub bs) hs hown hx (h v w (by simpa using hown) (World.grownBy.refl _ _))
  | some ad =>
    refine wpList_append_own w hgd s x 46 ho base 5 i (.int .u8 0) 1 1 Tryd.underlying46 hi hz0 hz1 hz2 rfl (by decide) v n (ub bs) hs hown ad m cap (ub cs) hx (by rw [ub_length, hm]; omega) ?_ (u8_one cs) (by unfold maxLen; omega) (by omega) hbase (fun v' w' h1 h2 _ => h v' w' (by rw [show ub (bs ++ cs) = ub bs ++ ub cs by simp [ub]]; exact h1) h2)
    intro j u hu
    rcases hp.bytes with hb | ⟨sb, so, e, hb⟩
    · subst hb; simp [ub] at hu
    · cases e
      have hj : j < cs.length := by
        rcases Nat.lt_or_ge j cs.length with g | g
        · exact g
        · rw [List.getElem?_eq_none (by rw [ub_length]; exact g)] at hu; cases hu
      rw [add_off, hb j hj]
      simp [ub, hj] at hu
      simp [hj, hu]
end Go.Proofs.YtbmodfegcmaieaaDoor
