/- The law sheaveskeep.BallotBad answers true for every argument, and each argument reads behind the call as it read before: the tied card. Its conditions: the three tables of package blake hold what the program's text lays (the card ties that); the form's own reach. -/
import Derived.Test.YtlpoioefalpgdaaDoorBallotBadM6
import Derived.Test.YtlpoioefalpgdaaDoorGrew
import Derived.Deep.RegionHeld3
import Derived.Laws.AppendOwnNone
import Derived.Test.YtlpoioefalpgdaaDoorCalls
import Derived.Deep.CutRange
import Derived.Deep.DeepCutAuto
import Derived.Test.YtlpoioefalpgdaaDoorRows
import Derived.Test.YtlpoioefalpgdaaDoorK
import Derived.Test.YtlpoioefalpgdaaDoorBallotBadM0
import Derived.Lib.LaidTab
import Derived.OpenShut
import Derived.Stop.LaidErr
import Derived.Test.YtlpoioefalpgdaaDoorLib
import Derived.ProofKit
import Derived.Test.YtlpoioefalpgdaaDoorCards
import Derived.Test.YtlpoioefalpgdaaDoorTie
import Derived.WalkKit
import Derived.Deep.DeepHandedRow
import Derived.SevenTiedAt
import Derived.Below
namespace Go.Proofs.YtlpoioefalpgdaaDoor
open Go.ChangeShapes Go.WideShapes Go.ChangeAt Go.RowKit Go.Deep

set_option maxRecDepth 100000 in
theorem infoRaw : (Tryd.prog.info? 25).map (fun i => (i.zero, i.size, i.bytes)) = some (some (.agg #[.int .i64 0, .int .i64 0, .int .i64 0, .int .i64 0, .slice none 0 0]), 5, 56) := by kernel_rfl
def rcell (r : Rw) : List Value := [.int .i64 r.ki, .int .i64 r.a, .int .i64 r.b, .int .i64 r.c, .slice r.sa r.n r.cap]
set_option maxRecDepth 100000 in
theorem rcell_len (r : Rw) : (rcell r).length = 5 := rfl
def rcells (rs : List Rw) : List Value := rs.flatMap rcell
set_option maxRecDepth 100000 in
theorem rcells_len (rs : List Rw) : (rcells rs).length = rs.length * 5 := by
  induction rs with
  | nil => rfl
  | cons x l ih => simp only [rcells, List.flatMap_cons, List.length_append] at ih ⊢; rw [ih, rcell_len]; simp; omega
set_option maxRecDepth 100000 in
theorem rcells_app (xs ys : List Rw) : rcells (xs ++ ys) = rcells xs ++ rcells ys := by simp [rcells]
set_option maxRecDepth 100000 in
theorem rcells_at (rs : List Rw) (k : Nat) (hk : k < rs.length) (j : Nat) (hj : j < 5) : (rcells rs)[k * 5 + j]? = (rcell (rs[k]))[j]? := by
  induction rs generalizing k with
  | nil => simp at hk
  | cons x l ih =>
    cases k with
    | zero =>
      simp only [rcells, List.flatMap_cons, Nat.zero_mul, Nat.zero_add, List.getElem_cons_zero]
      rw [List.getElem?_append_left (by rw [rcell_len]; exact hj)]
    | succ k =>
      simp only [rcells, List.flatMap_cons, List.getElem_cons_succ]
      rw [List.getElem?_append_right (by rw [rcell_len]; omega), rcell_len, show (k + 1) * 5 + j - 5 = k * 5 + j by omega]
      exact ih k (by simpa using hk)
set_option maxRecDepth 100000 in
theorem rcells_one (rs : List Rw) : ∀ u ∈ rcells rs, u.oneCell' = true := by
  intro u hu
  obtain ⟨r, _, hu⟩ := List.mem_flatMap.1 hu
  simp [rcell] at hu
  rcases hu with rfl | rfl | rfl | rfl | rfl <;> rfl
set_option maxRecDepth 100000 in
theorem raws_cells {w : World} {ad : Addr} {cs : List Rw} (hp : RawsAt w (some ad) cs) : ∀ j u, (rcells cs)[j]? = some u → w.cell? (ad.add j) = some u := by
  intro j u hu
  rcases hp.cells with hb | ⟨sb, so, e, hb⟩
  · subst hb; simp [rcells] at hu
  · cases e
    have hj : j < cs.length * 5 := by
      rcases Nat.lt_or_ge j (cs.length * 5) with g | g
      · exact g
      · rw [List.getElem?_eq_none (by rw [rcells_len]; exact g)] at hu; cases hu
    have hk : j / 5 < cs.length := by omega
    have hd : j = j / 5 * 5 + j % 5 := by omega
    have h5 : j % 5 < 5 := by omega
    rw [add_off]
    obtain ⟨h0, h1, h2, h3, h4⟩ := hb (j / 5) hk
    rw [hd, rcells_at cs (j / 5) hk (j % 5) h5] at hu
    have hq : so + j = so + j / 5 * 5 + j % 5 := by omega
    rw [hq]
    generalize j / 5 = q at *
    rcases (by omega : j % 5 = 0 ∨ j % 5 = 1 ∨ j % 5 = 2 ∨ j % 5 = 3 ∨ j % 5 = 4) with h | h | h | h | h <;> rw [h] at hu ⊢ <;> simp [rcell] at hu <;> subst hu
    · exact h0
    · exact h1
    · exact h2
    · exact h3
    · exact h4
set_option maxRecDepth 100000 in
theorem rawts_of_owns {w : World} {base n : Nat} {v : Value} {rs : List Rw} (h : w.ownsRow base 25 5 v n (rcells rs)) (he : ∀ r ∈ rs, I64 r.a ∧ I64 r.b ∧ I64 r.c) (hs : rs.length ≤ 3000000000000000000) : ∃ sa cap, v = .slice sa rs.length cap ∧ RawsAt w sa rs := by
  have hl : n = rs.length := by have := h.1; rw [rcells_len] at this; omega
  subst hl
  rcases h.2 with ⟨rfl, hn⟩ | ⟨g, cap, cur, rfl, hr⟩
  · exact ⟨none, 0, by rw [hn], .inl (List.eq_nil_of_length_eq_zero (by omega)), he, hs⟩
  · refine ⟨some ⟨g, 0, none⟩, cap, rfl, .inr ⟨g, 0, rfl, fun j hj => ?_⟩, he, hs⟩
    have hc : ∀ i, i < 5 → w.cell? ⟨g, 0 + j * 5 + i, none⟩ = (rcell (rs[j]))[i]? := fun i hi => by
      rw [show 0 + j * 5 + i = j * 5 + i by omega, World.ownsRow.cellAt h (j * 5 + i) (by omega), rcells_at rs j hj i hi]
    exact ⟨hc 0 (by omega), hc 1 (by omega), hc 2 (by omega), hc 3 (by omega), hc 4 (by omega)⟩
set_option maxRecDepth 100000 in
/-- 'append(l, p...)': l a row that the call owns, p whatever slice of raw things, nil too. -/
theorem wpList_append_raws {w : World} {ops : Array Oper} {rest : List Oper} {o : Oper} {a : Act} {Q : Exit → Act → World → Prop} (hgd : o.guard = none) (s x : Operand)
    (ho : o.op = .call { callee := .builtin .append, args := #[s, x], argTypes := #[22, 22] })
    (base : Nat) (v : Value) (n : Nat) (bs : List Rw) (hs : a.eval s = v) (hown : w.ownsRow base 25 5 v n (rcells bs))
    (sa : Option Addr) (m cap : Nat) (cs : List Rw) (hx : a.eval x = .slice sa m cap) (hm : m = cs.length) (hp : RawsAt w sa cs) (hnil : sa = none → m = 0 ∧ cap = 0)
    (hlen : (n + m) * 56 ≤ 140737488355328) (hbase : base ≤ w.heap.size)
    (h : ∀ v' w', w'.ownsRow base 25 5 v' (n + m) (rcells (bs ++ cs)) → w.grownBy w' v.ownBlock → wpList Tryd.prog ops Q rest (a.put o.dst v') w') : wpList Tryd.prog ops Q (o :: rest) a w := by
  obtain ⟨i, hi, hz0, hz1, hz2⟩ := info_parts infoRaw
  cases sa with
  | none =>
    obtain ⟨h1, h2⟩ := hnil rfl
    subst h1 h2
    obtain rfl : cs = [] := List.eq_nil_of_length_eq_zero hm.symm
    exact wpList_append_own_none hgd s x 22 ho base 25 i 5 Tryd.underlying22 hi v n (rcells bs) hs hown hx (h v w (by simpa using hown) (World.grownBy.refl _ _))
  | some ad =>
    refine wpList_append_own w hgd s x 22 ho base 25 i (.agg #[.int .i64 0, .int .i64 0, .int .i64 0, .int .i64 0, .slice none 0 0]) 5 56 Tryd.underlying22 hi hz0 hz1 hz2 rfl (by decide) v n (rcells bs) hs hown ad m cap (rcells cs) hx (by rw [rcells_len, hm]) (raws_cells hp) (rcells_one cs) (by unfold maxLen; omega) hlen hbase ?_
    intro v' w' h1 h2 _
    exact h v' w' (by rw [rcells_app]; exact h1) h2
/-- A raw thing of nothing. -/
def noRw : Rw := ⟨0, 0, 0, 0, none, 0, 0⟩
set_option maxRecDepth 100000 in
theorem noRw_ok : I64 noRw.a ∧ I64 noRw.b ∧ I64 noRw.c := ⟨by constructor <;> decide, by constructor <;> decide, by constructor <;> decide⟩
set_option maxRecDepth 100000 in
theorem bRawM : Tryd.prog.bytesOf 25 = 56 := by kernel_rfl
set_option maxRecDepth 100000 in
theorem open_rawsm {H : Type} {enc : TypeId × Value → H} {W : World} {base : Nat} {v : Value} {d : DataW H} {p : List MemPlace}
    (hv : Value.okWide Tryd.prog W .any base 22 v) (h : DataW.Trod enc Tryd.prog W 0 (fun _ => true) true 22 v d p) (hfit : ∀ n ∈ d.weights Tryd.prog 22, n ≤ reachBytes) :
    ∃ sa cap rs, v = .slice sa (List.length rs) cap ∧ RawsAt W sa rs ∧ rs.length ≤ cap ∧ (sa = none → cap = 0) ∧ rs.length * 56 ≤ 140737488351232 := by
  obtain ⟨sa, cap, rs, rfl, h1, h2⟩ := open_raws hv h hfit
  refine ⟨sa, cap, rs, rfl, h1, h2, ?_⟩
  obtain ⟨fuel, hf⟩ := h
  rcases open_slice Tryd.underlying22 hf with ⟨he, _⟩ | ⟨a, len, cap0, m, n, D, Pl, he, _, hl, hm, hmm, hd, hx⟩
  · simp [Value.cells] at he
    obtain ⟨rfl, h3, rfl⟩ := he
    exact ⟨fun _ => rfl, by rw [h3]; simp⟩
  · simp [Value.cells] at he
    obtain ⟨rfl, rfl, rfl⟩ := he
    simp only [Prod.mk.injEq] at hd
    obtain ⟨rfl, rfl⟩ := hd
    simp only [if_true] at hmm
    subst hmm
    have hw := hfit ((((List.range rs.length).map D).length + ((List.range (m - rs.length)).map fun j => D (rs.length + j)).length) * Tryd.prog.bytesOf 25) (by simp [DataW.weights, Tryd.underlying22])
    rw [bRawM] at hw
    simp [reachBytes] at hw
    exact ⟨(fun e => by cases e), by omega⟩
end Go.Proofs.YtlpoioefalpgdaaDoor

namespace Go.Proofs.YtlpoioefalpgdaaDoor
open Go.RowKit

set_option maxRecDepth 100000 in
theorem step_append_on {ops : Array Oper} {o : Oper} {a : Act} {w : World} {K : Act → World → Prop} {Q : Exit → Act → World → Prop} {E : Prop}
    (hw : Region.wanted o (yielded ops a.tmps) = true) (d : Nat) (hd : o.dst = some d) (s x : Operand) (t : TypeId) (ho : o.op = .call { callee := .builtin .append, args := #[s, x], argTypes := #[t, t] })
    (base : Nat) (e : TypeId) (i : TypeInfo) (z : Value) (size bytes : Nat) (ht : Tryd.prog.underlying t = some (.slice e)) (hi : Tryd.prog.info? e = some i) (hz : i.zero = some z)
    (hsize : i.size = size) (hby : i.bytes = bytes) (hzs : z.cells.size = size) (hsz : 0 < size)
    (v : Value) (n : Nat) (xs : List Value) (hs : a.eval s = v) (hown : w.ownsRow base e size v n xs)
    (ad : Addr) (m c : Nat) (news : List Value) (hx : a.eval x = .slice (some ad) m c) (hl : news.length = m * size) (hnews : ∀ j u, news[j]? = some u → w.cell? (ad.add j) = some u) (h1 : ∀ u ∈ news, u.oneCell' = true)
    (h63 : n + m ≤ maxLen) (hbytes : (n + m) * bytes ≤ 140737488355328) (hbase : base ≤ w.heap.size)
    (hK : ∀ v' w', w'.ownsRow base e size v' (n + m) (xs ++ news) → Grew w v w' v' → K (a.put (some d) v') w') :
    if Region.wanted o (yielded ops a.tmps) = true then Oper.wp Tryd.prog o a w K Q else E := by
  rw [if_pos hw]
  obtain ⟨v', w', hr, h2, h3, _, h5⟩ := run_append_own_at (P := Tryd.prog) w base t o.type e i z size bytes ht hi hz hsize hby hzs hsz v n xs hown ad m c news hl hnews h1 h63 hbytes hbase
  unfold Oper.wp execOp
  simp only [ho, resolve, invoke, builtin, Sem.run_bind, Sem.run_pure, Result.andThen_ok, List.map_toArray, List.map_cons, List.map_nil, hs, hx, hr]
  rw [Oper.upon_value, hd]
  exact hK v' w' h2 (Grew.of h3 h5)
set_option maxRecDepth 100000 in
/-- An operation behind a guard that is no call, and that turns the world. -/
theorem step_run_on {ops : Array Oper} {o : Oper} {a : Act} {w : World} {K : Act → World → Prop} {Q : Exit → Act → World → Prop} {E : Prop}
    (hw : Region.wanted o (yielded ops a.tmps) = true) (d : Nat) (hd : o.dst = some d) (v : Value) (w' : World) (hr : (execOp a.eval o).run Tryd.prog w = .ok (.value v) w') (hK : K (a.put (some d) v) w') :
    if Region.wanted o (yielded ops a.tmps) = true then Oper.wp Tryd.prog o a w K Q else E := by
  rw [if_pos hw]
  unfold Oper.wp
  rw [hr, Oper.upon_value, hd]
  exact hK
set_option maxRecDepth 100000 in
/-- A store as the operation that comes up. -/
theorem step_store {ops : Array Oper} {o : Oper} {a : Act} {w : World} {K : Act → World → Prop} {Q : Exit → Act → World → Prop} {E : Prop}
    (hg : o.guard = none) (hd : o.dst = none) (w' : World) (hr : (execOp a.eval o).run Tryd.prog w = .ok .skip w') (hK : K a w') :
    if Region.wanted o (yielded ops a.tmps) = true then Oper.wp Tryd.prog o a w K Q else E := by
  have hw : Region.wanted o (yielded ops a.tmps) = true := by simp [Region.wanted, hg]
  rw [if_pos hw]
  unfold Oper.wp
  rw [hr, Oper.upon_skip, hd]
  exact hK
end Go.Proofs.YtlpoioefalpgdaaDoor

namespace Go.Proofs.YtlpoioefalpgdaaDoor
open Go.RowKit

set_option maxRecDepth 100000 in
theorem sv_app (a b : List Sl) : sv (a ++ b) = sv a ++ sv b := by
  induction a with
  | nil => rfl
  | cons x a ih => simp only [List.cons_append, sv, ih, List.append_assoc]
set_option maxRecDepth 100000 in
theorem sv_one9 (ls : List Sl) : ∀ u ∈ sv ls, u.oneCell' = true := by
  induction ls with
  | nil => intro u hu; cases hu
  | cons x l ih =>
    intro u hu
    rcases List.mem_append.1 hu with h | h
    · simp [Sl.cs] at h
      rcases h with rfl | rfl | rfl <;> rfl
    · exact ih u h
set_option maxRecDepth 100000 in
theorem slots_cells {w : World} {ad : Addr} {cs : List Sl} (hp : SlotsAt w (some ad) cs) : ∀ j u, (sv cs)[j]? = some u → w.cell? (ad.add j) = some u := by
  intro j u hu
  rcases hp.cells with hb | ⟨sb, so, e, hb⟩
  · subst hb; simp [sv] at hu
  · cases e
    have hj : j < cs.length * 3 := by
      rcases Nat.lt_or_ge j (cs.length * 3) with g | g
      · exact g
      · rw [List.getElem?_eq_none (by rw [sv_length]; omega)] at hu; cases hu
    have hk : j / 3 < cs.length := by omega
    have hd : j = j / 3 * 3 + j % 3 := by omega
    have h5 : j % 3 < 3 := by omega
    rw [add_off]
    obtain ⟨h0, h1, h2⟩ := hb (j / 3) hk
    rw [hd, sv_get cs (j / 3) (j % 3) hk h5] at hu
    have hq : so + j = so + j / 3 * 3 + j % 3 := by omega
    rw [hq]
    generalize j / 3 = q at *
    rcases (by omega : j % 3 = 0 ∨ j % 3 = 1 ∨ j % 3 = 2) with h | h | h <;> rw [h] at hu ⊢ <;> simp [Sl.cs] at hu <;> subst hu
    · exact h0
    · exact h1
    · exact h2
set_option maxRecDepth 100000 in
theorem one_slot {w : World} {b : Nat} {x : Sl} (h : w.heap[b]? = some (.cells #[.int .i64 x.au, .int .i64 x.rd, .slice x.p.sa x.p.bs.length x.p.cap] 33 (0, 0))) (hx : SliceAt w x.p.sa x.p.cap x.p.bs) : SlotsAt w (some ⟨b, 0, none⟩) [x] := by
  refine ⟨.inr ⟨b, 0, rfl, fun j hj => ?_⟩, fun s hs => ?_⟩
  · obtain rfl : j = 0 := by simpa using hj
    exact ⟨cells_at h 0 _ rfl, cells_at h 1 _ rfl, cells_at h 2 _ rfl⟩
  · obtain rfl : s = x := by simpa using hs
    exact hx
set_option maxRecDepth 100000 in
theorem step_append_slots {w : World} {ops : Array Oper} {o : Oper} {a : Act} {K : Act → World → Prop} {Q : Exit → Act → World → Prop} {E : Prop}
    (hg : o.guard = none) (d : Nat) (hd : o.dst = some d) (s x : Operand) (ho : o.op = .call { callee := .builtin .append, args := #[s, x], argTypes := #[27, 27] })
    (base : Nat) (v : Value) (n : Nat) (l : List Sl) (hs : a.eval s = v) (hown : w.ownsRow base 33 3 v n (sv l))
    (sa : Option Addr) (m cap : Nat) (cs : List Sl) (hx : a.eval x = .slice sa m cap) (hm : m = cs.length) (hp : SlotsAt w sa cs)
    (hlen : n + m ≤ 1000000) (hbase : base ≤ w.heap.size)
    (hK : ∀ v' w', w'.ownsRow base 33 3 v' (n + m) (sv (l ++ cs)) → Grew w v w' v' → K (a.put (some d) v') w') (hsa : ∃ ad, sa = some ad := by exact ⟨_, rfl⟩) :
    if Region.wanted o (yielded ops a.tmps) = true then Oper.wp Tryd.prog o a w K Q else E := by
  obtain ⟨i, hi, hz0, hz1, hz2⟩ := info_parts infoSlot
  obtain ⟨ad, rfl⟩ := hsa
  exact step_append_at hg s x 27 ho base 33 i _ 3 40 Tryd.underlying27 hi hz0 hz1 hz2 rfl (by decide) v n (sv l) hs hown ad m cap (sv cs) hx (by rw [sv_length, hm]) (slots_cells hp) (sv_one9 cs) (by unfold maxLen; omega) (by omega) hbase (fun v' w' h1 h2 => by rw [hd]; exact hK v' w' (by rw [sv_app]; exact h1) h2)
set_option maxRecDepth 100000 in
theorem tab_own2 {w : World} {base n : Nat} {v : Value} {ls : List Sl} (h : w.ownsRow base 33 3 v n (sv ls)) (hn : n ≤ 3000000000000000000) (he : ∀ s ∈ ls, SliceAt w s.p.sa s.p.cap s.p.bs) : ∃ ra rc, v = .slice ra n rc ∧ TabAt w ra rc ls := by
  have hl : n = ls.length := by have := h.1; rw [sv_length] at this; omega
  rcases h.2 with ⟨rfl, h0⟩ | ⟨g, cap, cur, rfl, hr⟩
  · have hb : ls = [] := List.eq_nil_of_length_eq_zero (by omega)
    subst h0 hb
    exact ⟨none, 0, rfl, ⟨Nat.le_refl _, by decide, by decide, .inl rfl, ⟨.inl rfl, fun p hp => by cases hp⟩⟩⟩
  · refine ⟨some ⟨g, 0, none⟩, cap, rfl, ⟨?_, ?_, by omega, .inr ⟨g, 0, rfl⟩, ⟨.inr ⟨g, 0, rfl, fun j hj => ?_⟩, he⟩⟩⟩
    · obtain ⟨_, _, h1, _⟩ := hr
      omega
    · obtain ⟨_, _, _, h2, _⟩ := hr
      exact h2
    · have e : ∀ i, i < 3 → w.cell? ⟨g, j * 3 + i, none⟩ = (ls[j]).cs[i]? := fun i hi => by rw [World.ownsRow.cellAt h (j * 3 + i) (by omega), sv_get ls j i hj hi]
      have e0 := e 0 (by omega)
      have e1 := e 1 (by omega)
      have e2 := e 2 (by omega)
      exact ⟨by simpa [Sl.cs] using e0, by simpa [Sl.cs] using e1, by simpa [Sl.cs] using e2⟩
set_option maxRecDepth 100000 in
set_option maxHeartbeats 4000000 in
theorem ballotBad_walk (sa : Option Addr) (cap : Nat) (rs : List Rw) (n : Int) (w : World) (hr : RawsAt w sa rs) (_hc : rs.length ≤ cap) (hc0 : sa = none → cap = 0) (hc1 : rs.length * 56 ≤ 140737488351232) (hn1 : -9223372036854775808 ≤ n) (hn2 : n ≤ 9223372036854775807) (hT : Tabs w) :
    Calls Tryd.prog 4 #[.slice sa rs.length cap, .int .i64 n] w fun e w' => e = .returned (.bool true) ∧ Below w.heap.size w w' := by
  obtain ⟨i, hi, hz0, hz1, hz2⟩ := info_parts infoRaw
  obtain ⟨i2, gi, gz0, gz1, gz2⟩ := info_parts infoSlot
  go_enter Tryd.func4, Tryd.ntmps4
  go_wp2_with (first
    | (at_builtin; go_loud (refine wpList_append_raws rfl _ _ rfl w.heap.size _ 0 [] rfl (World.ownsRow_nil _ _ _ _) sa rs.length cap rs rfl rfl hr (fun h => ⟨by have := hc0 h; omega, hc0 h⟩) (by omega) (Nat.le_refl _) ?_; intro v3 w3 ho3 hg3))
    | (at_builtin; go_loud (refine wpList_append_raws rfl _ _ rfl w.heap.size _ (0 + rs.length) ([] ++ rs) rfl (World.ownsRow.alloc ho3 _) (some ⟨w3.heap.size, 0, none⟩) 1 1 [noRw] rfl rfl ⟨.inr ⟨w3.heap.size, 0, rfl, fun j hj => by obtain rfl : j = 0 := (by simpa using hj); exact ⟨cells_new _ _ _ 0 _ rfl, cells_new _ _ _ 1 _ rfl, cells_new _ _ _ 2 _ rfl, cells_new _ _ _ 3 _ rfl, cells_new _ _ _ 4 _ rfl⟩⟩, (fun r hr => by obtain rfl : r = noRw := (by simpa using hr); exact noRw_ok), by simp⟩ (fun h => by cases h) (by omega) (le_alloc hg3.size _) ?_; intro v4 w4 ho4 hg4)))
  have hb3 : Below w.heap.size w w3 := Below.grown (Below.refl _ _) hg3 (Nat.le_refl _) (fun q e => by cases e)
  have hB4 : Below w.heap.size w w4 := Below.grown (hb3.alloc hb3.size (.cells #[.int .i64 0, .int .i64 0, .int .i64 0, .int .i64 0, .slice none 0 0] 25)) hg4 (le_alloc hb3.size _) (fun q e => (ho3.lt q e).1)
  rw [List.nil_append] at ho4
  obtain ⟨qa, qc, hv4, hq4⟩ := rawts_of_owns ho4 (fun r hr9 => by
    rcases List.mem_append.1 hr9 with h | h
    · exact hr.each r h
    · obtain rfl : r = noRw := by simpa using h
      exact noRw_ok) (by simp; omega)
  subst hv4
  have hTb := table_any (rs ++ [noRw]) qa _ qc w4 rfl hq4 (hT.below hB4)
  have hpos := tabR_pos (rs := rs ++ [noRw]) (by simp)
  clear ho3 ho4 hg3 hg4 hq4 hb3
  refine hTb.mono ?_
  rintro e w5 ⟨ra, rc, ks, he, hks, hTa, hb5⟩
  subst he
  dsimp only
  clear hTb
  have hB5' := hB4.trans (hb5.mono hB4.size)
  have hkp : 0 < ks.length := by rw [← vs_length, hks]; exact hpos
  have hk30 : ks.length ≤ 400 := by
    have := (tabTo_ok (rs ++ [noRw]) (min (rs ++ [noRw]).length 30)).ok
    have h2 := (tabF_zero this).1
    have h3 : vs ks = tabTo (rs ++ [noRw]) (min (rs ++ [noRw]).length 30) := hks
    rw [← h3, vs_length] at h2
    exact h2
  clear hks hpos
  obtain ⟨pa0, pa1⟩ := pk_bounds n ((ks.length : Int) + 1) (by omega)
  have hwl : IntKind.i64.wrap ((ks.length : Int) + 1) = (ks.length : Int) + 1 := by rw [IntKind.wrap_i64]; omega
  have hkI : (ks.length : Int) ≤ 400 := by omega
  go_upto_region 3 with (go_at_call 8; refine (picked_any _ _ _ (by omega) (by omega) (by omega) (by omega)).mono ?_; rintro e w9 ⟨rfl, rfl⟩)
  obtain ⟨K, hK⟩ : ∃ K : Nat, pk n ((ks.length : Int) + 1) = K := ⟨(pk n ((ks.length : Int) + 1)).toNat, by omega⟩
  rw [hK] at pa1 ⊢
  clear hK pa0 hwl
  go_upto_region 5 with fail
  go_loopw [8, 7] (fun j v wr => ∃ (k : Nat) (ls : List Sl), k ≤ 400 ∧ j = .int .i64 k ∧ Hid (vs ls = manyL k) ∧ wr.ownsRow w5.heap.size 33 3 v k (sv ls) ∧ Apart wr w5.heap.size v (ps ls) ∧ Below w5.heap.size w5 wr) (fun j _ _ => 400 - (intOf j).toNat)
  case atStart => exact ⟨0, [], by omega, rfl, rfl, World.ownsRow_nil _ _ _ _, (fun p hp => by cases hp), Below.refl _ _⟩
  case round =>
    obtain ⟨k, ls, hk, rfl, hS, ho, hap, hb⟩ := hrel
    by_cases hlt : k < 400
    · have hltI : (k : Int) < 400 := by omega
      have hr1 : Int.tmod (k : Int) 4 = ((k % 4 : Nat) : Int) := by rw [Int.tmod_eq_emod_of_nonneg (by omega)]; omega
      have hr2 : Int.tdiv (k : Int) 4 = ((k / 4 : Nat) : Int) := by rw [Int.tdiv_eq_ediv_of_nonneg (by omega)]; omega
      have hw9 : IntKind.i64.wrap (100 + ((k / 4 : Nat) : Int)) = ((100 + k / 4 : Nat) : Int) := by rw [IntKind.wrap_i64]; omega
      have hSm := some_any 1 1 wr ⟨by decide, by decide⟩
      go_wp2_with fail
      refine hSm.mono ?_
      rintro e w6 ⟨he, hos, hb6⟩
      subst he
      dsimp only
      obtain ⟨sa6, sc6, hv6, -, hs6⟩ := owns_form hos
      simp only [Value.slice.injEq] at hv6
      obtain ⟨rfl, -, rfl⟩ := hv6
      have hob := owns_keep ho hb6
      have hlt6 : wr.heap.size < w6.heap.size := (hos.lt wr.heap.size rfl).2
      have hB6 := hb.trans (hb6.mono hb.size)
      have hnew := cells_new w6 [.int .i64 ((k : Int) % 4), .int .i64 (100 + (k : Int) / 4), .slice (some ⟨wr.heap.size, 0, none⟩) 32 32] 33
      have hst : Hid (vs (ls ++ [⟨(k : Int) % 4, 100 + (k : Int) / 4, ⟨some ⟨wr.heap.size, 0, none⟩, 32, someL 1 1⟩⟩]) = manyL (k + 1)) := by
        show _ = _
        rw [manyL_succ, ← hS.out]
        have e1 : ((k % 4 : Nat) : Int) = (k : Int) % 4 := by omega
        have e2 : ((100 + k / 4 : Nat) : Int) = 100 + (k : Int) / 4 := by omega
        simp only [vs, List.map_append, List.map_cons, List.map_nil, manyS, Sl.v, e1, e2]
      clear hr1 hr2 hw9 hSm hos
      go_wp2_with (at_builtin; refine wpList_append_own_at _ rfl _ _ 27 rfl w5.heap.size 33 i2 (.agg #[.int .i64 0, .int .i64 0, .slice none 0 0]) 3 40 Tryd.underlying27 gi gz0 gz1 gz2 rfl (by decide) _ k _ rfl (World.ownsRow.alloc hob _) ⟨w6.heap.size, 0, none⟩ 1 1 [.int .i64 ((k : Int) % 4), .int .i64 (100 + (k : Int) / 4), .slice (some ⟨wr.heap.size, 0, none⟩) 32 32] rfl rfl hnew (by intro u hu; simp at hu; rcases hu with rfl | rfl | rfl <;> rfl) (by unfold maxLen; omega) (by omega) (le_alloc hB6.size _) ?_; intro v7 w7 ho7 hg7 _ hat7)
      have G := Grew.of hg7 hat7
      have hap7 := hap.more_at (q := ⟨some ⟨wr.heap.size, 0, none⟩, 32, someL 1 1⟩) hb.size ho hb6 (fun sb so e => by cases e; exact ⟨Nat.le_refl _, hlt6⟩) hs6 G
      have hB7 := Below.grown (hB6.alloc hB6.size _) hg7 (le_alloc hB6.size _) (fun q e => (hob.lt q e).1)
      go_wp2_with fail
      go_roundw
      case rel =>
        have hR : ∃ (k' : Nat) (ls' : List Sl), k' ≤ 400 ∧ (Value.int .i64 ((k : Int) + 1)) = .int .i64 k' ∧ Hid (vs ls' = manyL k') ∧ w7.ownsRow w5.heap.size 33 3 v7 k' (sv ls') ∧ Apart w7 w5.heap.size v7 (ps ls') ∧ Below w5.heap.size w5 w7 :=
          ⟨k + 1, _, by omega, by go_num, hst, by rw [sv_snoc]; exact ho7, by simpa [ps] using hap7, hB7⟩
        first | exact hR | ((repeat apply Exists.intro); exact ⟨hR, rfl⟩)
      case measure => simp [intOf]; omega
    · obtain rfl : k = 400 := by omega
      have hltI : ¬ ((400 : Nat) : Int) < 400 := by omega
      have hltJ : ¬ (400 : Int) < 400 := by omega
      obtain ⟨ma, mc, hv, -, hTm, -⟩ := tab_of_owns ho hap
      subst hv
      have hll : ls.length = 400 := by rw [← vs_length, hS.out, manyL_length]
      have hTM := hTm (by omega)
      have HM : Hid (TabAt wr ma mc ls ∧ ls.length = 400) := ⟨hTM, hll⟩
      clear ho hap hTm hTM hll
      go_wp2_with fail
      refine (header_hat noRw wr noRw_ok).mono ?_
      rintro e w6 ⟨ba, bc, bl, pa, pc, pl, he, hH, hbl, hpl, hb6, -, -⟩
      subst he
      dsimp only
      have hB6 := hB5'.trans ((hb.trans (hb6.mono hb.size)).mono hB5'.size)
      have hA := castAll_raw (l := vs ls) noRw bl pl (by rw [hS.out]; exact tabF_many) hbl hpl
      have HC := cast_any ls ma mc (pk noRw.a 4) (1 + pk noRw.b 9) ba bc bl pa pc pl w6 (HM.out.1.below hb6) hH (hT.below hB6)
      have hcm : castF (manyL 400) (slotR noRw) = ([], 6) := cast_many
      rw [hA, hS.out, hcm, HM.out.2] at HC
      clear hA hcm hbl hpl hH
      generalize pk noRw.a 4 = PA at *
      generalize 1 + pk noRw.b 9 = PB at *
      go_wp2_with fail
      refine HC.mono ?_
      rintro e w7 ⟨xa, xc, xs, da, dc, au', rd', ds, er, he, hR, -, -, -, -, hb7⟩
      subst he
      dsimp only
      obtain ⟨-, -, her⟩ : vs xs = [] ∧ (au', rd', ds) = ((0, 0, []) : SV) ∧ er = 6 := by simpa using hR
      subst her
      clear HC hR
      have h57 : Below w5.heap.size w5 w7 := (hb.trans (hb6.mono hb.size)).trans (hb7.mono (hb.trans (hb6.mono hb.size)).size)
      have hA7 : Below w7.heap.size w7 (w7.alloc (.cells #[.int .i64 au', .int .i64 rd', .slice da ds.length dc] 33)) := (Below.refl _ _).alloc (Nat.le_refl _) _
      have hk0 : ((ks.length : Int) == 0) = false := by rw [beq_eq_false_iff_ne]; omega
      go_upto_region 11 with fail
      generalize w7.alloc (.cells #[.int .i64 au', .int .i64 rd', .slice da ds.length dc] 33) = W5 at hA7 ⊢
      have h5W := h57.trans (hA7.mono h57.size)
      have hB5 := hB5'.trans (h5W.mono hB5'.size)
      have hTs0 := hTa.below h5W
      obtain ⟨tb, tq, rfl, hcl⟩ : ∃ sb so, ra = some ⟨sb, so, none⟩ ∧ ∀ j (h : j < ks.length), W5.cell? ⟨sb, so + j * 3, none⟩ = some (.int .i64 (ks[j]).au) ∧ W5.cell? ⟨sb, so + j * 3 + 1, none⟩ = some (.int .i64 (ks[j]).rd) ∧ W5.cell? ⟨sb, so + j * 3 + 2, none⟩ = some (.slice (ks[j]).p.sa (ks[j]).p.bs.length (ks[j]).p.cap) := by
        rcases hTs0.slots.cells with h | h
        · rw [h] at hkp; simp at hkp
        · exact h
      obtain ⟨L, hL⟩ : ∃ L, ks.length = L + 1 := ⟨ks.length - 1, by omega⟩
      have hw58 : IntKind.i64.wrap ((ks.length : Int) - 1) = (L : Int) := by rw [IntKind.wrap_i64]; omega
      have HL : Hid (ks.length = L + 1) := hL
      have HF : Hid (∀ M (h : M < ks.length), tabF (vs (ks ++ [ks[M]])) = 12) := by
        show ∀ _, _
        intro M h
        have e1 : vs (ks ++ [ks[M]]) = vs ks ++ [svAt (vs ks) M] := by rw [svAt_get ks M h]; simp [vs]
        rw [e1]
        exact tab_twice _ _ (by rw [vs_length]; exact h)
      have HCl : Hid _ := hcl
      have HTs : Hid (TabAt W5 (some ⟨tb, tq, none⟩) rc ks) := hTs0
      clear hcl hTs0 hTa hL
      rcases (by omega : K ≤ L ∨ L < K) with hKL | hKL
      · have hMk : K < ks.length := by have := HL.out; omega
        have hMI : (K : Int) < ks.length := by omega
        have hKLI : (K : Int) ≤ L := by omega
        have hKLN : ¬ L < K := by omega
        obtain ⟨x, hx⟩ : ∃ x, ks[K]'hMk = x := ⟨_, rfl⟩
        have hTw : Hid (tabF (vs (ks ++ [x])) = 12) := by show _ = _; rw [← hx]; exact HF.out K hMk
        have hXs : SliceAt W5 x.p.sa x.p.cap x.p.bs := HTs.out.slots.each x (by rw [← hx]; exact List.getElem_mem hMk)
        have hc3 := HCl.out K hMk
        rw [hx] at hc3
        have hSC : ∀ W : World, Below W5.heap.size W5 W → W.cell? ⟨tb, tq + K * 3, none⟩ = some (.int .i64 x.au) ∧ W.cell? ⟨tb, tq + K * 3 + 1, none⟩ = some (.int .i64 x.rd) ∧ W.cell? ⟨tb, tq + K * 3 + 2, none⟩ = some (.slice x.p.sa x.p.bs.length x.p.cap) := by
          intro W hW
          have hlt9 := block_lt_of_cell hc3.1
          exact ⟨(hW.cell (p := ⟨tb, tq + K * 3, none⟩) hlt9).trans hc3.1, (hW.cell (p := ⟨tb, tq + K * 3 + 1, none⟩) hlt9).trans hc3.2.1, (hW.cell (p := ⟨tb, tq + K * 3 + 2, none⟩) hlt9).trans hc3.2.2⟩
        have hTs := HTs.out
        clear hx hc3 HCl HF HL HTs
        have hV0 : Below W5.heap.size W5 W5.drew := (Below.refl _ _).drew
        refine wp_region_held_drew (S := fun w' => w'.cell? ⟨tb, tq + K * 3, none⟩ = some (.int .i64 x.au) ∧ w'.cell? ⟨tb, tq + K * 3 + 1, none⟩ = some (.int .i64 x.rd) ∧ w'.cell? ⟨tb, tq + K * 3 + 2, none⟩ = some (.slice x.p.sa x.p.bs.length x.p.cap)) (by kernel_rfl) (hSC _ hV0) (fun hHeld => ?_)
        generalize W5.drew = V0 at hV0 hHeld ⊢
        refine take_dst (i := 0) (d := 52) (v := .slice (some ⟨tb, tq, none⟩) ks.length rc) rfl rfl (by kernel_rfl) (by kernel_rfl) (by kernel_rfl) (fun _ _ _ h => h) (Or.inl ⟨by rfl, ?_⟩) hHeld ?_
        · (intro w0 hSw; (try dsimp only at hSw); go_simp)
        simp only [Act.put, List.setIfInBounds_toArray, List.set_cons_zero, List.set_cons_succ]
        refine take_dst (i := 2) (d := 54) (v := .slice (some ⟨tb, tq, none⟩) ks.length rc) rfl rfl (by kernel_rfl) (by kernel_rfl) (by kernel_rfl) (fun _ _ _ h => h) (Or.inl ⟨by rfl, ?_⟩) hHeld ?_
        · (intro w0 hSw; (try dsimp only at hSw); go_simp)
        simp only [Act.put, List.setIfInBounds_toArray, List.set_cons_zero, List.set_cons_succ]
        refine take_dst (i := 3) (d := 55) (v := .int .i64 (K : Int)) rfl rfl (by kernel_rfl) (by kernel_rfl) (by kernel_rfl) (fun _ _ _ h => h) (Or.inl ⟨by rfl, ?_⟩) hHeld ?_
        · (intro w0 hSw; (try dsimp only at hSw); go_simp)
        simp only [Act.put, List.setIfInBounds_toArray, List.set_cons_zero, List.set_cons_succ]
        refine take_dst (i := 4) (d := 56) (v := .slice (some ⟨tb, tq, none⟩) ks.length rc) rfl rfl (by kernel_rfl) (by kernel_rfl) (by kernel_rfl) (fun _ _ _ h => h) (Or.inl ⟨by rfl, ?_⟩) hHeld ?_
        · (intro w0 hSw; (try dsimp only at hSw); go_simp)
        simp only [Act.put, List.setIfInBounds_toArray, List.set_cons_zero, List.set_cons_succ]
        refine take_dst (i := 5) (d := 57) (v := .int .i64 (ks.length : Int)) rfl rfl (by kernel_rfl) (by kernel_rfl) (by kernel_rfl) (fun _ _ _ h => h) (Or.inl ⟨by rfl, ?_⟩) hHeld ?_
        · (intro w0 hSw; (try dsimp only at hSw); go_simp)
        simp only [Act.put, List.setIfInBounds_toArray, List.set_cons_zero, List.set_cons_succ]
        refine take_dst (i := 6) (d := 58) (v := .int .i64 (L : Int)) rfl rfl (by kernel_rfl) (by kernel_rfl) (by kernel_rfl) (fun _ _ _ h => h) (Or.inl ⟨by rfl, ?_⟩) hHeld ?_
        · (intro w0 hSw; (try dsimp only at hSw); go_simp)
        simp only [Act.put, List.setIfInBounds_toArray, List.set_cons_zero, List.set_cons_succ]
        refine take_dst (i := 7) (d := 59) (v := .int .i64 (K : Int)) rfl rfl (by kernel_rfl) (by kernel_rfl) (by kernel_rfl) (fun _ _ _ h => h) (Or.inl ⟨by rfl, ?_⟩) hHeld ?_
        · (intro w0 hSw; (try dsimp only at hSw); go_simp)
        simp only [Act.put, List.setIfInBounds_toArray, List.set_cons_zero, List.set_cons_succ]
        refine take_dst (i := 8) (d := 60) (v := .pointer (some ⟨tb, tq + K * 3, none⟩)) rfl rfl (by kernel_rfl) (by kernel_rfl) (by kernel_rfl) (fun _ _ _ h => h) (Or.inl ⟨by rfl, ?_⟩) hHeld ?_
        · (intro w0 hSw; (try dsimp only at hSw); go_simp)
        simp only [Act.put, List.setIfInBounds_toArray, List.set_cons_zero, List.set_cons_succ]
        refine take_dst (i := 9) (d := 61) (v := .agg #[.int .i64 x.au, .int .i64 x.rd, .slice x.p.sa x.p.bs.length x.p.cap]) rfl rfl (by kernel_rfl) (by kernel_rfl) (by kernel_rfl) (fun _ _ _ h => h) (Or.inl ⟨by rfl, ?_⟩) hHeld ?_
        · (intro w0 hSw; (try dsimp only at hSw); go_simp)
        simp only [Act.put, List.setIfInBounds_toArray, List.set_cons_zero, List.set_cons_succ]
        refine wpAnyH_ready (rs := [1, 10]) (by kernel_rfl) (by simp) (AllReadyH.cons rfl (fun K9 hK => ?_) (AllReadyH.cons rfl (fun K9 hK => ?_) AllReadyH.nil))
        · skip
          refine step_append_slots rfl 53 rfl (.const (.slice none 0 0)) (.tmp 52) rfl W5.heap.size (.slice none 0 0) 0 [] rfl (World.ownsRow_nil _ _ _ _) (some ⟨tb, tq, none⟩) ks.length rc ks rfl rfl (hTs.below hV0).slots (by omega) hV0.size ?_
          intro v1 V1 ho_1 G_1
          have hB_1 := Below.grown hV0 G_1.grown hV0.size (fun q e => by cases e)
          refine hK.out _ _ (hSC _ hB_1) (fun hHeld => ?_)
          simp only [Act.put, List.setIfInBounds_toArray, List.set_cons_zero, List.set_cons_succ]
          refine wpAnyH_ready (rs := [10]) (by kernel_rfl) (by simp) (AllReadyH.cons rfl (fun K9 hK => ?_) AllReadyH.nil)
          refine step_run rfl 62 rfl (.slice (some ⟨V1.heap.size, 0, none⟩) 1 1) (V1.alloc (.cells #[.int .i64 x.au, .int .i64 x.rd, .slice x.p.sa x.p.bs.length x.p.cap] 33)) (by go_simp) ?_
          have hA_2 : Below V1.heap.size V1 (V1.alloc (.cells #[.int .i64 x.au, .int .i64 x.rd, .slice x.p.sa x.p.bs.length x.p.cap] 33)) := (Below.refl _ _).alloc (Nat.le_refl _) _
          have N_2 := heap_alloc_new V1 (.cells #[.int .i64 x.au, .int .i64 x.rd, .slice x.p.sa x.p.bs.length x.p.cap] 33)
          have hB_2 := hB_1.trans (hA_2.mono hB_1.size)
          have ho_2 := World.ownsRow.alloc ho_1 (.cells #[.int .i64 x.au, .int .i64 x.rd, .slice x.p.sa x.p.bs.length x.p.cap] 33)
          refine hK.out _ _ (hSC _ hB_2) (fun hHeld => ?_)
          simp only [Act.put, List.setIfInBounds_toArray, List.set_cons_zero, List.set_cons_succ]
          generalize V1.alloc (.cells #[.int .i64 x.au, .int .i64 x.rd, .slice x.p.sa x.p.bs.length x.p.cap] 33) = V2 at hA_2 N_2 hB_2 ho_2 hHeld ⊢
          generalize V1.heap.size = b2 at N_2 ⊢
          clear hA_2
          refine wpAnyH_ready (rs := [11]) (by kernel_rfl) (by simp) (AllReadyH.cons rfl (fun K9 hK => ?_) AllReadyH.nil)
          refine step_append_slots rfl 63 rfl (.tmp 53) (.tmp 62) rfl W5.heap.size v1 (0 + ks.length) ([] ++ ks) rfl ho_2 (some ⟨b2, 0, none⟩) 1 1 [x] rfl rfl (one_slot N_2 (hXs.below hB_2)) (by omega) hB_2.size ?_
          intro v2 V3 ho_3 G_3
          have hB_3 := Below.grown hB_2 G_3.grown hB_2.size (fun q e => (ho_2.lt q e).1)
          refine hK.out _ _ (hSC _ hB_3) (fun hHeld => ?_)
          simp only [Act.put, List.setIfInBounds_toArray, List.set_cons_zero, List.set_cons_succ]
          rw [List.nil_append] at ho_3
          obtain ⟨xa, xc, hv, hTT⟩ := tab_own2 ho_3 (by omega) (fun s hs => by rcases List.mem_append.1 hs with h | h; exact (hTs.below hB_3).slots.each s h; obtain rfl : s = x := (by simpa using h); exact hXs.below hB_3)
          subst hv
          refine wpAnyH_ready (rs := [12]) (by kernel_rfl) (by simp) (AllReadyH.cons rfl (fun K9 hK => ?_) AllReadyH.nil)
          refine step_calls_dst rfl 64 rfl 12 [.tmp 63] #[27] rfl [.slice xa (0 + ks.length + 1) xc] rfl (enters_of Tryd.func12 (by kernel_rfl) rfl) (fun v w' => v = .int .i64 12 ∧ Below V3.heap.size V3 w') (by have h9 := checkTab_any (ks ++ [x]) xa (0 + ks.length + 1) xc V3 (by simp) hTT; rw [hTw.out] at h9; exact h9.mono (fun e w' h => ⟨_, h.1, rfl, h.2⟩)) ?_
          rintro v V4 ⟨rfl, hb_4⟩
          have hB_4 := hB_3.trans (hb_4.mono hB_3.size)
          refine hK.out _ _ (hSC _ hB_4) (fun hHeld => ?_)
          simp only [Act.put, List.setIfInBounds_toArray, List.set_cons_zero, List.set_cons_succ]
          refine take_dst (i := 13) (d := 65) (v := .bool true) rfl rfl (by kernel_rfl) (by kernel_rfl) (by kernel_rfl) (fun _ _ _ h => h) (Or.inl ⟨by rfl, ?_⟩) hHeld ?_
          · (intro w0 hSw; (try dsimp only at hSw); go_simp)
          simp only [Act.put, List.setIfInBounds_toArray, List.set_cons_zero, List.set_cons_succ]
          refine take_dst (i := 14) (d := 4) (v := .bool true) rfl rfl (by kernel_rfl) (by kernel_rfl) (by kernel_rfl) (fun _ _ _ h => h) (Or.inl ⟨by rfl, ?_⟩) hHeld ?_
          · (intro w0 hSw; (try dsimp only at hSw); go_simp)
          simp only [Act.put, List.setIfInBounds_toArray, List.set_cons_zero, List.set_cons_succ]
          refine wpAnyH_done (by kernel_rfl) ?_ _
          have hE := hB5.trans (hB_4.mono hB5.size)
          go_wp2_with fail
          go_ret
          exact ⟨rfl, hE⟩
        · skip
          refine step_run rfl 62 rfl (.slice (some ⟨V0.heap.size, 0, none⟩) 1 1) (V0.alloc (.cells #[.int .i64 x.au, .int .i64 x.rd, .slice x.p.sa x.p.bs.length x.p.cap] 33)) (by go_simp) ?_
          have hA_5 : Below V0.heap.size V0 (V0.alloc (.cells #[.int .i64 x.au, .int .i64 x.rd, .slice x.p.sa x.p.bs.length x.p.cap] 33)) := (Below.refl _ _).alloc (Nat.le_refl _) _
          have N_5 := heap_alloc_new V0 (.cells #[.int .i64 x.au, .int .i64 x.rd, .slice x.p.sa x.p.bs.length x.p.cap] 33)
          have hB_5 := hV0.trans (hA_5.mono hV0.size)
          refine hK.out _ _ (hSC _ hB_5) (fun hHeld => ?_)
          simp only [Act.put, List.setIfInBounds_toArray, List.set_cons_zero, List.set_cons_succ]
          generalize V0.alloc (.cells #[.int .i64 x.au, .int .i64 x.rd, .slice x.p.sa x.p.bs.length x.p.cap] 33) = V5 at hA_5 N_5 hB_5 hHeld ⊢
          generalize V0.heap.size = b5 at N_5 ⊢
          clear hA_5
          refine wpAnyH_ready (rs := [1]) (by kernel_rfl) (by simp) (AllReadyH.cons rfl (fun K9 hK => ?_) AllReadyH.nil)
          refine step_append_slots rfl 53 rfl (.const (.slice none 0 0)) (.tmp 52) rfl W5.heap.size (.slice none 0 0) 0 [] rfl (World.ownsRow_nil _ _ _ _) (some ⟨tb, tq, none⟩) ks.length rc ks rfl rfl (hTs.below hB_5).slots (by omega) hB_5.size ?_
          intro v1 V6 ho_6 G_6
          have hB_6 := Below.grown hB_5 G_6.grown hB_5.size (fun q e => by cases e)
          have N_6 := (G_6.grown.block _ (lt_of_heap N_5) (fun e => by cases e)).trans N_5
          refine hK.out _ _ (hSC _ hB_6) (fun hHeld => ?_)
          simp only [Act.put, List.setIfInBounds_toArray, List.set_cons_zero, List.set_cons_succ]
          refine wpAnyH_ready (rs := [11]) (by kernel_rfl) (by simp) (AllReadyH.cons rfl (fun K9 hK => ?_) AllReadyH.nil)
          refine step_append_slots rfl 63 rfl (.tmp 53) (.tmp 62) rfl W5.heap.size v1 (0 + ks.length) ([] ++ ks) rfl ho_6 (some ⟨b5, 0, none⟩) 1 1 [x] rfl rfl (one_slot N_6 (hXs.below hB_6)) (by omega) hB_6.size ?_
          intro v2 V7 ho_7 G_7
          have hB_7 := Below.grown hB_6 G_7.grown hB_6.size (fun q e => (ho_6.lt q e).1)
          refine hK.out _ _ (hSC _ hB_7) (fun hHeld => ?_)
          simp only [Act.put, List.setIfInBounds_toArray, List.set_cons_zero, List.set_cons_succ]
          rw [List.nil_append] at ho_7
          obtain ⟨xa, xc, hv, hTT⟩ := tab_own2 ho_7 (by omega) (fun s hs => by rcases List.mem_append.1 hs with h | h; exact (hTs.below hB_7).slots.each s h; obtain rfl : s = x := (by simpa using h); exact hXs.below hB_7)
          subst hv
          refine wpAnyH_ready (rs := [12]) (by kernel_rfl) (by simp) (AllReadyH.cons rfl (fun K9 hK => ?_) AllReadyH.nil)
          refine step_calls_dst rfl 64 rfl 12 [.tmp 63] #[27] rfl [.slice xa (0 + ks.length + 1) xc] rfl (enters_of Tryd.func12 (by kernel_rfl) rfl) (fun v w' => v = .int .i64 12 ∧ Below V7.heap.size V7 w') (by have h9 := checkTab_any (ks ++ [x]) xa (0 + ks.length + 1) xc V7 (by simp) hTT; rw [hTw.out] at h9; exact h9.mono (fun e w' h => ⟨_, h.1, rfl, h.2⟩)) ?_
          rintro v V8 ⟨rfl, hb_8⟩
          have hB_8 := hB_7.trans (hb_8.mono hB_7.size)
          refine hK.out _ _ (hSC _ hB_8) (fun hHeld => ?_)
          simp only [Act.put, List.setIfInBounds_toArray, List.set_cons_zero, List.set_cons_succ]
          refine take_dst (i := 13) (d := 65) (v := .bool true) rfl rfl (by kernel_rfl) (by kernel_rfl) (by kernel_rfl) (fun _ _ _ h => h) (Or.inl ⟨by rfl, ?_⟩) hHeld ?_
          · (intro w0 hSw; (try dsimp only at hSw); go_simp)
          simp only [Act.put, List.setIfInBounds_toArray, List.set_cons_zero, List.set_cons_succ]
          refine take_dst (i := 14) (d := 4) (v := .bool true) rfl rfl (by kernel_rfl) (by kernel_rfl) (by kernel_rfl) (fun _ _ _ h => h) (Or.inl ⟨by rfl, ?_⟩) hHeld ?_
          · (intro w0 hSw; (try dsimp only at hSw); go_simp)
          simp only [Act.put, List.setIfInBounds_toArray, List.set_cons_zero, List.set_cons_succ]
          refine wpAnyH_done (by kernel_rfl) ?_ _
          have hE := hB5.trans (hB_8.mono hB5.size)
          go_wp2_with fail
          go_ret
          exact ⟨rfl, hE⟩
      · have hMk : L < ks.length := by have := HL.out; omega
        have hMI : (L : Int) < ks.length := by omega
        have hKLI : (L : Int) < K := by omega
        have hKLN : ¬ K ≤ L := by omega
        obtain ⟨x, hx⟩ : ∃ x, ks[L]'hMk = x := ⟨_, rfl⟩
        have hTw : Hid (tabF (vs (ks ++ [x])) = 12) := by show _ = _; rw [← hx]; exact HF.out L hMk
        have hXs : SliceAt W5 x.p.sa x.p.cap x.p.bs := HTs.out.slots.each x (by rw [← hx]; exact List.getElem_mem hMk)
        have hc3 := HCl.out L hMk
        rw [hx] at hc3
        have hSC : ∀ W : World, Below W5.heap.size W5 W → W.cell? ⟨tb, tq + L * 3, none⟩ = some (.int .i64 x.au) ∧ W.cell? ⟨tb, tq + L * 3 + 1, none⟩ = some (.int .i64 x.rd) ∧ W.cell? ⟨tb, tq + L * 3 + 2, none⟩ = some (.slice x.p.sa x.p.bs.length x.p.cap) := by
          intro W hW
          have hlt9 := block_lt_of_cell hc3.1
          exact ⟨(hW.cell (p := ⟨tb, tq + L * 3, none⟩) hlt9).trans hc3.1, (hW.cell (p := ⟨tb, tq + L * 3 + 1, none⟩) hlt9).trans hc3.2.1, (hW.cell (p := ⟨tb, tq + L * 3 + 2, none⟩) hlt9).trans hc3.2.2⟩
        have hTs := HTs.out
        clear hx hc3 HCl HF HL HTs
        have hV0 : Below W5.heap.size W5 W5.drew := (Below.refl _ _).drew
        refine wp_region_held_drew (S := fun w' => w'.cell? ⟨tb, tq + L * 3, none⟩ = some (.int .i64 x.au) ∧ w'.cell? ⟨tb, tq + L * 3 + 1, none⟩ = some (.int .i64 x.rd) ∧ w'.cell? ⟨tb, tq + L * 3 + 2, none⟩ = some (.slice x.p.sa x.p.bs.length x.p.cap)) (by kernel_rfl) (hSC _ hV0) (fun hHeld => ?_)
        generalize W5.drew = V0 at hV0 hHeld ⊢
        refine take_dst (i := 0) (d := 52) (v := .slice (some ⟨tb, tq, none⟩) ks.length rc) rfl rfl (by kernel_rfl) (by kernel_rfl) (by kernel_rfl) (fun _ _ _ h => h) (Or.inl ⟨by rfl, ?_⟩) hHeld ?_
        · (intro w0 hSw; (try dsimp only at hSw); go_simp)
        simp only [Act.put, List.setIfInBounds_toArray, List.set_cons_zero, List.set_cons_succ]
        refine take_dst (i := 2) (d := 54) (v := .slice (some ⟨tb, tq, none⟩) ks.length rc) rfl rfl (by kernel_rfl) (by kernel_rfl) (by kernel_rfl) (fun _ _ _ h => h) (Or.inl ⟨by rfl, ?_⟩) hHeld ?_
        · (intro w0 hSw; (try dsimp only at hSw); go_simp)
        simp only [Act.put, List.setIfInBounds_toArray, List.set_cons_zero, List.set_cons_succ]
        refine take_dst (i := 3) (d := 55) (v := .int .i64 (K : Int)) rfl rfl (by kernel_rfl) (by kernel_rfl) (by kernel_rfl) (fun _ _ _ h => h) (Or.inl ⟨by rfl, ?_⟩) hHeld ?_
        · (intro w0 hSw; (try dsimp only at hSw); go_simp)
        simp only [Act.put, List.setIfInBounds_toArray, List.set_cons_zero, List.set_cons_succ]
        refine take_dst (i := 4) (d := 56) (v := .slice (some ⟨tb, tq, none⟩) ks.length rc) rfl rfl (by kernel_rfl) (by kernel_rfl) (by kernel_rfl) (fun _ _ _ h => h) (Or.inl ⟨by rfl, ?_⟩) hHeld ?_
        · (intro w0 hSw; (try dsimp only at hSw); go_simp)
        simp only [Act.put, List.setIfInBounds_toArray, List.set_cons_zero, List.set_cons_succ]
        refine take_dst (i := 5) (d := 57) (v := .int .i64 (ks.length : Int)) rfl rfl (by kernel_rfl) (by kernel_rfl) (by kernel_rfl) (fun _ _ _ h => h) (Or.inl ⟨by rfl, ?_⟩) hHeld ?_
        · (intro w0 hSw; (try dsimp only at hSw); go_simp)
        simp only [Act.put, List.setIfInBounds_toArray, List.set_cons_zero, List.set_cons_succ]
        refine take_dst (i := 6) (d := 58) (v := .int .i64 (L : Int)) rfl rfl (by kernel_rfl) (by kernel_rfl) (by kernel_rfl) (fun _ _ _ h => h) (Or.inl ⟨by rfl, ?_⟩) hHeld ?_
        · (intro w0 hSw; (try dsimp only at hSw); go_simp)
        simp only [Act.put, List.setIfInBounds_toArray, List.set_cons_zero, List.set_cons_succ]
        refine take_dst (i := 7) (d := 59) (v := .int .i64 (L : Int)) rfl rfl (by kernel_rfl) (by kernel_rfl) (by kernel_rfl) (fun _ _ _ h => h) (Or.inl ⟨by rfl, ?_⟩) hHeld ?_
        · (intro w0 hSw; (try dsimp only at hSw); go_simp)
        simp only [Act.put, List.setIfInBounds_toArray, List.set_cons_zero, List.set_cons_succ]
        refine take_dst (i := 8) (d := 60) (v := .pointer (some ⟨tb, tq + L * 3, none⟩)) rfl rfl (by kernel_rfl) (by kernel_rfl) (by kernel_rfl) (fun _ _ _ h => h) (Or.inl ⟨by rfl, ?_⟩) hHeld ?_
        · (intro w0 hSw; (try dsimp only at hSw); go_simp)
        simp only [Act.put, List.setIfInBounds_toArray, List.set_cons_zero, List.set_cons_succ]
        refine take_dst (i := 9) (d := 61) (v := .agg #[.int .i64 x.au, .int .i64 x.rd, .slice x.p.sa x.p.bs.length x.p.cap]) rfl rfl (by kernel_rfl) (by kernel_rfl) (by kernel_rfl) (fun _ _ _ h => h) (Or.inl ⟨by rfl, ?_⟩) hHeld ?_
        · (intro w0 hSw; (try dsimp only at hSw); go_simp)
        simp only [Act.put, List.setIfInBounds_toArray, List.set_cons_zero, List.set_cons_succ]
        refine wpAnyH_ready (rs := [1, 10]) (by kernel_rfl) (by simp) (AllReadyH.cons rfl (fun K9 hK => ?_) (AllReadyH.cons rfl (fun K9 hK => ?_) AllReadyH.nil))
        · skip
          refine step_append_slots rfl 53 rfl (.const (.slice none 0 0)) (.tmp 52) rfl W5.heap.size (.slice none 0 0) 0 [] rfl (World.ownsRow_nil _ _ _ _) (some ⟨tb, tq, none⟩) ks.length rc ks rfl rfl (hTs.below hV0).slots (by omega) hV0.size ?_
          intro v1 V1 ho_1 G_1
          have hB_1 := Below.grown hV0 G_1.grown hV0.size (fun q e => by cases e)
          refine hK.out _ _ (hSC _ hB_1) (fun hHeld => ?_)
          simp only [Act.put, List.setIfInBounds_toArray, List.set_cons_zero, List.set_cons_succ]
          refine wpAnyH_ready (rs := [10]) (by kernel_rfl) (by simp) (AllReadyH.cons rfl (fun K9 hK => ?_) AllReadyH.nil)
          refine step_run rfl 62 rfl (.slice (some ⟨V1.heap.size, 0, none⟩) 1 1) (V1.alloc (.cells #[.int .i64 x.au, .int .i64 x.rd, .slice x.p.sa x.p.bs.length x.p.cap] 33)) (by go_simp) ?_
          have hA_2 : Below V1.heap.size V1 (V1.alloc (.cells #[.int .i64 x.au, .int .i64 x.rd, .slice x.p.sa x.p.bs.length x.p.cap] 33)) := (Below.refl _ _).alloc (Nat.le_refl _) _
          have N_2 := heap_alloc_new V1 (.cells #[.int .i64 x.au, .int .i64 x.rd, .slice x.p.sa x.p.bs.length x.p.cap] 33)
          have hB_2 := hB_1.trans (hA_2.mono hB_1.size)
          have ho_2 := World.ownsRow.alloc ho_1 (.cells #[.int .i64 x.au, .int .i64 x.rd, .slice x.p.sa x.p.bs.length x.p.cap] 33)
          refine hK.out _ _ (hSC _ hB_2) (fun hHeld => ?_)
          simp only [Act.put, List.setIfInBounds_toArray, List.set_cons_zero, List.set_cons_succ]
          generalize V1.alloc (.cells #[.int .i64 x.au, .int .i64 x.rd, .slice x.p.sa x.p.bs.length x.p.cap] 33) = V2 at hA_2 N_2 hB_2 ho_2 hHeld ⊢
          generalize V1.heap.size = b2 at N_2 ⊢
          clear hA_2
          refine wpAnyH_ready (rs := [11]) (by kernel_rfl) (by simp) (AllReadyH.cons rfl (fun K9 hK => ?_) AllReadyH.nil)
          refine step_append_slots rfl 63 rfl (.tmp 53) (.tmp 62) rfl W5.heap.size v1 (0 + ks.length) ([] ++ ks) rfl ho_2 (some ⟨b2, 0, none⟩) 1 1 [x] rfl rfl (one_slot N_2 (hXs.below hB_2)) (by omega) hB_2.size ?_
          intro v2 V3 ho_3 G_3
          have hB_3 := Below.grown hB_2 G_3.grown hB_2.size (fun q e => (ho_2.lt q e).1)
          refine hK.out _ _ (hSC _ hB_3) (fun hHeld => ?_)
          simp only [Act.put, List.setIfInBounds_toArray, List.set_cons_zero, List.set_cons_succ]
          rw [List.nil_append] at ho_3
          obtain ⟨xa, xc, hv, hTT⟩ := tab_own2 ho_3 (by omega) (fun s hs => by rcases List.mem_append.1 hs with h | h; exact (hTs.below hB_3).slots.each s h; obtain rfl : s = x := (by simpa using h); exact hXs.below hB_3)
          subst hv
          refine wpAnyH_ready (rs := [12]) (by kernel_rfl) (by simp) (AllReadyH.cons rfl (fun K9 hK => ?_) AllReadyH.nil)
          refine step_calls_dst rfl 64 rfl 12 [.tmp 63] #[27] rfl [.slice xa (0 + ks.length + 1) xc] rfl (enters_of Tryd.func12 (by kernel_rfl) rfl) (fun v w' => v = .int .i64 12 ∧ Below V3.heap.size V3 w') (by have h9 := checkTab_any (ks ++ [x]) xa (0 + ks.length + 1) xc V3 (by simp) hTT; rw [hTw.out] at h9; exact h9.mono (fun e w' h => ⟨_, h.1, rfl, h.2⟩)) ?_
          rintro v V4 ⟨rfl, hb_4⟩
          have hB_4 := hB_3.trans (hb_4.mono hB_3.size)
          refine hK.out _ _ (hSC _ hB_4) (fun hHeld => ?_)
          simp only [Act.put, List.setIfInBounds_toArray, List.set_cons_zero, List.set_cons_succ]
          refine take_dst (i := 13) (d := 65) (v := .bool true) rfl rfl (by kernel_rfl) (by kernel_rfl) (by kernel_rfl) (fun _ _ _ h => h) (Or.inl ⟨by rfl, ?_⟩) hHeld ?_
          · (intro w0 hSw; (try dsimp only at hSw); go_simp)
          simp only [Act.put, List.setIfInBounds_toArray, List.set_cons_zero, List.set_cons_succ]
          refine take_dst (i := 14) (d := 4) (v := .bool true) rfl rfl (by kernel_rfl) (by kernel_rfl) (by kernel_rfl) (fun _ _ _ h => h) (Or.inl ⟨by rfl, ?_⟩) hHeld ?_
          · (intro w0 hSw; (try dsimp only at hSw); go_simp)
          simp only [Act.put, List.setIfInBounds_toArray, List.set_cons_zero, List.set_cons_succ]
          refine wpAnyH_done (by kernel_rfl) ?_ _
          have hE := hB5.trans (hB_4.mono hB5.size)
          go_wp2_with fail
          go_ret
          exact ⟨rfl, hE⟩
        · skip
          refine step_run rfl 62 rfl (.slice (some ⟨V0.heap.size, 0, none⟩) 1 1) (V0.alloc (.cells #[.int .i64 x.au, .int .i64 x.rd, .slice x.p.sa x.p.bs.length x.p.cap] 33)) (by go_simp) ?_
          have hA_5 : Below V0.heap.size V0 (V0.alloc (.cells #[.int .i64 x.au, .int .i64 x.rd, .slice x.p.sa x.p.bs.length x.p.cap] 33)) := (Below.refl _ _).alloc (Nat.le_refl _) _
          have N_5 := heap_alloc_new V0 (.cells #[.int .i64 x.au, .int .i64 x.rd, .slice x.p.sa x.p.bs.length x.p.cap] 33)
          have hB_5 := hV0.trans (hA_5.mono hV0.size)
          refine hK.out _ _ (hSC _ hB_5) (fun hHeld => ?_)
          simp only [Act.put, List.setIfInBounds_toArray, List.set_cons_zero, List.set_cons_succ]
          generalize V0.alloc (.cells #[.int .i64 x.au, .int .i64 x.rd, .slice x.p.sa x.p.bs.length x.p.cap] 33) = V5 at hA_5 N_5 hB_5 hHeld ⊢
          generalize V0.heap.size = b5 at N_5 ⊢
          clear hA_5
          refine wpAnyH_ready (rs := [1]) (by kernel_rfl) (by simp) (AllReadyH.cons rfl (fun K9 hK => ?_) AllReadyH.nil)
          refine step_append_slots rfl 53 rfl (.const (.slice none 0 0)) (.tmp 52) rfl W5.heap.size (.slice none 0 0) 0 [] rfl (World.ownsRow_nil _ _ _ _) (some ⟨tb, tq, none⟩) ks.length rc ks rfl rfl (hTs.below hB_5).slots (by omega) hB_5.size ?_
          intro v1 V6 ho_6 G_6
          have hB_6 := Below.grown hB_5 G_6.grown hB_5.size (fun q e => by cases e)
          have N_6 := (G_6.grown.block _ (lt_of_heap N_5) (fun e => by cases e)).trans N_5
          refine hK.out _ _ (hSC _ hB_6) (fun hHeld => ?_)
          simp only [Act.put, List.setIfInBounds_toArray, List.set_cons_zero, List.set_cons_succ]
          refine wpAnyH_ready (rs := [11]) (by kernel_rfl) (by simp) (AllReadyH.cons rfl (fun K9 hK => ?_) AllReadyH.nil)
          refine step_append_slots rfl 63 rfl (.tmp 53) (.tmp 62) rfl W5.heap.size v1 (0 + ks.length) ([] ++ ks) rfl ho_6 (some ⟨b5, 0, none⟩) 1 1 [x] rfl rfl (one_slot N_6 (hXs.below hB_6)) (by omega) hB_6.size ?_
          intro v2 V7 ho_7 G_7
          have hB_7 := Below.grown hB_6 G_7.grown hB_6.size (fun q e => (ho_6.lt q e).1)
          refine hK.out _ _ (hSC _ hB_7) (fun hHeld => ?_)
          simp only [Act.put, List.setIfInBounds_toArray, List.set_cons_zero, List.set_cons_succ]
          rw [List.nil_append] at ho_7
          obtain ⟨xa, xc, hv, hTT⟩ := tab_own2 ho_7 (by omega) (fun s hs => by rcases List.mem_append.1 hs with h | h; exact (hTs.below hB_7).slots.each s h; obtain rfl : s = x := (by simpa using h); exact hXs.below hB_7)
          subst hv
          refine wpAnyH_ready (rs := [12]) (by kernel_rfl) (by simp) (AllReadyH.cons rfl (fun K9 hK => ?_) AllReadyH.nil)
          refine step_calls_dst rfl 64 rfl 12 [.tmp 63] #[27] rfl [.slice xa (0 + ks.length + 1) xc] rfl (enters_of Tryd.func12 (by kernel_rfl) rfl) (fun v w' => v = .int .i64 12 ∧ Below V7.heap.size V7 w') (by have h9 := checkTab_any (ks ++ [x]) xa (0 + ks.length + 1) xc V7 (by simp) hTT; rw [hTw.out] at h9; exact h9.mono (fun e w' h => ⟨_, h.1, rfl, h.2⟩)) ?_
          rintro v V8 ⟨rfl, hb_8⟩
          have hB_8 := hB_7.trans (hb_8.mono hB_7.size)
          refine hK.out _ _ (hSC _ hB_8) (fun hHeld => ?_)
          simp only [Act.put, List.setIfInBounds_toArray, List.set_cons_zero, List.set_cons_succ]
          refine take_dst (i := 13) (d := 65) (v := .bool true) rfl rfl (by kernel_rfl) (by kernel_rfl) (by kernel_rfl) (fun _ _ _ h => h) (Or.inl ⟨by rfl, ?_⟩) hHeld ?_
          · (intro w0 hSw; (try dsimp only at hSw); go_simp)
          simp only [Act.put, List.setIfInBounds_toArray, List.set_cons_zero, List.set_cons_succ]
          refine take_dst (i := 14) (d := 4) (v := .bool true) rfl rfl (by kernel_rfl) (by kernel_rfl) (by kernel_rfl) (fun _ _ _ h => h) (Or.inl ⟨by rfl, ?_⟩) hHeld ?_
          · (intro w0 hSw; (try dsimp only at hSw); go_simp)
          simp only [Act.put, List.setIfInBounds_toArray, List.set_cons_zero, List.set_cons_succ]
          refine wpAnyH_done (by kernel_rfl) ?_ _
          have hE := hB5.trans (hB_8.mono hB5.size)
          go_wp2_with fail
          go_ret
          exact ⟨rfl, hE⟩
end Go.Proofs.YtlpoioefalpgdaaDoor

namespace Go.Proofs.YtlpoioefalpgdaaDoor
open Go.RowKit

set_option maxRecDepth 100000 in
/-- An array of arrays of integers that reads as a table of rows holds the rows' numbers, cell for cell. -/
theorem cells_of_tab2 {H : Type} {enc : TypeId × Value → H} {P : Program} {w : World} {base : Nat} {sp : Nat → Bool} {held : Bool} {fuel : Nat} {t e i : TypeId} {n m : Nat} {k : IntKind} {cs : List Value} {rows : List (List Int)} {p : List MemPlace}
    (ht : P.underlying t = some (.array n e)) (he : P.underlying e = some (.array m i)) (hi : P.underlying i = some (.int k)) (hci : P.cellsOf i = 1) (hce : P.cellsOf e = m) (hm : 0 < m)
    (h : DataW.trod enc P w base sp held fuel t cs = some (.agg (rows.map (Lib.tabData k)), p)) (q : Nat) (hq : q < n * m) : cs[q]? = ((rows.getD (q / m) []).map (Value.int k))[q % m]? := by
  obtain ⟨xs, f, rfl, hx, hl, hn, hr⟩ := DataW.trod_array ht h
  have hin : q / m < n := Nat.div_lt_of_lt_mul (by rw [Nat.mul_comm]; exact hq)
  have hrow := hr (q / m) hin
  have hxs : xs.map (·.1) = rows.map (Lib.tabData k) := by
    have := congrArg Prod.fst hx
    simpa using this.symm
  have hg : (xs.map (·.1))[q / m]? = some (xs[q / m]'(by omega)).1 := by simp [hn, hin]
  rw [hxs] at hg
  simp only [List.getElem?_map, Option.map_eq_some_iff] at hg
  obtain ⟨r, hr1, hr2⟩ := hg
  rw [List.getElem?_eq_getElem (by omega), hce] at hrow
  have hrow' : DataW.trod enc P w base sp held f e ((cs.drop (q / m * m)).take m) = some (Lib.tabData k r, (xs[q / m]'(by omega)).2) := by
    rw [hrow, hr2]
  have hc := Lib.cells_of_tab he hi hci hce hrow'
  have hj : q % m < m := Nat.mod_lt _ hm
  have e1 : ((cs.drop (q / m * m)).take m)[q % m]? = cs[q]? := by
    rw [List.getElem?_take, if_pos hj, List.getElem?_drop, Nat.mul_comm, Nat.div_add_mod]
  rw [← e1, hc]
  simp [List.getD, hr1]

set_option maxRecDepth 100000 in
theorem tFirst : (Tryd.prog.globals[0]?).map (·.type) = some 85 := by kernel_rfl
set_option maxRecDepth 100000 in
theorem tOrders : (Tryd.prog.globals[1]?).map (·.type) = some 96 := by kernel_rfl
set_option maxRecDepth 100000 in
theorem tLanes : (Tryd.prog.globals[2]?).map (·.type) = some 98 := by kernel_rfl
set_option maxRecDepth 100000 in
theorem cU32 : Tryd.prog.cellsOf 84 = 1 := by kernel_rfl
set_option maxRecDepth 100000 in
theorem c8U32 : Tryd.prog.cellsOf 85 = 8 := by kernel_rfl
set_option maxRecDepth 100000 in
theorem c16U8 : Tryd.prog.cellsOf 95 = 16 := by kernel_rfl
set_option maxRecDepth 100000 in
theorem c4U8 : Tryd.prog.cellsOf 97 = 4 := by kernel_rfl
def ordRows : List (List Int) := [[0, 1, 2, 3, 4, 5, 6, 7, 8, 9, 10, 11, 12, 13, 14, 15], [14, 10, 4, 8, 9, 15, 13, 6, 1, 12, 0, 2, 11, 7, 5, 3], [11, 8, 12, 0, 5, 2, 15, 13, 10, 14, 3, 6, 7, 1, 9, 4], [7, 9, 3, 1, 13, 12, 11, 14, 2, 6, 5, 10, 4, 0, 15, 8], [9, 0, 5, 7, 2, 4, 10, 15, 14, 1, 11, 12, 6, 8, 3, 13], [2, 12, 6, 10, 0, 11, 8, 3, 4, 13, 7, 5, 15, 14, 1, 9], [12, 5, 1, 15, 14, 13, 4, 10, 0, 7, 6, 3, 9, 2, 8, 11], [13, 11, 7, 14, 12, 1, 3, 9, 5, 0, 15, 4, 8, 6, 2, 10], [6, 15, 14, 9, 11, 3, 0, 8, 12, 2, 13, 7, 1, 4, 10, 5], [10, 2, 8, 4, 7, 6, 1, 5, 15, 11, 9, 14, 3, 12, 13, 0]]
def laneRows : List (List Int) := [[0, 4, 8, 12], [1, 5, 9, 13], [2, 6, 10, 14], [3, 7, 11, 15], [0, 5, 10, 15], [1, 6, 11, 12], [2, 7, 8, 13], [3, 4, 9, 14]]
set_option maxRecDepth 100000 in
theorem ordRows_flat : ∀ q, q < 160 → (ordRows.getD (q / 16) [])[q % 16]? = some ((ordF.getD q 0 : Nat) : Int) := by decide +kernel
set_option maxRecDepth 100000 in
theorem laneRows_flat : ∀ q, q < 32 → (laneRows.getD (q / 4) [])[q % 4]? = some ((laneF.getD q 0 : Nat) : Int) := by decide +kernel
set_option maxRecDepth 100000 in
theorem dFirst : Rows.laid_sheaves_blake_firstWords (H := Unit) = Lib.tabData .u32 fw := rfl
set_option maxRecDepth 100000 in
theorem dOrders : Rows.laid_sheaves_blake_orders (H := Unit) = .agg (ordRows.map (Lib.tabData .u8)) := rfl
set_option maxRecDepth 100000 in
theorem dLanes : Rows.laid_sheaves_blake_lanes (H := Unit) = .agg (laneRows.map (Lib.tabData .u8)) := rfl

set_option maxRecDepth 100000 in
theorem tabs_of_laid {W : World} {n1 n2 n3 : String} (gFirst : Tryd.prog.globalNamed n1 = some 0) (gOrders : Tryd.prog.globalNamed n2 = some 1) (gLanes : Tryd.prog.globalNamed n3 = some 2)
    (h : laidMetH Tryd.prog [(n1, Rows.laid_sheaves_blake_firstWords), (n2, Rows.laid_sheaves_blake_orders), (n3, Rows.laid_sheaves_blake_lanes)] W) : Tabs W := by
  have h1 : laidMet Tryd.prog [(n1, Rows.laid_sheaves_blake_firstWords), (n2, Rows.laid_sheaves_blake_orders), (n3, Rows.laid_sheaves_blake_lanes)] W := h
  clear h
  have h2 := h1.tail
  have h3 := h2.tail
  rw [dFirst] at h1
  rw [dOrders] at h2
  rw [dLanes] at h3
  have t1 := Lib.tabIs_of_head gFirst tFirst Tryd.underlying85 Tryd.underlying84 cU32 c8U32 h1
  refine ⟨fun i hi => t1.cell gFirst i hi, fun i hi => ?_, fun i hi => ?_⟩
  · obtain ⟨ps, ⟨g', t', cs, fuel, p, q, hg', ht', hvar, hd, _, _⟩, _⟩ := h2
    obtain rfl := Option.some.inj (gOrders.symm.trans hg')
    obtain rfl := Option.some.inj (tOrders.symm.trans ht')
    have hc := World.var?_cell gOrders hvar i
    have he := cells_of_tab2 Tryd.underlying96 Tryd.underlying95 Tryd.underlying5 cU8 c16U8 (by decide) hd i hi
    rw [hc]
    have := ordRows_flat i hi
    simp only [List.getElem?_map, this, Option.map_some] at he
    simpa using he
  · obtain ⟨ps, ⟨g', t', cs, fuel, p, q, hg', ht', hvar, hd, _, _⟩, _⟩ := h3
    obtain rfl := Option.some.inj (gLanes.symm.trans hg')
    obtain rfl := Option.some.inj (tLanes.symm.trans ht')
    have hc := World.var?_cell gLanes hvar i
    have he := cells_of_tab2 Tryd.underlying98 Tryd.underlying97 Tryd.underlying5 cU8 c4U8 (by decide) hd i hi
    rw [hc]
    have := laneRows_flat i hi
    simp only [List.getElem?_map, this, Option.map_some] at he
    simpa using he
end Go.Proofs.YtlpoioefalpgdaaDoor

namespace Go.Proofs.YtlpoioefalpgdaaDoor
open Go.ChangeShapes Go.WideShapes Go.ChangeAt Go.RowKit

/-- What the initialisers of the three tables lay, in the first blocks. -/
def layBlock (c : Array Value) : Obj → Obj
  | .cells _ t frozen => .cells c t frozen
  | o => o
def layTabs (w : World) : World :=
  { w with heap := ((w.heap.modify 0 (layBlock (ua fw))).modify 1 (layBlock (ub (ordF.map Int.ofNat)).toArray)).modify 2 (layBlock (ub (laneF.map Int.ofNat)).toArray) }
end Go.Proofs.YtlpoioefalpgdaaDoor

namespace Go.Proofs.YtlpoioefalpgdaaDoor.ballotBad
open Go.ChangeShapes Go.WideShapes Go.ChangeAt Go.RowKit

set_option maxRecDepth 100000 in
/-- What the walk gives, for every argument and every world that holds the tables. -/
theorem contract (H : Type) (enc : TypeId × Value → H) (W : World) (base : Nat) (args : Array Value) (ds gs : List (DataW H)) (before : List MemPlace)
    (hval : ∀ (j : Nat) t v, Tryd.f4.params[j]? = some t → args[j]? = some v → Value.okWide Tryd.prog W .any base t v)
    (hW : DataW.Whole enc Tryd.prog Tryd.f4.params.toList Rows.ballotBadSpec.vars false W args.toList ds gs before) (hsz : (DataW.weightsEach Tryd.prog (Tryd.f4.params.toList ++ (OpenSpec.ofChange Rows.ballotBadSpec).bare.plain.varTypes Tryd.prog) (ds ++ gs)).all (· ≤ reachBytes) = true) (hL : laidMetH Tryd.prog Rows.ballotBadRow.laid W) :
    Calls Tryd.prog 4 args W fun e W' => ∃ v, e = .returned v ∧ Rows.ballotBadSpec.post enc Tryd.prog Tryd.f4 false true false false W args v W' := by
  have hW' := hW
  obtain ⟨p, q, hA0, hV, rfl, hfz, hnd⟩ := hW
  have hA : DataW.TrodAll enc Tryd.prog W 0 (fun _ => true) true Tryd.f4.params.toList args.toList ds p := hA0
  rw [Tryd.params4] at hA hval hsz
  obtain ⟨v0, vs0, d0, ds0, p0, q0, hargs, rfl, rfl, h0, r0⟩ := trodAll_cons hA
  obtain ⟨v1, vs1, d1, ds1, p1, q1, rfl, rfl, rfl, h1, r1⟩ := trodAll_cons r0
  obtain ⟨rfl, rfl, rfl⟩ := trodAll_nil r1
  obtain rfl : args = #[v0, v1] := by cases args; simp_all
  obtain ⟨rfl, rfl⟩ := trodVars_none hV
  have k0 := h0
  have lt0 : ∀ x ∈ p0, x.block < W.heap.size := by obtain ⟨m, hm⟩ := k0; exact DataW.trod_lt m _ _ _ hm
  obtain ⟨sa0, cap0, rs0, rfl, q0_0, q0_1, q0_2, q0_3⟩ := open_rawsm (hval 0 22 v0 rfl rfl) h0 (fit_each hsz (j := 0) rfl rfl)
  obtain ⟨a1, rfl, rfl, rfl, w1⟩ := open_int Tryd.underlying3 (hval 1 3 v1 rfl rfl) h1
  obtain ⟨lo1, hi1⟩ := bounds_i64 w1
  clear hA0
  have hT : Tabs W := tabs_of_laid (by kernel_rfl) (by kernel_rfl) (by kernel_rfl) hL
  refine (ballotBad_walk sa0 cap0 rs0 a1 W q0_0 q0_1 q0_2 q0_3 lo1 hi1 hT).mono fun e W' ⟨he, bel⟩ => ?_
  subst he
  exact ⟨_, rfl, _, _, _, [], _, [], hW', trodAll_mk1 (shut_bool Tryd.underlying4 _), (trodAll_cons_mk (Below.trod laidOut (by kernel_rfl) (of_decide_eq_true (by kernel_rfl)) k0 bel lt0) (trodAll_cons_mk (shut_int Tryd.underlying3 w1) trodAll_mk0)), rfl, bel.frame _, fun h => by cases h⟩

set_option maxRecDepth 100000 in
theorem laid_met (os : Os) : laidMet Tryd.prog Rows.ballotBadRow.laid ((layTabs (World.holding Tryd.prog os ⟨#[], #[], []⟩)).forCall (fun _ _ => 0) ⟨#[], #[.slice none 0 0, .int .i64 0], []⟩).memory :=
  laidMet_of_run' 8 (by kernel_rfl) (by kernel_rfl)
set_option maxRecDepth 100000 in
theorem reads (os : Os) {H : Type} (enc : TypeId × Value → H) : ∃ places, DataW.whole enc Tryd.prog ((layTabs (World.holding Tryd.prog os ⟨#[], #[], []⟩)).forCall (fun _ _ => 0) ⟨#[], #[.slice none 0 0, .int .i64 0], []⟩).memory Tryd.f4.params.toList Rows.ballotBadSpec.vars false (#[.slice none 0 0, .int .i64 0] : Array Value).toList 8 = some ([.nil, .lit (.int .i64 0)], [], places) :=
  ⟨[], by kernel_rfl⟩

set_option maxRecDepth 100000 in
theorem lifted (os : Os) (started : os.Started) (H : Type) (enc : TypeId × Value → H) (F : Stop.Interp) :
    ReturnsInHanded {} Tryd.checked os 4 .any ((OpenSpec.ofChange Rows.ballotBadSpec).preRow enc Tryd.prog Tryd.f4 Rows.ballotBadRow.domain false Rows.ballotBadRow.laid) (((OpenSpec.ofChange Rows.ballotBadSpec).at F).post enc Tryd.prog Tryd.f4 false true false false) := by
  obtain ⟨places, hx⟩ := reads os enc
  refine returnsInHanded_of_row (C := Tryd.checked) (s := OpenSpec.ofChange Rows.ballotBadSpec) own started (by kernel_rfl) Tryd.func4
    (witness_row_at (enc := enc) (C := Tryd.checked) false (layTabs (World.holding Tryd.prog os ⟨#[], #[], []⟩)) #[.slice none 0 0, .int .i64 0] rfl (by kernel_rfl) (by kernel_rfl) (by kernel_rfl)
      (OpenSpec.preRow_of_cond 8 hx (by kernel_rfl) (fun k hk => by cases hk) (by kernel_rfl) (laid_met os))) ?_
  intro W base args ds gs before hval hW _ _ hsz hL _ _
  exact contract H enc W base args ds gs before hval hW hsz hL

set_option maxRecDepth 100000 in
theorem said : Rows.BallotBadSaid :=
  OpenClaim.holds_of_cond 4 Tryd.f4 rfl rfl rfl rfl rfl rfl rfl ⟨rfl, rfl, rfl, rfl, rfl⟩ rfl rfl rfl rfl rfl (by kernel_rfl) Tryd.func4 (by kernel_rfl)
    (of_decide_eq_true (by kernel_rfl)) (by unfold Func.isWrapper; first | (rw [if_pos (by decide +kernel)]; kernel_rfl) | (rw [if_neg (by decide +kernel)]; exact ⟨rfl, rfl⟩))
    (fun os started H enc _ F => by rw [OpenClaim.pre_eq_preRow]; exact lifted os started H enc F)

set_option maxRecDepth 100000 in
theorem plain (f : FuncId) (fn : Func) (hf : Tryd.pinned.checked.prog.funcNamed Rows.ballotBadRow.func = some f) (hfn : Tryd.pinned.checked.prog.funcs[f]? = some fn) :
    false = Tryd.pinned.checked.prog.looks [] ∧ ∀ (j : Nat) t, fn.params[j]? = some t → Tryd.pinned.checked.prog.wantsStandIn t = false := by
  obtain rfl : f = 4 := Option.some.inj ((show Tryd.prog.funcNamed Rows.ballotBadRow.func = some 4 by kernel_rfl).symm.trans hf) |>.symm
  obtain rfl : fn = Tryd.f4 := (Option.some.inj (Tryd.func4.symm.trans hfn)).symm
  refine ⟨by kernel_rfl, fun j t ht => ?_⟩
  rw [Tryd.params4] at ht
  have hm : t = 22 ∨ t = 3 := by simpa using Array.mem_of_getElem? ht
  rcases hm with rfl | rfl
  · exact (show Tryd.prog.wantsStandIn 22 = false by kernel_rfl)
  · exact (show Tryd.prog.wantsStandIn 3 = false by kernel_rfl)

set_option maxRecDepth 100000 in
/-- THE CARD. -/
theorem card : Rows.BallotBadCardSaid :=
  Claim7.holds_tied_plain_at .later [] _ _ _ _ said (fun _ h => by cases h) (by kernel_rfl) (fun _ h => by cases h) ballotBad_row_tie rfl ⟨rfl, rfl⟩ (by kernel_rfl) rfl plain (by kernel_rfl)
end Go.Proofs.YtlpoioefalpgdaaDoor.ballotBad
namespace Go.Proofs.YtlpoioefalpgdaaDoor
set_option maxRecDepth 100000 in
theorem ballotBad_holds : Rows.BallotBadCardSaid := ballotBad.card
#print axioms ballotBad_holds
end Go.Proofs.YtlpoioefalpgdaaDoor
