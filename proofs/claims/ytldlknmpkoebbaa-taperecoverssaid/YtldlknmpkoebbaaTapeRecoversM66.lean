/- tape.Recover: what it answers, for every tape. -/
import Derived.Test.YtldlknmpkoebbaaTapeRecoversM0
import Derived.Deep.Strs
import Derived.Deep.Slices
import Derived.Test.YtldlknmpkoebbaaTapeRecoversM60
import Derived.Test.YtldlknmpkoebbaaTapeRecoversM30
import Derived.Deep.MidRow
import Derived.Deep.CutRange
import Derived.Deep.DeepCutAuto
import Derived.Test.YtldlknmpkoebbaaTapeRecoversM54
namespace Go.Proofs.Ytldlknmpkoebbaa
open Go.ChangeShapes Go.WideShapes Go.ChangeAt Go.RowKit Go.Deep

set_option maxRecDepth 100000 in
theorem cRaw : Try.prog.cellsOf 67 = 5 := by kernel_rfl
set_option maxRecDepth 100000 in
theorem cIntR : Try.prog.cellsOf 3 = 1 := by kernel_rfl
set_option maxRecDepth 100000 in
theorem cStrsR : Try.prog.cellsOf 41 = 1 := by kernel_rfl
set_option maxRecDepth 100000 in
theorem open_raw {H : Type} {enc : TypeId × Value → H} {W : World} {base : Nat} {v : Value} {d : DataW H} {p : List MemPlace}
    (hv : Value.okWide Try.prog W .any base 67 v) (h : DataW.Trod enc Try.prog W 0 (fun _ => true) true 67 v d p) (hfit : ∀ n ∈ d.weights Try.prog 67, n ≤ reachBytes) :
    ∃ ki ra rb rc sa cap ss, v = .agg #[.int .i64 ki, .int .i64 ra, .int .i64 rb, .int .i64 rc, .slice sa (List.length ss) cap] ∧ I64 ki ∧ I64 ra ∧ I64 rb ∧ I64 rc ∧ TextsAt W sa cap ss := by
  obtain ⟨cs, rfl, _⟩ := okWide_struct Try.underlying67 hv
  obtain ⟨fuel, hf⟩ := h
  obtain ⟨xs, n, _, hx, hl, hlen, hg⟩ := DataW.trod_struct Try.underlying67 hf
  rw [cRaw] at hl
  match xs, hlen with
  | [y0, y1, y2, y3, y4], _ =>
  have h0 := hg 0 _ rfl
  have h1 := hg 1 _ rfl
  have h2 := hg 2 _ rfl
  have h3 := hg 3 _ rfl
  have h4 := hg 4 _ rfl
  simp only [Prod.mk.injEq] at hx
  obtain ⟨rfl, rfl⟩ := hx
  obtain ⟨l⟩ := cs
  match l, hl with
  | [c0, c1, c2, c3, c4], _ =>
  obtain ⟨a0, e0, rfl, w0⟩ := DataW.trod_int Try.underlying3 h0
  obtain ⟨a1, e1, rfl, w1⟩ := DataW.trod_int Try.underlying3 h1
  obtain ⟨a2, e2, rfl, w2⟩ := DataW.trod_int Try.underlying3 h2
  obtain ⟨a3, e3, rfl, w3⟩ := DataW.trod_int Try.underlying3 h3
  obtain ⟨sa, cap, ss, e4, hs⟩ := open_texts_cells h4 (fun n hn => hfit n (by simp [DataW.weights, DataW.weightsEach, Try.underlying67, hn]))
  simp [cIntR, cStrsR, Value.cells] at e0 e1 e2 e3 e4
  subst e0 e1 e2 e3 e4
  exact ⟨a0, a1, a2, a3, sa, cap, ss, rfl, bounds_i64 w0, bounds_i64 w1, bounds_i64 w2, bounds_i64 w3, hs⟩
end Go.Proofs.Ytldlknmpkoebbaa

namespace Go.Proofs.Ytldlknmpkoebbaa
open Go.ChangeShapes Go.WideShapes Go.ChangeAt Go.RowKit Go.Deep

/-- A raw thing: its numbers; where its texts lie. -/
structure Rt where
  ki : Int
  a : Int
  b : Int
  c : Int
  sa : Option Addr
  cap : Nat
  ss : List ByteArray
structure RawTs (w : World) (sa : Option Addr) (rs : List Rt) : Prop where
  cells : rs = [] ∨ ∃ sb so, sa = some ⟨sb, so, none⟩ ∧ ∀ j (h : j < rs.length), w.cell? ⟨sb, so + j * 5, none⟩ = some (.int .i64 (rs[j]).ki) ∧ w.cell? ⟨sb, so + j * 5 + 1, none⟩ = some (.int .i64 (rs[j]).a) ∧ w.cell? ⟨sb, so + j * 5 + 2, none⟩ = some (.int .i64 (rs[j]).b) ∧ w.cell? ⟨sb, so + j * 5 + 3, none⟩ = some (.int .i64 (rs[j]).c) ∧ w.cell? ⟨sb, so + j * 5 + 4, none⟩ = some (.slice (rs[j]).sa (rs[j]).ss.length (rs[j]).cap)
  each : ∀ r ∈ rs, I64 r.ki ∧ I64 r.a ∧ I64 r.b ∧ I64 r.c ∧ TextsAt w r.sa r.cap r.ss
  small : rs.length ≤ 3000000000000000000
set_option maxRecDepth 100000 in
theorem RawTs.below {w w' : World} {sa : Option Addr} {rs : List Rt} (h : RawTs w sa rs) (hb : Below w.heap.size w w') : RawTs w' sa rs := by
  refine ⟨?_, fun r hr => ⟨(h.each r hr).1, (h.each r hr).2.1, (h.each r hr).2.2.1, (h.each r hr).2.2.2.1, (h.each r hr).2.2.2.2.below hb⟩, h.small⟩
  rcases h.cells with h | ⟨sb, so, rfl, hc⟩
  · exact .inl h
  · refine .inr ⟨sb, so, rfl, fun j hj => ?_⟩
    obtain ⟨h0, h1, h2, h3, h4⟩ := hc j hj
    have hlt : sb < w.heap.size := block_lt_of_cell h0
    exact ⟨(hb.cell (p := ⟨sb, so + j * 5, none⟩) hlt).trans h0, (hb.cell (p := ⟨sb, so + j * 5 + 1, none⟩) hlt).trans h1, (hb.cell (p := ⟨sb, so + j * 5 + 2, none⟩) hlt).trans h2, (hb.cell (p := ⟨sb, so + j * 5 + 3, none⟩) hlt).trans h3, (hb.cell (p := ⟨sb, so + j * 5 + 4, none⟩) hlt).trans h4⟩
set_option maxRecDepth 100000 in
theorem open_rawt_cells {H : Type} {enc : TypeId × Value → H} {W : World} {fuel : Nat} {cs : List Value} {x : DataW H × List MemPlace}
    (hf : DataW.trod enc Try.prog W 0 (fun _ => true) true fuel 67 cs = some x) (hfit : ∀ n ∈ x.1.weights Try.prog 67, n ≤ reachBytes) :
    ∃ r : Rt, cs = [.int .i64 r.ki, .int .i64 r.a, .int .i64 r.b, .int .i64 r.c, .slice r.sa r.ss.length r.cap] ∧ I64 r.ki ∧ I64 r.a ∧ I64 r.b ∧ I64 r.c ∧ TextsAt W r.sa r.cap r.ss := by
  obtain ⟨xs, n, _, rfl, hl, hlen, hg⟩ := DataW.trod_struct Try.underlying67 hf
  rw [cRaw] at hl
  match xs, hlen with
  | [y0, y1, y2, y3, y4], _ =>
  have h0 := hg 0 _ rfl
  have h1 := hg 1 _ rfl
  have h2 := hg 2 _ rfl
  have h3 := hg 3 _ rfl
  have h4 := hg 4 _ rfl
  match cs, hl with
  | [c0, c1, c2, c3, c4], _ =>
  obtain ⟨a0, e0, rfl, w0⟩ := DataW.trod_int Try.underlying3 h0
  obtain ⟨a1, e1, rfl, w1⟩ := DataW.trod_int Try.underlying3 h1
  obtain ⟨a2, e2, rfl, w2⟩ := DataW.trod_int Try.underlying3 h2
  obtain ⟨a3, e3, rfl, w3⟩ := DataW.trod_int Try.underlying3 h3
  obtain ⟨sa, cap, ss, e4, hT⟩ := open_texts_cells h4 (fun n hn => hfit n (by simp [DataW.weights, DataW.weightsEach, Try.underlying67, hn]))
  simp [cIntR, cStrsR] at e0 e1 e2 e3 e4
  subst e0 e1 e2 e3 e4
  exact ⟨⟨a0, a1, a2, a3, sa, cap, ss⟩, rfl, bounds_i64 w0, bounds_i64 w1, bounds_i64 w2, bounds_i64 w3, hT⟩
set_option maxRecDepth 100000 in
theorem weightsAll_memT {H : Type} (e : TypeId) (l : List (DataW H)) (d : DataW H) (hd : d ∈ l) : ∀ n ∈ d.weights Try.prog e, n ∈ DataW.weightsAll Try.prog e l := by
  induction l with
  | nil => cases hd
  | cons x r ih =>
    intro n hn
    rw [DataW.weightsAll]
    rcases List.mem_cons.1 hd with rfl | h
    · exact List.mem_append_left _ hn
    · exact List.mem_append_right _ (ih h n hn)
set_option maxRecDepth 100000 in
theorem bRawT : Try.prog.bytesOf 67 = 56 := by kernel_rfl
set_option maxRecDepth 100000 in
theorem open_rawts {H : Type} {enc : TypeId × Value → H} {W : World} {base : Nat} {v : Value} {d : DataW H} {p : List MemPlace}
    (hv : Value.okWide Try.prog W .any base 33 v) (h : DataW.Trod enc Try.prog W 0 (fun _ => true) true 33 v d p) (hfit : ∀ n ∈ d.weights Try.prog 33, n ≤ reachBytes) :
    ∃ sa cap rs, v = .slice sa (List.length rs) cap ∧ RawTs W sa rs ∧ rs.length ≤ cap := by
  obtain ⟨a0, len0, cap0, rfl⟩ := okWide_slice Try.underlying33 hv
  obtain ⟨fuel, hf⟩ := h
  rcases open_slice Try.underlying33 hf with ⟨he, _⟩ | ⟨a, len, cap, m, n, D, Pl, he, _, hl, hm, hmm, hd, hx⟩
  · simp [Value.cells] at he
    obtain ⟨rfl, rfl, rfl⟩ := he
    exact ⟨none, 0, [], rfl, ⟨.inl rfl, (fun p hp => by cases hp), by decide⟩, Nat.le_refl _⟩
  · simp [Value.cells] at he
    obtain ⟨rfl, rfl, rfl⟩ := he
    simp only [Prod.mk.injEq] at hd
    obtain ⟨rfl, rfl⟩ := hd
    simp only [if_true] at hmm
    subst hmm
    rw [cRaw] at hx
    have hw := hfit ((((List.range len0).map D).length + ((List.range (m - len0)).map fun j => D (len0 + j)).length) * Try.prog.bytesOf 67) (by simp [DataW.weights, Try.underlying33])
    rw [bRawT] at hw
    simp [reachBytes] at hw
    have each : ∀ i, i < len0 → ∃ r : Rt, (W.cell? (a.add (i * 5)) = some (.int .i64 r.ki) ∧ W.cell? (a.add (i * 5 + 1)) = some (.int .i64 r.a) ∧ W.cell? (a.add (i * 5 + 2)) = some (.int .i64 r.b) ∧ W.cell? (a.add (i * 5 + 3)) = some (.int .i64 r.c) ∧ W.cell? (a.add (i * 5 + 4)) = some (.slice r.sa r.ss.length r.cap)) ∧ (I64 r.ki ∧ I64 r.a ∧ I64 r.b ∧ I64 r.c ∧ TextsAt W r.sa r.cap r.ss) := fun i hi => by
      obtain ⟨cs', h1, h2⟩ := hx i (by omega)
      have hfi : ∀ n ∈ (D i).weights Try.prog 67, n ≤ reachBytes := fun n hn => hfit n (by
        have := weightsAll_memT 67 ((List.range len0).map D) (D i) (List.mem_map.2 ⟨i, List.mem_range.2 hi, rfl⟩) n hn
        simp only [DataW.weights, Try.underlying33]
        exact List.mem_cons_of_mem _ (List.mem_append_left _ this))
      obtain ⟨r, rfl, ii⟩ := open_rawt_cells h2 hfi
      obtain ⟨_, _, hcell⟩ := World.cells?_some h1
      have e0 := hcell 0 (by omega)
      have e1 := hcell 1 (by omega)
      have e2 := hcell 2 (by omega)
      have e3 := hcell 3 (by omega)
      have e4 := hcell 4 (by omega)
      rw [add_add] at e0 e1 e2 e3 e4
      exact ⟨r, ⟨by simpa using e0, by simpa using e1, by simpa using e2, by simpa using e3, by simpa using e4⟩, ii⟩
    obtain ⟨P, hP⟩ := @choose_lt Rt ⟨⟨0, 0, 0, 0, none, 0, []⟩⟩ len0 _ each
    have ha : 0 < len0 → ∃ b off, a = ⟨b, off, none⟩ := fun hi => by
      have h9 := (hP 0 hi).1.1
      cases a with
      | mk b off spot =>
        cases spot with
        | none => exact ⟨b, off, rfl⟩
        | some s => simp [World.cell?, Addr.add] at h9; split at h9 <;> cases h9
    refine ⟨some a, m, (List.range len0).map P, by simp, ⟨?_, ?_, by simp; omega⟩, by simpa using hl⟩
    · rcases Nat.eq_zero_or_pos len0 with h0 | h0
      · subst h0; exact .inl rfl
      · right
        obtain ⟨b, off, rfl⟩ := ha h0
        refine ⟨b, off, rfl, fun j hj => ?_⟩
        have hj' : j < len0 := by simpa using hj
        obtain ⟨e0, e1, e2, e3, e4⟩ := (hP j hj').1
        rw [add_off] at e0 e1 e2 e3 e4
        simp only [List.getElem_map, List.getElem_range]
        exact ⟨e0, by rw [Nat.add_assoc]; exact e1, by rw [Nat.add_assoc]; exact e2, by rw [Nat.add_assoc]; exact e3, by rw [Nat.add_assoc]; exact e4⟩
    · intro p hp
      simp at hp
      obtain ⟨j, hj, rfl⟩ := hp
      exact (hP j hj).2
end Go.Proofs.Ytldlknmpkoebbaa

namespace Go.Proofs.Ytldlknmpkoebbaa
open Go.RowKit

set_option maxRecDepth 100000 in
theorem infoMsg : (Try.prog.info? 53).map (fun i => (i.zero, i.size, i.bytes)) = some (some (.agg #[.int .i64 0, .int .i64 0, .int .i64 0, .int .i64 0, .int .i64 0, .slice none 0 0, .int .i64 0, .int .i64 0, .slice none 0 0, .slice none 0 0, .int .i64 0, .int .i64 0, .slice none 0 0, .int .i64 0, .int .i64 0, .slice none 0 0, .slice none 0 0, .slice none 0 0, .int .i64 0]), 19, 264) := by kernel_rfl
/-- A message's cells. -/
def mcell (m : Msg) : List Value := (#[.int .i64 m.fr, .int .i64 m.tt, .int .i64 m.ki, .int .i64 m.bau, .int .i64 m.bnu, .slice m.bta m.btn m.btc, .int .i64 m.hau, .int .i64 m.hrd, .slice m.hba m.hbn m.hbc, .slice m.hpa m.hpn m.hpc, .int .i64 m.sau, .int .i64 m.srd, .slice m.sda m.sdn m.sdc, .int .i64 m.cau, .int .i64 m.crd, .slice m.cba m.cbn m.cbc, .slice m.cpa m.cpn m.cpc, .slice m.cva m.cvn m.cvc, .int .i64 m.ro] : Array Value).toList
set_option maxRecDepth 100000 in
theorem mcell_len (m : Msg) : (mcell m).length = 19 := rfl
def mcells (ms : List MV) : List Value := ms.flatMap fun x => mcell x.m
set_option maxRecDepth 100000 in
theorem mcells_len (ms : List MV) : (mcells ms).length = ms.length * 19 := by
  induction ms with
  | nil => rfl
  | cons x l ih => simp only [mcells, List.flatMap_cons, List.length_append] at ih ⊢; rw [ih, mcell_len]; simp; omega
set_option maxRecDepth 100000 in
theorem mcells_snoc (ms : List MV) (x : MV) : mcells (ms ++ [x]) = mcells ms ++ mcell x.m := by simp [mcells]
set_option maxRecDepth 100000 in
theorem mcells_at (ms : List MV) (k : Nat) (hk : k < ms.length) (j : Nat) (hj : j < 19) : (mcells ms)[k * 19 + j]? = (mcell (ms[k]).m)[j]? := by
  induction ms generalizing k with
  | nil => simp at hk
  | cons x l ih =>
    cases k with
    | zero =>
      simp only [mcells, List.flatMap_cons, Nat.zero_mul, Nat.zero_add, List.getElem_cons_zero]
      rw [List.getElem?_append_left (by rw [mcell_len]; exact hj)]
    | succ k =>
      simp only [mcells, List.flatMap_cons, List.getElem_cons_succ]
      rw [List.getElem?_append_right (by rw [mcell_len]; omega), mcell_len, show (k + 1) * 19 + j - 19 = k * 19 + j by omega]
      exact ih k (by simpa using hk)
set_option maxRecDepth 100000 in
theorem mcell_one (m : Msg) : ∀ u ∈ mcell m, u.oneCell' = true := by
  intro u hu
  simp [mcell] at hu
  rcases hu with rfl | rfl | rfl | rfl | rfl | rfl | rfl | rfl | rfl | rfl | rfl | rfl | rfl | rfl | rfl | rfl | rfl | rfl | rfl <;> rfl
/-- Records that lie apart from their row. -/
def RecsAt (w : World) (B : Nat) (v : Value) (ms : List MV) : Prop := ∀ x ∈ ms, MAt w x ∧ IsRec x ∧ HasM (fun k => B ≤ k ∧ v.ownBlock ≠ some k) x
set_option maxRecDepth 100000 in
theorem RecsAt.below {w w' : World} {B : Nat} {v : Value} {ms : List MV} (h : RecsAt w B v ms) (hb : Below w.heap.size w w') : RecsAt w' B v ms := fun x hx => ⟨(h x hx).1.below hb, (h x hx).2.1, (h x hx).2.2⟩
set_option maxRecDepth 100000 in
/-- One more. -/
theorem RecsAt.more {w w2 w3 : World} {B n : Nat} {v v1 : Value} {ms : List MV} {x : MV} {o : Obj} {e : TypeId} {sz : Nat} {xs : List Value} (h : RecsAt w B v ms) (hB : B ≤ w.heap.size) (ho : w.ownsRow B e sz v n xs) (hb2 : Below w.heap.size w w2) (hx : MAt w2 x) (hr : IsRec x) (hG : HasM (fun k => w.heap.size ≤ k) x) (G : Grew (w2.alloc o) v w3 v1) : RecsAt w3 B v1 (ms ++ [x]) := by
  have hA : Below w2.heap.size w2 (w2.alloc o) := (Below.refl _ _).alloc (Nat.le_refl _) _
  have hs := hb2.size
  have hsz : (w2.alloc o).heap.size = w2.heap.size + 1 := by simp
  have stay : ∀ y : MV, MAt w2 y → HasM (fun k => (B ≤ k ∧ v.ownBlock ≠ some k) ∧ k < w2.heap.size) y → MAt w3 y ∧ HasM (fun k => B ≤ k ∧ v1.ownBlock ≠ some k) y := fun y hy hH => by
    refine ⟨(hy.below hA).stays (G := fun k => (B ≤ k ∧ v.ownBlock ≠ some k) ∧ k < w2.heap.size) (fun k hk => G.grown.block k (by rw [hsz]; omega) (fun e => hk.1.2 e.symm)) hH, hH.mono (fun k hk => ⟨hk.1.1, fun e => ?_⟩)⟩
    rcases G.fresh k e with g | g
    · exact hk.1.2 g
    · rw [hsz] at g; have := hk.2; omega
  intro y hy
  rcases List.mem_append.1 hy with hy | hy
  · obtain ⟨h1, h2, h3⟩ := h y hy
    obtain ⟨a, b⟩ := stay y (h1.below hb2) (h3.lt (h1.below hb2))
    exact ⟨a, h2, b⟩
  · obtain rfl : y = x := by simpa using hy
    have hH : HasM (fun k => B ≤ k ∧ v.ownBlock ≠ some k) y := hG.mono (fun k hk => ⟨by omega, fun e => by have := (ho.lt k e).2; omega⟩)
    obtain ⟨a, b⟩ := stay y hx (hH.lt hx)
    exact ⟨a, hr, b⟩
/-- What records gives. -/
structure RecsIs (w w' : World) (e : Ending) (N : Nat) : Prop where
  out : ∃ (v : Value) (ms : List MV), e = .returned v ∧ ms.length = N ∧ w'.ownsRow w.heap.size 53 19 v ms.length (mcells ms) ∧ RecsAt w' w.heap.size v ms ∧ Below w.heap.size w w' ∧ ∀ x ∈ ms, U8M x.bl x.pl x.cbl x.cpl x.ds
set_option maxRecDepth 100000 in
set_option maxHeartbeats 4000000 in
theorem records_any (rs : List Rt) (sa : Option Addr) (n cap : Nat) (w : World) (hn : n = rs.length) (hr : RawTs w sa rs) :
    Calls Try.prog 10 #[.slice sa n cap] w fun e w' => RecsIs w w' e (min rs.length 24) := by
  subst hn
  generalize hN : min rs.length 24 = N
  have HN : Hid (min rs.length 24 = N) := hN
  clear hN
  have hsm := hr.small
  obtain ⟨i, hi, hz0, hz1, hz2⟩ := info_parts infoMsg
  go_enter Try.func10, Try.ntmps10
  go_wp2_with fail
  go_loopw [4, 3] (fun j v wr => ∃ (k : Nat) (ms : List MV) (tv : Value), k ≤ rs.length ∧ k ≤ 24 ∧ j = .int .i64 k ∧ tv = v ∧ Hid (ms.length = k) ∧ wr.ownsRow w.heap.size 53 19 tv k (mcells ms) ∧ RecsAt wr w.heap.size tv ms ∧ Below w.heap.size w wr ∧ Hid (∀ x ∈ ms, U8M x.bl x.pl x.cbl x.cpl x.ds)) (fun j _ _ => rs.length - (intOf j).toNat)
  case atStart => exact ⟨0, [], _, Nat.zero_le _, by omega, rfl, rfl, rfl, World.ownsRow_nil _ _ _ _, (fun x hx => by cases hx), Below.refl _ _, (show ∀ _, _ from fun x hx => by cases hx)⟩
  case round =>
    obtain ⟨k, ms, tv, hk, hk24, rfl, rfl, hml, ho, ha, hb, hU8⟩ := hrel
    by_cases hlt : k < rs.length
    · by_cases h24 : k < 24
      · have hpw := hr.below hb
        obtain ⟨sb, so, rfl, hc⟩ : ∃ sb so, sa = some ⟨sb, so, none⟩ ∧ ∀ j (h : j < rs.length), wr.cell? ⟨sb, so + j * 5, none⟩ = some (.int .i64 (rs[j]).ki) ∧ wr.cell? ⟨sb, so + j * 5 + 1, none⟩ = some (.int .i64 (rs[j]).a) ∧ wr.cell? ⟨sb, so + j * 5 + 2, none⟩ = some (.int .i64 (rs[j]).b) ∧ wr.cell? ⟨sb, so + j * 5 + 3, none⟩ = some (.int .i64 (rs[j]).c) ∧ wr.cell? ⟨sb, so + j * 5 + 4, none⟩ = some (.slice (rs[j]).sa (rs[j]).ss.length (rs[j]).cap) := by
          rcases hpw.cells with h | h
          · rw [h] at hlt; simp at hlt
          · exact h
        obtain ⟨c0, c1, c2, c3, c4⟩ := hc k hlt
        have hI := hpw.each (rs[k]) (List.getElem_mem hlt)
        have hltI : (k : Int) < rs.length := by omega
        have h24I : (k : Int) < 24 := by omega
        clear hc hpw
        generalize rs[k] = r at *
        have HH : Hid (I64 r.ki ∧ I64 r.a ∧ I64 r.b ∧ I64 r.c ∧ TextsAt wr r.sa r.cap r.ss) := hI
        clear hI
        go_wp2_with fail
        refine (record_anyU r.ki r.a r.b r.c r.sa r.cap r.ss wr HH.out.1 HH.out.2.1 HH.out.2.2.1 HH.out.2.2.2.1 HH.out.2.2.2.2).mono ?_
        rintro e w2 ⟨x, he, hM, hI, hG, hb2, hu8⟩
        have hU9 : Hid (∀ y ∈ ms ++ [x], U8M y.bl y.pl y.cbl y.cpl y.ds) := by
          show ∀ _, _
          intro y hy
          rcases List.mem_append.1 hy with hy | hy
          · exact hU8.out y hy
          · obtain rfl : y = x := by simpa using hy
            exact hu8
        clear hu8
        subst he
        dsimp only
        clear c0 c1 c2 c3 c4
        have hB2 := hb.trans (hb2.mono hb.size)
        have qz := heap_alloc_new w2 (.cells #[.int .i64 0, .int .i64 0, .int .i64 0, .int .i64 0, .int .i64 0, .slice none 0 0, .int .i64 0, .int .i64 0, .slice none 0 0, .slice none 0 0, .int .i64 0, .int .i64 0, .slice none 0 0, .int .i64 0, .int .i64 0, .slice none 0 0, .slice none 0 0, .slice none 0 0, .int .i64 0] 53)
        have hA1 : Below w2.heap.size w2 ((w2.alloc (.cells #[.int .i64 0, .int .i64 0, .int .i64 0, .int .i64 0, .int .i64 0, .slice none 0 0, .int .i64 0, .int .i64 0, .slice none 0 0, .slice none 0 0, .int .i64 0, .int .i64 0, .slice none 0 0, .int .i64 0, .int .i64 0, .slice none 0 0, .slice none 0 0, .slice none 0 0, .int .i64 0] 53)).setRow w2.heap.size #[.int .i64 x.m.fr, .int .i64 x.m.tt, .int .i64 x.m.ki, .int .i64 x.m.bau, .int .i64 x.m.bnu, .slice x.m.bta x.m.btn x.m.btc, .int .i64 x.m.hau, .int .i64 x.m.hrd, .slice x.m.hba x.m.hbn x.m.hbc, .slice x.m.hpa x.m.hpn x.m.hpc, .int .i64 x.m.sau, .int .i64 x.m.srd, .slice x.m.sda x.m.sdn x.m.sdc, .int .i64 x.m.cau, .int .i64 x.m.crd, .slice x.m.cba x.m.cbn x.m.cbc, .slice x.m.cpa x.m.cpn x.m.cpc, .slice x.m.cva x.m.cvn x.m.cvc, .int .i64 x.m.ro]) := laid_row w2 #[.int .i64 0, .int .i64 0, .int .i64 0, .int .i64 0, .int .i64 0, .slice none 0 0, .int .i64 0, .int .i64 0, .slice none 0 0, .slice none 0 0, .int .i64 0, .int .i64 0, .slice none 0 0, .int .i64 0, .int .i64 0, .slice none 0 0, .slice none 0 0, .slice none 0 0, .int .i64 0] #[.int .i64 x.m.fr, .int .i64 x.m.tt, .int .i64 x.m.ki, .int .i64 x.m.bau, .int .i64 x.m.bnu, .slice x.m.bta x.m.btn x.m.btc, .int .i64 x.m.hau, .int .i64 x.m.hrd, .slice x.m.hba x.m.hbn x.m.hbc, .slice x.m.hpa x.m.hpn x.m.hpc, .int .i64 x.m.sau, .int .i64 x.m.srd, .slice x.m.sda x.m.sdn x.m.sdc, .int .i64 x.m.cau, .int .i64 x.m.crd, .slice x.m.cba x.m.cbn x.m.cbc, .slice x.m.cpa x.m.cpn x.m.cpc, .slice x.m.cva x.m.cvn x.m.cvc, .int .i64 x.m.ro] 53
        have qN := setRow_heap _ _ _ #[.int .i64 x.m.fr, .int .i64 x.m.tt, .int .i64 x.m.ki, .int .i64 x.m.bau, .int .i64 x.m.bnu, .slice x.m.bta x.m.btn x.m.btc, .int .i64 x.m.hau, .int .i64 x.m.hrd, .slice x.m.hba x.m.hbn x.m.hbc, .slice x.m.hpa x.m.hpn x.m.hpc, .int .i64 x.m.sau, .int .i64 x.m.srd, .slice x.m.sda x.m.sdn x.m.sdc, .int .i64 x.m.cau, .int .i64 x.m.crd, .slice x.m.cba x.m.cbn x.m.cbc, .slice x.m.cpa x.m.cpn x.m.cpc, .slice x.m.cva x.m.cvn x.m.cvc, .int .i64 x.m.ro] _ _ qz
        have hb3 := hb2.trans (hA1.mono hb2.size)
        have hB3 := hb.trans (hb3.mono hb.size)
        have ho3 := owns_keep ho hb3
        have HX : Hid (MAt ((w2.alloc (.cells #[.int .i64 0, .int .i64 0, .int .i64 0, .int .i64 0, .int .i64 0, .slice none 0 0, .int .i64 0, .int .i64 0, .slice none 0 0, .slice none 0 0, .int .i64 0, .int .i64 0, .slice none 0 0, .int .i64 0, .int .i64 0, .slice none 0 0, .slice none 0 0, .slice none 0 0, .int .i64 0] 53)).setRow w2.heap.size #[.int .i64 x.m.fr, .int .i64 x.m.tt, .int .i64 x.m.ki, .int .i64 x.m.bau, .int .i64 x.m.bnu, .slice x.m.bta x.m.btn x.m.btc, .int .i64 x.m.hau, .int .i64 x.m.hrd, .slice x.m.hba x.m.hbn x.m.hbc, .slice x.m.hpa x.m.hpn x.m.hpc, .int .i64 x.m.sau, .int .i64 x.m.srd, .slice x.m.sda x.m.sdn x.m.sdc, .int .i64 x.m.cau, .int .i64 x.m.crd, .slice x.m.cba x.m.cbn x.m.cbc, .slice x.m.cpa x.m.cpn x.m.cpc, .slice x.m.cva x.m.cvn x.m.cvc, .int .i64 x.m.ro]) x ∧ IsRec x ∧ HasM (fun k => wr.heap.size ≤ k) x) := ⟨hM.below hA1, hI, hG⟩
        have HA : Hid (RecsAt wr w.heap.size tv ms) := ha
        clear hM hI hG ha
        go_upto_region 6 with (refine wpList_store_row rfl 53 _ _ rfl w2.heap.size #[.int .i64 x.m.fr, .int .i64 x.m.tt, .int .i64 x.m.ki, .int .i64 x.m.bau, .int .i64 x.m.bnu, .slice x.m.bta x.m.btn x.m.btc, .int .i64 x.m.hau, .int .i64 x.m.hrd, .slice x.m.hba x.m.hbn x.m.hbc, .slice x.m.hpa x.m.hpn x.m.hpc, .int .i64 x.m.sau, .int .i64 x.m.srd, .slice x.m.sda x.m.sdn x.m.sdc, .int .i64 x.m.cau, .int .i64 x.m.crd, .slice x.m.cba x.m.cbn x.m.cbc, .slice x.m.cpa x.m.cpn x.m.cpc, .slice x.m.cva x.m.cvn x.m.cvc, .int .i64 x.m.ro] rfl rfl 53 _ qz sMsg' rfl (by simp [Value.oneCell']) ?_)
        generalize (w2.alloc (.cells #[.int .i64 0, .int .i64 0, .int .i64 0, .int .i64 0, .int .i64 0, .slice none 0 0, .int .i64 0, .int .i64 0, .slice none 0 0, .slice none 0 0, .int .i64 0, .int .i64 0, .slice none 0 0, .int .i64 0, .int .i64 0, .slice none 0 0, .slice none 0 0, .slice none 0 0, .int .i64 0] 53)).setRow w2.heap.size #[.int .i64 x.m.fr, .int .i64 x.m.tt, .int .i64 x.m.ki, .int .i64 x.m.bau, .int .i64 x.m.bnu, .slice x.m.bta x.m.btn x.m.btc, .int .i64 x.m.hau, .int .i64 x.m.hrd, .slice x.m.hba x.m.hbn x.m.hbc, .slice x.m.hpa x.m.hpn x.m.hpc, .int .i64 x.m.sau, .int .i64 x.m.srd, .slice x.m.sda x.m.sdn x.m.sdc, .int .i64 x.m.cau, .int .i64 x.m.crd, .slice x.m.cba x.m.cbn x.m.cbc, .slice x.m.cpa x.m.cpn x.m.cpc, .slice x.m.cva x.m.cvn x.m.cvc, .int .i64 x.m.ro] = W2 at hA1 qN hb3 hB3 ho3 HX ⊢
        clear qz hA1
        go_wp2_with (first | refine wpList_load_row rfl 53 _ rfl w2.heap.size rfl 53 #[.int .i64 x.m.fr, .int .i64 x.m.tt, .int .i64 x.m.ki, .int .i64 x.m.bau, .int .i64 x.m.bnu, .slice x.m.bta x.m.btn x.m.btc, .int .i64 x.m.hau, .int .i64 x.m.hrd, .slice x.m.hba x.m.hbn x.m.hbc, .slice x.m.hpa x.m.hpn x.m.hpc, .int .i64 x.m.sau, .int .i64 x.m.srd, .slice x.m.sda x.m.sdn x.m.sdc, .int .i64 x.m.cau, .int .i64 x.m.crd, .slice x.m.cba x.m.cbn x.m.cbc, .slice x.m.cpa x.m.cpn x.m.cpc, .slice x.m.cva x.m.cvn x.m.cvc, .int .i64 x.m.ro] (0, 0) _ qN Try.underlying53 rfl sMsg' ?_ | (at_builtin; go_loud (refine wpList_append_own_at _ rfl _ _ 26 rfl w.heap.size 53 i (.agg #[.int .i64 0, .int .i64 0, .int .i64 0, .int .i64 0, .int .i64 0, .slice none 0 0, .int .i64 0, .int .i64 0, .slice none 0 0, .slice none 0 0, .int .i64 0, .int .i64 0, .slice none 0 0, .int .i64 0, .int .i64 0, .slice none 0 0, .slice none 0 0, .slice none 0 0, .int .i64 0]) 19 264 Try.underlying26 hi hz0 hz1 hz2 rfl (by decide) _ k _ rfl (World.ownsRow.alloc ho3 _) ⟨W2.heap.size, 0, none⟩ 1 1 (mcell x.m) rfl (mcell_len x.m) (cells_new _ _ _) (mcell_one x.m) (by unfold maxLen; omega) (by omega) (le_alloc hB3.size _) ?_; intro v5 w5 ho5 hg5 _ hat5)))
        have G5 := Grew.of hg5 hat5
        have hR5 := HA.out.more hb.size ho hb3 HX.out.1 HX.out.2.1 HX.out.2.2 G5
        have hb5 := Below.grown (hB3.alloc hB3.size (.cells (mcell x.m).toArray 53)) hg5 (le_alloc hB3.size _) (fun q e => (ho.lt q e).1)
        have ho6 : w5.ownsRow w.heap.size 53 19 v5 (k + 1) (mcells (ms ++ [x])) := by rw [mcells_snoc]; exact ho5
        go_roundw
        case rel =>
          have hR : ∃ (k' : Nat) (ms' : List MV) (tv' : Value), k' ≤ rs.length ∧ k' ≤ 24 ∧ (Value.int .i64 ((k : Int) + 1)) = .int .i64 k' ∧ tv' = v5 ∧ Hid (ms'.length = k') ∧ w5.ownsRow w.heap.size 53 19 tv' k' (mcells ms') ∧ RecsAt w5 w.heap.size tv' ms' ∧ Below w.heap.size w w5 ∧ Hid (∀ x ∈ ms', U8M x.bl x.pl x.cbl x.cpl x.ds) :=
            ⟨k + 1, ms ++ [x], v5, by omega, by omega, by go_num, rfl, (show (ms ++ [x]).length = k + 1 by rw [List.length_append, hml.out]; rfl), ho6, hR5, hb5, hU9⟩
          first | exact hR | ((repeat apply Exists.intro); exact ⟨hR, rfl⟩)
        case measure => simp [intOf]; omega
      · obtain rfl : k = 24 := by omega
        have hltI : ((24 : Nat) : Int) < rs.length := by omega
        have hltJ : (24 : Int) < rs.length := by omega
        have hE : Hid (ms.length = N) := by show _ = _; rw [hml.out, ← HN.out, Nat.min_eq_right (by omega)]
        go_wp2_with fail
        go_ret
        exact ⟨_, ms, rfl, hE.out, by rw [hml.out]; exact ho, ha, hb, hU8.out⟩
    · obtain rfl : k = rs.length := by omega
      have hltI : ¬ (rs.length : Int) < rs.length := by omega
      have hE : Hid (ms.length = N) := by show _ = _; rw [hml.out, ← HN.out, Nat.min_eq_left (by omega)]
      go_wp2_with fail
      go_ret
      exact ⟨_, ms, rfl, hE.out, by rw [hml.out]; exact ho, ha, hb, hU8.out⟩
end Go.Proofs.Ytldlknmpkoebbaa

namespace Go.Proofs.Ytldlknmpkoebbaa
open Go.RowKit

set_option maxRecDepth 100000 in
theorem step_append_on {ops : Array Oper} {o : Oper} {a : Act} {w : World} {K : Act → World → Prop} {Q : Exit → Act → World → Prop} {E : Prop}
    (hw : Region.wanted o (yielded ops a.tmps) = true) (d : Nat) (hd : o.dst = some d) (s x : Operand) (t : TypeId) (ho : o.op = .call { callee := .builtin .append, args := #[s, x], argTypes := #[t, t] })
    (base : Nat) (e : TypeId) (i : TypeInfo) (z : Value) (size bytes : Nat) (ht : Try.prog.underlying t = some (.slice e)) (hi : Try.prog.info? e = some i) (hz : i.zero = some z)
    (hsize : i.size = size) (hby : i.bytes = bytes) (hzs : z.cells.size = size) (hsz : 0 < size)
    (v : Value) (n : Nat) (xs : List Value) (hs : a.eval s = v) (hown : w.ownsRow base e size v n xs)
    (ad : Addr) (m c : Nat) (news : List Value) (hx : a.eval x = .slice (some ad) m c) (hl : news.length = m * size) (hnews : ∀ j u, news[j]? = some u → w.cell? (ad.add j) = some u) (h1 : ∀ u ∈ news, u.oneCell' = true)
    (h63 : n + m ≤ maxLen) (hbytes : (n + m) * bytes ≤ 140737488355328) (hbase : base ≤ w.heap.size)
    (hK : ∀ v' w', w'.ownsRow base e size v' (n + m) (xs ++ news) → Grew w v w' v' → K (a.put (some d) v') w') :
    if Region.wanted o (yielded ops a.tmps) = true then Oper.wp Try.prog o a w K Q else E := by
  rw [if_pos hw]
  obtain ⟨v', w', hr, h2, h3, _, h5⟩ := run_append_own_at (P := Try.prog) w base t o.type e i z size bytes ht hi hz hsize hby hzs hsz v n xs hown ad m c news hl hnews h1 h63 hbytes hbase
  unfold Oper.wp execOp
  simp only [ho, resolve, invoke, builtin, Sem.run_bind, Sem.run_pure, Result.andThen_ok, List.map_toArray, List.map_cons, List.map_nil, hs, hx, hr]
  rw [Oper.upon_value, hd]
  exact hK v' w' h2 (Grew.of h3 h5)
set_option maxRecDepth 100000 in
/-- An operation behind a guard that is no call, and that turns the world. -/
theorem step_run_on {ops : Array Oper} {o : Oper} {a : Act} {w : World} {K : Act → World → Prop} {Q : Exit → Act → World → Prop} {E : Prop}
    (hw : Region.wanted o (yielded ops a.tmps) = true) (d : Nat) (hd : o.dst = some d) (v : Value) (w' : World) (hr : (execOp a.eval o).run Try.prog w = .ok (.value v) w') (hK : K (a.put (some d) v) w') :
    if Region.wanted o (yielded ops a.tmps) = true then Oper.wp Try.prog o a w K Q else E := by
  rw [if_pos hw]
  unfold Oper.wp
  rw [hr, Oper.upon_value, hd]
  exact hK
set_option maxRecDepth 100000 in
/-- A store as the operation that comes up. -/
theorem step_store {ops : Array Oper} {o : Oper} {a : Act} {w : World} {K : Act → World → Prop} {Q : Exit → Act → World → Prop} {E : Prop}
    (hg : o.guard = none) (hd : o.dst = none) (w' : World) (hr : (execOp a.eval o).run Try.prog w = .ok .skip w') (hK : K a w') :
    if Region.wanted o (yielded ops a.tmps) = true then Oper.wp Try.prog o a w K Q else E := by
  have hw : Region.wanted o (yielded ops a.tmps) = true := by simp [Region.wanted, hg]
  rw [if_pos hw]
  unfold Oper.wp
  rw [hr, Oper.upon_skip, hd]
  exact hK
end Go.Proofs.Ytldlknmpkoebbaa

namespace Go.Proofs.Ytldlknmpkoebbaa
open Go.RowKit

/-- P8.3: records as they stand on a tape. -/
def tapeB (ms : List MV) : List Int := ms.flatMap MV.onTape
set_option maxRecDepth 100000 in
theorem tapeB_snoc (ms : List MV) (x : MV) : tapeB (ms ++ [x]) = tapeB ms ++ x.onTape := by simp [tapeB]
set_option maxRecDepth 100000 in
theorem tapeB_le (ms : List MV) (h : ∀ x ∈ ms, x.bytes.length ≤ 323) : (tapeB ms).length ≤ 325 * ms.length := by
  induction ms with
  | nil => simp [tapeB]
  | cons x l ih =>
    have h1 := h x (by simp)
    have h2 := ih (fun y hy => h y (by simp [hy]))
    have h3 := onTape_len x
    simp only [tapeB, List.flatMap_cons, List.length_append, List.length_cons] at h2 ⊢
    omega
/-- Messages in a row. -/
def MsRow (w : World) (sa : Option Addr) (ms : List MV) : Prop := ms = [] ∨ ∃ sb so, sa = some ⟨sb, so, none⟩ ∧ ∀ (k : Nat) (hk : k < ms.length), w.rangeAt sb (so + k * 19) (mcell (ms[k]).m)
set_option maxRecDepth 100000 in
theorem range_lt {w : World} {b o : Nat} {m : Msg} (h : w.rangeAt b o (mcell m)) : b < w.heap.size := by
  have h0 := h 0 (.int .i64 m.fr) rfl
  exact block_lt_of_cell h0
set_option maxRecDepth 100000 in
theorem range_below {w w' : World} {b o : Nat} {m : Msg} (h : w.rangeAt b o (mcell m)) (hb : Below w.heap.size w w') : w'.rangeAt b o (mcell m) := fun j v hv => (hb.cell (p := ⟨b, o + j, none⟩) (range_lt h)).trans (h j v hv)
set_option maxRecDepth 100000 in
theorem range_far {w : World} {b o g j : Nat} {v : Value} {m : Msg} (h : w.rangeAt b o (mcell m)) (hne : b ≠ g) : (w.setCell ⟨g, j, none⟩ v).rangeAt b o (mcell m) := fun i u hu => (World.cell?_setCell_far _ _ _ _ (show g ≠ b from fun e => hne e.symm)).trans (h i u hu)
set_option maxRecDepth 100000 in
theorem MsRow.below {w w' : World} {sa : Option Addr} {ms : List MV} (h : MsRow w sa ms) (hb : Below w.heap.size w w') : MsRow w' sa ms := by
  rcases h with h | ⟨sb, so, e, h⟩
  · exact .inl h
  · exact .inr ⟨sb, so, e, fun k hk => range_below (h k hk) hb⟩
set_option maxRecDepth 100000 in
theorem msRow_of_owns {w : World} {base n : Nat} {v : Value} {ms : List MV} (h : w.ownsRow base 53 19 v n (mcells ms)) : ∃ sa cap, v = .slice sa n cap ∧ n = ms.length ∧ n ≤ cap ∧ cap ≤ maxLen ∧ MsRow w sa ms := by
  have hl : n = ms.length := by have := h.1; rw [mcells_len] at this; omega
  rcases h.2 with ⟨rfl, hn⟩ | ⟨g, cap, cur, rfl, hr⟩
  · exact ⟨none, 0, by rw [hn], hl, by omega, by decide, .inl (List.eq_nil_of_length_eq_zero (by omega))⟩
  · refine ⟨some ⟨g, 0, none⟩, cap, rfl, hl, ?_, ?_, .inr ⟨g, 0, rfl, fun k hk j v hv => ?_⟩⟩
    · obtain ⟨_, _, h1, _⟩ := hr; exact h1
    · obtain ⟨_, _, _, h2, _⟩ := hr; exact h2
    · have hj : j < 19 := by
        rcases Nat.lt_or_ge j 19 with g | g
        · exact g
        · rw [List.getElem?_eq_none (by rw [mcell_len]; exact g)] at hv; cases hv
      have hlt : k * 19 + j < n * 19 := by omega
      rw [show 0 + k * 19 + j = k * 19 + j by omega, World.ownsRow.cellAt h (k * 19 + j) hlt, mcells_at ms k hk j hj, hv]
set_option maxRecDepth 100000 in
set_option maxHeartbeats 8000000 in
theorem taped_any (ms : List MV) (sa : Option Addr) (n cap : Nat) (w : World) (hn : n = ms.length) (h24 : ms.length ≤ 100) (hR : MsRow w sa ms) (hM : ∀ x ∈ ms, MAt w x ∧ IsRec x) :
    Calls Try.prog 12 #[.slice sa n cap] w fun e w' => ∃ ta tc, e = .returned (.tuple #[.agg #[.slice ta (tapeB ms).length tc, .int .i64 0], .bool true]) ∧ SliceAt w' ta tc (tapeB ms) ∧ (∀ sb so, ta = some ⟨sb, so, none⟩ → w.heap.size ≤ sb) ∧ Below w.heap.size w w' := by
  subst hn
  have HL : Hid (∀ j, (tapeB (ms.take j)).length ≤ 32500) := by
    show ∀ _, _
    intro j
    have := tapeB_le (ms.take j) (fun x hx => ((hM x (List.mem_of_mem_take hx)).2.len (hM x (List.mem_of_mem_take hx)).1.dn).2)
    rw [List.length_take] at this
    omega
  have hA : Below w.heap.size w ((w.alloc (.cells #[.slice none 0 0, .int .i64 0] 24)).alloc (.cells #[.slice none 0 0, .int .i64 0] 24)) := ((Below.refl _ _).alloc (Nat.le_refl _) _).alloc (by simp) _
  have q0 := heap_alloc2_old w (.cells #[.slice none 0 0, .int .i64 0] 24) (.cells #[.slice none 0 0, .int .i64 0] 24)
  have q1 := heap_alloc2_new w (.cells #[.slice none 0 0, .int .i64 0] 24) (.cells #[.slice none 0 0, .int .i64 0] 24)
  have HM : Hid (∀ x ∈ ms, MAt w x ∧ IsRec x) := hM
  clear hM
  go_enter Try.func12, Try.ntmps12
  go_upto_region 3 with fail
  generalize (w.alloc (.cells #[.slice none 0 0, .int .i64 0] 24)).alloc (.cells #[.slice none 0 0, .int .i64 0] 24) = W0 at hA q0 q1 ⊢
  go_loopw [5] (fun j wr => ∃ (k : Nat) (ta : Option Addr) (tc : Nat) (D : List Int), k ≤ ms.length ∧ j = .int .i64 k ∧ Hid (D = tapeB (ms.take k)) ∧ Below w.heap.size w wr ∧ wr.heap[w.heap.size]? = some (.cells #[.slice none 0 0, .int .i64 0] 24 (0, 0)) ∧ wr.heap[w.heap.size + 1]? = some (.cells #[.slice ta D.length tc, .int .i64 0] 24 (0, 0)) ∧ SliceAt wr ta tc D ∧ (∀ sb so, ta = some ⟨sb, so, none⟩ → w.heap.size + 2 ≤ sb)) (fun j _ => ms.length - (intOf j).toNat)
  case atStart => exact ⟨0, none, 0, [], Nat.zero_le _, rfl, rfl, hA, q0, q1, nilSliceT _, (fun _ _ e => by cases e)⟩
  case round =>
    clear hA q0 q1
    obtain ⟨k, ta, tc, D, hk, rfl, hD, hb, r0, r1, hS, hf⟩ := hrel
    have hsz : w.heap.size + 1 < wr.heap.size := lt_of_heap r1
    by_cases hlt : k < ms.length
    · have hltI : (k : Int) < ms.length := by omega
      obtain ⟨sb, so, rfl, hrow⟩ : ∃ sb so, sa = some ⟨sb, so, none⟩ ∧ ∀ (k : Nat) (hk : k < ms.length), wr.rangeAt sb (so + k * 19) (mcell (ms[k]).m) := by
        rcases hR.below hb with h | h
        · rw [h] at hlt; simp at hlt
        · exact h
      have hrg := hrow k hlt
      have hxm := HM.out (ms[k]) (List.getElem_mem hlt)
      have hst : Hid (D ++ (ms[k]).onTape = tapeB (ms.take (k + 1))) := by
        show _ = _
        rw [List.take_succ_eq_append_getElem hlt, tapeB_snoc, hD.out]
      have hDl : D.length ≤ 32500 := by rw [hD.out]; exact HL.out k
      have hlen := hxm.2.len hxm.1.dn
      have hol := onTape_len (ms[k])
      clear hrow
      generalize ms[k] = x at *
      have HAp : Hid (∀ W : World, Below wr.heap.size wr W → Calls Try.prog 14 #[.agg #[.slice ta D.length tc, .int .i64 0], .agg #[.int .i64 x.m.fr, .int .i64 x.m.tt, .int .i64 x.m.ki, .int .i64 x.m.bau, .int .i64 x.m.bnu, .slice x.m.bta x.m.btn x.m.btc, .int .i64 x.m.hau, .int .i64 x.m.hrd, .slice x.m.hba x.m.hbn x.m.hbc, .slice x.m.hpa x.m.hpn x.m.hpc, .int .i64 x.m.sau, .int .i64 x.m.srd, .slice x.m.sda x.m.sdn x.m.sdc, .int .i64 x.m.cau, .int .i64 x.m.crd, .slice x.m.cba x.m.cbn x.m.cbc, .slice x.m.cpa x.m.cpn x.m.cpc, .slice x.m.cva x.m.cvn x.m.cvc, .int .i64 x.m.ro]] W fun e w' => TapeIs W w' e (D ++ x.onTape) 0 0) := by
        show ∀ _, _
        intro W hW
        exact rec_append x D ta _ tc 0 W rfl (hS.below hW) (hxm.1.below (hb.trans (hW.mono hb.size))) hxm.2 ⟨by omega, by omega⟩ (by omega)
      have hXl : D.length < (D ++ x.onTape).length := by rw [List.length_append, hol]; omega
      clear hxm hlen hol hDl hD HM HL
      generalize D ++ x.onTape = XS at *
      have HXl : Hid (D.length < XS.length) := hXl
      clear hXl
      go_upto_region 5 with fail
      go_cut [6, 7] from 15 to 35 (fun p q wx => ∃ b xe xce, p = .pointer (some ⟨b, 0, none⟩) ∧ q = .int .i64 0 ∧ wr.heap.size ≤ b ∧ Below wr.heap.size wr wx ∧ wx.heap[b]? = some (.cells #[.slice xe XS.length xce, .int .i64 0] 24 (0, 0)) ∧ wx.heap[w.heap.size + 1]? = some (.cells #[.slice ta D.length tc, .int .i64 0] 24 (0, 0)) ∧ wx.heap[w.heap.size]? = some (.cells #[.slice none 0 0, .int .i64 0] 24 (0, 0)) ∧ SliceAt wx xe xce XS ∧ (∀ sb so, xe = some ⟨sb, so, none⟩ → wr.heap.size ≤ sb))
      case first =>
          have hV0 : Below wr.heap.size wr wr.drew := (Below.refl _ _).drew
          have qT0 : wr.drew.heap[w.heap.size + 1]? = some (.cells #[.slice ta D.length tc, .int .i64 0] 24 (0, 0)) := r1
          have q00 : wr.drew.heap[w.heap.size]? = some (.cells #[.slice none 0 0, .int .i64 0] 24 (0, 0)) := r0
          have qR0 : wr.drew.rangeAt sb (so + k * 19) (mcell x.m) := hrg
          refine wp_region_held_drew (S := fun w' => w'.cell? ⟨(w.heap.size + 1), 0, none⟩ = some (.slice ta D.length tc) ∧ w'.cell? ⟨(w.heap.size + 1), 1, none⟩ = some (.int .i64 0) ∧ w'.rangeAt sb (so + k * 19) (mcell x.m)) (by kernel_rfl) ⟨cells_at qT0 0 _ rfl, cells_at qT0 1 _ rfl, qR0⟩ (fun hHeld => ?_)
          generalize wr.drew = V0 at hV0 qT0 q00 qR0 hHeld ⊢
          refine take_dst (i := 0) (d := 15) (v := .agg #[.slice ta D.length tc, .int .i64 0]) rfl rfl (by kernel_rfl) (by kernel_rfl) (by kernel_rfl) (fun _ _ _ h => h) (Or.inl ⟨by rfl, ?_⟩) hHeld ?_
          · (intro w0 hSw; (try dsimp only at hSw); go_simp)
          simp only [Act.put, List.setIfInBounds_toArray, List.set_cons_zero, List.set_cons_succ]
          refine take_dst (i := 1) (d := 16) (v := .slice (some ⟨sb, so, none⟩) ms.length cap) rfl rfl (by kernel_rfl) (by kernel_rfl) (by kernel_rfl) (fun _ _ _ h => h) (Or.inl ⟨by rfl, ?_⟩) hHeld ?_
          · (intro w0 hSw; (try dsimp only at hSw); go_simp)
          simp only [Act.put, List.setIfInBounds_toArray, List.set_cons_zero, List.set_cons_succ]
          refine take_dst (i := 2) (d := 17) (v := .int .i64 (k : Int)) rfl rfl (by kernel_rfl) (by kernel_rfl) (by kernel_rfl) (fun _ _ _ h => h) (Or.inl ⟨by rfl, ?_⟩) hHeld ?_
          · (intro w0 hSw; (try dsimp only at hSw); go_simp)
          simp only [Act.put, List.setIfInBounds_toArray, List.set_cons_zero, List.set_cons_succ]
          refine take_dst (i := 3) (d := 18) (v := .pointer (some ⟨sb, so + k * 19, none⟩)) rfl rfl (by kernel_rfl) (by kernel_rfl) (by kernel_rfl) (fun _ _ _ h => h) (Or.inl ⟨by rfl, ?_⟩) hHeld ?_
          · (intro w0 hSw; (try dsimp only at hSw); go_simp)
          simp only [Act.put, List.setIfInBounds_toArray, List.set_cons_zero, List.set_cons_succ]
          refine take_dst (i := 4) (d := 19) (v := .agg #[.int .i64 x.m.fr, .int .i64 x.m.tt, .int .i64 x.m.ki, .int .i64 x.m.bau, .int .i64 x.m.bnu, .slice x.m.bta x.m.btn x.m.btc, .int .i64 x.m.hau, .int .i64 x.m.hrd, .slice x.m.hba x.m.hbn x.m.hbc, .slice x.m.hpa x.m.hpn x.m.hpc, .int .i64 x.m.sau, .int .i64 x.m.srd, .slice x.m.sda x.m.sdn x.m.sdc, .int .i64 x.m.cau, .int .i64 x.m.crd, .slice x.m.cba x.m.cbn x.m.cbc, .slice x.m.cpa x.m.cpn x.m.cpc, .slice x.m.cva x.m.cvn x.m.cvc, .int .i64 x.m.ro]) rfl rfl (by kernel_rfl) (by kernel_rfl) (by kernel_rfl) (fun _ _ _ h => h) (yieldsIf_load_mid rfl 53 _ rfl sb (so + k * 19) rfl (mcell x.m) _ (fun w0 h => h.2.2) Try.underlying53 rfl sMsg') hHeld ?_
          simp only [Act.put, List.setIfInBounds_toArray, List.set_cons_zero, List.set_cons_succ]
          refine wpAnyH_ready (rs := [5, 9]) (by kernel_rfl) (by simp) (AllReadyH.cons rfl (fun K hK => ?_) (AllReadyH.cons rfl (fun K hK => ?_) AllReadyH.nil))
          · skip
            refine step_calls_dst rfl 20 rfl 14 [.tmp 15, .tmp 19] #[24, 53] rfl [.agg #[.slice ta D.length tc, .int .i64 0], .agg #[.int .i64 x.m.fr, .int .i64 x.m.tt, .int .i64 x.m.ki, .int .i64 x.m.bau, .int .i64 x.m.bnu, .slice x.m.bta x.m.btn x.m.btc, .int .i64 x.m.hau, .int .i64 x.m.hrd, .slice x.m.hba x.m.hbn x.m.hbc, .slice x.m.hpa x.m.hpn x.m.hpc, .int .i64 x.m.sau, .int .i64 x.m.srd, .slice x.m.sda x.m.sdn x.m.sdc, .int .i64 x.m.cau, .int .i64 x.m.crd, .slice x.m.cba x.m.cbn x.m.cbc, .slice x.m.cpa x.m.cpn x.m.cpc, .slice x.m.cva x.m.cvn x.m.cvc, .int .i64 x.m.ro]] rfl (enters_of Try.func14 (by kernel_rfl) rfl) (fun v w' => (∃ xe xce, v = .tuple #[.agg #[.slice xe XS.length xce, .int .i64 0], .int .i64 0] ∧ SliceAt w' xe xce XS ∧ (∀ sb so, xe = some ⟨sb, so, none⟩ → V0.heap.size ≤ sb ∧ sb < w'.heap.size)) ∧ Below V0.heap.size V0 w') ((HAp.out V0 hV0).mono (fun e w2 h => by obtain ⟨xe, xce, he, h1, h2, h3⟩ := h; exact ⟨_, he, ⟨xe, xce, rfl, h1, h2⟩, h3⟩)) ?_
            rintro v V1 ⟨⟨xe, xce, rfl, hse, hfe⟩, hb_1⟩
            have hle_1 := hV0.size
            have qT_2 := (hb_1.block _ (lt_of_heap qT0)).trans qT0
            have q0_2 := (hb_1.block _ (lt_of_heap q00)).trans q00
            have qR_2 := range_below qR0 hb_1
            have hB_2 := hV0.trans (hb_1.mono hV0.size)
            have hfw_1 : ∀ sb so, xe = some ⟨sb, so, none⟩ → wr.heap.size ≤ sb := fun sb so e => by have := (hfe sb so e).1; omega
            refine hK.out _ _ ⟨cells_at qT_2 0 _ rfl, cells_at qT_2 1 _ rfl, qR_2⟩ (fun hHeld => ?_)
            simp only [Act.put, List.setIfInBounds_toArray, List.set_cons_zero, List.set_cons_succ]
            refine take_dst (i := 6) (d := 14) (v := .tuple #[.agg #[.slice xe XS.length xce, .int .i64 0], .int .i64 0]) rfl rfl (by kernel_rfl) (by kernel_rfl) (by kernel_rfl) (fun _ _ _ h => h) (Or.inl ⟨by rfl, ?_⟩) hHeld ?_
            · (intro w0 hSw; (try dsimp only at hSw); go_simp)
            simp only [Act.put, List.setIfInBounds_toArray, List.set_cons_zero, List.set_cons_succ]
            refine take_dst (i := 7) (d := 21) (v := .agg #[.slice xe XS.length xce, .int .i64 0]) rfl rfl (by kernel_rfl) (by kernel_rfl) (by kernel_rfl) (fun _ _ _ h => h) (Or.inl ⟨by rfl, ?_⟩) hHeld ?_
            · (intro w0 hSw; (try dsimp only at hSw); go_simp)
            simp only [Act.put, List.setIfInBounds_toArray, List.set_cons_zero, List.set_cons_succ]
            refine take_dst (i := 8) (d := 22) (v := .int .i64 0) rfl rfl (by kernel_rfl) (by kernel_rfl) (by kernel_rfl) (fun _ _ _ h => h) (Or.inl ⟨by rfl, ?_⟩) hHeld ?_
            · (intro w0 hSw; (try dsimp only at hSw); go_simp)
            simp only [Act.put, List.setIfInBounds_toArray, List.set_cons_zero, List.set_cons_succ]
            refine wpAnyH_ready (rs := [9]) (by kernel_rfl) (by simp) (AllReadyH.cons rfl (fun K hK => ?_) AllReadyH.nil)
            refine step_run rfl 6 rfl (.pointer (some ⟨V1.heap.size, 0, none⟩)) (V1.alloc (.cells #[.slice none 0 0, .int .i64 0] 24)) (by go_simp) ?_
            have hA_3 : Below V1.heap.size V1 (V1.alloc (.cells #[.slice none 0 0, .int .i64 0] 24)) := (Below.refl _ _).alloc (Nat.le_refl _) _
            have qN_3 := heap_alloc_new V1 (.cells #[.slice none 0 0, .int .i64 0] 24)
            have hnT_3 := Nat.ne_of_lt (lt_of_heap qT_2)
            have hn0_3 := Nat.ne_of_lt (lt_of_heap q0_2)
            have hnR_3 := Nat.ne_of_lt (range_lt qR_2)
            have hl_3 : wr.heap.size ≤ V1.heap.size := hB_2.size
            have hx_3 : ∀ sb so, xe = some ⟨sb, so, none⟩ → sb ≠ V1.heap.size := fun sb so e => Nat.ne_of_lt (hfe sb so e).2
            have qT_4 := (hA_3.block _ (lt_of_heap qT_2)).trans qT_2
            have q0_4 := (hA_3.block _ (lt_of_heap q0_2)).trans q0_2
            have qR_4 := range_below qR_2 hA_3
            have hB_4 := hB_2.trans (hA_3.mono hB_2.size)
            have hX_4 := hse.below hA_3
            refine hK.out _ _ ⟨cells_at qT_4 0 _ rfl, cells_at qT_4 1 _ rfl, qR_4⟩ (fun hHeld => ?_)
            simp only [Act.put, List.setIfInBounds_toArray, List.set_cons_zero, List.set_cons_succ]
            generalize V1.alloc (.cells #[.slice none 0 0, .int .i64 0] 24) = V3 at hA_3 qN_3 qT_4 q0_4 qR_4 hB_4 hX_4 hHeld ⊢
            clear hA_3
            generalize V1.heap.size = b3 at qN_3 hnT_3 hn0_3 hnR_3 hl_3 hx_3 ⊢
            have z0_5 := cells_at qN_3 0 _ rfl
            have y0_5 := frozen_at qN_3 0
            have z1_5 := cells_at qN_3 1 _ rfl
            have y1_5 := frozen_at qN_3 1
            refine wpAnyH_ready (rs := [10]) (by kernel_rfl) (by simp) (AllReadyH.cons rfl (fun K hK => ?_) AllReadyH.nil)
            have hxB : ∀ sb so, xe = some ⟨sb, so, none⟩ → b3 ≠ sb := fun sb so e => by have := hx_3 sb so e; omega
            refine step_store rfl rfl ((V3.setCell ⟨b3, 0, none⟩ (.slice xe XS.length xce)).setCell ⟨b3, 1, none⟩ (.int .i64 0)) (by go_simp) ?_
            have qB_5 : ((V3.setCell ⟨b3, 0, none⟩ (.slice xe XS.length xce)).setCell ⟨b3, 1, none⟩ (.int .i64 0)).heap[b3]? = some (.cells #[.slice xe XS.length xce, .int .i64 0] 24 (0, 0)) := by simpa using (heap_setCell_same _ _ 1 _ _ (.int .i64 0) (heap_setCell_same _ _ 0 _ _ (.slice xe XS.length xce) qN_3))
            have qT_5 := (heap_far (j := 1) (v := .int .i64 0) (heap_far (j := 0) (v := .slice xe XS.length xce) qT_4 hnT_3) hnT_3)
            have q0_5 := (heap_far (j := 1) (v := .int .i64 0) (heap_far (j := 0) (v := .slice xe XS.length xce) q0_4 hn0_3) hn0_3)
            have qR_5 := (range_far (j := 1) (v := .int .i64 0) (range_far (j := 0) (v := .slice xe XS.length xce) qR_4 hnR_3) hnR_3)
            have hB_5 := ((hB_4.setCell (p := ⟨b3, 0, none⟩) hl_3 (.slice xe XS.length xce)).setCell (p := ⟨b3, 1, none⟩) hl_3 (.int .i64 0))
            have hX_5 := ((hX_4.setCellT b3 0 (.slice xe XS.length xce) hxB).setCellT b3 1 (.int .i64 0) hxB)
            refine hK.out _ _ ⟨cells_at qT_5 0 _ rfl, cells_at qT_5 1 _ rfl, qR_5⟩ (fun hHeld => ?_)
            generalize ((V3.setCell ⟨b3, 0, none⟩ (.slice xe XS.length xce)).setCell ⟨b3, 1, none⟩ (.int .i64 0)) = VE at qB_5 qT_5 q0_5 qR_5 hB_5 hX_5 hHeld ⊢
            refine take_dst (i := 11) (d := 7) (v := .int .i64 0) rfl rfl (by kernel_rfl) (by kernel_rfl) (by kernel_rfl) (fun _ _ _ h => h) (Or.inl ⟨by rfl, ?_⟩) hHeld ?_
            · (intro w0 hSw; (try dsimp only at hSw); go_simp)
            simp only [Act.put, List.setIfInBounds_toArray, List.set_cons_zero, List.set_cons_succ]
            refine wpAnyH_done (by kernel_rfl) ?_ _
            go_wp2_with fail
            go_meet
            case rel => exact ⟨b3, xe, xce, rfl, rfl, hl_3, hB_5, qB_5, qT_5, q0_5, hX_5, hfw_1⟩
          · skip
            refine step_run rfl 6 rfl (.pointer (some ⟨V0.heap.size, 0, none⟩)) (V0.alloc (.cells #[.slice none 0 0, .int .i64 0] 24)) (by go_simp) ?_
            have hA_6 : Below V0.heap.size V0 (V0.alloc (.cells #[.slice none 0 0, .int .i64 0] 24)) := (Below.refl _ _).alloc (Nat.le_refl _) _
            have qN_6 := heap_alloc_new V0 (.cells #[.slice none 0 0, .int .i64 0] 24)
            have hnT_6 := Nat.ne_of_lt (lt_of_heap qT0)
            have hn0_6 := Nat.ne_of_lt (lt_of_heap q00)
            have hnR_6 := Nat.ne_of_lt (range_lt qR0)
            have hl_6 : wr.heap.size ≤ V0.heap.size := hV0.size
            have qT_7 := (hA_6.block _ (lt_of_heap qT0)).trans qT0
            have q0_7 := (hA_6.block _ (lt_of_heap q00)).trans q00
            have qR_7 := range_below qR0 hA_6
            have hB_7 := hV0.trans (hA_6.mono hV0.size)
            refine hK.out _ _ ⟨cells_at qT_7 0 _ rfl, cells_at qT_7 1 _ rfl, qR_7⟩ (fun hHeld => ?_)
            simp only [Act.put, List.setIfInBounds_toArray, List.set_cons_zero, List.set_cons_succ]
            generalize V0.alloc (.cells #[.slice none 0 0, .int .i64 0] 24) = V6 at hA_6 qN_6 qT_7 q0_7 qR_7 hB_7 hHeld ⊢
            clear hA_6
            generalize V0.heap.size = b6 at qN_6 hnT_6 hn0_6 hnR_6 hl_6 ⊢
            refine wpAnyH_ready (rs := [5]) (by kernel_rfl) (by simp) (AllReadyH.cons rfl (fun K hK => ?_) AllReadyH.nil)
            refine step_calls_dst rfl 20 rfl 14 [.tmp 15, .tmp 19] #[24, 53] rfl [.agg #[.slice ta D.length tc, .int .i64 0], .agg #[.int .i64 x.m.fr, .int .i64 x.m.tt, .int .i64 x.m.ki, .int .i64 x.m.bau, .int .i64 x.m.bnu, .slice x.m.bta x.m.btn x.m.btc, .int .i64 x.m.hau, .int .i64 x.m.hrd, .slice x.m.hba x.m.hbn x.m.hbc, .slice x.m.hpa x.m.hpn x.m.hpc, .int .i64 x.m.sau, .int .i64 x.m.srd, .slice x.m.sda x.m.sdn x.m.sdc, .int .i64 x.m.cau, .int .i64 x.m.crd, .slice x.m.cba x.m.cbn x.m.cbc, .slice x.m.cpa x.m.cpn x.m.cpc, .slice x.m.cva x.m.cvn x.m.cvc, .int .i64 x.m.ro]] rfl (enters_of Try.func14 (by kernel_rfl) rfl) (fun v w' => (∃ xe xce, v = .tuple #[.agg #[.slice xe XS.length xce, .int .i64 0], .int .i64 0] ∧ SliceAt w' xe xce XS ∧ (∀ sb so, xe = some ⟨sb, so, none⟩ → V6.heap.size ≤ sb ∧ sb < w'.heap.size)) ∧ Below V6.heap.size V6 w') ((HAp.out V6 hB_7).mono (fun e w2 h => by obtain ⟨xe, xce, he, h1, h2, h3⟩ := h; exact ⟨_, he, ⟨xe, xce, rfl, h1, h2⟩, h3⟩)) ?_
            rintro v V8 ⟨⟨xe, xce, rfl, hse, hfe⟩, hb_8⟩
            have hle_8 := hB_7.size
            have hbe_8 := lt_of_heap qN_6
            have qT_9 := (hb_8.block _ (lt_of_heap qT_7)).trans qT_7
            have q0_9 := (hb_8.block _ (lt_of_heap q0_7)).trans q0_7
            have qB_9 := (hb_8.block _ (lt_of_heap qN_6)).trans qN_6
            have qR_9 := range_below qR_7 hb_8
            have hB_9 := hB_7.trans (hb_8.mono hB_7.size)
            have hfw_8 : ∀ sb so, xe = some ⟨sb, so, none⟩ → wr.heap.size ≤ sb := fun sb so e => by have := (hfe sb so e).1; omega
            have hx_8 : ∀ sb so, xe = some ⟨sb, so, none⟩ → sb ≠ b6 := fun sb so e => by have := (hfe sb so e).1; omega
            refine hK.out _ _ ⟨cells_at qT_9 0 _ rfl, cells_at qT_9 1 _ rfl, qR_9⟩ (fun hHeld => ?_)
            simp only [Act.put, List.setIfInBounds_toArray, List.set_cons_zero, List.set_cons_succ]
            refine take_dst (i := 6) (d := 14) (v := .tuple #[.agg #[.slice xe XS.length xce, .int .i64 0], .int .i64 0]) rfl rfl (by kernel_rfl) (by kernel_rfl) (by kernel_rfl) (fun _ _ _ h => h) (Or.inl ⟨by rfl, ?_⟩) hHeld ?_
            · (intro w0 hSw; (try dsimp only at hSw); go_simp)
            simp only [Act.put, List.setIfInBounds_toArray, List.set_cons_zero, List.set_cons_succ]
            refine take_dst (i := 7) (d := 21) (v := .agg #[.slice xe XS.length xce, .int .i64 0]) rfl rfl (by kernel_rfl) (by kernel_rfl) (by kernel_rfl) (fun _ _ _ h => h) (Or.inl ⟨by rfl, ?_⟩) hHeld ?_
            · (intro w0 hSw; (try dsimp only at hSw); go_simp)
            simp only [Act.put, List.setIfInBounds_toArray, List.set_cons_zero, List.set_cons_succ]
            refine take_dst (i := 8) (d := 22) (v := .int .i64 0) rfl rfl (by kernel_rfl) (by kernel_rfl) (by kernel_rfl) (fun _ _ _ h => h) (Or.inl ⟨by rfl, ?_⟩) hHeld ?_
            · (intro w0 hSw; (try dsimp only at hSw); go_simp)
            simp only [Act.put, List.setIfInBounds_toArray, List.set_cons_zero, List.set_cons_succ]
            have z0_10 := cells_at qB_9 0 _ rfl
            have y0_10 := frozen_at qB_9 0
            have z1_10 := cells_at qB_9 1 _ rfl
            have y1_10 := frozen_at qB_9 1
            refine wpAnyH_ready (rs := [10]) (by kernel_rfl) (by simp) (AllReadyH.cons rfl (fun K hK => ?_) AllReadyH.nil)
            have hxB : ∀ sb so, xe = some ⟨sb, so, none⟩ → b6 ≠ sb := fun sb so e => by have := hx_8 sb so e; omega
            refine step_store rfl rfl ((V8.setCell ⟨b6, 0, none⟩ (.slice xe XS.length xce)).setCell ⟨b6, 1, none⟩ (.int .i64 0)) (by go_simp) ?_
            have qB_10 : ((V8.setCell ⟨b6, 0, none⟩ (.slice xe XS.length xce)).setCell ⟨b6, 1, none⟩ (.int .i64 0)).heap[b6]? = some (.cells #[.slice xe XS.length xce, .int .i64 0] 24 (0, 0)) := by simpa using (heap_setCell_same _ _ 1 _ _ (.int .i64 0) (heap_setCell_same _ _ 0 _ _ (.slice xe XS.length xce) qB_9))
            have qT_10 := (heap_far (j := 1) (v := .int .i64 0) (heap_far (j := 0) (v := .slice xe XS.length xce) qT_9 hnT_6) hnT_6)
            have q0_10 := (heap_far (j := 1) (v := .int .i64 0) (heap_far (j := 0) (v := .slice xe XS.length xce) q0_9 hn0_6) hn0_6)
            have qR_10 := (range_far (j := 1) (v := .int .i64 0) (range_far (j := 0) (v := .slice xe XS.length xce) qR_9 hnR_6) hnR_6)
            have hB_10 := ((hB_9.setCell (p := ⟨b6, 0, none⟩) hl_6 (.slice xe XS.length xce)).setCell (p := ⟨b6, 1, none⟩) hl_6 (.int .i64 0))
            have hX_10 := ((hse.setCellT b6 0 (.slice xe XS.length xce) hxB).setCellT b6 1 (.int .i64 0) hxB)
            refine hK.out _ _ ⟨cells_at qT_10 0 _ rfl, cells_at qT_10 1 _ rfl, qR_10⟩ (fun hHeld => ?_)
            generalize ((V8.setCell ⟨b6, 0, none⟩ (.slice xe XS.length xce)).setCell ⟨b6, 1, none⟩ (.int .i64 0)) = VE at qB_10 qT_10 q0_10 qR_10 hB_10 hX_10 hHeld ⊢
            refine take_dst (i := 11) (d := 7) (v := .int .i64 0) rfl rfl (by kernel_rfl) (by kernel_rfl) (by kernel_rfl) (fun _ _ _ h => h) (Or.inl ⟨by rfl, ?_⟩) hHeld ?_
            · (intro w0 hSw; (try dsimp only at hSw); go_simp)
            simp only [Act.put, List.setIfInBounds_toArray, List.set_cons_zero, List.set_cons_succ]
            refine wpAnyH_done (by kernel_rfl) ?_ _
            go_wp2_with fail
            go_meet
            case rel => exact ⟨b6, xe, xce, rfl, rfl, hl_6, hB_10, qB_10, qT_10, q0_10, hX_10, hfw_8⟩
      case rest =>
        obtain ⟨b, xe, xce, rfl, rfl, hbb, hbc, u2, uT, u0, hx2, hfx⟩ := hcut
        have hBc := hb.trans (hbc.mono hb.size)
        have hXlI : ¬ (XS.length : Int) ≤ D.length := by have := HXl.out; omega
        have b0 : wc.cell? ⟨b, 0, none⟩ = some (.slice xe XS.length xce) := cells_at u2 0 _ rfl
        have b1 : wc.cell? ⟨b, 1, none⟩ = some (.int .i64 0) := cells_at u2 1 _ rfl
        have c0 : wc.cell? ⟨w.heap.size + 1, 0, none⟩ = some (.slice ta D.length tc) := cells_at uT 0 _ rfl
        have c1 : wc.cell? ⟨w.heap.size + 1, 1, none⟩ = some (.int .i64 0) := cells_at uT 1 _ rfl
        have f0 := frozen_at uT 0
        have f1 := frozen_at uT 1
        clear HAp
        go_wp2_with fail
        go_roundw
        case rel =>
          have e1 : ∀ sb so, xe = some ⟨sb, so, none⟩ → w.heap.size + 1 ≠ sb := fun sb so e => by have := hfx sb so e; omega
          exact ⟨k + 1, xe, xce, XS, by omega, by go_num, hst, (hBc.setCell (by simp) _).setCell (by simp) _, heap_far (heap_far u0 (by omega)) (by omega), by simpa using heap_setCell_same _ _ 1 _ _ (.int .i64 0) (heap_setCell_same _ _ 0 _ _ (.slice xe XS.length xce) uT), (hx2.setCellT _ _ _ e1).setCellT _ _ _ e1, fun sb so e => by have := hfx sb so e; omega⟩
        case measure => simp [intOf]; omega
    · obtain rfl : k = ms.length := by omega
      have hltI : ¬ (ms.length : Int) < ms.length := by omega
      rw [List.take_of_length_le (Nat.le_refl _)] at hD
      have c0 : wr.cell? ⟨w.heap.size + 1, 0, none⟩ = some (.slice ta D.length tc) := cells_at r1 0 _ rfl
      have c1 : wr.cell? ⟨w.heap.size + 1, 1, none⟩ = some (.int .i64 0) := cells_at r1 1 _ rfl
      have d0 : wr.cell? ⟨w.heap.size, 0, none⟩ = some (.slice none 0 0) := cells_at r0 0 _ rfl
      have d1 : wr.cell? ⟨w.heap.size, 1, none⟩ = some (.int .i64 0) := cells_at r0 1 _ rfl
      have f0 := frozen_at r0 0
      have f1 := frozen_at r0 1
      go_wp2_with fail
      rw [← hD.out]
      refine bodyPost_ret (v := .tuple #[.agg #[.slice ta D.length tc, .int .i64 0], .bool true]) (by simp [results, Try.results12, go_sem, d0, d1]) rfl ⟨ta, tc, rfl, ?_, ?_, ?_⟩
      · exact (hS.setCellT _ _ _ (fun sb so e => by have := hf sb so e; omega)).setCellT _ _ _ (fun sb so e => by have := hf sb so e; omega)
      · intro sb so e
        have := hf sb so e
        omega
      · exact (hb.setCell (by simp) _).setCell (by simp) _
end Go.Proofs.Ytldlknmpkoebbaa

namespace Go.Proofs.Ytldlknmpkoebbaa
open Go.RowKit

/-- What Recover answers. -/
structure RcvIs (w w' : World) (e : Ending) (bs : List Int) (sy : Int) : Prop where
  out : (tapeOk bs.length sy = false ∧ e = .returned (.tuple #[.slice none 0 0, .agg #[.slice none 0 0, .int .i64 0], .int .i64 12])) ∨ (tapeOk bs.length sy = true ∧ ∃ (v : Value) (ys : List MV) (r : List Int) (ra : Option Addr) (rc : Nat), bs = tapeB ys ++ r ∧ noRec r ∧ w'.ownsRow w.heap.size 53 19 v ys.length (mcells ys) ∧ RecsAt w' w.heap.size v ys ∧ SliceAt w' ra rc (tapeB ys) ∧ (∀ sb so, ra = some ⟨sb, so, none⟩ → w.heap.size ≤ sb ∧ sb < w'.heap.size) ∧ e = .returned (.tuple #[v, .agg #[.slice ra (tapeB ys).length rc, .int .i64 (min sy (tapeB ys).length)], .int .i64 0]))
  below : Below w.heap.size w w'
set_option maxRecDepth 100000 in
theorem tapeB_two (ys : List MV) (h : ∀ y ∈ ys, 2 ≤ y.onTape.length) : 2 * ys.length ≤ (tapeB ys).length := by
  induction ys with
  | nil => simp [tapeB]
  | cons y l ih =>
    have h1 := h y (by simp)
    have h2 := ih (fun z hz => h z (by simp [hz]))
    simp only [tapeB, List.flatMap_cons, List.length_append, List.length_cons] at h2 ⊢
    omega
set_option maxRecDepth 100000 in
theorem onTape_two (y : MV) : 2 ≤ y.onTape.length := by simp [MV.onTape]
set_option maxRecDepth 100000 in
theorem owns_down {w : World} {base base' n : Nat} {e : TypeId} {s : Nat} {v : Value} {xs : List Value} (h : w.ownsRow base e s v n xs) (hb : base' ≤ base) : w.ownsRow base' e s v n xs := by
  obtain ⟨h1, h2⟩ := h
  refine ⟨h1, ?_⟩
  rcases h2 with h2 | ⟨g, cap, cur, rfl, hg, hc, r⟩
  · exact .inl h2
  · exact .inr ⟨g, cap, cur, rfl, by omega, hc, r⟩
set_option maxRecDepth 100000 in
theorem RecsAt.mono {w : World} {B C : Nat} {v : Value} {ms : List MV} (h : RecsAt w B v ms) (hc : C ≤ B) : RecsAt w C v ms := fun x hx => ⟨(h x hx).1, (h x hx).2.1, (h x hx).2.2.mono (fun _ hk => ⟨Nat.le_trans hc hk.1, hk.2⟩)⟩
set_option maxRecDepth 100000 in
theorem RecsAt.far {w w' : World} {B b : Nat} {v : Value} {ms : List MV} (h : RecsAt w B v ms) (hb : b < B) (hk : ∀ k, k ≠ b → w'.heap[k]? = w.heap[k]?) : RecsAt w' B v ms := fun x hx => ⟨(h x hx).1.stays (G := fun k => B ≤ k ∧ v.ownBlock ≠ some k) (fun k g => hk k (by have := g.1; omega)) (h x hx).2.2, (h x hx).2.1, (h x hx).2.2⟩
set_option maxRecDepth 100000 in
set_option maxHeartbeats 4000000 in
theorem recover_any (bs : List Int) (sa : Option Addr) (n cap : Nat) (sy : Int) (w : World) (hn : n = bs.length) (hs : SliceAt w sa cap bs) (hu : U8s bs) (hl : bs.length ≤ 140737488355328) :
    Calls Try.prog 6 #[.agg #[.slice sa n cap, .int .i64 sy]] w fun e w' => RcvIs w w' e bs sy := by
  subst hn
  obtain ⟨i, hi, hz0, hz1, hz2⟩ := info_parts infoMsg
  have hA : Below w.heap.size w ((w.alloc (.cells #[.slice sa bs.length cap, .int .i64 sy] 24)).alloc (.cells #[.slice none 0 0, .int .i64 0] 24)) := ((Below.refl _ _).alloc (Nat.le_refl _) _).alloc (by simp) _
  have r0 := heap_alloc2_old w (.cells #[.slice sa bs.length cap, .int .i64 sy] 24) (.cells #[.slice none 0 0, .int .i64 0] 24)
  have r1 := heap_alloc2_new w (.cells #[.slice sa bs.length cap, .int .i64 sy] 24) (.cells #[.slice none 0 0, .int .i64 0] 24)
  have hM := mayBe_any sa bs.length cap sy ((w.alloc (.cells #[.slice sa bs.length cap, .int .i64 sy] 24)).alloc (.cells #[.slice none 0 0, .int .i64 0] 24)) hl
  cases ht : tapeOk bs.length sy with
  | false =>
    have hF : Hid (tapeOk bs.length sy = false) := ht
    rw [ht] at hM
    clear ht hs hu
    go_enter Try.func6, Try.ntmps6
    go_wp2_with fail
    generalize (w.alloc (.cells #[.slice sa bs.length cap, .int .i64 sy] 24)).alloc (.cells #[.slice none 0 0, .int .i64 0] 24) = W0 at hA r0 r1 hM ⊢
    refine hM.mono ?_
    rintro e w1 ⟨he, hb1⟩
    subst he
    dsimp only
    have p1 := (hb1.block _ (lt_of_heap r1)).trans r1
    have d0 : w1.cell? ⟨w.heap.size + 1, 0, none⟩ = some (.slice none 0 0) := cells_at p1 0 _ rfl
    have d1 : w1.cell? ⟨w.heap.size + 1, 1, none⟩ = some (.int .i64 0) := cells_at p1 1 _ rfl
    have f0 := frozen_at p1 0
    have f1 := frozen_at p1 1
    go_wp2_with fail
    refine bodyPost_ret (v := .tuple #[.slice none 0 0, .agg #[.slice none 0 0, .int .i64 0], .int .i64 12]) (by simp [results, Try.results6, go_sem, d0, d1]) rfl ⟨.inl ⟨hF.out, rfl⟩, ?_⟩
    exact ((hA.trans (hb1.mono hA.size)).setCell (by simp) _).setCell (by simp) _
  | true =>
    have hF : Hid (tapeOk bs.length sy = true) := ht
    obtain ⟨t1, t2, t3⟩ := tapeOk_iff.1 ht
    have h4 : bs.length ≤ 400000 := by omega
    rw [ht] at hM
    clear ht
    have Hs : Hid _ := hs
    have Hu : Hid _ := hu
    clear hs hu
    go_enter Try.func6, Try.ntmps6
    go_wp2_with fail
    generalize (w.alloc (.cells #[.slice sa bs.length cap, .int .i64 sy] 24)).alloc (.cells #[.slice none 0 0, .int .i64 0] 24) = W0 at hA r0 r1 hM ⊢
    refine hM.mono ?_
    rintro e w1 ⟨he, hb1⟩
    subst he
    dsimp only
    have hB1 := hA.trans (hb1.mono hA.size)
    have p0 := (hb1.block _ (lt_of_heap r0)).trans r0
    have p1 := (hb1.block _ (lt_of_heap r1)).trans r1
    clear hM hA r0 r1 hb1 t1
    have hlt1 : w.heap.size + 1 < w1.heap.size := lt_of_heap p1
    go_wp2_with fail
    go_loopw [5, 6] (fun v j wr => ∃ (k : Nat) (ys : List MV) (r : List Int) (tv : Value), j = .int .i64 k ∧ tv = v ∧ k ≤ bs.length ∧ Hid (bs = tapeB ys ++ r ∧ k = (tapeB ys).length) ∧ wr.ownsRow w1.heap.size 53 19 tv ys.length (mcells ys) ∧ RecsAt wr w1.heap.size tv ys ∧ wr.heap[w.heap.size]? = some (.cells #[.slice sa bs.length cap, .int .i64 sy] 24 (0, 0)) ∧ wr.heap[w.heap.size + 1]? = some (.cells #[.slice none 0 0, .int .i64 0] 24 (0, 0)) ∧ Below w1.heap.size w1 wr) (fun _ j _ => bs.length - (intOf j).toNat)
    case atStart => exact ⟨0, [], bs, _, rfl, rfl, Nat.zero_le _, ⟨rfl, rfl⟩, World.ownsRow_nil _ _ _ _, (fun x hx => by cases hx), p0, p1, Below.refl _ _⟩
    case round =>
      obtain ⟨k, ys, r, tv, rfl, rfl, hk, hbk, ho, ha, q0, q1, hb⟩ := hrel
      have hWB := hB1.trans (hb.mono hB1.size)
      have hsr := Hs.out.below hWB
      have hle := hsr.le
      have hdr : Hid (bs.drop k = r) := by
        show _ = _
        rw [hbk.out.1, hbk.out.2, List.drop_left]
      have hrl : Hid (r.length = bs.length - k) := by show _ = _; rw [← hdr.out, List.length_drop]
      have hur : Hid (U8s r) := by
        show U8s r
        intro z hz
        exact Hu.out z (by rw [hbk.out.1]; exact List.mem_append_right _ hz)
      have hysl : Hid (ys.length ≤ 200000) := by
        show _ ≤ _
        have h1 := tapeB_two ys (fun y _ => onTape_two y)
        have h2 := hbk.out.2
        omega
      have HA : Hid (RecsAt wr w1.heap.size tv ys) := ha
      clear ha
      obtain ⟨sx, cx, hFi, hcase⟩ : ∃ sx cx, Hid (Calls Try.prog 19 #[.slice sx (bs.length - k) cx] wr fun e w' => FirstIs wr w' e r) ∧ ((k = cap ∧ bs.length = cap ∧ sx = sa ∧ cx = 0) ∨ (∃ sb so, sa = some ⟨sb, so, none⟩ ∧ k < cap ∧ sx = some ⟨sb, so + k, none⟩ ∧ cx = cap - k)) := by
        have hrl' := hrl.out
        by_cases hkc : k = cap
        · refine ⟨sa, 0, ?_, .inl ⟨hkc, by omega, rfl, rfl⟩⟩
          show Calls _ _ _ _ _
          have hr0 : r = [] := List.length_eq_zero_iff.1 (by omega)
          refine first_any r _ _ 0 wr (by omega) ?_ hur.out (by omega)
          have := hsr.takeR 0 0 (Nat.zero_le _) (Nat.le_refl _) (Nat.zero_le _) (fun _ => rfl)
          rw [hr0]
          simpa using this
        · rcases hsr.some with h | ⟨sb, so, h⟩
          · omega
          · subst h
            refine ⟨some ⟨sb, so + k, none⟩, cap - k, ?_, .inr ⟨sb, so, rfl, by omega, rfl, rfl⟩⟩
            show Calls _ _ _ _ _
            refine first_any r _ _ (cap - k) wr (by omega) ?_ hur.out (by omega)
            rw [← hdr.out]
            exact cut_slice hsr hk
      have c0 : wr.cell? ⟨w.heap.size, 0, none⟩ = some (.slice sa bs.length cap) := cells_at q0 0 _ rfl
      have c1 : wr.cell? ⟨w.heap.size, 1, none⟩ = some (.int .i64 sy) := cells_at q0 1 _ rfl
      have HS : Hid (∀ (W : World) (mm : Int), Below w.heap.size w W → Calls Try.prog 20 #[.agg #[.slice sa bs.length cap, .int .i64 sy], .int .i64 (k : Int), .int .i64 mm] W fun e w' => ∃ ra rc, e = .returned (.agg #[.slice ra k rc, .int .i64 mm]) ∧ SliceAt w' ra rc (bs.take k) ∧ (∀ sb so, ra = some ⟨sb, so, none⟩ → W.heap.size ≤ sb ∧ sb < w'.heap.size) ∧ Below W.heap.size W w') := by
        show ∀ _, _
        intro W mm hW
        exact tapeCut_any bs sa _ cap k sy mm W rfl (Hs.out.below hW) hk hl
      have HT : Hid (bs.take k = tapeB ys) := by show _ = _; rw [hbk.out.1, hbk.out.2, List.take_left]
      have kI : (k : Int) ≤ bs.length := by omega
      have k0 : (0 : Int) ≤ k := by omega
      clear hsr
      go_upto_region 5 with fail
      go_cut [7, 8] from 13 to 37 (fun p v wx => ∃ A : Nat, p = .pointer (some ⟨A, 0, none⟩) ∧ wr.heap.size ≤ A ∧ Below wr.heap.size wr wx ∧ ((v = .int .i64 0 ∧ Hid (noRec r)) ∨ ∃ (y : MV) (r2 : List Int), v = .int .i64 (y.onTape.length : Int) ∧ Hid (r = y.onTape ++ r2 ∧ MAt wx y ∧ IsRec y ∧ HasM (fun q => wr.heap.size ≤ q) y) ∧ wx.heap[A]? = some (.cells #[.int .i64 y.m.fr, .int .i64 y.m.tt, .int .i64 y.m.ki, .int .i64 y.m.bau, .int .i64 y.m.bnu, .slice y.m.bta y.m.btn y.m.btc, .int .i64 y.m.hau, .int .i64 y.m.hrd, .slice y.m.hba y.m.hbn y.m.hbc, .slice y.m.hpa y.m.hpn y.m.hpc, .int .i64 y.m.sau, .int .i64 y.m.srd, .slice y.m.sda y.m.sdn y.m.sdc, .int .i64 y.m.cau, .int .i64 y.m.crd, .slice y.m.cba y.m.cbn y.m.cbc, .slice y.m.cpa y.m.cpn y.m.cpc, .slice y.m.cva y.m.cvn y.m.cvc, .int .i64 y.m.ro] 53 (0, 0))))
      case first =>
        clear HS HT hdr hrl hur hysl hbk HA Hs Hu ho q1 hF t2 t3 hl
        rcases hcase with ⟨hkc, hbc, rfl, rfl⟩ | ⟨sb, so, rfl, hkc, rfl, rfl⟩
        · have hcI : (bs.length : Int) ≤ cap := by omega
          have hF0 : Hid (Calls Try.prog 19 #[.slice sx 0 0] wr fun e w' => FirstIs wr w' e r) := by
            have h := hFi.out
            rw [show bs.length - k = 0 by omega] at h
            exact h
          subst hkc
          clear hbc hFi
          go_wp2_with fail
          refine hF0.out.mono ?_
          rintro e w2 hF2
          have hb2 := hF2.below
          have hB2 := hWB.trans (hb2.mono hWB.size)
          rcases hF2.out with ⟨he, hNo⟩ | ⟨y, r2, hr2, hY, hH, hI, he⟩
          · clear hF2
            subst he
            dsimp only
            have qz := heap_alloc_new w2 (.cells #[.int .i64 0, .int .i64 0, .int .i64 0, .int .i64 0, .int .i64 0, .slice none 0 0, .int .i64 0, .int .i64 0, .slice none 0 0, .slice none 0 0, .int .i64 0, .int .i64 0, .slice none 0 0, .int .i64 0, .int .i64 0, .slice none 0 0, .slice none 0 0, .slice none 0 0, .int .i64 0] 53)
            have hA4 : Below w2.heap.size w2 ((w2.alloc (.cells #[.int .i64 0, .int .i64 0, .int .i64 0, .int .i64 0, .int .i64 0, .slice none 0 0, .int .i64 0, .int .i64 0, .slice none 0 0, .slice none 0 0, .int .i64 0, .int .i64 0, .slice none 0 0, .int .i64 0, .int .i64 0, .slice none 0 0, .slice none 0 0, .slice none 0 0, .int .i64 0] 53)).setRow w2.heap.size #[.int .i64 0, .int .i64 0, .int .i64 0, .int .i64 0, .int .i64 0, .slice none 0 0, .int .i64 0, .int .i64 0, .slice none 0 0, .slice none 0 0, .int .i64 0, .int .i64 0, .slice none 0 0, .int .i64 0, .int .i64 0, .slice none 0 0, .slice none 0 0, .slice none 0 0, .int .i64 0]) := laid_row w2 #[.int .i64 0, .int .i64 0, .int .i64 0, .int .i64 0, .int .i64 0, .slice none 0 0, .int .i64 0, .int .i64 0, .slice none 0 0, .slice none 0 0, .int .i64 0, .int .i64 0, .slice none 0 0, .int .i64 0, .int .i64 0, .slice none 0 0, .slice none 0 0, .slice none 0 0, .int .i64 0] #[.int .i64 0, .int .i64 0, .int .i64 0, .int .i64 0, .int .i64 0, .slice none 0 0, .int .i64 0, .int .i64 0, .slice none 0 0, .slice none 0 0, .int .i64 0, .int .i64 0, .slice none 0 0, .int .i64 0, .int .i64 0, .slice none 0 0, .slice none 0 0, .slice none 0 0, .int .i64 0] 53
            have hB4 := hb2.trans (hA4.mono hb2.size)
            have hN : Hid (noRec r) := hNo
            clear hNo
            go_wp2_with (refine wpList_store_row rfl 53 _ _ rfl w2.heap.size #[.int .i64 0, .int .i64 0, .int .i64 0, .int .i64 0, .int .i64 0, .slice none 0 0, .int .i64 0, .int .i64 0, .slice none 0 0, .slice none 0 0, .int .i64 0, .int .i64 0, .slice none 0 0, .int .i64 0, .int .i64 0, .slice none 0 0, .slice none 0 0, .slice none 0 0, .int .i64 0] rfl rfl 53 _ qz sMsg' rfl (by simp [Value.oneCell']) ?_)
            go_meet
            case rel => exact ⟨w2.heap.size, rfl, hb2.size, hB4, .inl ⟨rfl, hN⟩⟩
          · clear hF2
            subst he
            dsimp only
            have qz := heap_alloc_new w2 (.cells #[.int .i64 0, .int .i64 0, .int .i64 0, .int .i64 0, .int .i64 0, .slice none 0 0, .int .i64 0, .int .i64 0, .slice none 0 0, .slice none 0 0, .int .i64 0, .int .i64 0, .slice none 0 0, .int .i64 0, .int .i64 0, .slice none 0 0, .slice none 0 0, .slice none 0 0, .int .i64 0] 53)
            have hA4 : Below w2.heap.size w2 ((w2.alloc (.cells #[.int .i64 0, .int .i64 0, .int .i64 0, .int .i64 0, .int .i64 0, .slice none 0 0, .int .i64 0, .int .i64 0, .slice none 0 0, .slice none 0 0, .int .i64 0, .int .i64 0, .slice none 0 0, .int .i64 0, .int .i64 0, .slice none 0 0, .slice none 0 0, .slice none 0 0, .int .i64 0] 53)).setRow w2.heap.size #[.int .i64 y.m.fr, .int .i64 y.m.tt, .int .i64 y.m.ki, .int .i64 y.m.bau, .int .i64 y.m.bnu, .slice y.m.bta y.m.btn y.m.btc, .int .i64 y.m.hau, .int .i64 y.m.hrd, .slice y.m.hba y.m.hbn y.m.hbc, .slice y.m.hpa y.m.hpn y.m.hpc, .int .i64 y.m.sau, .int .i64 y.m.srd, .slice y.m.sda y.m.sdn y.m.sdc, .int .i64 y.m.cau, .int .i64 y.m.crd, .slice y.m.cba y.m.cbn y.m.cbc, .slice y.m.cpa y.m.cpn y.m.cpc, .slice y.m.cva y.m.cvn y.m.cvc, .int .i64 y.m.ro]) := laid_row w2 #[.int .i64 0, .int .i64 0, .int .i64 0, .int .i64 0, .int .i64 0, .slice none 0 0, .int .i64 0, .int .i64 0, .slice none 0 0, .slice none 0 0, .int .i64 0, .int .i64 0, .slice none 0 0, .int .i64 0, .int .i64 0, .slice none 0 0, .slice none 0 0, .slice none 0 0, .int .i64 0] #[.int .i64 y.m.fr, .int .i64 y.m.tt, .int .i64 y.m.ki, .int .i64 y.m.bau, .int .i64 y.m.bnu, .slice y.m.bta y.m.btn y.m.btc, .int .i64 y.m.hau, .int .i64 y.m.hrd, .slice y.m.hba y.m.hbn y.m.hbc, .slice y.m.hpa y.m.hpn y.m.hpc, .int .i64 y.m.sau, .int .i64 y.m.srd, .slice y.m.sda y.m.sdn y.m.sdc, .int .i64 y.m.cau, .int .i64 y.m.crd, .slice y.m.cba y.m.cbn y.m.cbc, .slice y.m.cpa y.m.cpn y.m.cpc, .slice y.m.cva y.m.cvn y.m.cvc, .int .i64 y.m.ro] 53
            have q4 := setRow_heap _ _ _ #[.int .i64 y.m.fr, .int .i64 y.m.tt, .int .i64 y.m.ki, .int .i64 y.m.bau, .int .i64 y.m.bnu, .slice y.m.bta y.m.btn y.m.btc, .int .i64 y.m.hau, .int .i64 y.m.hrd, .slice y.m.hba y.m.hbn y.m.hbc, .slice y.m.hpa y.m.hpn y.m.hpc, .int .i64 y.m.sau, .int .i64 y.m.srd, .slice y.m.sda y.m.sdn y.m.sdc, .int .i64 y.m.cau, .int .i64 y.m.crd, .slice y.m.cba y.m.cbn y.m.cbc, .slice y.m.cpa y.m.cpn y.m.cpc, .slice y.m.cva y.m.cvn y.m.cvc, .int .i64 y.m.ro] _ _ qz
            have hB4 := hb2.trans (hA4.mono hb2.size)
            have HY : Hid (r = y.onTape ++ r2 ∧ MAt ((w2.alloc (.cells #[.int .i64 0, .int .i64 0, .int .i64 0, .int .i64 0, .int .i64 0, .slice none 0 0, .int .i64 0, .int .i64 0, .slice none 0 0, .slice none 0 0, .int .i64 0, .int .i64 0, .slice none 0 0, .int .i64 0, .int .i64 0, .slice none 0 0, .slice none 0 0, .slice none 0 0, .int .i64 0] 53)).setRow w2.heap.size #[.int .i64 y.m.fr, .int .i64 y.m.tt, .int .i64 y.m.ki, .int .i64 y.m.bau, .int .i64 y.m.bnu, .slice y.m.bta y.m.btn y.m.btc, .int .i64 y.m.hau, .int .i64 y.m.hrd, .slice y.m.hba y.m.hbn y.m.hbc, .slice y.m.hpa y.m.hpn y.m.hpc, .int .i64 y.m.sau, .int .i64 y.m.srd, .slice y.m.sda y.m.sdn y.m.sdc, .int .i64 y.m.cau, .int .i64 y.m.crd, .slice y.m.cba y.m.cbn y.m.cbc, .slice y.m.cpa y.m.cpn y.m.cpc, .slice y.m.cva y.m.cvn y.m.cvc, .int .i64 y.m.ro]) y ∧ IsRec y ∧ HasM (fun q => wr.heap.size ≤ q) y) := ⟨hr2, hY.below hA4, hI, hH⟩
            clear hr2 hY hI hH
            go_wp2_with (refine wpList_store_row rfl 53 _ _ rfl w2.heap.size #[.int .i64 y.m.fr, .int .i64 y.m.tt, .int .i64 y.m.ki, .int .i64 y.m.bau, .int .i64 y.m.bnu, .slice y.m.bta y.m.btn y.m.btc, .int .i64 y.m.hau, .int .i64 y.m.hrd, .slice y.m.hba y.m.hbn y.m.hbc, .slice y.m.hpa y.m.hpn y.m.hpc, .int .i64 y.m.sau, .int .i64 y.m.srd, .slice y.m.sda y.m.sdn y.m.sdc, .int .i64 y.m.cau, .int .i64 y.m.crd, .slice y.m.cba y.m.cbn y.m.cbc, .slice y.m.cpa y.m.cpn y.m.cpc, .slice y.m.cva y.m.cvn y.m.cvc, .int .i64 y.m.ro] rfl rfl 53 _ qz sMsg' rfl (by simp [Value.oneCell']) ?_)
            go_meet
            case rel => exact ⟨w2.heap.size, rfl, hb2.size, hB4, .inr ⟨y, r2, rfl, HY, q4⟩⟩
        · have hcI : (bs.length : Int) ≤ cap := by omega
          have hkI : (k : Int) < cap := by omega
          go_wp2_with fail
          refine hFi.out.mono ?_
          rintro e w2 hF2
          have hb2 := hF2.below
          have hB2 := hWB.trans (hb2.mono hWB.size)
          rcases hF2.out with ⟨he, hNo⟩ | ⟨y, r2, hr2, hY, hH, hI, he⟩
          · clear hF2
            subst he
            dsimp only
            have qz := heap_alloc_new w2 (.cells #[.int .i64 0, .int .i64 0, .int .i64 0, .int .i64 0, .int .i64 0, .slice none 0 0, .int .i64 0, .int .i64 0, .slice none 0 0, .slice none 0 0, .int .i64 0, .int .i64 0, .slice none 0 0, .int .i64 0, .int .i64 0, .slice none 0 0, .slice none 0 0, .slice none 0 0, .int .i64 0] 53)
            have hA4 : Below w2.heap.size w2 ((w2.alloc (.cells #[.int .i64 0, .int .i64 0, .int .i64 0, .int .i64 0, .int .i64 0, .slice none 0 0, .int .i64 0, .int .i64 0, .slice none 0 0, .slice none 0 0, .int .i64 0, .int .i64 0, .slice none 0 0, .int .i64 0, .int .i64 0, .slice none 0 0, .slice none 0 0, .slice none 0 0, .int .i64 0] 53)).setRow w2.heap.size #[.int .i64 0, .int .i64 0, .int .i64 0, .int .i64 0, .int .i64 0, .slice none 0 0, .int .i64 0, .int .i64 0, .slice none 0 0, .slice none 0 0, .int .i64 0, .int .i64 0, .slice none 0 0, .int .i64 0, .int .i64 0, .slice none 0 0, .slice none 0 0, .slice none 0 0, .int .i64 0]) := laid_row w2 #[.int .i64 0, .int .i64 0, .int .i64 0, .int .i64 0, .int .i64 0, .slice none 0 0, .int .i64 0, .int .i64 0, .slice none 0 0, .slice none 0 0, .int .i64 0, .int .i64 0, .slice none 0 0, .int .i64 0, .int .i64 0, .slice none 0 0, .slice none 0 0, .slice none 0 0, .int .i64 0] #[.int .i64 0, .int .i64 0, .int .i64 0, .int .i64 0, .int .i64 0, .slice none 0 0, .int .i64 0, .int .i64 0, .slice none 0 0, .slice none 0 0, .int .i64 0, .int .i64 0, .slice none 0 0, .int .i64 0, .int .i64 0, .slice none 0 0, .slice none 0 0, .slice none 0 0, .int .i64 0] 53
            have hB4 := hb2.trans (hA4.mono hb2.size)
            have hN : Hid (noRec r) := hNo
            clear hNo
            go_wp2_with (refine wpList_store_row rfl 53 _ _ rfl w2.heap.size #[.int .i64 0, .int .i64 0, .int .i64 0, .int .i64 0, .int .i64 0, .slice none 0 0, .int .i64 0, .int .i64 0, .slice none 0 0, .slice none 0 0, .int .i64 0, .int .i64 0, .slice none 0 0, .int .i64 0, .int .i64 0, .slice none 0 0, .slice none 0 0, .slice none 0 0, .int .i64 0] rfl rfl 53 _ qz sMsg' rfl (by simp [Value.oneCell']) ?_)
            go_meet
            case rel => exact ⟨w2.heap.size, rfl, hb2.size, hB4, .inl ⟨rfl, hN⟩⟩
          · clear hF2
            subst he
            dsimp only
            have qz := heap_alloc_new w2 (.cells #[.int .i64 0, .int .i64 0, .int .i64 0, .int .i64 0, .int .i64 0, .slice none 0 0, .int .i64 0, .int .i64 0, .slice none 0 0, .slice none 0 0, .int .i64 0, .int .i64 0, .slice none 0 0, .int .i64 0, .int .i64 0, .slice none 0 0, .slice none 0 0, .slice none 0 0, .int .i64 0] 53)
            have hA4 : Below w2.heap.size w2 ((w2.alloc (.cells #[.int .i64 0, .int .i64 0, .int .i64 0, .int .i64 0, .int .i64 0, .slice none 0 0, .int .i64 0, .int .i64 0, .slice none 0 0, .slice none 0 0, .int .i64 0, .int .i64 0, .slice none 0 0, .int .i64 0, .int .i64 0, .slice none 0 0, .slice none 0 0, .slice none 0 0, .int .i64 0] 53)).setRow w2.heap.size #[.int .i64 y.m.fr, .int .i64 y.m.tt, .int .i64 y.m.ki, .int .i64 y.m.bau, .int .i64 y.m.bnu, .slice y.m.bta y.m.btn y.m.btc, .int .i64 y.m.hau, .int .i64 y.m.hrd, .slice y.m.hba y.m.hbn y.m.hbc, .slice y.m.hpa y.m.hpn y.m.hpc, .int .i64 y.m.sau, .int .i64 y.m.srd, .slice y.m.sda y.m.sdn y.m.sdc, .int .i64 y.m.cau, .int .i64 y.m.crd, .slice y.m.cba y.m.cbn y.m.cbc, .slice y.m.cpa y.m.cpn y.m.cpc, .slice y.m.cva y.m.cvn y.m.cvc, .int .i64 y.m.ro]) := laid_row w2 #[.int .i64 0, .int .i64 0, .int .i64 0, .int .i64 0, .int .i64 0, .slice none 0 0, .int .i64 0, .int .i64 0, .slice none 0 0, .slice none 0 0, .int .i64 0, .int .i64 0, .slice none 0 0, .int .i64 0, .int .i64 0, .slice none 0 0, .slice none 0 0, .slice none 0 0, .int .i64 0] #[.int .i64 y.m.fr, .int .i64 y.m.tt, .int .i64 y.m.ki, .int .i64 y.m.bau, .int .i64 y.m.bnu, .slice y.m.bta y.m.btn y.m.btc, .int .i64 y.m.hau, .int .i64 y.m.hrd, .slice y.m.hba y.m.hbn y.m.hbc, .slice y.m.hpa y.m.hpn y.m.hpc, .int .i64 y.m.sau, .int .i64 y.m.srd, .slice y.m.sda y.m.sdn y.m.sdc, .int .i64 y.m.cau, .int .i64 y.m.crd, .slice y.m.cba y.m.cbn y.m.cbc, .slice y.m.cpa y.m.cpn y.m.cpc, .slice y.m.cva y.m.cvn y.m.cvc, .int .i64 y.m.ro] 53
            have q4 := setRow_heap _ _ _ #[.int .i64 y.m.fr, .int .i64 y.m.tt, .int .i64 y.m.ki, .int .i64 y.m.bau, .int .i64 y.m.bnu, .slice y.m.bta y.m.btn y.m.btc, .int .i64 y.m.hau, .int .i64 y.m.hrd, .slice y.m.hba y.m.hbn y.m.hbc, .slice y.m.hpa y.m.hpn y.m.hpc, .int .i64 y.m.sau, .int .i64 y.m.srd, .slice y.m.sda y.m.sdn y.m.sdc, .int .i64 y.m.cau, .int .i64 y.m.crd, .slice y.m.cba y.m.cbn y.m.cbc, .slice y.m.cpa y.m.cpn y.m.cpc, .slice y.m.cva y.m.cvn y.m.cvc, .int .i64 y.m.ro] _ _ qz
            have hB4 := hb2.trans (hA4.mono hb2.size)
            have HY : Hid (r = y.onTape ++ r2 ∧ MAt ((w2.alloc (.cells #[.int .i64 0, .int .i64 0, .int .i64 0, .int .i64 0, .int .i64 0, .slice none 0 0, .int .i64 0, .int .i64 0, .slice none 0 0, .slice none 0 0, .int .i64 0, .int .i64 0, .slice none 0 0, .int .i64 0, .int .i64 0, .slice none 0 0, .slice none 0 0, .slice none 0 0, .int .i64 0] 53)).setRow w2.heap.size #[.int .i64 y.m.fr, .int .i64 y.m.tt, .int .i64 y.m.ki, .int .i64 y.m.bau, .int .i64 y.m.bnu, .slice y.m.bta y.m.btn y.m.btc, .int .i64 y.m.hau, .int .i64 y.m.hrd, .slice y.m.hba y.m.hbn y.m.hbc, .slice y.m.hpa y.m.hpn y.m.hpc, .int .i64 y.m.sau, .int .i64 y.m.srd, .slice y.m.sda y.m.sdn y.m.sdc, .int .i64 y.m.cau, .int .i64 y.m.crd, .slice y.m.cba y.m.cbn y.m.cbc, .slice y.m.cpa y.m.cpn y.m.cpc, .slice y.m.cva y.m.cvn y.m.cvc, .int .i64 y.m.ro]) y ∧ IsRec y ∧ HasM (fun q => wr.heap.size ≤ q) y) := ⟨hr2, hY.below hA4, hI, hH⟩
            clear hr2 hY hI hH
            go_wp2_with (refine wpList_store_row rfl 53 _ _ rfl w2.heap.size #[.int .i64 y.m.fr, .int .i64 y.m.tt, .int .i64 y.m.ki, .int .i64 y.m.bau, .int .i64 y.m.bnu, .slice y.m.bta y.m.btn y.m.btc, .int .i64 y.m.hau, .int .i64 y.m.hrd, .slice y.m.hba y.m.hbn y.m.hbc, .slice y.m.hpa y.m.hpn y.m.hpc, .int .i64 y.m.sau, .int .i64 y.m.srd, .slice y.m.sda y.m.sdn y.m.sdc, .int .i64 y.m.cau, .int .i64 y.m.crd, .slice y.m.cba y.m.cbn y.m.cbc, .slice y.m.cpa y.m.cpn y.m.cpc, .slice y.m.cva y.m.cvn y.m.cvc, .int .i64 y.m.ro] rfl rfl 53 _ qz sMsg' rfl (by simp [Value.oneCell']) ?_)
            go_meet
            case rel => exact ⟨w2.heap.size, rfl, hb2.size, hB4, .inr ⟨y, r2, rfl, HY, q4⟩⟩
      case rest =>
        obtain ⟨A, rfl, hAw, hb2, h⟩ := hcut
        generalize wc = W2 at hb2 h ⊢
        apply_assumption
        clear hFi hcase c0 c1
        have u0 := (hb2.block _ (lt_of_heap q0)).trans q0
        have u1 := (hb2.block _ (lt_of_heap q1)).trans q1
        have hB2 := hWB.trans (hb2.mono hWB.size)
        have hb3 := hb.trans (hb2.mono hb.size)
        have ho2 := owns_keep ho hb2
        rcases h with ⟨rfl, hNo⟩ | ⟨y, r2, rfl, HY, qy⟩
        · have ha2 : Hid (RecsAt W2 w1.heap.size tv ys) := HA.out.below hb2
          have c0 : W2.cell? ⟨w.heap.size, 0, none⟩ = some (.slice sa bs.length cap) := cells_at u0 0 _ rfl
          have c1 : W2.cell? ⟨w.heap.size, 1, none⟩ = some (.int .i64 sy) := cells_at u0 1 _ rfl
          by_cases hm : sy ≤ k
          · have hmm : Hid (sy = min sy (k : Int)) := by show _ = _; omega
            go_wp2_with fail
            refine (HS.out W2 sy hB2).mono ?_
            rintro e w3 ⟨ra, rc, he, hs3, hfr, hb3⟩
            subst he
            dsimp only
            have hlt : w.heap.size + 1 < W2.heap.size := lt_of_heap u1
            have q3 := (hb3.block _ hlt).trans u1
            have d0 : w3.cell? ⟨w.heap.size + 1, 0, none⟩ = some (.slice none 0 0) := cells_at q3 0 _ rfl
            have d1 : w3.cell? ⟨w.heap.size + 1, 1, none⟩ = some (.int .i64 0) := cells_at q3 1 _ rfl
            have f0 := frozen_at q3 0
            have f1 := frozen_at q3 1
            have ho3 := owns_keep ho2 hb3
            have ha3 := ha2.out.below hb3
            clear c0 c1
            go_wp2_with fail

            refine bodyPost_ret (v := .tuple #[tv, .agg #[.slice ra k rc, .int .i64 sy], .int .i64 0]) (by simp [results, Try.results6, go_sem, d0, d1]) rfl ⟨.inr ⟨hF.out, tv, ys, r, ra, rc, hbk.out.1, hNo.out, ?_, ?_, ?_, ?_, ?_⟩, ?_⟩
            · exact owns_down (owns_far (owns_far ho3 _ _ _ hlt1) _ _ _ hlt1) (by omega)
            · exact ((ha3.far (b := w.heap.size + 1) hlt1 (fun q hq => heap_setCell_other _ ⟨w.heap.size + 1, 0, none⟩ q _ hq)).far (b := w.heap.size + 1) hlt1 (fun q hq => heap_setCell_other _ ⟨w.heap.size + 1, 1, none⟩ q _ hq)).mono (by omega)
            · rw [← HT.out]
              exact (hs3.setCellT _ _ _ (fun sb so e => by have := (hfr sb so e).1; omega)).setCellT _ _ _ (fun sb so e => by have := (hfr sb so e).1; omega)
            · intro sb so e
              obtain ⟨g1, g2⟩ := hfr sb so e
              have := hB2.size
              exact ⟨by omega, by simpa using g2⟩
            · rw [← hbk.out.2, ← hmm.out]
            · exact ((hB2.trans (hb3.mono hB2.size)).setCell (by simp) _).setCell (by simp) _
          · have hmm : Hid ((k : Int) = min sy (k : Int)) := by show _ = _; omega
            have hm2 : (k : Int) < sy := by omega
            go_wp2_with fail
            refine (HS.out W2 (k : Int) hB2).mono ?_
            rintro e w3 ⟨ra, rc, he, hs3, hfr, hb3⟩
            subst he
            dsimp only
            have hlt : w.heap.size + 1 < W2.heap.size := lt_of_heap u1
            have q3 := (hb3.block _ hlt).trans u1
            have d0 : w3.cell? ⟨w.heap.size + 1, 0, none⟩ = some (.slice none 0 0) := cells_at q3 0 _ rfl
            have d1 : w3.cell? ⟨w.heap.size + 1, 1, none⟩ = some (.int .i64 0) := cells_at q3 1 _ rfl
            have f0 := frozen_at q3 0
            have f1 := frozen_at q3 1
            have ho3 := owns_keep ho2 hb3
            have ha3 := ha2.out.below hb3
            clear c0 c1
            go_wp2_with fail

            refine bodyPost_ret (v := .tuple #[tv, .agg #[.slice ra k rc, .int .i64 (k : Int)], .int .i64 0]) (by simp [results, Try.results6, go_sem, d0, d1]) rfl ⟨.inr ⟨hF.out, tv, ys, r, ra, rc, hbk.out.1, hNo.out, ?_, ?_, ?_, ?_, ?_⟩, ?_⟩
            · exact owns_down (owns_far (owns_far ho3 _ _ _ hlt1) _ _ _ hlt1) (by omega)
            · exact ((ha3.far (b := w.heap.size + 1) hlt1 (fun q hq => heap_setCell_other _ ⟨w.heap.size + 1, 0, none⟩ q _ hq)).far (b := w.heap.size + 1) hlt1 (fun q hq => heap_setCell_other _ ⟨w.heap.size + 1, 1, none⟩ q _ hq)).mono (by omega)
            · rw [← HT.out]
              exact (hs3.setCellT _ _ _ (fun sb so e => by have := (hfr sb so e).1; omega)).setCellT _ _ _ (fun sb so e => by have := (hfr sb so e).1; omega)
            · intro sb so e
              obtain ⟨g1, g2⟩ := hfr sb so e
              have := hB2.size
              exact ⟨by omega, by simpa using g2⟩
            · rw [← hbk.out.2, ← hmm.out]
            · exact ((hB2.trans (hb3.mono hB2.size)).setCell (by simp) _).setCell (by simp) _
        · have hol := onTape_two y
          have hbn : Hid (bs = tapeB (ys ++ [y]) ++ r2 ∧ k + y.onTape.length = (tapeB (ys ++ [y])).length) := by
            show _ ∧ _
            rw [tapeB_snoc, List.append_assoc, ← HY.out.1, List.length_append, ← hbk.out.2]
            exact ⟨hbk.out.1, rfl⟩
          have hkn : k + y.onTape.length ≤ bs.length := by
            have h1 := hbn.out.1
            have h2 := hbn.out.2
            rw [h1, List.length_append]
            omega
          have hyI : ((y.onTape.length : Int) == 0) = false := by rw [beq_eq_false_iff_ne]; omega
          have hsx : k + y.onTape.length ≤ 400000 := by omega
          have hsum : IntKind.i64.wrap ((k : Int) + (y.onTape.length : Int)) = ((k + y.onTape.length : Nat) : Int) := by rw [IntKind.wrap_i64]; omega
          have hyl2 := hysl.out
          have HB : Hid _ := hbn
          have HK : Hid _ := hkn
          clear hbn hkn HS HT hbk
          generalize y.onTape.length = L at *
          go_wp2_with (first | refine wpList_load_row rfl 53 _ rfl A rfl 53 #[.int .i64 y.m.fr, .int .i64 y.m.tt, .int .i64 y.m.ki, .int .i64 y.m.bau, .int .i64 y.m.bnu, .slice y.m.bta y.m.btn y.m.btc, .int .i64 y.m.hau, .int .i64 y.m.hrd, .slice y.m.hba y.m.hbn y.m.hbc, .slice y.m.hpa y.m.hpn y.m.hpc, .int .i64 y.m.sau, .int .i64 y.m.srd, .slice y.m.sda y.m.sdn y.m.sdc, .int .i64 y.m.cau, .int .i64 y.m.crd, .slice y.m.cba y.m.cbn y.m.cbc, .slice y.m.cpa y.m.cpn y.m.cpc, .slice y.m.cva y.m.cvn y.m.cvc, .int .i64 y.m.ro] (0, 0) _ qy Try.underlying53 rfl sMsg' ?_ | (at_builtin; go_loud (refine wpList_append_own_at _ rfl _ _ 26 rfl w1.heap.size 53 i (.agg #[.int .i64 0, .int .i64 0, .int .i64 0, .int .i64 0, .int .i64 0, .slice none 0 0, .int .i64 0, .int .i64 0, .slice none 0 0, .slice none 0 0, .int .i64 0, .int .i64 0, .slice none 0 0, .int .i64 0, .int .i64 0, .slice none 0 0, .slice none 0 0, .slice none 0 0, .int .i64 0]) 19 264 Try.underlying26 hi hz0 hz1 hz2 rfl (by decide) _ ys.length _ rfl (World.ownsRow.alloc ho2 _) ⟨W2.heap.size, 0, none⟩ 1 1 (mcell y.m) rfl (mcell_len y.m) (cells_new _ _ _) (mcell_one y.m) (by unfold maxLen; omega) (by omega) (le_alloc hb3.size _) ?_; intro v6 w6 ho6 hg6 _ hat6)))
          have G6 := Grew.of hg6 hat6
          have hR6 := HA.out.more hb.size ho hb2 HY.out.2.1 HY.out.2.2.1 HY.out.2.2.2 G6
          have hb6 := Below.grown (hb3.alloc hb3.size (.cells (mcell y.m).toArray 53)) hg6 (le_alloc hb3.size _) (fun q e => (ho.lt q e).1)
          have ho7 : w6.ownsRow w1.heap.size 53 19 v6 (ys ++ [y]).length (mcells (ys ++ [y])) := by rw [mcells_snoc, List.length_append]; exact ho6
          have s0 : w6.heap[w.heap.size]? = some (.cells #[.slice sa bs.length cap, .int .i64 sy] 24 (0, 0)) := (hb6.block _ (by omega)).trans p0
          have s1 : w6.heap[w.heap.size + 1]? = some (.cells #[.slice none 0 0, .int .i64 0] 24 (0, 0)) := (hb6.block _ (by omega)).trans p1
          go_roundw
          case rel =>
            exact ⟨k + L, ys ++ [y], r2, v6, by go_num, rfl, HK.out, HB, ho7, hR6, s0, s1, hb6⟩
          case measure => have hK9 := HK.out; simp [intOf]; omega
end Go.Proofs.Ytldlknmpkoebbaa
