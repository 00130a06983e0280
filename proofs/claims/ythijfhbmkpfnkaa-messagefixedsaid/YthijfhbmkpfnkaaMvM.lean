/- Messages as they lie in memory, with all that they lead to; records. -/
import Derived.Test.YthijfhbmkpfnkaaMRaw
import Derived.Test.YthijfhbmkpfnkaaMsgB
namespace Go.Proofs.Ythijfhbmkpfnkaa
open Go.RowKit

/-- A message and what its lists hold. -/
structure MV where
  (m : Msg) (ss : List ByteArray) (bl pl cbl cpl : List Part) (ds vl : List Int)
def MV.car (x : MV) : Int := carriedF x.m x.ss x.bl x.pl x.cbl x.cpl x.vl
/-- P2.9. -/
def MV.bytes (x : MV) : List Int := msgB x.m x.ss x.bl x.pl x.cbl x.cpl x.ds x.vl
/-- A list's blocks, of what is not empty. -/
structure HasL (G : Nat → Prop) (ra : Option Addr) (qs : List Part) : Prop where
  row : ∀ sb so, ra = some ⟨sb, so, none⟩ → qs ≠ [] → G sb
  each : ∀ p ∈ qs, ∀ sb so, p.sa = some ⟨sb, so, none⟩ → p.bs ≠ [] → G sb
/-- A message's blocks, of what is not empty. -/
structure HasM (G : Nat → Prop) (x : MV) : Prop where
  tx : ∀ sb so, x.m.bta = some ⟨sb, so, none⟩ → x.ss ≠ [] → G sb
  hb : HasL G x.m.hba x.bl
  hp : HasL G x.m.hpa x.pl
  sd : ∀ sb so, x.m.sda = some ⟨sb, so, none⟩ → x.ds ≠ [] → G sb
  cb : HasL G x.m.cba x.cbl
  cp : HasL G x.m.cpa x.cpl
  cv : ∀ sb so, x.m.cva = some ⟨sb, so, none⟩ → x.vl ≠ [] → G sb
/-- A message that lies there. -/
structure MAt (w : World) (x : MV) : Prop where
  at' : MsgAt w x.m x.ss x.bl x.pl x.cbl x.cpl x.vl
  dig : SliceAt w x.m.sda x.m.sdc x.ds
  dn : x.m.sdn = x.ds.length
/-- P8.2: a message that is a record. -/
structure IsRec (x : MV) : Prop where
  car : x.car = 0
  emp : msgEmpty (strip x.m) = true
  fr : x.m.fr = 0
  tt : x.m.tt = 0
  ki : x.m.ki ≠ 5
set_option maxRecDepth 100000 in
theorem MAt.below {w w' : World} {x : MV} (h : MAt w x) (hb : Below w.heap.size w w') : MAt w' x := ⟨h.at'.below hb, h.dig.below hb, h.dn⟩
set_option maxRecDepth 100000 in
theorem HasL.mono {G G' : Nat → Prop} {ra : Option Addr} {qs : List Part} (h : HasL G ra qs) (hG : ∀ k, G k → G' k) : HasL G' ra qs := ⟨fun sb so e n => hG _ (h.row sb so e n), fun p hp sb so e n => hG _ (h.each p hp sb so e n)⟩
set_option maxRecDepth 100000 in
theorem HasM.mono {G G' : Nat → Prop} {x : MV} (h : HasM G x) (hG : ∀ k, G k → G' k) : HasM G' x :=
  ⟨fun sb so e n => hG _ (h.tx sb so e n), h.hb.mono hG, h.hp.mono hG, fun sb so e n => hG _ (h.sd sb so e n), h.cb.mono hG, h.cp.mono hG, fun sb so e n => hG _ (h.cv sb so e n)⟩
set_option maxRecDepth 100000 in
theorem NewM.has {B : Nat} {x : MV} (h : NewM B x.m x.bl x.pl x.cbl x.cpl) : HasM (fun k => B ≤ k) x :=
  ⟨fun sb so e _ => h.tx sb so e, ⟨fun sb so e _ => h.hb.row sb so e, fun p hp sb so e _ => h.hb.each p hp sb so e⟩, ⟨fun sb so e _ => h.hp.row sb so e, fun p hp sb so e _ => h.hp.each p hp sb so e⟩, fun sb so e _ => h.sd sb so e, ⟨fun sb so e _ => h.cb.row sb so e, fun p hp sb so e _ => h.cb.each p hp sb so e⟩, ⟨fun sb so e _ => h.cp.row sb so e, fun p hp sb so e _ => h.cp.each p hp sb so e⟩, fun sb so e _ => h.cv sb so e⟩
set_option maxRecDepth 100000 in
theorem length_pos_ne {α : Type} {l : List α} (h : l ≠ []) : 0 < l.length := by cases l with | nil => exact absurd rfl h | cons _ _ => simp
set_option maxRecDepth 100000 in
theorem slice_lt {w : World} {sa : Option Addr} {cap : Nat} {bs : List Int} (h : SliceAt w sa cap bs) (hn : bs ≠ []) {sb so : Nat} (e : sa = some ⟨sb, so, none⟩) : sb < w.heap.size := by
  rcases h.bytes with hb | ⟨sb', so', e', hc⟩
  · exact absurd hb hn
  · rw [e] at e'; cases e'; exact block_lt_of_cell (hc 0 (length_pos_ne hn))
set_option maxRecDepth 100000 in
theorem HasL.lt {w : World} {G : Nat → Prop} {ra : Option Addr} {rc : Nat} {qs : List Part} (h : HasL G ra qs) (H : ListAt w ra rc qs) : HasL (fun k => G k ∧ k < w.heap.size) ra qs := by
  refine ⟨fun sb so e n => ⟨h.row sb so e n, ?_⟩, fun p hp sb so e n => ⟨h.each p hp sb so e n, slice_lt (H.parts.each p hp) n e⟩⟩
  rcases H.parts.cells with hb | ⟨sb', so', e', hc⟩
  · exact absurd hb n
  · rw [e] at e'; cases e'; exact block_lt_of_cell (hc 0 (length_pos_ne n))
set_option maxRecDepth 100000 in
theorem HasM.lt {w : World} {G : Nat → Prop} {x : MV} (h : HasM G x) (H : MAt w x) : HasM (fun k => G k ∧ k < w.heap.size) x := by
  refine ⟨fun sb so e n => ⟨h.tx sb so e n, ?_⟩, h.hb.lt H.at'.bat, h.hp.lt H.at'.par, fun sb so e n => ⟨h.sd sb so e n, slice_lt H.dig n e⟩, h.cb.lt H.at'.cbat, h.cp.lt H.at'.cpar, fun sb so e n => ⟨h.cv sb so e n, ?_⟩⟩
  · rcases H.at'.txs.cells with hb | ⟨sb', so', e', hc⟩
    · exact absurd hb n
    · rw [e] at e'; cases e'; exact block_lt_of_cell (hc 0 (length_pos_ne n))
  · rcases H.at'.vot.cells with hb | ⟨sb', so', e', hc⟩
    · exact absurd hb n
    · rw [e] at e'; cases e'; exact block_lt_of_cell (hc 0 (length_pos_ne n))
set_option maxRecDepth 100000 in
/-- Blocks that stay as they are. -/
theorem slice_stays {w w' : World} {G : Nat → Prop} {sa : Option Addr} {cap : Nat} {bs : List Int} (hk : ∀ k, G k → w'.heap[k]? = w.heap[k]?) (h : SliceAt w sa cap bs) (hG : ∀ sb so, sa = some ⟨sb, so, none⟩ → bs ≠ [] → G sb) : SliceAt w' sa cap bs := by
  refine ⟨h.le, h.max, h.some, h.nil, ?_⟩
  rcases h.bytes with hb | ⟨sb, so, e, hc⟩
  · exact .inl hb
  · by_cases hz : bs = []
    · exact .inl hz
    · exact .inr ⟨sb, so, e, fun j hj => (World.cell?_of_block (hk sb (hG sb so e hz))).trans (hc j hj)⟩
set_option maxRecDepth 100000 in
theorem list_stays {w w' : World} {G : Nat → Prop} {ra : Option Addr} {rc : Nat} {qs : List Part} (hk : ∀ k, G k → w'.heap[k]? = w.heap[k]?) (h : ListAt w ra rc qs) (hG : HasL G ra qs) : ListAt w' ra rc qs := by
  refine ⟨h.le, h.max, h.small, h.some, ⟨?_, fun p hp => slice_stays hk (h.parts.each p hp) (hG.each p hp)⟩⟩
  rcases h.parts.cells with hb | ⟨sb, so, e, hc⟩
  · exact .inl hb
  · by_cases hz : qs = []
    · exact .inl hz
    · exact .inr ⟨sb, so, e, fun j hj => (World.cell?_of_block (hk sb (hG.row sb so e hz))).trans (hc j hj)⟩
set_option maxRecDepth 100000 in
theorem MAt.stays {w w' : World} {G : Nat → Prop} {x : MV} (hk : ∀ k, G k → w'.heap[k]? = w.heap[k]?) (h : MAt w x) (hG : HasM G x) : MAt w' x := by
  refine ⟨⟨h.at'.e1, h.at'.e2, h.at'.e3, h.at'.e4, h.at'.e5, h.at'.e6, h.at'.s1, h.at'.s6, h.at'.s7, ⟨?_, h.at'.txs.size⟩, list_stays hk h.at'.bat hG.hb, list_stays hk h.at'.par hG.hp, list_stays hk h.at'.cbat hG.cb, list_stays hk h.at'.cpar hG.cp, ⟨?_⟩⟩, slice_stays hk h.dig hG.sd, h.dn⟩
  · rcases h.at'.txs.cells with hb | ⟨sb, so, e, hc⟩
    · exact .inl hb
    · by_cases hz : x.ss = []
      · exact .inl hz
      · exact .inr ⟨sb, so, e, fun j hj => (World.cell?_of_block (hk sb (hG.tx sb so e hz))).trans (hc j hj)⟩
  · rcases h.at'.vot.cells with hb | ⟨sb, so, e, hc⟩
    · exact .inl hb
    · by_cases hz : x.vl = []
      · exact .inl hz
      · exact .inr ⟨sb, so, e, fun j hj => (World.cell?_of_block (hk sb (hG.cv sb so e hz))).trans (hc j hj)⟩
set_option maxRecDepth 100000 in
theorem MAt.setRow {w : World} {x : MV} {B b : Nat} {cs : Array Value} (h : MAt w x) (hG : HasM (fun k => B ≤ k) x) (hb : b < B) : MAt (w.setRow b cs) x :=
  h.stays (G := fun k => B ≤ k) (fun k hk => setRow_other w b k cs (by omega)) hG
set_option maxRecDepth 100000 in
theorem MAt.setCell {w : World} {x : MV} {B b j : Nat} {v : Value} (h : MAt w x) (hG : HasM (fun k => B ≤ k) x) (hb : b < B) : MAt (w.setCell ⟨b, j, none⟩ v) x :=
  h.stays (G := fun k => B ≤ k) (fun k hk => heap_setCell_other w ⟨b, j, none⟩ k v (by show k ≠ b; omega)) hG
/-- From nobody, to nobody. -/
def Msg.bare (m : Msg) : Msg := { m with fr := 0, tt := 0 }
def MV.bare (x : MV) : MV := { x with m := x.m.bare }
set_option maxRecDepth 100000 in
theorem MV.bare_at {w : World} {x : MV} (h : MAt w x) : MAt w x.bare := ⟨⟨h.at'.e1, h.at'.e2, h.at'.e3, h.at'.e4, h.at'.e5, h.at'.e6, h.at'.s1, h.at'.s6, h.at'.s7, h.at'.txs, h.at'.bat, h.at'.par, h.at'.cbat, h.at'.cpar, h.at'.vot⟩, h.dig, h.dn⟩
set_option maxRecDepth 100000 in
theorem MV.bare_has {G : Nat → Prop} {x : MV} (h : HasM G x) : HasM G x.bare := ⟨h.tx, h.hb, h.hp, h.sd, h.cb, h.cp, h.cv⟩
set_option maxRecDepth 100000 in
theorem strip_from (m : Msg) (a b : Int) : msgEmpty (strip { m with fr := a, tt := b }) = msgEmpty (strip m) := by
  by_cases k1 : m.ki = 1
  · simp [strip, msgEmpty, k1]
  by_cases k2 : m.ki = 2
  · simp [strip, msgEmpty, k2]
  by_cases k3 : m.ki = 3
  · simp [strip, msgEmpty, k3]
  by_cases k4 : m.ki = 4
  · simp [strip, msgEmpty, k4]
  · simp [strip, msgEmpty, k1, k2, k3, k4]
set_option maxRecDepth 100000 in
theorem MV.bare_rec {x : MV} (hc : x.car = 0) (he : msgEmpty (strip x.m) = true) (hk : x.m.ki ≠ 5) : IsRec x.bare :=
  ⟨hc, (strip_from x.m 0 0).trans he, rfl, rfl, hk⟩
set_option maxRecDepth 100000 in
theorem IsRec.check {x : MV} (h : IsRec x) : checkF x.m x.car = 0 := checkF_zero (by rw [h.fr]; omega) (by rw [h.tt]; omega) h.car h.emp
end Go.Proofs.Ythijfhbmkpfnkaa
