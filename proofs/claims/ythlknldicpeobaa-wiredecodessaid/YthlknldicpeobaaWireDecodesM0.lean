/- wire.read: what it answers, for all bytes. -/
import Derived.Test.YthlknldicpeobaaIns
import Derived.Test.YthlknldicpeobaaCheckM
import Derived.Test.YthlknldicpeobaaStrsAt
import Derived.Test.YthlknldicpeobaaStrsF
import Derived.Test.YthlknldicpeobaaLAt
import Derived.Test.YthlknldicpeobaaIntsL
import Derived.Test.YthlknldicpeobaaHeadF
import Derived.Test.YthlknldicpeobaaCertF
import Derived.Test.YthlknldicpeobaaMsg
import Derived.Test.YthlknldicpeobaaTextsAt
import Derived.Test.YthlknldicpeobaaSRow
import Derived.Test.YthlknldicpeobaaOwnL
import Derived.Test.YthlknldicpeobaaIv
import Derived.Deep.RegionHeld3
import Derived.Deep.CutRange
import Derived.Deep.DeepCutAuto
import Derived.Test.YthlknldicpeobaaRdB
namespace Go.Proofs.Ythlknldicpeobaa
open Go.RowKit

/-- P2.5 -/
def slotF (au rd : Int) (n : Nat) : Int := if ¬ (0 ≤ au ∧ au < 4) ∨ ¬ (1 ≤ rd ∧ rd ≤ 1048576) then 2 else if n ≠ 32 then 4 else 0
set_option maxRecDepth 100000 in
set_option maxHeartbeats 1000000 in
theorem checkSlot_any (au rd : Int) (sa : Option Addr) (n cap : Nat) (w : World) :
    Calls Try.prog 57 #[.agg #[.int .i64 au, .int .i64 rd, .slice sa n cap]] w fun e w' => e = .returned (.int .i64 (slotF au rd n)) ∧ Below w.heap.size w w' := by
  by_cases ha : 0 ≤ au ∧ au < 4
  · by_cases hr : 1 ≤ rd ∧ rd ≤ 1048576
    · by_cases hn : n = 32
      · subst hn
        have hF : Hid (slotF au rd 32 = 0) := by show _ = _; simp [slotF, ha, hr]
        go_enter Try.func57, Try.ntmps57
        go_wp2_with (first | (go_at_call 34; refine (isNode_bool _ true _ (by simp [ha])).mono ?_; rintro e w' ⟨rfl, rfl⟩) | (go_at_call 59; refine (isRound_bool _ true _ (by simp [hr])).mono ?_; rintro e w' ⟨rfl, rfl⟩))
        go_ret
        exact ⟨ret_int hF.out.symm, (Below.refl _ _).alloc (Nat.le_refl _) _⟩
      · have hF : Hid (slotF au rd n = 4) := by show _ = _; simp [slotF, ha, hr, hn]
        have hnI : ¬ (n : Int) = 32 := by omega
        go_enter Try.func57, Try.ntmps57
        go_wp2_with (first | (go_at_call 34; refine (isNode_bool _ true _ (by simp [ha])).mono ?_; rintro e w' ⟨rfl, rfl⟩) | (go_at_call 59; refine (isRound_bool _ true _ (by simp [hr])).mono ?_; rintro e w' ⟨rfl, rfl⟩))
        go_ret
        exact ⟨ret_int hF.out.symm, (Below.refl _ _).alloc (Nat.le_refl _) _⟩
    · have hF : Hid (slotF au rd n = 2) := by show _ = _; simp [slotF, hr]
      go_enter Try.func57, Try.ntmps57
      go_wp2_with (first | (go_at_call 34; refine (isNode_bool _ true _ (by simp [ha])).mono ?_; rintro e w' ⟨rfl, rfl⟩) | (go_at_call 59; refine (isRound_bool _ false _ (by simp [hr])).mono ?_; rintro e w' ⟨rfl, rfl⟩))
      go_ret
      exact ⟨ret_int hF.out.symm, (Below.refl _ _).alloc (Nat.le_refl _) _⟩
  · have hF : Hid (slotF au rd n = 2) := by show _ = _; simp [slotF, ha]
    go_enter Try.func57, Try.ntmps57
    go_wp2_with (first | (go_at_call 34; refine (isNode_bool _ false _ (by simp [ha])).mono ?_; rintro e w' ⟨rfl, rfl⟩) | (go_at_call 59; refine (isRound_bool _ true _ (by simp [hr])).mono ?_; rintro e w' ⟨rfl, rfl⟩))
    go_ret
    exact ⟨ret_int hF.out.symm, (Below.refl _ _).alloc (Nat.le_refl _) _⟩
end Go.Proofs.Ythlknldicpeobaa

namespace Go.Proofs.Ythlknldicpeobaa
open Go.RowKit

/-- What a message that is read has in memory. -/
structure MsgAt (w : World) (m : Msg) (ss : List ByteArray) (bl pl cbl cpl : List Part) (vl : List Int) : Prop where
  e1 : m.btn = ss.length
  e2 : m.hbn = bl.length
  e3 : m.hpn = pl.length
  e4 : m.cbn = cbl.length
  e5 : m.cpn = cpl.length
  e6 : m.cvn = vl.length
  s1 : ss.length ≤ 9000000000000000000
  s6 : vl.length ≤ 9000000000000000000
  s7 : m.sdn ≤ 9000000000000000000
  txs : StrsAt w m.bta ss
  bat : ListAt w m.hba m.hbc bl
  par : ListAt w m.hpa m.hpc pl
  cbat : ListAt w m.cba m.cbc cbl
  cpar : ListAt w m.cpa m.cpc cpl
  vot : IntsAt w m.cva vl
set_option maxRecDepth 100000 in
theorem MsgAt.below {w w' : World} {m : Msg} {ss : List ByteArray} {bl pl cbl cpl : List Part} {vl : List Int} (h : MsgAt w m ss bl pl cbl cpl vl) (hb : Below w.heap.size w w') : MsgAt w' m ss bl pl cbl cpl vl := ⟨h.e1, h.e2, h.e3, h.e4, h.e5, h.e6, h.s1, h.s6, h.s7, h.txs.below hb, h.bat.below hb, h.par.below hb, h.cbat.below hb, h.cpar.below hb, h.vot.below hb⟩
/-- What is told of what the kind carries. -/
def carriedF (m : Msg) (ss : List ByteArray) (bl pl cbl cpl : List Part) (vl : List Int) : Int := if m.ki = 1 then batchF m.bau m.bnu ss else if m.ki = 2 then headerF m.hau m.hrd bl pl else if m.ki = 3 then slotF m.sau m.srd m.sdn else if m.ki = 4 then certF m.cau m.crd cbl cpl vl else if m.ki = 5 then (if 1 ≤ m.ro ∧ m.ro ≤ 1048576 then 0 else 2) else 3
end Go.Proofs.Ythlknldicpeobaa

namespace Go.Proofs.Ythlknldicpeobaa
open Go.RowKit

/-- All of a message's lists are new memory. -/
structure NewM (B : Nat) (m : Msg) (bl pl cbl cpl : List Part) : Prop where
  tx : ∀ sb so, m.bta = some ⟨sb, so, none⟩ → B ≤ sb
  hb : Fresh B m.hba bl
  hp : Fresh B m.hpa pl
  sd : ∀ sb so, m.sda = some ⟨sb, so, none⟩ → B ≤ sb
  cb : Fresh B m.cba cbl
  cp : Fresh B m.cpa cpl
  cv : ∀ sb so, m.cva = some ⟨sb, so, none⟩ → B ≤ sb
set_option maxRecDepth 100000 in
theorem nilM (w : World) : SliceAt w none 0 [] := ⟨Nat.le_refl _, by decide, .inl rfl, fun _ => rfl, .inl rfl⟩
set_option maxRecDepth 100000 in
theorem Fresh.monoM {B B' : Nat} {ra : Option Addr} {qs : List Part} (h : Fresh B ra qs) (hB : B' ≤ B) : Fresh B' ra qs := ⟨fun sb so e => Nat.le_trans hB (h.row sb so e), fun p hp sb so e => Nat.le_trans hB (h.each p hp sb so e)⟩
/-- The bytes of a message's lists are bytes. -/
structure U8M (bl pl cbl cpl : List Part) (ds : List Int) : Prop where
  hb : ∀ p ∈ bl, ∀ x ∈ p.bs, 0 ≤ x ∧ x ≤ 255
  hp : ∀ p ∈ pl, ∀ x ∈ p.bs, 0 ≤ x ∧ x ≤ 255
  cb : ∀ p ∈ cbl, ∀ x ∈ p.bs, 0 ≤ x ∧ x ≤ 255
  cp : ∀ p ∈ cpl, ∀ x ∈ p.bs, 0 ≤ x ∧ x ≤ 255
  sd : ∀ x ∈ ds, 0 ≤ x ∧ x ≤ 255
set_option maxRecDepth 100000 in
theorem u8_none {α : Type} {P : α → Prop} : ∀ p ∈ ([] : List α), P p := fun p hp => by cases hp
set_option maxRecDepth 100000 in
theorem list_setRowM {w : World} {ra : Option Addr} {rc B : Nat} {qs : List Part} (h : ListAt w ra rc qs) (hf : Fresh B ra qs) (b : Nat) (cs : Array Value) (hb : b < B) : ListAt (w.setRow b cs) ra rc qs := by
  refine ⟨h.le, h.max, h.small, h.some, ⟨?_, fun p hp => ?_⟩⟩
  · rcases h.parts.cells with hc | ⟨sb, so, rfl, hc⟩
    · exact .inl hc
    · exact .inr ⟨sb, so, rfl, fun k hk => (cell_row (by have := hf.row sb so rfl; omega)).trans (hc k hk)⟩
  · exact slice_setRow (h.parts.each p hp) b cs (fun sb so e => by have := hf.each p hp sb so e; omega)
set_option maxRecDepth 100000 in
theorem list_nilM (w : World) : ListAt w none 0 [] := ⟨Nat.le_refl _, by decide, by decide, .inl rfl, ⟨.inl rfl, fun p hp => by cases hp⟩⟩
end Go.Proofs.Ythlknldicpeobaa

namespace Go.Proofs.Ythlknldicpeobaa
open Go.RowKit

/-- A message and what its lists hold. -/
structure MV where
  (m : Msg) (ss : List ByteArray) (bl pl cbl cpl : List Part) (ds vl : List Int)
def MV.car (x : MV) : Int := carriedF x.m x.ss x.bl x.pl x.cbl x.cpl x.vl
/-- A list's blocks, of what is not empty. -/
structure HasL (G : Nat → Prop) (ra : Option Addr) (qs : List Part) : Prop where
  row : ∀ sb so, ra = some ⟨sb, so, none⟩ → qs ≠ [] → G sb
  each : ∀ p ∈ qs, ∀ sb so, p.sa = some ⟨sb, so, none⟩ → p.bs ≠ [] → G sb
/-- A message's blocks, of what is not empty. -/
structure HasM (G : Nat → Prop) (x : MV) : Prop where
  tx : ∀ sb so, x.m.bta = some ⟨sb, so, none⟩ → x.ss ≠ [] → G sb
  hb : HasL G x.m.hba x.bl
  hp : HasL G x.m.hpa x.pl
  sd : ∀ sb so, x.m.sda = some ⟨sb, so, none⟩ → x.ds ≠ [] → G sb
  cb : HasL G x.m.cba x.cbl
  cp : HasL G x.m.cpa x.cpl
  cv : ∀ sb so, x.m.cva = some ⟨sb, so, none⟩ → x.vl ≠ [] → G sb
/-- A message that lies there. -/
structure MAt (w : World) (x : MV) : Prop where
  at' : MsgAt w x.m x.ss x.bl x.pl x.cbl x.cpl x.vl
  dig : SliceAt w x.m.sda x.m.sdc x.ds
  dn : x.m.sdn = x.ds.length
/-- P8.2: a message that is a record. -/
structure IsRec (x : MV) : Prop where
  car : x.car = 0
  emp : msgEmpty (strip x.m) = true
  fr : x.m.fr = 0
  tt : x.m.tt = 0
  ki : x.m.ki ≠ 5
set_option maxRecDepth 100000 in
theorem MAt.below {w w' : World} {x : MV} (h : MAt w x) (hb : Below w.heap.size w w') : MAt w' x := ⟨h.at'.below hb, h.dig.below hb, h.dn⟩
set_option maxRecDepth 100000 in
theorem HasL.mono {G G' : Nat → Prop} {ra : Option Addr} {qs : List Part} (h : HasL G ra qs) (hG : ∀ k, G k → G' k) : HasL G' ra qs := ⟨fun sb so e n => hG _ (h.row sb so e n), fun p hp sb so e n => hG _ (h.each p hp sb so e n)⟩
set_option maxRecDepth 100000 in
theorem HasM.mono {G G' : Nat → Prop} {x : MV} (h : HasM G x) (hG : ∀ k, G k → G' k) : HasM G' x :=
  ⟨fun sb so e n => hG _ (h.tx sb so e n), h.hb.mono hG, h.hp.mono hG, fun sb so e n => hG _ (h.sd sb so e n), h.cb.mono hG, h.cp.mono hG, fun sb so e n => hG _ (h.cv sb so e n)⟩
set_option maxRecDepth 100000 in
theorem NewM.has {B : Nat} {x : MV} (h : NewM B x.m x.bl x.pl x.cbl x.cpl) : HasM (fun k => B ≤ k) x :=
  ⟨fun sb so e _ => h.tx sb so e, ⟨fun sb so e _ => h.hb.row sb so e, fun p hp sb so e _ => h.hb.each p hp sb so e⟩, ⟨fun sb so e _ => h.hp.row sb so e, fun p hp sb so e _ => h.hp.each p hp sb so e⟩, fun sb so e _ => h.sd sb so e, ⟨fun sb so e _ => h.cb.row sb so e, fun p hp sb so e _ => h.cb.each p hp sb so e⟩, ⟨fun sb so e _ => h.cp.row sb so e, fun p hp sb so e _ => h.cp.each p hp sb so e⟩, fun sb so e _ => h.cv sb so e⟩
set_option maxRecDepth 100000 in
theorem length_pos_ne {α : Type} {l : List α} (h : l ≠ []) : 0 < l.length := by cases l with | nil => exact absurd rfl h | cons _ _ => simp
set_option maxRecDepth 100000 in
theorem slice_lt {w : World} {sa : Option Addr} {cap : Nat} {bs : List Int} (h : SliceAt w sa cap bs) (hn : bs ≠ []) {sb so : Nat} (e : sa = some ⟨sb, so, none⟩) : sb < w.heap.size := by
  rcases h.bytes with hb | ⟨sb', so', e', hc⟩
  · exact absurd hb hn
  · rw [e] at e'; cases e'; exact block_lt_of_cell (hc 0 (length_pos_ne hn))
set_option maxRecDepth 100000 in
theorem HasL.lt {w : World} {G : Nat → Prop} {ra : Option Addr} {rc : Nat} {qs : List Part} (h : HasL G ra qs) (H : ListAt w ra rc qs) : HasL (fun k => G k ∧ k < w.heap.size) ra qs := by
  refine ⟨fun sb so e n => ⟨h.row sb so e n, ?_⟩, fun p hp sb so e n => ⟨h.each p hp sb so e n, slice_lt (H.parts.each p hp) n e⟩⟩
  rcases H.parts.cells with hb | ⟨sb', so', e', hc⟩
  · exact absurd hb n
  · rw [e] at e'; cases e'; exact block_lt_of_cell (hc 0 (length_pos_ne n))
set_option maxRecDepth 100000 in
theorem HasM.lt {w : World} {G : Nat → Prop} {x : MV} (h : HasM G x) (H : MAt w x) : HasM (fun k => G k ∧ k < w.heap.size) x := by
  refine ⟨fun sb so e n => ⟨h.tx sb so e n, ?_⟩, h.hb.lt H.at'.bat, h.hp.lt H.at'.par, fun sb so e n => ⟨h.sd sb so e n, slice_lt H.dig n e⟩, h.cb.lt H.at'.cbat, h.cp.lt H.at'.cpar, fun sb so e n => ⟨h.cv sb so e n, ?_⟩⟩
  · rcases H.at'.txs.cells with hb | ⟨sb', so', e', hc⟩
    · exact absurd hb n
    · rw [e] at e'; cases e'; exact block_lt_of_cell (hc 0 (length_pos_ne n))
  · rcases H.at'.vot.cells with hb | ⟨sb', so', e', hc⟩
    · exact absurd hb n
    · rw [e] at e'; cases e'; exact block_lt_of_cell (hc 0 (length_pos_ne n))
set_option maxRecDepth 100000 in
/-- Blocks that stay as they are. -/
theorem slice_stays {w w' : World} {G : Nat → Prop} {sa : Option Addr} {cap : Nat} {bs : List Int} (hk : ∀ k, G k → w'.heap[k]? = w.heap[k]?) (h : SliceAt w sa cap bs) (hG : ∀ sb so, sa = some ⟨sb, so, none⟩ → bs ≠ [] → G sb) : SliceAt w' sa cap bs := by
  refine ⟨h.le, h.max, h.some, h.nil, ?_⟩
  rcases h.bytes with hb | ⟨sb, so, e, hc⟩
  · exact .inl hb
  · by_cases hz : bs = []
    · exact .inl hz
    · exact .inr ⟨sb, so, e, fun j hj => (World.cell?_of_block (hk sb (hG sb so e hz))).trans (hc j hj)⟩
set_option maxRecDepth 100000 in
theorem list_stays {w w' : World} {G : Nat → Prop} {ra : Option Addr} {rc : Nat} {qs : List Part} (hk : ∀ k, G k → w'.heap[k]? = w.heap[k]?) (h : ListAt w ra rc qs) (hG : HasL G ra qs) : ListAt w' ra rc qs := by
  refine ⟨h.le, h.max, h.small, h.some, ⟨?_, fun p hp => slice_stays hk (h.parts.each p hp) (hG.each p hp)⟩⟩
  rcases h.parts.cells with hb | ⟨sb, so, e, hc⟩
  · exact .inl hb
  · by_cases hz : qs = []
    · exact .inl hz
    · exact .inr ⟨sb, so, e, fun j hj => (World.cell?_of_block (hk sb (hG.row sb so e hz))).trans (hc j hj)⟩
set_option maxRecDepth 100000 in
theorem MAt.stays {w w' : World} {G : Nat → Prop} {x : MV} (hk : ∀ k, G k → w'.heap[k]? = w.heap[k]?) (h : MAt w x) (hG : HasM G x) : MAt w' x := by
  refine ⟨⟨h.at'.e1, h.at'.e2, h.at'.e3, h.at'.e4, h.at'.e5, h.at'.e6, h.at'.s1, h.at'.s6, h.at'.s7, ⟨?_, h.at'.txs.size⟩, list_stays hk h.at'.bat hG.hb, list_stays hk h.at'.par hG.hp, list_stays hk h.at'.cbat hG.cb, list_stays hk h.at'.cpar hG.cp, ⟨?_⟩⟩, slice_stays hk h.dig hG.sd, h.dn⟩
  · rcases h.at'.txs.cells with hb | ⟨sb, so, e, hc⟩
    · exact .inl hb
    · by_cases hz : x.ss = []
      · exact .inl hz
      · exact .inr ⟨sb, so, e, fun j hj => (World.cell?_of_block (hk sb (hG.tx sb so e hz))).trans (hc j hj)⟩
  · rcases h.at'.vot.cells with hb | ⟨sb, so, e, hc⟩
    · exact .inl hb
    · by_cases hz : x.vl = []
      · exact .inl hz
      · exact .inr ⟨sb, so, e, fun j hj => (World.cell?_of_block (hk sb (hG.cv sb so e hz))).trans (hc j hj)⟩
set_option maxRecDepth 100000 in
theorem MAt.setRow {w : World} {x : MV} {B b : Nat} {cs : Array Value} (h : MAt w x) (hG : HasM (fun k => B ≤ k) x) (hb : b < B) : MAt (w.setRow b cs) x :=
  h.stays (G := fun k => B ≤ k) (fun k hk => setRow_other w b k cs (by omega)) hG
set_option maxRecDepth 100000 in
theorem MAt.setCell {w : World} {x : MV} {B b j : Nat} {v : Value} (h : MAt w x) (hG : HasM (fun k => B ≤ k) x) (hb : b < B) : MAt (w.setCell ⟨b, j, none⟩ v) x :=
  h.stays (G := fun k => B ≤ k) (fun k hk => heap_setCell_other w ⟨b, j, none⟩ k v (by show k ≠ b; omega)) hG
/-- From nobody, to nobody. -/
def Msg.bare (m : Msg) : Msg := { m with fr := 0, tt := 0 }
def MV.bare (x : MV) : MV := { x with m := x.m.bare }
set_option maxRecDepth 100000 in
theorem MV.bare_at {w : World} {x : MV} (h : MAt w x) : MAt w x.bare := ⟨⟨h.at'.e1, h.at'.e2, h.at'.e3, h.at'.e4, h.at'.e5, h.at'.e6, h.at'.s1, h.at'.s6, h.at'.s7, h.at'.txs, h.at'.bat, h.at'.par, h.at'.cbat, h.at'.cpar, h.at'.vot⟩, h.dig, h.dn⟩
set_option maxRecDepth 100000 in
theorem MV.bare_has {G : Nat → Prop} {x : MV} (h : HasM G x) : HasM G x.bare := ⟨h.tx, h.hb, h.hp, h.sd, h.cb, h.cp, h.cv⟩
set_option maxRecDepth 100000 in
theorem strip_from (m : Msg) (a b : Int) : msgEmpty (strip { m with fr := a, tt := b }) = msgEmpty (strip m) := by
  by_cases k1 : m.ki = 1
  · simp [strip, msgEmpty, k1]
  by_cases k2 : m.ki = 2
  · simp [strip, msgEmpty, k2]
  by_cases k3 : m.ki = 3
  · simp [strip, msgEmpty, k3]
  by_cases k4 : m.ki = 4
  · simp [strip, msgEmpty, k4]
  · simp [strip, msgEmpty, k1, k2, k3, k4]
set_option maxRecDepth 100000 in
theorem MV.bare_rec {x : MV} (hc : x.car = 0) (he : msgEmpty (strip x.m) = true) (hk : x.m.ki ≠ 5) : IsRec x.bare :=
  ⟨hc, (strip_from x.m 0 0).trans he, rfl, rfl, hk⟩
end Go.Proofs.Ythlknldicpeobaa

namespace Go.Proofs.Ythlknldicpeobaa
open Go.RowKit

/-- What a message says. -/
structure MC where
  (fr tt ki bau bnu : Int) (ss : List ByteArray) (hau hrd : Int) (bl pl : List (List Int)) (sau srd : Int) (ds : List Int) (cau crd : Int) (cbl cpl : List (List Int)) (vl : List Int) (ro : Int)
def MV.c (x : MV) : MC := ⟨x.m.fr, x.m.tt, x.m.ki, x.m.bau, x.m.bnu, x.ss, x.m.hau, x.m.hrd, x.bl.map (·.bs), x.pl.map (·.bs), x.m.sau, x.m.srd, x.ds, x.m.cau, x.m.crd, x.cbl.map (·.bs), x.cpl.map (·.bs), x.vl, x.m.ro⟩
/-- The message that bytes tell, by its kind. -/
def pM (s : St) : MC :=
  if nB 1 s = 1 then ⟨nB 1 (nx 1 s), nB 1 (nx 1 (nx 1 s)), nB 1 s, nB 1 (nx 1 (nx 1 (nx 1 s))), nB 3 (nx 1 (nx 1 (nx 1 (nx 1 s)))), bT (nx 1 (bS3 (nx 1 (nx 1 (nx 1 s))))) (bN (nx 1 (nx 1 (nx 1 s)))), 0, 0, [], [], 0, 0, [], 0, 0, [], [], [], 0⟩
  else if nB 1 s = 2 then ⟨nB 1 (nx 1 s), nB 1 (nx 1 (nx 1 s)), nB 1 s, 0, 0, [], nB 1 (nx 1 (nx 1 (nx 1 s))), nB 3 (nx 1 (nx 1 (nx 1 (nx 1 s)))), dgs (nx 3 (nx 1 (nx 1 (nx 1 (nx 1 s))))), dgs (dgS (nx 3 (nx 1 (nx 1 (nx 1 (nx 1 s)))))), 0, 0, [], 0, 0, [], [], [], 0⟩
  else if nB 1 s = 3 then ⟨nB 1 (nx 1 s), nB 1 (nx 1 (nx 1 s)), nB 1 s, 0, 0, [], 0, 0, [], [], nB 1 (nx 1 (nx 1 (nx 1 s))), nB 3 (nx 1 (nx 1 (nx 1 (nx 1 s)))), tT 32 (nx 3 (nx 1 (nx 1 (nx 1 (nx 1 s))))), 0, 0, [], [], [], 0⟩
  else if nB 1 s = 4 then ⟨nB 1 (nx 1 s), nB 1 (nx 1 (nx 1 s)), nB 1 s, 0, 0, [], 0, 0, [], [], 0, 0, [], nB 1 (nx 1 (nx 1 (nx 1 s))), nB 3 (nx 1 (nx 1 (nx 1 (nx 1 s)))), dgs (nx 3 (nx 1 (nx 1 (nx 1 (nx 1 s))))), dgs (dgS (nx 3 (nx 1 (nx 1 (nx 1 (nx 1 s)))))), nV (nx 1 (hS4 (nx 1 (nx 1 (nx 1 s))))) (cN (nx 1 (nx 1 (nx 1 s)))), 0⟩
  else ⟨nB 1 (nx 1 s), nB 1 (nx 1 (nx 1 s)), nB 1 s, 0, 0, [], 0, 0, [], [], 0, 0, [], 0, 0, [], [], [], nB 3 (nx 1 (nx 1 (nx 1 s)))⟩
/-- What is left behind it. -/
def mS (s : St) : St :=
  if nB 1 s = 1 then bL (nx 1 (bS3 (nx 1 (nx 1 (nx 1 s))))) (bN (nx 1 (nx 1 (nx 1 s)))) else if nB 1 s = 2 then dgS (dgS (nx 3 (nx 1 (nx 1 (nx 1 (nx 1 s)))))) else if nB 1 s = 3 then nx 32 (nx 3 (nx 1 (nx 1 (nx 1 (nx 1 s))))) else if nB 1 s = 4 then nL (nx 1 (hS4 (nx 1 (nx 1 (nx 1 s))))) (cN (nx 1 (nx 1 (nx 1 s)))) else nx 3 (nx 1 (nx 1 (nx 1 s)))
structure MsgRd (w w' : World) (e : Ending) (R : Nat) (s : St) : Prop where
  out : ∃ x : MV, e = .returned (.agg #[.int .i64 x.m.fr, .int .i64 x.m.tt, .int .i64 x.m.ki, .int .i64 x.m.bau, .int .i64 x.m.bnu, .slice x.m.bta x.m.btn x.m.btc, .int .i64 x.m.hau, .int .i64 x.m.hrd, .slice x.m.hba x.m.hbn x.m.hbc, .slice x.m.hpa x.m.hpn x.m.hpc, .int .i64 x.m.sau, .int .i64 x.m.srd, .slice x.m.sda x.m.sdn x.m.sdc, .int .i64 x.m.cau, .int .i64 x.m.crd, .slice x.m.cba x.m.cbn x.m.cbc, .slice x.m.cpa x.m.cpn x.m.cpc, .slice x.m.cva x.m.cvn x.m.cvc, .int .i64 x.m.ro]) ∧ MAt w' x ∧ HasM (fun q => w.heap.size ≤ q) x ∧ x.c = pM s ∧ RdS w' R (mS s) ∧ Only R w w'
set_option maxRecDepth 100000 in
set_option maxHeartbeats 8000000 in
theorem message_rd (R : Nat) (s : St) (w : World) (hR : RdS w R s) (hs : GoodS s) (hk : 1 ≤ nB 1 s ∧ nB 1 s ≤ 5) :
    Calls Try.prog 33 #[.pointer (some ⟨R, 0, none⟩)] w fun e w' => MsgRd w w' e R s := by
  have hlt : R < w.heap.size := RdrAt.lt hR
  have hA : Below w.heap.size w (w.alloc (.cells #[.int .i64 0, .int .i64 0, .int .i64 0, .int .i64 0, .int .i64 0, .slice none 0 0, .int .i64 0, .int .i64 0, .slice none 0 0, .slice none 0 0, .int .i64 0, .int .i64 0, .slice none 0 0, .int .i64 0, .int .i64 0, .slice none 0 0, .slice none 0 0, .slice none 0 0, .int .i64 0] 35)) := (Below.refl _ _).alloc (Nat.le_refl _) _
  have q0 := heap_alloc_new w (.cells #[.int .i64 0, .int .i64 0, .int .i64 0, .int .i64 0, .int .i64 0, .slice none 0 0, .int .i64 0, .int .i64 0, .slice none 0 0, .slice none 0 0, .int .i64 0, .int .i64 0, .slice none 0 0, .int .i64 0, .int .i64 0, .slice none 0 0, .slice none 0 0, .slice none 0 0, .int .i64 0] 35)
  have hsz : w.heap.size < (w.alloc (.cells #[.int .i64 0, .int .i64 0, .int .i64 0, .int .i64 0, .int .i64 0, .slice none 0 0, .int .i64 0, .int .i64 0, .slice none 0 0, .slice none 0 0, .int .i64 0, .int .i64 0, .slice none 0 0, .int .i64 0, .int .i64 0, .slice none 0 0, .slice none 0 0, .slice none 0 0, .int .i64 0] 35)).heap.size := lt_of_heap q0
  have hgs3 : GoodS (nx 1 (nx 1 (nx 1 s))) := hs.nx.nx.nx
  have hn1 : bN (nx 1 (nx 1 (nx 1 s))) ≤ 255 := by have := nB1_bounds (s := bS3 (nx 1 (nx 1 (nx 1 s)))) hgs3.nx.nx; show (nB 1 (bS3 (nx 1 (nx 1 (nx 1 s))))).toNat ≤ 255; omega
  have hn4 : cN (nx 1 (nx 1 (nx 1 s))) ≤ 255 := by have := nB1_bounds (s := hS4 (nx 1 (nx 1 (nx 1 s)))) (GoodS.dgS (GoodS.dgS hgs3.nx.nx)); show (nB 1 (hS4 (nx 1 (nx 1 (nx 1 s))))).toNat ≤ 255; omega
  go_enter Try.func33, Try.ntmps33
  go_wp2_with fail
  generalize w.alloc (.cells #[.int .i64 0, .int .i64 0, .int .i64 0, .int .i64 0, .int .i64 0, .slice none 0 0, .int .i64 0, .int .i64 0, .slice none 0 0, .slice none 0 0, .int .i64 0, .int .i64 0, .slice none 0 0, .int .i64 0, .int .i64 0, .slice none 0 0, .slice none 0 0, .slice none 0 0, .int .i64 0] 35) = W0 at hA q0 hsz ⊢
  refine (number_st R 1 s W0 (RdrAt.below hR hA) hs (by omega)).mono ?_
  rintro e w1 ⟨he, hR1, ho1⟩
  subst he
  dsimp only
  go_wp2_with fail
  refine (number_st R 1 _ w1 hR1 hs.nx (by omega)).mono ?_
  rintro e w2 ⟨he, hR2, ho2⟩
  subst he
  dsimp only
  go_wp2_with fail
  refine (number_st R 1 _ w2 hR2 hs.nx.nx (by omega)).mono ?_
  rintro e w3 ⟨he, hR3, ho3⟩
  subst he
  dsimp only
  have hO3 := (ho1.trans ho2).trans ho3
  have p3 := (hO3.block _ hsz (by omega)).trans q0
  have hlt3 : w.heap.size < w3.heap.size := lt_of_heap p3
  have qz := heap_alloc_new w3 (.cells #[.int .i64 0, .int .i64 0, .int .i64 0, .int .i64 0, .int .i64 0, .slice none 0 0, .int .i64 0, .int .i64 0, .slice none 0 0, .slice none 0 0, .int .i64 0, .int .i64 0, .slice none 0 0, .int .i64 0, .int .i64 0, .slice none 0 0, .slice none 0 0, .slice none 0 0, .int .i64 0] 35)
  have hAM : Below w3.heap.size w3 ((w3.alloc (.cells #[.int .i64 0, .int .i64 0, .int .i64 0, .int .i64 0, .int .i64 0, .slice none 0 0, .int .i64 0, .int .i64 0, .slice none 0 0, .slice none 0 0, .int .i64 0, .int .i64 0, .slice none 0 0, .int .i64 0, .int .i64 0, .slice none 0 0, .slice none 0 0, .slice none 0 0, .int .i64 0] 35)).setRow w3.heap.size #[.int .i64 (nB 1 (nx 1 s)), .int .i64 (nB 1 (nx 1 (nx 1 s))), .int .i64 (nB 1 s), .int .i64 0, .int .i64 0, .slice none 0 0, .int .i64 0, .int .i64 0, .slice none 0 0, .slice none 0 0, .int .i64 0, .int .i64 0, .slice none 0 0, .int .i64 0, .int .i64 0, .slice none 0 0, .slice none 0 0, .slice none 0 0, .int .i64 0]) := laid_row w3 #[.int .i64 0, .int .i64 0, .int .i64 0, .int .i64 0, .int .i64 0, .slice none 0 0, .int .i64 0, .int .i64 0, .slice none 0 0, .slice none 0 0, .int .i64 0, .int .i64 0, .slice none 0 0, .int .i64 0, .int .i64 0, .slice none 0 0, .slice none 0 0, .slice none 0 0, .int .i64 0] #[.int .i64 (nB 1 (nx 1 s)), .int .i64 (nB 1 (nx 1 (nx 1 s))), .int .i64 (nB 1 s), .int .i64 0, .int .i64 0, .slice none 0 0, .int .i64 0, .int .i64 0, .slice none 0 0, .slice none 0 0, .int .i64 0, .int .i64 0, .slice none 0 0, .int .i64 0, .int .i64 0, .slice none 0 0, .slice none 0 0, .slice none 0 0, .int .i64 0] 35
  have qM := setRow_heap _ _ _ #[.int .i64 (nB 1 (nx 1 s)), .int .i64 (nB 1 (nx 1 (nx 1 s))), .int .i64 (nB 1 s), .int .i64 0, .int .i64 0, .slice none 0 0, .int .i64 0, .int .i64 0, .slice none 0 0, .slice none 0 0, .int .i64 0, .int .i64 0, .slice none 0 0, .int .i64 0, .int .i64 0, .slice none 0 0, .slice none 0 0, .slice none 0 0, .int .i64 0] _ _ qz
  have zM := (hAM.block _ hlt3).trans p3
  have hszM : w3.heap.size < ((w3.alloc (.cells #[.int .i64 0, .int .i64 0, .int .i64 0, .int .i64 0, .int .i64 0, .slice none 0 0, .int .i64 0, .int .i64 0, .slice none 0 0, .slice none 0 0, .int .i64 0, .int .i64 0, .slice none 0 0, .int .i64 0, .int .i64 0, .slice none 0 0, .slice none 0 0, .slice none 0 0, .int .i64 0] 35)).setRow w3.heap.size #[.int .i64 (nB 1 (nx 1 s)), .int .i64 (nB 1 (nx 1 (nx 1 s))), .int .i64 (nB 1 s), .int .i64 0, .int .i64 0, .slice none 0 0, .int .i64 0, .int .i64 0, .slice none 0 0, .slice none 0 0, .int .i64 0, .int .i64 0, .slice none 0 0, .int .i64 0, .int .i64 0, .slice none 0 0, .slice none 0 0, .slice none 0 0, .int .i64 0]).heap.size := lt_of_heap qM
  go_upto_region 2 with (refine wpList_store_row rfl 35 _ _ rfl w3.heap.size #[.int .i64 (nB 1 (nx 1 s)), .int .i64 (nB 1 (nx 1 (nx 1 s))), .int .i64 (nB 1 s), .int .i64 0, .int .i64 0, .slice none 0 0, .int .i64 0, .int .i64 0, .slice none 0 0, .slice none 0 0, .int .i64 0, .int .i64 0, .slice none 0 0, .int .i64 0, .int .i64 0, .slice none 0 0, .slice none 0 0, .slice none 0 0, .int .i64 0] rfl rfl 35 _ qz sMsg' rfl (by simp [Value.oneCell']) ?_)
  generalize (w3.alloc (.cells #[.int .i64 0, .int .i64 0, .int .i64 0, .int .i64 0, .int .i64 0, .slice none 0 0, .int .i64 0, .int .i64 0, .slice none 0 0, .slice none 0 0, .int .i64 0, .int .i64 0, .slice none 0 0, .int .i64 0, .int .i64 0, .slice none 0 0, .slice none 0 0, .slice none 0 0, .int .i64 0] 35)).setRow w3.heap.size #[.int .i64 (nB 1 (nx 1 s)), .int .i64 (nB 1 (nx 1 (nx 1 s))), .int .i64 (nB 1 s), .int .i64 0, .int .i64 0, .slice none 0 0, .int .i64 0, .int .i64 0, .slice none 0 0, .slice none 0 0, .int .i64 0, .int .i64 0, .slice none 0 0, .int .i64 0, .int .i64 0, .slice none 0 0, .slice none 0 0, .slice none 0 0, .int .i64 0] = WB at hAM qM zM hszM ⊢
  have hRM : RdS WB R (nx 1 (nx 1 (nx 1 s))) := RdrAt.below hR3 hAM
  have hOM : Only R W0 WB := hO3.trans (only_of_below hAM)
  have hOw0 : Only R w W0 := only_of_below hA
  generalize hMB : w3.heap.size = MB at qM hszM hlt3 ⊢
  clear hMB hAM qz p3 hO3 ho1 ho2 ho3 hR1 hR2 hR3 q0
  have c2 : WB.cell? ⟨MB, 2, none⟩ = some (.int .i64 (nB 1 s)) := cells_at qM 2 _ rfl
  have hkk : nB 1 s = 1 ∨ nB 1 s = 2 ∨ nB 1 s = 3 ∨ nB 1 s = 4 ∨ nB 1 s = 5 := by omega
  clear hk
  rcases hkk with hk | hk | hk | hk | hk
  · rw [hk] at qM c2 ⊢
    have HKI : Hid (nB 1 s = 1) := hk
    clear hk
    go_wp2_with fail
    refine (batch_rd R (nx 1 (nx 1 (nx 1 s))) WB hRM hgs3).mono ?_
    rintro e w5 ⟨ta, tc, he, hS5, hf5, hR5, ho5⟩
    subst he
    dsimp only
    have r5 := (ho5.block _ hszM (by omega)).trans qM
    have z5 := (ho5.block _ (by omega) (by omega)).trans zM
    have hO5 := hOM.trans ho5
    have hne0 : w.heap.size ≠ MB := by omega
    have hneM := hne0
    have x3 : w5.cell? ⟨MB, 3, none⟩ = some (.int .i64 0) := cells_at r5 3 _ rfl
    have y3 := frozen_at r5 3
    have x4 : w5.cell? ⟨MB, 4, none⟩ = some (.int .i64 0) := cells_at r5 4 _ rfl
    have y4 := frozen_at r5 4
    have x5 : w5.cell? ⟨MB, 5, none⟩ = some (.slice none 0 0) := cells_at r5 5 _ rfl
    have y5 := frozen_at r5 5
    have rF : (((w5.setCell ⟨MB, 3, none⟩ (.int .i64 (nB 1 (nx 1 (nx 1 (nx 1 s)))))).setCell ⟨MB, 4, none⟩ (.int .i64 (nB 3 (nx 1 (nx 1 (nx 1 (nx 1 s))))))).setCell ⟨MB, 5, none⟩ (.slice ta (bN (nx 1 (nx 1 (nx 1 s)))) tc)).heap[MB]? = some (.cells #[.int .i64 (nB 1 (nx 1 s)), .int .i64 (nB 1 (nx 1 (nx 1 s))), .int .i64 1, .int .i64 (nB 1 (nx 1 (nx 1 (nx 1 s)))), .int .i64 (nB 3 (nx 1 (nx 1 (nx 1 (nx 1 s))))), .slice ta (bN (nx 1 (nx 1 (nx 1 s)))) tc, .int .i64 0, .int .i64 0, .slice none 0 0, .slice none 0 0, .int .i64 0, .int .i64 0, .slice none 0 0, .int .i64 0, .int .i64 0, .slice none 0 0, .slice none 0 0, .slice none 0 0, .int .i64 0] 35 (0, 0)) := by simpa using (heap_setCell_same _ _ 5 _ _ (.slice ta (bN (nx 1 (nx 1 (nx 1 s)))) tc) (heap_setCell_same _ _ 4 _ _ (.int .i64 (nB 3 (nx 1 (nx 1 (nx 1 (nx 1 s)))))) (heap_setCell_same _ _ 3 _ _ (.int .i64 (nB 1 (nx 1 (nx 1 (nx 1 s))))) r5)))
    have zF := (heap_far (j := 5) (v := .slice ta (bN (nx 1 (nx 1 (nx 1 s)))) tc) (heap_far (j := 4) (v := .int .i64 (nB 3 (nx 1 (nx 1 (nx 1 (nx 1 s)))))) (heap_far (j := 3) (v := .int .i64 (nB 1 (nx 1 (nx 1 (nx 1 s))))) z5 hneM) hneM) hneM)
    have HX : Hid (∃ x : MV, (.agg #[.int .i64 x.m.fr, .int .i64 x.m.tt, .int .i64 x.m.ki, .int .i64 x.m.bau, .int .i64 x.m.bnu, .slice x.m.bta x.m.btn x.m.btc, .int .i64 x.m.hau, .int .i64 x.m.hrd, .slice x.m.hba x.m.hbn x.m.hbc, .slice x.m.hpa x.m.hpn x.m.hpc, .int .i64 x.m.sau, .int .i64 x.m.srd, .slice x.m.sda x.m.sdn x.m.sdc, .int .i64 x.m.cau, .int .i64 x.m.crd, .slice x.m.cba x.m.cbn x.m.cbc, .slice x.m.cpa x.m.cpn x.m.cpc, .slice x.m.cva x.m.cvn x.m.cvc, .int .i64 x.m.ro] : Value) = .agg #[.int .i64 (nB 1 (nx 1 s)), .int .i64 (nB 1 (nx 1 (nx 1 s))), .int .i64 1, .int .i64 (nB 1 (nx 1 (nx 1 (nx 1 s)))), .int .i64 (nB 3 (nx 1 (nx 1 (nx 1 (nx 1 s))))), .slice ta (bN (nx 1 (nx 1 (nx 1 s)))) tc, .int .i64 0, .int .i64 0, .slice none 0 0, .slice none 0 0, .int .i64 0, .int .i64 0, .slice none 0 0, .int .i64 0, .int .i64 0, .slice none 0 0, .slice none 0 0, .slice none 0 0, .int .i64 0] ∧ MAt w5 x ∧ HasM (fun q => WB.heap.size ≤ q) x ∧ x.c = pM s ∧ RdS w5 R (mS s)) := by
      refine ⟨⟨⟨nB 1 (nx 1 s), nB 1 (nx 1 (nx 1 s)), 1, nB 1 (nx 1 (nx 1 (nx 1 s))), nB 3 (nx 1 (nx 1 (nx 1 (nx 1 s)))), 0, 0, 0, 0, 0, 0, 0, ta, none, none, none, none, none, none, bN (nx 1 (nx 1 (nx 1 s))), tc, 0, 0, 0, 0, 0, 0, 0, 0, 0, 0, 0, 0⟩, bT (nx 1 (bS3 (nx 1 (nx 1 (nx 1 s))))) (bN (nx 1 (nx 1 (nx 1 s)))), [], [], [], [], [], []⟩, rfl, ⟨⟨(bT_length _ _).symm, rfl, rfl, rfl, rfl, rfl, by rw [bT_length]; have := hn1; omega, by simp, by simp, hS5, (list_nilM _), (list_nilM _), (list_nilM _), (list_nilM _), ⟨.inl rfl⟩⟩, (nilM _), rfl⟩, NewM.has (x := ⟨⟨nB 1 (nx 1 s), nB 1 (nx 1 (nx 1 s)), 1, nB 1 (nx 1 (nx 1 (nx 1 s))), nB 3 (nx 1 (nx 1 (nx 1 (nx 1 s)))), 0, 0, 0, 0, 0, 0, 0, ta, none, none, none, none, none, none, bN (nx 1 (nx 1 (nx 1 s))), tc, 0, 0, 0, 0, 0, 0, 0, 0, 0, 0, 0, 0⟩, bT (nx 1 (bS3 (nx 1 (nx 1 (nx 1 s))))) (bN (nx 1 (nx 1 (nx 1 s)))), [], [], [], [], [], []⟩) ⟨hf5, ⟨(fun _ _ e => by cases e), (fun p hp => by cases hp)⟩, ⟨(fun _ _ e => by cases e), (fun p hp => by cases hp)⟩, (fun _ _ e => by cases e), ⟨(fun _ _ e => by cases e), (fun p hp => by cases hp)⟩, ⟨(fun _ _ e => by cases e), (fun p hp => by cases hp)⟩, (fun _ _ e => by cases e)⟩, ?_, ?_⟩
      · simp only [MV.c, pM, HKI.out]; rfl
      · simp only [mS, HKI.out]
        exact hR5
    have HQ : Hid (∀ q, q ≠ MB → (((w5.setCell ⟨MB, 3, none⟩ (.int .i64 (nB 1 (nx 1 (nx 1 (nx 1 s)))))).setCell ⟨MB, 4, none⟩ (.int .i64 (nB 3 (nx 1 (nx 1 (nx 1 (nx 1 s))))))).setCell ⟨MB, 5, none⟩ (.slice ta (bN (nx 1 (nx 1 (nx 1 s)))) tc)).heap[q]? = w5.heap[q]?) := by
      show ∀ _, _
      intro q hq1
      exact ((heap_setCell_other _ ⟨MB, 5, none⟩ q _ hq1).trans ((heap_setCell_other _ ⟨MB, 4, none⟩ q _ hq1).trans ((heap_setCell_other _ ⟨MB, 3, none⟩ q _ hq1).trans (rfl : w5.heap[q]? = w5.heap[q]?))))
    have HZ : Hid ((((w5.setCell ⟨MB, 3, none⟩ (.int .i64 (nB 1 (nx 1 (nx 1 (nx 1 s)))))).setCell ⟨MB, 4, none⟩ (.int .i64 (nB 3 (nx 1 (nx 1 (nx 1 (nx 1 s))))))).setCell ⟨MB, 5, none⟩ (.slice ta (bN (nx 1 (nx 1 (nx 1 s)))) tc)).heap.size = w5.heap.size) := by show _ = _; simp
    have HO : Hid ((((w5.setCell ⟨MB, 3, none⟩ (.int .i64 (nB 1 (nx 1 (nx 1 (nx 1 s)))))).setCell ⟨MB, 4, none⟩ (.int .i64 (nB 3 (nx 1 (nx 1 (nx 1 (nx 1 s))))))).setCell ⟨MB, 5, none⟩ (.slice ta (bN (nx 1 (nx 1 (nx 1 s)))) tc)).os = w5.os ∧ (((w5.setCell ⟨MB, 3, none⟩ (.int .i64 (nB 1 (nx 1 (nx 1 (nx 1 s)))))).setCell ⟨MB, 4, none⟩ (.int .i64 (nB 3 (nx 1 (nx 1 (nx 1 (nx 1 s))))))).setCell ⟨MB, 5, none⟩ (.slice ta (bN (nx 1 (nx 1 (nx 1 s)))) tc)).tape = w5.tape ∧ (((w5.setCell ⟨MB, 3, none⟩ (.int .i64 (nB 1 (nx 1 (nx 1 (nx 1 s)))))).setCell ⟨MB, 4, none⟩ (.int .i64 (nB 3 (nx 1 (nx 1 (nx 1 (nx 1 s))))))).setCell ⟨MB, 5, none⟩ (.slice ta (bN (nx 1 (nx 1 (nx 1 s)))) tc)).output = w5.output) := ⟨rfl, rfl, rfl⟩
    go_upto_region 13 with fail
    generalize (((w5.setCell ⟨MB, 3, none⟩ (.int .i64 (nB 1 (nx 1 (nx 1 (nx 1 s)))))).setCell ⟨MB, 4, none⟩ (.int .i64 (nB 3 (nx 1 (nx 1 (nx 1 (nx 1 s))))))).setCell ⟨MB, 5, none⟩ (.slice ta (bN (nx 1 (nx 1 (nx 1 s)))) tc)) = VF at rF zF HQ HZ HO ⊢
    clear r5 z5 x3 y3 x4 y4 x5 y5
    go_wp2_with (first | refine wpList_load_row rfl 35 _ rfl MB rfl 35 #[.int .i64 (nB 1 (nx 1 s)), .int .i64 (nB 1 (nx 1 (nx 1 s))), .int .i64 1, .int .i64 (nB 1 (nx 1 (nx 1 (nx 1 s)))), .int .i64 (nB 3 (nx 1 (nx 1 (nx 1 (nx 1 s))))), .slice ta (bN (nx 1 (nx 1 (nx 1 s)))) tc, .int .i64 0, .int .i64 0, .slice none 0 0, .slice none 0 0, .int .i64 0, .int .i64 0, .slice none 0 0, .int .i64 0, .int .i64 0, .slice none 0 0, .slice none 0 0, .slice none 0 0, .int .i64 0] (0, 0) _ rF Try.underlying35 rfl sMsg' ?_ | refine wpList_store_row rfl 35 _ _ rfl w.heap.size #[.int .i64 (nB 1 (nx 1 s)), .int .i64 (nB 1 (nx 1 (nx 1 s))), .int .i64 1, .int .i64 (nB 1 (nx 1 (nx 1 (nx 1 s)))), .int .i64 (nB 3 (nx 1 (nx 1 (nx 1 (nx 1 s))))), .slice ta (bN (nx 1 (nx 1 (nx 1 s)))) tc, .int .i64 0, .int .i64 0, .slice none 0 0, .slice none 0 0, .int .i64 0, .int .i64 0, .slice none 0 0, .int .i64 0, .int .i64 0, .slice none 0 0, .slice none 0 0, .slice none 0 0, .int .i64 0] rfl rfl 35 _ zF sMsg' rfl (by simp [Value.oneCell']) ?_)
    obtain ⟨x, hxe, hxM, hxH, hxc, hxR⟩ := HX.out
    refine bodyPost_ret (v := .agg #[.int .i64 (nB 1 (nx 1 s)), .int .i64 (nB 1 (nx 1 (nx 1 s))), .int .i64 1, .int .i64 (nB 1 (nx 1 (nx 1 (nx 1 s)))), .int .i64 (nB 3 (nx 1 (nx 1 (nx 1 (nx 1 s))))), .slice ta (bN (nx 1 (nx 1 (nx 1 s)))) tc, .int .i64 0, .int .i64 0, .slice none 0 0, .slice none 0 0, .int .i64 0, .int .i64 0, .slice none 0 0, .int .i64 0, .int .i64 0, .slice none 0 0, .slice none 0 0, .slice none 0 0, .int .i64 0]) (results_cell_row (fn := Try.f33) (p := 2) (ty := 35) rfl _ _ w.heap.size 35 _ (0, 0) _ rfl (setRow_heap _ _ _ _ _ _ zF) Try.underlying35 rfl sMsg') rfl ⟨x, by rw [hxe], ?_, hxH.mono (fun q hq => by omega), hxc, ?_, ?_⟩
    · refine hxM.stays (G := fun q => WB.heap.size ≤ q) (fun q hq => ?_) hxH
      exact (setRow_other _ w.heap.size q _ (by omega)).trans (HQ.out q (by omega))
    · refine RdrAt.stays hxR (fun q hq => ?_)
      exact (setRow_other _ w.heap.size q _ (by omega)).trans (HQ.out q (by omega))
    · have hOw := hOw0.trans hO5
      refine ⟨HO.out.1.trans hOw.os, HO.out.2.1.trans hOw.tape, HO.out.2.2.trans hOw.output, by have := hOw.size; have := HZ.out; simp [World.setRow]; omega, fun q hq hn => ?_⟩
      exact ((setRow_other _ w.heap.size q _ (by omega)).trans (HQ.out q (by omega))).trans (hOw.block q hq hn)
  · rw [hk] at qM c2 ⊢
    have HKI : Hid (nB 1 s = 2) := hk
    clear hk
    go_wp2_with fail
    refine (header_rd R (nx 1 (nx 1 (nx 1 s))) WB hRM hgs3).mono ?_
    rintro e w5 ⟨ba, bc, bl, pa, pc, pl, he, hq1, hq2, hL1, hL2, hF1, hF2, hR5, ho5⟩
    subst he
    dsimp only
    have r5 := (ho5.block _ hszM (by omega)).trans qM
    have z5 := (ho5.block _ (by omega) (by omega)).trans zM
    have hO5 := hOM.trans ho5
    have hne0 : w.heap.size ≠ MB := by omega
    have hneM := hne0
    have x6 : w5.cell? ⟨MB, 6, none⟩ = some (.int .i64 0) := cells_at r5 6 _ rfl
    have y6 := frozen_at r5 6
    have x7 : w5.cell? ⟨MB, 7, none⟩ = some (.int .i64 0) := cells_at r5 7 _ rfl
    have y7 := frozen_at r5 7
    have x8 : w5.cell? ⟨MB, 8, none⟩ = some (.slice none 0 0) := cells_at r5 8 _ rfl
    have y8 := frozen_at r5 8
    have x9 : w5.cell? ⟨MB, 9, none⟩ = some (.slice none 0 0) := cells_at r5 9 _ rfl
    have y9 := frozen_at r5 9
    have rF : ((((w5.setCell ⟨MB, 6, none⟩ (.int .i64 (nB 1 (nx 1 (nx 1 (nx 1 s)))))).setCell ⟨MB, 7, none⟩ (.int .i64 (nB 3 (nx 1 (nx 1 (nx 1 (nx 1 s))))))).setCell ⟨MB, 8, none⟩ (.slice ba bl.length bc)).setCell ⟨MB, 9, none⟩ (.slice pa pl.length pc)).heap[MB]? = some (.cells #[.int .i64 (nB 1 (nx 1 s)), .int .i64 (nB 1 (nx 1 (nx 1 s))), .int .i64 2, .int .i64 0, .int .i64 0, .slice none 0 0, .int .i64 (nB 1 (nx 1 (nx 1 (nx 1 s)))), .int .i64 (nB 3 (nx 1 (nx 1 (nx 1 (nx 1 s))))), .slice ba bl.length bc, .slice pa pl.length pc, .int .i64 0, .int .i64 0, .slice none 0 0, .int .i64 0, .int .i64 0, .slice none 0 0, .slice none 0 0, .slice none 0 0, .int .i64 0] 35 (0, 0)) := by simpa using (heap_setCell_same _ _ 9 _ _ (.slice pa pl.length pc) (heap_setCell_same _ _ 8 _ _ (.slice ba bl.length bc) (heap_setCell_same _ _ 7 _ _ (.int .i64 (nB 3 (nx 1 (nx 1 (nx 1 (nx 1 s)))))) (heap_setCell_same _ _ 6 _ _ (.int .i64 (nB 1 (nx 1 (nx 1 (nx 1 s))))) r5))))
    have zF := (heap_far (j := 9) (v := .slice pa pl.length pc) (heap_far (j := 8) (v := .slice ba bl.length bc) (heap_far (j := 7) (v := .int .i64 (nB 3 (nx 1 (nx 1 (nx 1 (nx 1 s)))))) (heap_far (j := 6) (v := .int .i64 (nB 1 (nx 1 (nx 1 (nx 1 s))))) z5 hneM) hneM) hneM) hneM)
    have HX : Hid (∃ x : MV, (.agg #[.int .i64 x.m.fr, .int .i64 x.m.tt, .int .i64 x.m.ki, .int .i64 x.m.bau, .int .i64 x.m.bnu, .slice x.m.bta x.m.btn x.m.btc, .int .i64 x.m.hau, .int .i64 x.m.hrd, .slice x.m.hba x.m.hbn x.m.hbc, .slice x.m.hpa x.m.hpn x.m.hpc, .int .i64 x.m.sau, .int .i64 x.m.srd, .slice x.m.sda x.m.sdn x.m.sdc, .int .i64 x.m.cau, .int .i64 x.m.crd, .slice x.m.cba x.m.cbn x.m.cbc, .slice x.m.cpa x.m.cpn x.m.cpc, .slice x.m.cva x.m.cvn x.m.cvc, .int .i64 x.m.ro] : Value) = .agg #[.int .i64 (nB 1 (nx 1 s)), .int .i64 (nB 1 (nx 1 (nx 1 s))), .int .i64 2, .int .i64 0, .int .i64 0, .slice none 0 0, .int .i64 (nB 1 (nx 1 (nx 1 (nx 1 s)))), .int .i64 (nB 3 (nx 1 (nx 1 (nx 1 (nx 1 s))))), .slice ba bl.length bc, .slice pa pl.length pc, .int .i64 0, .int .i64 0, .slice none 0 0, .int .i64 0, .int .i64 0, .slice none 0 0, .slice none 0 0, .slice none 0 0, .int .i64 0] ∧ MAt w5 x ∧ HasM (fun q => WB.heap.size ≤ q) x ∧ x.c = pM s ∧ RdS w5 R (mS s)) := by
      refine ⟨⟨⟨nB 1 (nx 1 s), nB 1 (nx 1 (nx 1 s)), 2, 0, 0, nB 1 (nx 1 (nx 1 (nx 1 s))), nB 3 (nx 1 (nx 1 (nx 1 (nx 1 s)))), 0, 0, 0, 0, 0, none, ba, pa, none, none, none, none, 0, 0, bl.length, bc, pl.length, pc, 0, 0, 0, 0, 0, 0, 0, 0⟩, [], bl, pl, [], [], [], []⟩, rfl, ⟨⟨rfl, rfl, rfl, rfl, rfl, rfl, by simp, by simp, by simp, ⟨.inl rfl, fun s h => by cases h⟩, hL1, hL2, (list_nilM _), (list_nilM _), ⟨.inl rfl⟩⟩, (nilM _), rfl⟩, NewM.has (x := ⟨⟨nB 1 (nx 1 s), nB 1 (nx 1 (nx 1 s)), 2, 0, 0, nB 1 (nx 1 (nx 1 (nx 1 s))), nB 3 (nx 1 (nx 1 (nx 1 (nx 1 s)))), 0, 0, 0, 0, 0, none, ba, pa, none, none, none, none, 0, 0, bl.length, bc, pl.length, pc, 0, 0, 0, 0, 0, 0, 0, 0⟩, [], bl, pl, [], [], [], []⟩) ⟨(fun _ _ e => by cases e), hF1, hF2, (fun _ _ e => by cases e), ⟨(fun _ _ e => by cases e), (fun p hp => by cases hp)⟩, ⟨(fun _ _ e => by cases e), (fun p hp => by cases hp)⟩, (fun _ _ e => by cases e)⟩, ?_, ?_⟩
      · simp only [MV.c, pM, HKI.out, hq1, hq2]; rfl
      · simp only [mS, HKI.out]
        exact hR5
    clear hq1 hq2 hL1 hL2 hF1 hF2
    have HQ : Hid (∀ q, q ≠ MB → ((((w5.setCell ⟨MB, 6, none⟩ (.int .i64 (nB 1 (nx 1 (nx 1 (nx 1 s)))))).setCell ⟨MB, 7, none⟩ (.int .i64 (nB 3 (nx 1 (nx 1 (nx 1 (nx 1 s))))))).setCell ⟨MB, 8, none⟩ (.slice ba bl.length bc)).setCell ⟨MB, 9, none⟩ (.slice pa pl.length pc)).heap[q]? = w5.heap[q]?) := by
      show ∀ _, _
      intro q hq1
      exact ((heap_setCell_other _ ⟨MB, 9, none⟩ q _ hq1).trans ((heap_setCell_other _ ⟨MB, 8, none⟩ q _ hq1).trans ((heap_setCell_other _ ⟨MB, 7, none⟩ q _ hq1).trans ((heap_setCell_other _ ⟨MB, 6, none⟩ q _ hq1).trans (rfl : w5.heap[q]? = w5.heap[q]?)))))
    have HZ : Hid (((((w5.setCell ⟨MB, 6, none⟩ (.int .i64 (nB 1 (nx 1 (nx 1 (nx 1 s)))))).setCell ⟨MB, 7, none⟩ (.int .i64 (nB 3 (nx 1 (nx 1 (nx 1 (nx 1 s))))))).setCell ⟨MB, 8, none⟩ (.slice ba bl.length bc)).setCell ⟨MB, 9, none⟩ (.slice pa pl.length pc)).heap.size = w5.heap.size) := by show _ = _; simp
    have HO : Hid (((((w5.setCell ⟨MB, 6, none⟩ (.int .i64 (nB 1 (nx 1 (nx 1 (nx 1 s)))))).setCell ⟨MB, 7, none⟩ (.int .i64 (nB 3 (nx 1 (nx 1 (nx 1 (nx 1 s))))))).setCell ⟨MB, 8, none⟩ (.slice ba bl.length bc)).setCell ⟨MB, 9, none⟩ (.slice pa pl.length pc)).os = w5.os ∧ ((((w5.setCell ⟨MB, 6, none⟩ (.int .i64 (nB 1 (nx 1 (nx 1 (nx 1 s)))))).setCell ⟨MB, 7, none⟩ (.int .i64 (nB 3 (nx 1 (nx 1 (nx 1 (nx 1 s))))))).setCell ⟨MB, 8, none⟩ (.slice ba bl.length bc)).setCell ⟨MB, 9, none⟩ (.slice pa pl.length pc)).tape = w5.tape ∧ ((((w5.setCell ⟨MB, 6, none⟩ (.int .i64 (nB 1 (nx 1 (nx 1 (nx 1 s)))))).setCell ⟨MB, 7, none⟩ (.int .i64 (nB 3 (nx 1 (nx 1 (nx 1 (nx 1 s))))))).setCell ⟨MB, 8, none⟩ (.slice ba bl.length bc)).setCell ⟨MB, 9, none⟩ (.slice pa pl.length pc)).output = w5.output) := ⟨rfl, rfl, rfl⟩
    go_upto_region 13 with fail
    generalize ((((w5.setCell ⟨MB, 6, none⟩ (.int .i64 (nB 1 (nx 1 (nx 1 (nx 1 s)))))).setCell ⟨MB, 7, none⟩ (.int .i64 (nB 3 (nx 1 (nx 1 (nx 1 (nx 1 s))))))).setCell ⟨MB, 8, none⟩ (.slice ba bl.length bc)).setCell ⟨MB, 9, none⟩ (.slice pa pl.length pc)) = VF at rF zF HQ HZ HO ⊢
    clear r5 z5 x6 y6 x7 y7 x8 y8 x9 y9
    go_wp2_with (first | refine wpList_load_row rfl 35 _ rfl MB rfl 35 #[.int .i64 (nB 1 (nx 1 s)), .int .i64 (nB 1 (nx 1 (nx 1 s))), .int .i64 2, .int .i64 0, .int .i64 0, .slice none 0 0, .int .i64 (nB 1 (nx 1 (nx 1 (nx 1 s)))), .int .i64 (nB 3 (nx 1 (nx 1 (nx 1 (nx 1 s))))), .slice ba bl.length bc, .slice pa pl.length pc, .int .i64 0, .int .i64 0, .slice none 0 0, .int .i64 0, .int .i64 0, .slice none 0 0, .slice none 0 0, .slice none 0 0, .int .i64 0] (0, 0) _ rF Try.underlying35 rfl sMsg' ?_ | refine wpList_store_row rfl 35 _ _ rfl w.heap.size #[.int .i64 (nB 1 (nx 1 s)), .int .i64 (nB 1 (nx 1 (nx 1 s))), .int .i64 2, .int .i64 0, .int .i64 0, .slice none 0 0, .int .i64 (nB 1 (nx 1 (nx 1 (nx 1 s)))), .int .i64 (nB 3 (nx 1 (nx 1 (nx 1 (nx 1 s))))), .slice ba bl.length bc, .slice pa pl.length pc, .int .i64 0, .int .i64 0, .slice none 0 0, .int .i64 0, .int .i64 0, .slice none 0 0, .slice none 0 0, .slice none 0 0, .int .i64 0] rfl rfl 35 _ zF sMsg' rfl (by simp [Value.oneCell']) ?_)
    obtain ⟨x, hxe, hxM, hxH, hxc, hxR⟩ := HX.out
    refine bodyPost_ret (v := .agg #[.int .i64 (nB 1 (nx 1 s)), .int .i64 (nB 1 (nx 1 (nx 1 s))), .int .i64 2, .int .i64 0, .int .i64 0, .slice none 0 0, .int .i64 (nB 1 (nx 1 (nx 1 (nx 1 s)))), .int .i64 (nB 3 (nx 1 (nx 1 (nx 1 (nx 1 s))))), .slice ba bl.length bc, .slice pa pl.length pc, .int .i64 0, .int .i64 0, .slice none 0 0, .int .i64 0, .int .i64 0, .slice none 0 0, .slice none 0 0, .slice none 0 0, .int .i64 0]) (results_cell_row (fn := Try.f33) (p := 2) (ty := 35) rfl _ _ w.heap.size 35 _ (0, 0) _ rfl (setRow_heap _ _ _ _ _ _ zF) Try.underlying35 rfl sMsg') rfl ⟨x, by rw [hxe], ?_, hxH.mono (fun q hq => by omega), hxc, ?_, ?_⟩
    · refine hxM.stays (G := fun q => WB.heap.size ≤ q) (fun q hq => ?_) hxH
      exact (setRow_other _ w.heap.size q _ (by omega)).trans (HQ.out q (by omega))
    · refine RdrAt.stays hxR (fun q hq => ?_)
      exact (setRow_other _ w.heap.size q _ (by omega)).trans (HQ.out q (by omega))
    · have hOw := hOw0.trans hO5
      refine ⟨HO.out.1.trans hOw.os, HO.out.2.1.trans hOw.tape, HO.out.2.2.trans hOw.output, by have := hOw.size; have := HZ.out; simp [World.setRow]; omega, fun q hq hn => ?_⟩
      exact ((setRow_other _ w.heap.size q _ (by omega)).trans (HQ.out q (by omega))).trans (hOw.block q hq hn)
  · rw [hk] at qM c2 ⊢
    have HKI : Hid (nB 1 s = 3) := hk
    clear hk
    go_wp2_with fail
    refine (slot_any R (nx 1 (nx 1 (nx 1 s))) WB hRM hgs3).mono ?_
    rintro e w5 ⟨da, dc, he, hS5, hf5, hR5, ho5⟩
    subst he
    dsimp only
    have r5 := (ho5.block _ hszM (by omega)).trans qM
    have z5 := (ho5.block _ (by omega) (by omega)).trans zM
    have hO5 := hOM.trans ho5
    have hne0 : w.heap.size ≠ MB := by omega
    have hneM := hne0
    have x10 : w5.cell? ⟨MB, 10, none⟩ = some (.int .i64 0) := cells_at r5 10 _ rfl
    have y10 := frozen_at r5 10
    have x11 : w5.cell? ⟨MB, 11, none⟩ = some (.int .i64 0) := cells_at r5 11 _ rfl
    have y11 := frozen_at r5 11
    have x12 : w5.cell? ⟨MB, 12, none⟩ = some (.slice none 0 0) := cells_at r5 12 _ rfl
    have y12 := frozen_at r5 12
    have rF : (((w5.setCell ⟨MB, 10, none⟩ (.int .i64 (nB 1 (nx 1 (nx 1 (nx 1 s)))))).setCell ⟨MB, 11, none⟩ (.int .i64 (nB 3 (nx 1 (nx 1 (nx 1 (nx 1 s))))))).setCell ⟨MB, 12, none⟩ (.slice da (tT 32 (nx 3 (nx 1 (nx 1 (nx 1 (nx 1 s)))))).length dc)).heap[MB]? = some (.cells #[.int .i64 (nB 1 (nx 1 s)), .int .i64 (nB 1 (nx 1 (nx 1 s))), .int .i64 3, .int .i64 0, .int .i64 0, .slice none 0 0, .int .i64 0, .int .i64 0, .slice none 0 0, .slice none 0 0, .int .i64 (nB 1 (nx 1 (nx 1 (nx 1 s)))), .int .i64 (nB 3 (nx 1 (nx 1 (nx 1 (nx 1 s))))), .slice da (tT 32 (nx 3 (nx 1 (nx 1 (nx 1 (nx 1 s)))))).length dc, .int .i64 0, .int .i64 0, .slice none 0 0, .slice none 0 0, .slice none 0 0, .int .i64 0] 35 (0, 0)) := by simpa using (heap_setCell_same _ _ 12 _ _ (.slice da (tT 32 (nx 3 (nx 1 (nx 1 (nx 1 (nx 1 s)))))).length dc) (heap_setCell_same _ _ 11 _ _ (.int .i64 (nB 3 (nx 1 (nx 1 (nx 1 (nx 1 s)))))) (heap_setCell_same _ _ 10 _ _ (.int .i64 (nB 1 (nx 1 (nx 1 (nx 1 s))))) r5)))
    have zF := (heap_far (j := 12) (v := .slice da (tT 32 (nx 3 (nx 1 (nx 1 (nx 1 (nx 1 s)))))).length dc) (heap_far (j := 11) (v := .int .i64 (nB 3 (nx 1 (nx 1 (nx 1 (nx 1 s)))))) (heap_far (j := 10) (v := .int .i64 (nB 1 (nx 1 (nx 1 (nx 1 s))))) z5 hneM) hneM) hneM)
    have HX : Hid (∃ x : MV, (.agg #[.int .i64 x.m.fr, .int .i64 x.m.tt, .int .i64 x.m.ki, .int .i64 x.m.bau, .int .i64 x.m.bnu, .slice x.m.bta x.m.btn x.m.btc, .int .i64 x.m.hau, .int .i64 x.m.hrd, .slice x.m.hba x.m.hbn x.m.hbc, .slice x.m.hpa x.m.hpn x.m.hpc, .int .i64 x.m.sau, .int .i64 x.m.srd, .slice x.m.sda x.m.sdn x.m.sdc, .int .i64 x.m.cau, .int .i64 x.m.crd, .slice x.m.cba x.m.cbn x.m.cbc, .slice x.m.cpa x.m.cpn x.m.cpc, .slice x.m.cva x.m.cvn x.m.cvc, .int .i64 x.m.ro] : Value) = .agg #[.int .i64 (nB 1 (nx 1 s)), .int .i64 (nB 1 (nx 1 (nx 1 s))), .int .i64 3, .int .i64 0, .int .i64 0, .slice none 0 0, .int .i64 0, .int .i64 0, .slice none 0 0, .slice none 0 0, .int .i64 (nB 1 (nx 1 (nx 1 (nx 1 s)))), .int .i64 (nB 3 (nx 1 (nx 1 (nx 1 (nx 1 s))))), .slice da (tT 32 (nx 3 (nx 1 (nx 1 (nx 1 (nx 1 s)))))).length dc, .int .i64 0, .int .i64 0, .slice none 0 0, .slice none 0 0, .slice none 0 0, .int .i64 0] ∧ MAt w5 x ∧ HasM (fun q => WB.heap.size ≤ q) x ∧ x.c = pM s ∧ RdS w5 R (mS s)) := by
      refine ⟨⟨⟨nB 1 (nx 1 s), nB 1 (nx 1 (nx 1 s)), 3, 0, 0, 0, 0, nB 1 (nx 1 (nx 1 (nx 1 s))), nB 3 (nx 1 (nx 1 (nx 1 (nx 1 s)))), 0, 0, 0, none, none, none, da, none, none, none, 0, 0, 0, 0, 0, 0, (tT 32 (nx 3 (nx 1 (nx 1 (nx 1 (nx 1 s)))))).length, dc, 0, 0, 0, 0, 0, 0⟩, [], [], [], [], [], tT 32 (nx 3 (nx 1 (nx 1 (nx 1 (nx 1 s))))), []⟩, rfl, ⟨⟨rfl, rfl, rfl, rfl, rfl, rfl, by simp, by simp, by have := tkT_len (n := 32) (l := (nx 3 (nx 1 (nx 1 (nx 1 (nx 1 s))))).1) (sh := (nx 3 (nx 1 (nx 1 (nx 1 (nx 1 s))))).2); show (tkT _ _ _).length ≤ _; omega, ⟨.inl rfl, fun s h => by cases h⟩, (list_nilM _), (list_nilM _), (list_nilM _), (list_nilM _), ⟨.inl rfl⟩⟩, hS5, rfl⟩, NewM.has (x := ⟨⟨nB 1 (nx 1 s), nB 1 (nx 1 (nx 1 s)), 3, 0, 0, 0, 0, nB 1 (nx 1 (nx 1 (nx 1 s))), nB 3 (nx 1 (nx 1 (nx 1 (nx 1 s)))), 0, 0, 0, none, none, none, da, none, none, none, 0, 0, 0, 0, 0, 0, (tT 32 (nx 3 (nx 1 (nx 1 (nx 1 (nx 1 s)))))).length, dc, 0, 0, 0, 0, 0, 0⟩, [], [], [], [], [], tT 32 (nx 3 (nx 1 (nx 1 (nx 1 (nx 1 s))))), []⟩) ⟨(fun _ _ e => by cases e), ⟨(fun _ _ e => by cases e), (fun p hp => by cases hp)⟩, ⟨(fun _ _ e => by cases e), (fun p hp => by cases hp)⟩, hf5, ⟨(fun _ _ e => by cases e), (fun p hp => by cases hp)⟩, ⟨(fun _ _ e => by cases e), (fun p hp => by cases hp)⟩, (fun _ _ e => by cases e)⟩, ?_, ?_⟩
      · simp only [MV.c, pM, HKI.out]; rfl
      · simp only [mS, HKI.out]
        exact hR5
    have HQ : Hid (∀ q, q ≠ MB → (((w5.setCell ⟨MB, 10, none⟩ (.int .i64 (nB 1 (nx 1 (nx 1 (nx 1 s)))))).setCell ⟨MB, 11, none⟩ (.int .i64 (nB 3 (nx 1 (nx 1 (nx 1 (nx 1 s))))))).setCell ⟨MB, 12, none⟩ (.slice da (tT 32 (nx 3 (nx 1 (nx 1 (nx 1 (nx 1 s)))))).length dc)).heap[q]? = w5.heap[q]?) := by
      show ∀ _, _
      intro q hq1
      exact ((heap_setCell_other _ ⟨MB, 12, none⟩ q _ hq1).trans ((heap_setCell_other _ ⟨MB, 11, none⟩ q _ hq1).trans ((heap_setCell_other _ ⟨MB, 10, none⟩ q _ hq1).trans (rfl : w5.heap[q]? = w5.heap[q]?))))
    have HZ : Hid ((((w5.setCell ⟨MB, 10, none⟩ (.int .i64 (nB 1 (nx 1 (nx 1 (nx 1 s)))))).setCell ⟨MB, 11, none⟩ (.int .i64 (nB 3 (nx 1 (nx 1 (nx 1 (nx 1 s))))))).setCell ⟨MB, 12, none⟩ (.slice da (tT 32 (nx 3 (nx 1 (nx 1 (nx 1 (nx 1 s)))))).length dc)).heap.size = w5.heap.size) := by show _ = _; simp
    have HO : Hid ((((w5.setCell ⟨MB, 10, none⟩ (.int .i64 (nB 1 (nx 1 (nx 1 (nx 1 s)))))).setCell ⟨MB, 11, none⟩ (.int .i64 (nB 3 (nx 1 (nx 1 (nx 1 (nx 1 s))))))).setCell ⟨MB, 12, none⟩ (.slice da (tT 32 (nx 3 (nx 1 (nx 1 (nx 1 (nx 1 s)))))).length dc)).os = w5.os ∧ (((w5.setCell ⟨MB, 10, none⟩ (.int .i64 (nB 1 (nx 1 (nx 1 (nx 1 s)))))).setCell ⟨MB, 11, none⟩ (.int .i64 (nB 3 (nx 1 (nx 1 (nx 1 (nx 1 s))))))).setCell ⟨MB, 12, none⟩ (.slice da (tT 32 (nx 3 (nx 1 (nx 1 (nx 1 (nx 1 s)))))).length dc)).tape = w5.tape ∧ (((w5.setCell ⟨MB, 10, none⟩ (.int .i64 (nB 1 (nx 1 (nx 1 (nx 1 s)))))).setCell ⟨MB, 11, none⟩ (.int .i64 (nB 3 (nx 1 (nx 1 (nx 1 (nx 1 s))))))).setCell ⟨MB, 12, none⟩ (.slice da (tT 32 (nx 3 (nx 1 (nx 1 (nx 1 (nx 1 s)))))).length dc)).output = w5.output) := ⟨rfl, rfl, rfl⟩
    go_upto_region 13 with fail
    generalize (((w5.setCell ⟨MB, 10, none⟩ (.int .i64 (nB 1 (nx 1 (nx 1 (nx 1 s)))))).setCell ⟨MB, 11, none⟩ (.int .i64 (nB 3 (nx 1 (nx 1 (nx 1 (nx 1 s))))))).setCell ⟨MB, 12, none⟩ (.slice da (tT 32 (nx 3 (nx 1 (nx 1 (nx 1 (nx 1 s)))))).length dc)) = VF at rF zF HQ HZ HO ⊢
    clear r5 z5 x10 y10 x11 y11 x12 y12
    go_wp2_with (first | refine wpList_load_row rfl 35 _ rfl MB rfl 35 #[.int .i64 (nB 1 (nx 1 s)), .int .i64 (nB 1 (nx 1 (nx 1 s))), .int .i64 3, .int .i64 0, .int .i64 0, .slice none 0 0, .int .i64 0, .int .i64 0, .slice none 0 0, .slice none 0 0, .int .i64 (nB 1 (nx 1 (nx 1 (nx 1 s)))), .int .i64 (nB 3 (nx 1 (nx 1 (nx 1 (nx 1 s))))), .slice da (tT 32 (nx 3 (nx 1 (nx 1 (nx 1 (nx 1 s)))))).length dc, .int .i64 0, .int .i64 0, .slice none 0 0, .slice none 0 0, .slice none 0 0, .int .i64 0] (0, 0) _ rF Try.underlying35 rfl sMsg' ?_ | refine wpList_store_row rfl 35 _ _ rfl w.heap.size #[.int .i64 (nB 1 (nx 1 s)), .int .i64 (nB 1 (nx 1 (nx 1 s))), .int .i64 3, .int .i64 0, .int .i64 0, .slice none 0 0, .int .i64 0, .int .i64 0, .slice none 0 0, .slice none 0 0, .int .i64 (nB 1 (nx 1 (nx 1 (nx 1 s)))), .int .i64 (nB 3 (nx 1 (nx 1 (nx 1 (nx 1 s))))), .slice da (tT 32 (nx 3 (nx 1 (nx 1 (nx 1 (nx 1 s)))))).length dc, .int .i64 0, .int .i64 0, .slice none 0 0, .slice none 0 0, .slice none 0 0, .int .i64 0] rfl rfl 35 _ zF sMsg' rfl (by simp [Value.oneCell']) ?_)
    obtain ⟨x, hxe, hxM, hxH, hxc, hxR⟩ := HX.out
    refine bodyPost_ret (v := .agg #[.int .i64 (nB 1 (nx 1 s)), .int .i64 (nB 1 (nx 1 (nx 1 s))), .int .i64 3, .int .i64 0, .int .i64 0, .slice none 0 0, .int .i64 0, .int .i64 0, .slice none 0 0, .slice none 0 0, .int .i64 (nB 1 (nx 1 (nx 1 (nx 1 s)))), .int .i64 (nB 3 (nx 1 (nx 1 (nx 1 (nx 1 s))))), .slice da (tT 32 (nx 3 (nx 1 (nx 1 (nx 1 (nx 1 s)))))).length dc, .int .i64 0, .int .i64 0, .slice none 0 0, .slice none 0 0, .slice none 0 0, .int .i64 0]) (results_cell_row (fn := Try.f33) (p := 2) (ty := 35) rfl _ _ w.heap.size 35 _ (0, 0) _ rfl (setRow_heap _ _ _ _ _ _ zF) Try.underlying35 rfl sMsg') rfl ⟨x, by rw [hxe], ?_, hxH.mono (fun q hq => by omega), hxc, ?_, ?_⟩
    · refine hxM.stays (G := fun q => WB.heap.size ≤ q) (fun q hq => ?_) hxH
      exact (setRow_other _ w.heap.size q _ (by omega)).trans (HQ.out q (by omega))
    · refine RdrAt.stays hxR (fun q hq => ?_)
      exact (setRow_other _ w.heap.size q _ (by omega)).trans (HQ.out q (by omega))
    · have hOw := hOw0.trans hO5
      refine ⟨HO.out.1.trans hOw.os, HO.out.2.1.trans hOw.tape, HO.out.2.2.trans hOw.output, by have := hOw.size; have := HZ.out; simp [World.setRow]; omega, fun q hq hn => ?_⟩
      exact ((setRow_other _ w.heap.size q _ (by omega)).trans (HQ.out q (by omega))).trans (hOw.block q hq hn)
  · rw [hk] at qM c2 ⊢
    have HKI : Hid (nB 1 s = 4) := hk
    clear hk
    go_wp2_with fail
    refine (cert_rd R (nx 1 (nx 1 (nx 1 s))) WB hRM hgs3).mono ?_
    rintro e w5 ⟨ba, bc, bl, pa, pc, pl, va, vc, he, hq1, hq2, hL1, hL2, hF1, hF2, hI5, hf5, hR5, ho5⟩
    subst he
    dsimp only
    have r5 := (ho5.block _ hszM (by omega)).trans qM
    have z5 := (ho5.block _ (by omega) (by omega)).trans zM
    have hO5 := hOM.trans ho5
    have hne0 : w.heap.size ≠ MB := by omega
    have hneM := hne0
    have x13 : w5.cell? ⟨MB, 13, none⟩ = some (.int .i64 0) := cells_at r5 13 _ rfl
    have y13 := frozen_at r5 13
    have x14 : w5.cell? ⟨MB, 14, none⟩ = some (.int .i64 0) := cells_at r5 14 _ rfl
    have y14 := frozen_at r5 14
    have x15 : w5.cell? ⟨MB, 15, none⟩ = some (.slice none 0 0) := cells_at r5 15 _ rfl
    have y15 := frozen_at r5 15
    have x16 : w5.cell? ⟨MB, 16, none⟩ = some (.slice none 0 0) := cells_at r5 16 _ rfl
    have y16 := frozen_at r5 16
    have x17 : w5.cell? ⟨MB, 17, none⟩ = some (.slice none 0 0) := cells_at r5 17 _ rfl
    have y17 := frozen_at r5 17
    have rF : (((((w5.setCell ⟨MB, 13, none⟩ (.int .i64 (nB 1 (nx 1 (nx 1 (nx 1 s)))))).setCell ⟨MB, 14, none⟩ (.int .i64 (nB 3 (nx 1 (nx 1 (nx 1 (nx 1 s))))))).setCell ⟨MB, 15, none⟩ (.slice ba bl.length bc)).setCell ⟨MB, 16, none⟩ (.slice pa pl.length pc)).setCell ⟨MB, 17, none⟩ (.slice va (cN (nx 1 (nx 1 (nx 1 s)))) vc)).heap[MB]? = some (.cells #[.int .i64 (nB 1 (nx 1 s)), .int .i64 (nB 1 (nx 1 (nx 1 s))), .int .i64 4, .int .i64 0, .int .i64 0, .slice none 0 0, .int .i64 0, .int .i64 0, .slice none 0 0, .slice none 0 0, .int .i64 0, .int .i64 0, .slice none 0 0, .int .i64 (nB 1 (nx 1 (nx 1 (nx 1 s)))), .int .i64 (nB 3 (nx 1 (nx 1 (nx 1 (nx 1 s))))), .slice ba bl.length bc, .slice pa pl.length pc, .slice va (cN (nx 1 (nx 1 (nx 1 s)))) vc, .int .i64 0] 35 (0, 0)) := by simpa using (heap_setCell_same _ _ 17 _ _ (.slice va (cN (nx 1 (nx 1 (nx 1 s)))) vc) (heap_setCell_same _ _ 16 _ _ (.slice pa pl.length pc) (heap_setCell_same _ _ 15 _ _ (.slice ba bl.length bc) (heap_setCell_same _ _ 14 _ _ (.int .i64 (nB 3 (nx 1 (nx 1 (nx 1 (nx 1 s)))))) (heap_setCell_same _ _ 13 _ _ (.int .i64 (nB 1 (nx 1 (nx 1 (nx 1 s))))) r5)))))
    have zF := (heap_far (j := 17) (v := .slice va (cN (nx 1 (nx 1 (nx 1 s)))) vc) (heap_far (j := 16) (v := .slice pa pl.length pc) (heap_far (j := 15) (v := .slice ba bl.length bc) (heap_far (j := 14) (v := .int .i64 (nB 3 (nx 1 (nx 1 (nx 1 (nx 1 s)))))) (heap_far (j := 13) (v := .int .i64 (nB 1 (nx 1 (nx 1 (nx 1 s))))) z5 hneM) hneM) hneM) hneM) hneM)
    have HX : Hid (∃ x : MV, (.agg #[.int .i64 x.m.fr, .int .i64 x.m.tt, .int .i64 x.m.ki, .int .i64 x.m.bau, .int .i64 x.m.bnu, .slice x.m.bta x.m.btn x.m.btc, .int .i64 x.m.hau, .int .i64 x.m.hrd, .slice x.m.hba x.m.hbn x.m.hbc, .slice x.m.hpa x.m.hpn x.m.hpc, .int .i64 x.m.sau, .int .i64 x.m.srd, .slice x.m.sda x.m.sdn x.m.sdc, .int .i64 x.m.cau, .int .i64 x.m.crd, .slice x.m.cba x.m.cbn x.m.cbc, .slice x.m.cpa x.m.cpn x.m.cpc, .slice x.m.cva x.m.cvn x.m.cvc, .int .i64 x.m.ro] : Value) = .agg #[.int .i64 (nB 1 (nx 1 s)), .int .i64 (nB 1 (nx 1 (nx 1 s))), .int .i64 4, .int .i64 0, .int .i64 0, .slice none 0 0, .int .i64 0, .int .i64 0, .slice none 0 0, .slice none 0 0, .int .i64 0, .int .i64 0, .slice none 0 0, .int .i64 (nB 1 (nx 1 (nx 1 (nx 1 s)))), .int .i64 (nB 3 (nx 1 (nx 1 (nx 1 (nx 1 s))))), .slice ba bl.length bc, .slice pa pl.length pc, .slice va (cN (nx 1 (nx 1 (nx 1 s)))) vc, .int .i64 0] ∧ MAt w5 x ∧ HasM (fun q => WB.heap.size ≤ q) x ∧ x.c = pM s ∧ RdS w5 R (mS s)) := by
      refine ⟨⟨⟨nB 1 (nx 1 s), nB 1 (nx 1 (nx 1 s)), 4, 0, 0, 0, 0, 0, 0, nB 1 (nx 1 (nx 1 (nx 1 s))), nB 3 (nx 1 (nx 1 (nx 1 (nx 1 s)))), 0, none, none, none, none, ba, pa, va, 0, 0, 0, 0, 0, 0, 0, 0, bl.length, bc, pl.length, pc, cN (nx 1 (nx 1 (nx 1 s))), vc⟩, [], [], [], bl, pl, [], nV (nx 1 (hS4 (nx 1 (nx 1 (nx 1 s))))) (cN (nx 1 (nx 1 (nx 1 s))))⟩, rfl, ⟨⟨rfl, rfl, rfl, rfl, rfl, (nV_length _ _).symm, by simp, by rw [nV_length]; have := hn4; omega, by simp, ⟨.inl rfl, fun s h => by cases h⟩, (list_nilM _), (list_nilM _), hL1, hL2, hI5⟩, (nilM _), rfl⟩, NewM.has (x := ⟨⟨nB 1 (nx 1 s), nB 1 (nx 1 (nx 1 s)), 4, 0, 0, 0, 0, 0, 0, nB 1 (nx 1 (nx 1 (nx 1 s))), nB 3 (nx 1 (nx 1 (nx 1 (nx 1 s)))), 0, none, none, none, none, ba, pa, va, 0, 0, 0, 0, 0, 0, 0, 0, bl.length, bc, pl.length, pc, cN (nx 1 (nx 1 (nx 1 s))), vc⟩, [], [], [], bl, pl, [], nV (nx 1 (hS4 (nx 1 (nx 1 (nx 1 s))))) (cN (nx 1 (nx 1 (nx 1 s))))⟩) ⟨(fun _ _ e => by cases e), ⟨(fun _ _ e => by cases e), (fun p hp => by cases hp)⟩, ⟨(fun _ _ e => by cases e), (fun p hp => by cases hp)⟩, (fun _ _ e => by cases e), hF1, hF2, hf5⟩, ?_, ?_⟩
      · simp only [MV.c, pM, HKI.out, hq1, hq2]; rfl
      · simp only [mS, HKI.out]
        exact hR5
    clear hq1 hq2 hL1 hL2 hF1 hF2 hI5
    have HQ : Hid (∀ q, q ≠ MB → (((((w5.setCell ⟨MB, 13, none⟩ (.int .i64 (nB 1 (nx 1 (nx 1 (nx 1 s)))))).setCell ⟨MB, 14, none⟩ (.int .i64 (nB 3 (nx 1 (nx 1 (nx 1 (nx 1 s))))))).setCell ⟨MB, 15, none⟩ (.slice ba bl.length bc)).setCell ⟨MB, 16, none⟩ (.slice pa pl.length pc)).setCell ⟨MB, 17, none⟩ (.slice va (cN (nx 1 (nx 1 (nx 1 s)))) vc)).heap[q]? = w5.heap[q]?) := by
      show ∀ _, _
      intro q hq1
      exact ((heap_setCell_other _ ⟨MB, 17, none⟩ q _ hq1).trans ((heap_setCell_other _ ⟨MB, 16, none⟩ q _ hq1).trans ((heap_setCell_other _ ⟨MB, 15, none⟩ q _ hq1).trans ((heap_setCell_other _ ⟨MB, 14, none⟩ q _ hq1).trans ((heap_setCell_other _ ⟨MB, 13, none⟩ q _ hq1).trans (rfl : w5.heap[q]? = w5.heap[q]?))))))
    have HZ : Hid ((((((w5.setCell ⟨MB, 13, none⟩ (.int .i64 (nB 1 (nx 1 (nx 1 (nx 1 s)))))).setCell ⟨MB, 14, none⟩ (.int .i64 (nB 3 (nx 1 (nx 1 (nx 1 (nx 1 s))))))).setCell ⟨MB, 15, none⟩ (.slice ba bl.length bc)).setCell ⟨MB, 16, none⟩ (.slice pa pl.length pc)).setCell ⟨MB, 17, none⟩ (.slice va (cN (nx 1 (nx 1 (nx 1 s)))) vc)).heap.size = w5.heap.size) := by show _ = _; simp
    have HO : Hid ((((((w5.setCell ⟨MB, 13, none⟩ (.int .i64 (nB 1 (nx 1 (nx 1 (nx 1 s)))))).setCell ⟨MB, 14, none⟩ (.int .i64 (nB 3 (nx 1 (nx 1 (nx 1 (nx 1 s))))))).setCell ⟨MB, 15, none⟩ (.slice ba bl.length bc)).setCell ⟨MB, 16, none⟩ (.slice pa pl.length pc)).setCell ⟨MB, 17, none⟩ (.slice va (cN (nx 1 (nx 1 (nx 1 s)))) vc)).os = w5.os ∧ (((((w5.setCell ⟨MB, 13, none⟩ (.int .i64 (nB 1 (nx 1 (nx 1 (nx 1 s)))))).setCell ⟨MB, 14, none⟩ (.int .i64 (nB 3 (nx 1 (nx 1 (nx 1 (nx 1 s))))))).setCell ⟨MB, 15, none⟩ (.slice ba bl.length bc)).setCell ⟨MB, 16, none⟩ (.slice pa pl.length pc)).setCell ⟨MB, 17, none⟩ (.slice va (cN (nx 1 (nx 1 (nx 1 s)))) vc)).tape = w5.tape ∧ (((((w5.setCell ⟨MB, 13, none⟩ (.int .i64 (nB 1 (nx 1 (nx 1 (nx 1 s)))))).setCell ⟨MB, 14, none⟩ (.int .i64 (nB 3 (nx 1 (nx 1 (nx 1 (nx 1 s))))))).setCell ⟨MB, 15, none⟩ (.slice ba bl.length bc)).setCell ⟨MB, 16, none⟩ (.slice pa pl.length pc)).setCell ⟨MB, 17, none⟩ (.slice va (cN (nx 1 (nx 1 (nx 1 s)))) vc)).output = w5.output) := ⟨rfl, rfl, rfl⟩
    go_upto_region 13 with fail
    generalize (((((w5.setCell ⟨MB, 13, none⟩ (.int .i64 (nB 1 (nx 1 (nx 1 (nx 1 s)))))).setCell ⟨MB, 14, none⟩ (.int .i64 (nB 3 (nx 1 (nx 1 (nx 1 (nx 1 s))))))).setCell ⟨MB, 15, none⟩ (.slice ba bl.length bc)).setCell ⟨MB, 16, none⟩ (.slice pa pl.length pc)).setCell ⟨MB, 17, none⟩ (.slice va (cN (nx 1 (nx 1 (nx 1 s)))) vc)) = VF at rF zF HQ HZ HO ⊢
    clear r5 z5 x13 y13 x14 y14 x15 y15 x16 y16 x17 y17
    go_wp2_with (first | refine wpList_load_row rfl 35 _ rfl MB rfl 35 #[.int .i64 (nB 1 (nx 1 s)), .int .i64 (nB 1 (nx 1 (nx 1 s))), .int .i64 4, .int .i64 0, .int .i64 0, .slice none 0 0, .int .i64 0, .int .i64 0, .slice none 0 0, .slice none 0 0, .int .i64 0, .int .i64 0, .slice none 0 0, .int .i64 (nB 1 (nx 1 (nx 1 (nx 1 s)))), .int .i64 (nB 3 (nx 1 (nx 1 (nx 1 (nx 1 s))))), .slice ba bl.length bc, .slice pa pl.length pc, .slice va (cN (nx 1 (nx 1 (nx 1 s)))) vc, .int .i64 0] (0, 0) _ rF Try.underlying35 rfl sMsg' ?_ | refine wpList_store_row rfl 35 _ _ rfl w.heap.size #[.int .i64 (nB 1 (nx 1 s)), .int .i64 (nB 1 (nx 1 (nx 1 s))), .int .i64 4, .int .i64 0, .int .i64 0, .slice none 0 0, .int .i64 0, .int .i64 0, .slice none 0 0, .slice none 0 0, .int .i64 0, .int .i64 0, .slice none 0 0, .int .i64 (nB 1 (nx 1 (nx 1 (nx 1 s)))), .int .i64 (nB 3 (nx 1 (nx 1 (nx 1 (nx 1 s))))), .slice ba bl.length bc, .slice pa pl.length pc, .slice va (cN (nx 1 (nx 1 (nx 1 s)))) vc, .int .i64 0] rfl rfl 35 _ zF sMsg' rfl (by simp [Value.oneCell']) ?_)
    obtain ⟨x, hxe, hxM, hxH, hxc, hxR⟩ := HX.out
    refine bodyPost_ret (v := .agg #[.int .i64 (nB 1 (nx 1 s)), .int .i64 (nB 1 (nx 1 (nx 1 s))), .int .i64 4, .int .i64 0, .int .i64 0, .slice none 0 0, .int .i64 0, .int .i64 0, .slice none 0 0, .slice none 0 0, .int .i64 0, .int .i64 0, .slice none 0 0, .int .i64 (nB 1 (nx 1 (nx 1 (nx 1 s)))), .int .i64 (nB 3 (nx 1 (nx 1 (nx 1 (nx 1 s))))), .slice ba bl.length bc, .slice pa pl.length pc, .slice va (cN (nx 1 (nx 1 (nx 1 s)))) vc, .int .i64 0]) (results_cell_row (fn := Try.f33) (p := 2) (ty := 35) rfl _ _ w.heap.size 35 _ (0, 0) _ rfl (setRow_heap _ _ _ _ _ _ zF) Try.underlying35 rfl sMsg') rfl ⟨x, by rw [hxe], ?_, hxH.mono (fun q hq => by omega), hxc, ?_, ?_⟩
    · refine hxM.stays (G := fun q => WB.heap.size ≤ q) (fun q hq => ?_) hxH
      exact (setRow_other _ w.heap.size q _ (by omega)).trans (HQ.out q (by omega))
    · refine RdrAt.stays hxR (fun q hq => ?_)
      exact (setRow_other _ w.heap.size q _ (by omega)).trans (HQ.out q (by omega))
    · have hOw := hOw0.trans hO5
      refine ⟨HO.out.1.trans hOw.os, HO.out.2.1.trans hOw.tape, HO.out.2.2.trans hOw.output, by have := hOw.size; have := HZ.out; simp [World.setRow]; omega, fun q hq hn => ?_⟩
      exact ((setRow_other _ w.heap.size q _ (by omega)).trans (HQ.out q (by omega))).trans (hOw.block q hq hn)
  · rw [hk] at qM c2 ⊢
    have HKI : Hid (nB 1 s = 5) := hk
    clear hk
    go_wp2_with fail
    refine (round_st R (nx 1 (nx 1 (nx 1 s))) WB hRM hgs3).mono ?_
    rintro e w5 ⟨he, hR5, ho5⟩
    subst he
    dsimp only
    have r5 := (ho5.block _ hszM (by omega)).trans qM
    have z5 := (ho5.block _ (by omega) (by omega)).trans zM
    have hO5 := hOM.trans ho5
    have hne0 : w.heap.size ≠ MB := by omega
    have hneM := hne0
    have x18 : w5.cell? ⟨MB, 18, none⟩ = some (.int .i64 0) := cells_at r5 18 _ rfl
    have y18 := frozen_at r5 18
    have rF : (w5.setCell ⟨MB, 18, none⟩ (.int .i64 (nB 3 (nx 1 (nx 1 (nx 1 s)))))).heap[MB]? = some (.cells #[.int .i64 (nB 1 (nx 1 s)), .int .i64 (nB 1 (nx 1 (nx 1 s))), .int .i64 5, .int .i64 0, .int .i64 0, .slice none 0 0, .int .i64 0, .int .i64 0, .slice none 0 0, .slice none 0 0, .int .i64 0, .int .i64 0, .slice none 0 0, .int .i64 0, .int .i64 0, .slice none 0 0, .slice none 0 0, .slice none 0 0, .int .i64 (nB 3 (nx 1 (nx 1 (nx 1 s))))] 35 (0, 0)) := by simpa using (heap_setCell_same _ _ 18 _ _ (.int .i64 (nB 3 (nx 1 (nx 1 (nx 1 s))))) r5)
    have zF := (heap_far (j := 18) (v := .int .i64 (nB 3 (nx 1 (nx 1 (nx 1 s))))) z5 hneM)
    have HX : Hid (∃ x : MV, (.agg #[.int .i64 x.m.fr, .int .i64 x.m.tt, .int .i64 x.m.ki, .int .i64 x.m.bau, .int .i64 x.m.bnu, .slice x.m.bta x.m.btn x.m.btc, .int .i64 x.m.hau, .int .i64 x.m.hrd, .slice x.m.hba x.m.hbn x.m.hbc, .slice x.m.hpa x.m.hpn x.m.hpc, .int .i64 x.m.sau, .int .i64 x.m.srd, .slice x.m.sda x.m.sdn x.m.sdc, .int .i64 x.m.cau, .int .i64 x.m.crd, .slice x.m.cba x.m.cbn x.m.cbc, .slice x.m.cpa x.m.cpn x.m.cpc, .slice x.m.cva x.m.cvn x.m.cvc, .int .i64 x.m.ro] : Value) = .agg #[.int .i64 (nB 1 (nx 1 s)), .int .i64 (nB 1 (nx 1 (nx 1 s))), .int .i64 5, .int .i64 0, .int .i64 0, .slice none 0 0, .int .i64 0, .int .i64 0, .slice none 0 0, .slice none 0 0, .int .i64 0, .int .i64 0, .slice none 0 0, .int .i64 0, .int .i64 0, .slice none 0 0, .slice none 0 0, .slice none 0 0, .int .i64 (nB 3 (nx 1 (nx 1 (nx 1 s))))] ∧ MAt w5 x ∧ HasM (fun q => WB.heap.size ≤ q) x ∧ x.c = pM s ∧ RdS w5 R (mS s)) := by
      refine ⟨⟨⟨nB 1 (nx 1 s), nB 1 (nx 1 (nx 1 s)), 5, 0, 0, 0, 0, 0, 0, 0, 0, nB 3 (nx 1 (nx 1 (nx 1 s))), none, none, none, none, none, none, none, 0, 0, 0, 0, 0, 0, 0, 0, 0, 0, 0, 0, 0, 0⟩, [], [], [], [], [], [], []⟩, rfl, ⟨⟨rfl, rfl, rfl, rfl, rfl, rfl, by simp, by simp, by simp, ⟨.inl rfl, fun s h => by cases h⟩, (list_nilM _), (list_nilM _), (list_nilM _), (list_nilM _), ⟨.inl rfl⟩⟩, (nilM _), rfl⟩, NewM.has (x := ⟨⟨nB 1 (nx 1 s), nB 1 (nx 1 (nx 1 s)), 5, 0, 0, 0, 0, 0, 0, 0, 0, nB 3 (nx 1 (nx 1 (nx 1 s))), none, none, none, none, none, none, none, 0, 0, 0, 0, 0, 0, 0, 0, 0, 0, 0, 0, 0, 0⟩, [], [], [], [], [], [], []⟩) ⟨(fun _ _ e => by cases e), ⟨(fun _ _ e => by cases e), (fun p hp => by cases hp)⟩, ⟨(fun _ _ e => by cases e), (fun p hp => by cases hp)⟩, (fun _ _ e => by cases e), ⟨(fun _ _ e => by cases e), (fun p hp => by cases hp)⟩, ⟨(fun _ _ e => by cases e), (fun p hp => by cases hp)⟩, (fun _ _ e => by cases e)⟩, ?_, ?_⟩
      · simp only [MV.c, pM, HKI.out]; rfl
      · simp only [mS, HKI.out]
        exact hR5
    have HQ : Hid (∀ q, q ≠ MB → (w5.setCell ⟨MB, 18, none⟩ (.int .i64 (nB 3 (nx 1 (nx 1 (nx 1 s)))))).heap[q]? = w5.heap[q]?) := by
      show ∀ _, _
      intro q hq1
      exact ((heap_setCell_other _ ⟨MB, 18, none⟩ q _ hq1).trans (rfl : w5.heap[q]? = w5.heap[q]?))
    have HZ : Hid ((w5.setCell ⟨MB, 18, none⟩ (.int .i64 (nB 3 (nx 1 (nx 1 (nx 1 s)))))).heap.size = w5.heap.size) := by show _ = _; simp
    have HO : Hid ((w5.setCell ⟨MB, 18, none⟩ (.int .i64 (nB 3 (nx 1 (nx 1 (nx 1 s)))))).os = w5.os ∧ (w5.setCell ⟨MB, 18, none⟩ (.int .i64 (nB 3 (nx 1 (nx 1 (nx 1 s)))))).tape = w5.tape ∧ (w5.setCell ⟨MB, 18, none⟩ (.int .i64 (nB 3 (nx 1 (nx 1 (nx 1 s)))))).output = w5.output) := ⟨rfl, rfl, rfl⟩
    go_upto_region 13 with fail
    generalize (w5.setCell ⟨MB, 18, none⟩ (.int .i64 (nB 3 (nx 1 (nx 1 (nx 1 s)))))) = VF at rF zF HQ HZ HO ⊢
    clear r5 z5 x18 y18
    go_wp2_with (first | refine wpList_load_row rfl 35 _ rfl MB rfl 35 #[.int .i64 (nB 1 (nx 1 s)), .int .i64 (nB 1 (nx 1 (nx 1 s))), .int .i64 5, .int .i64 0, .int .i64 0, .slice none 0 0, .int .i64 0, .int .i64 0, .slice none 0 0, .slice none 0 0, .int .i64 0, .int .i64 0, .slice none 0 0, .int .i64 0, .int .i64 0, .slice none 0 0, .slice none 0 0, .slice none 0 0, .int .i64 (nB 3 (nx 1 (nx 1 (nx 1 s))))] (0, 0) _ rF Try.underlying35 rfl sMsg' ?_ | refine wpList_store_row rfl 35 _ _ rfl w.heap.size #[.int .i64 (nB 1 (nx 1 s)), .int .i64 (nB 1 (nx 1 (nx 1 s))), .int .i64 5, .int .i64 0, .int .i64 0, .slice none 0 0, .int .i64 0, .int .i64 0, .slice none 0 0, .slice none 0 0, .int .i64 0, .int .i64 0, .slice none 0 0, .int .i64 0, .int .i64 0, .slice none 0 0, .slice none 0 0, .slice none 0 0, .int .i64 (nB 3 (nx 1 (nx 1 (nx 1 s))))] rfl rfl 35 _ zF sMsg' rfl (by simp [Value.oneCell']) ?_)
    obtain ⟨x, hxe, hxM, hxH, hxc, hxR⟩ := HX.out
    refine bodyPost_ret (v := .agg #[.int .i64 (nB 1 (nx 1 s)), .int .i64 (nB 1 (nx 1 (nx 1 s))), .int .i64 5, .int .i64 0, .int .i64 0, .slice none 0 0, .int .i64 0, .int .i64 0, .slice none 0 0, .slice none 0 0, .int .i64 0, .int .i64 0, .slice none 0 0, .int .i64 0, .int .i64 0, .slice none 0 0, .slice none 0 0, .slice none 0 0, .int .i64 (nB 3 (nx 1 (nx 1 (nx 1 s))))]) (results_cell_row (fn := Try.f33) (p := 2) (ty := 35) rfl _ _ w.heap.size 35 _ (0, 0) _ rfl (setRow_heap _ _ _ _ _ _ zF) Try.underlying35 rfl sMsg') rfl ⟨x, by rw [hxe], ?_, hxH.mono (fun q hq => by omega), hxc, ?_, ?_⟩
    · refine hxM.stays (G := fun q => WB.heap.size ≤ q) (fun q hq => ?_) hxH
      exact (setRow_other _ w.heap.size q _ (by omega)).trans (HQ.out q (by omega))
    · refine RdrAt.stays hxR (fun q hq => ?_)
      exact (setRow_other _ w.heap.size q _ (by omega)).trans (HQ.out q (by omega))
    · have hOw := hOw0.trans hO5
      refine ⟨HO.out.1.trans hOw.os, HO.out.2.1.trans hOw.tape, HO.out.2.2.trans hOw.output, by have := hOw.size; have := HZ.out; simp [World.setRow]; omega, fun q hq hn => ?_⟩
      exact ((setRow_other _ w.heap.size q _ (by omega)).trans (HQ.out q (by omega))).trans (hOw.block q hq hn)
end Go.Proofs.Ythlknldicpeobaa

namespace Go.Proofs.Ythlknldicpeobaa
open Go.RowKit

set_option maxRecDepth 100000 in
theorem isKind_bool (k : Int) (r : Bool) (w : World) (h : r = decide (1 ≤ k ∧ k ≤ 5)) : Calls Try.prog 32 #[.int .i64 k] w fun e w' => e = .returned (.bool r) ∧ w = w' := by
  by_cases h1 : 1 ≤ k
  · by_cases h2 : k ≤ 5
    · obtain rfl : r = true := by simp [h, h1, h2]
      clear h
      go_enter Try.func32, Try.ntmps32
      go_wp2
      go_ret
      exact ⟨rfl, rfl⟩
    · obtain rfl : r = false := by simp [h, h2]
      clear h
      go_enter Try.func32, Try.ntmps32
      go_wp2
      go_ret
      exact ⟨rfl, rfl⟩
  · obtain rfl : r = false := by simp [h, h1]
    clear h
    go_enter Try.func32, Try.ntmps32
    go_wp2
    go_ret
    exact ⟨rfl, rfl⟩
/-- P2.10: what is told of bytes, but for what they say. -/
def readF (bs : List Int) : Int := if 4000 < bs.length then 1 else if bs = [] then 5 else if ¬ (1 ≤ bs.getD 0 0 ∧ bs.getD 0 0 ≤ 5) then 3 else if (mS (bs, false)).2 = true then 5 else if (mS (bs, false)).1 ≠ [] then 4 else 0
/-- What read gives. -/
structure ReadIs (w w' : World) (e : Ending) (bs : List Int) : Prop where
  out : (readF bs ≠ 0 ∧ e = .returned (.tuple #[.agg #[.int .i64 0, .int .i64 0, .int .i64 0, .int .i64 0, .int .i64 0, .slice none 0 0, .int .i64 0, .int .i64 0, .slice none 0 0, .slice none 0 0, .int .i64 0, .int .i64 0, .slice none 0 0, .int .i64 0, .int .i64 0, .slice none 0 0, .slice none 0 0, .slice none 0 0, .int .i64 0], .int .i64 (readF bs)]) ∨ readF bs = 0 ∧ ∃ x : MV, e = .returned (.tuple #[.agg #[.int .i64 x.m.fr, .int .i64 x.m.tt, .int .i64 x.m.ki, .int .i64 x.m.bau, .int .i64 x.m.bnu, .slice x.m.bta x.m.btn x.m.btc, .int .i64 x.m.hau, .int .i64 x.m.hrd, .slice x.m.hba x.m.hbn x.m.hbc, .slice x.m.hpa x.m.hpn x.m.hpc, .int .i64 x.m.sau, .int .i64 x.m.srd, .slice x.m.sda x.m.sdn x.m.sdc, .int .i64 x.m.cau, .int .i64 x.m.crd, .slice x.m.cba x.m.cbn x.m.cbc, .slice x.m.cpa x.m.cpn x.m.cpc, .slice x.m.cva x.m.cvn x.m.cvc, .int .i64 x.m.ro], .int .i64 0]) ∧ MAt w' x ∧ HasM (fun q => w.heap.size ≤ q) x ∧ x.c = pM (bs, false))
  below : Below w.heap.size w w'
set_option maxRecDepth 100000 in
theorem nB1_first {bs : List Int} (h : bs ≠ []) : nB 1 (bs, false) = bs.getD 0 0 := by
  cases bs with
  | nil => exact absurd rfl h
  | cons a l =>
    have e : tT 1 (a :: l, false) = [a] := (tk_ok (n := 1) (l := a :: l) (by simp)).1
    rw [nB, e]
    simp [numB]
set_option maxRecDepth 100000 in
theorem results_cell_slot {fn : Func} {p q : Tmp} {ty : TypeId} (h : fn.results = #[.cell p ty, .tmp q]) (tmps : Array Value) (w : World) (g : Nat) (t : TypeId) (cs : Array Value) (fr : Nat × Nat) (d : TypeDesc) (v : Value)
    (hp : tmps.getD p undef = .pointer (some ⟨g, 0, none⟩) ∧ tmps.getD q undef = v) (hg : w.heap[g]? = some (.cells cs t fr))
    (hu : Try.prog.underlying ty = some d) (hd : (match d with | .struct _ | .array _ _ => true | _ => false) = true) (hi : (Try.prog.info? ty).map (·.size) = some cs.size) :
    (results fn tmps).run Try.prog w = .ok (.tuple #[.agg cs, v]) w := by
  have hp' : tmps[p]?.getD undef = .pointer (some ⟨g, 0, none⟩) := by simpa using hp.1
  have hq' : tmps[q]?.getD undef = v := by simpa using hp.2
  simp [results, h, hp', hq', asAddr, run_loadVar_row w g t ty cs fr d hg hu (by cases d <;> first | exact hd | rfl) hi]
set_option maxRecDepth 100000 in
set_option maxHeartbeats 4000000 in
theorem read_any (bs : List Int) (sa : Option Addr) (n cap : Nat) (w : World) (hn : n = bs.length) (hs : SliceAt w sa cap bs) (hu : U8s bs) (hl : bs.length ≤ 140737488355328) :
    Calls Try.prog 14 #[.slice sa n cap] w fun e w' => ReadIs w w' e bs := by
  subst hn
  have hA : Below w.heap.size w (w.alloc (.cells #[.int .i64 0, .int .i64 0, .int .i64 0, .int .i64 0, .int .i64 0, .slice none 0 0, .int .i64 0, .int .i64 0, .slice none 0 0, .slice none 0 0, .int .i64 0, .int .i64 0, .slice none 0 0, .int .i64 0, .int .i64 0, .slice none 0 0, .slice none 0 0, .slice none 0 0, .int .i64 0] 35)) := (Below.refl _ _).alloc (Nat.le_refl _) _
  have q0 := heap_alloc_new w (.cells #[.int .i64 0, .int .i64 0, .int .i64 0, .int .i64 0, .int .i64 0, .slice none 0 0, .int .i64 0, .int .i64 0, .slice none 0 0, .slice none 0 0, .int .i64 0, .int .i64 0, .slice none 0 0, .int .i64 0, .int .i64 0, .slice none 0 0, .slice none 0 0, .slice none 0 0, .int .i64 0] 35)
  have hsz : w.heap.size < (w.alloc (.cells #[.int .i64 0, .int .i64 0, .int .i64 0, .int .i64 0, .int .i64 0, .slice none 0 0, .int .i64 0, .int .i64 0, .slice none 0 0, .slice none 0 0, .int .i64 0, .int .i64 0, .slice none 0 0, .int .i64 0, .int .i64 0, .slice none 0 0, .slice none 0 0, .slice none 0 0, .int .i64 0] 35)).heap.size := lt_of_heap q0
  by_cases h1 : 4000 < bs.length
  · have hF : Hid (readF bs = 1) := by show _ = _; rw [readF, if_pos h1]
    have h1I : (4000 : Int) < bs.length := by omega
    go_enter Try.func14, Try.ntmps14
    go_upto_region 2 with fail
    generalize w.alloc (.cells #[.int .i64 0, .int .i64 0, .int .i64 0, .int .i64 0, .int .i64 0, .slice none 0 0, .int .i64 0, .int .i64 0, .slice none 0 0, .slice none 0 0, .int .i64 0, .int .i64 0, .slice none 0 0, .int .i64 0, .int .i64 0, .slice none 0 0, .slice none 0 0, .slice none 0 0, .int .i64 0] 35) = W0 at hA q0 hsz ⊢
    go_wp2_with (refine wpList_store_row rfl 35 _ _ rfl w.heap.size #[.int .i64 0, .int .i64 0, .int .i64 0, .int .i64 0, .int .i64 0, .slice none 0 0, .int .i64 0, .int .i64 0, .slice none 0 0, .slice none 0 0, .int .i64 0, .int .i64 0, .slice none 0 0, .int .i64 0, .int .i64 0, .slice none 0 0, .slice none 0 0, .slice none 0 0, .int .i64 0] rfl rfl 35 _ q0 sMsg' rfl (by simp [Value.oneCell']) ?_)
    have hFc := hF.out
    refine bodyPost_ret (v := .tuple #[.agg #[.int .i64 0, .int .i64 0, .int .i64 0, .int .i64 0, .int .i64 0, .slice none 0 0, .int .i64 0, .int .i64 0, .slice none 0 0, .slice none 0 0, .int .i64 0, .int .i64 0, .slice none 0 0, .int .i64 0, .int .i64 0, .slice none 0 0, .slice none 0 0, .slice none 0 0, .int .i64 0], .int .i64 1]) (results_cell_slot (fn := Try.f14) (p := 2) (q := 3) (ty := 35) rfl _ _ w.heap.size 35 _ (0, 0) _ (.int .i64 1) ⟨rfl, rfl⟩ (setRow_heap _ _ _ _ _ _ q0) Try.underlying35 rfl sMsg') rfl ⟨.inl ⟨by rw [hFc]; decide, by rw [hFc]⟩, (Upd.setRow q0).below hA hA.size (Nat.le_refl _)⟩
  · have h1I : ¬ (4000 : Int) < bs.length := by omega
    by_cases h2 : bs = []
    · have hF : Hid (readF bs = 5) := by show _ = _; rw [readF, if_neg h1, if_pos h2]
      have h2I : ((bs.length : Int) == 0) = true := by rw [h2]; rfl
      clear h2 hs hu
      go_enter Try.func14, Try.ntmps14
      go_upto_region 4 with fail
      generalize w.alloc (.cells #[.int .i64 0, .int .i64 0, .int .i64 0, .int .i64 0, .int .i64 0, .slice none 0 0, .int .i64 0, .int .i64 0, .slice none 0 0, .slice none 0 0, .int .i64 0, .int .i64 0, .slice none 0 0, .int .i64 0, .int .i64 0, .slice none 0 0, .slice none 0 0, .slice none 0 0, .int .i64 0] 35) = W0 at hA q0 hsz ⊢
      go_wp2_with (refine wpList_store_row rfl 35 _ _ rfl w.heap.size #[.int .i64 0, .int .i64 0, .int .i64 0, .int .i64 0, .int .i64 0, .slice none 0 0, .int .i64 0, .int .i64 0, .slice none 0 0, .slice none 0 0, .int .i64 0, .int .i64 0, .slice none 0 0, .int .i64 0, .int .i64 0, .slice none 0 0, .slice none 0 0, .slice none 0 0, .int .i64 0] rfl rfl 35 _ q0 sMsg' rfl (by simp [Value.oneCell']) ?_)
      have hFc := hF.out
      refine bodyPost_ret (v := .tuple #[.agg #[.int .i64 0, .int .i64 0, .int .i64 0, .int .i64 0, .int .i64 0, .slice none 0 0, .int .i64 0, .int .i64 0, .slice none 0 0, .slice none 0 0, .int .i64 0, .int .i64 0, .slice none 0 0, .int .i64 0, .int .i64 0, .slice none 0 0, .slice none 0 0, .slice none 0 0, .int .i64 0], .int .i64 5]) (results_cell_slot (fn := Try.f14) (p := 2) (q := 3) (ty := 35) rfl _ _ w.heap.size 35 _ (0, 0) _ (.int .i64 5) ⟨rfl, rfl⟩ (setRow_heap _ _ _ _ _ _ q0) Try.underlying35 rfl sMsg') rfl ⟨.inl ⟨by rw [hFc]; decide, by rw [hFc]⟩, (Upd.setRow q0).below hA hA.size (Nat.le_refl _)⟩
    · have hpos : 0 < bs.length := by cases bs with | nil => exact absurd rfl h2 | cons _ _ => simp
      have hposI : (0 : Int) < bs.length := by omega
      have h2I : ((bs.length : Int) == 0) = false := by simp; omega
      obtain ⟨sb, so, rfl, hc⟩ : ∃ sb so, sa = some ⟨sb, so, none⟩ ∧ ∀ j, j < bs.length → w.cell? ⟨sb, so + j, none⟩ = some (.int .u8 (bs.getD j 0)) := by
        rcases hs.bytes with h | h
        · exact absurd h h2
        · exact h
      have hsb : sb < w.heap.size := block_lt_of_cell (hc 0 hpos)
      have c0 : (w.alloc (.cells #[.int .i64 0, .int .i64 0, .int .i64 0, .int .i64 0, .int .i64 0, .slice none 0 0, .int .i64 0, .int .i64 0, .slice none 0 0, .slice none 0 0, .int .i64 0, .int .i64 0, .slice none 0 0, .int .i64 0, .int .i64 0, .slice none 0 0, .slice none 0 0, .slice none 0 0, .int .i64 0] 35)).cell? ⟨sb, so, none⟩ = some (.int .u8 (bs.getD 0 0)) := (hA.cell (p := ⟨sb, so, none⟩) hsb).trans (hc 0 hpos)
      obtain ⟨hx0, hx1⟩ := hu (bs.getD 0 0) (by simp [List.getD, hpos])
      have hK := nB1_first h2
      have hR0 : readF bs = if ¬ (1 ≤ bs.getD 0 0 ∧ bs.getD 0 0 ≤ 5) then 3 else if (mS (bs, false)).2 = true then 5 else if (mS (bs, false)).1 ≠ [] then 4 else 0 := by rw [readF, if_neg h1, if_neg h2]
      have HR0 : Hid _ := hR0
      have HNE : Hid (bs ≠ []) := h2
      clear hR0 hc h2
      generalize hX : bs.getD 0 0 = X at *
      have HKX : Hid (nB 1 (bs, false) = X) := hK
      clear hK hX
      by_cases hk : 1 ≤ X ∧ X ≤ 5
      · have hkd : decide (1 ≤ X ∧ X ≤ 5) = true := decide_eq_true hk
        have HIK : Hid (∀ W : World, Calls Try.prog 32 #[.int .i64 X] W fun e w' => e = .returned (.bool true) ∧ W = w') := by
          show ∀ _, _
          intro W
          exact isKind_bool X true W hkd.symm
        have HKK : Hid (1 ≤ X ∧ X ≤ 5) := hk
        clear hkd
        obtain ⟨hk1, hk2⟩ := hk
        go_enter Try.func14, Try.ntmps14
        go_upto_region 8 with (go_at_call 32; refine (HIK.out _).mono ?_; rintro e w9 ⟨rfl, rfl⟩)
        have hA2 : Below w.heap.size w ((w.alloc (.cells #[.int .i64 0, .int .i64 0, .int .i64 0, .int .i64 0, .int .i64 0, .slice none 0 0, .int .i64 0, .int .i64 0, .slice none 0 0, .slice none 0 0, .int .i64 0, .int .i64 0, .slice none 0 0, .int .i64 0, .int .i64 0, .slice none 0 0, .slice none 0 0, .slice none 0 0, .int .i64 0] 35)).alloc (.cells #[.slice (some ⟨sb, so, none⟩) bs.length cap, .bool false] 70)) := hA.alloc hA.size _
        have qR := heap_alloc2_new w (.cells #[.int .i64 0, .int .i64 0, .int .i64 0, .int .i64 0, .int .i64 0, .slice none 0 0, .int .i64 0, .int .i64 0, .slice none 0 0, .slice none 0 0, .int .i64 0, .int .i64 0, .slice none 0 0, .int .i64 0, .int .i64 0, .slice none 0 0, .slice none 0 0, .slice none 0 0, .int .i64 0] 35) (.cells #[.slice (some ⟨sb, so, none⟩) bs.length cap, .bool false] 70)
        have q0A := heap_alloc2_old w (.cells #[.int .i64 0, .int .i64 0, .int .i64 0, .int .i64 0, .int .i64 0, .slice none 0 0, .int .i64 0, .int .i64 0, .slice none 0 0, .slice none 0 0, .int .i64 0, .int .i64 0, .slice none 0 0, .int .i64 0, .int .i64 0, .slice none 0 0, .slice none 0 0, .slice none 0 0, .int .i64 0] 35) (.cells #[.slice (some ⟨sb, so, none⟩) bs.length cap, .bool false] 70)
        generalize (w.alloc (.cells #[.int .i64 0, .int .i64 0, .int .i64 0, .int .i64 0, .int .i64 0, .slice none 0 0, .int .i64 0, .int .i64 0, .slice none 0 0, .slice none 0 0, .int .i64 0, .int .i64 0, .slice none 0 0, .int .i64 0, .int .i64 0, .slice none 0 0, .slice none 0 0, .slice none 0 0, .int .i64 0] 35)).alloc (.cells #[.slice (some ⟨sb, so, none⟩) bs.length cap, .bool false] 70) = W2 at hA2 qR q0A ⊢
        have hRd : RdS W2 (w.heap.size + 1) (bs, false) := ⟨some ⟨sb, so, none⟩, cap, qR, hs.below hA2, fun sb' so' e => by cases e; exact ⟨by omega, fun _ => by omega⟩⟩
        have hMs := message_rd (w.heap.size + 1) (bs, false) W2 hRd ⟨by show bs.length ≤ _; omega, hu⟩ (by rw [HKX.out]; exact HKK.out)
        have hszW : w.heap.size + 1 < W2.heap.size := lt_of_heap qR
        have HR1 : Hid (readF bs = if (mS (bs, false)).2 = true then 5 else if (mS (bs, false)).1 ≠ [] then 4 else 0) := by show _ = _; rw [HR0.out, if_neg (fun h => h HKK.out)]
        clear hRd c0 HR0 hs hu hA q0 hsz
        go_wp2_with fail
        refine hMs.mono ?_
        rintro e w3 ⟨x, he, hM, hH, hcx, hR3, ho3⟩
        subst he
        dsimp only
        clear hMs
        have z3 := (ho3.block _ (by omega) (by omega)).trans q0A
        obtain ⟨la, lc, hr3, -, -⟩ := RdrAt.out hR3
        generalize (mS (bs, false)).1 = ml at *
        generalize (mS (bs, false)).2 = msh at *
        have hOw : Only (w.heap.size + 1) w w3 := (only_of_below hA2).trans ho3
        have hB3 := hOw.below (B := w.heap.size) (by omega) (Nat.le_refl _)
        have hlt3 : w.heap.size + 1 < w3.heap.size := lt_of_heap hr3
        have qz := heap_alloc_new w3 (.cells #[.int .i64 0, .int .i64 0, .int .i64 0, .int .i64 0, .int .i64 0, .slice none 0 0, .int .i64 0, .int .i64 0, .slice none 0 0, .slice none 0 0, .int .i64 0, .int .i64 0, .slice none 0 0, .int .i64 0, .int .i64 0, .slice none 0 0, .slice none 0 0, .slice none 0 0, .int .i64 0] 35)
        have hAM : Below w3.heap.size w3 ((w3.alloc (.cells #[.int .i64 0, .int .i64 0, .int .i64 0, .int .i64 0, .int .i64 0, .slice none 0 0, .int .i64 0, .int .i64 0, .slice none 0 0, .slice none 0 0, .int .i64 0, .int .i64 0, .slice none 0 0, .int .i64 0, .int .i64 0, .slice none 0 0, .slice none 0 0, .slice none 0 0, .int .i64 0] 35)).setRow w3.heap.size #[.int .i64 x.m.fr, .int .i64 x.m.tt, .int .i64 x.m.ki, .int .i64 x.m.bau, .int .i64 x.m.bnu, .slice x.m.bta x.m.btn x.m.btc, .int .i64 x.m.hau, .int .i64 x.m.hrd, .slice x.m.hba x.m.hbn x.m.hbc, .slice x.m.hpa x.m.hpn x.m.hpc, .int .i64 x.m.sau, .int .i64 x.m.srd, .slice x.m.sda x.m.sdn x.m.sdc, .int .i64 x.m.cau, .int .i64 x.m.crd, .slice x.m.cba x.m.cbn x.m.cbc, .slice x.m.cpa x.m.cpn x.m.cpc, .slice x.m.cva x.m.cvn x.m.cvc, .int .i64 x.m.ro]) := laid_row w3 #[.int .i64 0, .int .i64 0, .int .i64 0, .int .i64 0, .int .i64 0, .slice none 0 0, .int .i64 0, .int .i64 0, .slice none 0 0, .slice none 0 0, .int .i64 0, .int .i64 0, .slice none 0 0, .int .i64 0, .int .i64 0, .slice none 0 0, .slice none 0 0, .slice none 0 0, .int .i64 0] #[.int .i64 x.m.fr, .int .i64 x.m.tt, .int .i64 x.m.ki, .int .i64 x.m.bau, .int .i64 x.m.bnu, .slice x.m.bta x.m.btn x.m.btc, .int .i64 x.m.hau, .int .i64 x.m.hrd, .slice x.m.hba x.m.hbn x.m.hbc, .slice x.m.hpa x.m.hpn x.m.hpc, .int .i64 x.m.sau, .int .i64 x.m.srd, .slice x.m.sda x.m.sdn x.m.sdc, .int .i64 x.m.cau, .int .i64 x.m.crd, .slice x.m.cba x.m.cbn x.m.cbc, .slice x.m.cpa x.m.cpn x.m.cpc, .slice x.m.cva x.m.cvn x.m.cvc, .int .i64 x.m.ro] 35
        have qM := setRow_heap _ _ _ #[.int .i64 x.m.fr, .int .i64 x.m.tt, .int .i64 x.m.ki, .int .i64 x.m.bau, .int .i64 x.m.bnu, .slice x.m.bta x.m.btn x.m.btc, .int .i64 x.m.hau, .int .i64 x.m.hrd, .slice x.m.hba x.m.hbn x.m.hbc, .slice x.m.hpa x.m.hpn x.m.hpc, .int .i64 x.m.sau, .int .i64 x.m.srd, .slice x.m.sda x.m.sdn x.m.sdc, .int .i64 x.m.cau, .int .i64 x.m.crd, .slice x.m.cba x.m.cbn x.m.cbc, .slice x.m.cpa x.m.cpn x.m.cpc, .slice x.m.cva x.m.cvn x.m.cvc, .int .i64 x.m.ro] _ _ qz
        have zM := (hAM.block _ (by omega)).trans z3
        have rM := (hAM.block _ hlt3).trans hr3
        have HMx : Hid (MAt w3 x ∧ HasM (fun q => W2.heap.size ≤ q) x ∧ x.c = pM (bs, false)) := ⟨hM, hH, hcx⟩
        clear hM hH hcx hR3
        go_upto_region 9 with (refine wpList_store_row rfl 35 _ _ rfl w3.heap.size #[.int .i64 x.m.fr, .int .i64 x.m.tt, .int .i64 x.m.ki, .int .i64 x.m.bau, .int .i64 x.m.bnu, .slice x.m.bta x.m.btn x.m.btc, .int .i64 x.m.hau, .int .i64 x.m.hrd, .slice x.m.hba x.m.hbn x.m.hbc, .slice x.m.hpa x.m.hpn x.m.hpc, .int .i64 x.m.sau, .int .i64 x.m.srd, .slice x.m.sda x.m.sdn x.m.sdc, .int .i64 x.m.cau, .int .i64 x.m.crd, .slice x.m.cba x.m.cbn x.m.cbc, .slice x.m.cpa x.m.cpn x.m.cpc, .slice x.m.cva x.m.cvn x.m.cvc, .int .i64 x.m.ro] rfl rfl 35 _ qz sMsg' rfl (by simp [Value.oneCell']) ?_)
        generalize (w3.alloc (.cells #[.int .i64 0, .int .i64 0, .int .i64 0, .int .i64 0, .int .i64 0, .slice none 0 0, .int .i64 0, .int .i64 0, .slice none 0 0, .slice none 0 0, .int .i64 0, .int .i64 0, .slice none 0 0, .int .i64 0, .int .i64 0, .slice none 0 0, .slice none 0 0, .slice none 0 0, .int .i64 0] 35)).setRow w3.heap.size #[.int .i64 x.m.fr, .int .i64 x.m.tt, .int .i64 x.m.ki, .int .i64 x.m.bau, .int .i64 x.m.bnu, .slice x.m.bta x.m.btn x.m.btc, .int .i64 x.m.hau, .int .i64 x.m.hrd, .slice x.m.hba x.m.hbn x.m.hbc, .slice x.m.hpa x.m.hpn x.m.hpc, .int .i64 x.m.sau, .int .i64 x.m.srd, .slice x.m.sda x.m.sdn x.m.sdc, .int .i64 x.m.cau, .int .i64 x.m.crd, .slice x.m.cba x.m.cbn x.m.cbc, .slice x.m.cpa x.m.cpn x.m.cpc, .slice x.m.cva x.m.cvn x.m.cvc, .int .i64 x.m.ro] = W4 at hAM qM zM rM ⊢
        have hB4 := hB3.trans (hAM.mono hB3.size)
        have hMx4 : Hid (MAt W4 x) := HMx.out.1.below hAM
        have s0 : W4.cell? ⟨w.heap.size + 1, 0, none⟩ = some (.slice la ml.length lc) := cells_at rM 0 _ rfl
        have s1 : W4.cell? ⟨w.heap.size + 1, 1, none⟩ = some (.bool msh) := cells_at rM 1 _ rfl
        clear qz z3 hr3 hAM
        cases msh with
        | true =>
          have hF : Hid (readF bs = 5) := by show _ = _; rw [HR1.out, if_pos rfl]
          go_wp2_with (refine wpList_store_row rfl 35 _ _ rfl w.heap.size #[.int .i64 0, .int .i64 0, .int .i64 0, .int .i64 0, .int .i64 0, .slice none 0 0, .int .i64 0, .int .i64 0, .slice none 0 0, .slice none 0 0, .int .i64 0, .int .i64 0, .slice none 0 0, .int .i64 0, .int .i64 0, .slice none 0 0, .slice none 0 0, .slice none 0 0, .int .i64 0] rfl rfl 35 _ zM sMsg' rfl (by simp [Value.oneCell']) ?_)
          have hFc := hF.out
          refine bodyPost_ret (v := .tuple #[.agg #[.int .i64 0, .int .i64 0, .int .i64 0, .int .i64 0, .int .i64 0, .slice none 0 0, .int .i64 0, .int .i64 0, .slice none 0 0, .slice none 0 0, .int .i64 0, .int .i64 0, .slice none 0 0, .int .i64 0, .int .i64 0, .slice none 0 0, .slice none 0 0, .slice none 0 0, .int .i64 0], .int .i64 5]) (results_cell_slot (fn := Try.f14) (p := 2) (q := 3) (ty := 35) rfl _ _ w.heap.size 35 _ (0, 0) _ (.int .i64 5) ⟨rfl, rfl⟩ (setRow_heap _ _ _ _ _ _ zM) Try.underlying35 rfl sMsg') rfl ⟨.inl ⟨by rw [hFc]; decide, by rw [hFc]⟩, (Upd.setRow zM).below hB4 hB4.size (Nat.le_refl _)⟩
        | false =>
          by_cases hml : ml = []
          · have hF : Hid (readF bs = 0) := by show _ = _; rw [HR1.out, if_neg (by decide), if_neg (fun h => h hml)]
            have hmI : ¬ (0 : Int) < (ml.length : Int) := by rw [hml]; decide
            clear hml HR1
            go_wp2_with (first | refine wpList_load_row rfl 35 _ rfl w3.heap.size rfl 35 #[.int .i64 x.m.fr, .int .i64 x.m.tt, .int .i64 x.m.ki, .int .i64 x.m.bau, .int .i64 x.m.bnu, .slice x.m.bta x.m.btn x.m.btc, .int .i64 x.m.hau, .int .i64 x.m.hrd, .slice x.m.hba x.m.hbn x.m.hbc, .slice x.m.hpa x.m.hpn x.m.hpc, .int .i64 x.m.sau, .int .i64 x.m.srd, .slice x.m.sda x.m.sdn x.m.sdc, .int .i64 x.m.cau, .int .i64 x.m.crd, .slice x.m.cba x.m.cbn x.m.cbc, .slice x.m.cpa x.m.cpn x.m.cpc, .slice x.m.cva x.m.cvn x.m.cvc, .int .i64 x.m.ro] (0, 0) _ qM Try.underlying35 rfl sMsg' ?_ | refine wpList_store_row rfl 35 _ _ rfl w.heap.size #[.int .i64 x.m.fr, .int .i64 x.m.tt, .int .i64 x.m.ki, .int .i64 x.m.bau, .int .i64 x.m.bnu, .slice x.m.bta x.m.btn x.m.btc, .int .i64 x.m.hau, .int .i64 x.m.hrd, .slice x.m.hba x.m.hbn x.m.hbc, .slice x.m.hpa x.m.hpn x.m.hpc, .int .i64 x.m.sau, .int .i64 x.m.srd, .slice x.m.sda x.m.sdn x.m.sdc, .int .i64 x.m.cau, .int .i64 x.m.crd, .slice x.m.cba x.m.cbn x.m.cbc, .slice x.m.cpa x.m.cpn x.m.cpc, .slice x.m.cva x.m.cvn x.m.cvc, .int .i64 x.m.ro] rfl rfl 35 _ zM sMsg' rfl (by simp [Value.oneCell']) ?_)
            refine bodyPost_ret (v := .tuple #[.agg #[.int .i64 x.m.fr, .int .i64 x.m.tt, .int .i64 x.m.ki, .int .i64 x.m.bau, .int .i64 x.m.bnu, .slice x.m.bta x.m.btn x.m.btc, .int .i64 x.m.hau, .int .i64 x.m.hrd, .slice x.m.hba x.m.hbn x.m.hbc, .slice x.m.hpa x.m.hpn x.m.hpc, .int .i64 x.m.sau, .int .i64 x.m.srd, .slice x.m.sda x.m.sdn x.m.sdc, .int .i64 x.m.cau, .int .i64 x.m.crd, .slice x.m.cba x.m.cbn x.m.cbc, .slice x.m.cpa x.m.cpn x.m.cpc, .slice x.m.cva x.m.cvn x.m.cvc, .int .i64 x.m.ro], .int .i64 0]) (results_cell_slot (fn := Try.f14) (p := 2) (q := 3) (ty := 35) rfl _ _ w.heap.size 35 _ (0, 0) _ (.int .i64 0) ⟨rfl, rfl⟩ (setRow_heap _ _ _ _ _ _ zM) Try.underlying35 rfl sMsg') rfl ⟨.inr ⟨hF.out, x, rfl, ?_, HMx.out.2.1.mono (fun q hq => by omega), HMx.out.2.2⟩, (Upd.setRow zM).below hB4 hB4.size (Nat.le_refl _)⟩
            exact hMx4.out.setRow (B := W2.heap.size) HMx.out.2.1 (by omega)
          · have hF : Hid (readF bs = 4) := by show _ = _; rw [HR1.out, if_neg (by decide), if_pos hml]
            have hmI : (0 : Int) < (ml.length : Int) := by have := length_pos_ne hml; omega
            clear hml HR1
            go_wp2_with (refine wpList_store_row rfl 35 _ _ rfl w.heap.size #[.int .i64 0, .int .i64 0, .int .i64 0, .int .i64 0, .int .i64 0, .slice none 0 0, .int .i64 0, .int .i64 0, .slice none 0 0, .slice none 0 0, .int .i64 0, .int .i64 0, .slice none 0 0, .int .i64 0, .int .i64 0, .slice none 0 0, .slice none 0 0, .slice none 0 0, .int .i64 0] rfl rfl 35 _ zM sMsg' rfl (by simp [Value.oneCell']) ?_)
            have hFc := hF.out
            refine bodyPost_ret (v := .tuple #[.agg #[.int .i64 0, .int .i64 0, .int .i64 0, .int .i64 0, .int .i64 0, .slice none 0 0, .int .i64 0, .int .i64 0, .slice none 0 0, .slice none 0 0, .int .i64 0, .int .i64 0, .slice none 0 0, .int .i64 0, .int .i64 0, .slice none 0 0, .slice none 0 0, .slice none 0 0, .int .i64 0], .int .i64 4]) (results_cell_slot (fn := Try.f14) (p := 2) (q := 3) (ty := 35) rfl _ _ w.heap.size 35 _ (0, 0) _ (.int .i64 4) ⟨rfl, rfl⟩ (setRow_heap _ _ _ _ _ _ zM) Try.underlying35 rfl sMsg') rfl ⟨.inl ⟨by rw [hFc]; decide, by rw [hFc]⟩, (Upd.setRow zM).below hB4 hB4.size (Nat.le_refl _)⟩
      · have hkd : decide (1 ≤ X ∧ X ≤ 5) = false := decide_eq_false hk
        have HIK : Hid (∀ W : World, Calls Try.prog 32 #[.int .i64 X] W fun e w' => e = .returned (.bool false) ∧ W = w') := by
          show ∀ _, _
          intro W
          exact isKind_bool X false W hkd.symm
        have hF : Hid (readF bs = 3) := by show _ = _; rw [HR0.out, if_pos hk]
        clear hkd hk
        go_enter Try.func14, Try.ntmps14
        go_upto_region 6 with (go_at_call 32; refine (HIK.out _).mono ?_; rintro e w9 ⟨rfl, rfl⟩)
        generalize w.alloc (.cells #[.int .i64 0, .int .i64 0, .int .i64 0, .int .i64 0, .int .i64 0, .slice none 0 0, .int .i64 0, .int .i64 0, .slice none 0 0, .slice none 0 0, .int .i64 0, .int .i64 0, .slice none 0 0, .int .i64 0, .int .i64 0, .slice none 0 0, .slice none 0 0, .slice none 0 0, .int .i64 0] 35) = W0 at hA q0 hsz c0 ⊢
        go_wp2_with (refine wpList_store_row rfl 35 _ _ rfl w.heap.size #[.int .i64 0, .int .i64 0, .int .i64 0, .int .i64 0, .int .i64 0, .slice none 0 0, .int .i64 0, .int .i64 0, .slice none 0 0, .slice none 0 0, .int .i64 0, .int .i64 0, .slice none 0 0, .int .i64 0, .int .i64 0, .slice none 0 0, .slice none 0 0, .slice none 0 0, .int .i64 0] rfl rfl 35 _ q0 sMsg' rfl (by simp [Value.oneCell']) ?_)
        have hFc := hF.out
        refine bodyPost_ret (v := .tuple #[.agg #[.int .i64 0, .int .i64 0, .int .i64 0, .int .i64 0, .int .i64 0, .slice none 0 0, .int .i64 0, .int .i64 0, .slice none 0 0, .slice none 0 0, .int .i64 0, .int .i64 0, .slice none 0 0, .int .i64 0, .int .i64 0, .slice none 0 0, .slice none 0 0, .slice none 0 0, .int .i64 0], .int .i64 3]) (results_cell_slot (fn := Try.f14) (p := 2) (q := 3) (ty := 35) rfl _ _ w.heap.size 35 _ (0, 0) _ (.int .i64 3) ⟨rfl, rfl⟩ (setRow_heap _ _ _ _ _ _ q0) Try.underlying35 rfl sMsg') rfl ⟨.inl ⟨by rw [hFc]; decide, by rw [hFc]⟩, (Upd.setRow q0).below hA hA.size (Nat.le_refl _)⟩
end Go.Proofs.Ythlknldicpeobaa
