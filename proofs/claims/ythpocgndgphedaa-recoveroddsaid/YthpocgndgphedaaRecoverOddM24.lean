/- wire.Encode of a header. -/
import Derived.Test.YthpocgndgphedaaRecoverOddM18
import Derived.Test.YthpocgndgphedaaMsgF
import Derived.Test.YthpocgndgphedaaCheckM
import Derived.Test.YthpocgndgphedaaRecoverOddM6
import Derived.Test.YthpocgndgphedaaRecoverOddM0
import Derived.Test.YthpocgndgphedaaTChk
namespace Go.Proofs.Ythpocgndgphedaa
open Go.RowKit

/-- What the kind carries, as bytes. -/
def bodyB (m : Msg) (ss : List ByteArray) (bl pl cbl cpl : List Part) (ds vl : List Int) : List Int := if m.ki = 1 then batchB m.bau m.bnu ss else if m.ki = 2 then headB m.hau m.hrd bl pl else if m.ki = 3 then [m.sau] ++ rd3 m.srd ++ ds else if m.ki = 4 then certB m.cau m.crd cbl cpl vl else rd3 m.ro
/-- P2.9. -/
def msgB (m : Msg) (ss : List ByteArray) (bl pl cbl cpl : List Part) (ds vl : List Int) : List Int := [m.ki, m.fr, m.tt] ++ bodyB m ss bl pl cbl cpl ds vl
set_option maxRecDepth 100000 in
theorem checkF_ok {m : Msg} {e : Int} (h : checkF m e = 0) : (0 ≤ m.fr ∧ m.fr < 4) ∧ (0 ≤ m.tt ∧ m.tt < 4) ∧ e = 0 ∧ msgEmpty (strip m) = true := by
  unfold checkF at h
  split at h
  · cases h
  · rename_i h1
    split at h
    · rename_i h2; exact absurd h h2
    · rename_i h2
      split at h
      · rename_i h3
        exact ⟨by omega, by omega, by simpa using h2, h3⟩
      · cases h
set_option maxRecDepth 100000 in
theorem checkF_zero {m : Msg} {e : Int} (hf : 0 ≤ m.fr ∧ m.fr < 4) (ht : 0 ≤ m.tt ∧ m.tt < 4) (he : e = 0) (hm : msgEmpty (strip m) = true) : checkF m e = 0 := by
  rw [checkF, if_neg (by omega), if_neg (by simp [he]), if_pos hm]
set_option maxRecDepth 100000 in
theorem carriedF_kind {m : Msg} {ss : List ByteArray} {bl pl cbl cpl : List Part} {vl : List Int} (h : carriedF m ss bl pl cbl cpl vl = 0) : m.ki = 1 ∨ m.ki = 2 ∨ m.ki = 3 ∨ m.ki = 4 ∨ m.ki = 5 := by
  unfold carriedF at h
  repeat' split at h
  all_goals first | (cases h; done) | omega
set_option maxRecDepth 100000 in
theorem slotF_ok {au rd : Int} {n : Nat} (h : slotF au rd n = 0) : (0 ≤ au ∧ au < 4) ∧ (1 ≤ rd ∧ rd ≤ 1048576) ∧ n = 32 := by
  unfold slotF at h
  split at h
  · cases h
  · split at h
    · cases h
    · exact ⟨by omega, by omega, by omega⟩
set_option maxRecDepth 100000 in
theorem vTo_zero (vl : List Int) (k : Nat) (h : vTo vl k = 0) : ∀ j, j < k → vAt vl j = 0 := by
  induction k with
  | zero => intro j hj; omega
  | succ k ih =>
    rw [vTo] at h
    split at h
    · rename_i h1; exact absurd h h1
    · rename_i h1
      intro j hj
      rcases Nat.lt_or_ge j k with g | g
      · exact ih (by simpa using h1) j g
      · obtain rfl : j = k := by omega
        exact h
set_option maxRecDepth 100000 in
theorem certF_ok {au rd : Int} {bl pl : List Part} {vl : List Int} (h : certF au rd bl pl vl = 0) : headerF au rd bl pl = 0 ∧ vl.length ≤ 4 ∧ 3 ≤ vl.length ∧ ∀ x ∈ vl, 0 ≤ x ∧ x < 4 := by
  unfold certF at h
  split at h
  · rename_i h1; exact absurd h h1
  · rename_i h1
    split at h
    · cases h
    · rename_i h2
      unfold votersF at h
      split at h
      · rename_i h3; exact absurd h h3
      · rename_i h3
        split at h
        · cases h
        · refine ⟨by simpa using h1, by omega, by omega, fun x hx => ?_⟩
          obtain ⟨j, hj, rfl⟩ := List.getElem_of_mem hx
          have h4 := vTo_zero vl vl.length (by simpa using h3) j hj
          rw [vAt] at h4
          split at h4
          · cases h4
          · rename_i h5
            have h6 : vl.getD j 0 = vl[j] := by simp [List.getD, hj]
            rw [h6] at h5
            omega
set_option maxRecDepth 100000 in
theorem bodyB1 {m : Msg} (h : m.ki = 1) (ss : List ByteArray) (bl pl cbl cpl : List Part) (ds vl : List Int) : bodyB m ss bl pl cbl cpl ds vl = batchB m.bau m.bnu ss := by simp [bodyB, h]
set_option maxRecDepth 100000 in
theorem bodyB2 {m : Msg} (h : m.ki = 2) (ss : List ByteArray) (bl pl cbl cpl : List Part) (ds vl : List Int) : bodyB m ss bl pl cbl cpl ds vl = headB m.hau m.hrd bl pl := by simp [bodyB, h]
set_option maxRecDepth 100000 in
theorem bodyB3 {m : Msg} (h : m.ki = 3) (ss : List ByteArray) (bl pl cbl cpl : List Part) (ds vl : List Int) : bodyB m ss bl pl cbl cpl ds vl = [m.sau] ++ rd3 m.srd ++ ds := by simp [bodyB, h]
set_option maxRecDepth 100000 in
theorem bodyB4 {m : Msg} (h : m.ki = 4) (ss : List ByteArray) (bl pl cbl cpl : List Part) (ds vl : List Int) : bodyB m ss bl pl cbl cpl ds vl = certB m.cau m.crd cbl cpl vl := by simp [bodyB, h]
set_option maxRecDepth 100000 in
theorem bodyB5 {m : Msg} (h : m.ki = 5) (ss : List ByteArray) (bl pl cbl cpl : List Part) (ds vl : List Int) : bodyB m ss bl pl cbl cpl ds vl = rd3 m.ro := by simp [bodyB, h]
set_option maxRecDepth 100000 in
theorem carried1 {m : Msg} (h : m.ki = 1) (ss : List ByteArray) (bl pl cbl cpl : List Part) (vl : List Int) : carriedF m ss bl pl cbl cpl vl = batchF m.bau m.bnu ss := by simp [carriedF, h]
set_option maxRecDepth 100000 in
theorem carried2 {m : Msg} (h : m.ki = 2) (ss : List ByteArray) (bl pl cbl cpl : List Part) (vl : List Int) : carriedF m ss bl pl cbl cpl vl = headerF m.hau m.hrd bl pl := by simp [carriedF, h]
set_option maxRecDepth 100000 in
theorem carried3 {m : Msg} (h : m.ki = 3) (ss : List ByteArray) (bl pl cbl cpl : List Part) (vl : List Int) : carriedF m ss bl pl cbl cpl vl = slotF m.sau m.srd m.sdn := by simp [carriedF, h]
set_option maxRecDepth 100000 in
theorem carried4 {m : Msg} (h : m.ki = 4) (ss : List ByteArray) (bl pl cbl cpl : List Part) (vl : List Int) : carriedF m ss bl pl cbl cpl vl = certF m.cau m.crd cbl cpl vl := by simp [carriedF, h]
set_option maxRecDepth 100000 in
theorem carried5 {m : Msg} (h : m.ki = 5) (ss : List ByteArray) (bl pl cbl cpl : List Part) (vl : List Int) : carriedF m ss bl pl cbl cpl vl = if 1 ≤ m.ro ∧ m.ro ≤ 1048576 then 0 else 2 := by simp [carriedF, h]
set_option maxRecDepth 100000 in
theorem bodyB_le {m : Msg} {ss : List ByteArray} {bl pl cbl cpl : List Part} {ds vl : List Int} (hn : m.sdn = ds.length) (h : carriedF m ss bl pl cbl cpl vl = 0) : (bodyB m ss bl pl cbl cpl ds vl).length ≤ 320 := by
  rcases carriedF_kind h with k | k | k | k | k
  · rw [carried1 k] at h
    obtain ⟨_, _, h3, h4⟩ := batchF_ok h
    have := txsB_le ss (fun s hs => (h4 s hs).2)
    rw [bodyB1 k]
    simp [batchB, rd3]; omega
  · rw [carried2 k] at h
    obtain ⟨_, _, h3, h4, h5, h6⟩ := headerF_ok h
    have := headB_le m.hau m.hrd bl pl (by omega) h4 h5 h6
    rw [bodyB2 k]
    omega
  · rw [carried3 k] at h
    obtain ⟨_, _, h3⟩ := slotF_ok h
    rw [bodyB3 k]
    simp [rd3]; omega
  · rw [carried4 k] at h
    obtain ⟨g1, g2, _, _⟩ := certF_ok h
    obtain ⟨_, _, h3, h4, h5, h6⟩ := headerF_ok g1
    have := headB_le m.cau m.crd cbl cpl (by omega) h4 h5 h6
    rw [bodyB4 k]
    simp [certB]; omega
  · rw [bodyB5 k]
    simp [rd3]
end Go.Proofs.Ythpocgndgphedaa

namespace Go.Proofs.Ythpocgndgphedaa
open Go.RowKit

/-- A message and what its lists hold. -/
structure MV where
  (m : Msg) (ss : List ByteArray) (bl pl cbl cpl : List Part) (ds vl : List Int)
def MV.car (x : MV) : Int := carriedF x.m x.ss x.bl x.pl x.cbl x.cpl x.vl
/-- P2.9. -/
def MV.bytes (x : MV) : List Int := msgB x.m x.ss x.bl x.pl x.cbl x.cpl x.ds x.vl
/-- A list's blocks, of what is not empty. -/
structure HasL (G : Nat → Prop) (ra : Option Addr) (qs : List Part) : Prop where
  row : ∀ sb so, ra = some ⟨sb, so, none⟩ → qs ≠ [] → G sb
  each : ∀ p ∈ qs, ∀ sb so, p.sa = some ⟨sb, so, none⟩ → p.bs ≠ [] → G sb
/-- A message's blocks, of what is not empty. -/
structure HasM (G : Nat → Prop) (x : MV) : Prop where
  tx : ∀ sb so, x.m.bta = some ⟨sb, so, none⟩ → x.ss ≠ [] → G sb
  hb : HasL G x.m.hba x.bl
  hp : HasL G x.m.hpa x.pl
  sd : ∀ sb so, x.m.sda = some ⟨sb, so, none⟩ → x.ds ≠ [] → G sb
  cb : HasL G x.m.cba x.cbl
  cp : HasL G x.m.cpa x.cpl
  cv : ∀ sb so, x.m.cva = some ⟨sb, so, none⟩ → x.vl ≠ [] → G sb
/-- A message that lies there. -/
structure MAt (w : World) (x : MV) : Prop where
  at' : MsgAt w x.m x.ss x.bl x.pl x.cbl x.cpl x.vl
  dig : SliceAt w x.m.sda x.m.sdc x.ds
  dn : x.m.sdn = x.ds.length
/-- P8.2: a message that is a record. -/
structure IsRec (x : MV) : Prop where
  car : x.car = 0
  emp : msgEmpty (strip x.m) = true
  fr : x.m.fr = 0
  tt : x.m.tt = 0
  ki : x.m.ki ≠ 5
set_option maxRecDepth 100000 in
theorem MAt.below {w w' : World} {x : MV} (h : MAt w x) (hb : Below w.heap.size w w') : MAt w' x := ⟨h.at'.below hb, h.dig.below hb, h.dn⟩
set_option maxRecDepth 100000 in
theorem HasL.mono {G G' : Nat → Prop} {ra : Option Addr} {qs : List Part} (h : HasL G ra qs) (hG : ∀ k, G k → G' k) : HasL G' ra qs := ⟨fun sb so e n => hG _ (h.row sb so e n), fun p hp sb so e n => hG _ (h.each p hp sb so e n)⟩
set_option maxRecDepth 100000 in
theorem HasM.mono {G G' : Nat → Prop} {x : MV} (h : HasM G x) (hG : ∀ k, G k → G' k) : HasM G' x :=
  ⟨fun sb so e n => hG _ (h.tx sb so e n), h.hb.mono hG, h.hp.mono hG, fun sb so e n => hG _ (h.sd sb so e n), h.cb.mono hG, h.cp.mono hG, fun sb so e n => hG _ (h.cv sb so e n)⟩
set_option maxRecDepth 100000 in
theorem NewM.has {B : Nat} {x : MV} (h : NewM B x.m x.bl x.pl x.cbl x.cpl) : HasM (fun k => B ≤ k) x :=
  ⟨fun sb so e _ => h.tx sb so e, ⟨fun sb so e _ => h.hb.row sb so e, fun p hp sb so e _ => h.hb.each p hp sb so e⟩, ⟨fun sb so e _ => h.hp.row sb so e, fun p hp sb so e _ => h.hp.each p hp sb so e⟩, fun sb so e _ => h.sd sb so e, ⟨fun sb so e _ => h.cb.row sb so e, fun p hp sb so e _ => h.cb.each p hp sb so e⟩, ⟨fun sb so e _ => h.cp.row sb so e, fun p hp sb so e _ => h.cp.each p hp sb so e⟩, fun sb so e _ => h.cv sb so e⟩
set_option maxRecDepth 100000 in
theorem length_pos_ne {α : Type} {l : List α} (h : l ≠ []) : 0 < l.length := by cases l with | nil => exact absurd rfl h | cons _ _ => simp
set_option maxRecDepth 100000 in
theorem slice_lt {w : World} {sa : Option Addr} {cap : Nat} {bs : List Int} (h : SliceAt w sa cap bs) (hn : bs ≠ []) {sb so : Nat} (e : sa = some ⟨sb, so, none⟩) : sb < w.heap.size := by
  rcases h.bytes with hb | ⟨sb', so', e', hc⟩
  · exact absurd hb hn
  · rw [e] at e'; cases e'; exact block_lt_of_cell (hc 0 (length_pos_ne hn))
set_option maxRecDepth 100000 in
theorem HasL.lt {w : World} {G : Nat → Prop} {ra : Option Addr} {rc : Nat} {qs : List Part} (h : HasL G ra qs) (H : ListAt w ra rc qs) : HasL (fun k => G k ∧ k < w.heap.size) ra qs := by
  refine ⟨fun sb so e n => ⟨h.row sb so e n, ?_⟩, fun p hp sb so e n => ⟨h.each p hp sb so e n, slice_lt (H.parts.each p hp) n e⟩⟩
  rcases H.parts.cells with hb | ⟨sb', so', e', hc⟩
  · exact absurd hb n
  · rw [e] at e'; cases e'; exact block_lt_of_cell (hc 0 (length_pos_ne n))
set_option maxRecDepth 100000 in
theorem HasM.lt {w : World} {G : Nat → Prop} {x : MV} (h : HasM G x) (H : MAt w x) : HasM (fun k => G k ∧ k < w.heap.size) x := by
  refine ⟨fun sb so e n => ⟨h.tx sb so e n, ?_⟩, h.hb.lt H.at'.bat, h.hp.lt H.at'.par, fun sb so e n => ⟨h.sd sb so e n, slice_lt H.dig n e⟩, h.cb.lt H.at'.cbat, h.cp.lt H.at'.cpar, fun sb so e n => ⟨h.cv sb so e n, ?_⟩⟩
  · rcases H.at'.txs.cells with hb | ⟨sb', so', e', hc⟩
    · exact absurd hb n
    · rw [e] at e'; cases e'; exact block_lt_of_cell (hc 0 (length_pos_ne n))
  · rcases H.at'.vot.cells with hb | ⟨sb', so', e', hc⟩
    · exact absurd hb n
    · rw [e] at e'; cases e'; exact block_lt_of_cell (hc 0 (length_pos_ne n))
set_option maxRecDepth 100000 in
/-- Blocks that stay as they are. -/
theorem slice_stays {w w' : World} {G : Nat → Prop} {sa : Option Addr} {cap : Nat} {bs : List Int} (hk : ∀ k, G k → w'.heap[k]? = w.heap[k]?) (h : SliceAt w sa cap bs) (hG : ∀ sb so, sa = some ⟨sb, so, none⟩ → bs ≠ [] → G sb) : SliceAt w' sa cap bs := by
  refine ⟨h.le, h.max, h.some, h.nil, ?_⟩
  rcases h.bytes with hb | ⟨sb, so, e, hc⟩
  · exact .inl hb
  · by_cases hz : bs = []
    · exact .inl hz
    · exact .inr ⟨sb, so, e, fun j hj => (World.cell?_of_block (hk sb (hG sb so e hz))).trans (hc j hj)⟩
set_option maxRecDepth 100000 in
theorem list_stays {w w' : World} {G : Nat → Prop} {ra : Option Addr} {rc : Nat} {qs : List Part} (hk : ∀ k, G k → w'.heap[k]? = w.heap[k]?) (h : ListAt w ra rc qs) (hG : HasL G ra qs) : ListAt w' ra rc qs := by
  refine ⟨h.le, h.max, h.small, h.some, ⟨?_, fun p hp => slice_stays hk (h.parts.each p hp) (hG.each p hp)⟩⟩
  rcases h.parts.cells with hb | ⟨sb, so, e, hc⟩
  · exact .inl hb
  · by_cases hz : qs = []
    · exact .inl hz
    · exact .inr ⟨sb, so, e, fun j hj => (World.cell?_of_block (hk sb (hG.row sb so e hz))).trans (hc j hj)⟩
set_option maxRecDepth 100000 in
theorem MAt.stays {w w' : World} {G : Nat → Prop} {x : MV} (hk : ∀ k, G k → w'.heap[k]? = w.heap[k]?) (h : MAt w x) (hG : HasM G x) : MAt w' x := by
  refine ⟨⟨h.at'.e1, h.at'.e2, h.at'.e3, h.at'.e4, h.at'.e5, h.at'.e6, h.at'.s1, h.at'.s6, h.at'.s7, ⟨?_, h.at'.txs.size⟩, list_stays hk h.at'.bat hG.hb, list_stays hk h.at'.par hG.hp, list_stays hk h.at'.cbat hG.cb, list_stays hk h.at'.cpar hG.cp, ⟨?_⟩⟩, slice_stays hk h.dig hG.sd, h.dn⟩
  · rcases h.at'.txs.cells with hb | ⟨sb, so, e, hc⟩
    · exact .inl hb
    · by_cases hz : x.ss = []
      · exact .inl hz
      · exact .inr ⟨sb, so, e, fun j hj => (World.cell?_of_block (hk sb (hG.tx sb so e hz))).trans (hc j hj)⟩
  · rcases h.at'.vot.cells with hb | ⟨sb, so, e, hc⟩
    · exact .inl hb
    · by_cases hz : x.vl = []
      · exact .inl hz
      · exact .inr ⟨sb, so, e, fun j hj => (World.cell?_of_block (hk sb (hG.cv sb so e hz))).trans (hc j hj)⟩
set_option maxRecDepth 100000 in
theorem MAt.setRow {w : World} {x : MV} {B b : Nat} {cs : Array Value} (h : MAt w x) (hG : HasM (fun k => B ≤ k) x) (hb : b < B) : MAt (w.setRow b cs) x :=
  h.stays (G := fun k => B ≤ k) (fun k hk => setRow_other w b k cs (by omega)) hG
set_option maxRecDepth 100000 in
theorem MAt.setCell {w : World} {x : MV} {B b j : Nat} {v : Value} (h : MAt w x) (hG : HasM (fun k => B ≤ k) x) (hb : b < B) : MAt (w.setCell ⟨b, j, none⟩ v) x :=
  h.stays (G := fun k => B ≤ k) (fun k hk => heap_setCell_other w ⟨b, j, none⟩ k v (by show k ≠ b; omega)) hG
/-- From nobody, to nobody. -/
def Msg.bare (m : Msg) : Msg := { m with fr := 0, tt := 0 }
def MV.bare (x : MV) : MV := { x with m := x.m.bare }
set_option maxRecDepth 100000 in
theorem MV.bare_at {w : World} {x : MV} (h : MAt w x) : MAt w x.bare := ⟨⟨h.at'.e1, h.at'.e2, h.at'.e3, h.at'.e4, h.at'.e5, h.at'.e6, h.at'.s1, h.at'.s6, h.at'.s7, h.at'.txs, h.at'.bat, h.at'.par, h.at'.cbat, h.at'.cpar, h.at'.vot⟩, h.dig, h.dn⟩
set_option maxRecDepth 100000 in
theorem MV.bare_has {G : Nat → Prop} {x : MV} (h : HasM G x) : HasM G x.bare := ⟨h.tx, h.hb, h.hp, h.sd, h.cb, h.cp, h.cv⟩
set_option maxRecDepth 100000 in
theorem strip_from (m : Msg) (a b : Int) : msgEmpty (strip { m with fr := a, tt := b }) = msgEmpty (strip m) := by
  by_cases k1 : m.ki = 1
  · simp [strip, msgEmpty, k1]
  by_cases k2 : m.ki = 2
  · simp [strip, msgEmpty, k2]
  by_cases k3 : m.ki = 3
  · simp [strip, msgEmpty, k3]
  by_cases k4 : m.ki = 4
  · simp [strip, msgEmpty, k4]
  · simp [strip, msgEmpty, k1, k2, k3, k4]
set_option maxRecDepth 100000 in
theorem MV.bare_rec {x : MV} (hc : x.car = 0) (he : msgEmpty (strip x.m) = true) (hk : x.m.ki ≠ 5) : IsRec x.bare :=
  ⟨hc, (strip_from x.m 0 0).trans he, rfl, rfl, hk⟩
set_option maxRecDepth 100000 in
theorem IsRec.check {x : MV} (h : IsRec x) : checkF x.m x.car = 0 := checkF_zero (by rw [h.fr]; omega) (by rw [h.tt]; omega) h.car h.emp
end Go.Proofs.Ythpocgndgphedaa

namespace Go.Proofs.Ythpocgndgphedaa
open Go.RowKit

set_option maxRecDepth 100000 in
theorem IsRec.rec0 {x : MV} (h : IsRec x) : recF x.m (checkF x.m x.car) = 0 := by rw [h.check, recF]; simp [h.fr, h.tt, h.ki]
end Go.Proofs.Ythpocgndgphedaa

namespace Go.Proofs.Ythpocgndgphedaa
open Go.RowKit

set_option maxRecDepth 100000 in
set_option maxHeartbeats 1000000 in
theorem encode_bad (m : Msg) (ec : Int) (w : World) (he : ec ≠ 0)
    (hc : ∀ w1, Below w.heap.size w w1 → Calls Try.prog 40 #[.agg #[.int .i64 m.fr, .int .i64 m.tt, .int .i64 m.ki, .int .i64 m.bau, .int .i64 m.bnu, .slice m.bta m.btn m.btc, .int .i64 m.hau, .int .i64 m.hrd, .slice m.hba m.hbn m.hbc, .slice m.hpa m.hpn m.hpc, .int .i64 m.sau, .int .i64 m.srd, .slice m.sda m.sdn m.sdc, .int .i64 m.cau, .int .i64 m.crd, .slice m.cba m.cbn m.cbc, .slice m.cpa m.cpn m.cpc, .slice m.cva m.cvn m.cvc, .int .i64 m.ro]] w1 fun e w' => e = .returned (.int .i64 ec) ∧ Below w1.heap.size w1 w') :
    Calls Try.prog 31 #[.agg #[.int .i64 m.fr, .int .i64 m.tt, .int .i64 m.ki, .int .i64 m.bau, .int .i64 m.bnu, .slice m.bta m.btn m.btc, .int .i64 m.hau, .int .i64 m.hrd, .slice m.hba m.hbn m.hbc, .slice m.hpa m.hpn m.hpc, .int .i64 m.sau, .int .i64 m.srd, .slice m.sda m.sdn m.sdc, .int .i64 m.cau, .int .i64 m.crd, .slice m.cba m.cbn m.cbc, .slice m.cpa m.cpn m.cpc, .slice m.cva m.cvn m.cvc, .int .i64 m.ro]] w fun e w' => e = .returned (.tuple #[.slice none 0 0, .int .i64 ec]) ∧ Below w.heap.size w w' := by
  have hq := heap_alloc_new w (.cells #[.int .i64 m.fr, .int .i64 m.tt, .int .i64 m.ki, .int .i64 m.bau, .int .i64 m.bnu, .slice m.bta m.btn m.btc, .int .i64 m.hau, .int .i64 m.hrd, .slice m.hba m.hbn m.hbc, .slice m.hpa m.hpn m.hpc, .int .i64 m.sau, .int .i64 m.srd, .slice m.sda m.sdn m.sdc, .int .i64 m.cau, .int .i64 m.crd, .slice m.cba m.cbn m.cbc, .slice m.cpa m.cpn m.cpc, .slice m.cva m.cvn m.cvc, .int .i64 m.ro] 47)
  have hB : Below w.heap.size w (w.alloc (.cells #[.int .i64 m.fr, .int .i64 m.tt, .int .i64 m.ki, .int .i64 m.bau, .int .i64 m.bnu, .slice m.bta m.btn m.btc, .int .i64 m.hau, .int .i64 m.hrd, .slice m.hba m.hbn m.hbc, .slice m.hpa m.hpn m.hpc, .int .i64 m.sau, .int .i64 m.srd, .slice m.sda m.sdn m.sdc, .int .i64 m.cau, .int .i64 m.crd, .slice m.cba m.cbn m.cbc, .slice m.cpa m.cpn m.cpc, .slice m.cva m.cvn m.cvc, .int .i64 m.ro] 47)) := (Below.refl _ _).alloc (Nat.le_refl _) _
  go_enter Try.func31, Try.ntmps31
  go_wp2_with (refine wpList_load_row rfl 47 _ rfl w.heap.size rfl 47 #[.int .i64 m.fr, .int .i64 m.tt, .int .i64 m.ki, .int .i64 m.bau, .int .i64 m.bnu, .slice m.bta m.btn m.btc, .int .i64 m.hau, .int .i64 m.hrd, .slice m.hba m.hbn m.hbc, .slice m.hpa m.hpn m.hpc, .int .i64 m.sau, .int .i64 m.srd, .slice m.sda m.sdn m.sdc, .int .i64 m.cau, .int .i64 m.crd, .slice m.cba m.cbn m.cbc, .slice m.cpa m.cpn m.cpc, .slice m.cva m.cvn m.cvc, .int .i64 m.ro] (0, 0) _ hq Try.underlying47 rfl sMsg ?_)
  refine (hc _ hB).mono ?_
  rintro e w1 ⟨rfl, hb1⟩
  go_wp2_with fail
  go_ret2
  exact ⟨rfl, below_alloc hb1⟩
end Go.Proofs.Ythpocgndgphedaa

namespace Go.Proofs.Ythpocgndgphedaa
open Go.RowKit

set_option maxRecDepth 100000 in
set_option maxHeartbeats 1000000 in
theorem encode_bundle (m : Msg) (ss : List ByteArray) (w : World) (hk : m.ki = 1) (hf : 0 ≤ m.fr ∧ m.fr < 4) (ht : 0 ≤ m.tt ∧ m.tt < 4) (ha : 0 ≤ m.bau ∧ m.bau < 4) (hr : 0 ≤ m.bnu ∧ m.bnu ≤ 1048576) (hn : m.btn = ss.length) (hl : ss.length ≤ 4) (hz : ∀ s ∈ ss, s.size ≤ 20) (hs : StrsAt w m.bta ss) (hsb : ∀ sb so, m.bta = some ⟨sb, so, none⟩ → sb < w.heap.size)
    (hc : ∀ w1, Below w.heap.size w w1 → Calls Try.prog 40 #[.agg #[.int .i64 m.fr, .int .i64 m.tt, .int .i64 m.ki, .int .i64 m.bau, .int .i64 m.bnu, .slice m.bta m.btn m.btc, .int .i64 m.hau, .int .i64 m.hrd, .slice m.hba m.hbn m.hbc, .slice m.hpa m.hpn m.hpc, .int .i64 m.sau, .int .i64 m.srd, .slice m.sda m.sdn m.sdc, .int .i64 m.cau, .int .i64 m.crd, .slice m.cba m.cbn m.cbc, .slice m.cpa m.cpn m.cpc, .slice m.cva m.cvn m.cvc, .int .i64 m.ro]] w1 fun e w' => e = .returned (.int .i64 0) ∧ Below w1.heap.size w1 w') :
    Calls Try.prog 31 #[.agg #[.int .i64 m.fr, .int .i64 m.tt, .int .i64 m.ki, .int .i64 m.bau, .int .i64 m.bnu, .slice m.bta m.btn m.btc, .int .i64 m.hau, .int .i64 m.hrd, .slice m.hba m.hbn m.hbc, .slice m.hpa m.hpn m.hpc, .int .i64 m.sau, .int .i64 m.srd, .slice m.sda m.sdn m.sdc, .int .i64 m.cau, .int .i64 m.crd, .slice m.cba m.cbn m.cbc, .slice m.cpa m.cpn m.cpc, .slice m.cva m.cvn m.cvc, .int .i64 m.ro]] w fun e w' => ∃ v, e = .returned (.tuple #[v, .int .i64 0]) ∧ w'.ownsRow w.heap.size 5 1 v (3 + (batchB m.bau m.bnu ss).length) (ub ([1, m.fr, m.tt] ++ batchB m.bau m.bnu ss)) ∧ Below w.heap.size w w' := by
  have hq := heap_alloc_new w (.cells #[.int .i64 m.fr, .int .i64 m.tt, .int .i64 m.ki, .int .i64 m.bau, .int .i64 m.bnu, .slice m.bta m.btn m.btc, .int .i64 m.hau, .int .i64 m.hrd, .slice m.hba m.hbn m.hbc, .slice m.hpa m.hpn m.hpc, .int .i64 m.sau, .int .i64 m.srd, .slice m.sda m.sdn m.sdc, .int .i64 m.cau, .int .i64 m.crd, .slice m.cba m.cbn m.cbc, .slice m.cpa m.cpn m.cpc, .slice m.cva m.cvn m.cvc, .int .i64 m.ro] 47)
  have hB : Below w.heap.size w (w.alloc (.cells #[.int .i64 m.fr, .int .i64 m.tt, .int .i64 m.ki, .int .i64 m.bau, .int .i64 m.bnu, .slice m.bta m.btn m.btc, .int .i64 m.hau, .int .i64 m.hrd, .slice m.hba m.hbn m.hbc, .slice m.hpa m.hpn m.hpc, .int .i64 m.sau, .int .i64 m.srd, .slice m.sda m.sdn m.sdc, .int .i64 m.cau, .int .i64 m.crd, .slice m.cba m.cbn m.cbc, .slice m.cpa m.cpn m.cpc, .slice m.cva m.cvn m.cvc, .int .i64 m.ro] 47)) := (Below.refl _ _).alloc (Nat.le_refl _) _
  rw [hk] at hc hq hB ⊢
  obtain ⟨hf0, hf1⟩ := hf
  obtain ⟨ht0, ht1⟩ := ht
  have Hn : Hid (m.btn = ss.length) := hn
  clear hn hk
  go_enter Try.func31, Try.ntmps31
  go_wp2_with (refine wpList_load_row rfl 47 _ rfl w.heap.size rfl 47 _ (0, 0) _ hq Try.underlying47 rfl sMsg ?_)
  refine (hc _ hB).mono ?_
  rintro e w1 ⟨rfl, hb1⟩
  have r1 := row_new hb1
  replace hb1 := below_alloc hb1
  have c0 : w1.cell? ⟨w.heap.size, 0, none⟩ = some (.int .i64 m.fr) := cells_at r1 0 _ rfl
  have c1 : w1.cell? ⟨w.heap.size, 1, none⟩ = some (.int .i64 m.tt) := cells_at r1 1 _ rfl
  have c2 : w1.cell? ⟨w.heap.size, 2, none⟩ = some (.int .i64 1) := cells_at r1 2 _ rfl
  have c3 : w1.cell? ⟨w.heap.size, 3, none⟩ = some (.int .i64 m.bau) := cells_at r1 3 _ rfl
  have c4 : w1.cell? ⟨w.heap.size, 4, none⟩ = some (.int .i64 m.bnu) := cells_at r1 4 _ rfl
  have c5 : w1.cell? ⟨w.heap.size, 5, none⟩ = some (.slice m.bta m.btn m.btc) := cells_at r1 5 _ rfl
  have hlt : w.heap.size < w1.heap.size := lt_of_heap r1
  have hlit := World.ownsRow_lit (base := w1.heap.size) (e := 5) (size := 1) w1 (ub [1, m.fr, m.tt]).toArray 3 (Nat.le_refl _) (by decide) rfl
  go_wp2_with fail
  refine (appendBatch_any w1.heap.size _ 3 [1, m.fr, m.tt] m.bau m.bnu m.bta m.btn m.btc ss _ ha hr Hn.out hl hz ?_ ?_ ?_ (le_alloc (Nat.le_refl _) _) (by decide)).mono ?_
  · exact (hs.below hb1).below ((Below.refl _ _).alloc (Nat.le_refl _) _)
  · intro sb so e
    have := hsb sb so e
    refine ⟨by rw [size_alloc]; omega, fun h => ?_⟩
    simp [Value.ownBlock] at h
    omega
  · exact hlit
  rintro e w2 ⟨v2, rfl, ho2, hG⟩
  have hb2 := hG.below (base := w1.heap.size) (le_alloc (Nat.le_refl _) _) (fun q e => by cases e; exact Nat.le_refl _)
  clear hG
  go_wp2_with fail
  go_ret2
  refine ⟨v2, rfl, ownsRow_base' ho2 hb1.size, ?_⟩
  exact (hb1.alloc hb1.size _).trans (hb2.mono hb1.size)
end Go.Proofs.Ythpocgndgphedaa

namespace Go.Proofs.Ythpocgndgphedaa
open Go.RowKit

set_option maxRecDepth 100000 in
set_option maxHeartbeats 1000000 in
theorem encode_offer_w (m : Msg) (bl pl : List Part) (w : World) (hk : m.ki = 2) (hf : 0 ≤ m.fr ∧ m.fr < 4) (ht : 0 ≤ m.tt ∧ m.tt < 4) (ha : 0 ≤ m.hau ∧ m.hau < 4) (hr : 0 ≤ m.hrd ∧ m.hrd ≤ 1048576) (hbn : m.hbn = bl.length) (hpn : m.hpn = pl.length) (hbl : bl.length ≤ 4) (hpl : pl.length ≤ 4) (hb32 : ∀ p ∈ bl, p.bs.length = 32) (hp32 : ∀ p ∈ pl, p.bs.length = 32) (hLb : ListAt w m.hba m.hbc bl) (hLp : ListAt w m.hpa m.hpc pl)
    (hc : ∀ w1, Below w.heap.size w w1 → Calls Try.prog 40 #[.agg #[.int .i64 m.fr, .int .i64 m.tt, .int .i64 m.ki, .int .i64 m.bau, .int .i64 m.bnu, .slice m.bta m.btn m.btc, .int .i64 m.hau, .int .i64 m.hrd, .slice m.hba m.hbn m.hbc, .slice m.hpa m.hpn m.hpc, .int .i64 m.sau, .int .i64 m.srd, .slice m.sda m.sdn m.sdc, .int .i64 m.cau, .int .i64 m.crd, .slice m.cba m.cbn m.cbc, .slice m.cpa m.cpn m.cpc, .slice m.cva m.cvn m.cvc, .int .i64 m.ro]] w1 fun e w' => e = .returned (.int .i64 0) ∧ Below w1.heap.size w1 w') :
    Calls Try.prog 31 #[.agg #[.int .i64 m.fr, .int .i64 m.tt, .int .i64 m.ki, .int .i64 m.bau, .int .i64 m.bnu, .slice m.bta m.btn m.btc, .int .i64 m.hau, .int .i64 m.hrd, .slice m.hba m.hbn m.hbc, .slice m.hpa m.hpn m.hpc, .int .i64 m.sau, .int .i64 m.srd, .slice m.sda m.sdn m.sdc, .int .i64 m.cau, .int .i64 m.crd, .slice m.cba m.cbn m.cbc, .slice m.cpa m.cpn m.cpc, .slice m.cva m.cvn m.cvc, .int .i64 m.ro]] w fun e w' => ∃ v, e = .returned (.tuple #[v, .int .i64 0]) ∧ w'.ownsRow w.heap.size 5 1 v (3 + (headB m.hau m.hrd bl pl).length) (ub ([2, m.fr, m.tt] ++ headB m.hau m.hrd bl pl)) ∧ Below w.heap.size w w' := by
  have hq := heap_alloc_new w (.cells #[.int .i64 m.fr, .int .i64 m.tt, .int .i64 m.ki, .int .i64 m.bau, .int .i64 m.bnu, .slice m.bta m.btn m.btc, .int .i64 m.hau, .int .i64 m.hrd, .slice m.hba m.hbn m.hbc, .slice m.hpa m.hpn m.hpc, .int .i64 m.sau, .int .i64 m.srd, .slice m.sda m.sdn m.sdc, .int .i64 m.cau, .int .i64 m.crd, .slice m.cba m.cbn m.cbc, .slice m.cpa m.cpn m.cpc, .slice m.cva m.cvn m.cvc, .int .i64 m.ro] 47)
  have hB : Below w.heap.size w (w.alloc (.cells #[.int .i64 m.fr, .int .i64 m.tt, .int .i64 m.ki, .int .i64 m.bau, .int .i64 m.bnu, .slice m.bta m.btn m.btc, .int .i64 m.hau, .int .i64 m.hrd, .slice m.hba m.hbn m.hbc, .slice m.hpa m.hpn m.hpc, .int .i64 m.sau, .int .i64 m.srd, .slice m.sda m.sdn m.sdc, .int .i64 m.cau, .int .i64 m.crd, .slice m.cba m.cbn m.cbc, .slice m.cpa m.cpn m.cpc, .slice m.cva m.cvn m.cvc, .int .i64 m.ro] 47)) := (Below.refl _ _).alloc (Nat.le_refl _) _
  rw [hk] at hc hq hB ⊢
  obtain ⟨hf0, hf1⟩ := hf
  obtain ⟨ht0, ht1⟩ := ht
  have Hn : Hid (m.hbn = bl.length) := hbn
  have Hp : Hid (m.hpn = pl.length) := hpn
  clear hbn hpn hk
  go_enter Try.func31, Try.ntmps31
  go_wp2_with (refine wpList_load_row rfl 47 _ rfl w.heap.size rfl 47 _ (0, 0) _ hq Try.underlying47 rfl sMsg ?_)
  refine (hc _ hB).mono ?_
  rintro e w1 ⟨rfl, hb1⟩
  have r1 := row_new hb1
  replace hb1 := below_alloc hb1
  have c0 : w1.cell? ⟨w.heap.size, 0, none⟩ = some (.int .i64 m.fr) := cells_at r1 0 _ rfl
  have c1 : w1.cell? ⟨w.heap.size, 1, none⟩ = some (.int .i64 m.tt) := cells_at r1 1 _ rfl
  have c2 : w1.cell? ⟨w.heap.size, 2, none⟩ = some (.int .i64 2) := cells_at r1 2 _ rfl
  have c6 : w1.cell? ⟨w.heap.size, 6, none⟩ = some (.int .i64 m.hau) := cells_at r1 6 _ rfl
  have c7 : w1.cell? ⟨w.heap.size, 7, none⟩ = some (.int .i64 m.hrd) := cells_at r1 7 _ rfl
  have c8 : w1.cell? ⟨w.heap.size, 8, none⟩ = some (.slice m.hba m.hbn m.hbc) := cells_at r1 8 _ rfl
  have c9 : w1.cell? ⟨w.heap.size, 9, none⟩ = some (.slice m.hpa m.hpn m.hpc) := cells_at r1 9 _ rfl
  have hlt : w.heap.size < w1.heap.size := lt_of_heap r1
  have hlit := World.ownsRow_lit (base := w1.heap.size) (e := 5) (size := 1) w1 (ub [2, m.fr, m.tt]).toArray 3 (Nat.le_refl _) (by decide) rfl
  have hA1 : Below w1.heap.size w1 (w1.alloc (.cells (ub [2, m.fr, m.tt]).toArray 5)) := (Below.refl _ _).alloc (Nat.le_refl _) _
  have oo : ∀ (ra : Option Addr) (rc : Nat) (qs : List Part), ListAt w ra rc qs → OffW (w1.alloc (.cells (ub [2, m.fr, m.tt]).toArray 5)) (.slice (some ⟨w1.heap.size, 0, none⟩) 3 3) ra qs := fun ra rc qs h =>
    offW_of_list (h.below hb1) (le_alloc (Nat.le_refl _) _) (fun sb hl e => by have e' : w1.heap.size = sb := (by simpa [Value.ownBlock] using e); omega)
  have hH := appendHeader_w w1.heap.size (.slice (some ⟨w1.heap.size, 0, none⟩) 3 3) 3 [2, m.fr, m.tt] m.hau m.hrd m.hba m.hbn m.hbc bl m.hpa m.hpn m.hpc pl _ ha hr Hn.out Hp.out hbl hpl hb32 hp32 ((hLb.below hb1).below hA1) (oo _ _ _ hLb) ((hLp.below hb1).below hA1) (oo _ _ _ hLp) hlit (le_alloc (Nat.le_refl _) _) (by decide)
  clear oo
  go_wp2_with fail
  refine hH.mono ?_
  rintro e w2 ⟨v2, rfl, ho2, hG⟩
  have hb2 := hG.below (base := w1.heap.size) (le_alloc (Nat.le_refl _) _) (fun q e => by cases e; exact Nat.le_refl _)
  clear hG hH
  go_wp2_with fail
  go_ret2
  refine ⟨v2, rfl, ownsRow_base' ho2 hb1.size, ?_⟩
  exact (hb1.alloc hb1.size _).trans (hb2.mono hb1.size)
set_option maxRecDepth 100000 in
theorem encode_offer (m : Msg) (bl pl : List Part) (w : World) (hk : m.ki = 2) (hf : 0 ≤ m.fr ∧ m.fr < 4) (ht : 0 ≤ m.tt ∧ m.tt < 4) (ha : 0 ≤ m.hau ∧ m.hau < 4) (hr : 0 ≤ m.hrd ∧ m.hrd ≤ 1048576) (hbn : m.hbn = bl.length) (hpn : m.hpn = pl.length) (hbl : bl.length ≤ 4) (hpl : pl.length ≤ 4) (hb32 : ∀ p ∈ bl, p.bs.length = 32) (hp32 : ∀ p ∈ pl, p.bs.length = 32) (hLb : ListAt w m.hba m.hbc bl) (hLp : ListAt w m.hpa m.hpc pl) (_hOb : Off w (.slice none 0 0) m.hba bl) (_hOp : Off w (.slice none 0 0) m.hpa pl)
    (hc : ∀ w1, Below w.heap.size w w1 → Calls Try.prog 40 #[.agg #[.int .i64 m.fr, .int .i64 m.tt, .int .i64 m.ki, .int .i64 m.bau, .int .i64 m.bnu, .slice m.bta m.btn m.btc, .int .i64 m.hau, .int .i64 m.hrd, .slice m.hba m.hbn m.hbc, .slice m.hpa m.hpn m.hpc, .int .i64 m.sau, .int .i64 m.srd, .slice m.sda m.sdn m.sdc, .int .i64 m.cau, .int .i64 m.crd, .slice m.cba m.cbn m.cbc, .slice m.cpa m.cpn m.cpc, .slice m.cva m.cvn m.cvc, .int .i64 m.ro]] w1 fun e w' => e = .returned (.int .i64 0) ∧ Below w1.heap.size w1 w') :
    Calls Try.prog 31 #[.agg #[.int .i64 m.fr, .int .i64 m.tt, .int .i64 m.ki, .int .i64 m.bau, .int .i64 m.bnu, .slice m.bta m.btn m.btc, .int .i64 m.hau, .int .i64 m.hrd, .slice m.hba m.hbn m.hbc, .slice m.hpa m.hpn m.hpc, .int .i64 m.sau, .int .i64 m.srd, .slice m.sda m.sdn m.sdc, .int .i64 m.cau, .int .i64 m.crd, .slice m.cba m.cbn m.cbc, .slice m.cpa m.cpn m.cpc, .slice m.cva m.cvn m.cvc, .int .i64 m.ro]] w fun e w' => ∃ v, e = .returned (.tuple #[v, .int .i64 0]) ∧ w'.ownsRow w.heap.size 5 1 v (3 + (headB m.hau m.hrd bl pl).length) (ub ([2, m.fr, m.tt] ++ headB m.hau m.hrd bl pl)) ∧ Below w.heap.size w w' :=
  encode_offer_w m bl pl w hk hf ht ha hr hbn hpn hbl hpl hb32 hp32 hLb hLp hc
end Go.Proofs.Ythpocgndgphedaa
