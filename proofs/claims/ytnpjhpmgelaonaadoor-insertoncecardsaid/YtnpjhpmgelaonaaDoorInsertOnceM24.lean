/- What sheaveskeep.Dag's walk uses: dags apart from a row, bytes as texts, regions by states. -/
import Derived.Test.YtnpjhpmgelaonaaDoorDigH
import Derived.Test.YtnpjhpmgelaonaaDoorInsertOnceM18
import Derived.Test.YtnpjhpmgelaonaaDoorInsertOnceM12
import Derived.Test.YtnpjhpmgelaonaaDoorOwnL
import Derived.Test.YtnpjhpmgelaonaaDoorLAt
import Derived.Test.YtnpjhpmgelaonaaDoorCalls
namespace Go.Proofs.YtnpjhpmgelaonaaDoor
open Go.RowKit

set_option maxRecDepth 100000 in
set_option maxHeartbeats 1000000 in
theorem batchDigest_bad (au nu : Int) (sa : Option Addr) (n cap : Nat) (ss : List ByteArray) (ec : Int) (w : World) (hn : n = ss.length) (hm : n ≤ maxLen) (hs : StrsAt w sa ss) (he : batchF au nu ss = ec) (h0 : ec ≠ 0) :
    Calls Tryd.prog 41 #[.agg #[.int .i64 au, .int .i64 nu, .slice sa n cap]] w fun e w' => e = .returned (.tuple #[.slice none 0 0, .int .i64 ec]) ∧ Below w.heap.size w w' := by
  have hA : Below w.heap.size w (w.alloc (.cells #[.int .i64 au, .int .i64 nu, .slice sa n cap] 76)) := (Below.refl _ _).alloc (Nat.le_refl _) _
  have hC := checkBatch_any au nu sa n cap ss _ hn hm (hs.below hA)
  rw [he] at hC
  clear hn hm he
  go_enter Tryd.func41, Tryd.ntmps41
  go_wp2_with fail
  refine hC.mono ?_
  rintro e w1 ⟨rfl, hb1⟩
  go_wp2_with fail
  go_ret2
  exact ⟨rfl, below_alloc hb1⟩
set_option maxRecDepth 100000 in
set_option maxHeartbeats 1000000 in
theorem batchDigest_ok (au nu : Int) (sa : Option Addr) (n cap : Nat) (ss : List ByteArray) (w : World) (hn : n = ss.length) (hs : StrsAt w sa ss) (hF : batchF au nu ss = 0) (ha : 0 ≤ au ∧ au < 4) (hr : 0 ≤ nu ∧ nu ≤ 1048576) (hl : ss.length ≤ 4) (hz : ∀ s ∈ ss, s.size ≤ 20) (hsb : ∀ sb so, sa = some ⟨sb, so, none⟩ → sb < w.heap.size) (hT : Tabs w) :
    Calls Tryd.prog 41 #[.agg #[.int .i64 au, .int .i64 nu, .slice sa n cap]] w fun e w' => ∃ b, e = .returned (.tuple #[.slice (some ⟨b, 0, none⟩) 32 32, .int .i64 0]) ∧ w.heap.size ≤ b ∧ Below w.heap.size w w' ∧ SliceAt w' (some ⟨b, 0, none⟩) 32 (tagD 1 (batchB au nu ss)) := by
  have hA : Below w.heap.size w (w.alloc (.cells #[.int .i64 au, .int .i64 nu, .slice sa n cap] 76)) := (Below.refl _ _).alloc (Nat.le_refl _) _
  have hC := checkBatch_any au nu sa n cap ss _ hn (by rw [hn]; unfold maxLen; omega) (hs.below hA)
  rw [hF] at hC
  have hle := txsB_le ss hz
  have Hn : Hid (n = ss.length) := hn
  clear hn hF
  go_enter Tryd.func41, Tryd.ntmps41
  go_wp2_with fail
  refine hC.mono ?_
  rintro e w1 ⟨rfl, hb1⟩
  have r1 := row_new hb1
  replace hb1 := below_alloc hb1
  have c0 : w1.cell? ⟨w.heap.size, 0, none⟩ = some (.int .i64 au) := cells_at r1 0 _ rfl
  have c1 : w1.cell? ⟨w.heap.size, 1, none⟩ = some (.int .i64 nu) := cells_at r1 1 _ rfl
  have c2 : w1.cell? ⟨w.heap.size, 2, none⟩ = some (.slice sa n cap) := cells_at r1 2 _ rfl
  have hsz := hb1.size
  clear hC
  go_wp2_with fail
  refine (appendBatch_any w1.heap.size (.slice none 0 0) 0 [] au nu sa n cap ss w1 ha hr Hn.out hl hz (hs.below hb1) (fun sb so e => ⟨Nat.lt_of_lt_of_le (hsb sb so e) hsz, fun h => by cases h⟩) (World.ownsRow_nil _ _ _ _) (Nat.le_refl _) (by decide)).mono ?_
  rintro e w2 ⟨v2, rfl, ho2, G2⟩
  have hb2 : Below w1.heap.size w1 w2 := G2.below (Nat.le_refl _) (fun q e => by cases e)
  rw [Nat.zero_add, List.nil_append] at ho2
  obtain ⟨xa, xc, hv, hxl, hx⟩ := owns_form ho2
  subst hv
  have hW2 := hb1.trans (hb2.mono hsz)
  have HX : Hid _ := hxl
  have hbl : (batchB au nu ss).length ≤ 100 := by simp [batchB, rd3]; omega
  have hA2 : Below w2.heap.size w2 (w2.alloc (.cells #[.slice xa (batchB au nu ss).length xc] 41)) := (Below.refl _ _).alloc (Nat.le_refl _) _
  clear hxl ho2 G2
  generalize hBB : batchB au nu ss = B at *
  have HB : Hid _ := hBB
  clear hBB
  go_wp2_with fail
  refine (tagged_ok 1 [⟨xa, xc, B⟩] _ _ _ _ rfl (one_part w2 xa _ xc B rfl hx) (by simp [psz]; omega) ((hT.below hW2).below hA2)).mono ?_
  rintro e w3 ⟨b, rfl, hle3, hb3, hr3⟩
  go_wp2_with fail
  go_ret2
  refine ⟨b, rfl, ?_, ?_, ?_⟩
  · rw [size_alloc] at hle3; have := hW2.size; omega
  · exact hW2.trans ((below_alloc hb3).mono hW2.size)
  · rw [tagD, HB.out, ← tagTo_part 1 xa xc B]; exact hr3
end Go.Proofs.YtnpjhpmgelaonaaDoor

namespace Go.Proofs.YtnpjhpmgelaonaaDoor
open Go.RowKit

/-- The round of a step's header. -/
def sRd (s : Stp) (rd : Int) : Int := if pk s.y 4 = 3 ∧ 1 < rd then rd - 1 else rd
/-- Its parents. -/
def sPl (s : Stp) (c : List CV) (hr : Int) : List (List Int) := if 1 < hr then (if 3 < (dgF c (hr - 1)).length ∧ pk s.y 3 = 1 then (dgF c (hr - 1)).drop 1 else dgF c (hr - 1)) else []
/-- What counts of a batch of two texts. -/
structure BV where
  (au nu : Int) (s1 s2 : ByteArray)
def BV.d (b : BV) : List Int := tagD 1 (batchB b.au b.nu [b.s1, b.s2])
def sBv (s : Stp) (i b : Nat) : BV := ⟨pk s.x 4, 1 + 3 * (i : Int) + b, bstr [97 + (i : Int)], bstr [65 + pk s.z 7, 48 + (b : Int)]⟩
def sBs (s : Stp) (i n : Nat) : List BV := (List.range n).map (sBv s i)
set_option maxRecDepth 100000 in
theorem sBs_succ (s : Stp) (i n : Nat) : sBs s i (n + 1) = sBs s i n ++ [sBv s i n] := by simp [sBs, List.range_succ]
set_option maxRecDepth 100000 in
theorem sBs_length (s : Stp) (i n : Nat) : (sBs s i n).length = n := by simp [sBs]
/-- How many batches a step has. -/
def sN (s : Stp) : Nat := (pk s.z 3).toNat
/-- A step's certificate, behind those that there are, at the round rd. -/
def sC (s : Stp) (i : Nat) (c : List CV) (rd : Int) : CV := ⟨pk s.x 4, sRd s rd, (sBs s i (sN s)).map BV.d, sPl s c (sRd s rd), [0, 1, 2]⟩
def sNext (s : Stp) (i : Nat) (c c' : List CV) : Prop := ∃ rd, NextR c rd ∧ c' = if insE c (sC s i c rd) = 0 then c ++ [sC s i c rd] else c
def sAt (l : List Stp) (k : Nat) : Stp := l.getD k ⟨0, 0, 0⟩
set_option maxRecDepth 100000 in
theorem sAt_get (l : List Stp) (k : Nat) (h : k < l.length) : sAt l k = l[k] := by simp [sAt, h]
/-- What the first k steps make. -/
def GrownTo (l : List Stp) : Nat → List CV → Prop
  | 0, c => c = []
  | k + 1, c => ∃ c0, GrownTo l k c0 ∧ sNext (sAt l k) k c0 c
/-- The batches of the first k steps. -/
def bvTo (l : List Stp) : Nat → List BV
  | 0 => []
  | k + 1 => bvTo l k ++ sBs (sAt l k) k (sN (sAt l k))
set_option maxRecDepth 100000 in
theorem sNext.one {s : Stp} {i : Nat} {c a b : List CV} (h : sNext s i c a) (g : sNext s i c b) : a = b := by
  obtain ⟨r1, n1, rfl⟩ := h
  obtain ⟨r2, n2, rfl⟩ := g
  obtain rfl := n1.one n2
  rfl
set_option maxRecDepth 100000 in
theorem GrownTo.one {l : List Stp} {k : Nat} : ∀ {a b : List CV}, GrownTo l k a → GrownTo l k b → a = b := by
  induction k with
  | zero => intro a b h g; exact h.trans g.symm
  | succ k ih =>
    rintro a b ⟨a0, ha, na⟩ ⟨b0, hb, nb⟩
    obtain rfl := ih ha hb
    exact na.one nb
set_option maxRecDepth 100000 in
theorem sN_le (s : Stp) : sN s ≤ 2 := by have := pk_bounds s.z 3 (by decide); unfold sN; omega
set_option maxRecDepth 100000 in
theorem bvTo_length (l : List Stp) (k : Nat) : (bvTo l k).length ≤ 2 * k := by
  induction k with
  | zero => simp [bvTo]
  | succ k ih => rw [bvTo, List.length_append, sBs_length]; have := sN_le (sAt l k); omega
set_option maxRecDepth 100000 in
theorem dag_snoc {l : List CV} {c : CV} (h : dagF l = 0) (g : insE l c = 0) : dagF (l ++ [c]) = 0 := by
  rw [insE_stk c h] at g
  obtain ⟨g1, g2, g3⟩ := stkE_ok g
  obtain ⟨h1, h2⟩ := dagF_zero h
  refine dagF_ok _ (by simp; omega) (fun k hk => ?_)
  rcases Nat.lt_or_ge k l.length with hl | hl
  · have := h2 k hl
    have e1 : cvAt (l ++ [c]) k = cvAt l k := by simp [cvAt, List.getD, List.getElem?_append_left hl]
    have e2 : (l ++ [c]).take k = l.take k := List.take_append_of_le_length (by omega)
    rw [badC, e1, e2]; exact this
  · obtain rfl : k = l.length := by simp at hk; omega
    have e1 : cvAt (l ++ [c]) l.length = c := by simp [cvAt]
    have e2 : (l ++ [c]).take l.length = l := by simp
    rw [badC, e1, e2]
    simp [g1, g2]
set_option maxRecDepth 100000 in
theorem insE_ok {l : List CV} {c : CV} (h : dagF l = 0) (g : insE l c = 0) : c.f = 0 ∧ takF l c.au c.rd c.pl = 0 ∧ l.length < 400 := by
  rw [insE_stk c h] at g; exact stkE_ok g
set_option maxRecDepth 100000 in
/-- A property of dags that every step keeps. -/
theorem GrownTo.keep {l : List Stp} (P : Nat → List CV → Prop) (h0 : P 0 []) (hs : ∀ k c rd, P k c → dagF c = 0 → NextR c rd → (insE c (sC (sAt l k) k c rd) = 0 → P (k + 1) (c ++ [sC (sAt l k) k c rd])) ∧ (insE c (sC (sAt l k) k c rd) ≠ 0 → P (k + 1) c)) :
    ∀ {k : Nat} {c : List CV}, GrownTo l k c → P k c ∧ dagF c = 0 := by
  intro k
  induction k with
  | zero => rintro c rfl; exact ⟨h0, rfl⟩
  | succ k ih =>
    rintro c ⟨c0, hc, rd, hn, rfl⟩
    obtain ⟨p0, d0⟩ := ih hc
    obtain ⟨h1, h2⟩ := hs k c0 rd p0 d0 hn
    by_cases g : insE c0 (sC (sAt l k) k c0 rd) = 0
    · rw [if_pos g]; exact ⟨h1 g, dag_snoc d0 g⟩
    · rw [if_neg g]; exact ⟨h2 g, d0⟩
set_option maxRecDepth 100000 in
theorem GrownTo.dag {l : List Stp} {k : Nat} {c : List CV} (h : GrownTo l k c) : dagF c = 0 := (GrownTo.keep (fun _ _ => True) trivial (fun _ _ _ _ _ _ => ⟨fun _ => trivial, fun _ => trivial⟩) h).2
set_option maxRecDepth 100000 in
theorem GrownTo.len {l : List Stp} {k : Nat} {c : List CV} (h : GrownTo l k c) : c.length ≤ k :=
  (GrownTo.keep (fun k c => c.length ≤ k) (Nat.le_refl _) (fun k c rd hp _ _ => ⟨fun _ => by simp; omega, fun _ => by omega⟩) h).1
set_option maxRecDepth 100000 in
theorem next_bound {l : List CV} (h : dagF l = 0) {r : Int} (hn : NextR l r) : 1 ≤ r ∧ r ≤ 1048577 := by
  refine ⟨hn.1, ?_⟩
  rcases Int.lt_or_le 1 r with g | g
  · have h3 := hn.2.1 (r - 1) (by omega) (by omega)
    obtain ⟨j, hj, e⟩ := dgTo_some l (r - 1) 4 (by rw [dgF] at h3; omega)
    have := (f_round (dagF_f h j hj)).2
    omega
  · omega
set_option maxRecDepth 100000 in
theorem insE_few {l : List CV} {c : CV} (h : insE l c = 0 → False) (hd : dagF l = 0) : stkE l c ≠ 0 := fun g => h (by rw [insE_stk c hd]; exact g)
end Go.Proofs.YtnpjhpmgelaonaaDoor

namespace Go.Proofs.YtnpjhpmgelaonaaDoor
open Go.RowKit

/-- A batch of two texts, and the block where these lie. -/
structure Bt where
  v : BV
  tb : Nat
def Bt.cs (b : Bt) : List Value := [.int .i64 b.v.au, .int .i64 b.v.nu, .slice (some ⟨b.tb, 0, none⟩) 2 2]
def btv : List Bt → List Value
  | [] => []
  | s :: r => s.cs ++ btv r
def BtOk (w : World) (b : Bt) : Prop := w.heap[b.tb]? = some (.cells #[.string b.v.s1, .string b.v.s2] 9 (0, 0))
set_option maxRecDepth 100000 in
theorem btv_snoc (ls : List Bt) (s : Bt) : btv (ls ++ [s]) = btv ls ++ s.cs := by
  induction ls with
  | nil => simp [btv]
  | cons x r ih => simp [btv, ih]
set_option maxRecDepth 100000 in
theorem btv_length (ls : List Bt) : (btv ls).length = ls.length * 3 := by
  induction ls with
  | nil => rfl
  | cons x r ih => simp [btv, ih, Bt.cs]; omega
set_option maxRecDepth 100000 in
theorem btv_get (ls : List Bt) (j i : Nat) (h : j < ls.length) (hi : i < 3) : (btv ls)[j * 3 + i]? = (ls[j]).cs[i]? := by
  induction ls generalizing j with
  | nil => cases h
  | cons x r ih =>
    cases j with
    | zero => simp only [btv, Nat.zero_mul, Nat.zero_add, List.getElem_cons_zero]; rw [List.getElem?_append_left (by simp [Bt.cs]; exact hi)]
    | succ j =>
      have h' : j < r.length := by simpa using h
      simp only [btv, List.getElem_cons_succ]
      rw [List.getElem?_append_right (by simp [Bt.cs]; omega), ← ih j h']
      congr 1
      simp [Bt.cs]; omega
set_option maxRecDepth 100000 in
theorem bt_one (c : Bt) : ∀ u ∈ c.cs, u.oneCell' = true := by
  intro u hu
  simp [Bt.cs] at hu
  rcases hu with rfl | rfl | rfl <;> rfl
set_option maxRecDepth 100000 in
theorem infoBatch : (Tryd.prog.info? 76).map (fun i => (i.zero, i.size, i.bytes)) = some (some (.agg #[.int .i64 0, .int .i64 0, .slice none 0 0]), 3, 40) := by kernel_rfl
set_option maxRecDepth 100000 in
/-- Texts of a block lie apart from a row of batches. -/
theorem bt_apart {w : World} {base n : Nat} {v : Value} {xs : List Value} {b : Bt} (h : w.ownsRow base 76 3 v n xs) (hb : BtOk w b) : v.ownBlock ≠ some b.tb := by
  intro e
  rcases h.2 with ⟨rfl, _⟩ | ⟨g, cap, cur, rfl, hg, hc, r⟩
  · cases e
  · have hgb : g = b.tb := by simpa [Value.ownBlock] using e
    rw [hgb, show w.heap[b.tb]? = _ from hb] at hc
    simp at hc
set_option maxRecDepth 100000 in
theorem BtOk.below {w w' : World} {b : Bt} (h : BtOk w b) (hb : Below w.heap.size w w') : BtOk w' b := (hb.block _ (lt_of_heap h)).trans h
set_option maxRecDepth 100000 in
theorem BtOk.setCell {w : World} {b : Bt} (h : BtOk w b) (q j : Nat) (x : Value) (hn : q ≠ b.tb) : BtOk (w.setCell ⟨q, j, none⟩ x) b := heap_far h hn.symm
/-- Batches of a row that the call owns. -/
structure BtsOwn (w : World) (B : Nat) (v : Value) (bl : List Bt) : Prop where
  row : w.ownsRow B 76 3 v bl.length (btv bl)
  each : ∀ b ∈ bl, BtOk w b
set_option maxRecDepth 100000 in
theorem BtsOwn.below {w w' : World} {B : Nat} {v : Value} {bl : List Bt} (h : BtsOwn w B v bl) (hb : Below w.heap.size w w') : BtsOwn w' B v bl := ⟨owns_keep h.row hb, fun b hb' => (h.each b hb').below hb⟩
/-- What is read of a slice of batches. -/
structure BtsAt (w : World) (sa : Option Addr) (bl : List Bt) : Prop where
  cells : bl = [] ∨ ∃ sb so, sa = some ⟨sb, so, none⟩ ∧ ∀ j (h : j < bl.length), w.cell? ⟨sb, so + j * 3, none⟩ = some (.int .i64 (bl[j]).v.au) ∧ w.cell? ⟨sb, so + j * 3 + 1, none⟩ = some (.int .i64 (bl[j]).v.nu) ∧ w.cell? ⟨sb, so + j * 3 + 2, none⟩ = some (.slice (some ⟨(bl[j]).tb, 0, none⟩) 2 2)
  each : ∀ b ∈ bl, BtOk w b
set_option maxRecDepth 100000 in
theorem BtsAt.below {w w' : World} {sa : Option Addr} {bl : List Bt} (h : BtsAt w sa bl) (hb : Below w.heap.size w w') : BtsAt w' sa bl := by
  refine ⟨?_, fun b hb' => (h.each b hb').below hb⟩
  rcases h.cells with h | ⟨sb, so, rfl, hc⟩
  · exact .inl h
  · refine .inr ⟨sb, so, rfl, fun j hj => ?_⟩
    obtain ⟨h0, h1, h2⟩ := hc j hj
    have hlt : sb < w.heap.size := block_lt_of_cell h0
    exact ⟨(hb.cell (p := ⟨sb, so + j * 3, none⟩) hlt).trans h0, (hb.cell (p := ⟨sb, so + j * 3 + 1, none⟩) hlt).trans h1, (hb.cell (p := ⟨sb, so + j * 3 + 2, none⟩) hlt).trans h2⟩
set_option maxRecDepth 100000 in
theorem bts_of_owns {w : World} {B : Nat} {v : Value} {bl : List Bt} (h : BtsOwn w B v bl) : ∃ sa cap, v = .slice sa bl.length cap ∧ BtsAt w sa bl ∧ (sa = none → cap = 0) ∧ (∀ sb so, sa = some ⟨sb, so, none⟩ → B ≤ sb) ∧ bl.length ≤ cap := by
  rcases h.row.2 with ⟨rfl, hn⟩ | ⟨g, cap, cur, rfl, hr⟩
  · have hb : bl = [] := List.eq_nil_of_length_eq_zero hn
    subst hb
    exact ⟨none, 0, rfl, ⟨.inl rfl, h.each⟩, fun _ => rfl, (fun _ _ e => by cases e), Nat.le_refl _⟩
  · refine ⟨some ⟨g, 0, none⟩, cap, rfl, ⟨.inr ⟨g, 0, rfl, fun j hj => ?_⟩, h.each⟩, (fun e => by cases e), (fun sb so e => by cases e; exact (h.row.lt _ rfl).1), ?_⟩
    · have e : ∀ i, i < 3 → w.cell? ⟨g, 0 + j * 3 + i, none⟩ = (bl[j]).cs[i]? := fun i hi => by rw [show 0 + j * 3 + i = j * 3 + i by omega, World.ownsRow.cellAt h.row (j * 3 + i) (by omega), btv_get bl j i hj hi]
      exact ⟨e 0 (by omega), e 1 (by omega), e 2 (by omega)⟩
    · obtain ⟨_, _, h1, _⟩ := hr
      omega
set_option maxRecDepth 100000 in
/-- A batch more. -/
theorem BtsOwn.more {w w' : World} {B : Nat} {v v' : Value} {bl : List Bt} {b : Bt} (h : BtsOwn w B v bl) (hb : BtOk w b) (ho : w'.ownsRow B 76 3 v' (bl.length + 1) (btv bl ++ b.cs)) (G : Grew w v w' v') : BtsOwn w' B v' (bl ++ [b]) := by
  refine ⟨by rw [btv_snoc, List.length_append]; exact ho, fun c hc => ?_⟩
  have hk : BtOk w c := by
    rcases List.mem_append.1 hc with hc | hc
    · exact h.each c hc
    · obtain rfl : c = b := by simpa using hc
      exact hb
  exact G.row hk (bt_apart h.row hk)
end Go.Proofs.YtnpjhpmgelaonaaDoor

namespace Go.Proofs.YtnpjhpmgelaonaaDoor
open Go.RowKit

set_option maxRecDepth 100000 in
theorem list_drop {w : World} {sb so cap : Nat} {p : Part} {ps : List Part} (h : ListAt w (some ⟨sb, so, none⟩) cap (p :: ps)) : ListAt w (some ⟨sb, so + 1, none⟩) (cap - 1) ps := by
  have hle := h.le
  have hmx := h.max
  have hsm := h.small
  simp only [List.length_cons] at hle hsm
  refine ⟨by omega, by omega, by omega, .inr ⟨_, _, rfl⟩, ⟨.inr ⟨sb, so + 1, rfl, fun j hj => ?_⟩, fun q hq => h.parts.each q (List.mem_cons_of_mem _ hq)⟩⟩
  rcases h.parts.cells with hc | ⟨b, o, e, hc⟩
  · cases hc
  · cases e
    have := hc (j + 1) (by simpa using hj)
    rw [show so + 1 + j = so + (j + 1) by omega]
    simpa using this
end Go.Proofs.YtnpjhpmgelaonaaDoor

namespace Go.Proofs.YtnpjhpmgelaonaaDoor
open Go.RowKit

set_option maxRecDepth 100000 in
theorem step_append_on {ops : Array Oper} {o : Oper} {a : Act} {w : World} {K : Act → World → Prop} {Q : Exit → Act → World → Prop} {E : Prop}
    (hw : Region.wanted o (yielded ops a.tmps) = true) (d : Nat) (hd : o.dst = some d) (s x : Operand) (t : TypeId) (ho : o.op = .call { callee := .builtin .append, args := #[s, x], argTypes := #[t, t] })
    (base : Nat) (e : TypeId) (i : TypeInfo) (z : Value) (size bytes : Nat) (ht : Tryd.prog.underlying t = some (.slice e)) (hi : Tryd.prog.info? e = some i) (hz : i.zero = some z)
    (hsize : i.size = size) (hby : i.bytes = bytes) (hzs : z.cells.size = size) (hsz : 0 < size)
    (v : Value) (n : Nat) (xs : List Value) (hs : a.eval s = v) (hown : w.ownsRow base e size v n xs)
    (ad : Addr) (m c : Nat) (news : List Value) (hx : a.eval x = .slice (some ad) m c) (hl : news.length = m * size) (hnews : ∀ j u, news[j]? = some u → w.cell? (ad.add j) = some u) (h1 : ∀ u ∈ news, u.oneCell' = true)
    (h63 : n + m ≤ maxLen) (hbytes : (n + m) * bytes ≤ 140737488355328) (hbase : base ≤ w.heap.size)
    (hK : ∀ v' w', w'.ownsRow base e size v' (n + m) (xs ++ news) → Grew w v w' v' → K (a.put (some d) v') w') :
    if Region.wanted o (yielded ops a.tmps) = true then Oper.wp Tryd.prog o a w K Q else E := by
  rw [if_pos hw]
  obtain ⟨v', w', hr, h2, h3, _, h5⟩ := run_append_own_at (P := Tryd.prog) w base t o.type e i z size bytes ht hi hz hsize hby hzs hsz v n xs hown ad m c news hl hnews h1 h63 hbytes hbase
  unfold Oper.wp execOp
  simp only [ho, resolve, invoke, builtin, Sem.run_bind, Sem.run_pure, Result.andThen_ok, List.map_toArray, List.map_cons, List.map_nil, hs, hx, hr]
  rw [Oper.upon_value, hd]
  exact hK v' w' h2 (Grew.of h3 h5)
set_option maxRecDepth 100000 in
/-- An operation behind a guard that is no call, and that turns the world. -/
theorem step_run_on {ops : Array Oper} {o : Oper} {a : Act} {w : World} {K : Act → World → Prop} {Q : Exit → Act → World → Prop} {E : Prop}
    (hw : Region.wanted o (yielded ops a.tmps) = true) (d : Nat) (hd : o.dst = some d) (v : Value) (w' : World) (hr : (execOp a.eval o).run Tryd.prog w = .ok (.value v) w') (hK : K (a.put (some d) v) w') :
    if Region.wanted o (yielded ops a.tmps) = true then Oper.wp Tryd.prog o a w K Q else E := by
  rw [if_pos hw]
  unfold Oper.wp
  rw [hr, Oper.upon_value, hd]
  exact hK
set_option maxRecDepth 100000 in
/-- A store as the operation that comes up. -/
theorem step_store {ops : Array Oper} {o : Oper} {a : Act} {w : World} {K : Act → World → Prop} {Q : Exit → Act → World → Prop} {E : Prop}
    (hg : o.guard = none) (hd : o.dst = none) (w' : World) (hr : (execOp a.eval o).run Tryd.prog w = .ok .skip w') (hK : K a w') :
    if Region.wanted o (yielded ops a.tmps) = true then Oper.wp Tryd.prog o a w K Q else E := by
  have hw : Region.wanted o (yielded ops a.tmps) = true := by simp [Region.wanted, hg]
  rw [if_pos hw]
  unfold Oper.wp
  rw [hr, Oper.upon_skip, hd]
  exact hK
end Go.Proofs.YtnpjhpmgelaonaaDoor

namespace Go.Proofs.YtnpjhpmgelaonaaDoor
open Go.RowKit

/-- A dag lies apart from a row. -/
def DagOff (v : Value) (ka : Option Addr) (ks : List Ct) : Prop := (∀ sb so, ka = some ⟨sb, so, none⟩ → v.ownBlock ≠ some sb) ∧ ∀ c ∈ ks, ∀ q, CtIn c q → v.ownBlock ≠ some q
/-- A dag lies at B or behind it. -/
def DagNew (B : Nat) (ka : Option Addr) (ks : List Ct) : Prop := (∀ sb so, ka = some ⟨sb, so, none⟩ → B ≤ sb) ∧ ∀ c ∈ ks, ∀ q, CtIn c q → B ≤ q
set_option maxRecDepth 100000 in
theorem dagOff_none (v : Value) : DagOff v none [] := ⟨(fun _ _ e => by cases e), (fun c hc => by cases hc)⟩
set_option maxRecDepth 100000 in
theorem dagNew_none (B : Nat) : DagNew B none [] := ⟨(fun _ _ e => by cases e), (fun c hc => by cases hc)⟩
/-- What sheaveskeep.Dag answers. -/
def GrownIs (w w' : World) (e : Ending) (l : List Stp) (k : Nat) : Prop :=
  ∃ ka kc ks ba bc bl, e = .returned (.tuple #[.agg #[.slice ka (List.length ks) kc], .slice ba (List.length bl) bc]) ∧ GrownTo l k (cvs ks) ∧ DagAt w' ka kc ks ∧ DagNew w.heap.size ka ks ∧ BtsOwn w' w.heap.size (.slice ba (List.length bl) bc) bl ∧ DagOff (.slice ba (List.length bl) bc) ka ks ∧ bl.map (·.v) = bvTo l k ∧ Below w.heap.size w w'
/-- The blocks of a dag. -/
def DagIn (ka : Option Addr) (ks : List Ct) (b : Nat) : Prop := (∃ so, ka = some ⟨b, so, none⟩) ∨ ∃ c ∈ ks, CtIn c b
set_option maxRecDepth 100000 in
theorem dag_keep {w w' : World} {ka : Option Addr} {kc : Nat} {ks : List Ct} (h : DagAt w ka kc ks) (hs : w.heap.size ≤ w'.heap.size) (hk : ∀ b, DagIn ka ks b → b < w.heap.size → w'.heap[b]? = w.heap[b]?) : DagAt w' ka kc ks := by
  refine ⟨h.le, h.max, h.small, h.some, ⟨?_⟩, fun c hc => (h.each c hc).keep hs (fun q hq => hk q (.inr ⟨c, hc, hq⟩) ((h.each c hc).block_lt q hq))⟩
  rcases h.certs.cells with g | ⟨sb, so, e, g⟩
  · exact .inl g
  · refine .inr ⟨sb, so, e, fun i hi => ?_⟩
    obtain ⟨a0, a1, a2, a3, a4⟩ := g i hi
    have hb : w'.heap[sb]? = w.heap[sb]? := hk sb (.inl ⟨so, e⟩) (block_lt_of_cell a0)
    exact ⟨(World.cell?_of_block hb).trans a0, (World.cell?_of_block hb).trans a1, (World.cell?_of_block hb).trans a2, (World.cell?_of_block hb).trans a3, (World.cell?_of_block hb).trans a4⟩
set_option maxRecDepth 100000 in
theorem dag_row_lt {w : World} {ka : Option Addr} {kc : Nat} {ks : List Ct} (h : DagAt w ka kc ks) (hn : 0 < ks.length) (b so : Nat) (e : ka = some ⟨b, so, none⟩) : b < w.heap.size := by
  rcases h.certs.cells with hc | ⟨sb, so', e', hc⟩
  · rw [hc] at hn; simp at hn
  · rw [e] at e'; cases e'
    exact block_lt_of_cell (hc 0 hn).1
set_option maxRecDepth 100000 in
theorem slice_of1 {w : World} {b : Nat} {x : Int} (h : w.heap[b]? = some (.cells #[.int .u8 x] 5 (0, 0))) : SliceAt w (some ⟨b, 0, none⟩) 1 [x] := by
  refine ⟨Nat.le_refl _, by decide, .inr ⟨b, 0, rfl⟩, (fun e => by cases e), .inr ⟨b, 0, rfl, fun j hj => ?_⟩⟩
  obtain rfl : j = 0 := by simp at hj; exact hj
  simpa using cells_at h 0 _ rfl
set_option maxRecDepth 100000 in
theorem slice_of2 {w : World} {b : Nat} {x y : Int} (h : w.heap[b]? = some (.cells #[.int .u8 x, .int .u8 y] 5 (0, 0))) : SliceAt w (some ⟨b, 0, none⟩) 2 [x, y] := by
  refine ⟨Nat.le_refl _, by decide, .inr ⟨b, 0, rfl⟩, (fun e => by cases e), .inr ⟨b, 0, rfl, fun j hj => ?_⟩⟩
  have h0 := cells_at h 0 _ rfl
  have h1 := cells_at h 1 _ rfl
  match j, (show j < 2 from hj) with
  | 0, _ => simpa using h0
  | 1, _ => simpa using h1
set_option maxRecDepth 100000 in
theorem conv_one {w : World} {b : Nat} {x : Int} (h : w.heap[b]? = some (.cells #[.int .u8 x] 5 (0, 0))) : (convert 41 9 (.slice (some ⟨b, 0, none⟩) 1 1)).run Tryd.prog w = .ok (.string (bstr [x])) w := run_text w _ 1 1 [x] rfl (slice_of1 h)
set_option maxRecDepth 100000 in
theorem conv_two {w : World} {b : Nat} {x y : Int} (h : w.heap[b]? = some (.cells #[.int .u8 x, .int .u8 y] 5 (0, 0))) : (convert 41 9 (.slice (some ⟨b, 0, none⟩) 2 2)).run Tryd.prog w = .ok (.string (bstr [x, y])) w := run_text w _ 2 2 [x, y] rfl (slice_of2 h)
set_option maxRecDepth 100000 in
theorem any_named {P : Program} {md : Region.Mode} {ops : Array Oper} {Q : Exit → Act → World → Prop} {S : World → Prop} {fuel : Nat} {listed : Array Bool} {a : Act} {w : World}
    (h : ∀ GO : Nat → Array Bool → Act → World → Prop, Hid (∀ f l a w, wpAnyH P md ops Q S f l a w → GO f l a w) → Hid (∀ f l a w, GO f l a w → wpAnyH P md ops Q S f l a w) → GO fuel listed a w) : wpAnyH P md ops Q S fuel listed a w :=
  h _ (show ∀ _, _ from fun _ _ _ _ h => h) (show ∀ _, _ from fun _ _ _ _ h => h)
set_option maxRecDepth 100000 in
theorem act_named {GO : Nat → Array Bool → Act → World → Prop} {fuel : Nat} {listed : Array Bool} {a : Act} {w : World} (h : ∀ A0, Hid (a = A0) → GO fuel listed A0 w) : GO fuel listed a w := h a (show a = a from rfl)
set_option maxRecDepth 100000 in
theorem Apart.own {w w' : World} {B : Nat} {v v' : Value} {ps : List Part} (h : Apart w B v ps) (G : Grew w v w' v') : Apart w' B v' ps := fun p hp => by
  obtain ⟨hs, ha⟩ := h p hp
  refine ⟨G.slice hs (fun sb so e => (ha sb so e).2.2), fun sb so e => ?_⟩
  obtain ⟨a1, a2, a3⟩ := ha sb so e
  refine ⟨a1, Nat.lt_of_lt_of_le a2 G.grown.size, fun hv => ?_⟩
  rcases G.fresh sb hv with g | g
  · exact a3 g
  · omega
set_option maxRecDepth 100000 in
theorem Apart.far {w w' : World} {B : Nat} {u v v' : Value} {ps : List Part} (h : Apart w B u ps) (hv : Apart w B v ps) (G : Grew w v w' v') : Apart w' B u ps := fun p hp => by
  obtain ⟨hs, ha⟩ := h p hp
  refine ⟨G.slice hs (fun sb so e => ((hv p hp).2 sb so e).2.2), fun sb so e => ?_⟩
  obtain ⟨a1, a2, a3⟩ := ha sb so e
  exact ⟨a1, Nat.lt_of_lt_of_le a2 G.grown.size, a3⟩
set_option maxRecDepth 100000 in
theorem owns_grew {w w' : World} {b1 n1 b2 n2 s1 s2 : Nat} {e1 e2 : TypeId} {u v v' : Value} {xs ys : List Value} (h : w.ownsRow b1 e1 s1 u n1 xs) (h2 : w.ownsRow b2 e2 s2 v n2 ys) (hne : e1 ≠ e2) (G : Grew w v w' v') : w'.ownsRow b1 e1 s1 u n1 xs := by
  have hB : ∀ q, u.ownBlock = some q → q < w.heap.size ∧ v.ownBlock ≠ some q := fun q e => ⟨(h.lt q e).2, rows_apart h h2 hne q e⟩
  obtain ⟨g1, g2⟩ := h
  refine ⟨g1, ?_⟩
  rcases g2 with g2 | ⟨g, cap, cur, rfl, hg, hc, r⟩
  · exact .inl g2
  · obtain ⟨k1, k2⟩ := hB g rfl
    exact .inr ⟨g, cap, cur, rfl, hg, (G.grown.block g k1 (fun e => k2 e.symm)).trans hc, r⟩
set_option maxRecDepth 100000 in
theorem strs_of2 {w : World} {b : Nat} {x y : ByteArray} (h : w.heap[b]? = some (.cells #[.string x, .string y] 9 (0, 0))) (hx : x.size ≤ 20) (hy : y.size ≤ 20) : StrsAt w (some ⟨b, 0, none⟩) [x, y] := by
  refine ⟨.inr ⟨b, 0, rfl, fun j hj => ?_⟩, fun s hs => ?_⟩
  · have h0 := cells_at h 0 _ rfl
    have h1 := cells_at h 1 _ rfl
    match j, (show j < 2 from hj) with
    | 0, _ => simpa using h0
    | 1, _ => simpa using h1
  · simp at hs
    unfold maxLen
    rcases hs with rfl | rfl <;> omega
set_option maxRecDepth 100000 in
theorem size1 (x : Int) : (bstr [x]).size = 1 := rfl
set_option maxRecDepth 100000 in
theorem size2 (x y : Int) : (bstr [x, y]).size = 2 := rfl
set_option maxRecDepth 100000 in
theorem list_lt {w : World} {sa : Option Addr} {cap : Nat} {ps : List Part} (h : ListAt w sa cap ps) (hn : 0 < ps.length) (b so : Nat) (e : sa = some ⟨b, so, none⟩) : b < w.heap.size := by
  rcases h.parts.cells with hc | ⟨sb, so', e', hc⟩
  · rw [hc] at hn; simp at hn
  · rw [e] at e'; cases e'
    exact block_lt_of_cell (hc 0 hn)
/-- From one world to another: what is not the row's own, nor the box HB, stays. -/
structure Fr (W w' : World) (v v' : Value) (HB : Nat) : Prop where
  block : ∀ q, q < W.heap.size → v.ownBlock ≠ some q → q ≠ HB → w'.heap[q]? = W.heap[q]?
  size : W.heap.size ≤ w'.heap.size
  fresh : ∀ q, v'.ownBlock = some q → v.ownBlock = some q ∨ W.heap.size ≤ q
set_option maxRecDepth 100000 in
theorem Fr.refl (W : World) (v : Value) (HB : Nat) : Fr W W v v HB := ⟨fun _ _ _ _ => rfl, Nat.le_refl _, fun _ e => .inl e⟩
set_option maxRecDepth 100000 in
theorem Fr.below {W w' w2 : World} {v v' : Value} {HB : Nat} (h : Fr W w' v v' HB) (hb : Below w'.heap.size w' w2) : Fr W w2 v v' HB :=
  ⟨fun q h1 h2 h3 => (hb.block q (Nat.lt_of_lt_of_le h1 h.size)).trans (h.block q h1 h2 h3), Nat.le_trans h.size hb.size, h.fresh⟩
set_option maxRecDepth 100000 in
theorem Fr.grew {W w' w2 : World} {v v' v2 : Value} {HB : Nat} (h : Fr W w' v v' HB) (G : Grew w' v' w2 v2) : Fr W w2 v v2 HB := by
  refine ⟨fun q h1 h2 h3 => (G.grown.block q (Nat.lt_of_lt_of_le h1 h.size) (fun e => ?_)).trans (h.block q h1 h2 h3), Nat.le_trans h.size G.grown.size, fun q e => ?_⟩
  · rcases h.fresh q e.symm with g | g
    · exact h2 g
    · omega
  · rcases G.fresh q e with g | g
    · exact h.fresh q g
    · exact .inr (Nat.le_trans h.size g)
set_option maxRecDepth 100000 in
/-- Another row grows, that lies behind. -/
theorem Fr.other {W w' w2 : World} {v v' u u2 : Value} {HB : Nat} (h : Fr W w' v v' HB) (G : Grew w' u w2 u2) (hu : ∀ q, u.ownBlock = some q → W.heap.size ≤ q) : Fr W w2 v v' HB :=
  ⟨fun q h1 h2 h3 => (G.grown.block q (Nat.lt_of_lt_of_le h1 h.size) (fun e => by have := hu q e.symm; omega)).trans (h.block q h1 h2 h3), Nat.le_trans h.size G.grown.size, h.fresh⟩
set_option maxRecDepth 100000 in
theorem Fr.box {W w' : World} {v v' : Value} {HB : Nat} (h : Fr W w' v v' HB) (j : Nat) (x : Value) : Fr W (w'.setCell ⟨HB, j, none⟩ x) v v' HB :=
  ⟨fun q h1 h2 h3 => (heap_setCell_other _ ⟨HB, j, none⟩ q _ h3).trans (h.block q h1 h2 h3), by simpa using h.size, h.fresh⟩
set_option maxRecDepth 100000 in
theorem Fr.dag {W w' : World} {v v' : Value} {HB : Nat} {ka : Option Addr} {kc : Nat} {ks : List Ct} (h : Fr W w' v v' HB) (hd : DagAt W ka kc ks) (ho : DagOff v ka ks) (hlt : ∀ b, DagIn ka ks b → b ≠ HB) : DagAt w' ka kc ks :=
  dag_keep hd h.size (fun b hb hl => h.block b hl (by
    rcases hb with ⟨so, e⟩ | ⟨c, hc, hq⟩
    · exact ho.1 b so e
    · exact ho.2 c hc b hq) (hlt b hb))
set_option maxRecDepth 100000 in
theorem Fr.off {W w' : World} {v v' : Value} {HB : Nat} {ka : Option Addr} {kc : Nat} {ks : List Ct} (h : Fr W w' v v' HB) (hd : DagAt W ka kc ks) (hr : ∀ sb so, ka = some ⟨sb, so, none⟩ → sb < W.heap.size) (ho : DagOff v ka ks) : DagOff v' ka ks := by
  refine ⟨fun sb so e g => ?_, fun c hc q hq g => ?_⟩
  · rcases h.fresh sb g with g | g
    · exact ho.1 sb so e g
    · have := hr sb so e; omega
  · rcases h.fresh q g with g | g
    · exact ho.2 c hc q hq g
    · have := (hd.each c hc).block_lt q hq; omega
set_option maxRecDepth 100000 in
theorem BtsOwn.setCell {w : World} {B : Nat} {v : Value} {bl : List Bt} (h : BtsOwn w B v bl) (b j : Nat) (x : Value) (cs : Array Value) (t : TypeId) (hb : w.heap[b]? = some (.cells cs t (0, 0))) (h1 : (76 : TypeId) ≠ t) (h2 : (9 : TypeId) ≠ t) : BtsOwn (w.setCell ⟨b, j, none⟩ x) B v bl := by
  have hne : v.ownBlock ≠ some b := row_box h.row hb h1
  refine ⟨?_, fun c hc => ?_⟩
  · obtain ⟨g1, g2⟩ := h.row
    refine ⟨g1, ?_⟩
    rcases g2 with g2 | ⟨g, cap, cur, rfl, hg, hc, r⟩
    · exact .inl g2
    · exact .inr ⟨g, cap, cur, rfl, hg, (heap_setCell_other _ ⟨b, j, none⟩ g _ (fun e => hne (by rw [show g = b from e]; rfl))).trans hc, r⟩
  · have hk := h.each c hc
    refine heap_far hk (fun e => ?_)
    rw [BtOk, e, hb] at hk
    simp at hk
    exact h2 hk.2.symm
set_option maxRecDepth 100000 in
theorem kdag_end {w wr : World} {l : List Stp} {k : Nat} {ka za : Option Addr} {kc zc D1 : Nat} {ks : List Ct} {bl : List Bt} (hG : GrownTo l k (cvs ks)) (hV : bl.map (·.v) = bvTo l k) (hd : DagAt wr ka kc ks) (hoff : DagOff (.slice za bl.length zc) ka ks) (hnew : DagNew (D1 + 1) ka ks) (ho : BtsOwn wr w.heap.size (.slice za bl.length zc) bl)
    (b0 : wr.heap[w.heap.size]? = some (.cells #[.slice none 0 0] 27 (0, 0))) (hb : Below w.heap.size w wr) (hD : w.heap.size ≤ D1) : GrownIs w (wr.setCell ⟨w.heap.size, 0, none⟩ (.slice ka ks.length kc)) (.returned (.tuple #[.agg #[.slice ka ks.length kc], .slice za bl.length zc])) l k := by
  refine ⟨ka, kc, ks, za, zc, bl, rfl, hG, dag_setCell hd _ 0 _ (fun sb so e => by have := hnew.1 sb so e; omega) (fun c hc q hq => by have := hnew.2 c hc q hq; omega), ⟨fun sb so e => by have := hnew.1 sb so e; omega, fun c hc q hq => by have := hnew.2 c hc q hq; omega⟩, ho.setCell _ 0 _ _ _ b0 (by decide) (by decide), hoff, hV, hb.setCell (p := ⟨w.heap.size, 0, none⟩) (Nat.le_refl _) _⟩
end Go.Proofs.YtnpjhpmgelaonaaDoor
