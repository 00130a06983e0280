/- Texts and their bytes. -/
import Derived.Test.YtbmodfegcmaieaaDoorGOwnL
import Derived.Test.YtbmodfegcmaieaaDoorGAppB
import Derived.Test.YtbmodfegcmaieaaDoorGCBatch
import Derived.Test.YtbmodfegcmaieaaDoorGLateF
import Derived.Test.YtbmodfegcmaieaaDoorGSteps
import Derived.Test.YtbmodfegcmaieaaDoorGApp
import Derived.Laws.Strings
namespace Go.Proofs.YtbmodfegcmaieaaDoor
open Go.RowKit

set_option maxRecDepth 100000 in
set_option maxHeartbeats 1000000 in
theorem batchDigest_bad (au nu : Int) (sa : Option Addr) (n cap : Nat) (ss : List ByteArray) (ec : Int) (w : World) (hn : n = ss.length) (hm : n ≤ maxLen) (hs : StrsAt w sa ss) (he : batchF au nu ss = ec) (h0 : ec ≠ 0) :
    Calls Tryd.prog 42 #[.agg #[.int .i64 au, .int .i64 nu, .slice sa n cap]] w fun e w' => e = .returned (.tuple #[.slice none 0 0, .int .i64 ec]) ∧ Below w.heap.size w w' := by
  have hA : Below w.heap.size w (w.alloc (.cells #[.int .i64 au, .int .i64 nu, .slice sa n cap] 42)) := (Below.refl _ _).alloc (Nat.le_refl _) _
  have hC := checkBatch_any au nu sa n cap ss _ hn hm (hs.below hA)
  rw [he] at hC
  clear hn hm he
  go_enter Tryd.func42, Tryd.ntmps42
  go_wp2_with fail
  refine hC.mono ?_
  rintro e w1 ⟨rfl, hb1⟩
  go_wp2_with fail
  go_ret2
  exact ⟨rfl, below_alloc hb1⟩
set_option maxRecDepth 100000 in
set_option maxHeartbeats 1000000 in
theorem batchDigest_ok (au nu : Int) (sa : Option Addr) (n cap : Nat) (ss : List ByteArray) (w : World) (hn : n = ss.length) (hs : StrsAt w sa ss) (hF : batchF au nu ss = 0) (ha : 0 ≤ au ∧ au < 4) (hr : 0 ≤ nu ∧ nu ≤ 1048576) (hl : ss.length ≤ 4) (hz : ∀ s ∈ ss, s.size ≤ 20) (hsb : ∀ sb so, sa = some ⟨sb, so, none⟩ → sb < w.heap.size) (hT : Tabs w) :
    Calls Tryd.prog 42 #[.agg #[.int .i64 au, .int .i64 nu, .slice sa n cap]] w fun e w' => ∃ b, e = .returned (.tuple #[.slice (some ⟨b, 0, none⟩) 32 32, .int .i64 0]) ∧ w.heap.size ≤ b ∧ Below w.heap.size w w' ∧ SliceAt w' (some ⟨b, 0, none⟩) 32 (tagD 1 (batchB au nu ss)) := by
  have hA : Below w.heap.size w (w.alloc (.cells #[.int .i64 au, .int .i64 nu, .slice sa n cap] 42)) := (Below.refl _ _).alloc (Nat.le_refl _) _
  have hC := checkBatch_any au nu sa n cap ss _ hn (by rw [hn]; unfold maxLen; omega) (hs.below hA)
  rw [hF] at hC
  have hle := txsB_le ss hz
  have Hn : Hid (n = ss.length) := hn
  clear hn hF
  go_enter Tryd.func42, Tryd.ntmps42
  go_wp2_with fail
  refine hC.mono ?_
  rintro e w1 ⟨rfl, hb1⟩
  have r1 := row_new hb1
  replace hb1 := below_alloc hb1
  have c0 : w1.cell? ⟨w.heap.size, 0, none⟩ = some (.int .i64 au) := cells_at r1 0 _ rfl
  have c1 : w1.cell? ⟨w.heap.size, 1, none⟩ = some (.int .i64 nu) := cells_at r1 1 _ rfl
  have c2 : w1.cell? ⟨w.heap.size, 2, none⟩ = some (.slice sa n cap) := cells_at r1 2 _ rfl
  have hsz := hb1.size
  clear hC
  go_wp2_with fail
  refine (appendBatch_any w1.heap.size (.slice none 0 0) 0 [] au nu sa n cap ss w1 ha hr Hn.out hl hz (hs.below hb1) (fun sb so e => ⟨Nat.lt_of_lt_of_le (hsb sb so e) hsz, fun h => by cases h⟩) (World.ownsRow_nil _ _ _ _) (Nat.le_refl _) (by decide)).mono ?_
  rintro e w2 ⟨v2, rfl, ho2, G2⟩
  have hb2 : Below w1.heap.size w1 w2 := G2.below (Nat.le_refl _) (fun q e => by cases e)
  rw [Nat.zero_add, List.nil_append] at ho2
  obtain ⟨xa, xc, hv, hxl, hx⟩ := owns_form ho2
  subst hv
  have hW2 := hb1.trans (hb2.mono hsz)
  have HX : Hid _ := hxl
  have hbl : (batchB au nu ss).length ≤ 100 := by simp [batchB, rd3]; omega
  have hA2 : Below w2.heap.size w2 (w2.alloc (.cells #[.slice xa (batchB au nu ss).length xc] 46)) := (Below.refl _ _).alloc (Nat.le_refl _) _
  clear hxl ho2 G2
  generalize hBB : batchB au nu ss = B at *
  have HB : Hid _ := hBB
  clear hBB
  go_wp2_with fail
  refine (tagged_ok 1 [⟨xa, xc, B⟩] _ _ _ _ rfl (one_part w2 xa _ xc B rfl hx) (by simp [psz]; omega) ((hT.below hW2).below hA2)).mono ?_
  rintro e w3 ⟨b, rfl, hle3, hb3, hr3⟩
  go_wp2_with fail
  go_ret2
  refine ⟨b, rfl, ?_, ?_, ?_⟩
  · rw [size_alloc] at hle3; have := hW2.size; omega
  · exact hW2.trans ((below_alloc hb3).mono hW2.size)
  · rw [tagD, HB.out, ← tagTo_part 1 xa xc B]; exact hr3
end Go.Proofs.YtbmodfegcmaieaaDoor

namespace Go.Proofs.YtbmodfegcmaieaaDoor
open Go.RowKit

/-- The round of a step's header. -/
def sRd (s : Stp) (rd : Int) : Int := if pk s.y 4 = 3 ∧ 1 < rd then rd - 1 else rd
/-- Its parents. -/
def sPl (s : Stp) (c : List CV) (hr : Int) : List (List Int) := if 1 < hr then (if 3 < (dgF c (hr - 1)).length ∧ pk s.y 3 = 1 then (dgF c (hr - 1)).drop 1 else dgF c (hr - 1)) else []
/-- What counts of a batch of two texts. -/
structure BV where
  (au nu : Int) (s1 s2 : ByteArray)
def BV.d (b : BV) : List Int := tagD 1 (batchB b.au b.nu [b.s1, b.s2])
def sBv (s : Stp) (i b : Nat) : BV := ⟨pk s.x 4, 1 + 3 * (i : Int) + b, bstr [97 + (i : Int)], bstr [65 + pk s.z 7, 48 + (b : Int)]⟩
def sBs (s : Stp) (i n : Nat) : List BV := (List.range n).map (sBv s i)
set_option maxRecDepth 100000 in
theorem sBs_succ (s : Stp) (i n : Nat) : sBs s i (n + 1) = sBs s i n ++ [sBv s i n] := by simp [sBs, List.range_succ]
set_option maxRecDepth 100000 in
theorem sBs_length (s : Stp) (i n : Nat) : (sBs s i n).length = n := by simp [sBs]
/-- How many batches a step has. -/
def sN (s : Stp) : Nat := (pk s.z 3).toNat
/-- A step's certificate, behind those that there are, at the round rd. -/
def sC (s : Stp) (i : Nat) (c : List CV) (rd : Int) : CV := ⟨pk s.x 4, sRd s rd, (sBs s i (sN s)).map BV.d, sPl s c (sRd s rd), [0, 1, 2]⟩
def sNext (s : Stp) (i : Nat) (c c' : List CV) : Prop := ∃ rd, NextR c rd ∧ c' = if insE c (sC s i c rd) = 0 then c ++ [sC s i c rd] else c
def sAt (l : List Stp) (k : Nat) : Stp := l.getD k ⟨0, 0, 0⟩
set_option maxRecDepth 100000 in
theorem sAt_get (l : List Stp) (k : Nat) (h : k < l.length) : sAt l k = l[k] := by simp [sAt, h]
/-- What the first k steps make. -/
def GrownTo (l : List Stp) : Nat → List CV → Prop
  | 0, c => c = []
  | k + 1, c => ∃ c0, GrownTo l k c0 ∧ sNext (sAt l k) k c0 c
/-- The batches of the first k steps. -/
def bvTo (l : List Stp) : Nat → List BV
  | 0 => []
  | k + 1 => bvTo l k ++ sBs (sAt l k) k (sN (sAt l k))
set_option maxRecDepth 100000 in
theorem sNext.one {s : Stp} {i : Nat} {c a b : List CV} (h : sNext s i c a) (g : sNext s i c b) : a = b := by
  obtain ⟨r1, n1, rfl⟩ := h
  obtain ⟨r2, n2, rfl⟩ := g
  obtain rfl := n1.one n2
  rfl
set_option maxRecDepth 100000 in
theorem GrownTo.one {l : List Stp} {k : Nat} : ∀ {a b : List CV}, GrownTo l k a → GrownTo l k b → a = b := by
  induction k with
  | zero => intro a b h g; exact h.trans g.symm
  | succ k ih =>
    rintro a b ⟨a0, ha, na⟩ ⟨b0, hb, nb⟩
    obtain rfl := ih ha hb
    exact na.one nb
set_option maxRecDepth 100000 in
theorem sN_le (s : Stp) : sN s ≤ 2 := by have := pk_bounds s.z 3 (by decide); unfold sN; omega
set_option maxRecDepth 100000 in
theorem bvTo_length (l : List Stp) (k : Nat) : (bvTo l k).length ≤ 2 * k := by
  induction k with
  | zero => simp [bvTo]
  | succ k ih => rw [bvTo, List.length_append, sBs_length]; have := sN_le (sAt l k); omega
set_option maxRecDepth 100000 in
theorem dag_snoc {l : List CV} {c : CV} (h : dagF l = 0) (g : insE l c = 0) : dagF (l ++ [c]) = 0 := by
  rw [insE_stk c h] at g
  obtain ⟨g1, g2, g3⟩ := stkE_ok g
  obtain ⟨h1, h2⟩ := dagF_zero h
  refine dagF_ok _ (by simp; omega) (fun k hk => ?_)
  rcases Nat.lt_or_ge k l.length with hl | hl
  · have := h2 k hl
    have e1 : cvAt (l ++ [c]) k = cvAt l k := by simp [cvAt, List.getD, List.getElem?_append_left hl]
    have e2 : (l ++ [c]).take k = l.take k := List.take_append_of_le_length (by omega)
    rw [badC, e1, e2]; exact this
  · obtain rfl : k = l.length := by simp at hk; omega
    have e1 : cvAt (l ++ [c]) l.length = c := by simp [cvAt]
    have e2 : (l ++ [c]).take l.length = l := by simp
    rw [badC, e1, e2]
    simp [g1, g2]
set_option maxRecDepth 100000 in
theorem insE_ok {l : List CV} {c : CV} (h : dagF l = 0) (g : insE l c = 0) : c.f = 0 ∧ takF l c.au c.rd c.pl = 0 ∧ l.length < 400 := by
  rw [insE_stk c h] at g; exact stkE_ok g
set_option maxRecDepth 100000 in
/-- A property of dags that every step keeps. -/
theorem GrownTo.keep {l : List Stp} (P : Nat → List CV → Prop) (h0 : P 0 []) (hs : ∀ k c rd, P k c → dagF c = 0 → NextR c rd → (insE c (sC (sAt l k) k c rd) = 0 → P (k + 1) (c ++ [sC (sAt l k) k c rd])) ∧ (insE c (sC (sAt l k) k c rd) ≠ 0 → P (k + 1) c)) :
    ∀ {k : Nat} {c : List CV}, GrownTo l k c → P k c ∧ dagF c = 0 := by
  intro k
  induction k with
  | zero => rintro c rfl; exact ⟨h0, rfl⟩
  | succ k ih =>
    rintro c ⟨c0, hc, rd, hn, rfl⟩
    obtain ⟨p0, d0⟩ := ih hc
    obtain ⟨h1, h2⟩ := hs k c0 rd p0 d0 hn
    by_cases g : insE c0 (sC (sAt l k) k c0 rd) = 0
    · rw [if_pos g]; exact ⟨h1 g, dag_snoc d0 g⟩
    · rw [if_neg g]; exact ⟨h2 g, d0⟩
set_option maxRecDepth 100000 in
theorem GrownTo.dag {l : List Stp} {k : Nat} {c : List CV} (h : GrownTo l k c) : dagF c = 0 := (GrownTo.keep (fun _ _ => True) trivial (fun _ _ _ _ _ _ => ⟨fun _ => trivial, fun _ => trivial⟩) h).2
set_option maxRecDepth 100000 in
theorem GrownTo.len {l : List Stp} {k : Nat} {c : List CV} (h : GrownTo l k c) : c.length ≤ k :=
  (GrownTo.keep (fun k c => c.length ≤ k) (Nat.le_refl _) (fun k c rd hp _ _ => ⟨fun _ => by simp; omega, fun _ => by omega⟩) h).1
set_option maxRecDepth 100000 in
theorem next_bound {l : List CV} (h : dagF l = 0) {r : Int} (hn : NextR l r) : 1 ≤ r ∧ r ≤ 1048577 := by
  refine ⟨hn.1, ?_⟩
  rcases Int.lt_or_le 1 r with g | g
  · have h3 := hn.2.1 (r - 1) (by omega) (by omega)
    obtain ⟨j, hj, e⟩ := dgTo_some l (r - 1) 4 (by rw [dgF] at h3; omega)
    have := (f_round (dagF_f h j hj)).2
    omega
  · omega
set_option maxRecDepth 100000 in
theorem insE_few {l : List CV} {c : CV} (h : insE l c = 0 → False) (hd : dagF l = 0) : stkE l c ≠ 0 := fun g => h (by rw [insE_stk c hd]; exact g)
end Go.Proofs.YtbmodfegcmaieaaDoor

namespace Go.Proofs.YtbmodfegcmaieaaDoor
open Go.RowKit

set_option maxRecDepth 100000 in
theorem ba_ext {a b : ByteArray} (h : a.toList = b.toList) : a = b := by
  rw [ByteArray.toList_eq, ByteArray.toList_eq] at h
  exact Go.WideShapes.bytes_inj h
set_option maxRecDepth 100000 in
/-- The bytes as a text has them, one by one. -/
theorem bstr_data (bs : List Int) : (bstr bs).data.toList = bs.map fun n => UInt8.ofNat n.toNat := by
  have h : ∀ (l : List Int) (r : ByteArray), (l.foldl (fun r n => r.push (UInt8.ofNat n.toNat)) r).data.toList = r.data.toList ++ l.map fun n => UInt8.ofNat n.toNat := by
    intro l
    induction l with
    | nil => simp
    | cons x l ih => intro r; rw [List.foldl_cons, ih]; simp [ByteArray.push]
  rw [bstr, h]
  simp
set_option maxRecDepth 100000 in
theorem bstr_inj {xs ys : List Int} (hx : ∀ x ∈ xs, 0 ≤ x ∧ x ≤ 255) (hy : ∀ x ∈ ys, 0 ≤ x ∧ x ≤ 255) (h : bstr xs = bstr ys) : xs = ys := by
  have h1 : xs.map (fun n => UInt8.ofNat n.toNat) = ys.map (fun n => UInt8.ofNat n.toNat) := by rw [← bstr_data, ← bstr_data, h]
  have back : ∀ l : List Int, (∀ x ∈ l, 0 ≤ x ∧ x ≤ 255) → (l.map (fun n => UInt8.ofNat n.toNat)).map (fun b => (b.toNat : Int)) = l := by
    intro l hl
    rw [List.map_map]
    conv => rhs; rw [← List.map_id l]
    refine List.map_congr_left fun x hx => ?_
    have := hl x hx
    simp only [Function.comp, id]
    rw [UInt8.toNat_ofNat', Nat.mod_eq_of_lt (by omega)]
    omega
  rw [← back xs hx, ← back ys hy, h1]
end Go.Proofs.YtbmodfegcmaieaaDoor
