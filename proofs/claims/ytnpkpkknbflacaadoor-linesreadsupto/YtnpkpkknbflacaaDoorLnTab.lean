/- What a row's list of variables gives: the table of kinds, the powers of ten and the two errors of strconv lie as the program's text lays them. -/
import Derived.Test.YtnpkpkknbflacaaDoorRows
import Derived.Test.YtnpkpkknbflacaaDoorLnF
import Derived.Test.YtnpkpkknbflacaaDoorOpenB
import Derived.Lib.LaidTab
import Derived.Lib.ItoaNum
import Derived.Lib.AppendIntMem
import Derived.OpenShut
import Derived.ChangeSame
import Derived.Stop.LaidErr
namespace Go.Proofs.YtnpkpkknbflacaaDoor
open Go.RowKit

set_option maxRecDepth 100000 in
theorem cS : Tryd.prog.cellsOf 9 = 1 := by kernel_rfl
set_option maxRecDepth 100000 in
theorem cBl : Tryd.prog.cellsOf 4 = 1 := by kernel_rfl
set_option maxRecDepth 100000 in
theorem c3B : Tryd.prog.cellsOf 67 = 3 := by kernel_rfl
set_option maxRecDepth 100000 in
theorem cKd : Tryd.prog.cellsOf 69 = 4 := by kernel_rfl
set_option maxRecDepth 100000 in
theorem take1 {cs : List Value} {i : Nat} {v : Value} (h : (cs.drop i).take 1 = [v]) : cs[i]? = some v := by
  have := congrArg (·[0]?) h
  simpa [List.getElem?_take, List.getElem?_drop] using this
set_option maxRecDepth 100000 in
theorem cells_of_kinds {H : Type} {enc : TypeId × Value → H} {w : World} {base : Nat} {sp : Nat → Bool} {held : Bool} {fuel : Nat} {cs : List Value} {ds : List (DataW H)} {p : List MemPlace}
    (h : DataW.trod enc Tryd.prog w base sp held fuel 70 cs = some (.agg ds, p)) (i : Nat) (hi : i < 11) (l : List UInt8) (a b c : Bool) (hd : ds[i]? = some (.agg [.lit (.string l), .agg [.lit (.bool a), .lit (.bool b), .lit (.bool c)]])) :
    cs[i * 4]? = some (.string ⟨l.toArray⟩) ∧ cs[i * 4 + 1]? = some (.bool a) ∧ cs[i * 4 + 2]? = some (.bool b) ∧ cs[i * 4 + 3]? = some (.bool c) := by
  obtain ⟨xs, f, rfl, hx, hl, hn, hr⟩ := DataW.trod_array Tryd.underlying70 h
  have hxs : ds = xs.map (·.1) := by
    have := congrArg Prod.fst hx
    simpa using this
  have hrow := hr i hi
  have hilt : i < xs.length := by omega
  rw [List.getElem?_eq_getElem hilt, cKd] at hrow
  have hd2 : (xs[i]).1 = .agg [.lit (.string l), .agg [.lit (.bool a), .lit (.bool b), .lit (.bool c)]] := by
    rw [hxs, List.getElem?_map, List.getElem?_eq_getElem hilt] at hd
    simpa using hd
  obtain ⟨y0, y1, m, he, _, h0, h1⟩ := Go.ChangeShapes.trod_struct2 Tryd.underlying69 hrow
  rw [he] at hd2
  simp only [DataW.agg.injEq, List.cons.injEq, and_true] at hd2
  obtain ⟨e0, e1⟩ := hd2
  simp only [cS, c3B, List.drop_zero] at h0 h1
  obtain ⟨s, hs1, hs2, _⟩ := DataW.trod_string Tryd.underlying9 h0
  obtain ⟨zs, g, _, hz, _, hzn, hzr⟩ := DataW.trod_array Tryd.underlying67 h1
  rw [hs2] at e0
  rw [hz] at e1
  simp only [DataW.lit.injEq, Lit.string.injEq] at e0
  simp only [DataW.agg.injEq] at e1
  have hb : ∀ j, j < 3 → ∀ v : Bool, [DataW.lit (H := H) (.bool a), .lit (.bool b), .lit (.bool c)][j]? = some (.lit (.bool v)) → cs[i * 4 + 1 + j]? = some (.bool v) := by
    intro j hj v hv
    have hq := hzr j hj
    rw [List.getElem?_eq_getElem (by omega), cBl] at hq
    obtain ⟨x, hx1, hx2⟩ := DataW.trod_bool Tryd.underlying4 hq
    have : x = v := by
      rw [← e1, List.getElem?_map, List.getElem?_eq_getElem (by omega)] at hv
      simp [hx2] at hv
      exact hv
    subst this
    have h9 := congrArg (·[0]?) hx1
    obtain rfl | rfl | rfl : j = 0 ∨ j = 1 ∨ j = 2 := by omega
    all_goals simpa [List.getElem?_take, List.getElem?_drop, Nat.add_assoc] using h9
  refine ⟨?_, hb 0 (by omega) a rfl, hb 1 (by omega) b rfl, hb 2 (by omega) c rfl⟩
  rw [List.take_take, show min 1 4 = 1 by rfl] at hs1
  have h9 := take1 hs1
  rw [h9]
  congr 2
  rw [← e0]
set_option maxRecDepth 100000 in
theorem tKinds : (Tryd.prog.globals[0]?).map (·.type) = some 70 := by kernel_rfl
set_option maxRecDepth 100000 in
theorem kinds_data : Rows.laid_sheaves_lines_kinds (H := Unit) = .agg ((List.range 11).map fun k : Nat => .agg [.lit (.string (wordL (k : Int))), .agg [.lit (.bool (hN (k : Int))), .lit (.bool (hP (k : Int))), .lit (.bool (hT (k : Int)))]]) := by rfl
set_option maxRecDepth 100000 in
theorem ktab_of {W : World} {n1 : String} {r : List (String × DataW Unit)} (hg : Tryd.prog.globalNamed n1 = some 0) (h : laidMet Tryd.prog ((n1, Rows.laid_sheaves_lines_kinds) :: r) W) : KTab W := by
  obtain ⟨ps, ⟨g', t', cs, fuel, p, q, hg', ht', hvar, hd, _, _⟩, _⟩ := h
  obtain rfl := Option.some.inj (hg.symm.trans hg')
  obtain rfl := Option.some.inj (tKinds.symm.trans ht')
  rw [kinds_data] at hd
  have H : ∀ k : Nat, k < 11 → _ := fun k hk => cells_of_kinds hd k hk (wordL k) (hN k) (hP k) (hT k) (by rw [List.getElem?_map, List.getElem?_range hk]; rfl)
  have hc := fun i => World.var?_cell hg hvar i
  refine ⟨fun k h1 h2 => ?_, fun k h1 h2 => ?_, fun k h1 h2 => ?_, fun k h1 h2 => ?_⟩
  · rw [hc, ← Array.getElem?_toList]; exact (H k (by omega)).1
  · rw [hc, ← Array.getElem?_toList]; exact (H k (by omega)).2.1
  · rw [hc, ← Array.getElem?_toList]; exact (H k (by omega)).2.2.1
  · rw [hc, ← Array.getElem?_toList]; exact (H k (by omega)).2.2.2
/-- The name of the table of powers of ten, as the rows have it. -/
def powName : String := ((Rows.actBareRow.laid.map (·.1))[2]?).getD default
/-- The powers of ten lie as the library's text lays them. -/
abbrev PTab (w : World) : Prop := Lib.TabIs Tryd.prog w powName .u64 Lib.pow10Tab
set_option maxRecDepth 100000 in
theorem PTab.below {w w' : World} (h : PTab w) (hb : Below w.heap.size w w') : PTab w' := Lib.tabBelow_of_tabIs h w' hb
set_option maxRecDepth 100000 in
theorem tPow : (Tryd.prog.globals[2]?).map (·.type) = some 102 := by kernel_rfl
set_option maxRecDepth 100000 in
theorem cU64 : Tryd.prog.cellsOf 95 = 1 := by kernel_rfl
set_option maxRecDepth 100000 in
theorem c20U64 : Tryd.prog.cellsOf 102 = 20 := by kernel_rfl
set_option maxRecDepth 100000 in
theorem pow_data : Rows.laid_internal_strconv_uint64pow10 (H := Unit) = Lib.tabData .u64 Lib.pow10Tab := by rfl
set_option maxRecDepth 100000 in
theorem gPow : Tryd.prog.globalNamed powName = some 2 := by kernel_rfl
set_option maxRecDepth 100000 in
theorem ptab_of {W : World} {r : List (String × DataW Unit)} (h : laidMet Tryd.prog ((powName, Rows.laid_internal_strconv_uint64pow10) :: r) W) : PTab W := by
  rw [pow_data] at h
  exact Lib.tabIs_of_head gPow tPow Tryd.underlying102 Tryd.underlying95 cU64 c20U64 h
/-- The two errors of strconv are there. -/
structure ETab (w : World) : Prop where
  syn : ∃ te pe, w.cell? ⟨3, 0, none⟩ = some (.iface te pe)
  rng : ∃ te pe, w.cell? ⟨4, 0, none⟩ = some (.iface te pe)
set_option maxRecDepth 100000 in
theorem ETab.below {w w' : World} (h : ETab w) (hb : Below w.heap.size w w') : ETab w' := by
  obtain ⟨⟨t1, p1, h1⟩, t2, p2, h2⟩ := h
  exact ⟨⟨t1, p1, (hb.cell (p := ⟨3, 0, none⟩) (block_lt_of_cell h1)).trans h1⟩, t2, p2, (hb.cell (p := ⟨4, 0, none⟩) (block_lt_of_cell h2)).trans h2⟩
def errTy : String := match (Rows.laid_strconv_ErrSyntax : DataW Unit) with | .iface n _ => n | _ => default
set_option maxRecDepth 100000 in
theorem rowErr (u : TypeId) (h : Tryd.prog.typeName? 3 u = some errTy) : u = 120 :=
  typeName_ptr_named (nm := "errors.errorString") (by kernel_rfl) (by kernel_rfl) (by decide) u (h.trans (congrArg some (by decide)))
set_option maxRecDepth 100000 in
theorem tES : (Tryd.prog.globals[3]?).map (·.type) = some 72 := by kernel_rfl
set_option maxRecDepth 100000 in
theorem tER : (Tryd.prog.globals[4]?).map (·.type) = some 72 := by kernel_rfl
set_option maxRecDepth 100000 in
theorem cES : Tryd.prog.cellsOf 122 = 1 := by kernel_rfl
set_option maxRecDepth 100000 in
theorem etab_of {W : World} {n1 n2 : String} {r : List (String × DataW Unit)} (g1 : Tryd.prog.globalNamed n1 = some 4) (g2 : Tryd.prog.globalNamed n2 = some 3)
    (h : laidMet Tryd.prog ((n1, Rows.laid_strconv_ErrRange) :: (n2, Rows.laid_strconv_ErrSyntax) :: r) W) : ETab W := by
  obtain ⟨a1, s1, hv1, -, -, -⟩ := laid_sentinel h g1 tER Tryd.underlying72 rowErr Tryd.underlying120 Tryd.underlying122 rfl rfl Tryd.underlying9 cES cS
  obtain ⟨a0, s0, hv0, -, -, -⟩ := laid_sentinel h.tail g2 tES Tryd.underlying72 rowErr Tryd.underlying120 Tryd.underlying122 rfl rfl Tryd.underlying9 cES cS
  exact ⟨⟨_, _, by have h0 := World.var?_cell g2 hv0 0; simpa using h0⟩, ⟨_, _, by have h0 := World.var?_cell g1 hv1 0; simpa using h0⟩⟩
/-- What Show wants. -/
structure STabs (w : World) : Prop where
  k : KTab w
  p : PTab w
/-- What Read wants. -/
structure LTabs (w : World) : Prop where
  k : KTab w
  p : PTab w
  e : ETab w
set_option maxRecDepth 100000 in
theorem STabs.below {w w' : World} (h : STabs w) (hb : Below w.heap.size w w') : STabs w' := ⟨h.k.below hb h.k.lt, h.p.below hb⟩
set_option maxRecDepth 100000 in
theorem LTabs.below {w w' : World} (h : LTabs w) (hb : Below w.heap.size w w') : LTabs w' := ⟨h.k.below hb h.k.lt, h.p.below hb, h.e.below hb⟩
set_option maxRecDepth 100000 in
theorem LTabs.s {w : World} (h : LTabs w) : STabs w := ⟨h.k, h.p⟩
set_option maxRecDepth 100000 in
theorem tabs1_of {W : World} {n1 : String} (g1 : Tryd.prog.globalNamed n1 = some 0) (h : laidMetH Tryd.prog [(n1, Rows.laid_sheaves_lines_kinds)] W) : KTab W := ktab_of g1 h
set_option maxRecDepth 100000 in
theorem tabs4_of {W : World} {n1 n2 n4 : String} {d1 d2 : DataW Unit} (g4 : Tryd.prog.globalNamed n4 = some 0)
    (h : laidMet Tryd.prog [(n1, d1), (n2, d2), (powName, Rows.laid_internal_strconv_uint64pow10), (n4, Rows.laid_sheaves_lines_kinds)] W) : STabs W :=
  ⟨ktab_of g4 h.tail.tail.tail, ptab_of h.tail.tail⟩
set_option maxRecDepth 100000 in
theorem tabs6_of {W : World} {n1 n2 n4 n5 n6 : String} {d1 d2 : DataW Unit} (g4 : Tryd.prog.globalNamed n4 = some 4) (g5 : Tryd.prog.globalNamed n5 = some 3) (g6 : Tryd.prog.globalNamed n6 = some 0)
    (h : laidMet Tryd.prog [(n1, d1), (n2, d2), (powName, Rows.laid_internal_strconv_uint64pow10), (n4, Rows.laid_strconv_ErrRange), (n5, Rows.laid_strconv_ErrSyntax), (n6, Rows.laid_sheaves_lines_kinds)] W) : LTabs W :=
  ⟨ktab_of g6 h.tail.tail.tail.tail.tail, ptab_of h.tail.tail, etab_of g4 g5 h.tail.tail.tail⟩
/-- What the initialisers lay, in the first blocks. -/
def layBlk (c : Array Value) : Obj → Obj
  | .cells _ t frozen => .cells c t frozen
  | o => o
def litD : DataW Unit → Value
  | .lit (.int k n) => .int k n
  | _ => .int .i64 0
def flatD : DataW Unit → List Value
  | .agg ds => ds.map litD
  | _ => []
def kindCells : List Value := (List.range 11).flatMap fun k : Nat => [.string ⟨(wordL (k : Int)).toArray⟩, .bool (hN (k : Int)), .bool (hP (k : Int)), .bool (hT (k : Int))]
def textOfD : DataW Unit → List UInt8
  | .iface _ (.ptr (.agg [.lit (.string s)])) => s
  | _ => []
def errBlk (d : DataW Unit) : Obj := .cells #[.string ⟨(textOfD d).toArray⟩] 122
noncomputable def lowB : Nat := (World.holding Tryd.prog default ⟨#[], #[], []⟩).heap.size
noncomputable def layLs (os : Os) : World :=
  let w := World.holding Tryd.prog os ⟨#[errBlk Rows.laid_strconv_ErrRange, errBlk Rows.laid_strconv_ErrSyntax], #[], []⟩
  { w with heap := (((((w.heap.modify 0 (layBlk kindCells.toArray)).modify 2 (layBlk (flatD Rows.laid_internal_strconv_uint64pow10).toArray)).modify 5 (layBlk (flatD Rows.laid_math_bits_deBruijn32tab).toArray)).modify 6 (layBlk (flatD Rows.laid_math_bits_deBruijn64tab).toArray)).modify 4 (layBlk #[.iface 120 (.pointer (some ⟨lowB, 0, none⟩))])).modify 3 (layBlk #[.iface 120 (.pointer (some ⟨lowB + 1, 0, none⟩))]) }
end Go.Proofs.YtnpkpkknbflacaaDoor
