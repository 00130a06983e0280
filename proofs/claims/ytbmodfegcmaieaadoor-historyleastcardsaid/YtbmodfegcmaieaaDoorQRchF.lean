/- What is reached from a digest: in plain lists. -/
import Derived.Test.YtbmodfegcmaieaaDoorQEOncF
import Derived.Test.YtbmodfegcmaieaaDoorGDagQ
namespace Go.Proofs.YtbmodfegcmaieaaDoor
open Go.RowKit

/-- One certificate more, from the last to the first. -/
def rchS (st : List ByteArray × List CV) (c : CV) : List ByteArray × List CV := bif inO (bstr c.d) st.1 then (st.1 ++ c.pl.map bstr, st.2 ++ [c]) else st
/-- What was met, and what is reached, when the certificates from m on were looked at. -/
def rchTo (l : List CV) (k : List Int) (m : Nat) : List ByteArray × List CV := ((l.drop m).reverse).foldl rchS ([bstr k], [])
set_option maxRecDepth 100000 in
theorem rchTo_end (l : List CV) (k : List Int) : rchTo l k l.length = ([bstr k], []) := by simp [rchTo]
set_option maxRecDepth 100000 in
theorem rchTo_step (l : List CV) (k : List Int) (m : Nat) (h : m < l.length) : rchTo l k m = rchS (rchTo l k (m + 1)) (cvAt l m) := by
  rw [rchTo, rchTo, List.drop_eq_getElem_cons h, List.reverse_cons, List.foldl_append]
  simp [cvAt, h]
end Go.Proofs.YtbmodfegcmaieaaDoor
