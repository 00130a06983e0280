/- What a message that is read has in memory, and what is told of what its kind carries. -/
import Derived.Test.YtldlknmpkoebbaaCheckM
import Derived.Test.YtldlknmpkoebbaaStrsAt
import Derived.Test.YtldlknmpkoebbaaStrsF
import Derived.Test.YtldlknmpkoebbaaLAt
import Derived.Test.YtldlknmpkoebbaaIntsL
import Derived.Test.YtldlknmpkoebbaaHeadF
import Derived.Test.YtldlknmpkoebbaaCSlot
import Derived.Test.YtldlknmpkoebbaaCertF
namespace Go.Proofs.Ytldlknmpkoebbaa
open Go.RowKit

/-- What a message that is read has in memory. -/
structure MsgAt (w : World) (m : Msg) (ss : List ByteArray) (bl pl cbl cpl : List Part) (vl : List Int) : Prop where
  e1 : m.btn = ss.length
  e2 : m.hbn = bl.length
  e3 : m.hpn = pl.length
  e4 : m.cbn = cbl.length
  e5 : m.cpn = cpl.length
  e6 : m.cvn = vl.length
  s1 : ss.length ≤ 9000000000000000000
  s6 : vl.length ≤ 9000000000000000000
  s7 : m.sdn ≤ 9000000000000000000
  txs : StrsAt w m.bta ss
  bat : ListAt w m.hba m.hbc bl
  par : ListAt w m.hpa m.hpc pl
  cbat : ListAt w m.cba m.cbc cbl
  cpar : ListAt w m.cpa m.cpc cpl
  vot : IntsAt w m.cva vl
set_option maxRecDepth 100000 in
theorem MsgAt.below {w w' : World} {m : Msg} {ss : List ByteArray} {bl pl cbl cpl : List Part} {vl : List Int} (h : MsgAt w m ss bl pl cbl cpl vl) (hb : Below w.heap.size w w') : MsgAt w' m ss bl pl cbl cpl vl := ⟨h.e1, h.e2, h.e3, h.e4, h.e5, h.e6, h.s1, h.s6, h.s7, h.txs.below hb, h.bat.below hb, h.par.below hb, h.cbat.below hb, h.cpar.below hb, h.vot.below hb⟩
/-- What is told of what the kind carries. -/
def carriedF (m : Msg) (ss : List ByteArray) (bl pl cbl cpl : List Part) (vl : List Int) : Int := if m.ki = 1 then batchF m.bau m.bnu ss else if m.ki = 2 then headerF m.hau m.hrd bl pl else if m.ki = 3 then slotF m.sau m.srd m.sdn else if m.ki = 4 then certF m.cau m.crd cbl cpl vl else if m.ki = 5 then (if 1 ≤ m.ro ∧ m.ro ≤ 1048576 then 0 else 2) else 3
end Go.Proofs.Ytldlknmpkoebbaa
