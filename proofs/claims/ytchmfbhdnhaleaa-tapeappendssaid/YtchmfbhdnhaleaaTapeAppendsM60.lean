/- The law sheaveslaw.TapeAppends answers true for every argument, and each argument reads behind the call as it read before: no condition but the form's own reach. -/
import Derived.Test.YtchmfbhdnhaleaaTapeAppendsM6
import Derived.Test.YtchmfbhdnhaleaaTapeAppendsM18
import Derived.Test.YtchmfbhdnhaleaaPK
import Derived.Laws.Rows
import Derived.Test.YtchmfbhdnhaleaaTapes
import Derived.Test.YtchmfbhdnhaleaaTapeAppendsM12
import Derived.Test.YtchmfbhdnhaleaaTapeAppendsM24
import Derived.Test.YtchmfbhdnhaleaaTapeAppendsM30
import Derived.Test.YtchmfbhdnhaleaaTapeAppendsM42
import Derived.Test.YtchmfbhdnhaleaaTapeAppendsM54
import Derived.Deep.CutRange
import Derived.Deep.DeepCutAuto
import Derived.Test.YtchmfbhdnhaleaaRows
import Derived.Test.YtchmfbhdnhaleaaOpenB
import Derived.WalkKit
import Derived.ProofKit
import Derived.OpenShut
import Derived.Deep.DeepHandedRow
import Derived.SevenTiedAt
import Derived.Below
namespace Go.Proofs.Ytchmfbhdnhaleaa
open Go.RowKit

set_option maxRecDepth 100000 in
theorem flatB_sameM {xl bl : List Part} (h : Same xl bl) : flatB xl = flatB bl := by
  have e : ∀ l : List Part, flatB l = (l.map (·.bs)).flatten := by
    intro l
    induction l with
    | nil => rfl
    | cons p l ih => simp [flatB, ih]
  rw [e, e, h]
set_option maxRecDepth 100000 in
theorem digsB_sameM {xl bl : List Part} (h : Same xl bl) : digsB xl = digsB bl := by rw [digsB, digsB, h.length, flatB_sameM h]
set_option maxRecDepth 100000 in
theorem headB_sameM {au rd : Int} {xl bl yl pl : List Part} (h1 : Same xl bl) (h2 : Same yl pl) : headB au rd xl yl = headB au rd bl pl := by rw [headB, headB, digsB_sameM h1, digsB_sameM h2]
end Go.Proofs.Ytchmfbhdnhaleaa

namespace Go.Proofs.Ytchmfbhdnhaleaa
open Go.RowKit

set_option maxRecDepth 100000 in
theorem wpList_load_row_w {ops : Array Oper} {rest : List Oper} {o : Oper} {a : Act} {w : World} {Q : Exit → Act → World → Prop} (hw : Region.wanted o (yielded ops a.tmps) = true) (ty : TypeId) (x : Operand) (ho : o.op = .load ty x)
    (g : Nat) (hx : a.eval x = .pointer (some ⟨g, 0, none⟩)) (t : TypeId) (cs : Array Value) (fr : Nat × Nat) (d : TypeDesc) (hg : w.heap[g]? = some (.cells cs t fr))
    (hu : Try.prog.underlying ty = some d) (hd : (match d with | .struct _ | .array _ _ => true | _ => false) = true) (hi : (Try.prog.info? ty).map (·.size) = some cs.size)
    (h : wpList Try.prog ops Q rest (a.put o.dst (.agg cs)) w) : wpList Try.prog ops Q (o :: rest) a w := by
  refine wpList_step fun K hK => ?_
  rw [if_pos hw]
  exact wp_load_row ty x ho g hx t cs fr d hg hu (by cases d <;> first | exact hd | rfl) hi (hK _ _ h)
set_option maxRecDepth 100000 in
/-- A struct that is loaded as a row: what the operation answers. -/
theorem run_load_row {o : Oper} {a : Act} {w : World} (ty : TypeId) (x : Operand) (ho : o.op = .load ty x)
    (g : Nat) (hx : a.eval x = .pointer (some ⟨g, 0, none⟩)) (t : TypeId) (cs : Array Value) (fr : Nat × Nat) (d : TypeDesc) (hg : w.heap[g]? = some (.cells cs t fr))
    (hu : Try.prog.underlying ty = some d) (hd : (match d with | .struct _ | .array _ _ => true | _ => false) = true) (hi : (Try.prog.info? ty).map (·.size) = some cs.size) :
    (execOp a.eval o).run Try.prog w = .ok (.value (.agg cs)) w := by
  unfold execOp
  simp only [ho, hx, Instr.loadAt, Instr.sureAddr, Sem.run_bind, Sem.run_pure, Result.andThen_ok, run_loadVar_row w g t ty cs fr d hg hu (by cases d <;> first | exact hd | rfl) hi]
end Go.Proofs.Ytchmfbhdnhaleaa

namespace Go.Proofs.Ytchmfbhdnhaleaa
open Go.RowKit

set_option maxRecDepth 100000 in
theorem step_append_on {ops : Array Oper} {o : Oper} {a : Act} {w : World} {K : Act → World → Prop} {Q : Exit → Act → World → Prop} {E : Prop}
    (hw : Region.wanted o (yielded ops a.tmps) = true) (d : Nat) (hd : o.dst = some d) (s x : Operand) (t : TypeId) (ho : o.op = .call { callee := .builtin .append, args := #[s, x], argTypes := #[t, t] })
    (base : Nat) (e : TypeId) (i : TypeInfo) (z : Value) (size bytes : Nat) (ht : Try.prog.underlying t = some (.slice e)) (hi : Try.prog.info? e = some i) (hz : i.zero = some z)
    (hsize : i.size = size) (hby : i.bytes = bytes) (hzs : z.cells.size = size) (hsz : 0 < size)
    (v : Value) (n : Nat) (xs : List Value) (hs : a.eval s = v) (hown : w.ownsRow base e size v n xs)
    (ad : Addr) (m c : Nat) (news : List Value) (hx : a.eval x = .slice (some ad) m c) (hl : news.length = m * size) (hnews : ∀ j u, news[j]? = some u → w.cell? (ad.add j) = some u) (h1 : ∀ u ∈ news, u.oneCell' = true)
    (h63 : n + m ≤ maxLen) (hbytes : (n + m) * bytes ≤ 140737488355328) (hbase : base ≤ w.heap.size)
    (hK : ∀ v' w', w'.ownsRow base e size v' (n + m) (xs ++ news) → Grew w v w' v' → K (a.put (some d) v') w') :
    if Region.wanted o (yielded ops a.tmps) = true then Oper.wp Try.prog o a w K Q else E := by
  rw [if_pos hw]
  obtain ⟨v', w', hr, h2, h3, _, h5⟩ := run_append_own_at (P := Try.prog) w base t o.type e i z size bytes ht hi hz hsize hby hzs hsz v n xs hown ad m c news hl hnews h1 h63 hbytes hbase
  unfold Oper.wp execOp
  simp only [ho, resolve, invoke, builtin, Sem.run_bind, Sem.run_pure, Result.andThen_ok, List.map_toArray, List.map_cons, List.map_nil, hs, hx, hr]
  rw [Oper.upon_value, hd]
  exact hK v' w' h2 (Grew.of h3 h5)
set_option maxRecDepth 100000 in
/-- An operation behind a guard that is no call, and that turns the world. -/
theorem step_run_on {ops : Array Oper} {o : Oper} {a : Act} {w : World} {K : Act → World → Prop} {Q : Exit → Act → World → Prop} {E : Prop}
    (hw : Region.wanted o (yielded ops a.tmps) = true) (d : Nat) (hd : o.dst = some d) (v : Value) (w' : World) (hr : (execOp a.eval o).run Try.prog w = .ok (.value v) w') (hK : K (a.put (some d) v) w') :
    if Region.wanted o (yielded ops a.tmps) = true then Oper.wp Try.prog o a w K Q else E := by
  rw [if_pos hw]
  unfold Oper.wp
  rw [hr, Oper.upon_value, hd]
  exact hK
set_option maxRecDepth 100000 in
/-- A store as the operation that comes up. -/
theorem step_store {ops : Array Oper} {o : Oper} {a : Act} {w : World} {K : Act → World → Prop} {Q : Exit → Act → World → Prop} {E : Prop}
    (hg : o.guard = none) (hd : o.dst = none) (w' : World) (hr : (execOp a.eval o).run Try.prog w = .ok .skip w') (hK : K a w') :
    if Region.wanted o (yielded ops a.tmps) = true then Oper.wp Try.prog o a w K Q else E := by
  have hw : Region.wanted o (yielded ops a.tmps) = true := by simp [Region.wanted, hg]
  rw [if_pos hw]
  unfold Oper.wp
  rw [hr, Oper.upon_skip, hd]
  exact hK
end Go.Proofs.Ytchmfbhdnhaleaa

namespace Go.Proofs.Ytchmfbhdnhaleaa
open Go.RowKit

set_option maxRecDepth 100000 in
theorem recB_nil {m : Msg} {X : Int} {ss : List ByteArray} {bl pl cbl cpl : List Part} {ds vl : List Int} (h : X ≠ 0) : recB m X ss bl pl cbl cpl ds vl = [] := by rw [recB, if_neg h]
set_option maxRecDepth 100000 in
theorem recF_zero {m : Msg} {R : Int} (h : recF m R = 0) : R = 0 := by
  by_cases hr : R = 0
  · exact hr
  · rw [recF, if_pos hr] at h; exact absurd h hr
set_option maxRecDepth 100000 in
theorem recB_len {m : Msg} {ss : List ByteArray} {bl pl cbl cpl : List Part} {ds vl : List Int} (hn : m.sdn = ds.length) : (recB m (recF m (checkF m (carriedF m ss bl pl cbl cpl vl))) ss bl pl cbl cpl ds vl).length ≤ 4000 ∧ (recF m (checkF m (carriedF m ss bl pl cbl cpl vl)) = 0 → 0 < (recB m (recF m (checkF m (carriedF m ss bl pl cbl cpl vl))) ss bl pl cbl cpl ds vl).length) := by
  unfold recB
  split
  · rename_i h
    have := bodyB_le hn (checkF_ok (recF_zero h)).2.2.1
    exact ⟨by simp [msgB]; omega, fun _ => by simp [msgB]⟩
  · rename_i h
    exact ⟨by simp, fun h0 => absurd h0 h⟩
set_option maxRecDepth 100000 in
theorem moved_recB (m : Msg) (xa ya za ua va qa ra : Option Addr) (xc yc zc uc vc qc rc : Nat) (X : Int) (ss : List ByteArray) (yl zl xl ql bl pl cbl cpl : List Part) (ds vl : List Int) (h1 : Same yl bl) (h2 : Same zl pl) (h3 : Same xl cbl) (h4 : Same ql cpl) :
    recB (moved m xa ya za ua va qa ra xc yc zc uc vc qc rc) X ss yl zl xl ql ds vl = recB m X ss bl pl cbl cpl ds vl := by
  rw [recB, recB, msgB, msgB, bodyB, bodyB, certB, certB, headB_sameM h1 h2, headB_sameM h3 h4]
  rfl
set_option maxRecDepth 100000 in
theorem moved_recF (m : Msg) (xa ya za ua va qa ra : Option Addr) (xc yc zc uc vc qc rc : Nat) (e : Int) : recF (moved m xa ya za ua va qa ra xc yc zc uc vc qc rc) e = recF m e := rfl
set_option maxRecDepth 100000 in
set_option maxHeartbeats 4000000 in
theorem tapeAppends_walk (sa : Option Addr) (cap : Nat) (bs : List Int) (sy : Int) (m : Msg) (ss : List ByteArray) (bl pl cbl cpl : List Part) (ds vl : List Int) (w : World) (hs : SliceAt w sa cap bs) (_hu : AllU8 bs) (hr : cap ≤ 140737488351232) (_hy : I64 sy) (H : MsgIn w m ss bl pl cbl cpl ds vl) :
    Calls Try.prog 4 #[.agg #[.slice sa bs.length cap, .int .i64 sy], .agg #[.int .i64 m.fr, .int .i64 m.tt, .int .i64 m.ki, .int .i64 m.bau, .int .i64 m.bnu, .slice m.bta m.btn m.btc, .int .i64 m.hau, .int .i64 m.hrd, .slice m.hba m.hbn m.hbc, .slice m.hpa m.hpn m.hpc, .int .i64 m.sau, .int .i64 m.srd, .slice m.sda m.sdn m.sdc, .int .i64 m.cau, .int .i64 m.crd, .slice m.cba m.cbn m.cbc, .slice m.cpa m.cpn m.cpc, .slice m.cva m.cvn m.cvc, .int .i64 m.ro]] w fun e w' => e = .returned (.bool true) ∧ Below w.heap.size w w' := by
  have hl : bs.length ≤ 140737488351232 := by have := hs.le; omega
  have hA : Below w.heap.size w ((w.alloc (.cells #[.slice sa bs.length cap, .int .i64 sy] 41)).alloc (.cells #[.int .i64 m.fr, .int .i64 m.tt, .int .i64 m.ki, .int .i64 m.bau, .int .i64 m.bnu, .slice m.bta m.btn m.btc, .int .i64 m.hau, .int .i64 m.hrd, .slice m.hba m.hbn m.hbc, .slice m.hpa m.hpn m.hpc, .int .i64 m.sau, .int .i64 m.srd, .slice m.sda m.sdn m.sdc, .int .i64 m.cau, .int .i64 m.crd, .slice m.cba m.cbn m.cbc, .slice m.cpa m.cpn m.cpc, .slice m.cva m.cvn m.cvc, .int .i64 m.ro] 35)) := ((Below.refl _ _).alloc (Nat.le_refl _) _).alloc (by simp) _
  have r0 := heap_alloc2_old w (.cells #[.slice sa bs.length cap, .int .i64 sy] 41) (.cells #[.int .i64 m.fr, .int .i64 m.tt, .int .i64 m.ki, .int .i64 m.bau, .int .i64 m.bnu, .slice m.bta m.btn m.btc, .int .i64 m.hau, .int .i64 m.hrd, .slice m.hba m.hbn m.hbc, .slice m.hpa m.hpn m.hpc, .int .i64 m.sau, .int .i64 m.srd, .slice m.sda m.sdn m.sdc, .int .i64 m.cau, .int .i64 m.crd, .slice m.cba m.cbn m.cbc, .slice m.cpa m.cpn m.cpc, .slice m.cva m.cvn m.cvc, .int .i64 m.ro] 35)
  have r1 := heap_alloc2_new w (.cells #[.slice sa bs.length cap, .int .i64 sy] 41) (.cells #[.int .i64 m.fr, .int .i64 m.tt, .int .i64 m.ki, .int .i64 m.bau, .int .i64 m.bnu, .slice m.bta m.btn m.btc, .int .i64 m.hau, .int .i64 m.hrd, .slice m.hba m.hbn m.hbc, .slice m.hpa m.hpn m.hpc, .int .i64 m.sau, .int .i64 m.srd, .slice m.sda m.sdn m.sdc, .int .i64 m.cau, .int .i64 m.crd, .slice m.cba m.cbn m.cbc, .slice m.cpa m.cpn m.cpc, .slice m.cva m.cvn m.cvc, .int .i64 m.ro] 35)
  have hat := H.toAt
  have hLn := recB_len (ss := ss) (bl := bl) (pl := pl) (cbl := cbl) (cpl := cpl) (vl := vl) H.e7
  have hNil : recF m (checkF m (carriedF m ss bl pl cbl cpl vl)) ≠ 0 → recB m (recF m (checkF m (carriedF m ss bl pl cbl cpl vl))) ss bl pl cbl cpl ds vl = [] := recB_nil
  have HRf : Hid (∀ W : World, Below w.heap.size w W → Calls Try.prog 9 #[.agg #[.int .i64 m.fr, .int .i64 m.tt, .int .i64 m.ki, .int .i64 m.bau, .int .i64 m.bnu, .slice m.bta m.btn m.btc, .int .i64 m.hau, .int .i64 m.hrd, .slice m.hba m.hbn m.hbc, .slice m.hpa m.hpn m.hpc, .int .i64 m.sau, .int .i64 m.srd, .slice m.sda m.sdn m.sdc, .int .i64 m.cau, .int .i64 m.crd, .slice m.cba m.cbn m.cbc, .slice m.cpa m.cpn m.cpc, .slice m.cva m.cvn m.cvc, .int .i64 m.ro]] W fun e w' => e = .returned (.int .i64 (recF m (checkF m (carriedF m ss bl pl cbl cpl vl)))) ∧ Below W.heap.size W w') := by
    show ∀ _, _
    intro W hW
    exact recordFault_any m ss bl pl cbl cpl vl W (hat.below hW)
  have HMb : Hid (∀ W : World, Below w.heap.size w W → recF m (checkF m (carriedF m ss bl pl cbl cpl vl)) = 0 → Calls Try.prog 27 #[.agg #[.int .i64 m.fr, .int .i64 m.tt, .int .i64 m.ki, .int .i64 m.bau, .int .i64 m.bnu, .slice m.bta m.btn m.btc, .int .i64 m.hau, .int .i64 m.hrd, .slice m.hba m.hbn m.hbc, .slice m.hpa m.hpn m.hpc, .int .i64 m.sau, .int .i64 m.srd, .slice m.sda m.sdn m.sdc, .int .i64 m.cau, .int .i64 m.crd, .slice m.cba m.cbn m.cbc, .slice m.cpa m.cpn m.cpc, .slice m.cva m.cvn m.cvc, .int .i64 m.ro]] W fun e w' => ∃ v, e = .returned (.tuple #[v, .int .i64 0]) ∧ w'.ownsRow W.heap.size 5 1 v (recB m (recF m (checkF m (carriedF m ss bl pl cbl cpl vl))) ss bl pl cbl cpl ds vl).length (ub (recB m (recF m (checkF m (carriedF m ss bl pl cbl cpl vl))) ss bl pl cbl cpl ds vl)) ∧ Below W.heap.size W w') := by
    show ∀ _, _
    intro W hW h0
    have h := messageBytes_any m ss bl pl cbl cpl ds vl W (hat.below hW) (H.dig.below hW) H.e7
    have h0' := recF_zero h0
    rw [h0'] at h h0 ⊢
    rw [h0]
    exact h
  have HMs : Hid (∀ W : World, Below w.heap.size w W → Calls Try.prog 8 #[.agg #[.int .i64 m.fr, .int .i64 m.tt, .int .i64 m.ki, .int .i64 m.bau, .int .i64 m.bnu, .slice m.bta m.btn m.btc, .int .i64 m.hau, .int .i64 m.hrd, .slice m.hba m.hbn m.hbc, .slice m.hpa m.hpn m.hpc, .int .i64 m.sau, .int .i64 m.srd, .slice m.sda m.sdn m.sdc, .int .i64 m.cau, .int .i64 m.crd, .slice m.cba m.cbn m.cbc, .slice m.cpa m.cpn m.cpc, .slice m.cva m.cvn m.cvc, .int .i64 m.ro]] W fun e w' => ∃ xa xc ya yc za zc ua uc va vc qa qc ra rc, e = .returned (.agg #[.int .i64 m.fr, .int .i64 m.tt, .int .i64 m.ki, .int .i64 m.bau, .int .i64 m.bnu, .slice xa m.btn xc, .int .i64 m.hau, .int .i64 m.hrd, .slice ya m.hbn yc, .slice za m.hpn zc, .int .i64 m.sau, .int .i64 m.srd, .slice ua m.sdn uc, .int .i64 m.cau, .int .i64 m.crd, .slice va m.cbn vc, .slice qa m.cpn qc, .slice ra m.cvn rc, .int .i64 m.ro]) ∧ Below W.heap.size W w' ∧ ∀ W2 : World, Below w'.heap.size w' W2 → Calls Try.prog 25 #[.agg #[.int .i64 m.fr, .int .i64 m.tt, .int .i64 m.ki, .int .i64 m.bau, .int .i64 m.bnu, .slice xa m.btn xc, .int .i64 m.hau, .int .i64 m.hrd, .slice ya m.hbn yc, .slice za m.hpn zc, .int .i64 m.sau, .int .i64 m.srd, .slice ua m.sdn uc, .int .i64 m.cau, .int .i64 m.crd, .slice va m.cbn vc, .slice qa m.cpn qc, .slice ra m.cvn rc, .int .i64 m.ro]] W2 fun e w3 => ∃ v, e = .returned (.tuple #[v, .int .i64 (recF m (checkF m (carriedF m ss bl pl cbl cpl vl)))]) ∧ w3.ownsRow W2.heap.size 5 1 v (recB m (recF m (checkF m (carriedF m ss bl pl cbl cpl vl))) ss bl pl cbl cpl ds vl).length (ub (recB m (recF m (checkF m (carriedF m ss bl pl cbl cpl vl))) ss bl pl cbl cpl ds vl)) ∧ Below W2.heap.size W2 w3) := by
    show ∀ _, _
    intro W hW
    refine (messages_any m ss bl pl cbl cpl ds vl W (H.below hW)).mono ?_
    rintro e w1 ⟨xa, xc, ya, yc, yl, za, zc, zl, ua, uc, va, vc, xl, qa, qc, ql, ra, rc, he, hS1, hS2, hS3, hS4, h1, h2, h3, h4, h5, h6, h7, hb1⟩
    rw [← H.e1, ← H.e2, ← H.e3, ← H.e4, ← H.e5, ← H.e6, ← H.e7] at he
    refine ⟨xa, xc, ya, yc, za, zc, ua, uc, va, vc, qa, qc, ra, rc, he, hb1, fun W2 hW2 => ?_⟩
    have hatC : MsgAt w1 (moved m xa ya za ua va qa ra xc yc zc uc vc qc rc) ss yl zl xl ql vl := ⟨H.e1, by rw [hS1.length]; exact H.e2, by rw [hS2.length]; exact H.e3, by rw [hS3.length]; exact H.e4, by rw [hS4.length]; exact H.e5, H.e6, hat.s1, hat.s6, hat.s7, h1, h2, h3, h5, h6, h7⟩
    have hE := tEnc_any (moved m xa ya za ua va qa ra xc yc zc uc vc qc rc) ss yl zl xl ql ds vl W2 (hatC.below hW2) (h4.below hW2) H.e7
    rw [moved_check, moved_carried _ _ _ _ _ _ _ _ _ _ _ _ _ _ _ _ _ _ _ _ _ _ _ _ _ hS1 hS2 hS3 hS4, moved_recF, moved_recB _ _ _ _ _ _ _ _ _ _ _ _ _ _ _ _ _ _ _ _ _ _ _ _ _ _ _ hS1 hS2 hS3 hS4] at hE
    exact hE
  clear hat H
  generalize recF m (checkF m (carriedF m ss bl pl cbl cpl vl)) = X at *
  generalize recB m X ss bl pl cbl cpl ds vl = B at *
  have HAp : Hid (∀ (W : World) (ta : Option Addr) (tc : Nat), Below w.heap.size w W → SliceAt W ta tc bs → ∀ (xa ya za ua va qa ra : Option Addr) (xc yc zc uc vc qc rc : Nat), (∀ W2 : World, Below W.heap.size W W2 → Calls Try.prog 25 #[.agg #[.int .i64 m.fr, .int .i64 m.tt, .int .i64 m.ki, .int .i64 m.bau, .int .i64 m.bnu, .slice xa m.btn xc, .int .i64 m.hau, .int .i64 m.hrd, .slice ya m.hbn yc, .slice za m.hpn zc, .int .i64 m.sau, .int .i64 m.srd, .slice ua m.sdn uc, .int .i64 m.cau, .int .i64 m.crd, .slice va m.cbn vc, .slice qa m.cpn qc, .slice ra m.cvn rc, .int .i64 m.ro]] W2 fun e w3 => ∃ v, e = .returned (.tuple #[v, .int .i64 X]) ∧ w3.ownsRow W2.heap.size 5 1 v B.length (ub B) ∧ Below W2.heap.size W2 w3) → Calls Try.prog 11 #[.agg #[.slice ta bs.length tc, .int .i64 sy], .agg #[.int .i64 m.fr, .int .i64 m.tt, .int .i64 m.ki, .int .i64 m.bau, .int .i64 m.bnu, .slice xa m.btn xc, .int .i64 m.hau, .int .i64 m.hrd, .slice ya m.hbn yc, .slice za m.hpn zc, .int .i64 m.sau, .int .i64 m.srd, .slice ua m.sdn uc, .int .i64 m.cau, .int .i64 m.crd, .slice va m.cbn vc, .slice qa m.cpn qc, .slice ra m.cvn rc, .int .i64 m.ro]] W fun e w' => TapeIs W w' e (appB bs (appF bs.length sy X B.length) B) (appS sy (appF bs.length sy X B.length)) (appF bs.length sy X B.length)) := by
    show ∀ _, _
    intro W ta tc _ hts xa ya za ua va qa ra xc yc zc uc vc qc rc hE
    exact tapeAppend_any (moved m xa ya za ua va qa ra xc yc zc uc vc qc rc) bs ta _ tc sy X B W rfl hts (by omega) hNil hLn.2 hLn.1 hE
  have HAd : Hid (∀ W : World, Below w.heap.size w W → Calls Try.prog 12 #[.agg #[.slice sa bs.length cap, .int .i64 sy], .agg #[.int .i64 m.fr, .int .i64 m.tt, .int .i64 m.ki, .int .i64 m.bau, .int .i64 m.bnu, .slice m.bta m.btn m.btc, .int .i64 m.hau, .int .i64 m.hrd, .slice m.hba m.hbn m.hbc, .slice m.hpa m.hpn m.hpc, .int .i64 m.sau, .int .i64 m.srd, .slice m.sda m.sdn m.sdc, .int .i64 m.cau, .int .i64 m.crd, .slice m.cba m.cbn m.cbc, .slice m.cpa m.cpn m.cpc, .slice m.cva m.cvn m.cvc, .int .i64 m.ro]] W fun e w' => TapeIs W w' e (appB bs (appF bs.length sy X B.length) B) (appS sy (appF bs.length sy X B.length)) (appF bs.length sy X B.length)) := by
    show ∀ _, _
    intro W hW
    exact tapeAppended_any m bs sa _ cap sy X B W rfl (hs.below hW) hl hLn.1 (fun W2 h2 => HRf.out W2 (hW.trans (h2.mono hW.size))) (fun W2 h2 => HMb.out W2 (hW.trans (h2.mono hW.size)))
  clear HRf HMb hNil hLn
  generalize appF bs.length sy X B.length = XF at *
  generalize appB bs XF B = XS at *
  generalize appS sy XF = XN at *
  go_enter Try.func4, Try.ntmps4
  go_wp2_with fail
  generalize (w.alloc (.cells #[.slice sa bs.length cap, .int .i64 sy] 41)).alloc (.cells #[.int .i64 m.fr, .int .i64 m.tt, .int .i64 m.ki, .int .i64 m.bau, .int .i64 m.bnu, .slice m.bta m.btn m.btc, .int .i64 m.hau, .int .i64 m.hrd, .slice m.hba m.hbn m.hbc, .slice m.hpa m.hpn m.hpc, .int .i64 m.sau, .int .i64 m.srd, .slice m.sda m.sdn m.sdc, .int .i64 m.cau, .int .i64 m.crd, .slice m.cba m.cbn m.cbc, .slice m.cpa m.cpn m.cpc, .slice m.cva m.cvn m.cvc, .int .i64 m.ro] 35) = W0 at hA r0 r1 ⊢
  refine (tapes_any sy sa _ cap bs W0 rfl (hs.below hA) hr).mono ?_
  rintro e w1 ⟨ta, tc, he, hs1, _, hb1⟩
  subst he
  dsimp only
  have hB1 := hA.trans (hb1.mono hA.size)
  have p0 := (hb1.block _ (lt_of_heap r0)).trans r0
  have p1 := (hb1.block _ (lt_of_heap r1)).trans r1
  go_wp2_with fail
  have hA1 : Below w1.heap.size w1 (w1.alloc (.cells #[.slice ta bs.length tc, .int .i64 sy] 41)) := (Below.refl _ _).alloc (Nat.le_refl _) _
  have pN := heap_alloc_new w1 (.cells #[.slice ta bs.length tc, .int .i64 sy] 41)
  have p0A := heap_keep (o := .cells #[.slice ta bs.length tc, .int .i64 sy] 41) p0
  have p1A := heap_keep (o := .cells #[.slice ta bs.length tc, .int .i64 sy] 41) p1
  generalize hW1 : w1.alloc (.cells #[.slice ta bs.length tc, .int .i64 sy] 41) = W1 at hA1 pN p0A p1A ⊢
  have hB1A := hB1.trans (hA1.mono hB1.size)
  have hs1A := hs1.below hA1
  go_cut [6, 7] (fun p q wx => ∃ b xe xce, p = .pointer (some ⟨b, 0, none⟩) ∧ q = .int .i64 XF ∧ Below W1.heap.size W1 wx ∧ wx.heap[b]? = some (.cells #[.slice xe XS.length xce, .int .i64 XN] 41 (0, 0)) ∧ wx.heap[w1.heap.size]? = some (.cells #[.slice ta bs.length tc, .int .i64 sy] 41 (0, 0)) ∧ wx.heap[w.heap.size + 1]? = some (.cells #[.int .i64 m.fr, .int .i64 m.tt, .int .i64 m.ki, .int .i64 m.bau, .int .i64 m.bnu, .slice m.bta m.btn m.btc, .int .i64 m.hau, .int .i64 m.hrd, .slice m.hba m.hbn m.hbc, .slice m.hpa m.hpn m.hpc, .int .i64 m.sau, .int .i64 m.srd, .slice m.sda m.sdn m.sdc, .int .i64 m.cau, .int .i64 m.crd, .slice m.cba m.cbn m.cbc, .slice m.cpa m.cpn m.cpc, .slice m.cva m.cvn m.cvc, .int .i64 m.ro] 35 (0, 0)) ∧ wx.heap[w.heap.size]? = some (.cells #[.slice sa bs.length cap, .int .i64 sy] 41 (0, 0)) ∧ SliceAt wx xe xce XS)
  case first =>
    have hV0 : Below W1.heap.size W1 W1.drew := (Below.refl _ _).drew
    have qT0 : W1.drew.heap[w1.heap.size]? = some (.cells #[.slice ta bs.length tc, .int .i64 sy] 41 (0, 0)) := pN
    have qM0 : W1.drew.heap[w.heap.size + 1]? = some (.cells #[.int .i64 m.fr, .int .i64 m.tt, .int .i64 m.ki, .int .i64 m.bau, .int .i64 m.bnu, .slice m.bta m.btn m.btc, .int .i64 m.hau, .int .i64 m.hrd, .slice m.hba m.hbn m.hbc, .slice m.hpa m.hpn m.hpc, .int .i64 m.sau, .int .i64 m.srd, .slice m.sda m.sdn m.sdc, .int .i64 m.cau, .int .i64 m.crd, .slice m.cba m.cbn m.cbc, .slice m.cpa m.cpn m.cpc, .slice m.cva m.cvn m.cvc, .int .i64 m.ro] 35 (0, 0)) := p1A
    have q00 : W1.drew.heap[w.heap.size]? = some (.cells #[.slice sa bs.length cap, .int .i64 sy] 41 (0, 0)) := p0A
    refine wp_region_held_drew (S := fun w' => w'.cell? ⟨w1.heap.size, 0, none⟩ = some (.slice ta bs.length tc) ∧ w'.cell? ⟨w1.heap.size, 1, none⟩ = some (.int .i64 sy) ∧ w'.heap[w.heap.size + 1]? = some (.cells #[.int .i64 m.fr, .int .i64 m.tt, .int .i64 m.ki, .int .i64 m.bau, .int .i64 m.bnu, .slice m.bta m.btn m.btc, .int .i64 m.hau, .int .i64 m.hrd, .slice m.hba m.hbn m.hbc, .slice m.hpa m.hpn m.hpc, .int .i64 m.sau, .int .i64 m.srd, .slice m.sda m.sdn m.sdc, .int .i64 m.cau, .int .i64 m.crd, .slice m.cba m.cbn m.cbc, .slice m.cpa m.cpn m.cpc, .slice m.cva m.cvn m.cvc, .int .i64 m.ro] 35 (0, 0))) (by kernel_rfl) ⟨cells_at qT0 0 _ rfl, cells_at qT0 1 _ rfl, qM0⟩ (fun hHeld => ?_)
    generalize W1.drew = V0 at hV0 qT0 qM0 q00 hHeld ⊢
    refine take_dst (i := 0) (d := 13) (v := .agg #[.slice ta bs.length tc, .int .i64 sy]) rfl rfl (by kernel_rfl) (by kernel_rfl) (by kernel_rfl) (fun _ _ _ h => h) (Or.inl ⟨by rfl, ?_⟩) hHeld ?_
    · (intro w0 hSw; (try dsimp only at hSw); go_simp)
    simp only [Act.put, List.setIfInBounds_toArray, List.set_cons_zero, List.set_cons_succ]
    refine take_dst (i := 1) (d := 14) (v := .agg #[.int .i64 m.fr, .int .i64 m.tt, .int .i64 m.ki, .int .i64 m.bau, .int .i64 m.bnu, .slice m.bta m.btn m.btc, .int .i64 m.hau, .int .i64 m.hrd, .slice m.hba m.hbn m.hbc, .slice m.hpa m.hpn m.hpc, .int .i64 m.sau, .int .i64 m.srd, .slice m.sda m.sdn m.sdc, .int .i64 m.cau, .int .i64 m.crd, .slice m.cba m.cbn m.cbc, .slice m.cpa m.cpn m.cpc, .slice m.cva m.cvn m.cvc, .int .i64 m.ro]) rfl rfl (by kernel_rfl) (by kernel_rfl) (by kernel_rfl) (fun _ _ _ h => h) (Or.inl ⟨by rfl, ?_⟩) hHeld ?_
    · (intro w0 hSw; exact run_load_row 35 _ rfl (w.heap.size + 1) rfl 35 #[.int .i64 m.fr, .int .i64 m.tt, .int .i64 m.ki, .int .i64 m.bau, .int .i64 m.bnu, .slice m.bta m.btn m.btc, .int .i64 m.hau, .int .i64 m.hrd, .slice m.hba m.hbn m.hbc, .slice m.hpa m.hpn m.hpc, .int .i64 m.sau, .int .i64 m.srd, .slice m.sda m.sdn m.sdc, .int .i64 m.cau, .int .i64 m.crd, .slice m.cba m.cbn m.cbc, .slice m.cpa m.cpn m.cpc, .slice m.cva m.cvn m.cvc, .int .i64 m.ro] (0, 0) _ hSw.2.2 Try.underlying35 rfl sMsg')
    simp only [Act.put, List.setIfInBounds_toArray, List.set_cons_zero, List.set_cons_succ]
    refine wpAnyH_ready (rs := [2, 7]) (by kernel_rfl) (by simp) (AllReadyH.cons rfl (fun K hK => ?_) (AllReadyH.cons rfl (fun K hK => ?_) AllReadyH.nil))
    · skip
      refine step_calls_dst rfl 15 rfl 8 [.tmp 14] #[35] rfl [.agg #[.int .i64 m.fr, .int .i64 m.tt, .int .i64 m.ki, .int .i64 m.bau, .int .i64 m.bnu, .slice m.bta m.btn m.btc, .int .i64 m.hau, .int .i64 m.hrd, .slice m.hba m.hbn m.hbc, .slice m.hpa m.hpn m.hpc, .int .i64 m.sau, .int .i64 m.srd, .slice m.sda m.sdn m.sdc, .int .i64 m.cau, .int .i64 m.crd, .slice m.cba m.cbn m.cbc, .slice m.cpa m.cpn m.cpc, .slice m.cva m.cvn m.cvc, .int .i64 m.ro]] rfl (enters_of Try.func8 (by kernel_rfl) rfl) (fun v w' => (∃ xa xc ya yc za zc ua uc va vc qa qc ra rc, v = .agg #[.int .i64 m.fr, .int .i64 m.tt, .int .i64 m.ki, .int .i64 m.bau, .int .i64 m.bnu, .slice xa m.btn xc, .int .i64 m.hau, .int .i64 m.hrd, .slice ya m.hbn yc, .slice za m.hpn zc, .int .i64 m.sau, .int .i64 m.srd, .slice ua m.sdn uc, .int .i64 m.cau, .int .i64 m.crd, .slice va m.cbn vc, .slice qa m.cpn qc, .slice ra m.cvn rc, .int .i64 m.ro] ∧ Below V0.heap.size V0 w' ∧ ∀ W2 : World, Below w'.heap.size w' W2 → Calls Try.prog 25 #[.agg #[.int .i64 m.fr, .int .i64 m.tt, .int .i64 m.ki, .int .i64 m.bau, .int .i64 m.bnu, .slice xa m.btn xc, .int .i64 m.hau, .int .i64 m.hrd, .slice ya m.hbn yc, .slice za m.hpn zc, .int .i64 m.sau, .int .i64 m.srd, .slice ua m.sdn uc, .int .i64 m.cau, .int .i64 m.crd, .slice va m.cbn vc, .slice qa m.cpn qc, .slice ra m.cvn rc, .int .i64 m.ro]] W2 fun e w3 => ∃ v, e = .returned (.tuple #[v, .int .i64 X]) ∧ w3.ownsRow W2.heap.size 5 1 v B.length (ub B) ∧ Below W2.heap.size W2 w3)) ((HMs.out V0 (hB1A.trans (hV0.mono hB1A.size))).mono (fun e w2 h => by obtain ⟨xa, xc, ya, yc, za, zc, ua, uc, va, vc, qa, qc, ra, rc, he, h1, h2⟩ := h; exact ⟨_, he, xa, xc, ya, yc, za, zc, ua, uc, va, vc, qa, qc, ra, rc, rfl, h1, h2⟩)) ?_
      rintro v we ⟨xa, xc, ya, yc, za, zc, ua, uc, va, vc, qa, qc, ra, rc, rfl, hb_1, hEnc⟩
      have qT_2 := (hb_1.block _ (lt_of_heap qT0)).trans qT0
      have qM_2 := (hb_1.block _ (lt_of_heap qM0)).trans qM0
      have q0_2 := (hb_1.block _ (lt_of_heap q00)).trans q00
      have hB_2 := hV0.trans (hb_1.mono hV0.size)
      have hEr : Below we.heap.size we we := Below.refl _ _
      refine hK.out _ _ ⟨cells_at qT_2 0 _ rfl, cells_at qT_2 1 _ rfl, qM_2⟩ (fun hHeld => ?_)
      simp only [Act.put, List.setIfInBounds_toArray, List.set_cons_zero, List.set_cons_succ]
      refine wpAnyH_ready (rs := [3, 7]) (by kernel_rfl) (by simp) (AllReadyH.cons rfl (fun K hK => ?_) (AllReadyH.cons rfl (fun K hK => ?_) AllReadyH.nil))
      · skip
        refine step_calls_dst rfl 16 rfl 11 [.tmp 13, .tmp 15] #[41, 35] rfl [.agg #[.slice ta bs.length tc, .int .i64 sy], .agg #[.int .i64 m.fr, .int .i64 m.tt, .int .i64 m.ki, .int .i64 m.bau, .int .i64 m.bnu, .slice xa m.btn xc, .int .i64 m.hau, .int .i64 m.hrd, .slice ya m.hbn yc, .slice za m.hpn zc, .int .i64 m.sau, .int .i64 m.srd, .slice ua m.sdn uc, .int .i64 m.cau, .int .i64 m.crd, .slice va m.cbn vc, .slice qa m.cpn qc, .slice ra m.cvn rc, .int .i64 m.ro]] rfl (enters_of Try.func11 (by kernel_rfl) rfl) (fun v w' => (∃ xe xce, v = .tuple #[.agg #[.slice xe XS.length xce, .int .i64 XN], .int .i64 XF] ∧ SliceAt w' xe xce XS ∧ (∀ sb so, xe = some ⟨sb, so, none⟩ → we.heap.size ≤ sb ∧ sb < w'.heap.size)) ∧ Below we.heap.size we w') ((HAp.out we ta tc (hB1A.trans (hB_2.mono hB1A.size)) (hs1A.below hB_2) xa ya za ua va qa ra xc yc zc uc vc qc rc (fun W2 h2 => hEnc W2 (hEr.trans (h2.mono hEr.size)))).mono (fun e w2 h => by obtain ⟨xe, xce, he, h1, h2, h3⟩ := h; exact ⟨_, he, ⟨xe, xce, rfl, h1, h2⟩, h3⟩)) ?_
        rintro v V3 ⟨⟨xe, xce, rfl, hse, hfe⟩, hb_3⟩
        have qT_4 := (hb_3.block _ (lt_of_heap qT_2)).trans qT_2
        have qM_4 := (hb_3.block _ (lt_of_heap qM_2)).trans qM_2
        have q0_4 := (hb_3.block _ (lt_of_heap q0_2)).trans q0_2
        have hB_4 := hB_2.trans (hb_3.mono hB_2.size)
        have hE_4 : Below we.heap.size we _ := hEr.trans (hb_3.mono hEr.size)
        refine hK.out _ _ ⟨cells_at qT_4 0 _ rfl, cells_at qT_4 1 _ rfl, qM_4⟩ (fun hHeld => ?_)
        simp only [Act.put, List.setIfInBounds_toArray, List.set_cons_zero, List.set_cons_succ]
        refine take_dst (i := 4) (d := 12) (v := .tuple #[.agg #[.slice xe XS.length xce, .int .i64 XN], .int .i64 XF]) rfl rfl (by kernel_rfl) (by kernel_rfl) (by kernel_rfl) (fun _ _ _ h => h) (Or.inl ⟨by rfl, ?_⟩) hHeld ?_
        · (intro w0 hSw; (try dsimp only at hSw); go_simp)
        simp only [Act.put, List.setIfInBounds_toArray, List.set_cons_zero, List.set_cons_succ]
        refine take_dst (i := 5) (d := 17) (v := .agg #[.slice xe XS.length xce, .int .i64 XN]) rfl rfl (by kernel_rfl) (by kernel_rfl) (by kernel_rfl) (fun _ _ _ h => h) (Or.inl ⟨by rfl, ?_⟩) hHeld ?_
        · (intro w0 hSw; (try dsimp only at hSw); go_simp)
        simp only [Act.put, List.setIfInBounds_toArray, List.set_cons_zero, List.set_cons_succ]
        refine take_dst (i := 6) (d := 18) (v := .int .i64 XF) rfl rfl (by kernel_rfl) (by kernel_rfl) (by kernel_rfl) (fun _ _ _ h => h) (Or.inl ⟨by rfl, ?_⟩) hHeld ?_
        · (intro w0 hSw; (try dsimp only at hSw); go_simp)
        simp only [Act.put, List.setIfInBounds_toArray, List.set_cons_zero, List.set_cons_succ]
        refine wpAnyH_ready (rs := [7]) (by kernel_rfl) (by simp) (AllReadyH.cons rfl (fun K hK => ?_) AllReadyH.nil)
        refine step_run rfl 6 rfl (.pointer (some ⟨V3.heap.size, 0, none⟩)) (V3.alloc (.cells #[.slice none 0 0, .int .i64 0] 41)) (by go_simp) ?_
        have hA_5 : Below V3.heap.size V3 (V3.alloc (.cells #[.slice none 0 0, .int .i64 0] 41)) := (Below.refl _ _).alloc (Nat.le_refl _) _
        have qN_5 := heap_alloc_new V3 (.cells #[.slice none 0 0, .int .i64 0] 41)
        have hnT_5 := Nat.ne_of_lt (lt_of_heap qT_4)
        have hnM_5 := Nat.ne_of_lt (lt_of_heap qM_4)
        have hn0_5 := Nat.ne_of_lt (lt_of_heap q0_4)
        have hl_5 : W1.heap.size ≤ V3.heap.size := hB_4.size
        have hx_5 : ∀ sb so, xe = some ⟨sb, so, none⟩ → sb < V3.heap.size := fun sb so e => (hfe sb so e).2
        have qT_6 := (hA_5.block _ (lt_of_heap qT_4)).trans qT_4
        have qM_6 := (hA_5.block _ (lt_of_heap qM_4)).trans qM_4
        have q0_6 := (hA_5.block _ (lt_of_heap q0_4)).trans q0_4
        have hB_6 := hB_4.trans (hA_5.mono hB_4.size)
        have hX_6 := hse.below hA_5
        refine hK.out _ _ ⟨cells_at qT_6 0 _ rfl, cells_at qT_6 1 _ rfl, qM_6⟩ (fun hHeld => ?_)
        simp only [Act.put, List.setIfInBounds_toArray, List.set_cons_zero, List.set_cons_succ]
        generalize V3.alloc (.cells #[.slice none 0 0, .int .i64 0] 41) = V5 at hA_5 qN_5 qT_6 qM_6 q0_6 hB_6 hX_6 hHeld ⊢
        clear hA_5
        generalize V3.heap.size = b5 at qN_5 hnT_5 hnM_5 hn0_5 hl_5 hx_5 ⊢
        have z0_7 := cells_at qN_5 0 _ rfl
        have y0_7 := frozen_at qN_5 0
        have z1_7 := cells_at qN_5 1 _ rfl
        have y1_7 := frozen_at qN_5 1
        refine wpAnyH_ready (rs := [8]) (by kernel_rfl) (by simp) (AllReadyH.cons rfl (fun K hK => ?_) AllReadyH.nil)
        have hxB : ∀ sb so, xe = some ⟨sb, so, none⟩ → b5 ≠ sb := fun sb so e => by have := hx_5 sb so e; omega
        refine step_store rfl rfl ((V5.setCell ⟨b5, 0, none⟩ (.slice xe XS.length xce)).setCell ⟨b5, 1, none⟩ (.int .i64 XN)) (by go_simp) ?_
        have qB_7 : ((V5.setCell ⟨b5, 0, none⟩ (.slice xe XS.length xce)).setCell ⟨b5, 1, none⟩ (.int .i64 XN)).heap[b5]? = some (.cells #[.slice xe XS.length xce, .int .i64 XN] 41 (0, 0)) := by simpa using (heap_setCell_same _ _ 1 _ _ (.int .i64 XN) (heap_setCell_same _ _ 0 _ _ (.slice xe XS.length xce) qN_5))
        have qT_7 := (heap_far (j := 1) (v := .int .i64 XN) (heap_far (j := 0) (v := .slice xe XS.length xce) qT_6 hnT_5) hnT_5)
        have qM_7 := (heap_far (j := 1) (v := .int .i64 XN) (heap_far (j := 0) (v := .slice xe XS.length xce) qM_6 hnM_5) hnM_5)
        have q0_7 := (heap_far (j := 1) (v := .int .i64 XN) (heap_far (j := 0) (v := .slice xe XS.length xce) q0_6 hn0_5) hn0_5)
        have hB_7 := ((hB_6.setCell (p := ⟨b5, 0, none⟩) hl_5 (.slice xe XS.length xce)).setCell (p := ⟨b5, 1, none⟩) hl_5 (.int .i64 XN))
        have hX_7 := ((hX_6.setCellT b5 0 (.slice xe XS.length xce) hxB).setCellT b5 1 (.int .i64 XN) hxB)
        refine hK.out _ _ ⟨cells_at qT_7 0 _ rfl, cells_at qT_7 1 _ rfl, qM_7⟩ (fun hHeld => ?_)
        generalize ((V5.setCell ⟨b5, 0, none⟩ (.slice xe XS.length xce)).setCell ⟨b5, 1, none⟩ (.int .i64 XN)) = VE at qB_7 qT_7 qM_7 q0_7 hB_7 hX_7 hHeld ⊢
        refine take_dst (i := 9) (d := 7) (v := .int .i64 XF) rfl rfl (by kernel_rfl) (by kernel_rfl) (by kernel_rfl) (fun _ _ _ h => h) (Or.inl ⟨by rfl, ?_⟩) hHeld ?_
        · (intro w0 hSw; (try dsimp only at hSw); go_simp)
        simp only [Act.put, List.setIfInBounds_toArray, List.set_cons_zero, List.set_cons_succ]
        refine wpAnyH_done (by kernel_rfl) ?_ _
        go_wp2_with fail
        go_meet
        case rel => exact ⟨b5, xe, xce, rfl, rfl, hB_7, qB_7, qT_7, qM_7, q0_7, hX_7⟩
      · skip
        refine step_run rfl 6 rfl (.pointer (some ⟨we.heap.size, 0, none⟩)) (we.alloc (.cells #[.slice none 0 0, .int .i64 0] 41)) (by go_simp) ?_
        have hA_8 : Below we.heap.size we (we.alloc (.cells #[.slice none 0 0, .int .i64 0] 41)) := (Below.refl _ _).alloc (Nat.le_refl _) _
        have qN_8 := heap_alloc_new we (.cells #[.slice none 0 0, .int .i64 0] 41)
        have hnT_8 := Nat.ne_of_lt (lt_of_heap qT_2)
        have hnM_8 := Nat.ne_of_lt (lt_of_heap qM_2)
        have hn0_8 := Nat.ne_of_lt (lt_of_heap q0_2)
        have hl_8 : W1.heap.size ≤ we.heap.size := hB_2.size
        have qT_9 := (hA_8.block _ (lt_of_heap qT_2)).trans qT_2
        have qM_9 := (hA_8.block _ (lt_of_heap qM_2)).trans qM_2
        have q0_9 := (hA_8.block _ (lt_of_heap q0_2)).trans q0_2
        have hB_9 := hB_2.trans (hA_8.mono hB_2.size)
        have hE_9 : Below we.heap.size we _ := hEr.trans (hA_8.mono hEr.size)
        refine hK.out _ _ ⟨cells_at qT_9 0 _ rfl, cells_at qT_9 1 _ rfl, qM_9⟩ (fun hHeld => ?_)
        simp only [Act.put, List.setIfInBounds_toArray, List.set_cons_zero, List.set_cons_succ]
        generalize we.alloc (.cells #[.slice none 0 0, .int .i64 0] 41) = V8 at hA_8 qN_8 qT_9 qM_9 q0_9 hB_9 hE_9 hHeld ⊢
        clear hA_8
        generalize we.heap.size = b8 at qN_8 hnT_8 hnM_8 hn0_8 hl_8 ⊢
        refine wpAnyH_ready (rs := [3]) (by kernel_rfl) (by simp) (AllReadyH.cons rfl (fun K hK => ?_) AllReadyH.nil)
        refine step_calls_dst rfl 16 rfl 11 [.tmp 13, .tmp 15] #[41, 35] rfl [.agg #[.slice ta bs.length tc, .int .i64 sy], .agg #[.int .i64 m.fr, .int .i64 m.tt, .int .i64 m.ki, .int .i64 m.bau, .int .i64 m.bnu, .slice xa m.btn xc, .int .i64 m.hau, .int .i64 m.hrd, .slice ya m.hbn yc, .slice za m.hpn zc, .int .i64 m.sau, .int .i64 m.srd, .slice ua m.sdn uc, .int .i64 m.cau, .int .i64 m.crd, .slice va m.cbn vc, .slice qa m.cpn qc, .slice ra m.cvn rc, .int .i64 m.ro]] rfl (enters_of Try.func11 (by kernel_rfl) rfl) (fun v w' => (∃ xe xce, v = .tuple #[.agg #[.slice xe XS.length xce, .int .i64 XN], .int .i64 XF] ∧ SliceAt w' xe xce XS ∧ (∀ sb so, xe = some ⟨sb, so, none⟩ → V8.heap.size ≤ sb ∧ sb < w'.heap.size)) ∧ Below V8.heap.size V8 w') ((HAp.out V8 ta tc (hB1A.trans (hB_9.mono hB1A.size)) (hs1A.below hB_9) xa ya za ua va qa ra xc yc zc uc vc qc rc (fun W2 h2 => hEnc W2 (hE_9.trans (h2.mono hE_9.size)))).mono (fun e w2 h => by obtain ⟨xe, xce, he, h1, h2, h3⟩ := h; exact ⟨_, he, ⟨xe, xce, rfl, h1, h2⟩, h3⟩)) ?_
        rintro v V10 ⟨⟨xe, xce, rfl, hse, hfe⟩, hb_10⟩
        have hbe_10 := lt_of_heap qN_8
        have qT_11 := (hb_10.block _ (lt_of_heap qT_9)).trans qT_9
        have qM_11 := (hb_10.block _ (lt_of_heap qM_9)).trans qM_9
        have q0_11 := (hb_10.block _ (lt_of_heap q0_9)).trans q0_9
        have qB_11 := (hb_10.block _ (lt_of_heap qN_8)).trans qN_8
        have hB_11 := hB_9.trans (hb_10.mono hB_9.size)
        have hE_11 : Below we.heap.size we _ := hE_9.trans (hb_10.mono hE_9.size)
        have hx_10 : ∀ sb so, xe = some ⟨sb, so, none⟩ → sb ≠ b8 := fun sb so e => by have := (hfe sb so e).1; omega
        refine hK.out _ _ ⟨cells_at qT_11 0 _ rfl, cells_at qT_11 1 _ rfl, qM_11⟩ (fun hHeld => ?_)
        simp only [Act.put, List.setIfInBounds_toArray, List.set_cons_zero, List.set_cons_succ]
        refine take_dst (i := 4) (d := 12) (v := .tuple #[.agg #[.slice xe XS.length xce, .int .i64 XN], .int .i64 XF]) rfl rfl (by kernel_rfl) (by kernel_rfl) (by kernel_rfl) (fun _ _ _ h => h) (Or.inl ⟨by rfl, ?_⟩) hHeld ?_
        · (intro w0 hSw; (try dsimp only at hSw); go_simp)
        simp only [Act.put, List.setIfInBounds_toArray, List.set_cons_zero, List.set_cons_succ]
        refine take_dst (i := 5) (d := 17) (v := .agg #[.slice xe XS.length xce, .int .i64 XN]) rfl rfl (by kernel_rfl) (by kernel_rfl) (by kernel_rfl) (fun _ _ _ h => h) (Or.inl ⟨by rfl, ?_⟩) hHeld ?_
        · (intro w0 hSw; (try dsimp only at hSw); go_simp)
        simp only [Act.put, List.setIfInBounds_toArray, List.set_cons_zero, List.set_cons_succ]
        refine take_dst (i := 6) (d := 18) (v := .int .i64 XF) rfl rfl (by kernel_rfl) (by kernel_rfl) (by kernel_rfl) (fun _ _ _ h => h) (Or.inl ⟨by rfl, ?_⟩) hHeld ?_
        · (intro w0 hSw; (try dsimp only at hSw); go_simp)
        simp only [Act.put, List.setIfInBounds_toArray, List.set_cons_zero, List.set_cons_succ]
        have z0_12 := cells_at qB_11 0 _ rfl
        have y0_12 := frozen_at qB_11 0
        have z1_12 := cells_at qB_11 1 _ rfl
        have y1_12 := frozen_at qB_11 1
        refine wpAnyH_ready (rs := [8]) (by kernel_rfl) (by simp) (AllReadyH.cons rfl (fun K hK => ?_) AllReadyH.nil)
        have hxB : ∀ sb so, xe = some ⟨sb, so, none⟩ → b8 ≠ sb := fun sb so e => by have := hx_10 sb so e; omega
        refine step_store rfl rfl ((V10.setCell ⟨b8, 0, none⟩ (.slice xe XS.length xce)).setCell ⟨b8, 1, none⟩ (.int .i64 XN)) (by go_simp) ?_
        have qB_12 : ((V10.setCell ⟨b8, 0, none⟩ (.slice xe XS.length xce)).setCell ⟨b8, 1, none⟩ (.int .i64 XN)).heap[b8]? = some (.cells #[.slice xe XS.length xce, .int .i64 XN] 41 (0, 0)) := by simpa using (heap_setCell_same _ _ 1 _ _ (.int .i64 XN) (heap_setCell_same _ _ 0 _ _ (.slice xe XS.length xce) qB_11))
        have qT_12 := (heap_far (j := 1) (v := .int .i64 XN) (heap_far (j := 0) (v := .slice xe XS.length xce) qT_11 hnT_8) hnT_8)
        have qM_12 := (heap_far (j := 1) (v := .int .i64 XN) (heap_far (j := 0) (v := .slice xe XS.length xce) qM_11 hnM_8) hnM_8)
        have q0_12 := (heap_far (j := 1) (v := .int .i64 XN) (heap_far (j := 0) (v := .slice xe XS.length xce) q0_11 hn0_8) hn0_8)
        have hB_12 := ((hB_11.setCell (p := ⟨b8, 0, none⟩) hl_8 (.slice xe XS.length xce)).setCell (p := ⟨b8, 1, none⟩) hl_8 (.int .i64 XN))
        have hX_12 := ((hse.setCellT b8 0 (.slice xe XS.length xce) hxB).setCellT b8 1 (.int .i64 XN) hxB)
        refine hK.out _ _ ⟨cells_at qT_12 0 _ rfl, cells_at qT_12 1 _ rfl, qM_12⟩ (fun hHeld => ?_)
        generalize ((V10.setCell ⟨b8, 0, none⟩ (.slice xe XS.length xce)).setCell ⟨b8, 1, none⟩ (.int .i64 XN)) = VE at qB_12 qT_12 qM_12 q0_12 hB_12 hX_12 hHeld ⊢
        refine take_dst (i := 9) (d := 7) (v := .int .i64 XF) rfl rfl (by kernel_rfl) (by kernel_rfl) (by kernel_rfl) (fun _ _ _ h => h) (Or.inl ⟨by rfl, ?_⟩) hHeld ?_
        · (intro w0 hSw; (try dsimp only at hSw); go_simp)
        simp only [Act.put, List.setIfInBounds_toArray, List.set_cons_zero, List.set_cons_succ]
        refine wpAnyH_done (by kernel_rfl) ?_ _
        go_wp2_with fail
        go_meet
        case rel => exact ⟨b8, xe, xce, rfl, rfl, hB_12, qB_12, qT_12, qM_12, q0_12, hX_12⟩
    · skip
      refine step_run rfl 6 rfl (.pointer (some ⟨V0.heap.size, 0, none⟩)) (V0.alloc (.cells #[.slice none 0 0, .int .i64 0] 41)) (by go_simp) ?_
      have hA_13 : Below V0.heap.size V0 (V0.alloc (.cells #[.slice none 0 0, .int .i64 0] 41)) := (Below.refl _ _).alloc (Nat.le_refl _) _
      have qN_13 := heap_alloc_new V0 (.cells #[.slice none 0 0, .int .i64 0] 41)
      have hnT_13 := Nat.ne_of_lt (lt_of_heap qT0)
      have hnM_13 := Nat.ne_of_lt (lt_of_heap qM0)
      have hn0_13 := Nat.ne_of_lt (lt_of_heap q00)
      have hl_13 : W1.heap.size ≤ V0.heap.size := hV0.size
      have qT_14 := (hA_13.block _ (lt_of_heap qT0)).trans qT0
      have qM_14 := (hA_13.block _ (lt_of_heap qM0)).trans qM0
      have q0_14 := (hA_13.block _ (lt_of_heap q00)).trans q00
      have hB_14 := hV0.trans (hA_13.mono hV0.size)
      refine hK.out _ _ ⟨cells_at qT_14 0 _ rfl, cells_at qT_14 1 _ rfl, qM_14⟩ (fun hHeld => ?_)
      simp only [Act.put, List.setIfInBounds_toArray, List.set_cons_zero, List.set_cons_succ]
      generalize V0.alloc (.cells #[.slice none 0 0, .int .i64 0] 41) = V13 at hA_13 qN_13 qT_14 qM_14 q0_14 hB_14 hHeld ⊢
      clear hA_13
      generalize V0.heap.size = b13 at qN_13 hnT_13 hnM_13 hn0_13 hl_13 ⊢
      refine wpAnyH_ready (rs := [2]) (by kernel_rfl) (by simp) (AllReadyH.cons rfl (fun K hK => ?_) AllReadyH.nil)
      refine step_calls_dst rfl 15 rfl 8 [.tmp 14] #[35] rfl [.agg #[.int .i64 m.fr, .int .i64 m.tt, .int .i64 m.ki, .int .i64 m.bau, .int .i64 m.bnu, .slice m.bta m.btn m.btc, .int .i64 m.hau, .int .i64 m.hrd, .slice m.hba m.hbn m.hbc, .slice m.hpa m.hpn m.hpc, .int .i64 m.sau, .int .i64 m.srd, .slice m.sda m.sdn m.sdc, .int .i64 m.cau, .int .i64 m.crd, .slice m.cba m.cbn m.cbc, .slice m.cpa m.cpn m.cpc, .slice m.cva m.cvn m.cvc, .int .i64 m.ro]] rfl (enters_of Try.func8 (by kernel_rfl) rfl) (fun v w' => (∃ xa xc ya yc za zc ua uc va vc qa qc ra rc, v = .agg #[.int .i64 m.fr, .int .i64 m.tt, .int .i64 m.ki, .int .i64 m.bau, .int .i64 m.bnu, .slice xa m.btn xc, .int .i64 m.hau, .int .i64 m.hrd, .slice ya m.hbn yc, .slice za m.hpn zc, .int .i64 m.sau, .int .i64 m.srd, .slice ua m.sdn uc, .int .i64 m.cau, .int .i64 m.crd, .slice va m.cbn vc, .slice qa m.cpn qc, .slice ra m.cvn rc, .int .i64 m.ro] ∧ Below V13.heap.size V13 w' ∧ ∀ W2 : World, Below w'.heap.size w' W2 → Calls Try.prog 25 #[.agg #[.int .i64 m.fr, .int .i64 m.tt, .int .i64 m.ki, .int .i64 m.bau, .int .i64 m.bnu, .slice xa m.btn xc, .int .i64 m.hau, .int .i64 m.hrd, .slice ya m.hbn yc, .slice za m.hpn zc, .int .i64 m.sau, .int .i64 m.srd, .slice ua m.sdn uc, .int .i64 m.cau, .int .i64 m.crd, .slice va m.cbn vc, .slice qa m.cpn qc, .slice ra m.cvn rc, .int .i64 m.ro]] W2 fun e w3 => ∃ v, e = .returned (.tuple #[v, .int .i64 X]) ∧ w3.ownsRow W2.heap.size 5 1 v B.length (ub B) ∧ Below W2.heap.size W2 w3)) ((HMs.out V13 (hB1A.trans (hB_14.mono hB1A.size))).mono (fun e w2 h => by obtain ⟨xa, xc, ya, yc, za, zc, ua, uc, va, vc, qa, qc, ra, rc, he, h1, h2⟩ := h; exact ⟨_, he, xa, xc, ya, yc, za, zc, ua, uc, va, vc, qa, qc, ra, rc, rfl, h1, h2⟩)) ?_
      rintro v we ⟨xa, xc, ya, yc, za, zc, ua, uc, va, vc, qa, qc, ra, rc, rfl, hb_15, hEnc⟩
      have qT_16 := (hb_15.block _ (lt_of_heap qT_14)).trans qT_14
      have qM_16 := (hb_15.block _ (lt_of_heap qM_14)).trans qM_14
      have q0_16 := (hb_15.block _ (lt_of_heap q0_14)).trans q0_14
      have qB_16 := (hb_15.block _ (lt_of_heap qN_13)).trans qN_13
      have hB_16 := hB_14.trans (hb_15.mono hB_14.size)
      have hEr : Below we.heap.size we we := Below.refl _ _
      refine hK.out _ _ ⟨cells_at qT_16 0 _ rfl, cells_at qT_16 1 _ rfl, qM_16⟩ (fun hHeld => ?_)
      simp only [Act.put, List.setIfInBounds_toArray, List.set_cons_zero, List.set_cons_succ]
      refine wpAnyH_ready (rs := [3]) (by kernel_rfl) (by simp) (AllReadyH.cons rfl (fun K hK => ?_) AllReadyH.nil)
      refine step_calls_dst rfl 16 rfl 11 [.tmp 13, .tmp 15] #[41, 35] rfl [.agg #[.slice ta bs.length tc, .int .i64 sy], .agg #[.int .i64 m.fr, .int .i64 m.tt, .int .i64 m.ki, .int .i64 m.bau, .int .i64 m.bnu, .slice xa m.btn xc, .int .i64 m.hau, .int .i64 m.hrd, .slice ya m.hbn yc, .slice za m.hpn zc, .int .i64 m.sau, .int .i64 m.srd, .slice ua m.sdn uc, .int .i64 m.cau, .int .i64 m.crd, .slice va m.cbn vc, .slice qa m.cpn qc, .slice ra m.cvn rc, .int .i64 m.ro]] rfl (enters_of Try.func11 (by kernel_rfl) rfl) (fun v w' => (∃ xe xce, v = .tuple #[.agg #[.slice xe XS.length xce, .int .i64 XN], .int .i64 XF] ∧ SliceAt w' xe xce XS ∧ (∀ sb so, xe = some ⟨sb, so, none⟩ → we.heap.size ≤ sb ∧ sb < w'.heap.size)) ∧ Below we.heap.size we w') ((HAp.out we ta tc (hB1A.trans (hB_16.mono hB1A.size)) (hs1A.below hB_16) xa ya za ua va qa ra xc yc zc uc vc qc rc (fun W2 h2 => hEnc W2 (hEr.trans (h2.mono hEr.size)))).mono (fun e w2 h => by obtain ⟨xe, xce, he, h1, h2, h3⟩ := h; exact ⟨_, he, ⟨xe, xce, rfl, h1, h2⟩, h3⟩)) ?_
      rintro v V17 ⟨⟨xe, xce, rfl, hse, hfe⟩, hb_17⟩
      have hbe_17 := lt_of_heap qB_16
      have qT_18 := (hb_17.block _ (lt_of_heap qT_16)).trans qT_16
      have qM_18 := (hb_17.block _ (lt_of_heap qM_16)).trans qM_16
      have q0_18 := (hb_17.block _ (lt_of_heap q0_16)).trans q0_16
      have qB_18 := (hb_17.block _ (lt_of_heap qB_16)).trans qB_16
      have hB_18 := hB_16.trans (hb_17.mono hB_16.size)
      have hE_18 : Below we.heap.size we _ := hEr.trans (hb_17.mono hEr.size)
      have hx_17 : ∀ sb so, xe = some ⟨sb, so, none⟩ → sb ≠ b13 := fun sb so e => by have := (hfe sb so e).1; omega
      refine hK.out _ _ ⟨cells_at qT_18 0 _ rfl, cells_at qT_18 1 _ rfl, qM_18⟩ (fun hHeld => ?_)
      simp only [Act.put, List.setIfInBounds_toArray, List.set_cons_zero, List.set_cons_succ]
      refine take_dst (i := 4) (d := 12) (v := .tuple #[.agg #[.slice xe XS.length xce, .int .i64 XN], .int .i64 XF]) rfl rfl (by kernel_rfl) (by kernel_rfl) (by kernel_rfl) (fun _ _ _ h => h) (Or.inl ⟨by rfl, ?_⟩) hHeld ?_
      · (intro w0 hSw; (try dsimp only at hSw); go_simp)
      simp only [Act.put, List.setIfInBounds_toArray, List.set_cons_zero, List.set_cons_succ]
      refine take_dst (i := 5) (d := 17) (v := .agg #[.slice xe XS.length xce, .int .i64 XN]) rfl rfl (by kernel_rfl) (by kernel_rfl) (by kernel_rfl) (fun _ _ _ h => h) (Or.inl ⟨by rfl, ?_⟩) hHeld ?_
      · (intro w0 hSw; (try dsimp only at hSw); go_simp)
      simp only [Act.put, List.setIfInBounds_toArray, List.set_cons_zero, List.set_cons_succ]
      refine take_dst (i := 6) (d := 18) (v := .int .i64 XF) rfl rfl (by kernel_rfl) (by kernel_rfl) (by kernel_rfl) (fun _ _ _ h => h) (Or.inl ⟨by rfl, ?_⟩) hHeld ?_
      · (intro w0 hSw; (try dsimp only at hSw); go_simp)
      simp only [Act.put, List.setIfInBounds_toArray, List.set_cons_zero, List.set_cons_succ]
      have z0_19 := cells_at qB_18 0 _ rfl
      have y0_19 := frozen_at qB_18 0
      have z1_19 := cells_at qB_18 1 _ rfl
      have y1_19 := frozen_at qB_18 1
      refine wpAnyH_ready (rs := [8]) (by kernel_rfl) (by simp) (AllReadyH.cons rfl (fun K hK => ?_) AllReadyH.nil)
      have hxB : ∀ sb so, xe = some ⟨sb, so, none⟩ → b13 ≠ sb := fun sb so e => by have := hx_17 sb so e; omega
      refine step_store rfl rfl ((V17.setCell ⟨b13, 0, none⟩ (.slice xe XS.length xce)).setCell ⟨b13, 1, none⟩ (.int .i64 XN)) (by go_simp) ?_
      have qB_19 : ((V17.setCell ⟨b13, 0, none⟩ (.slice xe XS.length xce)).setCell ⟨b13, 1, none⟩ (.int .i64 XN)).heap[b13]? = some (.cells #[.slice xe XS.length xce, .int .i64 XN] 41 (0, 0)) := by simpa using (heap_setCell_same _ _ 1 _ _ (.int .i64 XN) (heap_setCell_same _ _ 0 _ _ (.slice xe XS.length xce) qB_18))
      have qT_19 := (heap_far (j := 1) (v := .int .i64 XN) (heap_far (j := 0) (v := .slice xe XS.length xce) qT_18 hnT_13) hnT_13)
      have qM_19 := (heap_far (j := 1) (v := .int .i64 XN) (heap_far (j := 0) (v := .slice xe XS.length xce) qM_18 hnM_13) hnM_13)
      have q0_19 := (heap_far (j := 1) (v := .int .i64 XN) (heap_far (j := 0) (v := .slice xe XS.length xce) q0_18 hn0_13) hn0_13)
      have hB_19 := ((hB_18.setCell (p := ⟨b13, 0, none⟩) hl_13 (.slice xe XS.length xce)).setCell (p := ⟨b13, 1, none⟩) hl_13 (.int .i64 XN))
      have hX_19 := ((hse.setCellT b13 0 (.slice xe XS.length xce) hxB).setCellT b13 1 (.int .i64 XN) hxB)
      refine hK.out _ _ ⟨cells_at qT_19 0 _ rfl, cells_at qT_19 1 _ rfl, qM_19⟩ (fun hHeld => ?_)
      generalize ((V17.setCell ⟨b13, 0, none⟩ (.slice xe XS.length xce)).setCell ⟨b13, 1, none⟩ (.int .i64 XN)) = VE at qB_19 qT_19 qM_19 q0_19 hB_19 hX_19 hHeld ⊢
      refine take_dst (i := 9) (d := 7) (v := .int .i64 XF) rfl rfl (by kernel_rfl) (by kernel_rfl) (by kernel_rfl) (fun _ _ _ h => h) (Or.inl ⟨by rfl, ?_⟩) hHeld ?_
      · (intro w0 hSw; (try dsimp only at hSw); go_simp)
      simp only [Act.put, List.setIfInBounds_toArray, List.set_cons_zero, List.set_cons_succ]
      refine wpAnyH_done (by kernel_rfl) ?_ _
      go_wp2_with fail
      go_meet
      case rel => exact ⟨b13, xe, xce, rfl, rfl, hB_19, qB_19, qT_19, qM_19, q0_19, hX_19⟩
  case rest =>
    obtain ⟨b, xe, xce, rfl, rfl, hbc, u2, uT, uM, u0, hx2⟩ := hcut
    have hBc := hB1A.trans (hbc.mono hB1A.size)
    have hs1c := hs1A.below hbc
    have c0 : wc.cell? ⟨w.heap.size, 0, none⟩ = some (.slice sa bs.length cap) := cells_at u0 0 _ rfl
    have c1 : wc.cell? ⟨w.heap.size, 1, none⟩ = some (.int .i64 sy) := cells_at u0 1 _ rfl
    clear HMs HAp
    apply_assumption
    go_wp2_with (refine wpList_load_row rfl 35 _ rfl (w.heap.size + 1) rfl 35 _ (0, 0) _ uM Try.underlying35 rfl sMsg' ?_)
    refine (HAd.out wc hBc).mono ?_
    rintro e w3 ⟨ya, yc, he, hx3, _, hb3⟩
    subst he
    dsimp only
    have hB3 := hBc.trans (hb3.mono hBc.size)
    have s0 := (hb3.block _ (lt_of_heap u0)).trans u0
    have sN := (hb3.block _ (lt_of_heap uT)).trans uT
    have sX := (hb3.block _ (lt_of_heap u2)).trans u2
    have hA3 : Below w3.heap.size w3 (w3.alloc (.cells #[.slice ya XS.length yc, .int .i64 XN] 41)) := (Below.refl _ _).alloc (Nat.le_refl _) _
    have t0 := heap_keep (o := .cells #[.slice ya XS.length yc, .int .i64 XN] 41) s0
    have tN := heap_keep (o := .cells #[.slice ya XS.length yc, .int .i64 XN] 41) sN
    have tX := heap_keep (o := .cells #[.slice ya XS.length yc, .int .i64 XN] 41) sX
    have tY := heap_alloc_new w3 (.cells #[.slice ya XS.length yc, .int .i64 XN] 41)
    have hX4 := (hx2.below hb3).below hA3
    have hY4 := hx3.below hA3
    have hC4 := (hs1c.below hb3).below hA3
    have hB4 := hB3.trans (hA3.mono hB3.size)
    have hP4 := hs.below hB4
    have hbe : (XF == XF) = true := by simp
    have v0 := cells_at tX 0 _ rfl
    have v1 := cells_at tX 1 _ rfl
    have x0 := cells_at tY 0 _ rfl
    have x1 := cells_at tY 1 _ rfl
    clear c0 c1
    go_wp2_with fail
    refine (sameTape_eq XN XS xe ya _ _ xce yc _ rfl rfl hX4 hY4).mono ?_
    rintro e w4 ⟨he, hb4⟩
    subst he
    dsimp only
    have z0 := (hb4.block _ (lt_of_heap t0)).trans t0
    have zN := (hb4.block _ (lt_of_heap tN)).trans tN
    have c0 : w4.cell? ⟨w.heap.size, 0, none⟩ = some (.slice sa bs.length cap) := cells_at z0 0 _ rfl
    have c1 : w4.cell? ⟨w.heap.size, 1, none⟩ = some (.int .i64 sy) := cells_at z0 1 _ rfl
    have n0 := cells_at zN 0 _ rfl
    have n1 := cells_at zN 1 _ rfl
    have hB5 := hB4.trans (hb4.mono hB4.size)
    go_wp2_with fail
    refine (sameTape_eq sy bs ta sa _ _ tc cap _ rfl rfl (hC4.below hb4) (hP4.below hb4)).mono ?_
    rintro e w5 ⟨he, hb5⟩
    subst he
    dsimp only
    go_wp2_with fail
    go_ret
    exact ⟨rfl, hB5.trans (hb5.mono hB5.size)⟩
end Go.Proofs.Ytchmfbhdnhaleaa

namespace Go.Proofs.Ytchmfbhdnhaleaa.tapeAppends
open Go.ChangeShapes Go.WideShapes Go.ChangeAt Go.RowKit

set_option maxRecDepth 100000 in
/-- What the walk gives, for every argument and every world. -/
theorem contract (H : Type) (enc : TypeId × Value → H) (W : World) (base : Nat) (args : Array Value) (ds gs : List (DataW H)) (before : List MemPlace)
    (hval : ∀ (j : Nat) t v, Try.f4.params[j]? = some t → args[j]? = some v → Value.okWide Try.prog W .any base t v)
    (hW : DataW.Whole enc Try.prog Try.f4.params.toList Rows.tapeAppendsSpec.vars false W args.toList ds gs before) (hsz : (DataW.weightsEach Try.prog (Try.f4.params.toList ++ (OpenSpec.ofChange Rows.tapeAppendsSpec).bare.plain.varTypes Try.prog) (ds ++ gs)).all (· ≤ reachBytes) = true) (_hL : laidMetH Try.prog Rows.tapeAppendsRow.laid W) :
    Calls Try.prog 4 args W fun e W' => ∃ v, e = .returned v ∧ Rows.tapeAppendsSpec.post enc Try.prog Try.f4 false true false false W args v W' := by
  have hW' := hW
  obtain ⟨p, q, hA0, hV, rfl, hfz, hnd⟩ := hW
  have hA : DataW.TrodAll enc Try.prog W 0 (fun _ => true) true Try.f4.params.toList args.toList ds p := hA0
  rw [Try.params4] at hA hval hsz
  obtain ⟨v0, vs0, d0, ds0, p0, q0, hargs, rfl, rfl, h0, r0⟩ := trodAll_cons hA
  obtain ⟨v1, vs1, d1, ds1, p1, q1, rfl, rfl, rfl, h1, r1⟩ := trodAll_cons r0
  obtain ⟨rfl, rfl, rfl⟩ := trodAll_nil r1
  obtain rfl : args = #[v0, v1] := by cases args; simp_all
  obtain ⟨rfl, rfl⟩ := trodVars_none hV
  have k0 := h0
  have lt0 : ∀ x ∈ p0, x.block < W.heap.size := by obtain ⟨m, hm⟩ := k0; exact DataW.trod_lt m _ _ _ hm
  obtain ⟨sa0, cap0, bs0, sy0, rfl, q0_0, q0_1, q0_2, q0_3⟩ := open_tape (hval 0 41 v0 rfl rfl) h0 (fit_each hsz (j := 0) rfl rfl)
  have k1 := h1
  have lt1 : ∀ x ∈ p1, x.block < W.heap.size := by obtain ⟨m, hm⟩ := k1; exact DataW.trod_lt m _ _ _ hm
  obtain ⟨m1, ss1, bl1, pl1, cbl1, cpl1, ds1, vl1, rfl, q1_0⟩ := open_message (hval 1 35 v1 rfl rfl) h1 (fit_each hsz (j := 1) rfl rfl)
  clear hA0
  refine (tapeAppends_walk sa0 cap0 bs0 sy0 m1 ss1 bl1 pl1 cbl1 cpl1 ds1 vl1 W q0_0 q0_1 q0_2 q0_3 q1_0).mono fun e W' ⟨he, bel⟩ => ?_
  subst he
  exact ⟨_, rfl, _, _, _, [], _, [], hW', trodAll_mk1 (shut_bool Try.underlying4 _), (trodAll_cons_mk (Below.trod laidOut (by kernel_rfl) (of_decide_eq_true (by kernel_rfl)) k0 bel lt0) (trodAll_cons_mk (Below.trod laidOut (by kernel_rfl) (of_decide_eq_true (by kernel_rfl)) k1 bel lt1) trodAll_mk0)), rfl, bel.frame _, fun h => by cases h⟩

set_option maxRecDepth 100000 in
theorem laid_met (os : Os) : laidMet Try.prog Rows.tapeAppendsRow.laid ((World.holding Try.prog os ⟨#[], #[], []⟩).forCall (fun _ _ => 0) ⟨#[], #[.agg #[.slice none 0 0, .int .i64 0], .agg #[.int .i64 0, .int .i64 0, .int .i64 0, .int .i64 0, .int .i64 0, .slice none 0 0, .int .i64 0, .int .i64 0, .slice none 0 0, .slice none 0 0, .int .i64 0, .int .i64 0, .slice none 0 0, .int .i64 0, .int .i64 0, .slice none 0 0, .slice none 0 0, .slice none 0 0, .int .i64 0]], []⟩).memory :=
  laidMet_of_run' 8 (by kernel_rfl) (by kernel_rfl)
set_option maxRecDepth 100000 in
theorem reads (os : Os) {H : Type} (enc : TypeId × Value → H) : ∃ places, DataW.whole enc Try.prog ((World.holding Try.prog os ⟨#[], #[], []⟩).forCall (fun _ _ => 0) ⟨#[], #[.agg #[.slice none 0 0, .int .i64 0], .agg #[.int .i64 0, .int .i64 0, .int .i64 0, .int .i64 0, .int .i64 0, .slice none 0 0, .int .i64 0, .int .i64 0, .slice none 0 0, .slice none 0 0, .int .i64 0, .int .i64 0, .slice none 0 0, .int .i64 0, .int .i64 0, .slice none 0 0, .slice none 0 0, .slice none 0 0, .int .i64 0]], []⟩).memory Try.f4.params.toList Rows.tapeAppendsSpec.vars false (#[.agg #[.slice none 0 0, .int .i64 0], .agg #[.int .i64 0, .int .i64 0, .int .i64 0, .int .i64 0, .int .i64 0, .slice none 0 0, .int .i64 0, .int .i64 0, .slice none 0 0, .slice none 0 0, .int .i64 0, .int .i64 0, .slice none 0 0, .int .i64 0, .int .i64 0, .slice none 0 0, .slice none 0 0, .slice none 0 0, .int .i64 0]] : Array Value).toList 8 = some ([.agg [.nil, .lit (.int .i64 0)], .agg [.lit (.int .i64 0), .lit (.int .i64 0), .lit (.int .i64 0), .agg [.lit (.int .i64 0), .lit (.int .i64 0), .nil], .agg [.lit (.int .i64 0), .lit (.int .i64 0), .nil, .nil], .agg [.lit (.int .i64 0), .lit (.int .i64 0), .nil], .agg [.agg [.lit (.int .i64 0), .lit (.int .i64 0), .nil, .nil], .nil], .lit (.int .i64 0)]], [], places) :=
  ⟨[], by kernel_rfl⟩

set_option maxRecDepth 100000 in
theorem lifted (os : Os) (started : os.Started) (H : Type) (enc : TypeId × Value → H) (F : Stop.Interp) :
    ReturnsInHanded {} Try.checked os 4 .any ((OpenSpec.ofChange Rows.tapeAppendsSpec).preRow enc Try.prog Try.f4 Rows.tapeAppendsRow.domain false Rows.tapeAppendsRow.laid) (((OpenSpec.ofChange Rows.tapeAppendsSpec).at F).post enc Try.prog Try.f4 false true false false) := by
  obtain ⟨places, hx⟩ := reads os enc
  refine returnsInHanded_of_row (C := Try.checked) (s := OpenSpec.ofChange Rows.tapeAppendsSpec) own started (by kernel_rfl) Try.func4
    (witness_row_at (enc := enc) (C := Try.checked) false (World.holding Try.prog os ⟨#[], #[], []⟩) #[.agg #[.slice none 0 0, .int .i64 0], .agg #[.int .i64 0, .int .i64 0, .int .i64 0, .int .i64 0, .int .i64 0, .slice none 0 0, .int .i64 0, .int .i64 0, .slice none 0 0, .slice none 0 0, .int .i64 0, .int .i64 0, .slice none 0 0, .int .i64 0, .int .i64 0, .slice none 0 0, .slice none 0 0, .slice none 0 0, .int .i64 0]] rfl (by kernel_rfl) (by kernel_rfl) (by kernel_rfl)
      (OpenSpec.preRow_of_cond 8 hx (by kernel_rfl) (fun k hk => by cases hk) (by kernel_rfl) (laid_met os))) ?_
  intro W base args ds gs before hval hW _ _ hsz hL _ _
  exact contract H enc W base args ds gs before hval hW hsz hL

set_option maxRecDepth 100000 in
theorem said : Rows.TapeAppendsSaid :=
  OpenClaim.holds_of_cond 4 Try.f4 rfl rfl rfl rfl rfl rfl rfl ⟨rfl, rfl, rfl, rfl, rfl⟩ rfl rfl rfl rfl rfl (by kernel_rfl) Try.func4 (by kernel_rfl)
    (of_decide_eq_true (by kernel_rfl)) (by unfold Func.isWrapper; first | (rw [if_pos (by decide +kernel)]; kernel_rfl) | (rw [if_neg (by decide +kernel)]; exact ⟨rfl, rfl⟩))
    (fun os started H enc _ F => by rw [OpenClaim.pre_eq_preRow]; exact lifted os started H enc F)

end Go.Proofs.Ytchmfbhdnhaleaa.tapeAppends
namespace Go.Proofs.Ytchmfbhdnhaleaa
set_option maxRecDepth 100000 in
theorem tapeAppends_holds : Rows.TapeAppendsSaid := tapeAppends.said
#print axioms tapeAppends_holds
end Go.Proofs.Ytchmfbhdnhaleaa
