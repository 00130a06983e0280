/- The law sheaveslaw.WireEncodes answers true for every argument, and each argument reads behind the call as it read before: no condition but the form's own reach. -/
import Derived.Test.YtdddimkankdmdaaPK
import Derived.Laws.Rows
import Derived.Test.YtdddimkankdmdaaWireEncodesM6
import Derived.Test.YtdddimkankdmdaaWireEncodesM24
import Derived.Test.YtdddimkankdmdaaWireEncodesM42
import Derived.Test.YtdddimkankdmdaaWireEncodesM48
import Derived.Test.YtdddimkankdmdaaRows
import Derived.Test.YtdddimkankdmdaaWireEncodesM30
import Derived.WalkKit
import Derived.ProofKit
import Derived.OpenShut
import Derived.Deep.DeepHandedRow
import Derived.SevenTiedAt
import Derived.Below
namespace Go.Proofs.Ytdddimkankdmdaa
open Go.RowKit

set_option maxRecDepth 100000 in
theorem wpList_load_row_w {ops : Array Oper} {rest : List Oper} {o : Oper} {a : Act} {w : World} {Q : Exit → Act → World → Prop} (hw : Region.wanted o (yielded ops a.tmps) = true) (ty : TypeId) (x : Operand) (ho : o.op = .load ty x)
    (g : Nat) (hx : a.eval x = .pointer (some ⟨g, 0, none⟩)) (t : TypeId) (cs : Array Value) (fr : Nat × Nat) (d : TypeDesc) (hg : w.heap[g]? = some (.cells cs t fr))
    (hu : Try.prog.underlying ty = some d) (hd : (match d with | .struct _ | .array _ _ => true | _ => false) = true) (hi : (Try.prog.info? ty).map (·.size) = some cs.size)
    (h : wpList Try.prog ops Q rest (a.put o.dst (.agg cs)) w) : wpList Try.prog ops Q (o :: rest) a w := by
  refine wpList_step fun K hK => ?_
  rw [if_pos hw]
  exact wp_load_row ty x ho g hx t cs fr d hg hu (by cases d <;> first | exact hd | rfl) hi (hK _ _ h)
end Go.Proofs.Ytdddimkankdmdaa

namespace Go.Proofs.Ytdddimkankdmdaa
open Go.RowKit

set_option maxRecDepth 100000 in
theorem flatB_sameM {xl bl : List Part} (h : Same xl bl) : flatB xl = flatB bl := by
  have e : ∀ l : List Part, flatB l = (l.map (·.bs)).flatten := by
    intro l
    induction l with
    | nil => rfl
    | cons p l ih => simp [flatB, ih]
  rw [e, e, h]
set_option maxRecDepth 100000 in
theorem digsB_sameM {xl bl : List Part} (h : Same xl bl) : digsB xl = digsB bl := by rw [digsB, digsB, h.length, flatB_sameM h]
set_option maxRecDepth 100000 in
theorem headB_sameM {au rd : Int} {xl bl yl pl : List Part} (h1 : Same xl bl) (h2 : Same yl pl) : headB au rd xl yl = headB au rd bl pl := by rw [headB, headB, digsB_sameM h1, digsB_sameM h2]
set_option maxRecDepth 100000 in
theorem moved_enc (m : Msg) (xa ya za ua va qa ra : Option Addr) (xc yc zc uc vc qc rc : Nat) (R : Int) (ss : List ByteArray) (yl zl xl ql bl pl cbl cpl : List Part) (ds vl : List Int) (h1 : Same yl bl) (h2 : Same zl pl) (h3 : Same xl cbl) (h4 : Same ql cpl) :
    encB (moved m xa ya za ua va qa ra xc yc zc uc vc qc rc) R ss yl zl xl ql ds vl = encB m R ss bl pl cbl cpl ds vl := by
  rw [encB, encB, msgB, msgB, bodyB, bodyB, certB, certB, headB_sameM h1 h2, headB_sameM h3 h4]
  rfl
set_option maxRecDepth 100000 in
theorem encB_le {m : Msg} {ss : List ByteArray} {bl pl cbl cpl : List Part} {ds vl : List Int} (hn : m.sdn = ds.length) : (encB m (checkF m (carriedF m ss bl pl cbl cpl vl)) ss bl pl cbl cpl ds vl).length ≤ 400 := by
  unfold encB
  split
  · rename_i h
    have := bodyB_le hn (checkF_ok h).2.2.1
    simp [msgB]; omega
  · simp
set_option maxRecDepth 100000 in
set_option maxHeartbeats 2000000 in
theorem wireEncodes_walk (m : Msg) (ss : List ByteArray) (bl pl cbl cpl : List Part) (ds vl : List Int) (w : World) (H : MsgIn w m ss bl pl cbl cpl ds vl) :
    Calls Try.prog 3 #[.agg #[.int .i64 m.fr, .int .i64 m.tt, .int .i64 m.ki, .int .i64 m.bau, .int .i64 m.bnu, .slice m.bta m.btn m.btc, .int .i64 m.hau, .int .i64 m.hrd, .slice m.hba m.hbn m.hbc, .slice m.hpa m.hpn m.hpc, .int .i64 m.sau, .int .i64 m.srd, .slice m.sda m.sdn m.sdc, .int .i64 m.cau, .int .i64 m.crd, .slice m.cba m.cbn m.cbc, .slice m.cpa m.cpn m.cpc, .slice m.cva m.cvn m.cvc, .int .i64 m.ro]] w fun e w' => e = .returned (.bool true) ∧ Below w.heap.size w w' := by
  have hA : Below w.heap.size w (w.alloc (.cells #[.int .i64 m.fr, .int .i64 m.tt, .int .i64 m.ki, .int .i64 m.bau, .int .i64 m.bnu, .slice m.bta m.btn m.btc, .int .i64 m.hau, .int .i64 m.hrd, .slice m.hba m.hbn m.hbc, .slice m.hpa m.hpn m.hpc, .int .i64 m.sau, .int .i64 m.srd, .slice m.sda m.sdn m.sdc, .int .i64 m.cau, .int .i64 m.crd, .slice m.cba m.cbn m.cbc, .slice m.cpa m.cpn m.cpc, .slice m.cva m.cvn m.cvc, .int .i64 m.ro] 35)) := (Below.refl _ _).alloc (Nat.le_refl _) _
  have q0 := heap_alloc_new w (.cells #[.int .i64 m.fr, .int .i64 m.tt, .int .i64 m.ki, .int .i64 m.bau, .int .i64 m.bnu, .slice m.bta m.btn m.btc, .int .i64 m.hau, .int .i64 m.hrd, .slice m.hba m.hbn m.hbc, .slice m.hpa m.hpn m.hpc, .int .i64 m.sau, .int .i64 m.srd, .slice m.sda m.sdn m.sdc, .int .i64 m.cau, .int .i64 m.crd, .slice m.cba m.cbn m.cbc, .slice m.cpa m.cpn m.cpc, .slice m.cva m.cvn m.cvc, .int .i64 m.ro] 35)
  go_enter Try.func3, Try.ntmps3
  go_wp2_with (refine wpList_load_row rfl 35 _ rfl w.heap.size rfl 35 #[.int .i64 m.fr, .int .i64 m.tt, .int .i64 m.ki, .int .i64 m.bau, .int .i64 m.bnu, .slice m.bta m.btn m.btc, .int .i64 m.hau, .int .i64 m.hrd, .slice m.hba m.hbn m.hbc, .slice m.hpa m.hpn m.hpc, .int .i64 m.sau, .int .i64 m.srd, .slice m.sda m.sdn m.sdc, .int .i64 m.cau, .int .i64 m.crd, .slice m.cba m.cbn m.cbc, .slice m.cpa m.cpn m.cpc, .slice m.cva m.cvn m.cvc, .int .i64 m.ro] (0, 0) _ q0 Try.underlying35 rfl sMsg' ?_)
  generalize w.alloc (.cells #[.int .i64 m.fr, .int .i64 m.tt, .int .i64 m.ki, .int .i64 m.bau, .int .i64 m.bnu, .slice m.bta m.btn m.btc, .int .i64 m.hau, .int .i64 m.hrd, .slice m.hba m.hbn m.hbc, .slice m.hpa m.hpn m.hpc, .int .i64 m.sau, .int .i64 m.srd, .slice m.sda m.sdn m.sdc, .int .i64 m.cau, .int .i64 m.crd, .slice m.cba m.cbn m.cbc, .slice m.cpa m.cpn m.cpc, .slice m.cva m.cvn m.cvc, .int .i64 m.ro] 35) = W0 at hA q0 ⊢
  refine (messages_any m ss bl pl cbl cpl ds vl W0 (H.below hA)).mono ?_
  rintro e w1 ⟨xa, xc, ya, yc, yl, za, zc, zl, ua, uc, va, vc, xl, qa, qc, ql, ra, rc, he, hS1, hS2, hS3, hS4, h1, h2, h3, h4, h5, h6, h7, hb1⟩
  rw [← H.e1, ← H.e2, ← H.e3, ← H.e4, ← H.e5, ← H.e6, ← H.e7] at he
  subst he
  dsimp only
  have hat := H.toAt
  have q1 := (hb1.block _ (lt_of_heap q0)).trans q0
  have hB1 := hA.trans (hb1.mono hA.size)
  have qz := heap_alloc_new w1 (.cells #[.int .i64 0, .int .i64 0, .int .i64 0, .int .i64 0, .int .i64 0, .slice none 0 0, .int .i64 0, .int .i64 0, .slice none 0 0, .slice none 0 0, .int .i64 0, .int .i64 0, .slice none 0 0, .int .i64 0, .int .i64 0, .slice none 0 0, .slice none 0 0, .slice none 0 0, .int .i64 0] 35)
  have hA1 : Below w1.heap.size w1 ((w1.alloc (.cells #[.int .i64 0, .int .i64 0, .int .i64 0, .int .i64 0, .int .i64 0, .slice none 0 0, .int .i64 0, .int .i64 0, .slice none 0 0, .slice none 0 0, .int .i64 0, .int .i64 0, .slice none 0 0, .int .i64 0, .int .i64 0, .slice none 0 0, .slice none 0 0, .slice none 0 0, .int .i64 0] 35)).setRow w1.heap.size #[.int .i64 m.fr, .int .i64 m.tt, .int .i64 m.ki, .int .i64 m.bau, .int .i64 m.bnu, .slice xa m.btn xc, .int .i64 m.hau, .int .i64 m.hrd, .slice ya m.hbn yc, .slice za m.hpn zc, .int .i64 m.sau, .int .i64 m.srd, .slice ua m.sdn uc, .int .i64 m.cau, .int .i64 m.crd, .slice va m.cbn vc, .slice qa m.cpn qc, .slice ra m.cvn rc, .int .i64 m.ro]) := laid_row w1 #[.int .i64 0, .int .i64 0, .int .i64 0, .int .i64 0, .int .i64 0, .slice none 0 0, .int .i64 0, .int .i64 0, .slice none 0 0, .slice none 0 0, .int .i64 0, .int .i64 0, .slice none 0 0, .int .i64 0, .int .i64 0, .slice none 0 0, .slice none 0 0, .slice none 0 0, .int .i64 0] #[.int .i64 m.fr, .int .i64 m.tt, .int .i64 m.ki, .int .i64 m.bau, .int .i64 m.bnu, .slice xa m.btn xc, .int .i64 m.hau, .int .i64 m.hrd, .slice ya m.hbn yc, .slice za m.hpn zc, .int .i64 m.sau, .int .i64 m.srd, .slice ua m.sdn uc, .int .i64 m.cau, .int .i64 m.crd, .slice va m.cbn vc, .slice qa m.cpn qc, .slice ra m.cvn rc, .int .i64 m.ro] 35
  have qN := setRow_heap _ _ _ #[.int .i64 m.fr, .int .i64 m.tt, .int .i64 m.ki, .int .i64 m.bau, .int .i64 m.bnu, .slice xa m.btn xc, .int .i64 m.hau, .int .i64 m.hrd, .slice ya m.hbn yc, .slice za m.hpn zc, .int .i64 m.sau, .int .i64 m.srd, .slice ua m.sdn uc, .int .i64 m.cau, .int .i64 m.crd, .slice va m.cbn vc, .slice qa m.cpn qc, .slice ra m.cvn rc, .int .i64 m.ro] _ _ qz
  go_wp2_with (first | refine wpList_store_row rfl 35 _ _ rfl w1.heap.size #[.int .i64 m.fr, .int .i64 m.tt, .int .i64 m.ki, .int .i64 m.bau, .int .i64 m.bnu, .slice xa m.btn xc, .int .i64 m.hau, .int .i64 m.hrd, .slice ya m.hbn yc, .slice za m.hpn zc, .int .i64 m.sau, .int .i64 m.srd, .slice ua m.sdn uc, .int .i64 m.cau, .int .i64 m.crd, .slice va m.cbn vc, .slice qa m.cpn qc, .slice ra m.cvn rc, .int .i64 m.ro] rfl rfl 35 _ qz sMsg' rfl (by simp [Value.oneCell']) ?_ | refine wpList_load_row rfl 35 _ rfl w1.heap.size rfl 35 #[.int .i64 m.fr, .int .i64 m.tt, .int .i64 m.ki, .int .i64 m.bau, .int .i64 m.bnu, .slice xa m.btn xc, .int .i64 m.hau, .int .i64 m.hrd, .slice ya m.hbn yc, .slice za m.hpn zc, .int .i64 m.sau, .int .i64 m.srd, .slice ua m.sdn uc, .int .i64 m.cau, .int .i64 m.crd, .slice va m.cbn vc, .slice qa m.cpn qc, .slice ra m.cvn rc, .int .i64 m.ro] (0, 0) _ qN Try.underlying35 rfl sMsg' ?_)
  have q1A := (hA1.block _ (lt_of_heap q1)).trans q1
  generalize (w1.alloc (.cells #[.int .i64 0, .int .i64 0, .int .i64 0, .int .i64 0, .int .i64 0, .slice none 0 0, .int .i64 0, .int .i64 0, .slice none 0 0, .slice none 0 0, .int .i64 0, .int .i64 0, .slice none 0 0, .int .i64 0, .int .i64 0, .slice none 0 0, .slice none 0 0, .slice none 0 0, .int .i64 0] 35)).setRow w1.heap.size #[.int .i64 m.fr, .int .i64 m.tt, .int .i64 m.ki, .int .i64 m.bau, .int .i64 m.bnu, .slice xa m.btn xc, .int .i64 m.hau, .int .i64 m.hrd, .slice ya m.hbn yc, .slice za m.hpn zc, .int .i64 m.sau, .int .i64 m.srd, .slice ua m.sdn uc, .int .i64 m.cau, .int .i64 m.crd, .slice va m.cbn vc, .slice qa m.cpn qc, .slice ra m.cvn rc, .int .i64 m.ro] = W1 at hA1 qN q1A ⊢
  have hB1A := hB1.trans (hA1.mono hB1.size)
  have hatC : MsgAt w1 (moved m xa ya za ua va qa ra xc yc zc uc vc qc rc) ss yl zl xl ql vl := ⟨H.e1, by rw [hS1.length]; exact H.e2, by rw [hS2.length]; exact H.e3, by rw [hS3.length]; exact H.e4, by rw [hS4.length]; exact H.e5, H.e6, hat.s1, hat.s6, hat.s7, h1, h2, h3, h5, h6, h7⟩
  have hE := encode_any (moved m xa ya za ua va qa ra xc yc zc uc vc qc rc) ss yl zl xl ql ds vl W1 (hatC.below hA1) (h4.below hA1) H.e7
  rw [moved_check, moved_carried _ _ _ _ _ _ _ _ _ _ _ _ _ _ _ _ _ _ _ _ _ _ _ _ _ hS1 hS2 hS3 hS4, moved_enc _ _ _ _ _ _ _ _ _ _ _ _ _ _ _ _ _ _ _ _ _ _ _ _ _ _ _ hS1 hS2 hS3 hS4] at hE
  have hLe := encB_le (ss := ss) (bl := bl) (pl := pl) (cbl := cbl) (cpl := cpl) (vl := vl) H.e7
  have HM : Hid (∀ W : World, Below w.heap.size w W → Calls Try.prog 6 #[.agg #[.int .i64 m.fr, .int .i64 m.tt, .int .i64 m.ki, .int .i64 m.bau, .int .i64 m.bnu, .slice m.bta m.btn m.btc, .int .i64 m.hau, .int .i64 m.hrd, .slice m.hba m.hbn m.hbc, .slice m.hpa m.hpn m.hpc, .int .i64 m.sau, .int .i64 m.srd, .slice m.sda m.sdn m.sdc, .int .i64 m.cau, .int .i64 m.crd, .slice m.cba m.cbn m.cbc, .slice m.cpa m.cpn m.cpc, .slice m.cva m.cvn m.cvc, .int .i64 m.ro]] W fun e w' => ∃ v, e = .returned (.tuple #[v, .int .i64 (checkF m (carriedF m ss bl pl cbl cpl vl))]) ∧ w'.ownsRow W.heap.size 5 1 v (encB m (checkF m (carriedF m ss bl pl cbl cpl vl)) ss bl pl cbl cpl ds vl).length (ub (encB m (checkF m (carriedF m ss bl pl cbl cpl vl)) ss bl pl cbl cpl ds vl)) ∧ Below W.heap.size W w') := by
    show ∀ _, _
    intro W hW
    exact messageBytes_any m ss bl pl cbl cpl ds vl W (hat.below hW) (H.dig.below hW) H.e7
  have HS : Hid (∀ W : World, Below w1.heap.size w1 W → Calls Try.prog 7 #[.agg #[.int .i64 m.fr, .int .i64 m.tt, .int .i64 m.ki, .int .i64 m.bau, .int .i64 m.bnu, .slice xa m.btn xc, .int .i64 m.hau, .int .i64 m.hrd, .slice ya m.hbn yc, .slice za m.hpn zc, .int .i64 m.sau, .int .i64 m.srd, .slice ua m.sdn uc, .int .i64 m.cau, .int .i64 m.crd, .slice va m.cbn vc, .slice qa m.cpn qc, .slice ra m.cvn rc, .int .i64 m.ro], .agg #[.int .i64 m.fr, .int .i64 m.tt, .int .i64 m.ki, .int .i64 m.bau, .int .i64 m.bnu, .slice m.bta m.btn m.btc, .int .i64 m.hau, .int .i64 m.hrd, .slice m.hba m.hbn m.hbc, .slice m.hpa m.hpn m.hpc, .int .i64 m.sau, .int .i64 m.srd, .slice m.sda m.sdn m.sdc, .int .i64 m.cau, .int .i64 m.crd, .slice m.cba m.cbn m.cbc, .slice m.cpa m.cpn m.cpc, .slice m.cva m.cvn m.cvc, .int .i64 m.ro]] W fun e w' => e = .returned (.bool true) ∧ Below W.heap.size W w') := by
    show ∀ _, _
    intro W hW
    have hb := hB1.trans (hW.mono hB1.size)
    have h := sameMsg_eq m.fr m.tt m.ki m.bau m.bnu m.hau m.hrd m.sau m.srd m.cau m.crd m.ro xa ya za ua va qa ra m.bta m.hba m.hpa m.sda m.cba m.cpa m.cva xc yc zc uc vc qc rc m.btc m.hbc m.hpc m.sdc m.cbc m.cpc m.cvc ss yl zl xl ql bl pl cbl cpl ds vl W hS1 hS2 hS3 hS4 hat.s1 hat.s6 (h1.below hW) (h2.below hW) (h3.below hW) (h4.below hW) (h5.below hW) (h6.below hW) (h7.below hW) (hat.txs.below hb) (hat.bat.below hb) (hat.par.below hb) (H.dig.below hb) (hat.cbat.below hb) (hat.cpar.below hb) (hat.vot.below hb)
    rw [← H.e1, ← H.e2, ← H.e3, ← H.e4, ← H.e5, ← H.e6, ← H.e7] at h
    exact h
  generalize checkF m (carriedF m ss bl pl cbl cpl vl) = R at hE hLe HM
  generalize encB m R ss bl pl cbl cpl ds vl = X at hE hLe HM
  clear hat hatC H hS1 hS2 hS3 hS4 h1 h2 h3 h4 h5 h6 h7 qz q1 q0
  refine hE.mono ?_
  rintro e w2 ⟨v2, he, ho2, hb2⟩
  subst he
  dsimp only
  clear hE
  have hB2 := hB1A.trans (hb2.mono hB1A.size)
  have q2 := (hb2.block _ (lt_of_heap q1A)).trans q1A
  have qN2 := (hb2.block _ (lt_of_heap qN)).trans qN
  have hA2 := hA1.trans (hb2.mono hA1.size)
  go_wp2_with (refine wpList_load_row rfl 35 _ rfl w.heap.size rfl 35 #[.int .i64 m.fr, .int .i64 m.tt, .int .i64 m.ki, .int .i64 m.bau, .int .i64 m.bnu, .slice m.bta m.btn m.btc, .int .i64 m.hau, .int .i64 m.hrd, .slice m.hba m.hbn m.hbc, .slice m.hpa m.hpn m.hpc, .int .i64 m.sau, .int .i64 m.srd, .slice m.sda m.sdn m.sdc, .int .i64 m.cau, .int .i64 m.crd, .slice m.cba m.cbn m.cbc, .slice m.cpa m.cpn m.cpc, .slice m.cva m.cvn m.cvc, .int .i64 m.ro] (0, 0) _ q2 Try.underlying35 rfl sMsg' ?_)
  refine (HM.out w2 hB2).mono ?_
  rintro e w3 ⟨v3, he, ho3, hb3⟩
  subst he
  dsimp only
  have hB3 := hB2.trans (hb3.mono hB2.size)
  have hA3 := hA2.trans (hb3.mono hA2.size)
  have q3 := (hb3.block _ (lt_of_heap q2)).trans q2
  have qN3 := (hb3.block _ (lt_of_heap qN2)).trans qN2
  obtain ⟨ea, ec, hv, -, hs2⟩ := owns_form ho2
  subst hv
  obtain ⟨fa, fc, hv, -, hs3⟩ := owns_form ho3
  subst hv
  have t1 := run_text w3 ea _ ec X rfl (hs2.below hb3)
  have t2 := run_text w3 fa _ fc X rfl hs3
  clear ho2 ho3 hs2 hs3 HM qN q1A q2 qN2 hLe
  generalize X.length = nX at *
  generalize bstr X = TX at *
  have hbe : (R == R) = true := by simp
  go_wp2_with (first | refine wpList_load_row_w rfl 35 _ rfl w1.heap.size rfl 35 #[.int .i64 m.fr, .int .i64 m.tt, .int .i64 m.ki, .int .i64 m.bau, .int .i64 m.bnu, .slice xa m.btn xc, .int .i64 m.hau, .int .i64 m.hrd, .slice ya m.hbn yc, .slice za m.hpn zc, .int .i64 m.sau, .int .i64 m.srd, .slice ua m.sdn uc, .int .i64 m.cau, .int .i64 m.crd, .slice va m.cbn vc, .slice qa m.cpn qc, .slice ra m.cvn rc, .int .i64 m.ro] (0, 0) _ qN3 Try.underlying35 rfl sMsg' ?_ | refine wpList_load_row_w rfl 35 _ rfl w.heap.size rfl 35 #[.int .i64 m.fr, .int .i64 m.tt, .int .i64 m.ki, .int .i64 m.bau, .int .i64 m.bnu, .slice m.bta m.btn m.btc, .int .i64 m.hau, .int .i64 m.hrd, .slice m.hba m.hbn m.hbc, .slice m.hpa m.hpn m.hpc, .int .i64 m.sau, .int .i64 m.srd, .slice m.sda m.sdn m.sdc, .int .i64 m.cau, .int .i64 m.crd, .slice m.cba m.cbn m.cbc, .slice m.cpa m.cpn m.cpc, .slice m.cva m.cvn m.cvc, .int .i64 m.ro] (0, 0) _ q3 Try.underlying35 rfl sMsg' ?_)
  refine (HS.out w3 hA3).mono ?_
  rintro e w4 ⟨he, hb4⟩
  subst he
  dsimp only
  go_wp2_with fail
  go_ret
  exact ⟨rfl, hB3.trans (hb4.mono hB3.size)⟩
end Go.Proofs.Ytdddimkankdmdaa

namespace Go.Proofs.Ytdddimkankdmdaa.wireEncodes
open Go.ChangeShapes Go.WideShapes Go.ChangeAt Go.RowKit

set_option maxRecDepth 100000 in
/-- What the walk gives, for every argument and every world. -/
theorem contract (H : Type) (enc : TypeId × Value → H) (W : World) (base : Nat) (args : Array Value) (ds gs : List (DataW H)) (before : List MemPlace)
    (hval : ∀ (j : Nat) t v, Try.f3.params[j]? = some t → args[j]? = some v → Value.okWide Try.prog W .any base t v)
    (hW : DataW.Whole enc Try.prog Try.f3.params.toList Rows.wireEncodesSpec.vars false W args.toList ds gs before) (hsz : (DataW.weightsEach Try.prog (Try.f3.params.toList ++ (OpenSpec.ofChange Rows.wireEncodesSpec).bare.plain.varTypes Try.prog) (ds ++ gs)).all (· ≤ reachBytes) = true) (_hL : laidMetH Try.prog Rows.wireEncodesRow.laid W) :
    Calls Try.prog 3 args W fun e W' => ∃ v, e = .returned v ∧ Rows.wireEncodesSpec.post enc Try.prog Try.f3 false true false false W args v W' := by
  have hW' := hW
  obtain ⟨p, q, hA0, hV, rfl, hfz, hnd⟩ := hW
  have hA : DataW.TrodAll enc Try.prog W 0 (fun _ => true) true Try.f3.params.toList args.toList ds p := hA0
  rw [Try.params3] at hA hval hsz
  obtain ⟨v0, vs0, d0, ds0, p0, q0, hargs, rfl, rfl, h0, r0⟩ := trodAll_cons hA
  obtain ⟨rfl, rfl, rfl⟩ := trodAll_nil r0
  obtain rfl : args = #[v0] := by cases args; simp_all
  obtain ⟨rfl, rfl⟩ := trodVars_none hV
  have k0 := h0
  have lt0 : ∀ x ∈ p0, x.block < W.heap.size := by obtain ⟨m, hm⟩ := k0; exact DataW.trod_lt m _ _ _ hm
  obtain ⟨m0, ss0, bl0, pl0, cbl0, cpl0, ds0, vl0, rfl, q0_0⟩ := open_message (hval 0 35 v0 rfl rfl) h0 (fit_each hsz (j := 0) rfl rfl)
  clear hA0
  refine (wireEncodes_walk m0 ss0 bl0 pl0 cbl0 cpl0 ds0 vl0 W q0_0).mono fun e W' ⟨he, bel⟩ => ?_
  subst he
  exact ⟨_, rfl, _, _, _, [], _, [], hW', trodAll_mk1 (shut_bool Try.underlying4 _), (trodAll_cons_mk (Below.trod laidOut (by kernel_rfl) (of_decide_eq_true (by kernel_rfl)) k0 bel lt0) trodAll_mk0), rfl, bel.frame _, fun h => by cases h⟩

set_option maxRecDepth 100000 in
theorem laid_met (os : Os) : laidMet Try.prog Rows.wireEncodesRow.laid ((World.holding Try.prog os ⟨#[], #[], []⟩).forCall (fun _ _ => 0) ⟨#[], #[.agg #[.int .i64 0, .int .i64 0, .int .i64 0, .int .i64 0, .int .i64 0, .slice none 0 0, .int .i64 0, .int .i64 0, .slice none 0 0, .slice none 0 0, .int .i64 0, .int .i64 0, .slice none 0 0, .int .i64 0, .int .i64 0, .slice none 0 0, .slice none 0 0, .slice none 0 0, .int .i64 0]], []⟩).memory :=
  laidMet_of_run' 8 (by kernel_rfl) (by kernel_rfl)
set_option maxRecDepth 100000 in
theorem reads (os : Os) {H : Type} (enc : TypeId × Value → H) : ∃ places, DataW.whole enc Try.prog ((World.holding Try.prog os ⟨#[], #[], []⟩).forCall (fun _ _ => 0) ⟨#[], #[.agg #[.int .i64 0, .int .i64 0, .int .i64 0, .int .i64 0, .int .i64 0, .slice none 0 0, .int .i64 0, .int .i64 0, .slice none 0 0, .slice none 0 0, .int .i64 0, .int .i64 0, .slice none 0 0, .int .i64 0, .int .i64 0, .slice none 0 0, .slice none 0 0, .slice none 0 0, .int .i64 0]], []⟩).memory Try.f3.params.toList Rows.wireEncodesSpec.vars false (#[.agg #[.int .i64 0, .int .i64 0, .int .i64 0, .int .i64 0, .int .i64 0, .slice none 0 0, .int .i64 0, .int .i64 0, .slice none 0 0, .slice none 0 0, .int .i64 0, .int .i64 0, .slice none 0 0, .int .i64 0, .int .i64 0, .slice none 0 0, .slice none 0 0, .slice none 0 0, .int .i64 0]] : Array Value).toList 8 = some ([.agg [.lit (.int .i64 0), .lit (.int .i64 0), .lit (.int .i64 0), .agg [.lit (.int .i64 0), .lit (.int .i64 0), .nil], .agg [.lit (.int .i64 0), .lit (.int .i64 0), .nil, .nil], .agg [.lit (.int .i64 0), .lit (.int .i64 0), .nil], .agg [.agg [.lit (.int .i64 0), .lit (.int .i64 0), .nil, .nil], .nil], .lit (.int .i64 0)]], [], places) :=
  ⟨[], by kernel_rfl⟩

set_option maxRecDepth 100000 in
theorem lifted (os : Os) (started : os.Started) (H : Type) (enc : TypeId × Value → H) (F : Stop.Interp) :
    ReturnsInHanded {} Try.checked os 3 .any ((OpenSpec.ofChange Rows.wireEncodesSpec).preRow enc Try.prog Try.f3 Rows.wireEncodesRow.domain false Rows.wireEncodesRow.laid) (((OpenSpec.ofChange Rows.wireEncodesSpec).at F).post enc Try.prog Try.f3 false true false false) := by
  obtain ⟨places, hx⟩ := reads os enc
  refine returnsInHanded_of_row (C := Try.checked) (s := OpenSpec.ofChange Rows.wireEncodesSpec) own started (by kernel_rfl) Try.func3
    (witness_row_at (enc := enc) (C := Try.checked) false (World.holding Try.prog os ⟨#[], #[], []⟩) #[.agg #[.int .i64 0, .int .i64 0, .int .i64 0, .int .i64 0, .int .i64 0, .slice none 0 0, .int .i64 0, .int .i64 0, .slice none 0 0, .slice none 0 0, .int .i64 0, .int .i64 0, .slice none 0 0, .int .i64 0, .int .i64 0, .slice none 0 0, .slice none 0 0, .slice none 0 0, .int .i64 0]] rfl (by kernel_rfl) (by kernel_rfl) (by kernel_rfl)
      (OpenSpec.preRow_of_cond 8 hx (by kernel_rfl) (fun k hk => by cases hk) (by kernel_rfl) (laid_met os))) ?_
  intro W base args ds gs before hval hW _ _ hsz hL _ _
  exact contract H enc W base args ds gs before hval hW hsz hL

set_option maxRecDepth 100000 in
theorem said : Rows.WireEncodesSaid :=
  OpenClaim.holds_of_cond 3 Try.f3 rfl rfl rfl rfl rfl rfl rfl ⟨rfl, rfl, rfl, rfl, rfl⟩ rfl rfl rfl rfl rfl (by kernel_rfl) Try.func3 (by kernel_rfl)
    (of_decide_eq_true (by kernel_rfl)) (by unfold Func.isWrapper; first | (rw [if_pos (by decide +kernel)]; kernel_rfl) | (rw [if_neg (by decide +kernel)]; exact ⟨rfl, rfl⟩))
    (fun os started H enc _ F => by rw [OpenClaim.pre_eq_preRow]; exact lifted os started H enc F)

end Go.Proofs.Ytdddimkankdmdaa.wireEncodes
namespace Go.Proofs.Ytdddimkankdmdaa
set_option maxRecDepth 100000 in
theorem wireEncodes_holds : Rows.WireEncodesSaid := wireEncodes.said
#print axioms wireEncodes_holds
end Go.Proofs.Ytdddimkankdmdaa
