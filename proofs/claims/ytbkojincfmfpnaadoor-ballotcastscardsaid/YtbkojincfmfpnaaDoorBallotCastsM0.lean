/- wire.CheckSlot and the document's SlotFault: what they answer, for every slot: the same. -/
import Derived.Test.YtbkojincfmfpnaaDoorGrew
import Derived.Shelf.Abstract
import Derived.Deep.RegionHeld
import Derived.Test.YtbkojincfmfpnaaDoorSlotsL
import Derived.Test.YtbkojincfmfpnaaDoorSx
import Derived.Deep.RegionHeld3
import Derived.Test.YtbkojincfmfpnaaDoorCastF
import Derived.Test.YtbkojincfmfpnaaDoorCloneS
import Derived.Test.YtbkojincfmfpnaaDoorSlotOf
import Derived.Test.YtbkojincfmfpnaaDoorPK
import Derived.Test.YtbkojincfmfpnaaDoorCSlot
namespace Go.Proofs.YtbkojincfmfpnaaDoor
open Go.RowKit

set_option maxRecDepth 100000 in
theorem step_calls {ops : Array Oper} {o : Oper} {a : Act} {w : World} {K : Act → World → Prop} {Q : Exit → Act → World → Prop} {E : Prop}
    (hg : o.guard = none) (f : FuncId) (xs : List Operand) (ats : Array TypeId) (ho : o.op = .call { callee := .value (.func f), args := xs.toArray, argTypes := ats })
    (vs : List Value) (hv : xs.map a.eval = vs) (hent : ∀ args w, (callFunc f args).run Tryd.prog w = .ok (.enter f args) w)
    (R : Value → World → Prop) (hc : Calls Tryd.prog f vs.toArray w fun e w' => ∃ v, e = .returned v ∧ R v w') (hK : ∀ v w', R v w' → K (a.put o.dst v) w') :
    if Region.wanted o (yielded ops a.tmps) = true then Oper.wp Tryd.prog o a w K Q else E := by
  have hw : Region.wanted o (yielded ops a.tmps) = true := by simp [Region.wanted, hg]
  rw [if_pos hw]
  obtain ⟨dst, op, ty, pos, after, guard⟩ := o
  simp only at ho
  subst ho
  unfold Oper.wp
  rw [execOp_call_go, List.map_toArray, hv, hent, Oper.upon_enter, show (#[] ++ vs.toArray ++ #[] : Array Value) = vs.toArray by simp]
  refine hc.mono ?_
  rintro e w' ⟨v, rfl, h⟩
  exact hK v w' h
set_option maxRecDepth 100000 in
/-- Take an operation first, its slot written out. -/
theorem take_dst {P : Program} {ops : Array Oper} {Q : Exit → Act → World → Prop} {md : Region.Mode} {S : World → Prop} {i d : Nat} {oi : Oper} {v : Value} {fuel : Nat} {listed : Array Bool} {a : Act} {w : World} (hi : ops[i]? = some oi) (hd : oi.dst = some d)
    (hs : Region.noSelect ops = true) (hf : Region.free md ops listed i = true) (hr : (Region.ready md ops listed).contains i = true)
    (hQ : ∀ c a w, Q (.panic c) (a.put (some d) v) w → Q (.panic c) a w) (hy : YieldsIf P ops S oi v a) (hS : S w)
    (h : wpAnyH P md ops Q S fuel (listed.setIfInBounds i true) (a.put (some d) v) w) : wpAnyH P md ops Q S (fuel + 1) listed a w :=
  wpAnyH_take hi hs hf hr (by rw [hd]; exact hQ) hy hS (by rw [hd]; exact h)
set_option maxRecDepth 100000 in
/-- A call with a contract as the one operation that comes up, its slot written out. -/
theorem step_calls_dst {ops : Array Oper} {o : Oper} {a : Act} {w : World} {K : Act → World → Prop} {Q : Exit → Act → World → Prop} {E : Prop}
    (hg : o.guard = none) (d : Nat) (hd : o.dst = some d) (f : FuncId) (xs : List Operand) (ats : Array TypeId) (ho : o.op = .call { callee := .value (.func f), args := xs.toArray, argTypes := ats })
    (vs : List Value) (hv : xs.map a.eval = vs) (hent : ∀ args w, (callFunc f args).run Tryd.prog w = .ok (.enter f args) w)
    (R : Value → World → Prop) (hc : Calls Tryd.prog f vs.toArray w fun e w' => ∃ v, e = .returned v ∧ R v w') (hK : ∀ v w', R v w' → K (a.put (some d) v) w') :
    if Region.wanted o (yielded ops a.tmps) = true then Oper.wp Tryd.prog o a w K Q else E :=
  step_calls hg f xs ats ho vs hv hent R hc (by rw [hd]; exact hK)
set_option maxRecDepth 100000 in
/-- An append onto a row that the call owns, as one step of such a region, and where the new slice lies. -/
theorem step_append_at {ops : Array Oper} {o : Oper} {a : Act} {w : World} {K : Act → World → Prop} {Q : Exit → Act → World → Prop} {E : Prop}
    (hg : o.guard = none) (s x : Operand) (t : TypeId) (ho : o.op = .call { callee := .builtin .append, args := #[s, x], argTypes := #[t, t] })
    (base : Nat) (e : TypeId) (i : TypeInfo) (z : Value) (size bytes : Nat) (ht : Tryd.prog.underlying t = some (.slice e)) (hi : Tryd.prog.info? e = some i) (hz : i.zero = some z)
    (hsize : i.size = size) (hby : i.bytes = bytes) (hzs : z.cells.size = size) (hsz : 0 < size)
    (v : Value) (n : Nat) (xs : List Value) (hs : a.eval s = v) (hown : w.ownsRow base e size v n xs)
    (ad : Addr) (m c : Nat) (news : List Value) (hx : a.eval x = .slice (some ad) m c) (hl : news.length = m * size) (hnews : ∀ j u, news[j]? = some u → w.cell? (ad.add j) = some u) (h1 : ∀ u ∈ news, u.oneCell' = true)
    (h63 : n + m ≤ maxLen) (hbytes : (n + m) * bytes ≤ 140737488355328) (hbase : base ≤ w.heap.size)
    (hK : ∀ v' w', w'.ownsRow base e size v' (n + m) (xs ++ news) → Grew w v w' v' → K (a.put o.dst v') w') :
    if Region.wanted o (yielded ops a.tmps) = true then Oper.wp Tryd.prog o a w K Q else E := by
  have hw : Region.wanted o (yielded ops a.tmps) = true := by simp [Region.wanted, hg]
  rw [if_pos hw]
  obtain ⟨v', w', hr, h2, h3, _, h5⟩ := run_append_own_at (P := Tryd.prog) w base t o.type e i z size bytes ht hi hz hsize hby hzs hsz v n xs hown ad m c news hl hnews h1 h63 hbytes hbase
  unfold Oper.wp execOp
  simp only [ho, resolve, invoke, builtin, Sem.run_bind, Sem.run_pure, Result.andThen_ok, List.map_toArray, List.map_cons, List.map_nil, hs, hx, hr]
  exact hK v' w' h2 (Grew.of h3 h5)
end Go.Proofs.YtbkojincfmfpnaaDoor

namespace Go.Proofs.YtbkojincfmfpnaaDoor
open Go.RowKit

set_option maxRecDepth 100000 in
set_option maxHeartbeats 400000 in
theorem find1_any (s : Sl) (au rd : Int) (ga gr : Nat) (w : World) (ha : w.cell? ⟨ga, 0, none⟩ = some (.int .i64 au)) (hr : w.cell? ⟨gr, 0, none⟩ = some (.int .i64 rd)) :
    Calls Tryd.prog 87 #[.agg #[.int .i64 s.au, .int .i64 s.rd, .slice s.p.sa s.p.bs.length s.p.cap], .pointer (some ⟨ga, 0, none⟩), .pointer (some ⟨gr, 0, none⟩)] w fun e w' => e = .returned (.bool (decide (s.au = au ∧ s.rd = rd))) ∧ Below w.heap.size w w' := by
  have la := block_lt_of_cell ha
  have lr := block_lt_of_cell hr
  have na : ga ≠ w.heap.size := by simp at la; omega
  have nr : gr ≠ w.heap.size := by simp at lr; omega
  go_enter Tryd.func87, Tryd.ntmps87
  go_wp2_with fail
  all_goals (go_ret; exact ⟨by first | (simp_all; done) | (simp_all; rfl), (Below.refl _ _).alloc (Nat.le_refl _) _⟩)

set_option maxRecDepth 100000 in
set_option maxHeartbeats 1000000 in
theorem indexSlot_any (ls : List Sl) (sa : Option Addr) (k cap : Nat) (au rd : Int) (ga gr : Nat) (w : World) (hk : k ≤ ls.length) (hk2 : k ≤ 3000000000000000000) (hp : SlotsAt w sa ls) (ha : w.cell? ⟨ga, 0, none⟩ = some (.int .i64 au)) (hr : w.cell? ⟨gr, 0, none⟩ = some (.int .i64 rd)) :
    Calls Tryd.prog 88 #[.slice sa k cap, .func (.func 87) #[] #[.pointer (some ⟨ga, 0, none⟩), .pointer (some ⟨gr, 0, none⟩)]] w fun e w' => ∃ r : Int, e = .returned (.int .i64 r) ∧ First (vs ls) au rd k r ∧ Below w.heap.size w w' := by
  go_enter Tryd.func88, Tryd.ntmps88
  go_wp2_with fail
  go_loopw [8] (fun i wr => ∃ m : Nat, m ≤ k ∧ i = .int .i64 m ∧ (∀ j, j < m → hit (vs ls) au rd j = false) ∧ Below w.heap.size w wr) (fun i _ => k - (intOf i).toNat)
  case atStart => exact ⟨0, Nat.zero_le _, rfl, (fun j hj => by omega), Below.refl _ _⟩
  case round =>
    obtain ⟨m, hm, rfl, hno, hb⟩ := hrel
    by_cases hlt : m < k
    · have hmp : m < ls.length := by omega
      have hpw := hp.below hb
      obtain ⟨sb, so, rfl, hc⟩ : ∃ sb so, sa = some ⟨sb, so, none⟩ ∧ ∀ j (h : j < ls.length), wr.cell? ⟨sb, so + j * 3, none⟩ = some (.int .i64 (ls[j]).au) ∧ wr.cell? ⟨sb, so + j * 3 + 1, none⟩ = some (.int .i64 (ls[j]).rd) ∧ wr.cell? ⟨sb, so + j * 3 + 2, none⟩ = some (.slice (ls[j]).p.sa (ls[j]).p.bs.length (ls[j]).p.cap) := by
        rcases hpw.cells with h | h
        · rw [h] at hmp; simp at hmp
        · exact h
      obtain ⟨c0, c1, c2⟩ := hc m hmp
      have hg := hit_get ls au rd m hmp
      have haw := (hb.cell (p := ⟨ga, 0, none⟩) (block_lt_of_cell ha)).trans ha
      have hrw := (hb.cell (p := ⟨gr, 0, none⟩) (block_lt_of_cell hr)).trans hr
      have hltI : (m : Int) < k := by omega
      clear hc
      generalize ls[m] = s at *
      have hF : Hid (decide (s.au = au ∧ s.rd = rd) = true → First (vs ls) au rd k m) := by
        show _ → _
        intro h
        exact .inl ⟨m, hlt, rfl, by rw [hg]; exact h, hno⟩
      have hN : Hid (decide (s.au = au ∧ s.rd = rd) = false → ∀ j, j < m + 1 → hit (vs ls) au rd j = false) := by
        show _ → _
        intro h j hj
        rcases Nat.lt_or_ge j m with g | g
        · exact hno j g
        · obtain rfl : j = m := by omega
          rw [hg]; exact h
      clear hno hg
      go_wp2_with fail
      refine (find1_any s au rd ga gr wr haw hrw).mono ?_
      rintro e w1 ⟨he, hb1⟩
      subst he
      dsimp only
      have hB1 := hb.trans (hb1.mono hb.size)
      generalize decide (s.au = au ∧ s.rd = rd) = x at *
      cases x
      · have hn := hN.out rfl
        clear hF hN
        go_wp2_with fail
        go_roundw
        case rel => exact ⟨m + 1, by omega, by go_num, hn, hB1⟩
        case measure => simp [intOf]; omega
      · have hn := hF.out rfl
        clear hF hN
        go_wp2_with fail
        go_ret
        exact ⟨_, rfl, hn, hB1⟩
    · obtain rfl : m = k := by omega
      have hF : Hid (First (vs ls) au rd m (-1)) := .inr ⟨rfl, hno⟩
      clear hno
      go_wp2_with fail
      go_ret
      exact ⟨_, rfl, hF.out, hb⟩
set_option maxRecDepth 100000 in
set_option maxHeartbeats 400000 in
theorem find_any (ls : List Sl) (sa : Option Addr) (k cap : Nat) (au rd : Int) (w : World) (hk : k ≤ ls.length) (hk2 : k ≤ 3000000000000000000) (hp : SlotsAt w sa ls) :
    Calls Tryd.prog 60 #[.slice sa k cap, .int .i64 au, .int .i64 rd] w fun e w' => ∃ r : Int, e = .returned (.int .i64 r) ∧ First (vs ls) au rd k r ∧ Below w.heap.size w w' := by
  have hmf : ∀ (fn : Fn) (first cap : Array Value) (w : World), (Instr.makeFunc fn first cap).run Tryd.prog w = .ok (.func fn first cap) w := fun _ _ _ _ => rfl
  go_enter Tryd.func60, Tryd.ntmps60
  go_wp2_with fail
  have hR : Below w.heap.size w ((w.alloc (.cells #[.int .i64 au] 3)).alloc (.cells #[.int .i64 rd] 3)) := ((Below.refl _ _).alloc (Nat.le_refl _) _).alloc (by simp) _
  refine (indexSlot_any ls sa k cap au rd _ _ _ hk hk2 (hp.below hR) ?_ ?_).mono ?_
  · simp
  · simp
  rintro e w1 ⟨r, he, hF, hb1⟩
  subst he
  dsimp only
  go_wp2_with fail
  go_ret
  exact ⟨r, rfl, hF, below_alloc (below_alloc hb1)⟩

set_option maxRecDepth 100000 in
set_option maxHeartbeats 1000000 in
theorem checkTab_any (ls : List Sl) (sa : Option Addr) (n cap : Nat) (w : World) (hn : n = ls.length) (ht : TabAt w sa cap ls) :
    Calls Tryd.prog 35 #[.slice sa n cap] w fun e w' => e = .returned (.int .i64 (tabF (vs ls))) ∧ Below w.heap.size w w' := by
  subst hn
  have hle := ht.le
  have hmx := ht.max
  by_cases hlong : 400 < ls.length
  · have hF : Hid (tabF (vs ls) = 12) := tabF_long _ (by rw [vs_length]; exact hlong)
    have hI : (400 : Int) < ls.length := by omega
    go_enter Tryd.func35, Tryd.ntmps35
    go_wp2_with fail
    go_ret
    exact ⟨ret_int hF.out.symm, Below.refl _ _⟩
  have hI : ¬ (400 : Int) < ls.length := by omega
  go_enter Tryd.func35, Tryd.ntmps35
  go_wp2_with fail
  go_loopw [10] (fun i wr => ∃ m : Nat, m ≤ ls.length ∧ i = .int .i64 m ∧ (∀ j, j < m → badAt (vs ls) j = false) ∧ Below w.heap.size w wr) (fun i _ => ls.length - (intOf i).toNat)
  case atStart => exact ⟨0, Nat.zero_le _, rfl, (fun j hj => by omega), Below.refl _ _⟩
  case round =>
    obtain ⟨m, hm, rfl, hno, hb⟩ := hrel
    by_cases hlt : m < ls.length
    · have hpw := ht.slots.below hb
      obtain ⟨sb, so, rfl, hc⟩ : ∃ sb so, sa = some ⟨sb, so, none⟩ ∧ ∀ j (h : j < ls.length), wr.cell? ⟨sb, so + j * 3, none⟩ = some (.int .i64 (ls[j]).au) ∧ wr.cell? ⟨sb, so + j * 3 + 1, none⟩ = some (.int .i64 (ls[j]).rd) ∧ wr.cell? ⟨sb, so + j * 3 + 2, none⟩ = some (.slice (ls[j]).p.sa (ls[j]).p.bs.length (ls[j]).p.cap) := by
        rcases hpw.cells with h | h
        · rw [h] at hlt; simp at hlt
        · exact h
      obtain ⟨c0, c1, c2⟩ := hc m hlt
      have hltI : (m : Int) < ls.length := by omega
      have hmc : (m : Int) ≤ cap := by omega
      have hAt : Hid (badAt (vs ls) m = (decide (slotF (ls[m]).au (ls[m]).rd (ls[m]).p.bs.length ≠ 0) || anyHit (vs ls) (ls[m]).au (ls[m]).rd m)) := by
        show _ = _
        rw [badAt, svAt_get ls m hlt]; rfl
      have hB : Hid (badAt (vs ls) m = true → tabF (vs ls) = 12) := by
        show _ → _
        exact tabF_bad (vs ls) m (by rw [vs_length]; exact hlt)
      have hN : Hid (badAt (vs ls) m = false → ∀ j, j < m + 1 → badAt (vs ls) j = false) := by
        show _ → _
        intro h j hj
        rcases Nat.lt_or_ge j m with g | g
        · exact hno j g
        · obtain rfl : j = m := by omega
          exact h
      have HA : Hid (∀ W : World, Below wr.heap.size wr W → Calls Tryd.prog 60 #[.slice (some ⟨sb, so, none⟩) m cap, .int .i64 (ls[m]).au, .int .i64 (ls[m]).rd] W fun e w' => ∃ r : Int, e = .returned (.int .i64 r) ∧ ((anyHit (vs ls) (ls[m]).au (ls[m]).rd m = true ∧ 0 ≤ r) ∨ (anyHit (vs ls) (ls[m]).au (ls[m]).rd m = false ∧ r = -1)) ∧ Below W.heap.size W w') := by
        show ∀ W, _
        intro W hW
        refine (find_any ls (some ⟨sb, so, none⟩) m cap (ls[m]).au (ls[m]).rd W (by omega) (by have := ht.small; omega) (hpw.below hW)).mono ?_
        rintro e w' ⟨r, he, hF, hb'⟩
        exact ⟨r, he, hF.neg, hb'⟩
      have HS : Hid (∀ W : World, Calls Tryd.prog 62 #[.agg #[.int .i64 (ls[m]).au, .int .i64 (ls[m]).rd, .slice (ls[m]).p.sa (ls[m]).p.bs.length (ls[m]).p.cap]] W fun e w' => e = .returned (.int .i64 (slotF (ls[m]).au (ls[m]).rd (ls[m]).p.bs.length)) ∧ Below W.heap.size W w') := by
        show ∀ W, _
        intro W
        exact checkSlot_any _ _ _ _ _ W
      clear hc hno hpw ht
      generalize ls[m] = s at *
      have hA := (Below.refl wr.heap.size wr).alloc (Nat.le_refl _) (.cells #[.int .i64 s.au, .int .i64 s.rd, .slice s.p.sa s.p.bs.length s.p.cap] 47)
      have r0 := heap_alloc_new wr (.cells #[.int .i64 s.au, .int .i64 s.rd, .slice s.p.sa s.p.bs.length s.p.cap] 47)
      go_wp2_with fail
      generalize wr.alloc (.cells #[.int .i64 s.au, .int .i64 s.rd, .slice s.p.sa s.p.bs.length s.p.cap] 47) = W0 at hA r0 ⊢
      have d0 : W0.cell? ⟨wr.heap.size, 0, none⟩ = some (.int .i64 s.au) := cells_at r0 0 _ rfl
      have d1 : W0.cell? ⟨wr.heap.size, 1, none⟩ = some (.int .i64 s.rd) := cells_at r0 1 _ rfl
      have d2 : W0.cell? ⟨wr.heap.size, 2, none⟩ = some (.slice s.p.sa s.p.bs.length s.p.cap) := cells_at r0 2 _ rfl
      have hblt : wr.heap.size < W0.heap.size := lt_of_heap r0
      clear c0 c1 c2
      by_cases hx : slotF s.au s.rd s.p.bs.length = 0
      · rw [hx] at HS
        have H7 : Hid (anyHit (vs ls) s.au s.rd m = true → tabF (vs ls) = 12) := by
          show _ → _
          intro h; exact hB.out (by rw [hAt.out, h]; simp)
        have H8 : Hid (anyHit (vs ls) s.au s.rd m = false → ∀ j, j < m + 1 → badAt (vs ls) j = false) := by
          show _ → _
          intro h; exact hN.out (by rw [hAt.out, h, hx]; rfl)
        clear hB hN hAt hx
        go_region_held3 (fun w' => w'.cell? ⟨wr.heap.size, 0, none⟩ = some (.int .i64 s.au) ∧ w'.cell? ⟨wr.heap.size, 1, none⟩ = some (.int .i64 s.rd) ∧ w'.cell? ⟨wr.heap.size, 2, none⟩ = some (.slice s.p.sa s.p.bs.length s.p.cap)) (go_keep) (first | (go_at_call 60; refine (HA.out _ (hA.trans (hbB.mono hA.size))).mono ?_; rintro e w3 ⟨r, rfl, hr, hb3⟩; have hb4 := hbB.trans (hb3.mono hbB.size); have k0 := (hb4.cell (p := ⟨wr.heap.size, 0, none⟩) hblt).trans d0; have k1 := (hb4.cell (p := ⟨wr.heap.size, 1, none⟩) hblt).trans d1; have k2 := (hb4.cell (p := ⟨wr.heap.size, 2, none⟩) hblt).trans d2) | (go_at_call 62; refine (HS.out _).mono ?_; rintro e w2 ⟨rfl, hb2⟩; have hbB : Below W0.heap.size W0 w2 := below_drew hb2; have e0 := (hbB.cell (p := ⟨wr.heap.size, 0, none⟩) hblt).trans d0; have e1 := (hbB.cell (p := ⟨wr.heap.size, 1, none⟩) hblt).trans d1; have e2 := (hbB.cell (p := ⟨wr.heap.size, 2, none⟩) hblt).trans d2))
        all_goals
          have hbC := hb.trans ((hA.trans (hb4.mono hA.size)).mono hb.size)
          rcases hr with ⟨ha, hr⟩ | ⟨ha, rfl⟩
          · have hy := H7.out ha
            clear H7 H8 ha
            go_wp2_with fail
            go_ret
            exact ⟨ret_int hy.symm, hbC⟩
          · have hn := H8.out ha
            clear H7 H8 ha
            go_wp2_with fail
            go_roundw
            case rel =>
              have hR : ∃ m' : Nat, m' ≤ ls.length ∧ (Value.int .i64 ((m : Int) + 1)) = .int .i64 m' ∧ (∀ j, j < m' → badAt (vs ls) j = false) ∧ Below w.heap.size w w3 := ⟨m + 1, by omega, by go_num, hn, hbC⟩
              first | exact hR | ((repeat apply Exists.intro); exact ⟨hR, rfl⟩)
            case measure => simp [intOf]; omega
      · have h12 : Hid (tabF (vs ls) = 12) := hB.out (by rw [hAt.out]; simp [hx])
        generalize slotF s.au s.rd s.p.bs.length = x at *
        clear hB hN hAt HA
        have hxn : (x != 0) = true := by simpa using hx
        refine wp_region_held_drew (S := fun w' => w'.cell? ⟨wr.heap.size, 0, none⟩ = some (.int .i64 s.au) ∧ w'.cell? ⟨wr.heap.size, 1, none⟩ = some (.int .i64 s.rd) ∧ w'.cell? ⟨wr.heap.size, 2, none⟩ = some (.slice s.p.sa s.p.bs.length s.p.cap)) (by kernel_rfl) ⟨d0, d1, d2⟩ (fun hHeld => ?_)
        refine take_dst (i := 0) (d := 15) (v := .agg #[.int .i64 s.au, .int .i64 s.rd, .slice s.p.sa s.p.bs.length s.p.cap]) rfl rfl (by kernel_rfl) (by kernel_rfl) (by kernel_rfl) (fun _ _ _ h => h) (Or.inl ⟨by rfl, ?_⟩) hHeld ?_
        · (intro w0 hSw; (try dsimp only at hSw); go_simp)
        simp only [Act.put, List.setIfInBounds_toArray, List.set_cons_zero, List.set_cons_succ]
        refine wpAnyH_ready (rs := [1]) (by kernel_rfl) (by simp) (AllReadyH.cons rfl (fun K hK => ?_) AllReadyH.nil)
        refine step_calls_dst rfl 16 rfl 62 [.tmp 15] #[47] rfl [.agg #[.int .i64 s.au, .int .i64 s.rd, .slice s.p.sa s.p.bs.length s.p.cap]] rfl (enters_of Tryd.func62 (by kernel_rfl) rfl) (fun v w' => v = .int .i64 x ∧ Below W0.heap.size W0 w') ((HS.out _).mono (fun e w2 h => ⟨_, h.1, rfl, below_drew h.2⟩)) ?_
        rintro v w2 ⟨rfl, hbB⟩
        refine hK.out _ _ ⟨(hbB.cell (p := ⟨wr.heap.size, 0, none⟩) hblt).trans d0, (hbB.cell (p := ⟨wr.heap.size, 1, none⟩) hblt).trans d1, (hbB.cell (p := ⟨wr.heap.size, 2, none⟩) hblt).trans d2⟩ (fun hHeld => ?_)
        simp only [Act.put, List.setIfInBounds_toArray, List.set_cons_zero, List.set_cons_succ]
        refine take_dst (i := 2) (d := 17) (v := .bool true) rfl rfl (by kernel_rfl) (by kernel_rfl) (by kernel_rfl) (fun _ _ _ h => h) (Or.inl ⟨by rfl, ?_⟩) hHeld ?_
        · (intro w0 hSw; (try dsimp only at hSw); go_simp)
        simp only [Act.put, List.setIfInBounds_toArray, List.set_cons_zero, List.set_cons_succ]
        refine take_dst (i := 3) (d := 18) (v := .bool true) rfl rfl (by kernel_rfl) (by kernel_rfl) (by kernel_rfl) (fun _ _ _ h => h) (Or.inl ⟨by rfl, ?_⟩) hHeld ?_
        · (intro w0 hSw; (try dsimp only at hSw); go_simp)
        simp only [Act.put, List.setIfInBounds_toArray, List.set_cons_zero, List.set_cons_succ]
        refine take_dst (i := 4) (d := 19) (v := undef) rfl rfl (by kernel_rfl) (by kernel_rfl) (by kernel_rfl) (fun _ _ _ h => h) (Or.inr ⟨by rfl, rfl⟩) hHeld ?_
        simp only [Act.put, List.setIfInBounds_toArray, List.set_cons_zero, List.set_cons_succ]
        refine take_dst (i := 5) (d := 20) (v := undef) rfl rfl (by kernel_rfl) (by kernel_rfl) (by kernel_rfl) (fun _ _ _ h => h) (Or.inr ⟨by rfl, rfl⟩) hHeld ?_
        simp only [Act.put, List.setIfInBounds_toArray, List.set_cons_zero, List.set_cons_succ]
        refine take_dst (i := 6) (d := 21) (v := undef) rfl rfl (by kernel_rfl) (by kernel_rfl) (by kernel_rfl) (fun _ _ _ h => h) (Or.inr ⟨by rfl, rfl⟩) hHeld ?_
        simp only [Act.put, List.setIfInBounds_toArray, List.set_cons_zero, List.set_cons_succ]
        refine take_dst (i := 7) (d := 22) (v := undef) rfl rfl (by kernel_rfl) (by kernel_rfl) (by kernel_rfl) (fun _ _ _ h => h) (Or.inr ⟨by rfl, rfl⟩) hHeld ?_
        simp only [Act.put, List.setIfInBounds_toArray, List.set_cons_zero, List.set_cons_succ]
        refine take_dst (i := 8) (d := 23) (v := undef) rfl rfl (by kernel_rfl) (by kernel_rfl) (by kernel_rfl) (fun _ _ _ h => h) (Or.inr ⟨by rfl, rfl⟩) hHeld ?_
        simp only [Act.put, List.setIfInBounds_toArray, List.set_cons_zero, List.set_cons_succ]
        refine take_dst (i := 9) (d := 24) (v := undef) rfl rfl (by kernel_rfl) (by kernel_rfl) (by kernel_rfl) (fun _ _ _ h => h) (Or.inr ⟨by rfl, rfl⟩) hHeld ?_
        simp only [Act.put, List.setIfInBounds_toArray, List.set_cons_zero, List.set_cons_succ]
        refine take_dst (i := 10) (d := 25) (v := undef) rfl rfl (by kernel_rfl) (by kernel_rfl) (by kernel_rfl) (fun _ _ _ h => h) (Or.inr ⟨by rfl, rfl⟩) hHeld ?_
        simp only [Act.put, List.setIfInBounds_toArray, List.set_cons_zero, List.set_cons_succ]
        refine take_dst (i := 11) (d := 26) (v := undef) rfl rfl (by kernel_rfl) (by kernel_rfl) (by kernel_rfl) (fun _ _ _ h => h) (Or.inr ⟨by rfl, rfl⟩) hHeld ?_
        simp only [Act.put, List.setIfInBounds_toArray, List.set_cons_zero, List.set_cons_succ]
        refine take_dst (i := 12) (d := 27) (v := undef) rfl rfl (by kernel_rfl) (by kernel_rfl) (by kernel_rfl) (fun _ _ _ h => h) (Or.inr ⟨by rfl, rfl⟩) hHeld ?_
        simp only [Act.put, List.setIfInBounds_toArray, List.set_cons_zero, List.set_cons_succ]
        refine take_dst (i := 13) (d := 28) (v := .bool true) rfl rfl (by kernel_rfl) (by kernel_rfl) (by kernel_rfl) (fun _ _ _ h => h) (Or.inl ⟨by rfl, ?_⟩) hHeld ?_
        · (intro w0 hSw; (try dsimp only at hSw); go_simp)
        simp only [Act.put, List.setIfInBounds_toArray, List.set_cons_zero, List.set_cons_succ]
        refine wpAnyH_done (by kernel_rfl) ?_ _
        go_wp2_with fail
        go_ret
        exact ⟨ret_int h12.out.symm, hb.trans ((hA.trans (hbB.mono hA.size)).mono hb.size)⟩
    · obtain rfl : m = ls.length := by omega
      have hF : Hid (tabF (vs ls) = 0) := tabF_ok _ (by rw [vs_length]; omega) (fun k hk => hno k (by rw [vs_length] at hk; exact hk))
      clear hno
      go_wp2_with fail
      go_ret
      exact ⟨ret_int hF.out.symm, hb⟩
end Go.Proofs.YtbkojincfmfpnaaDoor

namespace Go.Proofs.YtbkojincfmfpnaaDoor
open Go.RowKit

set_option maxRecDepth 100000 in
set_option maxHeartbeats 2000000 in
theorem with_any (ls : List Sl) (sa : Option Addr) (n cap : Nat) (au rd : Int) (bs : List Int) (da : Option Addr) (dn dc : Nat) (w : World) (hn : n = ls.length) (hdn : dn = bs.length) (ht : TabAt w sa cap ls) (h0 : tabF (vs ls) = 0) (hd : SliceAt w da dc bs) (hdl : bs.length ≤ 140737488355328) :
    Calls Tryd.prog 52 #[.slice sa n cap, .agg #[.int .i64 au, .int .i64 rd, .slice da dn dc]] w fun e w' => ∃ ra rc ks, e = .returned (.tuple #[.slice ra (List.length ks) rc, .int .i64 (castF (vs ls) (au, rd, bs)).2]) ∧ vs ks = (castF (vs ls) (au, rd, bs)).1 ∧ TabAt w' ra rc ks ∧ Below w.heap.size w w' ∧ Fresh w.heap.size ra (ps ks) := by
  subst hn hdn
  have hle := ht.le
  have hmx := ht.max
  have hl4 : ls.length ≤ 400 := by have := (tabF_zero h0).1; rw [vs_length] at this; exact this
  have h32 := tab32 h0
  have hA := (Below.refl w.heap.size w).alloc (Nat.le_refl _) (.cells #[.int .i64 au, .int .i64 rd, .slice da bs.length dc] 47)
  have r0 := heap_alloc_new w (.cells #[.int .i64 au, .int .i64 rd, .slice da bs.length dc] 47)
  go_enter Tryd.func52, Tryd.ntmps52
  go_wp2_with fail
  generalize w.alloc (.cells #[.int .i64 au, .int .i64 rd, .slice da bs.length dc] 47) = W0 at hA r0 ⊢
  refine (find_any ls sa _ cap au rd W0 (Nat.le_refl _) ht.small (ht.slots.below hA)).mono ?_
  rintro e w1 ⟨r, he, hF, hb1⟩
  subst he
  dsimp only
  have hB1 := hA.trans (hb1.mono hA.size)
  have q0 := (hb1.block _ (lt_of_heap r0)).trans r0
  have d0 : w1.cell? ⟨w.heap.size, 0, none⟩ = some (.int .i64 au) := cells_at q0 0 _ rfl
  have d1 : w1.cell? ⟨w.heap.size, 1, none⟩ = some (.int .i64 rd) := cells_at q0 1 _ rfl
  have d2 : w1.cell? ⟨w.heap.size, 2, none⟩ = some (.slice da bs.length dc) := cells_at q0 2 _ rfl
  have hlt1 : w.heap.size < w1.heap.size := lt_of_heap q0
  rcases hF.found with ⟨m, hm, rfl, hfi⟩ | ⟨rfl, hfi⟩
  · have hpw := ht.slots.below hB1
    obtain ⟨sb, so, rfl, hc⟩ : ∃ sb so, sa = some ⟨sb, so, none⟩ ∧ ∀ j (h : j < ls.length), w1.cell? ⟨sb, so + j * 3, none⟩ = some (.int .i64 (ls[j]).au) ∧ w1.cell? ⟨sb, so + j * 3 + 1, none⟩ = some (.int .i64 (ls[j]).rd) ∧ w1.cell? ⟨sb, so + j * 3 + 2, none⟩ = some (.slice (ls[j]).p.sa (ls[j]).p.bs.length (ls[j]).p.cap) := by
      rcases hpw.cells with h | h
      · rw [h] at hm; simp at hm
      · exact h
    obtain ⟨_, _, c2⟩ := hc m hm
    have hx := hpw.each (ls[m]) (List.getElem_mem hm)
    have hltI : (m : Int) < ls.length := by omega
    have hE := equal_any (ls[m]).p.bs bs (ls[m]).p.sa da _ _ (ls[m]).p.cap dc w1.drew rfl rfl (hx.below ((Below.refl _ _).drew)) ((hd.below hB1).below ((Below.refl _ _).drew))
    rw [← vs_length] at hfi
    have hS : Hid (txL (ls[m]).p.bs = txL bs → castF (vs ls) (au, rd, bs) = (vs ls, 0)) := by
      show _ → _
      intro h
      exact castF_same (s := (au, rd, bs)) hfi (by rw [svAt_get ls m hm]; exact h)
    have hT : Hid (¬ txL (ls[m]).p.bs = txL bs → castF (vs ls) (au, rd, bs) = ([], 7)) := by
      show _ → _
      intro h
      exact castF_twice (s := (au, rd, bs)) hfi (by rw [svAt_get ls m hm]; exact h)
    have HC : Hid (∀ W : World, Below w.heap.size w W → Calls Tryd.prog 80 #[.slice (some ⟨sb, so, none⟩) ls.length cap] W fun e w' => ∃ v ks, e = .returned v ∧ vs ks = vs ls ∧ w'.ownsRow W.heap.size 47 3 v ls.length (sv ks) ∧ Apart w' W.heap.size v (ps ks) ∧ Below W.heap.size W w') := by
      show ∀ W, _
      intro W hW
      exact cloneSlots_own ls _ _ cap W rfl hl4 h32 (ht.slots.below hW)
    clear hc hfi hF hpw h32 h0 ht
    generalize ls[m] = s at *
    go_wp2_with fail
    go_region_held3 (fun w' => w'.cell? ⟨sb, so + m * 3 + 2, none⟩ = some (.slice s.p.sa s.p.bs.length s.p.cap) ∧ w'.cell? ⟨w.heap.size, 2, none⟩ = some (.slice da bs.length dc)) (go_keep) ((go_at_call 79; refine hE.mono ?_; rintro e w9 ⟨rfl, rfl⟩))
    all_goals
      by_cases h : txL s.p.bs = txL bs
      · have hy := hS.out h
        rw [decide_eq_true h]
        clear hS hT h hE
        go_wp2_with fail
        refine (HC.out _ (hB1.trans ((Below.refl _ _).drew.mono hB1.size))).mono ?_
        rintro e w3 ⟨v3, ks, he, hv3, ho3, hap3, hb3⟩
        subst he
        dsimp only
        have hlen : ls.length = ks.length := by have := congrArg List.length hv3; rw [vs_length, vs_length] at this; exact this.symm
        obtain ⟨ra, rc, hv, hl, hL, hfr⟩ := tab_of_owns ho3 hap3
        subst hv
        rw [hlen]
        go_wp2_with fail
        go_ret2
        exact ⟨ra, rc, ks, by rw [hy]; rfl, by rw [hy]; exact hv3, hL (by omega), hB1.trans ((below_drew hb3).mono hB1.size), fresh_mono hfr (by simpa using hB1.size)⟩
      · have hy := hT.out h
        rw [decide_eq_false h]
        clear hS hT h hE
        go_wp2_with fail
        go_ret2
        exact ⟨none, 0, [], by rw [hy]; rfl, by rw [hy]; rfl, tab_nil _, hB1.drew, fresh_nil _⟩
  · rw [← vs_length] at hfi
    by_cases hfull : 400 ≤ ls.length
    · have hy := castF_full (s := (au, rd, bs)) hfi (by rw [vs_length]; exact hfull)
      have hI : (400 : Int) ≤ ls.length := by omega
      clear hfi hF h32 h0
      go_wp2_with fail
      go_ret2
      exact ⟨none, 0, [], by rw [hy]; rfl, by rw [hy]; rfl, tab_nil _, hB1, fresh_nil _⟩
    · have hy := castF_new (s := (au, rd, bs)) hfi (by rw [vs_length]; exact hfull)
      have hI : ¬ (400 : Int) ≤ ls.length := by omega
      have HC : Hid (∀ W : World, Below w.heap.size w W → Calls Tryd.prog 80 #[.slice sa ls.length cap] W fun e w' => ∃ v ks, e = .returned v ∧ vs ks = vs ls ∧ w'.ownsRow W.heap.size 47 3 v ls.length (sv ks) ∧ Apart w' W.heap.size v (ps ks) ∧ Below W.heap.size W w') := by
        show ∀ W, _
        intro W hW
        exact cloneSlots_own ls _ _ cap W rfl hl4 h32 (ht.slots.below hW)
      have HD : Hid (∀ W : World, Below w.heap.size w W → Calls Tryd.prog 81 #[.agg #[.int .i64 au, .int .i64 rd, .slice da bs.length dc]] W fun e w' => ∃ ra rc, e = .returned (.agg #[.int .i64 au, .int .i64 rd, .slice ra bs.length rc]) ∧ SliceAt w' ra rc bs ∧ (∀ sb so, ra = some ⟨sb, so, none⟩ → W.heap.size ≤ sb ∧ sb < w'.heap.size) ∧ Below W.heap.size W w') := by
        show ∀ W, _
        intro W hW
        exact cloneSlot_any au rd bs da _ dc W rfl (hd.below hW) hdl
      obtain ⟨i, hi, hz0, hz1, hz2⟩ := info_parts infoSlot
      clear hfi hF h32 h0 ht hd
      go_wp2_with fail
      go_region_held3 (fun w' => w'.cell? ⟨w.heap.size, 0, none⟩ = some (.int .i64 au) ∧ w'.cell? ⟨w.heap.size, 1, none⟩ = some (.int .i64 rd) ∧ w'.cell? ⟨w.heap.size, 2, none⟩ = some (.slice da bs.length dc)) (go_keep) (first
        | (go_at_call 81; refine (HD.out _ (hB1.trans (hb3.mono hB1.size))).mono ?_; rintro e w4 ⟨ya, yc, rfl, hy4, hrow4, hb4⟩; have hb34 := hb3.trans (hb4.mono hb3.size); have q4 := (hb34.block _ hlt1).trans q0; have g0 : w4.cell? ⟨w.heap.size, 0, none⟩ = some (.int .i64 au) := cells_at q4 0 _ rfl; have g1 : w4.cell? ⟨w.heap.size, 1, none⟩ = some (.int .i64 rd) := cells_at q4 1 _ rfl; have g2 : w4.cell? ⟨w.heap.size, 2, none⟩ = some (.slice da bs.length dc) := cells_at q4 2 _ rfl)
        | (go_at_call 80; refine (HC.out _ (hB1.trans ((Below.refl _ _).drew.mono hB1.size))).mono ?_; rintro e w3 ⟨v3, ks, rfl, hv3, ho3, hap3, hb3⟩; replace hb3 := below_drew hb3; have q3 := (hb3.block _ hlt1).trans q0; have f0 : w3.cell? ⟨w.heap.size, 0, none⟩ = some (.int .i64 au) := cells_at q3 0 _ rfl; have f1 : w3.cell? ⟨w.heap.size, 1, none⟩ = some (.int .i64 rd) := cells_at q3 1 _ rfl; have f2 : w3.cell? ⟨w.heap.size, 2, none⟩ = some (.slice da bs.length dc) := cells_at q3 2 _ rfl)
        | (refine step_append_at rfl _ _ 44 rfl w1.heap.size 47 i (.agg #[.int .i64 0, .int .i64 0, .slice none 0 0]) 3 40 Tryd.underlying44 hi hz0 hz1 hz2 rfl (by decide) v3 ls.length (sv ks) rfl (World.ownsRow.alloc (owns_keep ho3 hb4) _) ⟨w4.heap.size, 0, none⟩ 1 1 [.int .i64 au, .int .i64 rd, .slice ya bs.length yc] rfl rfl (cells_new w4 [.int .i64 au, .int .i64 rd, .slice ya bs.length yc] 47) (by intro u hu; simp at hu; rcases hu with rfl | rfl | rfl <;> rfl) (by unfold maxLen; omega) (by omega) (by rw [size_alloc]; have := hb34.size; omega) ?_; intro v5 w5 ho5 G5; have q5 := (G5.grown.block w.heap.size (by rw [size_alloc]; have := lt_of_heap q4; omega) (fun e => by have h9 : w1.heap.size ≤ w.heap.size := (ho3.lt _ e.symm).1; omega)).trans (heap_keep (o := .cells #[.int .i64 au, .int .i64 rd, .slice ya bs.length yc] 47) q4); have k0 : w5.cell? ⟨w.heap.size, 0, none⟩ = some (.int .i64 au) := cells_at q5 0 _ rfl; have k1 : w5.cell? ⟨w.heap.size, 1, none⟩ = some (.int .i64 rd) := cells_at q5 1 _ rfl; have k2 : w5.cell? ⟨w.heap.size, 2, none⟩ = some (.slice da bs.length dc) := cells_at q5 2 _ rfl))
      all_goals
        have hA4 : Below w4.heap.size w4 (w4.alloc (.cells #[.int .i64 au, .int .i64 rd, .slice ya bs.length yc] 47)) := (Below.refl _ _).alloc (Nat.le_refl _) _
        have hap5 := hap3.more_at (q := ⟨ya, yc, bs⟩) hb3.size ho3 hb4 hrow4 hy4 G5
        have hB5 := Below.grown (hb34.alloc hb34.size _) G5.grown (le_alloc hb34.size _) (fun q e => (ho3.lt q e).1)
        have ho5' : w5.ownsRow w1.heap.size 47 3 v5 (ls.length + 1) (sv (ks ++ [⟨au, rd, ⟨ya, yc, bs⟩⟩])) := by rw [sv_snoc]; exact ho5
        have hap5' : Apart w5 w1.heap.size v5 (ps (ks ++ [⟨au, rd, ⟨ya, yc, bs⟩⟩])) := by simpa [ps] using hap5
        obtain ⟨ra, rc, hv, hl, hL, hfr⟩ := tab_of_owns ho5' hap5'
        subst hv
        rw [hl]
        go_wp2_with fail
        go_ret2
        exact ⟨ra, rc, ks ++ [⟨au, rd, ⟨ya, yc, bs⟩⟩], by rw [hy]; rfl, by rw [hy, ← hv3]; simp [vs, Sl.v], hL (by omega), hB1.trans (hB5.mono hB1.size), fresh_mono hfr hB1.size⟩
end Go.Proofs.YtbkojincfmfpnaaDoor

namespace Go.Proofs.YtbkojincfmfpnaaDoor
open Go.RowKit

/-- P4.3 -/
def castAll (l : List SV) (au rd : Int) (bl pl : List Part) : List SV × SV × Int :=
  if tabF l ≠ 0 then ([], (0, 0, []), 12) else if headerF au rd bl pl ≠ 0 then ([], (0, 0, []), headerF au rd bl pl) else
    if (castF l (au, rd, hDig au rd bl pl)).2 ≠ 0 then ([], (0, 0, []), (castF l (au, rd, hDig au rd bl pl)).2) else ((castF l (au, rd, hDig au rd bl pl)).1, (au, rd, hDig au rd bl pl), 0)
/-- What a cast answers. -/
structure CastAt (w w' : World) (e : Ending) (R : List SV × SV × Int) : Prop where
  out : ∃ ra rc ks da dc xa xr ds er, e = .returned (.tuple #[.slice ra (List.length ks) rc, .agg #[.int .i64 xa, .int .i64 xr, .slice da (List.length ds) dc], .int .i64 er]) ∧ (vs ks, (xa, xr, ds), er) = R ∧ TabAt w' ra rc ks ∧ SliceAt w' da dc ds ∧ Fresh w.heap.size ra (ps ks) ∧ (∀ sb so, da = some ⟨sb, so, none⟩ → w.heap.size ≤ sb) ∧ Below w.heap.size w w'
set_option maxRecDepth 100000 in
theorem CastAt.bad {w w' : World} {er : Int} {R : List SV × SV × Int} (hR : ([], (0, 0, []), er) = R) (hb : Below w.heap.size w w') : CastAt w w' (.returned (.tuple #[.slice none 0 0, .agg #[.int .i64 0, .int .i64 0, .slice none 0 0], .int .i64 er])) R :=
  ⟨none, 0, [], none, 0, 0, 0, [], er, rfl, hR, tab_nil _, nilSlice _, fresh_nil _, (fun _ _ e => by cases e), hb⟩

set_option maxRecDepth 100000 in
set_option maxHeartbeats 2000000 in
theorem cast_any (ls : List Sl) (sa : Option Addr) (cap : Nat) (au rd : Int) (ba : Option Addr) (bc : Nat) (bl : List Part) (pa : Option Addr) (pc : Nat) (pl : List Part) (w : World) (ht : TabAt w sa cap ls) (h : HAt w ba bc bl pa pc pl) (hT : Tabs w) :
    Calls Tryd.prog 25 #[.slice sa ls.length cap, .agg #[.int .i64 au, .int .i64 rd, .slice ba bl.length bc, .slice pa pl.length pc]] w fun e w' => CastAt w w' e (castAll (vs ls) au rd bl pl) := by
  have hR : Below w.heap.size w ((w.alloc (.cells #[.int .i64 au, .int .i64 rd, .slice ba bl.length bc, .slice pa pl.length pc] 25)).alloc (.cells #[.int .i64 0, .int .i64 0, .slice none 0 0] 47)) := ((Below.refl _ _).alloc (Nat.le_refl _) _).alloc (by simp) _
  have q0 := heap_alloc2_old w (.cells #[.int .i64 au, .int .i64 rd, .slice ba bl.length bc, .slice pa pl.length pc] 25) (.cells #[.int .i64 0, .int .i64 0, .slice none 0 0] 47)
  have q1 : ((w.alloc (.cells #[.int .i64 au, .int .i64 rd, .slice ba bl.length bc, .slice pa pl.length pc] 25)).alloc (.cells #[.int .i64 0, .int .i64 0, .slice none 0 0] 47)).heap[w.heap.size + 1]? = some (.cells #[.int .i64 0, .int .i64 0, .slice none 0 0] 47 (0, 0)) := by
    have := heap_alloc_new (w.alloc (.cells #[.int .i64 au, .int .i64 rd, .slice ba bl.length bc, .slice pa pl.length pc] 25)) (.cells #[.int .i64 0, .int .i64 0, .slice none 0 0] 47)
    rw [size_alloc] at this; exact this
  rcases tabF_or (vs ls) with h0 | h0
  rotate_left
  · have hA : ([], (0, 0, []), 12) = castAll (vs ls) au rd bl pl := by rw [castAll, if_pos (by rw [h0]; decide)]
    generalize castAll (vs ls) au rd bl pl = R at *
    go_enter Tryd.func25, Tryd.ntmps25
    go_wp2_with fail
    generalize (w.alloc (.cells #[.int .i64 au, .int .i64 rd, .slice ba bl.length bc, .slice pa pl.length pc] 25)).alloc (.cells #[.int .i64 0, .int .i64 0, .slice none 0 0] 47) = W0 at hR q0 q1 ⊢
    refine (checkTab_any ls sa _ cap W0 rfl (ht.below hR)).mono ?_
    rintro e w1 ⟨he, hb1⟩
    rw [h0] at he
    subst he
    dsimp only
    have r1 := (hb1.block _ (lt_of_heap q1)).trans q1
    have d0 := cells_at r1 0 _ rfl
    have d1 := cells_at r1 1 _ rfl
    have d2 := cells_at r1 2 _ rfl
    have f0 := frozen_at r1 0
    have f1 := frozen_at r1 1
    have f2 := frozen_at r1 2
    have hW1 := hR.trans (hb1.mono hR.size)
    go_wp2_with fail
    refine bodyPost_ret (v := .tuple #[.slice none 0 0, .agg #[.int .i64 0, .int .i64 0, .slice none 0 0], .int .i64 12]) (by simp [results, Tryd.results25, go_sem, d0, d1, d2]) rfl (CastAt.bad hA ?_)
    exact ((hW1.setCell (Nat.le_succ _) _).setCell (Nat.le_succ _) _).setCell (Nat.le_succ _) _
  by_cases hF : headerF au rd bl pl = 0
  rotate_left
  · have hA : ([], (0, 0, []), headerF au rd bl pl) = castAll (vs ls) au rd bl pl := by rw [castAll, if_neg (by rw [h0]; decide), if_pos hF]
    generalize castAll (vs ls) au rd bl pl = R at *
    have HO : Hid (∀ W : World, Below w.heap.size w W → Calls Tryd.prog 51 #[.agg #[.int .i64 au, .int .i64 rd, .slice ba bl.length bc, .slice pa pl.length pc]] W fun e w' => e = .returned (.tuple #[.agg #[.int .i64 0, .int .i64 0, .slice none 0 0], .int .i64 (headerF au rd bl pl)]) ∧ Below W.heap.size W w') := by
      show ∀ W, _
      intro W hW
      exact slotOf_bad au rd ba bc bl pa pc pl _ W (h.below hW) rfl hF
    generalize headerF au rd bl pl = ec at *
    go_enter Tryd.func25, Tryd.ntmps25
    go_wp2_with fail
    generalize (w.alloc (.cells #[.int .i64 au, .int .i64 rd, .slice ba bl.length bc, .slice pa pl.length pc] 25)).alloc (.cells #[.int .i64 0, .int .i64 0, .slice none 0 0] 47) = W0 at hR q0 q1 ⊢
    refine (checkTab_any ls sa _ cap W0 rfl (ht.below hR)).mono ?_
    rintro e w1 ⟨he, hb1⟩
    rw [h0] at he
    subst he
    dsimp only
    have r0 := (hb1.block _ (lt_of_heap q0)).trans q0
    have r1 := (hb1.block _ (lt_of_heap q1)).trans q1
    have hW1 := hR.trans (hb1.mono hR.size)
    have c0 : w1.cell? ⟨w.heap.size, 0, none⟩ = some (.int .i64 au) := cells_at r0 0 _ rfl
    have c1 : w1.cell? ⟨w.heap.size, 1, none⟩ = some (.int .i64 rd) := cells_at r0 1 _ rfl
    have c2 : w1.cell? ⟨w.heap.size, 2, none⟩ = some (.slice ba bl.length bc) := cells_at r0 2 _ rfl
    have c3 : w1.cell? ⟨w.heap.size, 3, none⟩ = some (.slice pa pl.length pc) := cells_at r0 3 _ rfl
    go_wp2_with fail
    refine (HO.out _ hW1).mono ?_
    rintro e w2 ⟨he, hb2⟩
    subst he
    dsimp only
    have s1 := (hb2.block _ (lt_of_heap r1)).trans r1
    have hlt2 : w.heap.size + 1 < w2.heap.size := lt_of_heap s1
    have hne : ¬ w.heap.size + 1 = w2.heap.size := by omega
    have hne2 : ¬ w2.heap.size = w.heap.size + 1 := by omega
    have hW2 := hW1.trans (hb2.mono hW1.size)
    have d0 := cells_at s1 0 _ rfl
    have d1 := cells_at s1 1 _ rfl
    have d2 := cells_at s1 2 _ rfl
    have f0 := frozen_at s1 0
    have f1 := frozen_at s1 1
    have f2 := frozen_at s1 2
    have h0' : (ec != 0) = true := by simpa using hF
    go_wp2_with fail
    refine bodyPost_ret (v := .tuple #[.slice none 0 0, .agg #[.int .i64 0, .int .i64 0, .slice none 0 0], .int .i64 ec]) (by simp [results, Tryd.results25, go_sem, d0, d1, d2, World.cell?_alloc_lt, hlt2]) rfl (CastAt.bad hA ?_)
    refine Below.alloc ?_ ?_ _
    · exact ((hW2.setCell (Nat.le_succ _) _).setCell (Nat.le_succ _) _).setCell (Nat.le_succ _) _
    · simp; omega
  have hA : castAll (vs ls) au rd bl pl = if (castF (vs ls) (au, rd, hDig au rd bl pl)).2 ≠ 0 then ([], (0, 0, []), (castF (vs ls) (au, rd, hDig au rd bl pl)).2) else ((castF (vs ls) (au, rd, hDig au rd bl pl)).1, (au, rd, hDig au rd bl pl), 0) := by
    rw [castAll, if_neg (by rw [h0]; decide), if_neg (by rw [hF]; decide)]
  have hlen := hDig_length au rd bl pl
  have HO : Hid (∀ W : World, Below w.heap.size w W → Calls Tryd.prog 51 #[.agg #[.int .i64 au, .int .i64 rd, .slice ba bl.length bc, .slice pa pl.length pc]] W fun e w' => ∃ b, e = .returned (.tuple #[.agg #[.int .i64 au, .int .i64 rd, .slice (some ⟨b, 0, none⟩) 32 32], .int .i64 0]) ∧ W.heap.size ≤ b ∧ b < w'.heap.size ∧ SliceAt w' (some ⟨b, 0, none⟩) 32 (hDig au rd bl pl) ∧ Below W.heap.size W w') := by
    show ∀ W, _
    intro W hW
    exact slotOf_ok au rd ba bc bl pa pc pl W (h.below hW) hF (hT.below hW)
  have HW : Hid (∀ (W : World) (b : Nat), Below w.heap.size w W → SliceAt W (some ⟨b, 0, none⟩) 32 (hDig au rd bl pl) → Calls Tryd.prog 52 #[.slice sa ls.length cap, .agg #[.int .i64 au, .int .i64 rd, .slice (some ⟨b, 0, none⟩) 32 32]] W fun e w' => ∃ ra rc ks, e = .returned (.tuple #[.slice ra (List.length ks) rc, .int .i64 (castF (vs ls) (au, rd, hDig au rd bl pl)).2]) ∧ vs ks = (castF (vs ls) (au, rd, hDig au rd bl pl)).1 ∧ TabAt w' ra rc ks ∧ Below W.heap.size W w' ∧ Fresh W.heap.size ra (ps ks)) := by
    show ∀ W b, _
    intro W b hW hs
    exact with_any ls sa _ cap au rd (hDig au rd bl pl) _ 32 32 W rfl hlen.symm (ht.below hW) h0 hs (by omega)
  have HD32 : Hid ((hDig au rd bl pl).length = 32) := hlen
  clear hF hlen
  generalize hDig au rd bl pl = D at *
  generalize castF (vs ls) (au, rd, D) = C at *
  obtain ⟨cl, cer⟩ := C
  dsimp only at *
  go_enter Tryd.func25, Tryd.ntmps25
  go_wp2_with fail
  generalize (w.alloc (.cells #[.int .i64 au, .int .i64 rd, .slice ba bl.length bc, .slice pa pl.length pc] 25)).alloc (.cells #[.int .i64 0, .int .i64 0, .slice none 0 0] 47) = W0 at hR q0 q1 ⊢
  refine (checkTab_any ls sa _ cap W0 rfl (ht.below hR)).mono ?_
  rintro e w1 ⟨he, hb1⟩
  rw [h0] at he
  subst he
  dsimp only
  have r0 := (hb1.block _ (lt_of_heap q0)).trans q0
  have r1 := (hb1.block _ (lt_of_heap q1)).trans q1
  have hW1 := hR.trans (hb1.mono hR.size)
  have c0 : w1.cell? ⟨w.heap.size, 0, none⟩ = some (.int .i64 au) := cells_at r0 0 _ rfl
  have c1 : w1.cell? ⟨w.heap.size, 1, none⟩ = some (.int .i64 rd) := cells_at r0 1 _ rfl
  have c2 : w1.cell? ⟨w.heap.size, 2, none⟩ = some (.slice ba bl.length bc) := cells_at r0 2 _ rfl
  have c3 : w1.cell? ⟨w.heap.size, 3, none⟩ = some (.slice pa pl.length pc) := cells_at r0 3 _ rfl
  clear h0
  go_wp2_with fail
  refine (HO.out _ hW1).mono ?_
  rintro e w2 ⟨b, he, hbb, hbl, hsD, hb2⟩
  subst he
  dsimp only
  have s1 := (hb2.block _ (lt_of_heap r1)).trans r1
  have hlt2 : w.heap.size + 1 < w1.heap.size := lt_of_heap r1
  have hW2 := hW1.trans (hb2.mono hW1.size)
  have s1' := heap_keep (o := .cells #[.int .i64 au, .int .i64 rd, .slice (some ⟨b, 0, none⟩) 32 32] 47) s1
  have s2 := heap_alloc_new w2 (.cells #[.int .i64 au, .int .i64 rd, .slice (some ⟨b, 0, none⟩) 32 32] 47)
  have hA2 : Below w2.heap.size w2 (w2.alloc (.cells #[.int .i64 au, .int .i64 rd, .slice (some ⟨b, 0, none⟩) 32 32] 47)) := (Below.refl _ _).alloc (Nat.le_refl _) _
  have hW3 := hW2.trans (hA2.mono hW2.size)
  have hsD3 := hsD.below hA2
  have hne : w2.heap.size ≠ w.heap.size + 1 := by have := hb2.size; omega
  have hneS : w.heap.size + 1 ≠ w2.heap.size := hne.symm
  go_wp2_with fail
  generalize w2.alloc (.cells #[.int .i64 au, .int .i64 rd, .slice (some ⟨b, 0, none⟩) 32 32] 47) = w3 at s1' s2 hA2 hW3 hsD3 ⊢
  refine (HW.out w3 b hW3 hsD3).mono ?_
  rintro e w4 ⟨ra, rc, ks, he, hks, hT4, hb4, hfr⟩
  subst he
  dsimp only
  have t1 := (hb4.block _ (lt_of_heap s1')).trans s1'
  have t2 := (hb4.block _ (lt_of_heap s2)).trans s2
  have hW4 := hW3.trans (hb4.mono hW3.size)
  have d0 := cells_at t1 0 _ rfl
  have d1 := cells_at t1 1 _ rfl
  have d2 := cells_at t1 2 _ rfl
  have f0 := frozen_at t1 0
  have f1 := frozen_at t1 1
  have f2 := frozen_at t1 2
  have e0 : w4.cell? ⟨w2.heap.size, 0, none⟩ = some (.int .i64 au) := cells_at t2 0 _ rfl
  have e1 : w4.cell? ⟨w2.heap.size, 1, none⟩ = some (.int .i64 rd) := cells_at t2 1 _ rfl
  have e2 : w4.cell? ⟨w2.heap.size, 2, none⟩ = some (.slice (some ⟨b, 0, none⟩) 32 32) := cells_at t2 2 _ rfl
  by_cases hc : cer = 0
  · subst hc
    rw [if_neg (by decide)] at hA
    clear c0 c1 c2 c3
    go_wp2_with fail
    go_region_held3 (fun w' => w'.cell? ⟨w2.heap.size, 0, none⟩ = some (.int .i64 au) ∧ w'.cell? ⟨w2.heap.size, 1, none⟩ = some (.int .i64 rd) ∧ w'.cell? ⟨w2.heap.size, 2, none⟩ = some (.slice (some ⟨b, 0, none⟩) 32 32)) (go_keep) (fail)
    all_goals
      go_wp2_with fail
      have hlt3 : w.heap.size + 1 < w3.heap.size := by have := hb2.size; have := hA2.size; omega
      have hrD : ∀ sb so, (some ⟨b, 0, none⟩ : Option Addr) = some ⟨sb, so, none⟩ → w1.heap.size ≤ sb := fun sb so e => by cases e; exact hbb
      have hsD4 := hsD3.below hb4
      have hD32 : D.length = 32 := HD32.out
      refine bodyPost_ret (v := .tuple #[.slice ra ks.length rc, .agg #[.int .i64 au, .int .i64 rd, .slice (some ⟨b, 0, none⟩) 32 32], .int .i64 0]) (by simp [results, Tryd.results25, go_sem, d0, d1, d2]) rfl ⟨ra, rc, ks, some ⟨b, 0, none⟩, 32, au, rd, D, 0, by rw [hD32], by rw [hA, hks], ?_, ?_, fresh_mono hfr hW3.size, (fun sb so e => Nat.le_trans hW1.size (hrD sb so e)), ?_⟩
      · exact (((hT4.setCell hfr _ _ _ hlt3).setCell hfr _ _ _ hlt3).setCell hfr _ _ _ hlt3).below ((Below.refl _ _).drew)
      · exact (slice_far (slice_far (slice_far hsD4 hrD _ _ _ hlt2) hrD _ _ _ hlt2) hrD _ _ _ hlt2).below ((Below.refl _ _).drew)
      · exact (((hW4.setCell (Nat.le_succ _) _).setCell (Nat.le_succ _) _).setCell (Nat.le_succ _) _).drew
  · rw [if_pos hc] at hA
    have h0' : (cer != 0) = true := by simpa using hc
    clear c0 c1 c2 c3
    go_wp2_with fail
    refine bodyPost_ret (v := .tuple #[.slice none 0 0, .agg #[.int .i64 0, .int .i64 0, .slice none 0 0], .int .i64 cer]) (by simp [results, Tryd.results25, go_sem, d0, d1, d2]) rfl (CastAt.bad hA.symm ?_)
    exact ((hW4.setCell (Nat.le_succ _) _).setCell (Nat.le_succ _) _).setCell (Nat.le_succ _) _
end Go.Proofs.YtbkojincfmfpnaaDoor

namespace Go.Proofs.YtbkojincfmfpnaaDoor
open Go.RowKit

set_option maxRecDepth 100000 in
theorem in_bool (n a b : Int) (r : Bool) (w : World) (h : r = decide (a ≤ n ∧ n ≤ b)) : Calls Tryd.prog 45 #[.int .i64 n, .int .i64 a, .int .i64 b] w fun e w' => e = .returned (.bool r) ∧ w = w' := by
  by_cases h1 : a ≤ n
  · by_cases h2 : n ≤ b
    · obtain rfl : r = true := by simp [h, h1, h2]
      clear h
      go_enter Tryd.func45, Tryd.ntmps45
      go_wp2
      go_ret
      exact ⟨rfl, rfl⟩
    · obtain rfl : r = false := by simp [h, h2]
      clear h
      go_enter Tryd.func45, Tryd.ntmps45
      go_wp2
      go_ret
      exact ⟨rfl, rfl⟩
  · obtain rfl : r = false := by simp [h, h1]
    clear h
    go_enter Tryd.func45, Tryd.ntmps45
    go_wp2
    go_ret
    exact ⟨rfl, rfl⟩
set_option maxRecDepth 100000 in
theorem in_true (n a b : Int) (w : World) (h : a ≤ n ∧ n ≤ b) : Calls Tryd.prog 45 #[.int .i64 n, .int .i64 a, .int .i64 b] w fun e w' => e = .returned (.bool true) ∧ w = w' := in_bool n a b true w (by simp [h])
set_option maxRecDepth 100000 in
theorem in_false (n a b : Int) (w : World) (h : ¬ (a ≤ n ∧ n ≤ b)) : Calls Tryd.prog 45 #[.int .i64 n, .int .i64 a, .int .i64 b] w fun e w' => e = .returned (.bool false) ∧ w = w' := in_bool n a b false w (by rw [decide_eq_false h])
end Go.Proofs.YtbkojincfmfpnaaDoor

namespace Go.Proofs.YtbkojincfmfpnaaDoor
open Go.RowKit

set_option maxRecDepth 100000 in
set_option maxHeartbeats 1000000 in
theorem slotFault_any (au rd : Int) (sa : Option Addr) (n cap : Nat) (w : World) :
    Calls Tryd.prog 82 #[.agg #[.int .i64 au, .int .i64 rd, .slice sa n cap]] w fun e w' => e = .returned (.int .i64 (slotF au rd n)) ∧ Below w.heap.size w w' := by
  by_cases ha : 0 ≤ au ∧ au < 4
  · by_cases hr : 1 ≤ rd ∧ rd ≤ 1048576
    · by_cases hn : n = 32
      · subst hn
        have hF : Hid (slotF au rd 32 = 0) := by show _ = _; simp [slotF, ha, hr]
        go_enter Tryd.func82, Tryd.ntmps82
        go_wp2_with (go_at_call 45; first | (refine (in_true _ _ _ _ (by omega)).mono ?_; rintro e w' ⟨rfl, rfl⟩) | (refine (in_false _ _ _ _ (by omega)).mono ?_; rintro e w' ⟨rfl, rfl⟩))
        go_ret
        exact ⟨ret_int hF.out.symm, (Below.refl _ _).alloc (Nat.le_refl _) _⟩
      · have hF : Hid (slotF au rd n = 4) := by show _ = _; simp [slotF, ha, hr, hn]
        have hnI : ¬ (n : Int) = 32 := by omega
        go_enter Tryd.func82, Tryd.ntmps82
        go_wp2_with (go_at_call 45; first | (refine (in_true _ _ _ _ (by omega)).mono ?_; rintro e w' ⟨rfl, rfl⟩) | (refine (in_false _ _ _ _ (by omega)).mono ?_; rintro e w' ⟨rfl, rfl⟩))
        go_ret
        exact ⟨ret_int hF.out.symm, (Below.refl _ _).alloc (Nat.le_refl _) _⟩
    · have hF : Hid (slotF au rd n = 2) := by show _ = _; simp [slotF, hr]
      go_enter Tryd.func82, Tryd.ntmps82
      go_wp2_with (go_at_call 45; first | (refine (in_true _ _ _ _ (by omega)).mono ?_; rintro e w' ⟨rfl, rfl⟩) | (refine (in_false _ _ _ _ (by omega)).mono ?_; rintro e w' ⟨rfl, rfl⟩))
      go_ret
      exact ⟨ret_int hF.out.symm, (Below.refl _ _).alloc (Nat.le_refl _) _⟩
  · have hF : Hid (slotF au rd n = 2) := by show _ = _; simp [slotF, ha]
    go_enter Tryd.func82, Tryd.ntmps82
    go_wp2_with (go_at_call 45; first | (refine (in_true _ _ _ _ (by omega)).mono ?_; rintro e w' ⟨rfl, rfl⟩) | (refine (in_false _ _ _ _ (by omega)).mono ?_; rintro e w' ⟨rfl, rfl⟩))
    go_ret
    exact ⟨ret_int hF.out.symm, (Below.refl _ _).alloc (Nat.le_refl _) _⟩
end Go.Proofs.YtbkojincfmfpnaaDoor
