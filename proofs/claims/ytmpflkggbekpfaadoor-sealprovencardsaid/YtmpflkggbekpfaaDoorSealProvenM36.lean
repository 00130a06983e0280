/- The document's signCopy, SignsCopy: new memory with the same signs. -/
import Derived.Test.YtmpflkggbekpfaaDoorAppH
import Derived.Test.YtmpflkggbekpfaaDoorSealProvenM24
import Derived.Test.YtmpflkggbekpfaaDoorSealProvenM30
import Derived.Test.YtmpflkggbekpfaaDoorSealProvenM0
import Derived.Test.YtmpflkggbekpfaaDoorCalls
import Derived.Test.YtmpflkggbekpfaaDoorSealProvenM12
import Derived.Test.YtmpflkggbekpfaaDoorSignF
import Derived.Test.YtmpflkggbekpfaaDoorSealProvenM18
import Derived.Test.YtmpflkggbekpfaaDoorSealProvenM6
import Derived.Deep.CutRange
import Derived.Deep.DeepCutAuto
import Derived.Test.YtmpflkggbekpfaaDoorSignsL
import Derived.Deep.RegionHeld3
namespace Go.Proofs.YtmpflkggbekpfaaDoor
open Go.RowKit

set_option maxRecDepth 100000 in
theorem headB_le (au rd : Int) (bl pl : List Part) (hbl : bl.length ≤ 4) (hpl : pl.length ≤ 4) (hb32 : ∀ p ∈ bl, p.bs.length = 32) (hp32 : ∀ p ∈ pl, p.bs.length = 32) : (headB au rd bl pl).length ≤ 300 := by
  have h1 := flatB_length bl hb32
  have h2 := flatB_length pl hp32
  simp [headB, rd3, digsB]; omega
end Go.Proofs.YtmpflkggbekpfaaDoor

namespace Go.Proofs.YtmpflkggbekpfaaDoor
open Go.RowKit

set_option maxRecDepth 100000 in
theorem flatB_all (l : List Part) (h : ∀ p ∈ l, AllU8 p.bs) : AllU8 (flatB l) := by
  induction l with
  | nil => intro x hx; cases hx
  | cons p l ih =>
    intro x hx
    simp only [flatB, List.mem_append] at hx
    rcases hx with hx | hx
    · exact h p (by simp) x hx
    · exact ih (fun q hq => h q (by simp [hq])) x hx
set_option maxRecDepth 100000 in
theorem headB_all {au rd : Int} {bl pl : List Part} (ha : 0 ≤ au ∧ au < 4) (hr : 0 ≤ rd ∧ rd ≤ 1048576) (hbl : bl.length ≤ 4) (hpl : pl.length ≤ 4) (hb : ∀ p ∈ bl, AllU8 p.bs) (hp : ∀ p ∈ pl, AllU8 p.bs) : AllU8 (headB au rd bl pl) := by
  intro x hx
  simp only [headB, rd3, digsB, List.mem_append, List.mem_cons, List.not_mem_nil, or_false] at hx
  rcases hx with ((hx | hx | hx | hx) | hx | hx) | hx | hx
  · omega
  · omega
  · omega
  · omega
  · omega
  · exact flatB_all bl hb x hx
  · omega
  · exact flatB_all pl hp x hx
set_option maxRecDepth 100000 in
set_option maxHeartbeats 1000000 in
theorem rHeaderDigest_new (au nu : Int) (ba : Option Addr) (bn bc : Nat) (bl : List Part) (pa : Option Addr) (pn pc : Nat) (pl : List Part) (w : World) (hbn : bn = bl.length) (hpn : pn = pl.length) (hLb : ListAt w ba bc bl) (hLp : ListAt w pa pc pl) (hub : ∀ p ∈ bl, AllU8 p.bs) (hup : ∀ p ∈ pl, AllU8 p.bs) (hF : headerF au nu bl pl = 0) :
    Calls Tryd.prog 28 #[.agg #[.int .i64 au, .int .i64 nu, .slice ba bn bc, .slice pa pn pc]] w fun e w' => ∃ g c, e = .returned (.slice (some ⟨g, 0, none⟩) 32 c) ∧ SliceAt w' (some ⟨g, 0, none⟩) c (tagD 2 (headB au nu bl pl)) ∧ Below w.heap.size w w' ∧ w.heap.size ≤ g := by
  have hA : Below w.heap.size w (w.alloc (.cells #[.int .i64 au, .int .i64 nu, .slice ba bn bc, .slice pa pn pc] 25)) := (Below.refl _ _).alloc (Nat.le_refl _) _
  obtain ⟨y1, y2, y3, y4, y5, y6⟩ := headerF_ok hF
  have hB := headerBytes_any au nu ba bn bc bl pa pn pc pl _ y1 ⟨by omega, y2.2⟩ hbn hpn (by omega) y4 y5 y6 (hLb.below hA) (hLp.below hA)
  have hu : AllU8 (headB au nu bl pl) := headB_all y1 ⟨by omega, y2.2⟩ (by omega) y4 hub hup
  have hbl : (headB au nu bl pl).length ≤ 300 := headB_le au nu bl pl (by omega) y4 y5 y6
  clear hbn hpn
  have HU : Hid _ := hu
  clear hu
  generalize headB au nu bl pl = B at *
  go_enter Tryd.func28, Tryd.ntmps28
  go_wp2_with fail
  refine hB.mono ?_
  rintro e w1 ⟨v1, rfl, ho1, hb1⟩
  replace hb1 := below_alloc hb1
  obtain ⟨xa, xc, hv, hxl, hx⟩ := owns_form ho1
  subst hv
  clear hxl ho1 hB
  have hP : ∀ p ∈ [(⟨xa, xc, B⟩ : Part)], AllU8 p.bs := by
    intro p hp
    obtain rfl : p = ⟨xa, xc, B⟩ := by simpa using hp
    exact HU.out
  have HP : Hid _ := hP
  clear hP
  go_wp2_with fail
  refine (taggedOf_new 2 [⟨xa, xc, B⟩] _ _ _ _ (by decide) rfl (by simp) (one_part w1 xa _ xc B rfl hx) HP.out).mono ?_
  rintro e w2 ⟨hb2, h9⟩
  rcases h9 with ⟨h9, _⟩ | ⟨_, g, c, rfl, hr, hge⟩
  · simp [psz] at h9; omega
  go_wp2_with fail
  go_ret
  refine ⟨g, c, rfl, ?_, hb1.trans ((below_alloc hb2).mono hb1.size), by rw [size_alloc] at hge; have := hb1.size; omega⟩
  rw [tagD, ← tagTo_part 2 xa xc B]
  exact hr
set_option maxRecDepth 100000 in
theorem rHeaderDigest_in (au nu : Int) (ba : Option Addr) (bn bc : Nat) (bl : List Part) (pa : Option Addr) (pn pc : Nat) (pl : List Part) (w : World) (hbn : bn = bl.length) (hpn : pn = pl.length) (hLb : ListAt w ba bc bl) (hLp : ListAt w pa pc pl) (hub : ∀ p ∈ bl, AllU8 p.bs) (hup : ∀ p ∈ pl, AllU8 p.bs) (hF : headerF au nu bl pl = 0) :
    Calls Tryd.prog 28 #[.agg #[.int .i64 au, .int .i64 nu, .slice ba bn bc, .slice pa pn pc]] w fun e w' => ∃ g c, e = .returned (.slice (some ⟨g, 0, none⟩) 32 c) ∧ SliceAt w' (some ⟨g, 0, none⟩) c (tagD 2 (headB au nu bl pl)) ∧ Below w.heap.size w w' := by
  refine (rHeaderDigest_new au nu ba bn bc bl pa pn pc pl w hbn hpn hLb hLp hub hup hF).mono ?_
  rintro e w' ⟨g, c, h1, h2, h3, _⟩
  exact ⟨g, c, h1, h2, h3⟩
end Go.Proofs.YtmpflkggbekpfaaDoor

namespace Go.Proofs.YtmpflkggbekpfaaDoor
open Go.RowKit

set_option maxRecDepth 100000 in
theorem step_append_on {ops : Array Oper} {o : Oper} {a : Act} {w : World} {K : Act → World → Prop} {Q : Exit → Act → World → Prop} {E : Prop}
    (hw : Region.wanted o (yielded ops a.tmps) = true) (d : Nat) (hd : o.dst = some d) (s x : Operand) (t : TypeId) (ho : o.op = .call { callee := .builtin .append, args := #[s, x], argTypes := #[t, t] })
    (base : Nat) (e : TypeId) (i : TypeInfo) (z : Value) (size bytes : Nat) (ht : Tryd.prog.underlying t = some (.slice e)) (hi : Tryd.prog.info? e = some i) (hz : i.zero = some z)
    (hsize : i.size = size) (hby : i.bytes = bytes) (hzs : z.cells.size = size) (hsz : 0 < size)
    (v : Value) (n : Nat) (xs : List Value) (hs : a.eval s = v) (hown : w.ownsRow base e size v n xs)
    (ad : Addr) (m c : Nat) (news : List Value) (hx : a.eval x = .slice (some ad) m c) (hl : news.length = m * size) (hnews : ∀ j u, news[j]? = some u → w.cell? (ad.add j) = some u) (h1 : ∀ u ∈ news, u.oneCell' = true)
    (h63 : n + m ≤ maxLen) (hbytes : (n + m) * bytes ≤ 140737488355328) (hbase : base ≤ w.heap.size)
    (hK : ∀ v' w', w'.ownsRow base e size v' (n + m) (xs ++ news) → Grew w v w' v' → K (a.put (some d) v') w') :
    if Region.wanted o (yielded ops a.tmps) = true then Oper.wp Tryd.prog o a w K Q else E := by
  rw [if_pos hw]
  obtain ⟨v', w', hr, h2, h3, _, h5⟩ := run_append_own_at (P := Tryd.prog) w base t o.type e i z size bytes ht hi hz hsize hby hzs hsz v n xs hown ad m c news hl hnews h1 h63 hbytes hbase
  unfold Oper.wp execOp
  simp only [ho, resolve, invoke, builtin, Sem.run_bind, Sem.run_pure, Result.andThen_ok, List.map_toArray, List.map_cons, List.map_nil, hs, hx, hr]
  rw [Oper.upon_value, hd]
  exact hK v' w' h2 (Grew.of h3 h5)
set_option maxRecDepth 100000 in
/-- An operation behind a guard that is no call, and that turns the world. -/
theorem step_run_on {ops : Array Oper} {o : Oper} {a : Act} {w : World} {K : Act → World → Prop} {Q : Exit → Act → World → Prop} {E : Prop}
    (hw : Region.wanted o (yielded ops a.tmps) = true) (d : Nat) (hd : o.dst = some d) (v : Value) (w' : World) (hr : (execOp a.eval o).run Tryd.prog w = .ok (.value v) w') (hK : K (a.put (some d) v) w') :
    if Region.wanted o (yielded ops a.tmps) = true then Oper.wp Tryd.prog o a w K Q else E := by
  rw [if_pos hw]
  unfold Oper.wp
  rw [hr, Oper.upon_value, hd]
  exact hK
set_option maxRecDepth 100000 in
/-- A store as the operation that comes up. -/
theorem step_store {ops : Array Oper} {o : Oper} {a : Act} {w : World} {K : Act → World → Prop} {Q : Exit → Act → World → Prop} {E : Prop}
    (hg : o.guard = none) (hd : o.dst = none) (w' : World) (hr : (execOp a.eval o).run Tryd.prog w = .ok .skip w') (hK : K a w') :
    if Region.wanted o (yielded ops a.tmps) = true then Oper.wp Tryd.prog o a w K Q else E := by
  have hw : Region.wanted o (yielded ops a.tmps) = true := by simp [Region.wanted, hg]
  rw [if_pos hw]
  unfold Oper.wp
  rw [hr, Oper.upon_skip, hd]
  exact hK
end Go.Proofs.YtmpflkggbekpfaaDoor

namespace Go.Proofs.YtmpflkggbekpfaaDoor
open Go.RowKit

set_option maxRecDepth 100000 in
theorem slice_not {w : World} {g c : Nat} {bs : List Int} (h : SliceAt w (some ⟨g, 0, none⟩) c bs) (b j : Nat) (v : Value) (hb : b ≠ g) : SliceAt (w.setCell ⟨b, j, none⟩ v) (some ⟨g, 0, none⟩) c bs := by
  refine ⟨h.le, h.max, h.some, h.nil, ?_⟩
  rcases h.bytes with hc | ⟨sb, so, e, hc⟩
  · exact .inl hc
  · cases e
    exact .inr ⟨g, 0, rfl, fun k hk => (World.cell?_setCell_far _ _ _ _ hb).trans (hc k hk)⟩
set_option maxRecDepth 100000 in
set_option maxHeartbeats 4000000 in
theorem provenBy_any (ls : List Sg) (sa : Option Addr) (n cap : Nat) (bad au rd : Int) (ba : Option Addr) (bc : Nat) (bl : List Part) (pa : Option Addr) (pc : Nat) (pl : List Part) (va : Option Addr) (vc : Nat) (vl : List Int) (w : World) (hn : n = ls.length) (hp : GTab w sa cap ls) (hLb : ListAt w ba bc bl) (hLp : ListAt w pa pc pl) (hub : ∀ p ∈ bl, AllU8 p.bs) (hup : ∀ p ∈ pl, AllU8 p.bs) (hv : IntsAt w va vl) (hvm : vl.length ≤ 9000000000000000000) :
    Calls Tryd.prog 11 #[.slice sa n cap, .int .i64 bad, .agg #[.int .i64 au, .int .i64 rd, .slice ba bl.length bc, .slice pa pl.length pc, .slice va vl.length vc]] w fun e w' => e = .returned (.int .i64 (provF (gvs ls) bad au rd (certF au rd bl pl vl) (hDig au rd bl pl) vl)) ∧ Below w.heap.size w w' := by
  subst hn
  have q3 := heap_alloc_new w (.cells #[.int .i64 au, .int .i64 rd, .slice ba bl.length bc, .slice pa pl.length pc, .slice va vl.length vc] 28)
  have hA := (Below.refl w.heap.size w).alloc (Nat.le_refl _) (.cells #[.int .i64 au, .int .i64 rd, .slice ba bl.length bc, .slice pa pl.length pc, .slice va vl.length vc] 28)
  go_enter Tryd.func11, Tryd.ntmps11
  go_wp2_with fail
  generalize w.alloc (.cells #[.int .i64 au, .int .i64 rd, .slice ba bl.length bc, .slice pa pl.length pc, .slice va vl.length vc] 28) = W0 at hA q3 ⊢
  have HB := hA
  replace hp := hp.below hA
  replace hLb := hLb.below hA
  replace hLp := hLp.below hA
  replace hv := hv.below hA
  clear hA
  have HC := signsFault_any ls sa _ cap W0 rfl hp
  rcases signsF_or (gvs ls) with h0 | h0
  · rw [h0] at HC
    refine HC.mono ?_
    rintro e w1 ⟨he, hb1⟩
    subst he
    dsimp only
    clear HC
    replace hp := hp.below hb1
    replace hLb := hLb.below hb1
    replace hLp := hLp.below hb1
    replace hv := hv.below hb1
    replace q3 := (hb1.block _ (lt_of_heap q3)).trans q3
    replace HB := HB.trans (hb1.mono HB.size)
    have H0 : Hid (signsF (gvs ls) = 0) := h0
    clear h0
    by_cases hbad : -1 ≤ bad ∧ bad ≤ 3
    · have HSet : Hid (setF (gvs ls) bad = 0) := setF_ok H0.out hbad
      have HK := certFault_any au rd ba bc bl pa pc pl va vc vl w1 hLb hLp hv hvm
      by_cases hc : certF au rd bl pl vl = 0
      · rw [hc] at HK
        have HCf : Hid (certF au rd bl pl vl = 0) := hc
        have hF0 : headerF au rd bl pl = 0 := by
          unfold certF at hc
          split at hc
          · exact absurd hc (by assumption)
          · rename_i g; simpa using g
        have HF0 : Hid (headerF au rd bl pl = 0) := hF0
        clear hc hF0
        have q3_c0 := cells_at q3 0 _ rfl
        have q3_c1 := cells_at q3 1 _ rfl
        have q3_c2 := cells_at q3 2 _ rfl
        have q3_c3 := cells_at q3 3 _ rfl
        have q3_c4 := cells_at q3 4 _ rfl
        go_wp2_with (go_at_call 26; refine (in_true _ _ _ _ hbad).mono ?_; rintro e w' ⟨rfl, rfl⟩)
        refine HK.mono ?_
        rintro e w2 ⟨he, hb2⟩
        subst he
        dsimp only
        clear HK
        clear q3_c0 q3_c1 q3_c2 q3_c3 q3_c4
        replace hp := hp.below hb2
        replace hLb := hLb.below hb2
        replace hLp := hLp.below hb2
        replace hv := hv.below hb2
        replace q3 := (hb2.block _ (lt_of_heap q3)).trans q3
        replace HB := HB.trans (hb2.mono HB.size)
        have q3_c0 := cells_at q3 0 _ rfl
        have q3_c1 := cells_at q3 1 _ rfl
        have q3_c2 := cells_at q3 2 _ rfl
        have q3_c3 := cells_at q3 3 _ rfl
        have q3_c4 := cells_at q3 4 _ rfl
        go_upto_region 8 with (fail)
        go_cut [8] (fun v wx => ∃ S9 g c, v = .pointer (some ⟨S9, 0, none⟩) ∧ wx.heap[S9]? = some (.cells #[.int .i64 au, .int .i64 rd, .slice (some ⟨g, 0, none⟩) 32 c] 47 (0, 0)) ∧ SliceAt wx (some ⟨g, 0, none⟩) c (hDig au rd bl pl) ∧ Below w2.heap.size w2 wx)
        case first =>
          have HD := fun W (hW : Below w2.heap.size w2 W) => rHeaderDigest_new au rd ba _ bc bl pa _ pc pl W rfl rfl (hLb.below hW) (hLp.below hW) hub hup HF0.out
          have hblt := lt_of_heap q3
          have hDr : Below w2.heap.size w2 w2.drew := (Below.refl _ _).drew
          refine wp_region_held_drew (S := fun w' => w'.cell? ⟨w.heap.size, 0, none⟩ = some (.int .i64 au) ∧ w'.cell? ⟨w.heap.size, 1, none⟩ = some (.int .i64 rd) ∧ w'.cell? ⟨w.heap.size, 2, none⟩ = some (.slice ba bl.length bc) ∧ w'.cell? ⟨w.heap.size, 3, none⟩ = some (.slice pa pl.length pc)) (by kernel_rfl) ⟨q3_c0, q3_c1, q3_c2, q3_c3⟩ (fun hHeld => ?_)
          refine take_dst (i := 0) (d := 26) (v := .pointer (some ⟨w.heap.size, 0, none⟩)) rfl rfl (by kernel_rfl) (by kernel_rfl) (by kernel_rfl) (fun _ _ _ h => h) (Or.inl ⟨by rfl, ?_⟩) hHeld ?_
          · (intro w0 hSw; (try dsimp only at hSw); go_simp)
          simp only [Act.put, List.setIfInBounds_toArray, List.set_cons_zero, List.set_cons_succ]
          refine take_dst (i := 1) (d := 27) (v := .pointer (some ⟨w.heap.size, 0, none⟩)) rfl rfl (by kernel_rfl) (by kernel_rfl) (by kernel_rfl) (fun _ _ _ h => h) (Or.inl ⟨by rfl, ?_⟩) hHeld ?_
          · (intro w0 hSw; (try dsimp only at hSw); go_simp)
          simp only [Act.put, List.setIfInBounds_toArray, List.set_cons_zero, List.set_cons_succ]
          refine take_dst (i := 2) (d := 28) (v := .int .i64 au) rfl rfl (by kernel_rfl) (by kernel_rfl) (by kernel_rfl) (fun _ _ _ h => h) (Or.inl ⟨by rfl, ?_⟩) hHeld ?_
          · (intro w0 hSw; (try dsimp only at hSw); go_simp)
          simp only [Act.put, List.setIfInBounds_toArray, List.set_cons_zero, List.set_cons_succ]
          refine take_dst (i := 3) (d := 29) (v := .pointer (some ⟨w.heap.size, 0, none⟩)) rfl rfl (by kernel_rfl) (by kernel_rfl) (by kernel_rfl) (fun _ _ _ h => h) (Or.inl ⟨by rfl, ?_⟩) hHeld ?_
          · (intro w0 hSw; (try dsimp only at hSw); go_simp)
          simp only [Act.put, List.setIfInBounds_toArray, List.set_cons_zero, List.set_cons_succ]
          refine take_dst (i := 4) (d := 30) (v := .pointer (some ⟨w.heap.size, 1, none⟩)) rfl rfl (by kernel_rfl) (by kernel_rfl) (by kernel_rfl) (fun _ _ _ h => h) (Or.inl ⟨by rfl, ?_⟩) hHeld ?_
          · (intro w0 hSw; (try dsimp only at hSw); go_simp)
          simp only [Act.put, List.setIfInBounds_toArray, List.set_cons_zero, List.set_cons_succ]
          refine take_dst (i := 5) (d := 31) (v := .int .i64 rd) rfl rfl (by kernel_rfl) (by kernel_rfl) (by kernel_rfl) (fun _ _ _ h => h) (Or.inl ⟨by rfl, ?_⟩) hHeld ?_
          · (intro w0 hSw; (try dsimp only at hSw); go_simp)
          simp only [Act.put, List.setIfInBounds_toArray, List.set_cons_zero, List.set_cons_succ]
          refine take_dst (i := 6) (d := 32) (v := .pointer (some ⟨w.heap.size, 0, none⟩)) rfl rfl (by kernel_rfl) (by kernel_rfl) (by kernel_rfl) (fun _ _ _ h => h) (Or.inl ⟨by rfl, ?_⟩) hHeld ?_
          · (intro w0 hSw; (try dsimp only at hSw); go_simp)
          simp only [Act.put, List.setIfInBounds_toArray, List.set_cons_zero, List.set_cons_succ]
          refine take_dst (i := 7) (d := 33) (v := .agg #[.int .i64 au, .int .i64 rd, .slice ba bl.length bc, .slice pa pl.length pc]) rfl rfl (by kernel_rfl) (by kernel_rfl) (by kernel_rfl) (fun _ _ _ h => h) (Or.inl ⟨by rfl, ?_⟩) hHeld ?_
          · (intro w0 hSw; (try dsimp only at hSw); go_simp)
          simp only [Act.put, List.setIfInBounds_toArray, List.set_cons_zero, List.set_cons_succ]
          refine wpAnyH_ready (rs := [8, 10]) (by kernel_rfl) (by simp) (AllReadyH.cons rfl (fun K hK => ?_) (AllReadyH.cons rfl (fun K hK => ?_) AllReadyH.nil))
          · refine step_calls_dst rfl 34 rfl 28 [.tmp 33] #[25] rfl [.agg #[.int .i64 au, .int .i64 rd, .slice ba bl.length bc, .slice pa pl.length pc]] rfl (enters_of Tryd.func28 (by kernel_rfl) rfl) (fun v w' => ∃ g c, v = .slice (some ⟨g, 0, none⟩) 32 c ∧ SliceAt w' (some ⟨g, 0, none⟩) c (hDig au rd bl pl) ∧ Below (w2.drew).heap.size (w2.drew) w' ∧ (w2.drew).heap.size ≤ g) ((HD (w2.drew) hDr).mono (fun e wz ⟨g, c, h1, h2, h3, h4⟩ => ⟨_, h1, g, c, rfl, h2, h3, h4⟩)) ?_
            rintro v w3 ⟨g, c, rfl, hs3, hb3, hg3⟩
            replace hb3 : Below w2.heap.size w2 w3 := below_drew hb3
            have q4 := (hb3.block _ hblt).trans q3
            refine hK.out _ _ ⟨cells_at q4 0 _ rfl, cells_at q4 1 _ rfl, cells_at q4 2 _ rfl, cells_at q4 3 _ rfl⟩ (fun hHeld => ?_)
            simp only [Act.put, List.setIfInBounds_toArray, List.set_cons_zero, List.set_cons_succ]
            refine take_dst (i := 9) (d := 35) (v := .agg #[.int .i64 au, .int .i64 rd, .slice (some ⟨g, 0, none⟩) 32 c]) rfl rfl (by kernel_rfl) (by kernel_rfl) (by kernel_rfl) (fun _ _ _ h => h) (Or.inl ⟨by rfl, ?_⟩) hHeld ?_
            · (intro w0 hSw; (try dsimp only at hSw); go_simp)
            simp only [Act.put, List.setIfInBounds_toArray, List.set_cons_zero, List.set_cons_succ]
            refine wpAnyH_ready (rs := [10]) (by kernel_rfl) (by simp) (AllReadyH.cons rfl (fun K hK => ?_) AllReadyH.nil)
            refine step_run rfl 8 rfl (.pointer (some ⟨w3.heap.size, 0, none⟩)) (w3.alloc (.cells #[.int .i64 0, .int .i64 0, .slice none 0 0] 47)) (by go_simp) ?_
            have qz := heap_alloc_new w3 (.cells #[.int .i64 0, .int .i64 0, .slice none 0 0] 47)
            have hb4 := hb3.alloc hb3.size (.cells #[.int .i64 0, .int .i64 0, .slice none 0 0] 47)
            have q5 := (hb4.block _ hblt).trans q3
            have hA3 : Below w3.heap.size w3 (w3.alloc (.cells #[.int .i64 0, .int .i64 0, .slice none 0 0] 47)) := (Below.refl _ _).alloc (Nat.le_refl _) _
            have hs4 := hs3.below hA3
            have hgl : g < w3.heap.size := by
              rcases hs3.bytes with hc | ⟨sb, so, e, hc⟩
              · have := hDig_length au rd bl pl; rw [hc] at this; simp at this
              · cases e; exact block_lt_of_cell (hc 0 (by rw [hDig_length]; decide))
            have hgn : w3.heap.size ≠ g := by omega
            have hcn : w3.heap.size ≠ w.heap.size := by have := hb3.size; omega
            have hle9 : w2.heap.size ≤ w3.heap.size := hb3.size
            refine hK.out _ _ ⟨cells_at q5 0 _ rfl, cells_at q5 1 _ rfl, cells_at q5 2 _ rfl, cells_at q5 3 _ rfl⟩ (fun hHeld => ?_)
            simp only [Act.put, List.setIfInBounds_toArray, List.set_cons_zero, List.set_cons_succ]
            generalize hS9 : w3.heap.size = S9 at qz hgn hcn hle9 ⊢
            generalize hW4 : w3.alloc (.cells #[.int .i64 0, .int .i64 0, .slice none 0 0] 47) = W4 at qz hb4 q5 hs4 ⊢
            refine wpAnyH_ready (rs := [11]) (by kernel_rfl) (by simp) (AllReadyH.cons rfl (fun K hK => ?_) AllReadyH.nil)
            have z0 := cells_at qz 0 _ rfl
            have z1 := cells_at qz 1 _ rfl
            have z2 := cells_at qz 2 _ rfl
            have y0 := frozen_at qz 0
            have y1 := frozen_at qz 1
            have y2 := frozen_at qz 2
            refine step_store rfl rfl (((W4.setCell ⟨S9, 0, none⟩ (.int .i64 au)).setCell ⟨S9, 1, none⟩ (.int .i64 rd)).setCell ⟨S9, 2, none⟩ (.slice (some ⟨g, 0, none⟩) 32 c)) (by go_simp) ?_
            have qy : (((W4.setCell ⟨S9, 0, none⟩ (.int .i64 au)).setCell ⟨S9, 1, none⟩ (.int .i64 rd)).setCell ⟨S9, 2, none⟩ (.slice (some ⟨g, 0, none⟩) 32 c)).heap[S9]? = some (.cells #[.int .i64 au, .int .i64 rd, .slice (some ⟨g, 0, none⟩) 32 c] 47 (0, 0)) := by simpa using heap_setCell_same _ _ 2 _ _ _ (heap_setCell_same _ _ 1 _ _ _ (heap_setCell_same _ _ 0 _ _ _ qz))
            have q6 := heap_far (j := 2) (v := .slice (some ⟨g, 0, none⟩) 32 c) (heap_far (j := 1) (v := .int .i64 rd) (heap_far (j := 0) (v := .int .i64 au) q5 (Ne.symm hcn)) (Ne.symm hcn)) (Ne.symm hcn)
            have hs6 : SliceAt (((W4.setCell ⟨S9, 0, none⟩ (.int .i64 au)).setCell ⟨S9, 1, none⟩ (.int .i64 rd)).setCell ⟨S9, 2, none⟩ (.slice (some ⟨g, 0, none⟩) 32 c)) (some ⟨g, 0, none⟩) c (hDig au rd bl pl) := slice_not (slice_not (slice_not hs4 _ _ _ hgn) _ _ _ hgn) _ _ _ hgn
            have hb6 := ((hb4.setCell (p := ⟨S9, 0, none⟩) hle9 (.int .i64 au)).setCell (p := ⟨S9, 1, none⟩) hle9 (.int .i64 rd)).setCell (p := ⟨S9, 2, none⟩) hle9 (.slice (some ⟨g, 0, none⟩) 32 c)
            generalize ((W4.setCell ⟨S9, 0, none⟩ (.int .i64 au)).setCell ⟨S9, 1, none⟩ (.int .i64 rd)).setCell ⟨S9, 2, none⟩ (.slice (some ⟨g, 0, none⟩) 32 c) = W5 at qy q6 hs6 hb6 ⊢
            refine hK.out _ _ ⟨cells_at q6 0 _ rfl, cells_at q6 1 _ rfl, cells_at q6 2 _ rfl, cells_at q6 3 _ rfl⟩ (fun hHeld => ?_)
            refine wpAnyH_done (by kernel_rfl) ?_ _
            go_wp2_with fail
            go_meet
            case rel => exact ⟨S9, g, c, rfl, qy, hs6, hb6⟩
          · refine step_run rfl 8 rfl (.pointer (some ⟨w2.heap.size, 0, none⟩)) (w2.drew.alloc (.cells #[.int .i64 0, .int .i64 0, .slice none 0 0] 47)) (by go_simp) ?_
            have qa := heap_alloc_new w2.drew (.cells #[.int .i64 0, .int .i64 0, .slice none 0 0] 47)
            have hba : Below w2.heap.size w2 (w2.drew.alloc (.cells #[.int .i64 0, .int .i64 0, .slice none 0 0] 47)) := hDr.alloc hDr.size _
            have q4 := (hba.block _ hblt).trans q3
            have hcn : w2.heap.size ≠ w.heap.size := by omega
            have hle9 : w2.heap.size ≤ w2.heap.size := Nat.le_refl _
            have hsz9 : w2.heap.size < (w2.drew.alloc (.cells #[.int .i64 0, .int .i64 0, .slice none 0 0] 47)).heap.size := by rw [size_alloc]; exact Nat.lt_succ_self _
            refine hK.out _ _ ⟨cells_at q4 0 _ rfl, cells_at q4 1 _ rfl, cells_at q4 2 _ rfl, cells_at q4 3 _ rfl⟩ (fun hHeld => ?_)
            simp only [Act.put, List.setIfInBounds_toArray, List.set_cons_zero, List.set_cons_succ]
            generalize hWa : w2.drew.alloc (.cells #[.int .i64 0, .int .i64 0, .slice none 0 0] 47) = Wa at qa hba q4 hsz9 ⊢
            refine wpAnyH_ready (rs := [8]) (by kernel_rfl) (by simp) (AllReadyH.cons rfl (fun K hK => ?_) AllReadyH.nil)
            refine step_calls_dst rfl 34 rfl 28 [.tmp 33] #[25] rfl [.agg #[.int .i64 au, .int .i64 rd, .slice ba bl.length bc, .slice pa pl.length pc]] rfl (enters_of Tryd.func28 (by kernel_rfl) rfl) (fun v w' => ∃ g c, v = .slice (some ⟨g, 0, none⟩) 32 c ∧ SliceAt w' (some ⟨g, 0, none⟩) c (hDig au rd bl pl) ∧ Below (Wa).heap.size (Wa) w' ∧ (Wa).heap.size ≤ g) ((HD (Wa) hba).mono (fun e wz ⟨g, c, h1, h2, h3, h4⟩ => ⟨_, h1, g, c, rfl, h2, h3, h4⟩)) ?_
            rintro v W4 ⟨g, c, rfl, hs4, hb3, hg3⟩
            have hb4 := hba.trans (hb3.mono hba.size)
            have qz := (hb3.block _ (lt_of_heap qa)).trans qa
            have q5 := (hb4.block _ hblt).trans q3
            have hgn : w2.heap.size ≠ g := by omega
            refine hK.out _ _ ⟨cells_at q5 0 _ rfl, cells_at q5 1 _ rfl, cells_at q5 2 _ rfl, cells_at q5 3 _ rfl⟩ (fun hHeld => ?_)
            simp only [Act.put, List.setIfInBounds_toArray, List.set_cons_zero, List.set_cons_succ]
            refine take_dst (i := 9) (d := 35) (v := .agg #[.int .i64 au, .int .i64 rd, .slice (some ⟨g, 0, none⟩) 32 c]) rfl rfl (by kernel_rfl) (by kernel_rfl) (by kernel_rfl) (fun _ _ _ h => h) (Or.inl ⟨by rfl, ?_⟩) hHeld ?_
            · (intro w0 hSw; (try dsimp only at hSw); go_simp)
            simp only [Act.put, List.setIfInBounds_toArray, List.set_cons_zero, List.set_cons_succ]
            generalize hS9 : w2.drew.heap.size = S9 at qz
            have hS9 : w2.heap.size = S9 := hS9
            rw [hS9] at hgn hcn
            have hle9 : w2.heap.size ≤ S9 := Nat.le_of_eq hS9
            rw [hS9]
            refine wpAnyH_ready (rs := [11]) (by kernel_rfl) (by simp) (AllReadyH.cons rfl (fun K hK => ?_) AllReadyH.nil)
            have z0 := cells_at qz 0 _ rfl
            have z1 := cells_at qz 1 _ rfl
            have z2 := cells_at qz 2 _ rfl
            have y0 := frozen_at qz 0
            have y1 := frozen_at qz 1
            have y2 := frozen_at qz 2
            refine step_store rfl rfl (((W4.setCell ⟨S9, 0, none⟩ (.int .i64 au)).setCell ⟨S9, 1, none⟩ (.int .i64 rd)).setCell ⟨S9, 2, none⟩ (.slice (some ⟨g, 0, none⟩) 32 c)) (by go_simp) ?_
            have qy : (((W4.setCell ⟨S9, 0, none⟩ (.int .i64 au)).setCell ⟨S9, 1, none⟩ (.int .i64 rd)).setCell ⟨S9, 2, none⟩ (.slice (some ⟨g, 0, none⟩) 32 c)).heap[S9]? = some (.cells #[.int .i64 au, .int .i64 rd, .slice (some ⟨g, 0, none⟩) 32 c] 47 (0, 0)) := by simpa using heap_setCell_same _ _ 2 _ _ _ (heap_setCell_same _ _ 1 _ _ _ (heap_setCell_same _ _ 0 _ _ _ qz))
            have q6 := heap_far (j := 2) (v := .slice (some ⟨g, 0, none⟩) 32 c) (heap_far (j := 1) (v := .int .i64 rd) (heap_far (j := 0) (v := .int .i64 au) q5 (Ne.symm hcn)) (Ne.symm hcn)) (Ne.symm hcn)
            have hs6 : SliceAt (((W4.setCell ⟨S9, 0, none⟩ (.int .i64 au)).setCell ⟨S9, 1, none⟩ (.int .i64 rd)).setCell ⟨S9, 2, none⟩ (.slice (some ⟨g, 0, none⟩) 32 c)) (some ⟨g, 0, none⟩) c (hDig au rd bl pl) := slice_not (slice_not (slice_not hs4 _ _ _ hgn) _ _ _ hgn) _ _ _ hgn
            have hb6 := ((hb4.setCell (p := ⟨S9, 0, none⟩) hle9 (.int .i64 au)).setCell (p := ⟨S9, 1, none⟩) hle9 (.int .i64 rd)).setCell (p := ⟨S9, 2, none⟩) hle9 (.slice (some ⟨g, 0, none⟩) 32 c)
            generalize ((W4.setCell ⟨S9, 0, none⟩ (.int .i64 au)).setCell ⟨S9, 1, none⟩ (.int .i64 rd)).setCell ⟨S9, 2, none⟩ (.slice (some ⟨g, 0, none⟩) 32 c) = W5 at qy q6 hs6 hb6 ⊢
            refine hK.out _ _ ⟨cells_at q6 0 _ rfl, cells_at q6 1 _ rfl, cells_at q6 2 _ rfl, cells_at q6 3 _ rfl⟩ (fun hHeld => ?_)
            refine wpAnyH_done (by kernel_rfl) ?_ _
            go_wp2_with fail
            go_meet
            case rel => exact ⟨S9, g, c, rfl, qy, hs6, hb6⟩
        case rest =>
          obtain ⟨S9, g, c, rfl, q9, hs9, hb9⟩ := hcut
          clear q3_c0 q3_c1 q3_c2 q3_c3 q3_c4
          replace hp := hp.below hb9
          replace hLb := hLb.below hb9
          replace hLp := hLp.below hb9
          replace hv := hv.below hb9
          replace q3 := (hb9.block _ (lt_of_heap q3)).trans q3
          replace HB := HB.trans (hb9.mono HB.size)
          have HPF : Hid (provF (gvs ls) bad au rd (certF au rd bl pl vl) (hDig au rd bl pl) vl = if lacksF (gvs ls) bad au rd (hDig au rd bl pl) au || vl.any (lacksF (gvs ls) bad au rd (hDig au rd bl pl)) then 11 else 0) := by
            show _ = _
            rw [provF, if_neg (by simpa using HSet.out), if_neg (by simpa using HCf.out)]
          have HH := fun nd W (hW : Below wc.heap.size wc W) => hasSign_any ls sa ls.length cap ⟨nd, au, rd, ⟨some ⟨g, 0, none⟩, c, (hDig au rd bl pl)⟩⟩ 32 W (hDig_length _ _ _ _).symm (Nat.le_refl _) hp.small (hp.slots.below hW) (hs9.below hW) (hDig_u8 _ _ _ _)
          simp only [List.take_of_length_le (show (gvs ls).length ≤ ls.length by rw [gvs_length]; exact Nat.le_refl _), Sg.v] at HH
          have HHid : Hid (∀ nd W, Below wc.heap.size wc W → Calls Tryd.prog 29 #[.slice sa ls.length cap, .agg #[.int .i64 nd, .int .i64 au, .int .i64 rd, .slice (some ⟨g, 0, none⟩) 32 c]] W fun e w' => e = .returned (.bool (decide ((nd, au, rd, (hDig au rd bl pl)) ∈ gvs ls))) ∧ Below W.heap.size W w') := fun nd W hW => (HH nd W hW).mono fun e w' h => ⟨by rw [h.1], h.2⟩
          clear HH
          have HL0 : Hid (∀ nd, nd = bad → lacksF (gvs ls) bad au rd (hDig au rd bl pl) nd = false) := by
            show ∀ nd, _
            intro nd h
            simp [lacksF, h]
          have HL1 : Hid (∀ nd, nd ≠ bad → decide ((nd, au, rd, (hDig au rd bl pl)) ∈ gvs ls) = true → lacksF (gvs ls) bad au rd (hDig au rd bl pl) nd = false) := by
            show ∀ nd, _
            intro nd h h2
            simp only [lacksF, h2]
            simp
          have HL2 : Hid (∀ nd, nd ≠ bad → decide ((nd, au, rd, (hDig au rd bl pl)) ∈ gvs ls) = false → lacksF (gvs ls) bad au rd (hDig au rd bl pl) nd = true) := by
            show ∀ nd, _
            intro nd h h2
            simp only [lacksF, h2]
            simp [h]
          have q3_c0 := cells_at q3 0 _ rfl
          have q3_c1 := cells_at q3 1 _ rfl
          have q3_c2 := cells_at q3 2 _ rfl
          have q3_c3 := cells_at q3 3 _ rfl
          have q3_c4 := cells_at q3 4 _ rfl
          have q9_c0 := cells_at q9 0 _ rfl
          have q9_c1 := cells_at q9 1 _ rfl
          have q9_c2 := cells_at q9 2 _ rfl
          by_cases hab : au = bad
          · have HA0 : Hid (lacksF (gvs ls) bad au rd (hDig au rd bl pl) au = false) := HL0.out au hab
            have han : (au != bad) = false := by simpa using hab
            clear hab
            go_wp2_with fail
            clear q3_c0 q3_c1 q3_c2 q3_c3 q3_c4 q9_c0 q9_c1 q9_c2
            have q3W := ((Below.refl wc.heap.size wc).block _ (lt_of_heap q3)).trans q3
            have q9W := ((Below.refl wc.heap.size wc).block _ (lt_of_heap q9)).trans q9
            have hvW := hv.below (Below.refl wc.heap.size wc)
            have HBW := HB.trans ((Below.refl wc.heap.size wc).mono HB.size)
            go_loopw [9] (fun i wr => ∃ k : Nat, k ≤ vl.length ∧ i = .int .i64 k ∧ (∀ y ∈ vl.take k, lacksF (gvs ls) bad au rd (hDig au rd bl pl) y = false) ∧ Below wc.heap.size wc wr) (fun i _ => vl.length - (intOf i).toNat)
            case atStart => exact ⟨0, Nat.zero_le _, rfl, (fun s hs => by simp at hs), Below.refl _ _⟩
            case round =>
              obtain ⟨k, hk, rfl, hno, hb⟩ := hrel
              have q3r := (hb.block _ (lt_of_heap q3W)).trans q3W
              have q9r := (hb.block _ (lt_of_heap q9W)).trans q9W
              have c4 := cells_at q3r 4 _ rfl
              have e0 := cells_at q9r 0 _ rfl
              have e1 := cells_at q9r 1 _ rfl
              have e2 := cells_at q9r 2 _ rfl
              have HNo : Hid (∀ y ∈ vl.take k, lacksF (gvs ls) bad au rd (hDig au rd bl pl) y = false) := hno
              clear hno
              have hBr := HBW.trans (hb.mono HBW.size)
              by_cases hlt : k < vl.length
              · have hvr := hvW.below hb
                obtain ⟨vb, vo, rfl, hc⟩ : ∃ sb so, va = some ⟨sb, so, none⟩ ∧ ∀ j, j < vl.length → wr.cell? ⟨sb, so + j, none⟩ = some (.int .i64 (vl.getD j 0)) := by
                  rcases hvr.cells with h | h
                  · rw [h] at hlt; simp at hlt
                  · exact h
                have cv := hc k hlt
                have hgk : vl.getD k 0 = vl[k] := by simp [List.getD, hlt]
                rw [hgk] at cv
                have HY : Hid (lacksF (gvs ls) bad au rd (hDig au rd bl pl) (vl[k]) = true → provF (gvs ls) bad au rd (certF au rd bl pl vl) (hDig au rd bl pl) vl = 11) := by
                  show _ → _
                  intro h
                  rw [HPF.out, HA0.out, List.any_eq_true.2 ⟨_, List.getElem_mem hlt, h⟩]; rfl
                have HN : Hid (lacksF (gvs ls) bad au rd (hDig au rd bl pl) (vl[k]) = false → ∀ y ∈ vl.take (k + 1), lacksF (gvs ls) bad au rd (hDig au rd bl pl) y = false) := by
                  show _ → _
                  intro h y hy
                  rw [memI_succ hlt] at hy
                  rcases hy with hy | rfl
                  · exact HNo.out y hy
                  · exact h
                have hltI : (k : Int) < vl.length := by omega
                have h3lt := lt_of_heap q3r
                have h9lt := lt_of_heap q9r
                have hvlt := block_lt_of_cell cv
                clear hc hgk hvr
                generalize vl[k] = y at *
                by_cases hyb : y = bad
                · have hn := HN.out (HL0.out y hyb)
                  have Hn : Hid _ := hn
                  have hyn : (y != bad) = false := by simpa using hyb
                  clear hn HY HN hyb
                  go_wp2_with fail
                  refine wp_region_held_drew (S := fun w' => w'.cell? ⟨w.heap.size, 4, none⟩ = some (.slice (some ⟨vb, vo, none⟩) vl.length vc) ∧ w'.cell? ⟨vb, vo + k, none⟩ = some (.int .i64 y) ∧ w'.cell? ⟨S9, 0, none⟩ = some (.int .i64 au) ∧ w'.cell? ⟨S9, 1, none⟩ = some (.int .i64 rd) ∧ w'.cell? ⟨S9, 2, none⟩ = some (.slice (some ⟨g, 0, none⟩) 32 c)) (by kernel_rfl) ⟨c4, cv, e0, e1, e2⟩ (fun hHeld => ?_)
                  refine take_dst (i := 0) (d := 58) (v := .pointer (some ⟨w.heap.size, 4, none⟩)) rfl rfl (by kernel_rfl) (by kernel_rfl) (by kernel_rfl) (fun _ _ _ h => h) (Or.inl ⟨by rfl, ?_⟩) hHeld ?_
                  · (intro w0 hSw; (try dsimp only at hSw); go_simp)
                  simp only [Act.put, List.setIfInBounds_toArray, List.set_cons_zero, List.set_cons_succ]
                  refine take_dst (i := 1) (d := 59) (v := .slice (some ⟨vb, vo, none⟩) vl.length vc) rfl rfl (by kernel_rfl) (by kernel_rfl) (by kernel_rfl) (fun _ _ _ h => h) (Or.inl ⟨by rfl, ?_⟩) hHeld ?_
                  · (intro w0 hSw; (try dsimp only at hSw); go_simp)
                  simp only [Act.put, List.setIfInBounds_toArray, List.set_cons_zero, List.set_cons_succ]
                  refine take_dst (i := 2) (d := 60) (v := .int .i64 k) rfl rfl (by kernel_rfl) (by kernel_rfl) (by kernel_rfl) (fun _ _ _ h => h) (Or.inl ⟨by rfl, ?_⟩) hHeld ?_
                  · (intro w0 hSw; (try dsimp only at hSw); go_simp)
                  simp only [Act.put, List.setIfInBounds_toArray, List.set_cons_zero, List.set_cons_succ]
                  refine take_dst (i := 3) (d := 61) (v := .pointer (some ⟨vb, vo + k, none⟩)) rfl rfl (by kernel_rfl) (by kernel_rfl) (by kernel_rfl) (fun _ _ _ h => h) (Or.inl ⟨by rfl, ?_⟩) hHeld ?_
                  · (intro w0 hSw; (try dsimp only at hSw); go_simp)
                  simp only [Act.put, List.setIfInBounds_toArray, List.set_cons_zero, List.set_cons_succ]
                  refine take_dst (i := 4) (d := 62) (v := .int .i64 y) rfl rfl (by kernel_rfl) (by kernel_rfl) (by kernel_rfl) (fun _ _ _ h => h) (Or.inl ⟨by rfl, ?_⟩) hHeld ?_
                  · (intro w0 hSw; (try dsimp only at hSw); go_simp)
                  simp only [Act.put, List.setIfInBounds_toArray, List.set_cons_zero, List.set_cons_succ]
                  refine take_dst (i := 5) (d := 63) (v := .int .i64 bad) rfl rfl (by kernel_rfl) (by kernel_rfl) (by kernel_rfl) (fun _ _ _ h => h) (Or.inl ⟨by rfl, ?_⟩) hHeld ?_
                  · (intro w0 hSw; (try dsimp only at hSw); go_simp)
                  simp only [Act.put, List.setIfInBounds_toArray, List.set_cons_zero, List.set_cons_succ]
                  refine take_dst (i := 6) (d := 64) (v := .bool false) rfl rfl (by kernel_rfl) (by kernel_rfl) (by kernel_rfl) (fun _ _ _ h => h) (Or.inl ⟨by rfl, ?_⟩) hHeld ?_
                  · (intro w0 hSw; (try dsimp only at hSw); go_simp)
                  simp only [Act.put, List.setIfInBounds_toArray, List.set_cons_zero, List.set_cons_succ]
                  refine take_dst (i := 7) (d := 65) (v := .bool false) rfl rfl (by kernel_rfl) (by kernel_rfl) (by kernel_rfl) (fun _ _ _ h => h) (Or.inl ⟨by rfl, ?_⟩) hHeld ?_
                  · (intro w0 hSw; (try dsimp only at hSw); go_simp)
                  simp only [Act.put, List.setIfInBounds_toArray, List.set_cons_zero, List.set_cons_succ]
                  refine take_dst (i := 8) (d := 66) (v := undef) rfl rfl (by kernel_rfl) (by kernel_rfl) (by kernel_rfl) (fun _ _ _ h => h) (Or.inr ⟨by rfl, rfl⟩) hHeld ?_
                  simp only [Act.put, List.setIfInBounds_toArray, List.set_cons_zero, List.set_cons_succ]
                  refine take_dst (i := 9) (d := 67) (v := undef) rfl rfl (by kernel_rfl) (by kernel_rfl) (by kernel_rfl) (fun _ _ _ h => h) (Or.inr ⟨by rfl, rfl⟩) hHeld ?_
                  simp only [Act.put, List.setIfInBounds_toArray, List.set_cons_zero, List.set_cons_succ]
                  refine take_dst (i := 10) (d := 68) (v := undef) rfl rfl (by kernel_rfl) (by kernel_rfl) (by kernel_rfl) (fun _ _ _ h => h) (Or.inr ⟨by rfl, rfl⟩) hHeld ?_
                  simp only [Act.put, List.setIfInBounds_toArray, List.set_cons_zero, List.set_cons_succ]
                  refine take_dst (i := 11) (d := 69) (v := undef) rfl rfl (by kernel_rfl) (by kernel_rfl) (by kernel_rfl) (fun _ _ _ h => h) (Or.inr ⟨by rfl, rfl⟩) hHeld ?_
                  simp only [Act.put, List.setIfInBounds_toArray, List.set_cons_zero, List.set_cons_succ]
                  refine take_dst (i := 12) (d := 70) (v := undef) rfl rfl (by kernel_rfl) (by kernel_rfl) (by kernel_rfl) (fun _ _ _ h => h) (Or.inr ⟨by rfl, rfl⟩) hHeld ?_
                  simp only [Act.put, List.setIfInBounds_toArray, List.set_cons_zero, List.set_cons_succ]
                  refine take_dst (i := 13) (d := 71) (v := undef) rfl rfl (by kernel_rfl) (by kernel_rfl) (by kernel_rfl) (fun _ _ _ h => h) (Or.inr ⟨by rfl, rfl⟩) hHeld ?_
                  simp only [Act.put, List.setIfInBounds_toArray, List.set_cons_zero, List.set_cons_succ]
                  refine take_dst (i := 14) (d := 72) (v := undef) rfl rfl (by kernel_rfl) (by kernel_rfl) (by kernel_rfl) (fun _ _ _ h => h) (Or.inr ⟨by rfl, rfl⟩) hHeld ?_
                  simp only [Act.put, List.setIfInBounds_toArray, List.set_cons_zero, List.set_cons_succ]
                  refine take_dst (i := 15) (d := 73) (v := undef) rfl rfl (by kernel_rfl) (by kernel_rfl) (by kernel_rfl) (fun _ _ _ h => h) (Or.inr ⟨by rfl, rfl⟩) hHeld ?_
                  simp only [Act.put, List.setIfInBounds_toArray, List.set_cons_zero, List.set_cons_succ]
                  refine take_dst (i := 16) (d := 74) (v := undef) rfl rfl (by kernel_rfl) (by kernel_rfl) (by kernel_rfl) (fun _ _ _ h => h) (Or.inr ⟨by rfl, rfl⟩) hHeld ?_
                  simp only [Act.put, List.setIfInBounds_toArray, List.set_cons_zero, List.set_cons_succ]
                  refine take_dst (i := 17) (d := 75) (v := undef) rfl rfl (by kernel_rfl) (by kernel_rfl) (by kernel_rfl) (fun _ _ _ h => h) (Or.inr ⟨by rfl, rfl⟩) hHeld ?_
                  simp only [Act.put, List.setIfInBounds_toArray, List.set_cons_zero, List.set_cons_succ]
                  refine take_dst (i := 18) (d := 76) (v := .bool false) rfl rfl (by kernel_rfl) (by kernel_rfl) (by kernel_rfl) (fun _ _ _ h => h) (Or.inl ⟨by rfl, ?_⟩) hHeld ?_
                  · (intro w0 hSw; (try dsimp only at hSw); go_simp)
                  simp only [Act.put, List.setIfInBounds_toArray, List.set_cons_zero, List.set_cons_succ]
                  refine wpAnyH_done (by kernel_rfl) ?_ _
                  go_wp2_with fail
                  go_roundw
                  case rel => exact ⟨k + 1, by omega, by go_num, Hn.out, hb.drew⟩
                  case measure => simp [intOf]; omega
                · have hyn : (y != bad) = true := by simpa using hyb
                  have HC := HHid.out y wr.drew ((Below.refl wc.heap.size wc).trans (hb.drew.mono (Below.refl wc.heap.size wc).size))
                  have HT : Hid (decide ((y, au, rd, (hDig au rd bl pl)) ∈ gvs ls) = true → ∀ z ∈ vl.take (k + 1), lacksF (gvs ls) bad au rd (hDig au rd bl pl) z = false) := fun h => HN.out (HL1.out y hyb h)
                  have HE : Hid (decide ((y, au, rd, (hDig au rd bl pl)) ∈ gvs ls) = false → provF (gvs ls) bad au rd (certF au rd bl pl vl) (hDig au rd bl pl) vl = 11) := fun h => HY.out (HL2.out y hyb h)
                  clear HY HN hyb
                  generalize decide ((y, au, rd, (hDig au rd bl pl)) ∈ gvs ls) = r at HC HT HE
                  go_wp2_with fail
                  refine wp_region_held_drew (S := fun w' => w'.cell? ⟨w.heap.size, 4, none⟩ = some (.slice (some ⟨vb, vo, none⟩) vl.length vc) ∧ w'.cell? ⟨vb, vo + k, none⟩ = some (.int .i64 y) ∧ w'.cell? ⟨S9, 0, none⟩ = some (.int .i64 au) ∧ w'.cell? ⟨S9, 1, none⟩ = some (.int .i64 rd) ∧ w'.cell? ⟨S9, 2, none⟩ = some (.slice (some ⟨g, 0, none⟩) 32 c)) (by kernel_rfl) ⟨c4, cv, e0, e1, e2⟩ (fun hHeld => ?_)
                  refine take_dst (i := 0) (d := 58) (v := .pointer (some ⟨w.heap.size, 4, none⟩)) rfl rfl (by kernel_rfl) (by kernel_rfl) (by kernel_rfl) (fun _ _ _ h => h) (Or.inl ⟨by rfl, ?_⟩) hHeld ?_
                  · (intro w0 hSw; (try dsimp only at hSw); go_simp)
                  simp only [Act.put, List.setIfInBounds_toArray, List.set_cons_zero, List.set_cons_succ]
                  refine take_dst (i := 1) (d := 59) (v := .slice (some ⟨vb, vo, none⟩) vl.length vc) rfl rfl (by kernel_rfl) (by kernel_rfl) (by kernel_rfl) (fun _ _ _ h => h) (Or.inl ⟨by rfl, ?_⟩) hHeld ?_
                  · (intro w0 hSw; (try dsimp only at hSw); go_simp)
                  simp only [Act.put, List.setIfInBounds_toArray, List.set_cons_zero, List.set_cons_succ]
                  refine take_dst (i := 2) (d := 60) (v := .int .i64 k) rfl rfl (by kernel_rfl) (by kernel_rfl) (by kernel_rfl) (fun _ _ _ h => h) (Or.inl ⟨by rfl, ?_⟩) hHeld ?_
                  · (intro w0 hSw; (try dsimp only at hSw); go_simp)
                  simp only [Act.put, List.setIfInBounds_toArray, List.set_cons_zero, List.set_cons_succ]
                  refine take_dst (i := 3) (d := 61) (v := .pointer (some ⟨vb, vo + k, none⟩)) rfl rfl (by kernel_rfl) (by kernel_rfl) (by kernel_rfl) (fun _ _ _ h => h) (Or.inl ⟨by rfl, ?_⟩) hHeld ?_
                  · (intro w0 hSw; (try dsimp only at hSw); go_simp)
                  simp only [Act.put, List.setIfInBounds_toArray, List.set_cons_zero, List.set_cons_succ]
                  refine take_dst (i := 4) (d := 62) (v := .int .i64 y) rfl rfl (by kernel_rfl) (by kernel_rfl) (by kernel_rfl) (fun _ _ _ h => h) (Or.inl ⟨by rfl, ?_⟩) hHeld ?_
                  · (intro w0 hSw; (try dsimp only at hSw); go_simp)
                  simp only [Act.put, List.setIfInBounds_toArray, List.set_cons_zero, List.set_cons_succ]
                  refine take_dst (i := 5) (d := 63) (v := .int .i64 bad) rfl rfl (by kernel_rfl) (by kernel_rfl) (by kernel_rfl) (fun _ _ _ h => h) (Or.inl ⟨by rfl, ?_⟩) hHeld ?_
                  · (intro w0 hSw; (try dsimp only at hSw); go_simp)
                  simp only [Act.put, List.setIfInBounds_toArray, List.set_cons_zero, List.set_cons_succ]
                  refine take_dst (i := 6) (d := 64) (v := .bool true) rfl rfl (by kernel_rfl) (by kernel_rfl) (by kernel_rfl) (fun _ _ _ h => h) (Or.inl ⟨by rfl, ?_⟩) hHeld ?_
                  · (intro w0 hSw; (try dsimp only at hSw); go_simp)
                  simp only [Act.put, List.setIfInBounds_toArray, List.set_cons_zero, List.set_cons_succ]
                  refine take_dst (i := 7) (d := 65) (v := .bool true) rfl rfl (by kernel_rfl) (by kernel_rfl) (by kernel_rfl) (fun _ _ _ h => h) (Or.inl ⟨by rfl, ?_⟩) hHeld ?_
                  · (intro w0 hSw; (try dsimp only at hSw); go_simp)
                  simp only [Act.put, List.setIfInBounds_toArray, List.set_cons_zero, List.set_cons_succ]
                  refine take_dst (i := 8) (d := 66) (v := .slice sa ls.length cap) rfl rfl (by kernel_rfl) (by kernel_rfl) (by kernel_rfl) (fun _ _ _ h => h) (Or.inl ⟨by rfl, ?_⟩) hHeld ?_
                  · (intro w0 hSw; (try dsimp only at hSw); go_simp)
                  simp only [Act.put, List.setIfInBounds_toArray, List.set_cons_zero, List.set_cons_succ]
                  refine take_dst (i := 9) (d := 67) (v := .pointer (some ⟨w.heap.size, 4, none⟩)) rfl rfl (by kernel_rfl) (by kernel_rfl) (by kernel_rfl) (fun _ _ _ h => h) (Or.inl ⟨by rfl, ?_⟩) hHeld ?_
                  · (intro w0 hSw; (try dsimp only at hSw); go_simp)
                  simp only [Act.put, List.setIfInBounds_toArray, List.set_cons_zero, List.set_cons_succ]
                  refine take_dst (i := 10) (d := 68) (v := .slice (some ⟨vb, vo, none⟩) vl.length vc) rfl rfl (by kernel_rfl) (by kernel_rfl) (by kernel_rfl) (fun _ _ _ h => h) (Or.inl ⟨by rfl, ?_⟩) hHeld ?_
                  · (intro w0 hSw; (try dsimp only at hSw); go_simp)
                  simp only [Act.put, List.setIfInBounds_toArray, List.set_cons_zero, List.set_cons_succ]
                  refine take_dst (i := 11) (d := 69) (v := .int .i64 k) rfl rfl (by kernel_rfl) (by kernel_rfl) (by kernel_rfl) (fun _ _ _ h => h) (Or.inl ⟨by rfl, ?_⟩) hHeld ?_
                  · (intro w0 hSw; (try dsimp only at hSw); go_simp)
                  simp only [Act.put, List.setIfInBounds_toArray, List.set_cons_zero, List.set_cons_succ]
                  refine take_dst (i := 12) (d := 70) (v := .pointer (some ⟨vb, vo + k, none⟩)) rfl rfl (by kernel_rfl) (by kernel_rfl) (by kernel_rfl) (fun _ _ _ h => h) (Or.inl ⟨by rfl, ?_⟩) hHeld ?_
                  · (intro w0 hSw; (try dsimp only at hSw); go_simp)
                  simp only [Act.put, List.setIfInBounds_toArray, List.set_cons_zero, List.set_cons_succ]
                  refine take_dst (i := 13) (d := 71) (v := .int .i64 y) rfl rfl (by kernel_rfl) (by kernel_rfl) (by kernel_rfl) (fun _ _ _ h => h) (Or.inl ⟨by rfl, ?_⟩) hHeld ?_
                  · (intro w0 hSw; (try dsimp only at hSw); go_simp)
                  simp only [Act.put, List.setIfInBounds_toArray, List.set_cons_zero, List.set_cons_succ]
                  refine take_dst (i := 14) (d := 72) (v := .agg #[.int .i64 au, .int .i64 rd, .slice (some ⟨g, 0, none⟩) 32 c]) rfl rfl (by kernel_rfl) (by kernel_rfl) (by kernel_rfl) (fun _ _ _ h => h) (Or.inl ⟨by rfl, ?_⟩) hHeld ?_
                  · (intro w0 hSw; (try dsimp only at hSw); go_simp)
                  simp only [Act.put, List.setIfInBounds_toArray, List.set_cons_zero, List.set_cons_succ]
                  refine take_dst (i := 15) (d := 73) (v := .agg #[.int .i64 y, .int .i64 au, .int .i64 rd, .slice (some ⟨g, 0, none⟩) 32 c]) rfl rfl (by kernel_rfl) (by kernel_rfl) (by kernel_rfl) (fun _ _ _ h => h) (Or.inl ⟨by rfl, ?_⟩) hHeld ?_
                  · (intro w0 hSw; (try dsimp only at hSw); go_simp)
                  simp only [Act.put, List.setIfInBounds_toArray, List.set_cons_zero, List.set_cons_succ]
                  refine wpAnyH_ready (rs := [16]) (by kernel_rfl) (by simp) (AllReadyH.cons rfl (fun K hK => ?_) AllReadyH.nil)
                  refine step_calls_on (by rfl) 74 rfl 29 [.tmp 66, .tmp 73] #[22, 52] rfl [.slice sa ls.length cap, .agg #[.int .i64 y, .int .i64 au, .int .i64 rd, .slice (some ⟨g, 0, none⟩) 32 c]] rfl (enters_of Tryd.func29 (by kernel_rfl) rfl) (fun v w' => v = .bool r ∧ Below wr.heap.size wr w') (HC.mono (fun e w2 h => ⟨_, h.1, rfl, below_drew h.2⟩)) ?_
                  rintro v w6 ⟨rfl, hbB⟩
                  refine hK.out _ _ ⟨(hbB.cell (p := ⟨w.heap.size, 4, none⟩) h3lt).trans c4, (hbB.cell (p := ⟨vb, vo + k, none⟩) hvlt).trans cv, (hbB.cell (p := ⟨S9, 0, none⟩) h9lt).trans e0, (hbB.cell (p := ⟨S9, 1, none⟩) h9lt).trans e1, (hbB.cell (p := ⟨S9, 2, none⟩) h9lt).trans e2⟩ (fun hHeld => ?_)
                  simp only [Act.put, List.setIfInBounds_toArray, List.set_cons_zero, List.set_cons_succ]
                  refine take_dst (i := 17) (d := 75) (v := .bool (!r)) rfl rfl (by kernel_rfl) (by kernel_rfl) (by kernel_rfl) (fun _ _ _ h => h) (Or.inl ⟨by rfl, ?_⟩) hHeld ?_
                  · (intro w0 hSw; (try dsimp only at hSw); go_simp)
                  simp only [Act.put, List.setIfInBounds_toArray, List.set_cons_zero, List.set_cons_succ]
                  refine take_dst (i := 18) (d := 76) (v := .bool (!r)) rfl rfl (by kernel_rfl) (by kernel_rfl) (by kernel_rfl) (fun _ _ _ h => h) (Or.inl ⟨by rfl, ?_⟩) hHeld ?_
                  · (intro w0 hSw; (try dsimp only at hSw); go_simp)
                  simp only [Act.put, List.setIfInBounds_toArray, List.set_cons_zero, List.set_cons_succ]
                  refine wpAnyH_done (by kernel_rfl) ?_ _
                  cases r with
                  | true =>
                    have Ht : Hid _ := HT.out rfl
                    clear HT HE HC
                    go_wp2_with fail
                    go_roundw
                    case rel => exact ⟨k + 1, by omega, by go_num, Ht.out, hb.trans (hbB.mono hb.size)⟩
                    case measure => simp [intOf]; omega
                  | false =>
                    have He : Hid _ := HE.out rfl
                    clear HT HE HC
                    go_wp2_with fail
                    go_ret
                    exact ⟨ret_int He.out.symm, hBr.trans (hbB.mono hBr.size)⟩
              · obtain rfl : k = vl.length := by omega
                have hF : Hid (provF (gvs ls) bad au rd (certF au rd bl pl vl) (hDig au rd bl pl) vl = 0) := by
                  show _ = _
                  have h2 : vl.any (lacksF (gvs ls) bad au rd (hDig au rd bl pl)) = false := by
                    rw [List.any_eq_false]
                    intro y hy
                    rw [HNo.out y (by rw [List.take_of_length_le (Nat.le_refl _)]; exact hy)]; simp
                  rw [HPF.out, HA0.out, h2]; rfl
                go_wp2_with fail
                go_ret
                exact ⟨ret_int hF.out.symm, hBr⟩
          · have han : (au != bad) = true := by simpa using hab
            have HC := HHid.out au wc (Below.refl _ _)
            have HT : Hid (decide ((au, au, rd, (hDig au rd bl pl)) ∈ gvs ls) = true → lacksF (gvs ls) bad au rd (hDig au rd bl pl) au = false) := fun h => HL1.out au hab h
            have HE : Hid (decide ((au, au, rd, (hDig au rd bl pl)) ∈ gvs ls) = false → provF (gvs ls) bad au rd (certF au rd bl pl vl) (hDig au rd bl pl) vl = 11) := by
              show _ → _
              intro h
              rw [HPF.out, HL2.out au hab h]; rfl
            clear hab
            generalize decide ((au, au, rd, (hDig au rd bl pl)) ∈ gvs ls) = r at HC HT HE
            go_wp2_with fail
            refine HC.mono ?_
            rintro e w5 ⟨he, hb5⟩
            subst he
            dsimp only
            clear q3_c0 q3_c1 q3_c2 q3_c3 q3_c4 q9_c0 q9_c1 q9_c2
            cases r with
            | true =>
              have HA0 : Hid _ := HT.out rfl
              clear HT HE HC
              go_wp2_with fail
              have q3W := (hb5.block _ (lt_of_heap q3)).trans q3
              have q9W := (hb5.block _ (lt_of_heap q9)).trans q9
              have hvW := hv.below hb5
              have HBW := HB.trans (hb5.mono HB.size)
              go_loopw [9] (fun i wr => ∃ k : Nat, k ≤ vl.length ∧ i = .int .i64 k ∧ (∀ y ∈ vl.take k, lacksF (gvs ls) bad au rd (hDig au rd bl pl) y = false) ∧ Below w5.heap.size w5 wr) (fun i _ => vl.length - (intOf i).toNat)
              case atStart => exact ⟨0, Nat.zero_le _, rfl, (fun s hs => by simp at hs), Below.refl _ _⟩
              case round =>
                obtain ⟨k, hk, rfl, hno, hb⟩ := hrel
                have q3r := (hb.block _ (lt_of_heap q3W)).trans q3W
                have q9r := (hb.block _ (lt_of_heap q9W)).trans q9W
                have c4 := cells_at q3r 4 _ rfl
                have e0 := cells_at q9r 0 _ rfl
                have e1 := cells_at q9r 1 _ rfl
                have e2 := cells_at q9r 2 _ rfl
                have HNo : Hid (∀ y ∈ vl.take k, lacksF (gvs ls) bad au rd (hDig au rd bl pl) y = false) := hno
                clear hno
                have hBr := HBW.trans (hb.mono HBW.size)
                by_cases hlt : k < vl.length
                · have hvr := hvW.below hb
                  obtain ⟨vb, vo, rfl, hc⟩ : ∃ sb so, va = some ⟨sb, so, none⟩ ∧ ∀ j, j < vl.length → wr.cell? ⟨sb, so + j, none⟩ = some (.int .i64 (vl.getD j 0)) := by
                    rcases hvr.cells with h | h
                    · rw [h] at hlt; simp at hlt
                    · exact h
                  have cv := hc k hlt
                  have hgk : vl.getD k 0 = vl[k] := by simp [List.getD, hlt]
                  rw [hgk] at cv
                  have HY : Hid (lacksF (gvs ls) bad au rd (hDig au rd bl pl) (vl[k]) = true → provF (gvs ls) bad au rd (certF au rd bl pl vl) (hDig au rd bl pl) vl = 11) := by
                    show _ → _
                    intro h
                    rw [HPF.out, HA0.out, List.any_eq_true.2 ⟨_, List.getElem_mem hlt, h⟩]; rfl
                  have HN : Hid (lacksF (gvs ls) bad au rd (hDig au rd bl pl) (vl[k]) = false → ∀ y ∈ vl.take (k + 1), lacksF (gvs ls) bad au rd (hDig au rd bl pl) y = false) := by
                    show _ → _
                    intro h y hy
                    rw [memI_succ hlt] at hy
                    rcases hy with hy | rfl
                    · exact HNo.out y hy
                    · exact h
                  have hltI : (k : Int) < vl.length := by omega
                  have h3lt := lt_of_heap q3r
                  have h9lt := lt_of_heap q9r
                  have hvlt := block_lt_of_cell cv
                  clear hc hgk hvr
                  generalize vl[k] = y at *
                  by_cases hyb : y = bad
                  · have hn := HN.out (HL0.out y hyb)
                    have Hn : Hid _ := hn
                    have hyn : (y != bad) = false := by simpa using hyb
                    clear hn HY HN hyb
                    go_wp2_with fail
                    refine wp_region_held_drew (S := fun w' => w'.cell? ⟨w.heap.size, 4, none⟩ = some (.slice (some ⟨vb, vo, none⟩) vl.length vc) ∧ w'.cell? ⟨vb, vo + k, none⟩ = some (.int .i64 y) ∧ w'.cell? ⟨S9, 0, none⟩ = some (.int .i64 au) ∧ w'.cell? ⟨S9, 1, none⟩ = some (.int .i64 rd) ∧ w'.cell? ⟨S9, 2, none⟩ = some (.slice (some ⟨g, 0, none⟩) 32 c)) (by kernel_rfl) ⟨c4, cv, e0, e1, e2⟩ (fun hHeld => ?_)
                    refine take_dst (i := 0) (d := 58) (v := .pointer (some ⟨w.heap.size, 4, none⟩)) rfl rfl (by kernel_rfl) (by kernel_rfl) (by kernel_rfl) (fun _ _ _ h => h) (Or.inl ⟨by rfl, ?_⟩) hHeld ?_
                    · (intro w0 hSw; (try dsimp only at hSw); go_simp)
                    simp only [Act.put, List.setIfInBounds_toArray, List.set_cons_zero, List.set_cons_succ]
                    refine take_dst (i := 1) (d := 59) (v := .slice (some ⟨vb, vo, none⟩) vl.length vc) rfl rfl (by kernel_rfl) (by kernel_rfl) (by kernel_rfl) (fun _ _ _ h => h) (Or.inl ⟨by rfl, ?_⟩) hHeld ?_
                    · (intro w0 hSw; (try dsimp only at hSw); go_simp)
                    simp only [Act.put, List.setIfInBounds_toArray, List.set_cons_zero, List.set_cons_succ]
                    refine take_dst (i := 2) (d := 60) (v := .int .i64 k) rfl rfl (by kernel_rfl) (by kernel_rfl) (by kernel_rfl) (fun _ _ _ h => h) (Or.inl ⟨by rfl, ?_⟩) hHeld ?_
                    · (intro w0 hSw; (try dsimp only at hSw); go_simp)
                    simp only [Act.put, List.setIfInBounds_toArray, List.set_cons_zero, List.set_cons_succ]
                    refine take_dst (i := 3) (d := 61) (v := .pointer (some ⟨vb, vo + k, none⟩)) rfl rfl (by kernel_rfl) (by kernel_rfl) (by kernel_rfl) (fun _ _ _ h => h) (Or.inl ⟨by rfl, ?_⟩) hHeld ?_
                    · (intro w0 hSw; (try dsimp only at hSw); go_simp)
                    simp only [Act.put, List.setIfInBounds_toArray, List.set_cons_zero, List.set_cons_succ]
                    refine take_dst (i := 4) (d := 62) (v := .int .i64 y) rfl rfl (by kernel_rfl) (by kernel_rfl) (by kernel_rfl) (fun _ _ _ h => h) (Or.inl ⟨by rfl, ?_⟩) hHeld ?_
                    · (intro w0 hSw; (try dsimp only at hSw); go_simp)
                    simp only [Act.put, List.setIfInBounds_toArray, List.set_cons_zero, List.set_cons_succ]
                    refine take_dst (i := 5) (d := 63) (v := .int .i64 bad) rfl rfl (by kernel_rfl) (by kernel_rfl) (by kernel_rfl) (fun _ _ _ h => h) (Or.inl ⟨by rfl, ?_⟩) hHeld ?_
                    · (intro w0 hSw; (try dsimp only at hSw); go_simp)
                    simp only [Act.put, List.setIfInBounds_toArray, List.set_cons_zero, List.set_cons_succ]
                    refine take_dst (i := 6) (d := 64) (v := .bool false) rfl rfl (by kernel_rfl) (by kernel_rfl) (by kernel_rfl) (fun _ _ _ h => h) (Or.inl ⟨by rfl, ?_⟩) hHeld ?_
                    · (intro w0 hSw; (try dsimp only at hSw); go_simp)
                    simp only [Act.put, List.setIfInBounds_toArray, List.set_cons_zero, List.set_cons_succ]
                    refine take_dst (i := 7) (d := 65) (v := .bool false) rfl rfl (by kernel_rfl) (by kernel_rfl) (by kernel_rfl) (fun _ _ _ h => h) (Or.inl ⟨by rfl, ?_⟩) hHeld ?_
                    · (intro w0 hSw; (try dsimp only at hSw); go_simp)
                    simp only [Act.put, List.setIfInBounds_toArray, List.set_cons_zero, List.set_cons_succ]
                    refine take_dst (i := 8) (d := 66) (v := undef) rfl rfl (by kernel_rfl) (by kernel_rfl) (by kernel_rfl) (fun _ _ _ h => h) (Or.inr ⟨by rfl, rfl⟩) hHeld ?_
                    simp only [Act.put, List.setIfInBounds_toArray, List.set_cons_zero, List.set_cons_succ]
                    refine take_dst (i := 9) (d := 67) (v := undef) rfl rfl (by kernel_rfl) (by kernel_rfl) (by kernel_rfl) (fun _ _ _ h => h) (Or.inr ⟨by rfl, rfl⟩) hHeld ?_
                    simp only [Act.put, List.setIfInBounds_toArray, List.set_cons_zero, List.set_cons_succ]
                    refine take_dst (i := 10) (d := 68) (v := undef) rfl rfl (by kernel_rfl) (by kernel_rfl) (by kernel_rfl) (fun _ _ _ h => h) (Or.inr ⟨by rfl, rfl⟩) hHeld ?_
                    simp only [Act.put, List.setIfInBounds_toArray, List.set_cons_zero, List.set_cons_succ]
                    refine take_dst (i := 11) (d := 69) (v := undef) rfl rfl (by kernel_rfl) (by kernel_rfl) (by kernel_rfl) (fun _ _ _ h => h) (Or.inr ⟨by rfl, rfl⟩) hHeld ?_
                    simp only [Act.put, List.setIfInBounds_toArray, List.set_cons_zero, List.set_cons_succ]
                    refine take_dst (i := 12) (d := 70) (v := undef) rfl rfl (by kernel_rfl) (by kernel_rfl) (by kernel_rfl) (fun _ _ _ h => h) (Or.inr ⟨by rfl, rfl⟩) hHeld ?_
                    simp only [Act.put, List.setIfInBounds_toArray, List.set_cons_zero, List.set_cons_succ]
                    refine take_dst (i := 13) (d := 71) (v := undef) rfl rfl (by kernel_rfl) (by kernel_rfl) (by kernel_rfl) (fun _ _ _ h => h) (Or.inr ⟨by rfl, rfl⟩) hHeld ?_
                    simp only [Act.put, List.setIfInBounds_toArray, List.set_cons_zero, List.set_cons_succ]
                    refine take_dst (i := 14) (d := 72) (v := undef) rfl rfl (by kernel_rfl) (by kernel_rfl) (by kernel_rfl) (fun _ _ _ h => h) (Or.inr ⟨by rfl, rfl⟩) hHeld ?_
                    simp only [Act.put, List.setIfInBounds_toArray, List.set_cons_zero, List.set_cons_succ]
                    refine take_dst (i := 15) (d := 73) (v := undef) rfl rfl (by kernel_rfl) (by kernel_rfl) (by kernel_rfl) (fun _ _ _ h => h) (Or.inr ⟨by rfl, rfl⟩) hHeld ?_
                    simp only [Act.put, List.setIfInBounds_toArray, List.set_cons_zero, List.set_cons_succ]
                    refine take_dst (i := 16) (d := 74) (v := undef) rfl rfl (by kernel_rfl) (by kernel_rfl) (by kernel_rfl) (fun _ _ _ h => h) (Or.inr ⟨by rfl, rfl⟩) hHeld ?_
                    simp only [Act.put, List.setIfInBounds_toArray, List.set_cons_zero, List.set_cons_succ]
                    refine take_dst (i := 17) (d := 75) (v := undef) rfl rfl (by kernel_rfl) (by kernel_rfl) (by kernel_rfl) (fun _ _ _ h => h) (Or.inr ⟨by rfl, rfl⟩) hHeld ?_
                    simp only [Act.put, List.setIfInBounds_toArray, List.set_cons_zero, List.set_cons_succ]
                    refine take_dst (i := 18) (d := 76) (v := .bool false) rfl rfl (by kernel_rfl) (by kernel_rfl) (by kernel_rfl) (fun _ _ _ h => h) (Or.inl ⟨by rfl, ?_⟩) hHeld ?_
                    · (intro w0 hSw; (try dsimp only at hSw); go_simp)
                    simp only [Act.put, List.setIfInBounds_toArray, List.set_cons_zero, List.set_cons_succ]
                    refine wpAnyH_done (by kernel_rfl) ?_ _
                    go_wp2_with fail
                    go_roundw
                    case rel => exact ⟨k + 1, by omega, by go_num, Hn.out, hb.drew⟩
                    case measure => simp [intOf]; omega
                  · have hyn : (y != bad) = true := by simpa using hyb
                    have HC := HHid.out y wr.drew (hb5.trans (hb.drew.mono hb5.size))
                    have HT : Hid (decide ((y, au, rd, (hDig au rd bl pl)) ∈ gvs ls) = true → ∀ z ∈ vl.take (k + 1), lacksF (gvs ls) bad au rd (hDig au rd bl pl) z = false) := fun h => HN.out (HL1.out y hyb h)
                    have HE : Hid (decide ((y, au, rd, (hDig au rd bl pl)) ∈ gvs ls) = false → provF (gvs ls) bad au rd (certF au rd bl pl vl) (hDig au rd bl pl) vl = 11) := fun h => HY.out (HL2.out y hyb h)
                    clear HY HN hyb
                    generalize decide ((y, au, rd, (hDig au rd bl pl)) ∈ gvs ls) = r at HC HT HE
                    go_wp2_with fail
                    refine wp_region_held_drew (S := fun w' => w'.cell? ⟨w.heap.size, 4, none⟩ = some (.slice (some ⟨vb, vo, none⟩) vl.length vc) ∧ w'.cell? ⟨vb, vo + k, none⟩ = some (.int .i64 y) ∧ w'.cell? ⟨S9, 0, none⟩ = some (.int .i64 au) ∧ w'.cell? ⟨S9, 1, none⟩ = some (.int .i64 rd) ∧ w'.cell? ⟨S9, 2, none⟩ = some (.slice (some ⟨g, 0, none⟩) 32 c)) (by kernel_rfl) ⟨c4, cv, e0, e1, e2⟩ (fun hHeld => ?_)
                    refine take_dst (i := 0) (d := 58) (v := .pointer (some ⟨w.heap.size, 4, none⟩)) rfl rfl (by kernel_rfl) (by kernel_rfl) (by kernel_rfl) (fun _ _ _ h => h) (Or.inl ⟨by rfl, ?_⟩) hHeld ?_
                    · (intro w0 hSw; (try dsimp only at hSw); go_simp)
                    simp only [Act.put, List.setIfInBounds_toArray, List.set_cons_zero, List.set_cons_succ]
                    refine take_dst (i := 1) (d := 59) (v := .slice (some ⟨vb, vo, none⟩) vl.length vc) rfl rfl (by kernel_rfl) (by kernel_rfl) (by kernel_rfl) (fun _ _ _ h => h) (Or.inl ⟨by rfl, ?_⟩) hHeld ?_
                    · (intro w0 hSw; (try dsimp only at hSw); go_simp)
                    simp only [Act.put, List.setIfInBounds_toArray, List.set_cons_zero, List.set_cons_succ]
                    refine take_dst (i := 2) (d := 60) (v := .int .i64 k) rfl rfl (by kernel_rfl) (by kernel_rfl) (by kernel_rfl) (fun _ _ _ h => h) (Or.inl ⟨by rfl, ?_⟩) hHeld ?_
                    · (intro w0 hSw; (try dsimp only at hSw); go_simp)
                    simp only [Act.put, List.setIfInBounds_toArray, List.set_cons_zero, List.set_cons_succ]
                    refine take_dst (i := 3) (d := 61) (v := .pointer (some ⟨vb, vo + k, none⟩)) rfl rfl (by kernel_rfl) (by kernel_rfl) (by kernel_rfl) (fun _ _ _ h => h) (Or.inl ⟨by rfl, ?_⟩) hHeld ?_
                    · (intro w0 hSw; (try dsimp only at hSw); go_simp)
                    simp only [Act.put, List.setIfInBounds_toArray, List.set_cons_zero, List.set_cons_succ]
                    refine take_dst (i := 4) (d := 62) (v := .int .i64 y) rfl rfl (by kernel_rfl) (by kernel_rfl) (by kernel_rfl) (fun _ _ _ h => h) (Or.inl ⟨by rfl, ?_⟩) hHeld ?_
                    · (intro w0 hSw; (try dsimp only at hSw); go_simp)
                    simp only [Act.put, List.setIfInBounds_toArray, List.set_cons_zero, List.set_cons_succ]
                    refine take_dst (i := 5) (d := 63) (v := .int .i64 bad) rfl rfl (by kernel_rfl) (by kernel_rfl) (by kernel_rfl) (fun _ _ _ h => h) (Or.inl ⟨by rfl, ?_⟩) hHeld ?_
                    · (intro w0 hSw; (try dsimp only at hSw); go_simp)
                    simp only [Act.put, List.setIfInBounds_toArray, List.set_cons_zero, List.set_cons_succ]
                    refine take_dst (i := 6) (d := 64) (v := .bool true) rfl rfl (by kernel_rfl) (by kernel_rfl) (by kernel_rfl) (fun _ _ _ h => h) (Or.inl ⟨by rfl, ?_⟩) hHeld ?_
                    · (intro w0 hSw; (try dsimp only at hSw); go_simp)
                    simp only [Act.put, List.setIfInBounds_toArray, List.set_cons_zero, List.set_cons_succ]
                    refine take_dst (i := 7) (d := 65) (v := .bool true) rfl rfl (by kernel_rfl) (by kernel_rfl) (by kernel_rfl) (fun _ _ _ h => h) (Or.inl ⟨by rfl, ?_⟩) hHeld ?_
                    · (intro w0 hSw; (try dsimp only at hSw); go_simp)
                    simp only [Act.put, List.setIfInBounds_toArray, List.set_cons_zero, List.set_cons_succ]
                    refine take_dst (i := 8) (d := 66) (v := .slice sa ls.length cap) rfl rfl (by kernel_rfl) (by kernel_rfl) (by kernel_rfl) (fun _ _ _ h => h) (Or.inl ⟨by rfl, ?_⟩) hHeld ?_
                    · (intro w0 hSw; (try dsimp only at hSw); go_simp)
                    simp only [Act.put, List.setIfInBounds_toArray, List.set_cons_zero, List.set_cons_succ]
                    refine take_dst (i := 9) (d := 67) (v := .pointer (some ⟨w.heap.size, 4, none⟩)) rfl rfl (by kernel_rfl) (by kernel_rfl) (by kernel_rfl) (fun _ _ _ h => h) (Or.inl ⟨by rfl, ?_⟩) hHeld ?_
                    · (intro w0 hSw; (try dsimp only at hSw); go_simp)
                    simp only [Act.put, List.setIfInBounds_toArray, List.set_cons_zero, List.set_cons_succ]
                    refine take_dst (i := 10) (d := 68) (v := .slice (some ⟨vb, vo, none⟩) vl.length vc) rfl rfl (by kernel_rfl) (by kernel_rfl) (by kernel_rfl) (fun _ _ _ h => h) (Or.inl ⟨by rfl, ?_⟩) hHeld ?_
                    · (intro w0 hSw; (try dsimp only at hSw); go_simp)
                    simp only [Act.put, List.setIfInBounds_toArray, List.set_cons_zero, List.set_cons_succ]
                    refine take_dst (i := 11) (d := 69) (v := .int .i64 k) rfl rfl (by kernel_rfl) (by kernel_rfl) (by kernel_rfl) (fun _ _ _ h => h) (Or.inl ⟨by rfl, ?_⟩) hHeld ?_
                    · (intro w0 hSw; (try dsimp only at hSw); go_simp)
                    simp only [Act.put, List.setIfInBounds_toArray, List.set_cons_zero, List.set_cons_succ]
                    refine take_dst (i := 12) (d := 70) (v := .pointer (some ⟨vb, vo + k, none⟩)) rfl rfl (by kernel_rfl) (by kernel_rfl) (by kernel_rfl) (fun _ _ _ h => h) (Or.inl ⟨by rfl, ?_⟩) hHeld ?_
                    · (intro w0 hSw; (try dsimp only at hSw); go_simp)
                    simp only [Act.put, List.setIfInBounds_toArray, List.set_cons_zero, List.set_cons_succ]
                    refine take_dst (i := 13) (d := 71) (v := .int .i64 y) rfl rfl (by kernel_rfl) (by kernel_rfl) (by kernel_rfl) (fun _ _ _ h => h) (Or.inl ⟨by rfl, ?_⟩) hHeld ?_
                    · (intro w0 hSw; (try dsimp only at hSw); go_simp)
                    simp only [Act.put, List.setIfInBounds_toArray, List.set_cons_zero, List.set_cons_succ]
                    refine take_dst (i := 14) (d := 72) (v := .agg #[.int .i64 au, .int .i64 rd, .slice (some ⟨g, 0, none⟩) 32 c]) rfl rfl (by kernel_rfl) (by kernel_rfl) (by kernel_rfl) (fun _ _ _ h => h) (Or.inl ⟨by rfl, ?_⟩) hHeld ?_
                    · (intro w0 hSw; (try dsimp only at hSw); go_simp)
                    simp only [Act.put, List.setIfInBounds_toArray, List.set_cons_zero, List.set_cons_succ]
                    refine take_dst (i := 15) (d := 73) (v := .agg #[.int .i64 y, .int .i64 au, .int .i64 rd, .slice (some ⟨g, 0, none⟩) 32 c]) rfl rfl (by kernel_rfl) (by kernel_rfl) (by kernel_rfl) (fun _ _ _ h => h) (Or.inl ⟨by rfl, ?_⟩) hHeld ?_
                    · (intro w0 hSw; (try dsimp only at hSw); go_simp)
                    simp only [Act.put, List.setIfInBounds_toArray, List.set_cons_zero, List.set_cons_succ]
                    refine wpAnyH_ready (rs := [16]) (by kernel_rfl) (by simp) (AllReadyH.cons rfl (fun K hK => ?_) AllReadyH.nil)
                    refine step_calls_on (by rfl) 74 rfl 29 [.tmp 66, .tmp 73] #[22, 52] rfl [.slice sa ls.length cap, .agg #[.int .i64 y, .int .i64 au, .int .i64 rd, .slice (some ⟨g, 0, none⟩) 32 c]] rfl (enters_of Tryd.func29 (by kernel_rfl) rfl) (fun v w' => v = .bool r ∧ Below wr.heap.size wr w') (HC.mono (fun e w2 h => ⟨_, h.1, rfl, below_drew h.2⟩)) ?_
                    rintro v w6 ⟨rfl, hbB⟩
                    refine hK.out _ _ ⟨(hbB.cell (p := ⟨w.heap.size, 4, none⟩) h3lt).trans c4, (hbB.cell (p := ⟨vb, vo + k, none⟩) hvlt).trans cv, (hbB.cell (p := ⟨S9, 0, none⟩) h9lt).trans e0, (hbB.cell (p := ⟨S9, 1, none⟩) h9lt).trans e1, (hbB.cell (p := ⟨S9, 2, none⟩) h9lt).trans e2⟩ (fun hHeld => ?_)
                    simp only [Act.put, List.setIfInBounds_toArray, List.set_cons_zero, List.set_cons_succ]
                    refine take_dst (i := 17) (d := 75) (v := .bool (!r)) rfl rfl (by kernel_rfl) (by kernel_rfl) (by kernel_rfl) (fun _ _ _ h => h) (Or.inl ⟨by rfl, ?_⟩) hHeld ?_
                    · (intro w0 hSw; (try dsimp only at hSw); go_simp)
                    simp only [Act.put, List.setIfInBounds_toArray, List.set_cons_zero, List.set_cons_succ]
                    refine take_dst (i := 18) (d := 76) (v := .bool (!r)) rfl rfl (by kernel_rfl) (by kernel_rfl) (by kernel_rfl) (fun _ _ _ h => h) (Or.inl ⟨by rfl, ?_⟩) hHeld ?_
                    · (intro w0 hSw; (try dsimp only at hSw); go_simp)
                    simp only [Act.put, List.setIfInBounds_toArray, List.set_cons_zero, List.set_cons_succ]
                    refine wpAnyH_done (by kernel_rfl) ?_ _
                    cases r with
                    | true =>
                      have Ht : Hid _ := HT.out rfl
                      clear HT HE HC
                      go_wp2_with fail
                      go_roundw
                      case rel => exact ⟨k + 1, by omega, by go_num, Ht.out, hb.trans (hbB.mono hb.size)⟩
                      case measure => simp [intOf]; omega
                    | false =>
                      have He : Hid _ := HE.out rfl
                      clear HT HE HC
                      go_wp2_with fail
                      go_ret
                      exact ⟨ret_int He.out.symm, hBr.trans (hbB.mono hBr.size)⟩
                · obtain rfl : k = vl.length := by omega
                  have hF : Hid (provF (gvs ls) bad au rd (certF au rd bl pl vl) (hDig au rd bl pl) vl = 0) := by
                    show _ = _
                    have h2 : vl.any (lacksF (gvs ls) bad au rd (hDig au rd bl pl)) = false := by
                      rw [List.any_eq_false]
                      intro y hy
                      rw [HNo.out y (by rw [List.take_of_length_le (Nat.le_refl _)]; exact hy)]; simp
                    rw [HPF.out, HA0.out, h2]; rfl
                  go_wp2_with fail
                  go_ret
                  exact ⟨ret_int hF.out.symm, hBr⟩
            | false =>
              have He : Hid _ := HE.out rfl
              clear HT HE HC
              go_wp2_with fail
              go_ret
              exact ⟨ret_int He.out.symm, HB.trans (hb5.mono HB.size)⟩
      · have hF : Hid (provF (gvs ls) bad au rd (certF au rd bl pl vl) (hDig au rd bl pl) vl = certF au rd bl pl vl) := by show _ = _; rw [provF, if_neg (by simpa using HSet.out), if_pos hc]
        generalize hy0 : certF au rd bl pl vl = y at HK hc
        have HY0 : Hid (certF au rd bl pl vl = y) := hy0
        clear hy0
        have hy : (y != 0) = true := by simpa using hc
        have q3_c0 := cells_at q3 0 _ rfl
        have q3_c1 := cells_at q3 1 _ rfl
        have q3_c2 := cells_at q3 2 _ rfl
        have q3_c3 := cells_at q3 3 _ rfl
        have q3_c4 := cells_at q3 4 _ rfl
        go_wp2_with (go_at_call 26; refine (in_true _ _ _ _ hbad).mono ?_; rintro e w' ⟨rfl, rfl⟩)
        refine HK.mono ?_
        rintro e w2 ⟨he, hb2⟩
        subst he
        dsimp only
        go_wp2_with fail
        go_ret
        exact ⟨ret_int (hF.out.trans HY0.out).symm, HB.trans (hb2.mono HB.size)⟩
    · have hF : Hid (provF (gvs ls) bad au rd (certF au rd bl pl vl) (hDig au rd bl pl) vl = 2) := by
        show _ = _
        rw [provF, setF_range H0.out hbad]; rfl
      go_wp2_with (go_at_call 26; refine (in_false _ _ _ _ hbad).mono ?_; rintro e w' ⟨rfl, rfl⟩)
      go_ret
      exact ⟨ret_int hF.out.symm, HB⟩
  · have hF : Hid (provF (gvs ls) bad au rd (certF au rd bl pl vl) (hDig au rd bl pl) vl = 12) := by
      show _ = _
      rw [provF, setF_bad h0]; rfl
    rw [h0] at HC
    clear h0
    refine HC.mono ?_
    rintro e w1 ⟨he, hb1⟩
    subst he
    dsimp only
    go_wp2_with fail
    go_ret
    exact ⟨ret_int hF.out.symm, HB.trans (hb1.mono HB.size)⟩
end Go.Proofs.YtmpflkggbekpfaaDoor

namespace Go.Proofs.YtmpflkggbekpfaaDoor
open Go.RowKit

set_option maxRecDepth 100000 in
theorem infoSign : (Tryd.prog.info? 52).map (fun i => (i.zero, i.size, i.bytes)) = some (some (.agg #[.int .i64 0, .int .i64 0, .int .i64 0, .slice none 0 0]), 4, 48) := by kernel_rfl
def Sg.cs (s : Sg) : List Value := [.int .i64 s.nd, .int .i64 s.au, .int .i64 s.rd, .slice s.p.sa s.p.bs.length s.p.cap]
def gv : List Sg → List Value
  | [] => []
  | s :: r => s.cs ++ gv r
set_option maxRecDepth 100000 in
theorem gv_snoc (ls : List Sg) (s : Sg) : gv (ls ++ [s]) = gv ls ++ s.cs := by
  induction ls with
  | nil => simp [gv]
  | cons x r ih => simp [gv, ih]
set_option maxRecDepth 100000 in
theorem gv_length (ls : List Sg) : (gv ls).length = ls.length * 4 := by
  induction ls with
  | nil => rfl
  | cons x r ih => simp [gv, ih, Sg.cs]; omega
set_option maxRecDepth 100000 in
theorem gv_get (ls : List Sg) (j i : Nat) (h : j < ls.length) (hi : i < 4) : (gv ls)[j * 4 + i]? = (ls[j]).cs[i]? := by
  induction ls generalizing j with
  | nil => cases h
  | cons x r ih =>
    cases j with
    | zero => simp only [gv, Nat.zero_mul, Nat.zero_add, List.getElem_cons_zero]; rw [List.getElem?_append_left (by simp [Sg.cs]; exact hi)]
    | succ j =>
      have h' : j < r.length := by simpa using h
      simp only [gv, List.getElem_cons_succ]
      rw [List.getElem?_append_right (by simp [Sg.cs]; omega), ← ih j h']
      congr 1
      simp [Sg.cs]; omega
def gps (ls : List Sg) : List Part := ls.map Sg.p
set_option maxRecDepth 100000 in
theorem gvs_u8 {ks ls : List Sg} (h : gvs ks = gvs ls) (hu : ∀ s ∈ ls, AllU8 s.p.bs) : ∀ s ∈ ks, AllU8 s.p.bs := by
  intro s hs
  have : s.v ∈ gvs ls := by rw [← h]; exact List.mem_map.2 ⟨s, hs, rfl⟩
  obtain ⟨t, ht, e⟩ := List.mem_map.1 this
  have e2 : t.p.bs = s.p.bs := congrArg (fun g : GV => g.2.2.2) e
  rw [← e2]; exact hu t ht
set_option maxRecDepth 100000 in
theorem gtab_of_owns {w : World} {base n : Nat} {v : Value} {ls : List Sg} (h : w.ownsRow base 52 4 v n (gv ls)) (ha : Apart w base v (gps ls)) (hu : ∀ s ∈ ls, AllU8 s.p.bs) : ∃ ra rc, v = .slice ra n rc ∧ n = ls.length ∧ (n ≤ 2932031007400 → GTab w ra rc ls) ∧ Fresh base ra (gps ls) := by
  have hl : n = ls.length := by have := h.1; rw [gv_length] at this; omega
  rcases h.2 with ⟨rfl, hn⟩ | ⟨g, cap, cur, rfl, hr⟩
  · have hb : ls = [] := List.eq_nil_of_length_eq_zero (by omega)
    subst hn hb
    exact ⟨none, 0, rfl, rfl, fun _ => ⟨Nat.le_refl _, by decide, by decide, .inl rfl, ⟨.inl rfl, fun p hp => by cases hp⟩⟩, ⟨(fun _ _ e => by cases e), (fun p hp => by cases hp)⟩⟩
  · refine ⟨some ⟨g, 0, none⟩, cap, rfl, hl, fun hm => ⟨?_, ?_, by omega, .inr ⟨g, 0, rfl⟩, ⟨.inr ⟨g, 0, rfl, fun j hj => ?_⟩, fun s hs => ⟨(ha s.p (List.mem_map.2 ⟨s, hs, rfl⟩)).1, hu s hs⟩⟩⟩, ⟨(fun sb so e => by cases e; exact (h.lt _ rfl).1), (fun p hp sb so e => ((ha p hp).2 sb so e).1)⟩⟩
    · obtain ⟨_, _, h1, _⟩ := hr
      omega
    · obtain ⟨_, _, _, h2, _⟩ := hr
      exact h2
    · have e : ∀ i, i < 4 → w.cell? ⟨g, j * 4 + i, none⟩ = (ls[j]).cs[i]? := fun i hi => by rw [World.ownsRow.cellAt h (j * 4 + i) (by omega), gv_get ls j i hj hi]
      have e0 := e 0 (by omega)
      have e1 := e 1 (by omega)
      have e2 := e 2 (by omega)
      have e3 := e 3 (by omega)
      exact ⟨by simpa [Sg.cs] using e0, by simpa [Sg.cs] using e1, by simpa [Sg.cs] using e2, by simpa [Sg.cs] using e3⟩

end Go.Proofs.YtmpflkggbekpfaaDoor

namespace Go.Proofs.YtmpflkggbekpfaaDoor
open Go.RowKit

set_option maxRecDepth 100000 in
set_option maxHeartbeats 1000000 in
theorem signCopy_any (nd au rd : Int) (bs : List Int) (sa : Option Addr) (n cap : Nat) (w : World) (hn : n = bs.length) (hs : SliceAt w sa cap bs) (hl : bs.length ≤ 140737488355328) :
    Calls Tryd.prog 23 #[.agg #[.int .i64 nd, .int .i64 au, .int .i64 rd, .slice sa n cap]] w fun e w' => ∃ ra rc, e = .returned (.agg #[.int .i64 nd, .int .i64 au, .int .i64 rd, .slice ra bs.length rc]) ∧ SliceAt w' ra rc bs ∧ (∀ sb so, ra = some ⟨sb, so, none⟩ → w.heap.size ≤ sb ∧ sb < w'.heap.size) ∧ Below w.heap.size w w' := by
  subst hn
  have hR : Below w.heap.size w ((w.alloc (.cells #[.int .i64 nd, .int .i64 au, .int .i64 rd, .slice sa bs.length cap] 52)).alloc (.cells #[.int .i64 0, .int .i64 0, .int .i64 0, .slice none 0 0] 52)) := ((Below.refl _ _).alloc (Nat.le_refl _) _).alloc (by simp) _
  have q0 := heap_alloc2_old w (.cells #[.int .i64 nd, .int .i64 au, .int .i64 rd, .slice sa bs.length cap] 52) (.cells #[.int .i64 0, .int .i64 0, .int .i64 0, .slice none 0 0] 52)
  have q1 : ((w.alloc (.cells #[.int .i64 nd, .int .i64 au, .int .i64 rd, .slice sa bs.length cap] 52)).alloc (.cells #[.int .i64 0, .int .i64 0, .int .i64 0, .slice none 0 0] 52)).heap[w.heap.size + 1]? = some (.cells #[.int .i64 0, .int .i64 0, .int .i64 0, .slice none 0 0] 52 (0, 0)) := by
    have := heap_alloc_new (w.alloc (.cells #[.int .i64 nd, .int .i64 au, .int .i64 rd, .slice sa bs.length cap] 52)) (.cells #[.int .i64 0, .int .i64 0, .int .i64 0, .slice none 0 0] 52)
    rw [size_alloc] at this; exact this
  go_enter Tryd.func23, Tryd.ntmps23
  go_wp2_with fail
  generalize (w.alloc (.cells #[.int .i64 nd, .int .i64 au, .int .i64 rd, .slice sa bs.length cap] 52)).alloc (.cells #[.int .i64 0, .int .i64 0, .int .i64 0, .slice none 0 0] 52) = W0 at hR q0 q1 ⊢
  have k0 : W0.cell? ⟨w.heap.size, 0, none⟩ = some (.int .i64 nd) := cells_at q0 0 _ rfl
  have k1 : W0.cell? ⟨w.heap.size, 1, none⟩ = some (.int .i64 au) := cells_at q0 1 _ rfl
  have k2 : W0.cell? ⟨w.heap.size, 2, none⟩ = some (.int .i64 rd) := cells_at q0 2 _ rfl
  have k3 : W0.cell? ⟨w.heap.size, 3, none⟩ = some (.slice sa bs.length cap) := cells_at q0 3 _ rfl
  have hlt1 : w.heap.size + 1 < W0.heap.size := lt_of_heap q1
  go_region_held3 (fun w' => w'.cell? ⟨w.heap.size, 0, none⟩ = some (.int .i64 nd) ∧ w'.cell? ⟨w.heap.size, 1, none⟩ = some (.int .i64 au) ∧ w'.cell? ⟨w.heap.size, 2, none⟩ = some (.int .i64 rd) ∧ w'.cell? ⟨w.heap.size, 3, none⟩ = some (.slice sa bs.length cap)) (go_keep) ((go_at_call 40; refine (joined_any bs [] sa none _ _ cap 0 _ rfl rfl (hs.below (hR.trans ((Below.refl _ _).drew.mono hR.size))) (nilSlice _) (by simpa using hl)).mono ?_; rintro e w1 ⟨v1, rfl, ho1, hb1⟩; replace hb1 := below_drew hb1; have r0 := (hb1.block _ (lt_of_heap q0)).trans q0; have r1 := (hb1.block _ (lt_of_heap q1)).trans q1; have c0 : w1.cell? ⟨w.heap.size, 0, none⟩ = some (.int .i64 nd) := cells_at r0 0 _ rfl; have c1 : w1.cell? ⟨w.heap.size, 1, none⟩ = some (.int .i64 au) := cells_at r0 1 _ rfl; have c2 : w1.cell? ⟨w.heap.size, 2, none⟩ = some (.int .i64 rd) := cells_at r0 2 _ rfl; have c3 : w1.cell? ⟨w.heap.size, 3, none⟩ = some (.slice sa bs.length cap) := cells_at r0 3 _ rfl; have d0 := cells_at r1 0 _ rfl; have d1 := cells_at r1 1 _ rfl; have d2 := cells_at r1 2 _ rfl; have d3 := cells_at r1 3 _ rfl; have f0 := frozen_at r1 0; have f1 := frozen_at r1 1; have f2 := frozen_at r1 2; have f3 := frozen_at r1 3; simp only [List.append_nil, List.length_nil, Nat.add_zero] at ho1; obtain ⟨ra, rc, rfl, _, hs1⟩ := owns_form ho1))
  all_goals
    go_wp2_with fail
    have hW1 := hR.trans (hb1.mono hR.size)
    have hrow : ∀ sb so, ra = some ⟨sb, so, none⟩ → W0.heap.size ≤ sb ∧ sb < w1.heap.size := fun sb so e => ho1.lt sb (by rw [e]; rfl)
    refine bodyPost_ret (v := .agg #[.int .i64 nd, .int .i64 au, .int .i64 rd, .slice ra bs.length rc]) (by simp [results, Tryd.results23, go_sem, d0, d1, d2, d3]) rfl ⟨ra, rc, rfl, ?_, ?_, ?_⟩
    · refine ⟨hs1.le, hs1.max, hs1.some, hs1.nil, ?_⟩
      rcases hs1.bytes with hc | ⟨sb, so, e, hc⟩
      · exact .inl hc
      · have := (hrow sb so e).1
        exact .inr ⟨sb, so, e, fun k hk => ((World.cell?_setCell_far _ _ _ _ (by show w.heap.size + 1 ≠ sb; omega)).trans <| (World.cell?_setCell_far _ _ _ _ (by show w.heap.size + 1 ≠ sb; omega)).trans ((World.cell?_setCell_far _ _ _ _ (by show w.heap.size + 1 ≠ sb; omega)).trans (World.cell?_setCell_far _ _ _ _ (by show w.heap.size + 1 ≠ sb; omega)))).trans (hc k hk)⟩
    · intro sb so e
      have := hrow sb so e
      simp; omega
    · exact (((hW1.setCell (Nat.le_succ _) _).setCell (Nat.le_succ _) _).setCell (Nat.le_succ _) _).setCell (Nat.le_succ _) _

set_option maxRecDepth 100000 in
set_option maxHeartbeats 1000000 in
theorem signsCopy_own (ls : List Sg) (sa : Option Addr) (n cap : Nat) (w : World) (hn : n = ls.length) (ht : GRead w sa cap ls) :
    Calls Tryd.prog 9 #[.slice sa n cap] w fun e w' => ∃ v ks, e = .returned v ∧ gvs ks = gvs ls ∧ w'.ownsRow w.heap.size 52 4 v ls.length (gv ks) ∧ Apart w' w.heap.size v (gps ks) ∧ Below w.heap.size w w' := by
  subst hn
  obtain ⟨i, hi, hz0, hz1, hz2⟩ := info_parts infoSign
  have hreach := ht.tab.small
  go_enter Tryd.func9, Tryd.ntmps9
  go_wp2_with fail
  go_loopw [4, 3] (fun j v wr => ∃ (k : Nat) (ks : List Sg), k ≤ ls.length ∧ j = .int .i64 k ∧ gvs ks = (gvs ls).take k ∧ wr.ownsRow w.heap.size 52 4 v k (gv ks) ∧ Apart wr w.heap.size v (gps ks) ∧ Below w.heap.size w wr) (fun j _ _ => ls.length - (intOf j).toNat)
  case atStart => exact ⟨0, [], Nat.zero_le _, rfl, rfl, World.ownsRow_nil _ _ _ _, (fun p hp => by cases hp), Below.refl _ _⟩
  case round =>
    obtain ⟨k, ks, hk, rfl, hS, ho, hap, hb⟩ := hrel
    by_cases hlt : k < ls.length
    · have hpw := ht.tab.slots.below hb
      obtain ⟨sb, so, rfl, hc⟩ : ∃ sb so, sa = some ⟨sb, so, none⟩ ∧ ∀ j (h : j < ls.length), wr.cell? ⟨sb, so + j * 4, none⟩ = some (.int .i64 (ls[j]).nd) ∧ wr.cell? ⟨sb, so + j * 4 + 1, none⟩ = some (.int .i64 (ls[j]).au) ∧ wr.cell? ⟨sb, so + j * 4 + 2, none⟩ = some (.int .i64 (ls[j]).rd) ∧ wr.cell? ⟨sb, so + j * 4 + 3, none⟩ = some (.slice (ls[j]).p.sa (ls[j]).p.bs.length (ls[j]).p.cap) := by
        rcases hpw.cells with h | h
        · rw [h] at hlt; simp at hlt
        · exact h
      obtain ⟨c0, c1, c2, c3⟩ := hc k hlt
      obtain ⟨hx, hxu⟩ := hpw.each (ls[k]) (List.getElem_mem hlt)
      have hxr := ht.each (ls[k]) (List.getElem_mem hlt)
      have hst : Hid ((gvs ls).take (k + 1) = (gvs ls).take k ++ [(ls[k]).v]) := by
        show _ = _
        rw [List.take_succ_eq_append_getElem (by rw [gvs_length]; exact hlt)]
        simp [gvs]
      have hltI : (k : Int) < ls.length := by omega
      clear hc hpw ht
      generalize ls[k] = s at *
      go_wp2_with fail
      refine (signCopy_any s.nd s.au s.rd s.p.bs s.p.sa _ s.p.cap wr rfl hx hxr).mono ?_
      rintro e w2 ⟨ra, rc, he, hs2, hrow, hb2⟩
      subst he
      dsimp only
      have hB2 := hb.trans (hb2.mono hb.size)
      have hob := owns_keep ho hb2
      have hnew := cells_new w2 [.int .i64 s.nd, .int .i64 s.au, .int .i64 s.rd, .slice ra s.p.bs.length rc] 52
      go_wp2_with (at_builtin; refine wpList_append_own_at _ rfl _ _ 22 rfl w.heap.size 52 i (.agg #[.int .i64 0, .int .i64 0, .int .i64 0, .slice none 0 0]) 4 48 Tryd.underlying22 hi hz0 hz1 hz2 rfl (by decide) _ k _ rfl (World.ownsRow.alloc hob _) ⟨w2.heap.size, 0, none⟩ 1 1 [.int .i64 s.nd, .int .i64 s.au, .int .i64 s.rd, .slice ra s.p.bs.length rc] rfl rfl hnew (by intro u hu; simp at hu; rcases hu with rfl | rfl | rfl | rfl <;> rfl) (by unfold maxLen; omega) (by omega) (le_alloc hB2.size _) ?_; intro v1 w3 ho3 hg3 _ hat)
      have G := Grew.of hg3 hat
      have hap3 := hap.more_at (q := ⟨ra, rc, s.p.bs⟩) hb.size ho hb2 (fun sb so e => by have := hrow sb so e; omega) hs2 G
      have hB4 := Below.grown (hB2.alloc hB2.size _) hg3 (le_alloc hB2.size _) (fun q e => (hob.lt q e).1)
      go_roundw
      case rel =>
        have hR : ∃ (k' : Nat) (ks' : List Sg), k' ≤ ls.length ∧ (Value.int .i64 ((k : Int) + 1)) = .int .i64 k' ∧ gvs ks' = (gvs ls).take k' ∧ w3.ownsRow w.heap.size 52 4 v1 k' (gv ks') ∧ Apart w3 w.heap.size v1 (gps ks') ∧ Below w.heap.size w w3 :=
          ⟨k + 1, ks ++ [⟨s.nd, s.au, s.rd, ⟨ra, rc, s.p.bs⟩⟩], by omega, by go_num, by rw [hst.out, ← hS]; simp [gvs, Sg.v], by rw [gv_snoc]; exact ho3, by simpa [gps] using hap3, hB4⟩
        first | exact hR | ((repeat apply Exists.intro); exact ⟨hR, rfl⟩)
      case measure => simp [intOf]; omega
    · obtain rfl : k = ls.length := by omega
      rw [List.take_of_length_le (by rw [gvs_length]; exact Nat.le_refl _)] at hS
      go_wp2_with fail
      go_ret
      exact ⟨_, ks, rfl, hS, ho, hap, hb⟩
set_option maxRecDepth 100000 in
theorem signsCopy_any (ls : List Sg) (sa : Option Addr) (n cap : Nat) (w : World) (hn : n = ls.length) (ht : GRead w sa cap ls) :
    Calls Tryd.prog 9 #[.slice sa n cap] w fun e w' => ∃ ra rc ks, e = .returned (.slice ra ls.length rc) ∧ gvs ks = gvs ls ∧ GTab w' ra rc ks ∧ Below w.heap.size w w' ∧ Fresh w.heap.size ra (gps ks) := by
  refine (signsCopy_own ls sa n cap w hn ht).mono ?_
  rintro e w' ⟨v, ks, rfl, hS, ho, hap, hb⟩
  obtain ⟨ra, rc, rfl, hl, hL, hfr⟩ := gtab_of_owns ho hap (gvs_u8 hS (fun s hs => (ht.tab.slots.each s hs).2))
  have hreach := ht.tab.small
  exact ⟨ra, rc, ks, rfl, hS, hL (by omega), hb, hfr⟩
end Go.Proofs.YtmpflkggbekpfaaDoor
