/- seal.Check, seal.has, for all signs. -/
import Derived.Test.YtmpflkggbekpfaaDoorCFun
import Derived.Test.YtmpflkggbekpfaaDoorCDif
import Derived.Test.YtmpflkggbekpfaaDoorEqual
namespace Go.Proofs.YtmpflkggbekpfaaDoor
open Go.RowKit

set_option maxRecDepth 100000 in
set_option maxHeartbeats 1000000 in
theorem wrong_any (s : Sg) (w : World) : Calls Tryd.prog 51 #[.agg #[.int .i64 s.nd, .int .i64 s.au, .int .i64 s.rd, .slice s.p.sa s.p.bs.length s.p.cap]] w fun e w' => e = .returned (.bool (decide (gF s.v ≠ 0))) ∧ Below w.heap.size w w' := by
  have hA := (Below.refl w.heap.size w).alloc (Nat.le_refl _) (.cells #[.int .i64 s.nd, .int .i64 s.au, .int .i64 s.rd, .slice s.p.sa s.p.bs.length s.p.cap] 52)
  have HS : ∀ W : World, Calls Tryd.prog 49 #[.agg #[.int .i64 s.nd, .int .i64 s.au, .int .i64 s.rd, .slice s.p.sa s.p.bs.length s.p.cap]] W fun e w' => e = .returned (.int .i64 (gF s.v)) ∧ Below W.heap.size W w' := fun W => checkSign_any _ _ _ _ _ _ W
  generalize hx : gF s.v = x at HS
  have HX : Hid (gF s.v = x) := hx
  clear hx
  go_enter Tryd.func51, Tryd.ntmps51
  go_wp2_with (go_at_call 49; refine (HS _).mono ?_; rintro e w' ⟨rfl, hb⟩)
  go_ret
  refine ⟨ret_bool ?_, hA.trans (hb.mono hA.size)⟩
  by_cases h : x = 0 <;> simp [h]
set_option maxRecDepth 100000 in
theorem any_wrong (ls : List Sg) : (ls.any fun s => decide (gF s.v ≠ 0)) = true ↔ ¬ ∀ g ∈ gvs ls, gF g = 0 := by
  rw [List.any_eq_true]
  constructor
  · rintro ⟨s, hs, h⟩ k
    exact (by simpa using h : gF s.v ≠ 0) (k s.v (List.mem_map.2 ⟨s, hs, rfl⟩))
  · intro h
    rw [← List.any_eq_true (p := fun s : Sg => decide (gF s.v ≠ 0))]
    cases hh : (ls.any fun s => decide (gF s.v ≠ 0)) with
    | true => rfl
    | false =>
      rw [List.any_eq_false] at hh
      refine absurd (fun g hg => ?_) h
      obtain ⟨s, hs, rfl⟩ := List.mem_map.1 hg
      simpa using hh s hs
set_option maxRecDepth 100000 in
set_option maxHeartbeats 1000000 in
theorem sealCheck_any (ls : List Sg) (sa : Option Addr) (n cap : Nat) (w : World) (hn : n = ls.length) (hl : ls.length ≤ 2932031007400) (hp : SignsAt w sa ls) :
    Calls Tryd.prog 32 #[.slice sa n cap] w fun e w' => e = .returned (.int .i64 (signsF (gvs ls))) ∧ Below w.heap.size w w' := by
  subst hn
  have HC := containsFuncG_any 51 #[] (fun s => decide (gF s.v ≠ 0)) (enters_of Tryd.func51 (by kernel_rfl) rfl) ls sa _ cap w rfl hl hp (fun s _ W _ => wrong_any s W)
  by_cases hb : ∀ g ∈ gvs ls, gF g = 0
  · have hf : (ls.any fun s => decide (gF s.v ≠ 0)) = false := by
      cases h : (ls.any fun s => decide (gF s.v ≠ 0)) with
      | false => rfl
      | true => exact absurd hb ((any_wrong ls).1 h)
    rw [hf] at HC
    by_cases hd : (gvs ls).Nodup
    · have hF : Hid (signsF (gvs ls) = 0) := signsF_ok ⟨hb, hd⟩
      have hgs : ∀ s ∈ ls, gF s.v = 0 := fun s hs => hb s.v (List.mem_map.2 ⟨s, hs, rfl⟩)
      have HD : ∀ W : World, Below w.heap.size w W → Calls Tryd.prog 52 #[.slice sa ls.length cap] W fun e w' => e = .returned (.bool true) ∧ Below W.heap.size W w' := fun W hW => by
        have := allDiffer_any ls sa _ cap W rfl hl (hp.below hW) hgs
        rw [decide_eq_true hd] at this; exact this
      clear hf hb hd hgs
      go_enter Tryd.func32, Tryd.ntmps32
      go_wp2_with fail
      refine HC.mono ?_
      rintro e w1 ⟨he, hb1⟩
      subst he
      dsimp only
      go_wp2_with fail
      refine (HD w1 hb1).mono ?_
      rintro e w2 ⟨he, hb2⟩
      subst he
      dsimp only
      go_wp2_with fail
      go_ret
      exact ⟨ret_int hF.out.symm, hb1.trans (hb2.mono hb1.size)⟩
    · have hF : Hid (signsF (gvs ls) = 12) := signsF_twice hd
      have hgs : ∀ s ∈ ls, gF s.v = 0 := fun s hs => hb s.v (List.mem_map.2 ⟨s, hs, rfl⟩)
      have HD : ∀ W : World, Below w.heap.size w W → Calls Tryd.prog 52 #[.slice sa ls.length cap] W fun e w' => e = .returned (.bool false) ∧ Below W.heap.size W w' := fun W hW => by
        have := allDiffer_any ls sa _ cap W rfl hl (hp.below hW) hgs
        rw [decide_eq_false hd] at this; exact this
      clear hf hb hd hgs
      go_enter Tryd.func32, Tryd.ntmps32
      go_wp2_with fail
      refine HC.mono ?_
      rintro e w1 ⟨he, hb1⟩
      subst he
      dsimp only
      go_wp2_with fail
      refine (HD w1 hb1).mono ?_
      rintro e w2 ⟨he, hb2⟩
      subst he
      dsimp only
      go_wp2_with fail
      go_ret
      exact ⟨ret_int hF.out.symm, hb1.trans (hb2.mono hb1.size)⟩
  · have hF : Hid (signsF (gvs ls) = 12) := by
      show _ = _
      rw [signsF, if_neg (fun h => hb h.1)]
    rw [(any_wrong ls).2 hb] at HC
    clear hb
    go_enter Tryd.func32, Tryd.ntmps32
    go_wp2_with fail
    refine HC.mono ?_
    rintro e w1 ⟨he, hb1⟩
    subst he
    dsimp only
    go_wp2_with fail
    go_ret
    exact ⟨ret_int hF.out.symm, hb1⟩
set_option maxRecDepth 100000 in
theorem txL_iff {xs ys : List Int} (hx : AllU8 xs) (hy : AllU8 ys) : txL xs = txL ys ↔ xs = ys := by
  constructor
  · intro h
    exact bstr_inj hx hy (ba_ext h)
  · intro h; rw [h]
set_option maxRecDepth 100000 in
set_option maxHeartbeats 1000000 in
theorem sameSg_any (s t : Sg) (g : Nat) (w : World) (hs : SliceAt w s.p.sa s.p.cap s.p.bs ∧ AllU8 s.p.bs) (ht : SliceAt w t.p.sa t.p.cap t.p.bs ∧ AllU8 t.p.bs) (hg : w.heap[g]? = some (.cells #[.int .i64 t.nd, .int .i64 t.au, .int .i64 t.rd, .slice t.p.sa t.p.bs.length t.p.cap] 52 (0, 0))) :
    Calls Tryd.prog 36 #[.agg #[.int .i64 s.nd, .int .i64 s.au, .int .i64 s.rd, .slice s.p.sa s.p.bs.length s.p.cap], .pointer (some ⟨g, 0, none⟩)] w fun e w' => e = .returned (.bool (decide (s.v = t.v))) ∧ Below w.heap.size w w' := by
  have hA := (Below.refl w.heap.size w).alloc (Nat.le_refl _) (.cells #[.int .i64 s.nd, .int .i64 s.au, .int .i64 s.rd, .slice s.p.sa s.p.bs.length s.p.cap] 52)
  have r0 := heap_alloc_new w (.cells #[.int .i64 s.nd, .int .i64 s.au, .int .i64 s.rd, .slice s.p.sa s.p.bs.length s.p.cap] 52)
  have r1 := heap_keep (o := .cells #[.int .i64 s.nd, .int .i64 s.au, .int .i64 s.rd, .slice s.p.sa s.p.bs.length s.p.cap] 52) hg
  have HZ : Hid (s.v = t.v ↔ s.nd = t.nd ∧ s.au = t.au ∧ s.rd = t.rd ∧ txL s.p.bs = txL t.p.bs) := by
    show _ ↔ _
    rw [txL_iff hs.2 ht.2]
    simp [Sg.v]
  have HC := equal_any s.p.bs t.p.bs s.p.sa t.p.sa _ _ s.p.cap t.p.cap _ rfl rfl (hs.1.below hA) (ht.1.below hA)
  have d0 := cells_at r1 0 _ rfl
  have d1 := cells_at r1 1 _ rfl
  have d2 := cells_at r1 2 _ rfl
  have d3 := cells_at r1 3 _ rfl
  by_cases h1 : s.nd = t.nd
  · by_cases h2 : s.au = t.au
    · by_cases h3 : s.rd = t.rd
      · have hF : Hid (decide (s.v = t.v) = decide (txL s.p.bs = txL t.p.bs)) := by
          show _ = _
          simp [HZ.out, h1, h2, h3]
        generalize decide (txL s.p.bs = txL t.p.bs) = y at HC hF
        have k1 : (s.nd == t.nd) = true := by simp [h1]
        have k2 : (s.au == t.au) = true := by simp [h2]
        have k3 : (s.rd == t.rd) = true := by simp [h3]
        clear HZ h1 h2 h3
        go_enter Tryd.func36, Tryd.ntmps36
        go_wp2_with (go_at_call 37; refine HC.mono ?_; rintro e w9 ⟨rfl, rfl⟩)
        go_ret
        exact ⟨ret_bool hF.out.symm, hA⟩
      · have hF : Hid (decide (s.v = t.v) = false) := by
          show _ = _
          simp [HZ.out, h3]
        have k1 : (s.nd == t.nd) = true := by simp [h1]
        have k2 : (s.au == t.au) = true := by simp [h2]
        clear HZ HC h1 h2
        go_enter Tryd.func36, Tryd.ntmps36
        go_wp2_with fail
        go_ret
        exact ⟨ret_bool hF.out.symm, hA⟩
    · have hF : Hid (decide (s.v = t.v) = false) := by
        show _ = _
        simp [HZ.out, h2]
      have k1 : (s.nd == t.nd) = true := by simp [h1]
      clear HZ HC h1
      go_enter Tryd.func36, Tryd.ntmps36
      go_wp2_with fail
      go_ret
      exact ⟨ret_bool hF.out.symm, hA⟩
  · have hF : Hid (decide (s.v = t.v) = false) := by
      show _ = _
      simp [HZ.out, h1]
    clear HZ HC
    go_enter Tryd.func36, Tryd.ntmps36
    go_wp2_with fail
    go_ret
    exact ⟨ret_bool hF.out.symm, hA⟩
set_option maxRecDepth 100000 in
theorem any_same (ls : List Sg) (t : Sg) : (ls.any fun s => decide (s.v = t.v)) = decide (t.v ∈ gvs ls) := by
  rw [Bool.eq_iff_iff, List.any_eq_true, decide_eq_true_eq, gvs, List.mem_map]
  constructor
  · rintro ⟨s, hs, h⟩; exact ⟨s, hs, by simpa using h⟩
  · rintro ⟨s, hs, h⟩; exact ⟨s, hs, by simpa using h⟩
set_option maxRecDepth 100000 in
set_option maxHeartbeats 1000000 in
theorem has_any (ls : List Sg) (sa : Option Addr) (n cap : Nat) (t : Sg) (w : World) (hn : n = ls.length) (hl : ls.length ≤ 2932031007400) (hp : SignsAt w sa ls) (ht : SliceAt w t.p.sa t.p.cap t.p.bs ∧ AllU8 t.p.bs) :
    Calls Tryd.prog 21 #[.slice sa n cap, .agg #[.int .i64 t.nd, .int .i64 t.au, .int .i64 t.rd, .slice t.p.sa t.p.bs.length t.p.cap]] w fun e w' => e = .returned (.bool (decide (t.v ∈ gvs ls))) ∧ Below w.heap.size w w' := by
  subst hn
  have hmf : ∀ (fn : Fn) (first cap : Array Value) (w : World), (Instr.makeFunc fn first cap).run Tryd.prog w = .ok (.func fn first cap) w := fun _ _ _ _ => rfl
  have hA := (Below.refl w.heap.size w).alloc (Nat.le_refl _) (.cells #[.int .i64 t.nd, .int .i64 t.au, .int .i64 t.rd, .slice t.p.sa t.p.bs.length t.p.cap] 52)
  have r0 := heap_alloc_new w (.cells #[.int .i64 t.nd, .int .i64 t.au, .int .i64 t.rd, .slice t.p.sa t.p.bs.length t.p.cap] 52)
  go_enter Tryd.func21, Tryd.ntmps21
  go_wp2_with fail
  generalize w.alloc (.cells #[.int .i64 t.nd, .int .i64 t.au, .int .i64 t.rd, .slice t.p.sa t.p.bs.length t.p.cap] 52) = W0 at hA r0 ⊢
  have hp0 := hp.below hA
  have HC := containsFuncG_any 36 #[.pointer (some ⟨w.heap.size, 0, none⟩)] (fun s => decide (s.v = t.v)) (enters_of Tryd.func36 (by kernel_rfl) rfl) ls sa _ cap W0 rfl hl hp0 (fun s hs W hW => sameSg_any s t _ W ⟨(hp0.each s hs).1.below hW, (hp0.each s hs).2⟩ ⟨(ht.1.below hA).below hW, ht.2⟩ ((hW.block _ (lt_of_heap r0)).trans r0))
  rw [any_same] at HC
  generalize hr : decide (t.v ∈ gvs ls) = r at HC
  have HR : Hid (decide (t.v ∈ gvs ls) = r) := hr
  clear hr
  refine HC.mono ?_
  rintro e w1 ⟨he, hb⟩
  subst he
  dsimp only
  go_wp2_with fail
  go_ret
  exact ⟨ret_bool HR.out.symm, hA.trans (hb.mono hA.size)⟩
end Go.Proofs.YtmpflkggbekpfaaDoor
