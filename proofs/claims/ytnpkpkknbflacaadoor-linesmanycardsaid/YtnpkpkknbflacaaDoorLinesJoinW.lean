/- LinesJoin answers true for every argument. -/
import Derived.Test.YtnpkpkknbflacaaDoorLnA
import Derived.Test.YtnpkpkknbflacaaDoorLnL
import Derived.Test.YtnpkpkknbflacaaDoorOpenF
import Derived.Deep.CutRange
import Derived.Deep.CutBlock
import Derived.Deep.DeepCutAuto
namespace Go.Proofs.YtnpkpkknbflacaaDoor
open Go.RowKit

set_option maxRecDepth 100000 in
theorem show_ok (l : List AV) (h : ∀ a ∈ l, a.e = 0) (hl : l.length ≤ 3000) : showE l = 0 ∧ showP l = 0 ∧ showT l = l.flatMap AV.line := by
  have hf := fb_all l h
  refine ⟨?_, ?_, ?_⟩
  · rw [showE, if_neg (by omega), if_neg (by omega)]
  · rw [showP, if_neg (by omega), if_neg (by omega)]
  · rw [showT, if_neg (by omega), if_neg (by omega)]
set_option maxRecDepth 100000 in
theorem ok_text {l : List AV} (h : ∀ a ∈ l, a.e = 0) : ∀ a ∈ l, a.t.size ≤ maxLen := fun a ha => by
  have := (ok_bounds (h a ha)).2.2.2.1
  unfold maxLen; omega
set_option maxRecDepth 100000 in
set_option maxHeartbeats 4000000 in
theorem linesJoin_walk (sa0 : Option Addr) (cap0 : Nat) (rs0 : List Ft) (sa1 : Option Addr) (cap1 : Nat) (rs1 : List Ft) (w : World) (h0 : FtsAt w sa0 rs0) (_h0c : rs0.length ≤ cap0) (h1 : FtsAt w sa1 rs1) (_h1c : rs1.length ≤ cap1) (hT : STabs w) :
    Calls Tryd.prog 12 #[.slice sa0 rs0.length cap0, .slice sa1 rs1.length cap1] w fun e w' => e = .returned (.bool true) ∧ Below w.heap.size w w' := by
  have hm0 := h0.small
  have hm1 := h1.small
  go_enter Tryd.func12, Tryd.ntmps12
  go_upto_block 0 with fail
  go_cut [5] (fun v wc => ∃ (k : Nat) (l : List AV), k ≤ 12 ∧ Hid (l.length = k) ∧ Below w.heap.size w wc ∧ wc.ownsRow w.heap.size 30 4 v k (avs l) ∧ Hid (∀ a ∈ l, a.e = 0))
  case first =>
    go_wp2_with fail
    go_loopw [7, 5] (fun j v wr => ∃ (k : Nat) (l : List AV), k ≤ rs0.length ∧ k ≤ 12 ∧ j = .int .i64 k ∧ Hid (l.length = k) ∧ Below w.heap.size w wr ∧ wr.ownsRow w.heap.size 30 4 v k (avs l) ∧ Hid (∀ a ∈ l, a.e = 0)) (fun j _ _ => rs0.length - (intOf j).toNat)
    case atStart => exact ⟨0, [], Nat.zero_le _, Nat.zero_le _, rfl, rfl, Below.refl _ _, World.ownsRow_nil _ _ _ _, by show ∀ _, _; simp⟩
    case round =>
      obtain ⟨kA, lA, hkA, hkMA, rfl, hllA, hbA, hoA, hokA⟩ := hrel
      by_cases hlt : kA < rs0.length ∧ kA < 12
      · obtain ⟨hlt, hltM⟩ := hlt
        have hltI : (kA : Int) < rs0.length := by omega
        have hltMI : (kA : Int) < 12 := by omega
        rcases (h0.below hbA).cells with hc | ⟨sb, so, hsa, hc⟩
        · subst hc; simp at hlt
        subst hsa
        obtain ⟨c0, c1, c2, c3⟩ := hc kA hlt
        obtain ⟨j1, j2, j3, j4⟩ := h0.each (rs0[kA]) (List.getElem_mem hlt)
        have HFt : Hid _ := h0
        clear hc
        have HA := act_any (rs0[kA]).k (rs0[kA]).a (rs0[kA]).b (rs0[kA]).t wr j1 j2 j3 j4
        generalize (rs0[kA]).k = fk at *
        generalize (rs0[kA]).a = fa at *
        generalize (rs0[kA]).b = fb' at *
        generalize (rs0[kA]).t = ft at *
        go_wp2_with fail
        refine HA.mono ?_
        rintro e w1 ⟨⟨x, he, hxe⟩, hb1⟩
        subst he
        dsimp only
        clear HA c0 c1 c2 c3
        have ho1 := owns_keep hoA hb1
        have hB1 := hbA.trans (hb1.mono hbA.size)
        have hvlt : ∀ q, u5.ownBlock = some q → q < w1.heap.size := fun q e => (ho1.lt q e).2
        have HX : Hid (x.e = 0) := hxe
        clear hxe
        have q1 : ((w1.alloc (.cells #[.int .i64 x.k, .int .i64 x.n, .int .i64 x.p, .string x.t] 30)).alloc (.cells #[.int .i64 x.k, .int .i64 x.n, .int .i64 x.p, .string x.t] 30)).heap[w1.heap.size + 1]? = some (.cells x.cs.toArray 30 (0, 0)) := heap_new_at _ _ _ (by simp)
        go_wp2_with (at_builtin; refine wpList_append_act rfl _ _ rfl w.heap.size _ kA lA rfl ((ho1.alloc _).alloc _) (w1.heap.size + 1) x rfl q1 (by omega) (by have := hB1.size; simp; omega) ?_)
        intro v' w2 ho2 hg2
        go_wp2_with fail
        go_roundw
        case rel =>
          refine ⟨kA + 1, lA ++ [x], by omega, by omega, by go_num, by show _ = _; rw [List.length_append, hllA.out]; rfl, hB1.trans ?_, ho2, ?_⟩
          · exact (((Below.refl _ _).alloc hB1.size _).alloc (by have := hB1.size; simp; omega) _).trans (hg2.below (by have := hB1.size; simp; omega) (fun q e => (hoA.lt q e).1))
          · show ∀ _, _
            intro y hy
            rcases List.mem_append.1 hy with g | g
            · exact hokA.out y g
            · simp at g; subst g; exact HX.out
        case measure => simp [intOf]; omega
      · have hcs : (¬ (kA : Int) < rs0.length) ∨ ((kA : Int) < rs0.length ∧ ¬ (kA : Int) < 12) := by omega
        clear hlt
        rcases hcs with hcs | ⟨hcs, hcs2⟩
        all_goals
          go_wp2_with fail
          go_meet
          case rel => exact ⟨kA, lA, hkMA, hllA, hbA, hoA, hokA⟩
  case rest =>
    obtain ⟨kA, lA, hkMA, hllA, hbA, hoA, hokA⟩ := hcut
    have h1A := h1.below hbA
    generalize hWA : wc = WA at *
    clear hWA
    generalize hUA : u5 = uA at *
    clear hUA h0 h1 _h0c _h1c hm0
    go_upto_block 2 with fail
    go_cut [6] (fun v wc => ∃ (k : Nat) (l : List AV), k ≤ 12 ∧ Hid (l.length = k) ∧ Below WA.heap.size WA wc ∧ wc.ownsRow WA.heap.size 30 4 v k (avs l) ∧ Hid (∀ a ∈ l, a.e = 0))
    case first =>
      go_wp2_with fail
      go_loopw [9, 6] (fun j v wr => ∃ (k : Nat) (l : List AV), k ≤ rs1.length ∧ k ≤ 12 ∧ j = .int .i64 k ∧ Hid (l.length = k) ∧ Below WA.heap.size WA wr ∧ wr.ownsRow WA.heap.size 30 4 v k (avs l) ∧ Hid (∀ a ∈ l, a.e = 0)) (fun j _ _ => rs1.length - (intOf j).toNat)
      case atStart => exact ⟨0, [], Nat.zero_le _, Nat.zero_le _, rfl, rfl, Below.refl _ _, World.ownsRow_nil _ _ _ _, by show ∀ _, _; simp⟩
      case round =>
        obtain ⟨kB, lB, hkB, hkMB, rfl, hllB, hbB, hoB, hokB⟩ := hrel
        by_cases hlt : kB < rs1.length ∧ kB < 12
        · obtain ⟨hlt, hltM⟩ := hlt
          have hltI : (kB : Int) < rs1.length := by omega
          have hltMI : (kB : Int) < 12 := by omega
          rcases (h1A.below hbB).cells with hc | ⟨sb, so, hsa, hc⟩
          · subst hc; simp at hlt
          subst hsa
          obtain ⟨c0, c1, c2, c3⟩ := hc kB hlt
          obtain ⟨j1, j2, j3, j4⟩ := h1A.each (rs1[kB]) (List.getElem_mem hlt)
          have HFt : Hid _ := h1A
          clear hc
          have HA := act_any (rs1[kB]).k (rs1[kB]).a (rs1[kB]).b (rs1[kB]).t wr j1 j2 j3 j4
          generalize (rs1[kB]).k = fk at *
          generalize (rs1[kB]).a = fa at *
          generalize (rs1[kB]).b = fb' at *
          generalize (rs1[kB]).t = ft at *
          go_wp2_with fail
          refine HA.mono ?_
          rintro e w1 ⟨⟨x, he, hxe⟩, hb1⟩
          subst he
          dsimp only
          clear HA c0 c1 c2 c3
          have ho1 := owns_keep hoB hb1
          have hB1 := hbB.trans (hb1.mono hbB.size)
          have hvlt : ∀ q, u6.ownBlock = some q → q < w1.heap.size := fun q e => (ho1.lt q e).2
          have HX : Hid (x.e = 0) := hxe
          clear hxe
          have q1 : ((w1.alloc (.cells #[.int .i64 x.k, .int .i64 x.n, .int .i64 x.p, .string x.t] 30)).alloc (.cells #[.int .i64 x.k, .int .i64 x.n, .int .i64 x.p, .string x.t] 30)).heap[w1.heap.size + 1]? = some (.cells x.cs.toArray 30 (0, 0)) := heap_new_at _ _ _ (by simp)
          go_wp2_with (at_builtin; refine wpList_append_act rfl _ _ rfl WA.heap.size _ kB lB rfl ((ho1.alloc _).alloc _) (w1.heap.size + 1) x rfl q1 (by omega) (by have := hB1.size; simp; omega) ?_)
          intro v' w2 ho2 hg2
          go_wp2_with fail
          go_roundw
          case rel =>
            refine ⟨kB + 1, lB ++ [x], by omega, by omega, by go_num, by show _ = _; rw [List.length_append, hllB.out]; rfl, hB1.trans ?_, ho2, ?_⟩
            · exact (((Below.refl _ _).alloc hB1.size _).alloc (by have := hB1.size; simp; omega) _).trans (hg2.below (by have := hB1.size; simp; omega) (fun q e => (hoB.lt q e).1))
            · show ∀ _, _
              intro y hy
              rcases List.mem_append.1 hy with g | g
              · exact hokB.out y g
              · simp at g; subst g; exact HX.out
          case measure => simp [intOf]; omega
        · have hcs : (¬ (kB : Int) < rs1.length) ∨ ((kB : Int) < rs1.length ∧ ¬ (kB : Int) < 12) := by omega
          clear hlt
          rcases hcs with hcs | ⟨hcs, hcs2⟩
          all_goals
            go_wp2_with fail
            go_meet
            case rel => exact ⟨kB, lB, hkMB, hllB, hbB, hoB, hokB⟩
    case rest =>
      obtain ⟨kB, lB, hkMB, hllB, hbB, hoB, hokB⟩ := hcut
      generalize hWB : wc = WB at *
      clear hWB
      have hBB := hbA.trans (hbB.mono hbA.size)
      have hoA2 := owns_keep hoA hbB
      have hFl : (⟨10, 0, 0, ⟨#[]⟩⟩ : AV).e = 0 := ok_of 10 0 0 ⟨#[]⟩ (by omega) (by omega) (by omega) (by decide) (fun _ => rfl) (fun _ => rfl) (fun _ => rfl)
      obtain ⟨Fl, hFle⟩ : ∃ a : AV, (⟨10, 0, 0, ⟨#[]⟩⟩ : AV) = a := ⟨_, rfl⟩
      have qF := heap_alloc_new WB (.cells #[.int .i64 10, .int .i64 0, .int .i64 0, .string ⟨#[]⟩] 30)
      have qF2 : (WB.alloc (.cells #[.int .i64 10, .int .i64 0, .int .i64 0, .string ⟨#[]⟩] 30)).heap[WB.heap.size]? = some (.cells Fl.cs.toArray 30 (0, 0)) := by rw [← hFle]; exact qF
      rw [hFle] at hFl
      have HFl : Hid _ := hFl
      have HFle : Hid _ := hFle
      clear hFl hFle qF
      go_wp2_with (at_builtin; refine wpList_append_act rfl _ _ rfl WA.heap.size _ kB lB rfl (hoB.alloc _) WB.heap.size Fl rfl qF2 (by omega) (by have := hbB.size; simp; omega) ?_)
      intro vC w2 hoC hgC
      have hB2 : Below WA.heap.size WB w2 := ((Below.refl _ _).alloc hbB.size _).trans (hgC.below (by have := hbB.size; simp; omega) (fun q e => (hoB.lt q e).1))
      have hokC : Hid (∀ a ∈ lB ++ [Fl], a.e = 0) := by
        show ∀ _, _
        intro y hy
        rcases List.mem_append.1 hy with g | g
        · exact hokB.out y g
        · simp at g; subst g; exact HFl.out
      have hoA3 : w2.ownsRow w.heap.size 30 4 uA kA (avs lA) := by
        have hlt : ∀ q, uA.ownBlock = some q → q < WA.heap.size := fun q e => (hoA.lt q e).2
        obtain ⟨g1, g2⟩ := hoA2
        refine ⟨g1, ?_⟩
        rcases g2 with g2 | ⟨g, cap, cur, rfl, hg, hc, r⟩
        · exact .inl g2
        · exact .inr ⟨g, cap, cur, rfl, hg, (hB2.block g (hlt g rfl)).trans hc, r⟩
      have hB3 : Below w.heap.size w w2 := hBB.trans (hB2.mono hbA.size)
      obtain ⟨saA, capA, hvA, hnA, hmA, hActA⟩ := acts_of_owns hoA3 (ok_text hokA.out)
      obtain ⟨saC, capC, hvC, hnC, hmC, hActC⟩ := acts_of_owns hoC (ok_text hokC.out)
      have hsA : Hid (showE lA = 0 ∧ showP lA = 0 ∧ showT lA = lA.flatMap AV.line) := show_ok lA hokA.out (by rw [← hnA]; omega)
      have hsC : Hid (showE (lB ++ [Fl]) = 0 ∧ showP (lB ++ [Fl]) = 0 ∧ showT (lB ++ [Fl]) = (lB ++ [Fl]).flatMap AV.line) := show_ok _ hokC.out (by rw [← hnC]; omega)
      have hsD : Hid (showE (lA ++ (lB ++ [Fl])) = 0 ∧ showP (lA ++ (lB ++ [Fl])) = 0 ∧ showT (lA ++ (lB ++ [Fl])) = (lA ++ (lB ++ [Fl])).flatMap AV.line) := show_ok _ (fun a ha => (List.mem_append.1 ha).elim (hokA.out a) (hokC.out a)) (by rw [List.length_append, ← hnA, ← hnC]; omega)
      have hokD : Hid (∀ a ∈ lA ++ (lB ++ [Fl]), a.e = 0) := by
        show ∀ _, _
        exact fun a ha => (List.mem_append.1 ha).elim (hokA.out a) (hokC.out a)
      have hTx : Hid ((lA ++ (lB ++ [Fl])).flatMap AV.line = lA.flatMap AV.line ++ (lB ++ [Fl]).flatMap AV.line) := List.flatMap_append ..
      have hTl : Hid (0 < ((lB ++ [Fl]).flatMap AV.line).length) := by
        show _ < _
        rw [List.flatMap_append, List.length_append]
        simp [AV.line, lineU]
        omega
      have HS1 := show_any lA saA kA capA w2 hnA hmA hActA (hT.below hB3)
      rw [hsA.out.1, hsA.out.2.1, hsA.out.2.2] at HS1
      have HNC : Hid (kB + 1 = (lB ++ [Fl]).length) := hnC
      clear hnA hnC
      generalize lB ++ [Fl] = lC at *
      subst hvA hvC
      go_wp2_with fail
      refine HS1.mono ?_
      rintro e w3 ⟨he, hb3⟩
      subst he
      dsimp only
      clear HS1
      have hB4 := hB3.trans (hb3.mono hB3.size)
      have HS2 := show_any lC saC (kB + 1) capC w3 HNC.out hmC (hActC.below hb3) (hT.below hB4)
      rw [hsC.out.1, hsC.out.2.1, hsC.out.2.2] at HS2
      go_wp2_with fail
      refine HS2.mono ?_
      rintro e w4 ⟨he, hb4⟩
      subst he
      dsimp only
      clear HS2
      have hB5 := hB4.trans (hb4.mono hB4.size)
      have hoA4 := owns_keep (owns_keep hoA3 hb3) hb4
      have hoC4 := owns_keep (owns_keep hoC hb3) hb4
      go_wp2_with (first
        | (at_builtin; refine wpList_append_acts rfl _ _ rfl w4.heap.size vD kA lA rfl hoD WA.heap.size _ (kB + 1) lC rfl hoC5 (by omega) (by have := hb5.size; omega) ?_; intro vE w6 hoE hgE; obtain ⟨saE, capE, hvE, hnE, hmE, hActE⟩ := acts_of_owns hoE (ok_text hokD.out); subst hvE; have HNE : Hid _ := hnE; clear hnE)
        | (at_builtin; refine wpList_append_acts rfl _ _ rfl w4.heap.size (.slice none 0 0) 0 [] rfl (World.ownsRow_nil _ _ _ _) w.heap.size _ kA lA rfl hoA4 (by omega) (Nat.le_refl _) ?_; intro vD w5 hoD hgD; rw [Nat.zero_add, List.nil_append] at hoD; have hb5 := grown_none hgD.grown; have hoC5 := owns_keep hoC4 hb5))
      have hB6 : Below w.heap.size w w6 := (hB5.trans (hb5.mono hB5.size)).trans ((hgE.below (by have := hb5.size; omega) (fun q e => (hoD.lt q e).1)).mono hB5.size)
      have HS3 := show_any (lA ++ lC) saE _ capE w6 HNE.out hmE hActE (hT.below hB6)
      rw [hsD.out.1, hsD.out.2.1, hsD.out.2.2, hTx.out] at HS3
      refine HS3.mono ?_
      rintro e w7 ⟨he, hb7⟩
      subst he
      dsimp only
      have hB7 := hB6.trans (hb7.mono hB6.size)
      clear HS3
      have hXl := lines_len lA hokA.out
      have hYl := lines_len lC hokC.out
      rw [hllA.out] at hXl
      rw [← HNC.out] at hYl
      generalize lA.flatMap AV.line = X at *
      generalize lC.flatMap AV.line = Y at *
      have hEq : ((⟨X.toArray⟩ : ByteArray) ++ (⟨Y.toArray⟩ : ByteArray)).toList = X ++ Y := by
        rw [ByteArray.toList_eq, ByteArray.data_append]
        simp
      have hXY : ¬ 9223372036854775807 < X.length + Y.length := by omega
      have hYI : 0 < Y.length := hTl.out
      clear hXl hYl
      go_wp2_with fail
      go_ret
      exact ⟨rfl, hB7⟩
end Go.Proofs.YtnpkpkknbflacaaDoor
