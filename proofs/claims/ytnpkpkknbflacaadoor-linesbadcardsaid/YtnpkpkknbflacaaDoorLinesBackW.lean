/- LinesBack answers true for every argument. -/
import Derived.Test.YtnpkpkknbflacaaDoorLnM2
import Derived.Test.YtnpkpkknbflacaaDoorLnA
import Derived.Test.YtnpkpkknbflacaaDoorLnL
import Derived.Test.YtnpkpkknbflacaaDoorOpenF
import Derived.Test.YtnpkpkknbflacaaDoorLinesJoinW
import Derived.Deep.CutRange
import Derived.Deep.CutBlock
import Derived.Deep.DeepCutAuto
namespace Go.Proofs.YtnpkpkknbflacaaDoor
open Go.RowKit

set_option maxRecDepth 100000 in
theorem acts_one (w : World) (a : AV) (ha : a.t.size ≤ maxLen) : ActsAt (w.alloc (.cells #[.int .i64 a.k, .int .i64 a.n, .int .i64 a.p, .string a.t] 30)) (some ⟨w.heap.size, 0, none⟩) [a] := by
  refine ⟨.inr ⟨w.heap.size, 0, rfl, fun j hj => ?_⟩, fun x hx => ?_⟩
  · obtain rfl : j = 0 := by simp at hj; omega
    refine ⟨?_, ?_, ?_, ?_⟩ <;> rw [World.cell?_alloc_at _ _ _ _ rfl] <;> rfl
  · simp at hx
    subst hx
    exact ha
set_option maxRecDepth 100000 in
theorem show_crash : showE [⟨7, 1, 20, ⟨#[]⟩⟩] = 0 ∧ showP [⟨7, 1, 20, ⟨#[]⟩⟩] = 0 ∧ showT [⟨7, 1, 20, ⟨#[]⟩⟩] = [99, 114, 97, 115, 104, 32, 49, 32, 50, 48, 10] := by
  have h : (⟨7, 1, 20, ⟨#[]⟩⟩ : AV).e = 0 := ok_of 7 1 20 ⟨#[]⟩ (by omega) (by omega) (by omega) (by decide) (fun h => absurd h (by decide)) (fun h => absurd h (by decide)) (fun _ => rfl)
  obtain ⟨h1, h2, h3⟩ := show_ok [⟨7, 1, 20, ⟨#[]⟩⟩] (by intro a ha; simp at ha; subst ha; exact h) (by simp)
  refine ⟨h1, h2, ?_⟩
  rw [h3]
  have e1 : Lib.itoa 1 = [49] := by rw [itoa_dec 1 (by omega)]; rw [Lib.decDigits]; rfl
  have e2 : Lib.itoa 20 = [50, 48] := by rw [itoa_dec 20 (by omega)]; rw [Lib.decDigits_two (by decide) (by decide)]; rfl
  show lineU 7 1 20 _ ++ [] = _
  rw [lineU, e1, e2]
  rfl
set_option maxRecDepth 100000 in
set_option maxHeartbeats 4000000 in
theorem linesBack_walk (sa0 : Option Addr) (cap0 : Nat) (rs0 : List Ft) (w : World) (h0 : FtsAt w sa0 rs0) (_h0c : rs0.length ≤ cap0) (hT : LTabs w) :
    Calls Tryd.prog 4 #[.slice sa0 rs0.length cap0] w fun e w' => e = .returned (.bool true) ∧ Below w.heap.size w w' := by
  have hm0 := h0.small
  go_enter Tryd.func4, Tryd.ntmps4
  go_upto_block 0 with fail
  go_cut [3] (fun v wc => ∃ (k : Nat) (l : List AV), k ≤ 30 ∧ Hid (l.length = k) ∧ Below w.heap.size w wc ∧ wc.ownsRow w.heap.size 30 4 v k (avs l) ∧ Hid (∀ a ∈ l, a.e = 0))
  case first =>
    go_wp2_with fail
    go_loopw [4, 3] (fun j v wr => ∃ (k : Nat) (l : List AV), k ≤ rs0.length ∧ k ≤ 30 ∧ j = .int .i64 k ∧ Hid (l.length = k) ∧ Below w.heap.size w wr ∧ wr.ownsRow w.heap.size 30 4 v k (avs l) ∧ Hid (∀ a ∈ l, a.e = 0)) (fun j _ _ => rs0.length - (intOf j).toNat)
    case atStart => exact ⟨0, [], Nat.zero_le _, Nat.zero_le _, rfl, rfl, Below.refl _ _, World.ownsRow_nil _ _ _ _, by show ∀ _, _; simp⟩
    case round =>
      obtain ⟨kA, lA, hkA, hkMA, rfl, hllA, hbA, hoA, hokA⟩ := hrel
      by_cases hlt : kA < rs0.length ∧ kA < 30
      · obtain ⟨hlt, hltM⟩ := hlt
        have hltI : (kA : Int) < rs0.length := by omega
        have hltMI : (kA : Int) < 30 := by omega
        rcases (h0.below hbA).cells with hc | ⟨sb, so, hsa, hc⟩
        · subst hc; simp at hlt
        subst hsa
        obtain ⟨c0, c1, c2, c3⟩ := hc kA hlt
        obtain ⟨j1, j2, j3, j4⟩ := h0.each (rs0[kA]) (List.getElem_mem hlt)
        have HFt : Hid _ := h0
        clear hc
        have HA := act_any (rs0[kA]).k (rs0[kA]).a (rs0[kA]).b (rs0[kA]).t wr j1 j2 j3 j4
        generalize (rs0[kA]).k = fk at *
        generalize (rs0[kA]).a = fa at *
        generalize (rs0[kA]).b = fb' at *
        generalize (rs0[kA]).t = ft at *
        go_wp2_with fail
        refine HA.mono ?_
        rintro e w1 ⟨⟨x, he, hxe⟩, hb1⟩
        subst he
        dsimp only
        clear HA c0 c1 c2 c3
        have ho1 := owns_keep hoA hb1
        have hB1 := hbA.trans (hb1.mono hbA.size)
        have hvlt : ∀ q, u3.ownBlock = some q → q < w1.heap.size := fun q e => (ho1.lt q e).2
        have HX : Hid (x.e = 0) := hxe
        clear hxe
        have q1 : ((w1.alloc (.cells #[.int .i64 x.k, .int .i64 x.n, .int .i64 x.p, .string x.t] 30)).alloc (.cells #[.int .i64 x.k, .int .i64 x.n, .int .i64 x.p, .string x.t] 30)).heap[w1.heap.size + 1]? = some (.cells x.cs.toArray 30 (0, 0)) := heap_new_at _ _ _ (by simp)
        go_wp2_with (at_builtin; refine wpList_append_act rfl _ _ rfl w.heap.size _ kA lA rfl ((ho1.alloc _).alloc _) (w1.heap.size + 1) x rfl q1 (by omega) (by have := hB1.size; simp; omega) ?_)
        intro v' w2 ho2 hg2
        go_wp2_with fail
        go_roundw
        case rel =>
          refine ⟨kA + 1, lA ++ [x], by omega, by omega, by go_num, by show _ = _; rw [List.length_append, hllA.out]; rfl, hB1.trans ?_, ho2, ?_⟩
          · exact (((Below.refl _ _).alloc hB1.size _).alloc (by have := hB1.size; simp; omega) _).trans (hg2.below (by have := hB1.size; simp; omega) (fun q e => (hoA.lt q e).1))
          · show ∀ _, _
            intro y hy
            rcases List.mem_append.1 hy with g | g
            · exact hokA.out y g
            · simp at g; subst g; exact HX.out
        case measure => simp [intOf]; omega
      · have hcs : (¬ (kA : Int) < rs0.length) ∨ ((kA : Int) < rs0.length ∧ ¬ (kA : Int) < 30) := by omega
        clear hlt
        rcases hcs with hcs | ⟨hcs, hcs2⟩
        all_goals
          go_wp2_with fail
          go_meet
          case rel => exact ⟨kA, lA, hkMA, hllA, hbA, hoA, hokA⟩
  case rest =>
    obtain ⟨kA, lA, hkMA, hllA, hbA, hoA, hokA⟩ := hcut
    generalize hWA : wc = WA at *
    clear hWA
    generalize hUA : u3 = uA at *
    clear hUA h0 _h0c hm0
    obtain ⟨saA, capA, hvA, hnA, hmA, hActA⟩ := acts_of_owns hoA (ok_text hokA.out)
    obtain ⟨s1, s2, s3⟩ := show_ok lA hokA.out (by rw [hllA.out]; omega)
    obtain ⟨r1, r2, r3⟩ := read_line lA hokA.out (by rw [hllA.out]; omega)
    have hLl := lines_len lA hokA.out
    rw [hllA.out] at hLl
    have HS1 := show_any lA saA kA capA WA hnA hmA hActA (hT.below hbA).s
    rw [s1, s2, s3] at HS1
    subst hvA
    have HL2 : Hid (readAs (lA.flatMap AV.line) = lA) := r3
    clear s1 s2 s3 r3
    have HNA : Hid (kA = lA.length) := hnA
    clear hnA
    generalize hX : lA.flatMap AV.line = X at *
    clear hX
    go_wp2_with fail
    refine HS1.mono ?_
    rintro e w2 ⟨he, hb2⟩
    subst he
    dsimp only
    have hB2 := hbA.trans (hb2.mono hbA.size)
    have hoA2 := owns_keep hoA hb2
    clear HS1
    have HR := read_any ⟨X.toArray⟩ w2 (by rw [mk_size]; omega) (hT.below hB2)
    rw [mk_list] at HR
    go_wp2_with fail
    refine HR.mono ?_
    rintro e w3 ⟨⟨vR, he, hoR⟩, hb3⟩
    subst he
    dsimp only
    clear HR
    rw [r1, r2]
    rw [HL2.out] at hoR
    have hB3 := hB2.trans (hb3.mono hB2.size)
    have hoA3 := owns_keep hoA2 hb3
    obtain ⟨saR, capR, hvR, hnR, hmR, hActR⟩ := acts_of_owns hoR (ok_text hokA.out)
    subst hvR
    have HS3 := show_any [⟨7, 1, 20, ⟨#[]⟩⟩] (some ⟨w3.heap.size, 0, none⟩) 1 1 (w3.alloc (.cells #[.int .i64 7, .int .i64 1, .int .i64 20, .string ⟨#[]⟩] 30)) rfl (by decide) (acts_one w3 ⟨7, 1, 20, ⟨#[]⟩⟩ (by decide)) ((hT.below hB3).below ((Below.refl _ _).alloc (Nat.le_refl _) _)).s
    rw [show_crash.1, show_crash.2.1, show_crash.2.2] at HS3
    have hB4 := hB3.alloc hB3.size (.cells #[.int .i64 7, .int .i64 1, .int .i64 20, .string ⟨#[]⟩] 30)
    have hoA4 := hoA3.alloc (.cells #[.int .i64 7, .int .i64 1, .int .i64 20, .string ⟨#[]⟩] 30)
    have hoR4 := hoR.alloc (.cells #[.int .i64 7, .int .i64 1, .int .i64 20, .string ⟨#[]⟩] 30)
    clear r1 r2
    go_wp2_with fail
    refine HS3.mono ?_
    rintro e w4 ⟨he, hb4⟩
    subst he
    dsimp only
    have hB5 := hB4.trans (hb4.mono hB4.size)
    have hoA5 := owns_keep hoA4 hb4
    have hoR5 := owns_keep hoR4 hb4
    clear HS3 hnR
    have hLn : lA.length = kA := hllA.out
    rw [hLn] at hoR5
    rw [hLn]
    clear hLn
    go_wp2_with fail
    obtain ⟨_, _, hvA5, _, _, hActA5⟩ := acts_of_owns hoA5 (ok_text hokA.out)
    obtain ⟨_, _, hvR5, _, _, hActR5⟩ := acts_of_owns hoR5 (ok_text hokA.out)
    injection hvA5 with e1 e2 e3
    injection hvR5 with e4 e5 e6
    subst e1 e3 e4 e6
    clear hoA hoA2 hoA3 hoA4 hoA5 hoR hoR4 hoR5 hActA hActR e2 e5
    go_loopw [15] (fun i wr => ∃ k : Nat, k ≤ kA ∧ i = .int .i64 k ∧ Below w4.heap.size w4 wr) (fun i _ => kA - (intOf i).toNat)
    case atStart => exact ⟨0, Nat.zero_le _, rfl, Below.refl _ _⟩
    case round =>
      obtain ⟨k, hk, rfl, hbk⟩ := hrel
      by_cases hlt : k < kA
      · have hltI : (k : Int) < kA := by omega
        have hkl : k < lA.length := by rw [← HNA.out]; exact hlt
        rcases (hActA5.below hbk).cells with hc | ⟨sb, so, hsa, hc⟩
        · rw [hc] at hkl; simp at hkl
        rcases (hActR5.below hbk).cells with hd | ⟨tb, to', hta, hd⟩
        · rw [hd] at hkl; simp at hkl
        obtain ⟨c0, c1, c2, c3⟩ := hc k hkl
        obtain ⟨d0, d1, d2, d3⟩ := hd k hkl
        clear hc hd
        generalize lA.getD k AV.z = a at *
        obtain ⟨ak, an, ap, at'⟩ := a
        dsimp only at c0 c1 c2 c3 d0 d1 d2 d3
        subst hsa hta
        go_wp2_with fail
        go_region
        all_goals
          go_wp2_with fail
          go_roundw
          case rel => exact ⟨k + 1, by omega, by go_num, hbk.drew⟩
          case measure => simp [intOf]; omega
      · have hlt2 : ¬ (k : Int) < kA := by omega
        go_wp2_with fail
        go_ret
        exact ⟨rfl, hB5.trans (hbk.mono hB5.size)⟩
end Go.Proofs.YtnpkpkknbflacaaDoor
