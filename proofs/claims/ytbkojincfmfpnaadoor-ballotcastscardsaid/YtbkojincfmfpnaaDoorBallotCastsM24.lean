/- The document's HeaderCopy, and where the new lists lie. -/
import Derived.Test.YtbkojincfmfpnaaDoorDigs
import Derived.Deep.RegionHeld2
import Derived.Test.YtbkojincfmfpnaaDoorHeadF
import Derived.Test.YtbkojincfmfpnaaDoorBallotCastsM0
import Derived.Test.YtbkojincfmfpnaaDoorBallotCastsM6
import Derived.Test.YtbkojincfmfpnaaDoorBallotCastsM18
import Derived.Deep.RegionHeld3
import Derived.Test.YtbkojincfmfpnaaDoorSlotsL
import Derived.Test.YtbkojincfmfpnaaDoorOwnL
import Derived.Test.YtbkojincfmfpnaaDoorSx
import Derived.Test.YtbkojincfmfpnaaDoorCopies
namespace Go.Proofs.YtbkojincfmfpnaaDoor
open Go.RowKit

set_option maxRecDepth 100000 in
theorem sameBytes_any (xs ys : List Int) (sa sb : Option Addr) (n m c d : Nat) (w : World) (hn : n = xs.length) (hm : m = ys.length) (ha : SliceAt w sa c xs) (hb : SliceAt w sb d ys) :
    Calls Tryd.prog 57 #[.slice sa n c, .slice sb m d] w fun e w' => e = .returned (.bool (decide (txL xs = txL ys))) ∧ w = w' := by
  have h1 := run_text w sa n c xs hn ha
  have h2 := run_text w sb m d ys hm hb
  clear hn hm ha hb
  unfold txL
  generalize bstr xs = A at *
  generalize bstr ys = B at *
  go_enter Tryd.func57, Tryd.ntmps57
  go_wp2_with fail
  go_ret
  refine ⟨ret_bool ?_, rfl⟩
  by_cases h : A.toList = B.toList <;> simp [h]
set_option maxRecDepth 100000 in
theorem twice_yes (ps : List Part) (k m : Nat) (hm : m < k) (h : txL (partAt ps m).bs = txL (partAt ps k).bs) : twice ps k = true := by
  simp only [twice, List.any_eq_true]
  exact ⟨m, by simpa using hm, by simpa using h⟩
set_option maxRecDepth 100000 in
theorem twice_no (ps : List Part) (k : Nat) (h : ∀ j, j < k → ¬ txL (partAt ps j).bs = txL (partAt ps k).bs) : twice ps k = false := by
  simp only [twice, List.any_eq_false]
  intro j hj
  simpa using h j (by simpa using hj)

set_option maxRecDepth 100000 in
set_option maxHeartbeats 1000000 in
theorem digestsFault_any (ps : List Part) (sa : Option Addr) (n cap : Nat) (w : World) (hn : n = ps.length) (hcm : n ≤ 9000000000000000000) (hp : PartsAt w sa ps) :
    Calls Tryd.prog 83 #[.slice sa n cap] w fun e w' => e = .returned (.int .i64 (digF ps)) ∧ Below w.heap.size w w' := by
  subst hn
  go_enter Tryd.func83, Tryd.ntmps83
  go_wp2_with fail
  go_loopw [3] (fun i wr => ∃ k : Nat, k ≤ ps.length ∧ i = .int .i64 k ∧ digTo1 ps k = 0 ∧ Below w.heap.size w wr) (fun i _ => ps.length - (intOf i).toNat)
  case atStart => exact ⟨0, Nat.zero_le _, rfl, rfl, Below.refl _ _⟩
  case round =>
    obtain ⟨k, hk, rfl, h0, hb⟩ := hrel
    by_cases hlt : k < ps.length
    · have hpw := hp.below hb
      obtain ⟨sb, so, rfl, hc⟩ : ∃ sb so, sa = some ⟨sb, so, none⟩ ∧ ∀ j (h : j < ps.length), wr.cell? ⟨sb, so + j, none⟩ = some (.slice (ps[j]).sa (ps[j]).bs.length (ps[j]).cap) := by
        rcases hpw.cells with h | h
        · rw [h] at hlt; simp at hlt
        · exact h
      have hx := hpw.each (ps[k]) (List.getElem_mem hlt)
      have hpe := partAt_get ps k hlt
      have ck := hc k hlt
      have Hc : Hid (∀ j (h : j < ps.length), wr.cell? ⟨sb, so + j, none⟩ = some (.slice (ps[j]).sa (ps[j]).bs.length (ps[j]).cap)) := hc
      clear hc
      have hltI : (k : Int) < ps.length := by omega
      have hAt : Hid (digAt ps k = if (ps[k]).bs.length ≠ 32 then 4 else if twice ps k then 7 else 0) := by
        show _ = _
        rw [digAt, hpe]
      have hF : Hid (digAt ps k ≠ 0 → digF ps = digAt ps k) := by
        show _ → _
        exact digF_at ps k hlt h0
      have hS : Hid (digAt ps k = 0 → digTo1 ps (k + 1) = 0) := by
        show _ → _
        intro h
        rw [digTo1, h0, h]; rfl
      have hxl : (ps[k]).bs.length ≤ 9223372036854775807 := Nat.le_trans hx.le hx.max
      generalize hpk : ps[k] = p at *
      by_cases h32 : p.bs.length = 32
      · have e7 : Hid (twice ps k = true → digF ps = 7) := by
          show _ → _
          intro hT
          have : digAt ps k = 7 := by rw [hAt.out, if_neg (by simp [h32]), hT]; rfl
          rw [hF.out (by rw [this]; decide), this]
        have e0 : Hid (twice ps k = false → digTo1 ps (k + 1) = 0) := by
          show _ → _
          intro hT
          exact hS.out (by rw [hAt.out, if_neg (by simp [h32]), hT]; rfl)
        have hY : Hid (∀ m, m < k → txL (partAt ps m).bs = txL p.bs → twice ps k = true) := by
          show ∀ m, _
          intro m hm h
          exact twice_yes ps k m hm (by rw [hpe]; exact h)
        have hN : Hid ((∀ j, j < k → ¬ txL (partAt ps j).bs = txL p.bs) → twice ps k = false) := by
          show _ → _
          intro h
          exact twice_no ps k (fun j hj => by rw [hpe]; exact h j hj)
        clear hAt hF hS h0 hpe
        go_wp2_with fail
        go_loopw [4] (fun i wq => ∃ m : Nat, m ≤ k ∧ i = .int .i64 m ∧ (∀ j, j < m → ¬ txL (partAt ps j).bs = txL p.bs) ∧ Below w.heap.size w wq) (fun i _ => k - (intOf i).toNat)
        case atStart => exact ⟨0, Nat.zero_le _, rfl, (fun j hj => by omega), hb⟩
        case round =>
          clear Hc hx ck hb hpw
          obtain ⟨m, hm, rfl, hno, hb⟩ := hrel
          have hpw := hp.below hb
          by_cases hmk : m < k
          · have hmp : m < ps.length := by omega
            have hc : ∀ j (h : j < ps.length), wr.cell? ⟨sb, so + j, none⟩ = some (.slice (ps[j]).sa (ps[j]).bs.length (ps[j]).cap) := by
              rcases hpw.cells with h | ⟨sb', so', e, h⟩
              · rw [h] at hlt; simp at hlt
              · cases e; exact h
            have cm := hc m hmp
            have ck := hc k hlt
            have hx := hpw.each (ps[k]) (List.getElem_mem hlt)
            rw [hpk] at ck hx
            clear hc
            have hxm := hpw.each (ps[m]) (List.getElem_mem hmp)
            have hpm := partAt_get ps m hmp
            have hmkI : (m : Int) < k := by omega
            have hmpI : (m : Int) < ps.length := by omega
            have Hno : Hid (¬ txL (ps[m]).bs = txL p.bs → ∀ j, j < m + 1 → ¬ txL (partAt ps j).bs = txL p.bs) := by
              show _ → _
              intro h j hj
              rcases Nat.lt_or_ge j m with g | g
              · exact hno j g
              · obtain rfl : j = m := by omega
                rw [hpm]; exact h
            have Hyes : Hid (txL (ps[m]).bs = txL p.bs → digF ps = 7) := by
              show _ → _
              intro h
              exact e7.out (hY.out m hmk (by rw [hpm]; exact h))
            clear hno hpm
            generalize ps[m] = q at *
            go_wp2_with fail
            go_region_held2 (fun w' => w'.cell? ⟨sb, so + m, none⟩ = some (.slice q.sa q.bs.length q.cap) ∧ w'.cell? ⟨sb, so + k, none⟩ = some (.slice p.sa p.bs.length p.cap)) (go_keep) ((go_at_call 57; refine (sameBytes_any q.bs p.bs q.sa p.sa _ _ q.cap p.cap _ (by first | rfl | exact h32.symm) (by first | rfl | exact h32.symm) (hxm.below ?_) (hx.below ?_)).mono ?_; exact (Below.refl _ _).drew; exact (Below.refl _ _).drew; rintro e w1 ⟨rfl, rfl⟩))
            all_goals
              by_cases h : txL q.bs = txL p.bs
              · have hy := Hyes.out h
                rw [decide_eq_true h]
                clear Hyes Hno h
                go_wp2_with fail
                go_ret
                exact ⟨ret_int hy.symm, hb.drew⟩
              · have hn := Hno.out h
                rw [decide_eq_false h]
                clear Hyes Hno h
                go_wp2_with fail
                go_roundw
                case rel =>
                  have hR : ∃ m' : Nat, m' ≤ k ∧ (Value.int .i64 ((m : Int) + 1)) = .int .i64 m' ∧ (∀ j, j < m' → ¬ txL (partAt ps j).bs = txL p.bs) ∧ Below w.heap.size w wr.drew := ⟨m + 1, by omega, by go_num, hn, hb.drew⟩
                  first | exact hR | ((repeat apply Exists.intro); exact ⟨hR, rfl⟩)
                case measure => simp [intOf]; omega
          · obtain rfl : m = k := by omega
            have h1 := e0.out (hN.out hno)
            clear hno
            go_wp2_with fail
            go_roundw
            case rel =>
              have hR : ∃ k' : Nat, k' ≤ ps.length ∧ (Value.int .i64 ((m : Int) + 1)) = .int .i64 k' ∧ digTo1 ps k' = 0 ∧ Below w.heap.size w wr := ⟨m + 1, by omega, by go_num, h1, hb⟩
              first | exact hR | ((repeat apply Exists.intro); exact ⟨hR, rfl⟩)
            case measure => simp [intOf]; omega
      · have h32I : ¬ (p.bs.length : Int) = 32 := by omega
        have e4 : Hid (digF ps = 4) := by
          show _ = _
          have : digAt ps k = 4 := by rw [hAt.out, if_pos h32]
          rw [hF.out (by rw [this]; decide), this]
        clear hAt hF hS
        go_wp2_with fail
        go_ret
        exact ⟨ret_int e4.out.symm, hb⟩
    · obtain rfl : k = ps.length := by omega
      go_wp2_with fail
      go_ret
      exact ⟨ret_int h0.symm, hb⟩
end Go.Proofs.YtbkojincfmfpnaaDoor

namespace Go.Proofs.YtbkojincfmfpnaaDoor
open Go.RowKit

set_option maxRecDepth 100000 in
set_option maxHeartbeats 2000000 in
theorem headerFault_any (au rd : Int) (ba : Option Addr) (bc : Nat) (bl : List Part) (pa : Option Addr) (pc : Nat) (pl : List Part) (w : World) (hb : ListAt w ba bc bl) (hp : ListAt w pa pc pl) :
    Calls Tryd.prog 55 #[.agg #[.int .i64 au, .int .i64 rd, .slice ba bl.length bc, .slice pa pl.length pc]] w fun e w' => e = .returned (.int .i64 (headerF au rd bl pl)) ∧ Below w.heap.size w w' := by
  have hbl := hb.le
  have hbm := hb.max
  have hbs := hb.small
  have hpl := hp.le
  have hpm := hp.max
  have hps := hp.small
  have hA : Below w.heap.size w (w.alloc (.cells #[.int .i64 au, .int .i64 rd, .slice ba bl.length bc, .slice pa pl.length pc] 25)) := (Below.refl _ _).alloc (Nat.le_refl _) _
  by_cases ha : 0 ≤ au ∧ au < 4
  · by_cases hr : 1 ≤ rd ∧ rd ≤ 1048576
    · by_cases hz : 3 < bl.length ∨ 4 < pl.length
      · have hF : Hid (headerF au rd bl pl = 1) := by show _ = _; rw [headerF, if_neg (by simp [ha, hr]), if_pos hz]
        by_cases hz1 : 3 < bl.length
        · have hzI : (3 : Int) < bl.length := by omega
          go_enter Tryd.func55, Tryd.ntmps55
          go_wp2_with (go_at_call 45; first | (refine (in_true _ _ _ _ (by omega)).mono ?_; rintro e w' ⟨rfl, rfl⟩) | (refine (in_false _ _ _ _ (by omega)).mono ?_; rintro e w' ⟨rfl, rfl⟩))
          go_ret
          exact ⟨ret_int hF.out.symm, hA⟩
        · have hzI : ¬ (3 : Int) < bl.length := by omega
          have hzJ : (4 : Int) < pl.length := by omega
          go_enter Tryd.func55, Tryd.ntmps55
          go_wp2_with (go_at_call 45; first | (refine (in_true _ _ _ _ (by omega)).mono ?_; rintro e w' ⟨rfl, rfl⟩) | (refine (in_false _ _ _ _ (by omega)).mono ?_; rintro e w' ⟨rfl, rfl⟩))
          go_ret
          exact ⟨ret_int hF.out.symm, hA⟩
      · have hF : Hid (headerF au rd bl pl = if digF bl ≠ 0 then digF bl else if digF pl ≠ 0 then digF pl else parentsF rd pl.length) := by show _ = _; rw [headerF, if_neg (by simp [ha, hr]), if_neg hz]
        have hzI : ¬ (3 : Int) < bl.length := by omega
        have hzJ : ¬ (4 : Int) < pl.length := by omega
        go_enter Tryd.func55, Tryd.ntmps55
        go_wp2_with (go_at_call 45; first | (refine (in_true _ _ _ _ (by omega)).mono ?_; rintro e w' ⟨rfl, rfl⟩) | (refine (in_false _ _ _ _ (by omega)).mono ?_; rintro e w' ⟨rfl, rfl⟩))
        refine (digestsFault_any bl ba _ bc _ rfl (by omega) (hb.parts.below hA)).mono ?_
        rintro e w1 ⟨he, hb1⟩
        subst he
        dsimp only
        have r1 := row_new hb1
        replace hb1 := below_alloc hb1
        have c1 : w1.cell? ⟨w.heap.size, 1, none⟩ = some (.int .i64 rd) := cells_at r1 1 _ rfl
        have c3 : w1.cell? ⟨w.heap.size, 3, none⟩ = some (.slice pa pl.length pc) := cells_at r1 3 _ rfl
        by_cases h1 : digF bl = 0
        · rw [h1] at hF ⊢
          go_wp2_with fail
          refine (digestsFault_any pl pa _ pc _ rfl (by omega) (hp.parts.below hb1)).mono ?_
          rintro e w2 ⟨he, hb2⟩
          subst he
          dsimp only
          have r2 := (hb2.block _ (lt_of_heap r1)).trans r1
          have hb12 := hb1.trans (hb2.mono hb1.size)
          have c1' : w2.cell? ⟨w.heap.size, 1, none⟩ = some (.int .i64 rd) := cells_at r2 1 _ rfl
          have c3' : w2.cell? ⟨w.heap.size, 3, none⟩ = some (.slice pa pl.length pc) := cells_at r2 3 _ rfl
          clear c3 c1 r1 r2
          by_cases h2 : digF pl = 0
          · rw [h2] at hF ⊢
            by_cases k1 : rd = 1
            · subst k1
              by_cases k2 : pl.length = 0
              · have hG : Hid (headerF au 1 bl pl = 0) := by show _ = _; rw [hF.out, if_neg (by simp), if_neg (by simp), parentsF, if_neg (by omega)]
                clear hF
                rw [k2] at c3' ⊢
                go_wp2_with fail
                go_ret
                exact ⟨ret_int hG.out.symm, hb12⟩
              · have hG : Hid (headerF au 1 bl pl = 10) := by show _ = _; rw [hF.out, if_neg (by simp), if_neg (by simp), parentsF, if_pos (by omega)]
                clear hF
                have k2I : ¬ (pl.length : Int) = 0 := by omega
                go_wp2_with fail
                go_ret
                exact ⟨ret_int hG.out.symm, hb12⟩
            · have k1J : (1 : Int) < rd := by omega
              by_cases k2 : pl.length < 3
              · have hG : Hid (headerF au rd bl pl = 10) := by show _ = _; rw [hF.out, if_neg (by simp), if_neg (by simp), parentsF, if_pos (by omega)]
                clear hF
                have k2I : (pl.length : Int) < 3 := by omega
                go_wp2_with fail
                go_ret
                exact ⟨ret_int hG.out.symm, hb12⟩
              · have hG : Hid (headerF au rd bl pl = 0) := by show _ = _; rw [hF.out, if_neg (by simp), if_neg (by simp), parentsF, if_neg (by omega)]
                clear hF
                have k2I : ¬ (pl.length : Int) < 3 := by omega
                go_wp2_with fail
                go_ret
                exact ⟨ret_int hG.out.symm, hb12⟩
          · rw [if_neg (by simp), if_pos h2] at hF
            generalize digF pl = z at *
            go_wp2_with fail
            go_ret
            exact ⟨ret_int hF.out.symm, hb12⟩
        · rw [if_pos h1] at hF
          generalize digF bl = z at *
          go_wp2_with fail
          go_ret
          exact ⟨ret_int hF.out.symm, hb1⟩
    · have hF : Hid (headerF au rd bl pl = 2) := by show _ = _; simp [headerF, hr]
      go_enter Tryd.func55, Tryd.ntmps55
      go_wp2_with (go_at_call 45; first | (refine (in_true _ _ _ _ (by omega)).mono ?_; rintro e w' ⟨rfl, rfl⟩) | (refine (in_false _ _ _ _ (by omega)).mono ?_; rintro e w' ⟨rfl, rfl⟩))
      go_ret
      exact ⟨ret_int hF.out.symm, hA⟩
  · have hF : Hid (headerF au rd bl pl = 2) := by show _ = _; simp [headerF, ha]
    go_enter Tryd.func55, Tryd.ntmps55
    go_wp2_with (go_at_call 45; first | (refine (in_true _ _ _ _ (by omega)).mono ?_; rintro e w' ⟨rfl, rfl⟩) | (refine (in_false _ _ _ _ (by omega)).mono ?_; rintro e w' ⟨rfl, rfl⟩))
    go_ret
    exact ⟨ret_int hF.out.symm, hA⟩
end Go.Proofs.YtbkojincfmfpnaaDoor

namespace Go.Proofs.YtbkojincfmfpnaaDoor
open Go.RowKit

/-- What the document's cast answers. -/
structure CastFr (w w' : World) (e : Ending) (R : List SV × SV × Int) : Prop where
  out : ∃ ra rc ks da dc xa xr ds er, e = .returned (.tuple #[.slice ra (List.length ks) rc, .agg #[.int .i64 xa, .int .i64 xr, .slice da (List.length ds) dc], .int .i64 er]) ∧ (vs ks, (xa, xr, ds), er) = R ∧ TabAt w' ra rc ks ∧ SliceAt w' da dc ds ∧ Below w.heap.size w w'
set_option maxRecDepth 100000 in
theorem CastFr.bad {w w' : World} {er : Int} {R : List SV × SV × Int} (hR : ([], (0, 0, []), er) = R) (hb : Below w.heap.size w w') : CastFr w w' (.returned (.tuple #[.slice none 0 0, .agg #[.int .i64 0, .int .i64 0, .slice none 0 0], .int .i64 er])) R :=
  ⟨none, 0, [], none, 0, 0, 0, [], er, rfl, hR, tab_nil _, nilSlice _, hb⟩
set_option maxRecDepth 100000 in
theorem slice_ne {w : World} {b g c : Nat} {v : Int} {D : List Int} (h : SliceAt w (some ⟨g, 0, none⟩) c D) (hD : D.length = 32) (hb : w.cell? ⟨b, 0, none⟩ = some (.int .i64 v)) : b ≠ g := by
  rintro rfl
  rcases h.bytes with hc | ⟨sb, so, e, hc⟩
  · rw [hc] at hD; simp at hD
  · cases e
    have := hc 0 (by omega)
    rw [Nat.add_zero, hb] at this
    cases this
set_option maxRecDepth 100000 in
theorem slice_ne_far {w : World} {g c : Nat} {D : List Int} (h : SliceAt w (some ⟨g, 0, none⟩) c D) (b j : Nat) (v : Value) (hb : b ≠ g) : SliceAt (w.setCell ⟨b, j, none⟩ v) (some ⟨g, 0, none⟩) c D := by
  refine ⟨h.le, h.max, h.some, h.nil, ?_⟩
  rcases h.bytes with hc | ⟨sb, so, e, hc⟩
  · exact .inl hc
  · cases e
    exact .inr ⟨g, 0, rfl, fun k hk => (World.cell?_setCell_far _ _ _ _ hb).trans (hc k hk)⟩
set_option maxRecDepth 100000 in
theorem headerFault_hat {au rd : Int} {ba : Option Addr} {bc : Nat} {bl : List Part} {pa : Option Addr} {pc : Nat} {pl : List Part} {w : World} (h : HAt w ba bc bl pa pc pl) :
    Calls Tryd.prog 55 #[.agg #[.int .i64 au, .int .i64 rd, .slice ba bl.length bc, .slice pa pl.length pc]] w fun e w' => e = .returned (.int .i64 (headerF au rd bl pl)) ∧ Below w.heap.size w w' :=
  headerFault_any au rd ba bc bl pa pc pl w h.lb h.lp
set_option maxRecDepth 100000 in
set_option maxHeartbeats 2000000 in
theorem castFor_any (ls : List Sl) (sa : Option Addr) (cap : Nat) (au rd : Int) (ba : Option Addr) (bc : Nat) (bl : List Part) (pa : Option Addr) (pc : Nat) (pl : List Part) (w : World) (ht : TableAt w sa cap ls) (hLb : ListAt w ba bc bl) (hLp : ListAt w pa pc pl) (hub : ∀ p ∈ bl, AllU8 p.bs) (hup : ∀ p ∈ pl, AllU8 p.bs) :
    Calls Tryd.prog 27 #[.slice sa ls.length cap, .agg #[.int .i64 au, .int .i64 rd, .slice ba bl.length bc, .slice pa pl.length pc]] w fun e w' => CastFr w w' e (castAll (vs ls) au rd bl pl) := by
  have hR : Below w.heap.size w ((w.alloc (.cells #[.int .i64 au, .int .i64 rd, .slice ba bl.length bc, .slice pa pl.length pc] 25)).alloc (.cells #[.int .i64 0, .int .i64 0, .slice none 0 0] 47)) := ((Below.refl _ _).alloc (Nat.le_refl _) _).alloc (by simp) _
  have q0 := heap_alloc2_old w (.cells #[.int .i64 au, .int .i64 rd, .slice ba bl.length bc, .slice pa pl.length pc] 25) (.cells #[.int .i64 0, .int .i64 0, .slice none 0 0] 47)
  have q1 : ((w.alloc (.cells #[.int .i64 au, .int .i64 rd, .slice ba bl.length bc, .slice pa pl.length pc] 25)).alloc (.cells #[.int .i64 0, .int .i64 0, .slice none 0 0] 47)).heap[w.heap.size + 1]? = some (.cells #[.int .i64 0, .int .i64 0, .slice none 0 0] 47 (0, 0)) := by
    have := heap_alloc_new (w.alloc (.cells #[.int .i64 au, .int .i64 rd, .slice ba bl.length bc, .slice pa pl.length pc] 25)) (.cells #[.int .i64 0, .int .i64 0, .slice none 0 0] 47)
    rw [size_alloc] at this; exact this
  have hle := ht.tab.le
  have hmx := ht.tab.max
  rcases tabF_or (vs ls) with h0 | h0
  rotate_left
  · have hA : ([], (0, 0, []), 12) = castAll (vs ls) au rd bl pl := by rw [castAll, if_pos (by rw [h0]; decide)]
    generalize castAll (vs ls) au rd bl pl = R at *
    go_enter Tryd.func27, Tryd.ntmps27
    go_wp2_with fail
    generalize (w.alloc (.cells #[.int .i64 au, .int .i64 rd, .slice ba bl.length bc, .slice pa pl.length pc] 25)).alloc (.cells #[.int .i64 0, .int .i64 0, .slice none 0 0] 47) = W0 at hR q0 q1 ⊢
    refine (tableFault_any ls sa _ cap W0 rfl (ht.tab.below hR)).mono ?_
    rintro e w1 ⟨he, hb1⟩
    rw [h0] at he
    subst he
    dsimp only
    have r1 := (hb1.block _ (lt_of_heap q1)).trans q1
    have d0 := cells_at r1 0 _ rfl
    have d1 := cells_at r1 1 _ rfl
    have d2 := cells_at r1 2 _ rfl
    have f0 := frozen_at r1 0
    have f1 := frozen_at r1 1
    have f2 := frozen_at r1 2
    have hW1 := hR.trans (hb1.mono hR.size)
    go_wp2_with fail
    refine bodyPost_ret (v := .tuple #[.slice none 0 0, .agg #[.int .i64 0, .int .i64 0, .slice none 0 0], .int .i64 12]) (by simp [results, Tryd.results27, go_sem, d0, d1, d2]) rfl (CastFr.bad hA ?_)
    exact ((hW1.setCell (Nat.le_succ _) _).setCell (Nat.le_succ _) _).setCell (Nat.le_succ _) _
  have HHF : Hid (∀ W : World, Below w.heap.size w W → Calls Tryd.prog 55 #[.agg #[.int .i64 au, .int .i64 rd, .slice ba bl.length bc, .slice pa pl.length pc]] W fun e w' => e = .returned (.int .i64 (headerF au rd bl pl)) ∧ Below W.heap.size W w') := by
    show ∀ W, _
    intro W hW
    exact headerFault_any au rd ba bc bl pa pc pl W (hLb.below hW) (hLp.below hW)
  by_cases hF : headerF au rd bl pl = 0
  rotate_left
  · have hA : ([], (0, 0, []), headerF au rd bl pl) = castAll (vs ls) au rd bl pl := by rw [castAll, if_neg (by rw [h0]; decide), if_pos hF]
    generalize castAll (vs ls) au rd bl pl = R at *
    generalize headerF au rd bl pl = ec at *
    go_enter Tryd.func27, Tryd.ntmps27
    go_wp2_with fail
    generalize (w.alloc (.cells #[.int .i64 au, .int .i64 rd, .slice ba bl.length bc, .slice pa pl.length pc] 25)).alloc (.cells #[.int .i64 0, .int .i64 0, .slice none 0 0] 47) = W0 at hR q0 q1 ⊢
    refine (tableFault_any ls sa _ cap W0 rfl (ht.tab.below hR)).mono ?_
    rintro e w1 ⟨he, hb1⟩
    rw [h0] at he
    subst he
    dsimp only
    have r0 := (hb1.block _ (lt_of_heap q0)).trans q0
    have r1 := (hb1.block _ (lt_of_heap q1)).trans q1
    have hW1 := hR.trans (hb1.mono hR.size)
    have c0 := cells_at r0 0 _ rfl
    have c1 := cells_at r0 1 _ rfl
    have c2 := cells_at r0 2 _ rfl
    have c3 := cells_at r0 3 _ rfl
    go_wp2_with fail
    refine (HHF.out _ hW1).mono ?_
    rintro e w2 ⟨he, hb2⟩
    subst he
    dsimp only
    have s1 := (hb2.block _ (lt_of_heap r1)).trans r1
    have hW2 := hW1.trans (hb2.mono hW1.size)
    have d0 := cells_at s1 0 _ rfl
    have d1 := cells_at s1 1 _ rfl
    have d2 := cells_at s1 2 _ rfl
    have f0 := frozen_at s1 0
    have f1 := frozen_at s1 1
    have f2 := frozen_at s1 2
    have h0' : (ec != 0) = true := by simpa using hF
    go_wp2_with fail
    refine bodyPost_ret (v := .tuple #[.slice none 0 0, .agg #[.int .i64 0, .int .i64 0, .slice none 0 0], .int .i64 ec]) (by simp [results, Tryd.results27, go_sem, d0, d1, d2]) rfl (CastFr.bad hA ?_)
    exact ((hW2.setCell (Nat.le_succ _) _).setCell (Nat.le_succ _) _).setCell (Nat.le_succ _) _
  have hA : castAll (vs ls) au rd bl pl = if (castF (vs ls) (au, rd, hDig au rd bl pl)).2 ≠ 0 then ([], (0, 0, []), (castF (vs ls) (au, rd, hDig au rd bl pl)).2) else ((castF (vs ls) (au, rd, hDig au rd bl pl)).1, (au, rd, hDig au rd bl pl), 0) := by
    rw [castAll, if_neg (by rw [h0]; decide), if_neg (by rw [hF]; decide)]
  have HDG : Hid (∀ W : World, Below w.heap.size w W → Calls Tryd.prog 47 #[.agg #[.int .i64 au, .int .i64 rd, .slice ba bl.length bc, .slice pa pl.length pc]] W fun e w' => ∃ g c, e = .returned (.slice (some ⟨g, 0, none⟩) 32 c) ∧ SliceAt w' (some ⟨g, 0, none⟩) c (hDig au rd bl pl) ∧ Below W.heap.size W w') := by
    show ∀ W, _
    intro W hW
    exact rHeaderDigest_in au rd ba _ bc bl pa _ pc pl W rfl rfl (hLb.below hW) (hLp.below hW) hub hup hF
  have HD32 : Hid ((hDig au rd bl pl).length = 32) := hDig_length au rd bl pl
  rw [hF] at HHF
  clear hF hub hup
  generalize hDig au rd bl pl = D at *
  go_enter Tryd.func27, Tryd.ntmps27
  go_wp2_with fail
  generalize (w.alloc (.cells #[.int .i64 au, .int .i64 rd, .slice ba bl.length bc, .slice pa pl.length pc] 25)).alloc (.cells #[.int .i64 0, .int .i64 0, .slice none 0 0] 47) = W0 at hR q0 q1 ⊢
  refine (tableFault_any ls sa _ cap W0 rfl (ht.tab.below hR)).mono ?_
  rintro e w1 ⟨he, hb1⟩
  rw [h0] at he
  subst he
  dsimp only
  have r0 := (hb1.block _ (lt_of_heap q0)).trans q0
  have r1 := (hb1.block _ (lt_of_heap q1)).trans q1
  have hW1 := hR.trans (hb1.mono hR.size)
  have c0 := cells_at r0 0 _ rfl
  have c1 := cells_at r0 1 _ rfl
  have c2 := cells_at r0 2 _ rfl
  have c3 := cells_at r0 3 _ rfl
  have H0 : Hid (tabF (vs ls) = 0) := h0
  clear h0
  go_wp2_with fail
  refine (HHF.out _ hW1).mono ?_
  rintro e w2 ⟨he, hb2⟩
  subst he
  dsimp only
  clear c0 c1 c2 c3
  have s0 := (hb2.block _ (lt_of_heap r0)).trans r0
  have s1 := (hb2.block _ (lt_of_heap r1)).trans r1
  have hW2 := hW1.trans (hb2.mono hW1.size)
  have c0 : w2.cell? ⟨w.heap.size, 0, none⟩ = some (.int .i64 au) := cells_at s0 0 _ rfl
  have c1 : w2.cell? ⟨w.heap.size, 1, none⟩ = some (.int .i64 rd) := cells_at s0 1 _ rfl
  have c2 : w2.cell? ⟨w.heap.size, 2, none⟩ = some (.slice ba bl.length bc) := cells_at s0 2 _ rfl
  have c3 : w2.cell? ⟨w.heap.size, 3, none⟩ = some (.slice pa pl.length pc) := cells_at s0 3 _ rfl
  have hlt2 : w.heap.size + 1 < w2.heap.size := lt_of_heap s1
  have hnA := World.new_ne w2 ⟨w.heap.size, 0, none⟩ c0
  have hZ : Below w2.heap.size w2 (w2.alloc (.cells #[.int .i64 0, .int .i64 0, .slice none 0 0] 47)) := (Below.refl _ _).alloc (Nat.le_refl _) _
  have z2 := heap_alloc_new w2 (.cells #[.int .i64 0, .int .i64 0, .slice none 0 0] 47)
  go_wp2_with fail
  go_region_held3 (fun w' => w'.cell? ⟨w.heap.size, 0, none⟩ = some (.int .i64 au) ∧ w'.cell? ⟨w.heap.size, 1, none⟩ = some (.int .i64 rd) ∧ w'.cell? ⟨w.heap.size, 2, none⟩ = some (.slice ba bl.length bc) ∧ w'.cell? ⟨w.heap.size, 3, none⟩ = some (.slice pa pl.length pc)) (go_keep) (first
    | (go_at_call 47; refine (HDG.out w2.drew (hW2.trans ((Below.refl _ _).drew.mono hW2.size))).mono ?_; rintro e w3 ⟨g, c, rfl, hsD, hb3⟩; replace hb3 := below_drew hb3; have t0 := (hb3.block _ (lt_of_heap s0)).trans s0; have e0 : w3.cell? ⟨w.heap.size, 0, none⟩ = some (.int .i64 au) := cells_at t0 0 _ rfl; have e1 : w3.cell? ⟨w.heap.size, 1, none⟩ = some (.int .i64 rd) := cells_at t0 1 _ rfl; have e2 : w3.cell? ⟨w.heap.size, 2, none⟩ = some (.slice ba bl.length bc) := cells_at t0 2 _ rfl; have e3 : w3.cell? ⟨w.heap.size, 3, none⟩ = some (.slice pa pl.length pc) := cells_at t0 3 _ rfl)
    | (go_at_call 47; refine (HDG.out (w2.drew.alloc (.cells #[.int .i64 0, .int .i64 0, .slice none 0 0] 47)) (hW2.trans (((Below.refl _ _).drew.alloc (Nat.le_refl _) _).mono hW2.size))).mono ?_; rintro e w3 ⟨g, c, rfl, hsD, hb3⟩; have hb3z : Below (w2.alloc (.cells #[.int .i64 0, .int .i64 0, .slice none 0 0] 47)).heap.size (w2.alloc (.cells #[.int .i64 0, .int .i64 0, .slice none 0 0] 47)) w3 := below_drew hb3; have t0 := (hb3z.block _ (lt_of_heap (heap_keep s0))).trans (heap_keep s0); have y3 := (hb3z.block _ (lt_of_heap z2)).trans z2; have e0 : w3.cell? ⟨w.heap.size, 0, none⟩ = some (.int .i64 au) := cells_at t0 0 _ rfl; have e1 : w3.cell? ⟨w.heap.size, 1, none⟩ = some (.int .i64 rd) := cells_at t0 1 _ rfl; have e2 : w3.cell? ⟨w.heap.size, 2, none⟩ = some (.slice ba bl.length bc) := cells_at t0 2 _ rfl; have e3 : w3.cell? ⟨w.heap.size, 3, none⟩ = some (.slice pa pl.length pc) := cells_at t0 3 _ rfl; have y0 := cells_at y3 0 _ rfl; have y1 := cells_at y3 1 _ rfl; have y2 := cells_at y3 2 _ rfl; have yf0 := frozen_at y3 0; have yf1 := frozen_at y3 1; have yf2 := frozen_at y3 2))
  all_goals
    go_wp2_with fail
    have hD32 := HD32.out
    first
      | (have hX : Below w.heap.size w (w3.alloc (.cells #[.int .i64 au, .int .i64 rd, .slice (some ⟨g, 0, none⟩) 32 c] 47)) := (hW2.trans (hb3.mono hW2.size)).alloc (hW2.trans (hb3.mono hW2.size)).size _
         have t1 := (hb3.block _ (lt_of_heap s1)).trans s1
         have x1 := heap_keep (o := .cells #[.int .i64 au, .int .i64 rd, .slice (some ⟨g, 0, none⟩) 32 c] 47) t1
         have x8 := heap_alloc_new w3 (.cells #[.int .i64 au, .int .i64 rd, .slice (some ⟨g, 0, none⟩) 32 c] 47)
         have hne8 : w3.heap.size ≠ w.heap.size + 1 := by have := lt_of_heap t1; omega
         have hA3 : Below w3.heap.size w3 (w3.alloc (.cells #[.int .i64 au, .int .i64 rd, .slice (some ⟨g, 0, none⟩) 32 c] 47)) := (Below.refl _ _).alloc (Nat.le_refl _) _
         have hsX := hsD.below hA3
         have k0 := cells_at x8 0 _ rfl
         have k1 := cells_at x8 1 _ rfl
         have k2 := cells_at x8 2 _ rfl
         have hb8 : w3.heap.size < (w3.alloc (.cells #[.int .i64 au, .int .i64 rd, .slice (some ⟨g, 0, none⟩) 32 c] 47)).heap.size := lt_of_heap x8
         clear x8 hA3 hsD e0 e1 e2 e3 t0 t1 hZ z2
         generalize hXe : w3.alloc (.cells #[.int .i64 au, .int .i64 rd, .slice (some ⟨g, 0, none⟩) 32 c] 47) = X at hX x1 hsX k0 k1 k2 hb8 ⊢
         clear hXe hb3
         generalize w3.heap.size = b8 at hne8 k0 k1 k2 hb8 ⊢)
      | (have hb3w : Below w2.heap.size w2 w3 := hZ.trans (hb3z.mono hZ.size)
         have hW3 := hW2.trans (hb3w.mono hW2.size)
         have t1 := (hb3w.block _ (lt_of_heap s1)).trans s1
         have hne8 : w2.heap.size ≠ w.heap.size + 1 := by omega
         have hng := slice_ne hsD hD32 y0
         have hX : Below w.heap.size w (((w3.setCell ⟨w2.heap.size, 0, none⟩ (.int .i64 au)).setCell ⟨w2.heap.size, 1, none⟩ (.int .i64 rd)).setCell ⟨w2.heap.size, 2, none⟩ (.slice (some ⟨g, 0, none⟩) 32 c)) := ((hW3.setCell hW2.size _).setCell hW2.size _).setCell hW2.size _
         have x1 := heap_far (b := w2.heap.size) (j := 2) (v := .slice (some ⟨g, 0, none⟩) 32 c) (heap_far (b := w2.heap.size) (j := 1) (v := .int .i64 rd) (heap_far (b := w2.heap.size) (j := 0) (v := .int .i64 au) t1 (Ne.symm hne8)) (Ne.symm hne8)) (Ne.symm hne8)
         have hsX := slice_ne_far (slice_ne_far (slice_ne_far hsD w2.heap.size 0 (.int .i64 au) hng) w2.heap.size 1 (.int .i64 rd) hng) w2.heap.size 2 (.slice (some ⟨g, 0, none⟩) 32 c) hng
         have k0 : (((w3.setCell ⟨w2.heap.size, 0, none⟩ (.int .i64 au)).setCell ⟨w2.heap.size, 1, none⟩ (.int .i64 rd)).setCell ⟨w2.heap.size, 2, none⟩ (.slice (some ⟨g, 0, none⟩) 32 c)).cell? ⟨w2.heap.size, 0, none⟩ = some (.int .i64 au) := by simp [go_sem, y0]
         have k1 : (((w3.setCell ⟨w2.heap.size, 0, none⟩ (.int .i64 au)).setCell ⟨w2.heap.size, 1, none⟩ (.int .i64 rd)).setCell ⟨w2.heap.size, 2, none⟩ (.slice (some ⟨g, 0, none⟩) 32 c)).cell? ⟨w2.heap.size, 1, none⟩ = some (.int .i64 rd) := by simp [go_sem, y1]
         have k2 : (((w3.setCell ⟨w2.heap.size, 0, none⟩ (.int .i64 au)).setCell ⟨w2.heap.size, 1, none⟩ (.int .i64 rd)).setCell ⟨w2.heap.size, 2, none⟩ (.slice (some ⟨g, 0, none⟩) 32 c)).cell? ⟨w2.heap.size, 2, none⟩ = some (.slice (some ⟨g, 0, none⟩) 32 c) := by simp [go_sem, y2]
         have hb8 : w2.heap.size < (((w3.setCell ⟨w2.heap.size, 0, none⟩ (.int .i64 au)).setCell ⟨w2.heap.size, 1, none⟩ (.int .i64 rd)).setCell ⟨w2.heap.size, 2, none⟩ (.slice (some ⟨g, 0, none⟩) 32 c)).heap.size := block_lt_of_cell k0
         clear hsD e0 e1 e2 e3 t0 t1 hZ z2 y0 y1 y2 yf0 yf1 yf2 y3
         generalize hXe : ((w3.setCell ⟨w2.heap.size, 0, none⟩ (.int .i64 au)).setCell ⟨w2.heap.size, 1, none⟩ (.int .i64 rd)).setCell ⟨w2.heap.size, 2, none⟩ (.slice (some ⟨g, 0, none⟩) 32 c) = X at hX x1 hsX k0 k1 k2 hb8 ⊢
         clear hXe hb3 hb3z hb3w hW3
         generalize hb8e : w2.heap.size = b8 at hne8 k0 k1 k2 hb8 ⊢
         clear hb8e)
    have hng1 : w.heap.size + 1 ≠ g := slice_ne hsX hD32 (cells_at x1 0 _ rfl)
    have hneS : w.heap.size + 1 ≠ b8 := Ne.symm hne8
    clear hD32 c0 c1 c2 c3 hnA
    refine (slotAt_any ls sa _ cap au rd X (Nat.le_refl _) ht.tab.small (ht.tab.slots.below hX)).mono ?_
    rintro e w4 ⟨r, he, hFi, hb4⟩
    subst he
    dsimp only
    have hW4 := hX.trans (hb4.mono hX.size)
    have x4 := (hb4.block _ (lt_of_heap x1)).trans x1
    have hs4 := hsX.below hb4
    have l0 := (hb4.cell (p := ⟨b8, 0, none⟩) hb8).trans k0
    have l1 := (hb4.cell (p := ⟨b8, 1, none⟩) hb8).trans k1
    have l2 := (hb4.cell (p := ⟨b8, 2, none⟩) hb8).trans k2
    have hb84 : b8 < w4.heap.size := Nat.lt_of_lt_of_le hb8 hb4.size
    clear k0 k1 k2 hsX x1
    rcases hFi.found with ⟨m, hm, rfl, hfi⟩ | ⟨rfl, hfi⟩
    · have hpw := ht.tab.slots.below hW4
      obtain ⟨sb, so, rfl, hc⟩ : ∃ sb so, sa = some ⟨sb, so, none⟩ ∧ ∀ j (h : j < ls.length), w4.cell? ⟨sb, so + j * 3, none⟩ = some (.int .i64 (ls[j]).au) ∧ w4.cell? ⟨sb, so + j * 3 + 1, none⟩ = some (.int .i64 (ls[j]).rd) ∧ w4.cell? ⟨sb, so + j * 3 + 2, none⟩ = some (.slice (ls[j]).p.sa (ls[j]).p.bs.length (ls[j]).p.cap) := by
        rcases hpw.cells with h | h
        · rw [h] at hm; simp at hm
        · exact h
      obtain ⟨_, _, c2⟩ := hc m hm
      have hx := hpw.each (ls[m]) (List.getElem_mem hm)
      have hltI : (m : Int) < ls.length := by omega
      have hE := sameBytes_any (ls[m]).p.bs D (ls[m]).p.sa (some ⟨g, 0, none⟩) _ 32 (ls[m]).p.cap c w4.drew rfl HD32.out.symm (hx.below ((Below.refl _ _).drew)) (hs4.below ((Below.refl _ _).drew))
      rw [← vs_length] at hfi
      have hS : Hid (txL (ls[m]).p.bs = txL D → castF (vs ls) (au, rd, D) = (vs ls, 0)) := by
        show _ → _
        intro h
        exact castF_same (s := (au, rd, D)) hfi (by rw [svAt_get ls m hm]; exact h)
      have hTw : Hid (¬ txL (ls[m]).p.bs = txL D → castF (vs ls) (au, rd, D) = ([], 7)) := by
        show _ → _
        intro h
        exact castF_twice (s := (au, rd, D)) hfi (by rw [svAt_get ls m hm]; exact h)
      clear hc hfi hFi hpw
      generalize ls[m] = s at *
      go_wp2_with fail
      go_region_held3 (fun w' => w'.cell? ⟨sb, so + m * 3 + 2, none⟩ = some (.slice s.p.sa s.p.bs.length s.p.cap) ∧ w'.cell? ⟨b8, 2, none⟩ = some (.slice (some ⟨g, 0, none⟩) 32 c)) (go_keep) ((go_at_call 57; refine hE.mono ?_; rintro e w9 ⟨rfl, rfl⟩))
      all_goals
        have d0 := cells_at x4 0 _ rfl
        have d1 := cells_at x4 1 _ rfl
        have d2 := cells_at x4 2 _ rfl
        have f0 := frozen_at x4 0
        have f1 := frozen_at x4 1
        have f2 := frozen_at x4 2
        by_cases h : txL s.p.bs = txL D
        · have hy := hS.out h
          rw [hy, if_neg (by simp)] at hA
          have HA : Hid (castAll (vs ls) au rd bl pl = _) := hA
          clear hA
          rw [decide_eq_true h]
          clear hS hTw h hE hy d0 d1 d2 f0 f1 f2
          have HC := slotsCopy_any ls (some ⟨sb, so, none⟩) _ cap w4.drew.drew rfl (ht.below (hW4.drew.drew))
          go_wp2_with fail
          go_region_held3 (fun w' => w'.cell? ⟨b8, 0, none⟩ = some (.int .i64 au) ∧ w'.cell? ⟨b8, 1, none⟩ = some (.int .i64 rd) ∧ w'.cell? ⟨b8, 2, none⟩ = some (.slice (some ⟨g, 0, none⟩) 32 c)) (go_keep) ((go_at_call 24; refine HC.mono ?_; rintro e w6 ⟨ra, rc, ks, rfl, hv6, hT6, hb6, hF6⟩; replace hb6 := below_drew (below_drew hb6); have n0 := (hb6.cell (p := ⟨b8, 0, none⟩) hb84).trans l0; have n1 := (hb6.cell (p := ⟨b8, 1, none⟩) hb84).trans l1; have n2 := (hb6.cell (p := ⟨b8, 2, none⟩) hb84).trans l2; have x6 := (hb6.block _ (lt_of_heap x4)).trans x4; have d0 := cells_at x6 0 _ rfl; have d1 := cells_at x6 1 _ rfl; have d2 := cells_at x6 2 _ rfl; have f0 := frozen_at x6 0; have f1 := frozen_at x6 1; have f2 := frozen_at x6 2))
          all_goals
            have hlen : ls.length = ks.length := by have := congrArg List.length hv6; rw [vs_length, vs_length] at this; exact this.symm
            have hW6 := hW4.trans (hb6.mono hW4.size)
            have hs6 := hs4.below hb6
            have hlt4 : w.heap.size + 1 < w4.heap.size := lt_of_heap x4
            have hF6' : Fresh w4.heap.size ra (ps ks) := hF6
            go_wp2_with fail
            refine bodyPost_ret (v := .tuple #[.slice ra ls.length rc, .agg #[.int .i64 au, .int .i64 rd, .slice (some ⟨g, 0, none⟩) 32 c], .int .i64 0]) (by simp [results, Tryd.results27, go_sem, d0, d1, d2]) rfl ⟨ra, rc, ks, some ⟨g, 0, none⟩, c, au, rd, D, 0, by rw [HD32.out, hlen], by rw [HA.out, hv6], ?_, ?_, ?_⟩
            · exact ((hT6.setCell hF6' _ _ _ hlt4).setCell hF6' _ _ _ hlt4).setCell hF6' _ _ _ hlt4
            · exact slice_ne_far (slice_ne_far (slice_ne_far hs6 _ _ _ hng1) _ _ _ hng1) _ _ _ hng1
            · exact ((hW6.setCell (Nat.le_succ _) _).setCell (Nat.le_succ _) _).setCell (Nat.le_succ _) _
        · have hy := hTw.out h
          rw [hy, if_pos (by simp)] at hA
          have HA : Hid (castAll (vs ls) au rd bl pl = _) := hA
          clear hA
          rw [decide_eq_false h]
          clear hS hTw h hE hy
          go_wp2_with fail
          refine bodyPost_ret (v := .tuple #[.slice none 0 0, .agg #[.int .i64 0, .int .i64 0, .slice none 0 0], .int .i64 7]) (by simp [results, Tryd.results27, go_sem, d0, d1, d2]) rfl (CastFr.bad HA.out.symm ?_)
          exact (((hW4.drew).setCell (Nat.le_succ _) _).setCell (Nat.le_succ _) _).setCell (Nat.le_succ _) _
    · rw [← vs_length] at hfi
      have d0 := cells_at x4 0 _ rfl
      have d1 := cells_at x4 1 _ rfl
      have d2 := cells_at x4 2 _ rfl
      have f0 := frozen_at x4 0
      have f1 := frozen_at x4 1
      have f2 := frozen_at x4 2
      by_cases hfull : 400 ≤ ls.length
      · have hy := castF_full (s := (au, rd, D)) hfi (by rw [vs_length]; exact hfull)
        rw [hy, if_pos (by simp)] at hA
        have HA : Hid (castAll (vs ls) au rd bl pl = _) := hA
        clear hA hy
        have hI : (400 : Int) ≤ ls.length := by omega
        clear hfi hFi
        go_wp2_with fail
        refine bodyPost_ret (v := .tuple #[.slice none 0 0, .agg #[.int .i64 0, .int .i64 0, .slice none 0 0], .int .i64 6]) (by simp [results, Tryd.results27, go_sem, d0, d1, d2]) rfl (CastFr.bad HA.out.symm ?_)
        exact ((hW4.setCell (Nat.le_succ _) _).setCell (Nat.le_succ _) _).setCell (Nat.le_succ _) _
      · have hy := castF_new (s := (au, rd, D)) hfi (by rw [vs_length]; exact hfull)
        rw [hy, if_neg (by simp)] at hA
        have HA : Hid (castAll (vs ls) au rd bl pl = _) := hA
        clear hA hy
        have hI : ¬ (400 : Int) ≤ ls.length := by omega
        have hlt4 : w.heap.size + 1 < w4.heap.size := lt_of_heap x4
        have HC := slotsCopy_own ls sa _ cap w4.drew rfl (ht.below hW4.drew)
        have HDD : Hid (∀ W : World, Below w4.heap.size w4 W → Calls Tryd.prog 50 #[.agg #[.int .i64 au, .int .i64 rd, .slice (some ⟨g, 0, none⟩) 32 c]] W fun e w' => ∃ ra rc, e = .returned (.agg #[.int .i64 au, .int .i64 rd, .slice ra D.length rc]) ∧ SliceAt w' ra rc D ∧ (∀ sb so, ra = some ⟨sb, so, none⟩ → W.heap.size ≤ sb ∧ sb < w'.heap.size) ∧ Below W.heap.size W w') := by
          show ∀ W, _
          intro W hW
          exact slotCopy_any au rd D (some ⟨g, 0, none⟩) 32 c W HD32.out.symm (hs4.below hW) (by rw [HD32.out]; omega)
        have hlen400 : ls.length ≤ 400 := by omega
        obtain ⟨i, hi, hz0, hz1, hz2⟩ := info_parts infoSlot
        clear hfi hFi d0 d1 d2 f0 f1 f2
        go_wp2_with fail
        go_region_held3 (fun w' => w'.cell? ⟨b8, 0, none⟩ = some (.int .i64 au) ∧ w'.cell? ⟨b8, 1, none⟩ = some (.int .i64 rd) ∧ w'.cell? ⟨b8, 2, none⟩ = some (.slice (some ⟨g, 0, none⟩) 32 c)) (go_keep) (first
          | (go_at_call 50; refine (HDD.out _ hb6).mono ?_; rintro e w7 ⟨ya, yc, rfl, hy7, hrow7, hb7⟩; have hb67 := hb6.trans (hb7.mono hb6.size); have n0 := (hb67.cell (p := ⟨b8, 0, none⟩) hb84).trans l0; have n1 := (hb67.cell (p := ⟨b8, 1, none⟩) hb84).trans l1; have n2 := (hb67.cell (p := ⟨b8, 2, none⟩) hb84).trans l2)
          | (go_at_call 24; refine HC.mono ?_; rintro e w6 ⟨v6, ks, rfl, hv6, ho6, hap6, hb6⟩; replace hb6 := below_drew hb6; have n0 := (hb6.cell (p := ⟨b8, 0, none⟩) hb84).trans l0; have n1 := (hb6.cell (p := ⟨b8, 1, none⟩) hb84).trans l1; have n2 := (hb6.cell (p := ⟨b8, 2, none⟩) hb84).trans l2)
          | (refine step_append_at rfl _ _ 44 rfl w4.heap.size 47 i (.agg #[.int .i64 0, .int .i64 0, .slice none 0 0]) 3 40 Tryd.underlying44 hi hz0 hz1 hz2 rfl (by decide) v6 ls.length (sv ks) rfl (World.ownsRow.alloc (owns_keep ho6 hb7) _) ⟨w7.heap.size, 0, none⟩ 1 1 [.int .i64 au, .int .i64 rd, .slice ya D.length yc] rfl rfl (cells_new w7 [.int .i64 au, .int .i64 rd, .slice ya D.length yc] 47) (by intro u hu; simp at hu; rcases hu with rfl | rfl | rfl <;> rfl) (by unfold maxLen; omega) (by omega) (by rw [size_alloc]; have := hb67.size; omega) ?_; intro v8 w8 ho8 G8; have hb8w : Below w4.heap.size w4 w8 := Below.grown (hb67.alloc hb67.size _) G8.grown (le_alloc hb67.size _) (fun q e => (ho6.lt q e).1); have p0 := (hb8w.cell (p := ⟨b8, 0, none⟩) hb84).trans l0; have p1 := (hb8w.cell (p := ⟨b8, 1, none⟩) hb84).trans l1; have p2 := (hb8w.cell (p := ⟨b8, 2, none⟩) hb84).trans l2; have x8 := (hb8w.block _ hlt4).trans x4; have d0 := cells_at x8 0 _ rfl; have d1 := cells_at x8 1 _ rfl; have d2 := cells_at x8 2 _ rfl; have f0 := frozen_at x8 0; have f1 := frozen_at x8 1; have f2 := frozen_at x8 2))
        all_goals
          have hap8 := hap6.more_at (q := ⟨ya, yc, D⟩) hb6.size ho6 hb7 hrow7 hy7 G8
          have ho8' : w8.ownsRow w4.heap.size 47 3 v8 (ls.length + 1) (sv (ks ++ [⟨au, rd, ⟨ya, yc, D⟩⟩])) := by rw [sv_snoc]; exact ho8
          have hap8' : Apart w8 w4.heap.size v8 (ps (ks ++ [⟨au, rd, ⟨ya, yc, D⟩⟩])) := by simpa [ps] using hap8
          obtain ⟨ra, rc, hv, hl, hL, hfr⟩ := tab_of_owns ho8' hap8'
          subst hv
          have hW8 := hW4.trans (hb8w.mono hW4.size)
          have hs8 := hs4.below hb8w
          go_wp2_with fail
          refine bodyPost_ret (v := .tuple #[.slice ra (ls.length + 1) rc, .agg #[.int .i64 au, .int .i64 rd, .slice (some ⟨g, 0, none⟩) 32 c], .int .i64 0]) (by simp [results, Tryd.results27, go_sem, d0, d1, d2]) rfl ⟨ra, rc, ks ++ [⟨au, rd, ⟨ya, yc, D⟩⟩], some ⟨g, 0, none⟩, c, au, rd, D, 0, by rw [HD32.out, hl], by rw [HA.out, ← hv6]; simp [vs, Sl.v], ?_, ?_, ?_⟩
          · exact (((hL (by omega)).setCell hfr _ _ _ hlt4).setCell hfr _ _ _ hlt4).setCell hfr _ _ _ hlt4
          · exact slice_ne_far (slice_ne_far (slice_ne_far hs8 _ _ _ hng1) _ _ _ hng1) _ _ _ hng1
          · exact ((hW8.setCell (Nat.le_succ _) _).setCell (Nat.le_succ _) _).setCell (Nat.le_succ _) _
end Go.Proofs.YtbkojincfmfpnaaDoor

namespace Go.Proofs.YtbkojincfmfpnaaDoor
open Go.RowKit

set_option maxRecDepth 100000 in
set_option maxHeartbeats 1000000 in
theorem sameSlotL_eq (au rd : Int) (bs : List Int) (sa sb : Option Addr) (n m c d : Nat) (w : World) (hn : n = bs.length) (hm : m = bs.length) (ha : SliceAt w sa c bs) (hb : SliceAt w sb d bs) :
    Calls Tryd.prog 29 #[.agg #[.int .i64 au, .int .i64 rd, .slice sa n c], .agg #[.int .i64 au, .int .i64 rd, .slice sb m d]] w fun e w' => e = .returned (.bool true) ∧ Below w.heap.size w w' := by
  have hA : Below w.heap.size w ((w.alloc (.cells #[.int .i64 au, .int .i64 rd, .slice sa n c] 47)).alloc (.cells #[.int .i64 au, .int .i64 rd, .slice sb m d] 47)) := ((Below.refl _ _).alloc (Nat.le_refl _) _).alloc (by simp) _
  have h1 := run_text _ sa n c bs hn (ha.below hA)
  have h2 := run_text _ sb m d bs hm (hb.below hA)
  clear hn hm ha hb
  generalize bstr bs = A at *
  go_enter Tryd.func29, Tryd.ntmps29
  go_wp2_with fail
  go_ret
  exact ⟨by first | rfl | simp, hA⟩
set_option maxRecDepth 100000 in
set_option maxHeartbeats 1000000 in
theorem sameSlotsL_eq (ls ks : List Sl) (sa sb : Option Addr) (n m c d : Nat) (w : World) (hn : n = ls.length) (hm : m = ls.length) (hv : vs ks = vs ls) (ha : TabAt w sa c ls) (hb : TabAt w sb d ks) :
    Calls Tryd.prog 28 #[.slice sa n c, .slice sb m d] w fun e w' => e = .returned (.bool true) ∧ Below w.heap.size w w' := by
  subst hn hm
  have hsm := ha.small
  have hlen : ks.length = ls.length := by have := congrArg List.length hv; rw [vs_length, vs_length] at this; exact this
  go_enter Tryd.func28, Tryd.ntmps28
  go_wp2_with fail
  go_loopw [5] (fun i wr => ∃ k : Nat, k ≤ ls.length ∧ i = .int .i64 k ∧ Below w.heap.size w wr) (fun i _ => ls.length - (intOf i).toNat)
  case atStart => exact ⟨0, Nat.zero_le _, rfl, Below.refl _ _⟩
  case round =>
    obtain ⟨k, hk, rfl, hbw⟩ := hrel
    by_cases hlt : k < ls.length
    · have hlt2 : k < ks.length := by omega
      have hpa := ha.slots.below hbw
      have hpb := hb.slots.below hbw
      obtain ⟨ab, ao, rfl, hca⟩ : ∃ sb so, sa = some ⟨sb, so, none⟩ ∧ ∀ j (h : j < ls.length), wr.cell? ⟨sb, so + j * 3, none⟩ = some (.int .i64 (ls[j]).au) ∧ wr.cell? ⟨sb, so + j * 3 + 1, none⟩ = some (.int .i64 (ls[j]).rd) ∧ wr.cell? ⟨sb, so + j * 3 + 2, none⟩ = some (.slice (ls[j]).p.sa (ls[j]).p.bs.length (ls[j]).p.cap) := by
        rcases hpa.cells with h | h
        · rw [h] at hlt; simp at hlt
        · exact h
      obtain ⟨bb, bo, rfl, hcb⟩ : ∃ sb' so, sb = some ⟨sb', so, none⟩ ∧ ∀ j (h : j < ks.length), wr.cell? ⟨sb', so + j * 3, none⟩ = some (.int .i64 (ks[j]).au) ∧ wr.cell? ⟨sb', so + j * 3 + 1, none⟩ = some (.int .i64 (ks[j]).rd) ∧ wr.cell? ⟨sb', so + j * 3 + 2, none⟩ = some (.slice (ks[j]).p.sa (ks[j]).p.bs.length (ks[j]).p.cap) := by
        rcases hpb.cells with h | h
        · rw [h] at hlt2; simp at hlt2
        · exact h
      obtain ⟨c0, c1, c2⟩ := hca k hlt
      obtain ⟨d0, d1, d2⟩ := hcb k hlt2
      have hx := hpa.each (ls[k]) (List.getElem_mem hlt)
      have hy := hpb.each (ks[k]) (List.getElem_mem hlt2)
      have hvk : (ks[k]).v = (ls[k]).v := by
        rw [← svAt_get ks k hlt2, ← svAt_get ls k hlt, hv]
      have hltI : (k : Int) < ls.length := by omega
      clear hca hcb hpa hpb
      generalize ls[k] = s at *
      generalize ks[k] = t at *
      obtain ⟨au, rd, ⟨xa, xc, bs⟩⟩ := s
      obtain ⟨au', rd', ⟨ya, yc, bs'⟩⟩ := t
      simp only [Sl.v, Prod.mk.injEq] at hvk
      obtain ⟨rfl, rfl, rfl⟩ := hvk
      have hab : ab < wr.heap.size := block_lt_of_cell c0
      have hbb : bb < wr.heap.size := block_lt_of_cell d0
      dsimp only at *
      have HS := sameSlotL_eq au' rd' bs' xa ya _ _ xc yc wr.drew rfl rfl (hx.below ((Below.refl _ _).drew)) (hy.below ((Below.refl _ _).drew))
      have HV : Hid (vs ks = vs ls) := hv
      have HL : Hid (ks.length = ls.length) := hlen
      clear hv hlen
      go_wp2_with fail
      go_region_held3 (fun w' => w'.cell? ⟨ab, ao + k * 3, none⟩ = some (.int .i64 au') ∧ w'.cell? ⟨ab, ao + k * 3 + 1, none⟩ = some (.int .i64 rd') ∧ w'.cell? ⟨ab, ao + k * 3 + 2, none⟩ = some (.slice xa bs'.length xc) ∧ w'.cell? ⟨bb, bo + k * 3, none⟩ = some (.int .i64 au') ∧ w'.cell? ⟨bb, bo + k * 3 + 1, none⟩ = some (.int .i64 rd') ∧ w'.cell? ⟨bb, bo + k * 3 + 2, none⟩ = some (.slice ya bs'.length yc)) (go_keep) ((go_at_call 29; refine HS.mono ?_; rintro e w2 ⟨rfl, hb2⟩; replace hb2 := below_drew hb2; have e0 := (hb2.cell (p := ⟨ab, ao + k * 3, none⟩) hab).trans c0; have e1 := (hb2.cell (p := ⟨ab, ao + k * 3 + 1, none⟩) hab).trans c1; have e2 := (hb2.cell (p := ⟨ab, ao + k * 3 + 2, none⟩) hab).trans c2; have g0 := (hb2.cell (p := ⟨bb, bo + k * 3, none⟩) hbb).trans d0; have g1 := (hb2.cell (p := ⟨bb, bo + k * 3 + 1, none⟩) hbb).trans d1; have g2 := (hb2.cell (p := ⟨bb, bo + k * 3 + 2, none⟩) hbb).trans d2))
      all_goals
        have hB2 := hbw.trans (hb2.mono hbw.size)
        go_wp2_with fail
        go_roundw
        case rel =>
          have hR : ∃ k' : Nat, k' ≤ ls.length ∧ (Value.int .i64 ((k : Int) + 1)) = .int .i64 k' ∧ Below w.heap.size w w2 := ⟨k + 1, by omega, by go_num, hB2⟩
          first | exact hR | ((repeat apply Exists.intro); exact ⟨hR, rfl⟩)
        case measure => simp [intOf]; omega
    · obtain rfl : k = ls.length := by omega
      go_wp2_with fail
      go_ret
      exact ⟨rfl, hbw⟩
end Go.Proofs.YtbkojincfmfpnaaDoor

namespace Go.Proofs.YtbkojincfmfpnaaDoor
open Go.RowKit

set_option maxRecDepth 100000 in
theorem Fresh.mono {B B' : Nat} {ra : Option Addr} {qs : List Part} (h : Fresh B ra qs) (hB : B' ≤ B) : Fresh B' ra qs := ⟨fun sb so e => Nat.le_trans hB (h.row sb so e), fun p hp sb so e => Nat.le_trans hB (h.each p hp sb so e)⟩
set_option maxRecDepth 100000 in
set_option maxHeartbeats 1000000 in
theorem headerCopy_any (au rd : Int) (ba : Option Addr) (bc : Nat) (bl : List Part) (pa : Option Addr) (pc : Nat) (pl : List Part) (w : World) (hb : ReadAt w ba bc bl) (hp : ReadAt w pa pc pl) :
    Calls Tryd.prog 26 #[.agg #[.int .i64 au, .int .i64 rd, .slice ba bl.length bc, .slice pa pl.length pc]] w fun e w' => ∃ xa xc xs ya yc ys, e = .returned (.agg #[.int .i64 au, .int .i64 rd, .slice xa bl.length xc, .slice ya pl.length yc]) ∧ Same xs bl ∧ Same ys pl ∧ ListAt w' xa xc xs ∧ ListAt w' ya yc ys ∧ Below w.heap.size w w' ∧ Fresh w.heap.size xa xs ∧ Fresh w.heap.size ya ys := by
  have hR : Below w.heap.size w ((w.alloc (.cells #[.int .i64 au, .int .i64 rd, .slice ba bl.length bc, .slice pa pl.length pc] 25)).alloc (.cells #[.int .i64 0, .int .i64 0, .slice none 0 0, .slice none 0 0] 25)) := ((Below.refl _ _).alloc (Nat.le_refl _) _).alloc (by simp) _
  have q0 := heap_alloc2_old w (.cells #[.int .i64 au, .int .i64 rd, .slice ba bl.length bc, .slice pa pl.length pc] 25) (.cells #[.int .i64 0, .int .i64 0, .slice none 0 0, .slice none 0 0] 25)
  have k0 : ((w.alloc (.cells #[.int .i64 au, .int .i64 rd, .slice ba bl.length bc, .slice pa pl.length pc] 25)).alloc (.cells #[.int .i64 0, .int .i64 0, .slice none 0 0, .slice none 0 0] 25)).cell? ⟨w.heap.size, 0, none⟩ = some (.int .i64 au) := cells_at q0 0 _ rfl
  have k1 : ((w.alloc (.cells #[.int .i64 au, .int .i64 rd, .slice ba bl.length bc, .slice pa pl.length pc] 25)).alloc (.cells #[.int .i64 0, .int .i64 0, .slice none 0 0, .slice none 0 0] 25)).cell? ⟨w.heap.size, 1, none⟩ = some (.int .i64 rd) := cells_at q0 1 _ rfl
  have k2 : ((w.alloc (.cells #[.int .i64 au, .int .i64 rd, .slice ba bl.length bc, .slice pa pl.length pc] 25)).alloc (.cells #[.int .i64 0, .int .i64 0, .slice none 0 0, .slice none 0 0] 25)).cell? ⟨w.heap.size, 2, none⟩ = some (.slice ba bl.length bc) := cells_at q0 2 _ rfl
  have k3 : ((w.alloc (.cells #[.int .i64 au, .int .i64 rd, .slice ba bl.length bc, .slice pa pl.length pc] 25)).alloc (.cells #[.int .i64 0, .int .i64 0, .slice none 0 0, .slice none 0 0] 25)).cell? ⟨w.heap.size, 3, none⟩ = some (.slice pa pl.length pc) := cells_at q0 3 _ rfl
  go_enter Tryd.func26, Tryd.ntmps26
  go_wp2_with fail
  go_region_held2 (fun w' => w'.cell? ⟨w.heap.size, 0, none⟩ = some (.int .i64 au) ∧ w'.cell? ⟨w.heap.size, 1, none⟩ = some (.int .i64 rd) ∧ w'.cell? ⟨w.heap.size, 2, none⟩ = some (.slice ba bl.length bc) ∧ w'.cell? ⟨w.heap.size, 3, none⟩ = some (.slice pa pl.length pc)) (go_keep) (first | (go_at_call 53; refine (bytesCopies_any pl pa _ pc w1 rfl hp.reach hp.each (hp.list.below (below_alloc (below_alloc hb1))).parts).mono ?_; rintro e w2 ⟨ya, yc, ys, rfl, hS2, hL2, hb2, hF2⟩; have s0 := (hb2.block _ (lt_of_heap r0)).trans r0; have s1 := (hb2.block _ (lt_of_heap r1)).trans r1; have e0 : w2.cell? ⟨w.heap.size, 0, none⟩ = some (.int .i64 au) := cells_at s0 0 _ rfl; have e1 : w2.cell? ⟨w.heap.size, 1, none⟩ = some (.int .i64 rd) := cells_at s0 1 _ rfl; have e2 : w2.cell? ⟨w.heap.size, 2, none⟩ = some (.slice ba bl.length bc) := cells_at s0 2 _ rfl; have e3 : w2.cell? ⟨w.heap.size, 3, none⟩ = some (.slice pa pl.length pc) := cells_at s0 3 _ rfl; have d0 := cells_at s1 0 _ rfl; have d1 := cells_at s1 1 _ rfl; have d2 := cells_at s1 2 _ rfl; have d3 := cells_at s1 3 _ rfl; have f0 := frozen_at s1 0; have f1 := frozen_at s1 1; have f2 := frozen_at s1 2; have f3 := frozen_at s1 3) | (go_at_call 53; refine (bytesCopies_any bl ba _ bc ((w.alloc (.cells #[.int .i64 au, .int .i64 rd, .slice ba bl.length bc, .slice pa pl.length pc] 25)).alloc (.cells #[.int .i64 0, .int .i64 0, .slice none 0 0, .slice none 0 0] 25)).drew rfl hb.reach hb.each (hb.list.below hR.drew).parts).mono ?_; rintro e w1 ⟨xa, xc, xs, rfl, hS1, hL1, hb1, hF1⟩; replace hb1 := below_drew hb1; rw [heap_drew, size_alloc, size_alloc] at hF1; have r1 := row_new hb1; have r0 := row_new (below_alloc hb1); rw [size_alloc] at r1; have c0 : w1.cell? ⟨w.heap.size, 0, none⟩ = some (.int .i64 au) := cells_at r0 0 _ rfl; have c1 : w1.cell? ⟨w.heap.size, 1, none⟩ = some (.int .i64 rd) := cells_at r0 1 _ rfl; have c2 : w1.cell? ⟨w.heap.size, 2, none⟩ = some (.slice ba bl.length bc) := cells_at r0 2 _ rfl; have c3 : w1.cell? ⟨w.heap.size, 3, none⟩ = some (.slice pa pl.length pc) := cells_at r0 3 _ rfl))
  all_goals
    go_wp2_with fail
    have hsz : w.heap.size + 1 + 1 ≤ w1.heap.size := by have := hb1.size; rw [size_alloc, size_alloc] at this; exact this
    have g1 : w.heap.size + 1 < w.heap.size + 1 + 1 := Nat.lt_succ_self _
    have g2 : w.heap.size + 1 < w1.heap.size := by omega
    have hW1 := below_alloc (below_alloc hb1)
    have hW2 := hW1.trans (hb2.mono hW1.size)
    refine bodyPost_ret (v := .agg #[.int .i64 au, .int .i64 rd, .slice xa bl.length xc, .slice ya pl.length yc]) (by simp [results, Tryd.results26, go_sem, d0, d1, d2, d3]) rfl ⟨xa, xc, xs, ya, yc, ys, rfl, hS1, hS2, ?_, ?_, ?_, hF1.mono (by omega), hF2.mono hW1.size⟩
    · exact ((((hL1.below hb2).setCell hF1 _ _ _ g1).setCell hF1 _ _ _ g1).setCell hF1 _ _ _ g1).setCell hF1 _ _ _ g1
    · exact (((hL2.setCell hF2 _ _ _ g2).setCell hF2 _ _ _ g2).setCell hF2 _ _ _ g2).setCell hF2 _ _ _ g2
    · exact (((hW2.setCell (Nat.le_succ _) _).setCell (Nat.le_succ _) _).setCell (Nat.le_succ _) _).setCell (Nat.le_succ _) _
end Go.Proofs.YtbkojincfmfpnaaDoor

namespace Go.Proofs.YtbkojincfmfpnaaDoor
open Go.RowKit

set_option maxRecDepth 100000 in
set_option maxHeartbeats 1000000 in
theorem bytesCopiesU_any (ps : List Part) (sa : Option Addr) (n cap : Nat) (w : World) (hn : n = ps.length) (hr : ps.length * 24 ≤ 140737488355328) (hre : ∀ p ∈ ps, p.bs.length ≤ 140737488355328) (hp : PartsAt w sa ps) :
    Calls Tryd.prog 53 #[.slice sa n cap] w fun e w' => ∃ ra rc qs, e = .returned (.slice ra ps.length rc) ∧ Same qs ps ∧ ListAt w' ra rc qs ∧ Below w.heap.size w w' ∧ Fresh w.heap.size ra qs ∧ (∀ sb so, ra = some ⟨sb, so, none⟩ → sb < w'.heap.size) := by
  subst hn
  obtain ⟨i, hi, hz0, hz1, hz2⟩ := info_parts infoBs
  go_enter Tryd.func53, Tryd.ntmps53
  go_wp2_with fail
  go_loopw [4, 3] (fun j v wr => ∃ (k : Nat) (qs : List Part), k ≤ ps.length ∧ j = .int .i64 k ∧ Same qs (ps.take k) ∧ wr.ownsRow w.heap.size 42 1 v k (pv qs) ∧ Apart wr w.heap.size v qs ∧ Below w.heap.size w wr) (fun j _ _ => ps.length - (intOf j).toNat)
  case atStart => exact ⟨0, [], Nat.zero_le _, rfl, by simp [Same], World.ownsRow_nil _ _ _ _, (fun p hp => by cases hp), Below.refl _ _⟩
  case round =>
    obtain ⟨k, qs, hk, rfl, hS, ho, hap, hb⟩ := hrel
    by_cases hlt : k < ps.length
    · have hpw := hp.below hb
      obtain ⟨sb, so, rfl, hc⟩ : ∃ sb so, sa = some ⟨sb, so, none⟩ ∧ ∀ j (h : j < ps.length), wr.cell? ⟨sb, so + j, none⟩ = some (.slice (ps[j]).sa (ps[j]).bs.length (ps[j]).cap) := by
        rcases hpw.cells with h | h
        · rw [h] at hlt; simp at hlt
        · exact h
      have ck := hc k hlt
      have hx := hpw.each (ps[k]) (List.getElem_mem hlt)
      have hxr := hre (ps[k]) (List.getElem_mem hlt)
      have hst : Hid (ps.take (k + 1) = ps.take k ++ [ps[k]]) := List.take_succ_eq_append_getElem hlt
      have hltI : (k : Int) < ps.length := by omega
      clear hc
      generalize ps[k] = p at *
      go_wp2_with fail
      refine (joined_any p.bs [] p.sa none _ _ p.cap 0 wr rfl rfl hx (nilSlice _) (by simpa using hxr)).mono ?_
      rintro e w2 ⟨v2, he, ho2, hb2⟩
      subst he
      dsimp only
      simp only [List.append_nil, List.length_nil, Nat.add_zero] at ho2
      obtain ⟨ra, rc, hv, _, hs2⟩ := owns_form ho2
      subst hv
      have hob := owns_keep ho hb2
      have hB2 := hb.trans (hb2.mono hb.size)
      go_wp2_with (at_builtin; refine wpList_append_own_at _ rfl _ _ 23 rfl w.heap.size 42 i (.slice none 0 0) 1 24 Tryd.underlying23 hi hz0 hz1 hz2 rfl (by decide) _ k _ rfl (World.ownsRow.alloc hob _) ⟨w2.heap.size, 0, none⟩ 1 1 [.slice ra p.bs.length rc] rfl rfl (cells_new _ _ _) (by intro u hu; simp at hu; subst hu; rfl) (by unfold maxLen; omega) (by omega) (le_alloc hB2.size _) ?_; intro v1 w3 ho3 hg3 _ hat)
      have G := Grew.of hg3 hat
      have hap3 := hap.more (q := ⟨ra, rc, p.bs⟩) hb.size ho hb2 ho2 hs2 G
      have hB3 := Below.grown (hB2.alloc hB2.size _) hg3 (le_alloc hB2.size _) (fun q e => (hob.lt q e).1)
      go_roundw
      case rel =>
        have hR : ∃ (k' : Nat) (qs' : List Part), k' ≤ ps.length ∧ (Value.int .i64 ((k : Int) + 1)) = .int .i64 k' ∧ Same qs' (ps.take k') ∧ w3.ownsRow w.heap.size 42 1 v1 k' (pv qs') ∧ Apart w3 w.heap.size v1 qs' ∧ Below w.heap.size w w3 :=
          ⟨k + 1, qs ++ [⟨ra, rc, p.bs⟩], by omega, by go_num, by rw [hst.out]; simp only [Same, List.map_append] at hS ⊢; rw [hS]; rfl, by simpa [pv, Part.val] using ho3, hap3, hB3⟩
        first | exact hR | ((repeat apply Exists.intro); exact ⟨hR, rfl⟩)
      case measure => simp [intOf]; omega
    · obtain rfl : k = ps.length := by omega
      rw [List.take_of_length_le (Nat.le_refl _)] at hS
      obtain ⟨ra, rc, hv, hl, hL, hfr⟩ := listAt_of_owns ho hap
      subst hv
      go_wp2_with fail
      go_ret
      exact ⟨ra, rc, qs, rfl, hS, hL (by omega), hb, hfr, fun sb so e => by subst e; exact (ho.lt sb rfl).2⟩
set_option maxRecDepth 100000 in
set_option maxHeartbeats 1000000 in
theorem headerCopyU_any (au rd : Int) (ba : Option Addr) (bc : Nat) (bl : List Part) (pa : Option Addr) (pc : Nat) (pl : List Part) (w : World) (hb : ReadAt w ba bc bl) (hp : ReadAt w pa pc pl) :
    Calls Tryd.prog 26 #[.agg #[.int .i64 au, .int .i64 rd, .slice ba bl.length bc, .slice pa pl.length pc]] w fun e w' => ∃ xa xc xs ya yc ys, e = .returned (.agg #[.int .i64 au, .int .i64 rd, .slice xa bl.length xc, .slice ya pl.length yc]) ∧ Same xs bl ∧ Same ys pl ∧ ListAt w' xa xc xs ∧ ListAt w' ya yc ys ∧ Below w.heap.size w w' ∧ Fresh w.heap.size xa xs ∧ Fresh w.heap.size ya ys ∧ (∀ sb so, xa = some ⟨sb, so, none⟩ → sb < w'.heap.size) ∧ (∀ sb so, ya = some ⟨sb, so, none⟩ → sb < w'.heap.size) := by
  have hR : Below w.heap.size w ((w.alloc (.cells #[.int .i64 au, .int .i64 rd, .slice ba bl.length bc, .slice pa pl.length pc] 25)).alloc (.cells #[.int .i64 0, .int .i64 0, .slice none 0 0, .slice none 0 0] 25)) := ((Below.refl _ _).alloc (Nat.le_refl _) _).alloc (by simp) _
  have q0 := heap_alloc2_old w (.cells #[.int .i64 au, .int .i64 rd, .slice ba bl.length bc, .slice pa pl.length pc] 25) (.cells #[.int .i64 0, .int .i64 0, .slice none 0 0, .slice none 0 0] 25)
  have k0 : ((w.alloc (.cells #[.int .i64 au, .int .i64 rd, .slice ba bl.length bc, .slice pa pl.length pc] 25)).alloc (.cells #[.int .i64 0, .int .i64 0, .slice none 0 0, .slice none 0 0] 25)).cell? ⟨w.heap.size, 0, none⟩ = some (.int .i64 au) := cells_at q0 0 _ rfl
  have k1 : ((w.alloc (.cells #[.int .i64 au, .int .i64 rd, .slice ba bl.length bc, .slice pa pl.length pc] 25)).alloc (.cells #[.int .i64 0, .int .i64 0, .slice none 0 0, .slice none 0 0] 25)).cell? ⟨w.heap.size, 1, none⟩ = some (.int .i64 rd) := cells_at q0 1 _ rfl
  have k2 : ((w.alloc (.cells #[.int .i64 au, .int .i64 rd, .slice ba bl.length bc, .slice pa pl.length pc] 25)).alloc (.cells #[.int .i64 0, .int .i64 0, .slice none 0 0, .slice none 0 0] 25)).cell? ⟨w.heap.size, 2, none⟩ = some (.slice ba bl.length bc) := cells_at q0 2 _ rfl
  have k3 : ((w.alloc (.cells #[.int .i64 au, .int .i64 rd, .slice ba bl.length bc, .slice pa pl.length pc] 25)).alloc (.cells #[.int .i64 0, .int .i64 0, .slice none 0 0, .slice none 0 0] 25)).cell? ⟨w.heap.size, 3, none⟩ = some (.slice pa pl.length pc) := cells_at q0 3 _ rfl
  go_enter Tryd.func26, Tryd.ntmps26
  go_wp2_with fail
  go_region_held2 (fun w' => w'.cell? ⟨w.heap.size, 0, none⟩ = some (.int .i64 au) ∧ w'.cell? ⟨w.heap.size, 1, none⟩ = some (.int .i64 rd) ∧ w'.cell? ⟨w.heap.size, 2, none⟩ = some (.slice ba bl.length bc) ∧ w'.cell? ⟨w.heap.size, 3, none⟩ = some (.slice pa pl.length pc)) (go_keep) (first | (go_at_call 53; refine (bytesCopiesU_any pl pa _ pc w1 rfl hp.reach hp.each (hp.list.below (below_alloc (below_alloc hb1))).parts).mono ?_; rintro e w2 ⟨ya, yc, ys, rfl, hS2, hL2, hb2, hF2, hU2⟩; have s0 := (hb2.block _ (lt_of_heap r0)).trans r0; have s1 := (hb2.block _ (lt_of_heap r1)).trans r1; have e0 : w2.cell? ⟨w.heap.size, 0, none⟩ = some (.int .i64 au) := cells_at s0 0 _ rfl; have e1 : w2.cell? ⟨w.heap.size, 1, none⟩ = some (.int .i64 rd) := cells_at s0 1 _ rfl; have e2 : w2.cell? ⟨w.heap.size, 2, none⟩ = some (.slice ba bl.length bc) := cells_at s0 2 _ rfl; have e3 : w2.cell? ⟨w.heap.size, 3, none⟩ = some (.slice pa pl.length pc) := cells_at s0 3 _ rfl; have d0 := cells_at s1 0 _ rfl; have d1 := cells_at s1 1 _ rfl; have d2 := cells_at s1 2 _ rfl; have d3 := cells_at s1 3 _ rfl; have f0 := frozen_at s1 0; have f1 := frozen_at s1 1; have f2 := frozen_at s1 2; have f3 := frozen_at s1 3) | (go_at_call 53; refine (bytesCopiesU_any bl ba _ bc ((w.alloc (.cells #[.int .i64 au, .int .i64 rd, .slice ba bl.length bc, .slice pa pl.length pc] 25)).alloc (.cells #[.int .i64 0, .int .i64 0, .slice none 0 0, .slice none 0 0] 25)).drew rfl hb.reach hb.each (hb.list.below hR.drew).parts).mono ?_; rintro e w1 ⟨xa, xc, xs, rfl, hS1, hL1, hb1, hF1, hU1⟩; replace hb1 := below_drew hb1; rw [heap_drew, size_alloc, size_alloc] at hF1; have r1 := row_new hb1; have r0 := row_new (below_alloc hb1); rw [size_alloc] at r1; have c0 : w1.cell? ⟨w.heap.size, 0, none⟩ = some (.int .i64 au) := cells_at r0 0 _ rfl; have c1 : w1.cell? ⟨w.heap.size, 1, none⟩ = some (.int .i64 rd) := cells_at r0 1 _ rfl; have c2 : w1.cell? ⟨w.heap.size, 2, none⟩ = some (.slice ba bl.length bc) := cells_at r0 2 _ rfl; have c3 : w1.cell? ⟨w.heap.size, 3, none⟩ = some (.slice pa pl.length pc) := cells_at r0 3 _ rfl))
  all_goals
    go_wp2_with fail
    have hsz : w.heap.size + 1 + 1 ≤ w1.heap.size := by have := hb1.size; rw [size_alloc, size_alloc] at this; exact this
    have g1 : w.heap.size + 1 < w.heap.size + 1 + 1 := Nat.lt_succ_self _
    have g2 : w.heap.size + 1 < w1.heap.size := by omega
    have hW1 := below_alloc (below_alloc hb1)
    have hW2 := hW1.trans (hb2.mono hW1.size)
    refine bodyPost_ret (v := .agg #[.int .i64 au, .int .i64 rd, .slice xa bl.length xc, .slice ya pl.length yc]) (by simp [results, Tryd.results26, go_sem, d0, d1, d2, d3]) rfl ⟨xa, xc, xs, ya, yc, ys, rfl, hS1, hS2, ?_, ?_, ?_, hF1.mono (by omega), hF2.mono hW1.size, fun sb so e => by simpa using Nat.lt_of_lt_of_le (hU1 sb so e) hb2.size, fun sb so e => by simpa using hU2 sb so e⟩
    · exact ((((hL1.below hb2).setCell hF1 _ _ _ g1).setCell hF1 _ _ _ g1).setCell hF1 _ _ _ g1).setCell hF1 _ _ _ g1
    · exact (((hL2.setCell hF2 _ _ _ g2).setCell hF2 _ _ _ g2).setCell hF2 _ _ _ g2).setCell hF2 _ _ _ g2
    · exact (((hW2.setCell (Nat.le_succ _) _).setCell (Nat.le_succ _) _).setCell (Nat.le_succ _) _).setCell (Nat.le_succ _) _
end Go.Proofs.YtbkojincfmfpnaaDoor
