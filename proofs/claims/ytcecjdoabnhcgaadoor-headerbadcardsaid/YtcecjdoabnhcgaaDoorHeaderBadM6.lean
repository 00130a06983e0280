/- The law sheaveskeep.HeaderBad answers true for every argument, and each argument reads behind the call as it read before: the tied card. Its conditions: the three tables of package blake hold what the program's text lays (the card ties that); the form's own reach. -/
import Derived.Test.YtcecjdoabnhcgaaDoorCertF
import Derived.Test.YtcecjdoabnhcgaaDoorRawU
import Derived.Test.YtcecjdoabnhcgaaDoorDigU
import Derived.Test.YtcecjdoabnhcgaaDoorHeaderBadM0
import Derived.Test.YtcecjdoabnhcgaaDoorCCert
import Derived.Test.YtcecjdoabnhcgaaDoorRows
import Derived.Test.YtcecjdoabnhcgaaDoorK
import Derived.Lib.LaidTab
import Derived.OpenShut
import Derived.Stop.LaidErr
import Derived.Test.YtcecjdoabnhcgaaDoorLib
import Derived.ProofKit
import Derived.Test.YtcecjdoabnhcgaaDoorCards
import Derived.Test.YtcecjdoabnhcgaaDoorTie
import Derived.WalkKit
import Derived.Deep.DeepHandedRow
import Derived.SevenTiedAt
import Derived.Below
namespace Go.Proofs.YtcecjdoabnhcgaaDoor
open Go.RowKit

set_option maxRecDepth 100000 in
theorem infoInt2 : (Tryd.prog.info? 3).map (fun i => (i.zero, i.size, i.bytes)) = some (some (.int .i64 0), 1, 8) := by kernel_rfl
def iv (vl : List Int) : List Value := vl.map (Value.int .i64)
set_option maxRecDepth 100000 in
theorem iv_length (vl : List Int) : (iv vl).length = vl.length := by simp [iv]
set_option maxRecDepth 100000 in
theorem iv_one (vl : List Int) : ∀ u ∈ iv vl, u.oneCell' = true := by
  intro u hu; simp [iv] at hu; obtain ⟨x, _, rfl⟩ := hu; rfl
set_option maxRecDepth 100000 in
theorem intsAt_of_owns {w : World} {base n : Nat} {v : Value} {vl : List Int} (h : w.ownsRow base 3 1 v n (iv vl)) : ∃ za zc, v = .slice za n zc ∧ n = vl.length ∧ IntsAt w za vl ∧ ∀ sb so, za = some ⟨sb, so, none⟩ → base ≤ sb := by
  have hl : n = vl.length := by have := h.1; rw [iv_length] at this; omega
  rcases h.2 with ⟨rfl, hn⟩ | ⟨g, cap, cur, rfl, _⟩
  · have hb : vl = [] := List.eq_nil_of_length_eq_zero (by omega)
    subst hn hb
    exact ⟨none, 0, rfl, rfl, ⟨.inl rfl⟩, fun _ _ e => by cases e⟩
  · refine ⟨some ⟨g, 0, none⟩, cap, rfl, hl, ⟨.inr ⟨g, 0, rfl, fun j hj => ?_⟩⟩, fun sb so e => by cases e; exact (h.lt _ rfl).1⟩
    rw [Nat.zero_add, World.ownsRow.cellAt h j (by omega)]
    simp [iv, hj]
set_option maxRecDepth 100000 in
theorem IntsAt.setCell {w : World} {va : Option Addr} {vl : List Int} (h : IntsAt w va vl) (b j : Nat) (v : Value) (hne : ∀ sb so, va = some ⟨sb, so, none⟩ → b ≠ sb) : IntsAt (w.setCell ⟨b, j, none⟩ v) va vl := by
  refine ⟨?_⟩
  rcases h.cells with h | ⟨sb, so, rfl, hc⟩
  · exact .inl h
  · exact .inr ⟨sb, so, rfl, fun k hk => (World.cell?_setCell_far _ _ _ _ (hne sb so rfl)).trans (hc k hk)⟩
end Go.Proofs.YtcecjdoabnhcgaaDoor

namespace Go.Proofs.YtcecjdoabnhcgaaDoor
open Go.RowKit

set_option maxRecDepth 100000 in
theorem slice_far {w : World} {sa : Option Addr} {cap : Nat} {bs : List Int} (h : SliceAt w sa cap bs) (b j : Nat) (v : Value) (hne : ∀ sb so, sa = some ⟨sb, so, none⟩ → b ≠ sb) : SliceAt (w.setCell ⟨b, j, none⟩ v) sa cap bs := by
  refine ⟨h.le, h.max, h.some, h.nil, ?_⟩
  rcases h.bytes with hb | ⟨sb, so, rfl, hc⟩
  · exact .inl hb
  · exact .inr ⟨sb, so, rfl, fun k hk => (World.cell?_setCell_far _ _ _ _ (hne sb so rfl)).trans (hc k hk)⟩
set_option maxRecDepth 100000 in
theorem listAt_lit (W : World) (ps : List Part) (h : ∀ p ∈ ps, SliceAt W p.sa p.cap p.bs) (hl : ps.length ≤ 1000) : ListAt (W.alloc (.cells (pv ps).toArray 25)) (some ⟨W.heap.size, 0, none⟩) ps.length ps := by
  refine ⟨Nat.le_refl _, by omega, by omega, .inr ⟨_, _, rfl⟩, ⟨.inr ⟨W.heap.size, 0, rfl, fun j hj => ?_⟩, fun p hp => (h p hp).below ((Below.refl _ _).alloc (Nat.le_refl _) _)⟩⟩
  rw [Nat.zero_add, World.cell?_alloc_at _ _ _ _ rfl]
  simp [pv, Part.val, hj]
set_option maxRecDepth 100000 in
theorem digF_app (ps : List Part) (c : Nat) (hc : c + ps.length ≤ 200) (h : ps.map (·.bs) = (List.range ps.length).map fun (i : Nat) => someL 1 ((c : Int) + i)) : digF ps = 0 := digF_some ps 1 c ps.length (by omega) h
set_option maxRecDepth 100000 in
set_option maxHeartbeats 4000000 in
theorem headerBad_walk (ki ra rb rc : Int) (sa : Option Addr) (cap : Nat) (ss : List ByteArray) (wh : Int) (w : World) (_h1 : I64 ki) (h2 : I64 ra) (h3 : I64 rb) (h4 : I64 rc) (_h5 : TextsAt w sa cap ss) (h60 : -9223372036854775808 ≤ wh) (h61 : wh ≤ 9223372036854775807) (_hT : Tabs w) :
    Calls Tryd.prog 6 #[.agg #[.int .i64 ki, .int .i64 ra, .int .i64 rb, .int .i64 rc, .slice sa ss.length cap], .int .i64 wh] w fun e w' => e = .returned (.bool true) ∧ Below w.heap.size w w' := by
  have hH := header_raw ki ra rb rc sa ss.length cap (w.alloc (.cells #[.int .i64 ki, .int .i64 ra, .int .i64 rb, .int .i64 rc, .slice sa ss.length cap] 39)) h2 h3 h4
  have hHF : ∀ (bl pl : List Part), bl.map (·.bs) = hBats rc → pl.map (·.bs) = hPars ra rb rc → _ := fun bl pl => headerF_raw ra rb rc bl pl
  generalize pk ra 4 = au at *
  generalize 1 + pk rb 9 = rd at *
  have HHF : Hid _ := hHF
  clear hHF
  obtain ⟨p0, p1⟩ := pk_bounds wh 5 (by decide)
  have hk : pk wh 5 = 0 ∨ pk wh 5 = 1 ∨ pk wh 5 = 2 ∨ pk wh 5 = 3 ∨ pk wh 5 = 4 := by omega
  have hPK : ∀ wx, Calls Tryd.prog 20 #[.int .i64 wh, .int .i64 5] wx fun e w' => e = .returned (.int .i64 (pk wh 5)) ∧ wx = w' := fun wx => picked_any wh 5 wx h60 h61 (by decide) (by decide)
  generalize pk wh 5 = kk at *
  have HPK : Hid _ := hPK
  clear hPK
  have i1 : I64 1 := ⟨by decide, by decide⟩
  go_enter Tryd.func6, Tryd.ntmps6
  go_wp2_with fail
  refine hH.mono ?_
  rintro e w1 ⟨ba, bc, bl, pa, pc, pl, rfl, hLb, hLp, hOb, hOp, hbs, hps, hb1⟩
  have HG : Hid _ := HHF.out bl pl hbs hps
  clear hbs hps HHF hH
  have hW1 := below_alloc hb1
  clear hb1
  have hlw : w.heap.size ≤ w1.heap.size := hW1.size
  have hab : Away w1.heap.size ba bl := ⟨fun sb so e => by have := (hOb.row sb so e).1; omega, fun p hp sb so e => by have := (hOb.each p hp sb so e).1; omega⟩
  have hap : Away w1.heap.size pa pl := ⟨fun sb so e => by have := (hOp.row sb so e).1; omega, fun p hp sb so e => by have := (hOp.each p hp sb so e).1; omega⟩
  have hA1 : Below w1.heap.size w1 (w1.alloc (.cells #[.int .i64 au, .int .i64 rd, .slice ba bl.length bc, .slice pa pl.length pc] 33)) := (Below.refl _ _).alloc (Nat.le_refl _) _
  have q1 := heap_alloc_new w1 (.cells #[.int .i64 au, .int .i64 rd, .slice ba bl.length bc, .slice pa pl.length pc] 33)
  obtain ⟨z1, z2, z3, z4, z5, z6⟩ := headerF_ok HG.out
  have zb : digF bl = 0 := by
    have h := HG.out
    rw [headerF, if_neg (by omega), if_neg (by omega)] at h
    split at h
    · rename_i h9; exact absurd h h9
    · rename_i h9; simpa using h9
  have HZB : Hid _ := zb
  clear zb
  -- what is told of a header, three times
  have hD : ∀ (wx : World) (a r : Int) (xa : Option Addr) (xn xc : Nat) (xl : List Part) (ya : Option Addr) (yn yc : Nat) (yl : List Part) (ec : Int), xn = xl.length → yn = yl.length → ListAt wx xa xc xl → ListAt wx ya yc yl → headerF a r xl yl = ec → ec ≠ 0 → Calls Tryd.prog 12 #[.agg #[.int .i64 a, .int .i64 r, .slice xa xn xc, .slice ya yn yc]] wx fun e w' => e = .returned (.tuple #[.slice none 0 0, .int .i64 ec]) ∧ Below wx.heap.size wx w' := fun wx a r xa xn xc xl ya yn yc yl ec e1 e2 l1 l2 hf hn => headerDigest_bad a r xa xn xc xl ya yn yc yl ec wx e1 e2 l1 l2 hf hn
  have hE : ∀ (wx : World) (a r : Int) (xa : Option Addr) (xn xc : Nat) (xl : List Part) (ya : Option Addr) (yn yc : Nat) (yl : List Part) (ec : Int), xn = xl.length → yn = yl.length → ListAt wx xa xc xl → ListAt wx ya yc yl → headerF a r xl yl = ec → Calls Tryd.prog 22 #[.agg #[.int .i64 a, .int .i64 r, .slice xa xn xc, .slice ya yn yc]] wx fun e w' => e = .returned (.int .i64 ec) ∧ Below wx.heap.size wx w' := fun wx a r xa xn xc xl ya yn yc yl ec e1 e2 l1 l2 hf => by
    subst e1 e2 hf
    exact checkHeader_any a r xa xc xl ya yc yl wx l1 l2
  have hC : ∀ (wx : World) (a r : Int) (xa : Option Addr) (xn xc : Nat) (xl : List Part) (ya : Option Addr) (yn yc : Nat) (yl : List Part) (va : Option Addr) (vc : Nat) (vl : List Int) (ec : Int), xn = xl.length → yn = yl.length → vl.length = 3 → ListAt wx xa xc xl → ListAt wx ya yc yl → IntsAt wx va vl → headerF a r xl yl = ec → ec ≠ 0 → Calls Tryd.prog 23 #[.agg #[.int .i64 a, .int .i64 r, .slice xa xn xc, .slice ya yn yc, .slice va 3 vc]] wx fun e w' => e = .returned (.int .i64 ec) ∧ Below wx.heap.size wx w' := fun wx a r xa xn xc xl ya yn yc yl va vc vl ec e1 e2 e3 l1 l2 l3 hf hn => by
    have h := checkCert_any a r xa xc xl ya yc yl va vc vl wx l1 l2 l3 (by omega)
    rw [show certF a r xl yl vl = ec by rw [certF, hf, if_pos hn], e3, ← e1, ← e2] at h
    exact h
  have HD : Hid _ := hD
  have HE : Hid _ := hE
  have HC : Hid _ := hC
  clear hD hE hC
  have hs : ∀ (m : Int) (wx : World), Calls Tryd.prog 21 #[.int .i64 1, .int .i64 m] wx fun e w' => e = .returned (.slice (some ⟨wx.heap.size, 0, none⟩) 32 32) ∧ SliceAt w' (some ⟨wx.heap.size, 0, none⟩) 32 (someL 1 m) ∧ Below wx.heap.size wx w' ∧ wx.heap.size < w'.heap.size := fun m wx => (some_any 1 m wx i1).mono (fun e w' ⟨a, b, c⟩ => ⟨a, (sliceAt_of_owns b).2, c, (b.lt _ rfl).2⟩)
  have HS : Hid _ := hs
  clear hs
  rcases hk with rfl | rfl | rfl | rfl | rfl
  · have hff : ∀ xs : List Part, xs.length = 3 → digF xs = 0 → headerF au 1 bl xs = 10 := fun xs e1 e2 => by
      rw [headerF, if_neg (by omega), if_neg (by omega), HZB.out, e2, e1]
      simp [parentsF]
    have HFf : Hid _ := hff
    clear hff
    have lB0 : ListAt (w1.alloc (.cells #[.int .i64 au, .int .i64 1, .slice ba bl.length bc, .slice pa pl.length pc] 33)) ba bc bl := hLb.below ((Below.refl _ _).alloc (Nat.le_refl _) _)
    go_wp2_with (go_at_call 20; refine (HPK.out _).mono ?_; rintro e w9 ⟨rfl, rfl⟩)
    refine (HS.out 1 _).mono ?_
    rintro e w2 ⟨rfl, hsw2, hbw2, hlw2⟩
    have rw2 := row_new hbw2
    have hqw2 := hA1.size
    rw [size_alloc] at hsw2 hlw2
    have hBw2 := below_alloc hbw2
    have hzw2 : w1.heap.size < w2.heap.size := lt_of_heap rw2
    go_wp2_with fail
    refine (HS.out 2 _).mono ?_
    rintro e w3 ⟨rfl, hsw3, hbw3, hlw3⟩
    have rw3 := (hbw3.block _ (lt_of_heap rw2)).trans rw2
    have hBw3 := hBw2.trans (hbw3.mono hBw2.size)
    have hzw3 : w1.heap.size < w3.heap.size := lt_of_heap rw3
    go_wp2_with fail
    refine (HS.out 3 _).mono ?_
    rintro e w4 ⟨rfl, hsw4, hbw4, hlw4⟩
    have rw4 := (hbw4.block _ (lt_of_heap rw3)).trans rw3
    have hBw4 := hBw3.trans (hbw4.mono hBw3.size)
    have hzw4 : w1.heap.size < w4.heap.size := lt_of_heap rw4
    have g0 : w4.cell? ⟨w1.heap.size, 0, none⟩ = some (.int .i64 au) := cells_at rw4 0 _ rfl
    have gf0 := frozen_at rw4 0
    have g1 : w4.cell? ⟨w1.heap.size, 1, none⟩ = some (.int .i64 1) := cells_at rw4 1 _ rfl
    have gf1 := frozen_at rw4 1
    have g2 : w4.cell? ⟨w1.heap.size, 2, none⟩ = some (.slice ba bl.length bc) := cells_at rw4 2 _ rfl
    have gf2 := frozen_at rw4 2
    have g3 : w4.cell? ⟨w1.heap.size, 3, none⟩ = some (.slice pa pl.length pc) := cells_at rw4 3 _ rfl
    have gf3 := frozen_at rw4 3
    go_wp2_with fail
    have sl0 := ((hsw2.below hbw3).below hbw4)
    have sl1 := (hsw3.below hbw4)
    have sl2 := hsw4
    have hSS : ∀ p ∈ ([⟨some ⟨w1.heap.size + 1, 0, none⟩, 32, someL 1 1⟩, ⟨some ⟨w2.heap.size, 0, none⟩, 32, someL 1 2⟩, ⟨some ⟨w3.heap.size, 0, none⟩, 32, someL 1 3⟩] : List Part), SliceAt w4 p.sa p.cap p.bs := by
      intro p hp
      simp only [List.mem_cons, List.not_mem_nil, or_false] at hp
      rcases hp with rfl | rfl | rfl
      · exact sl0
      · exact sl1
      · exact sl2
    have hdz : digF ([⟨some ⟨w1.heap.size + 1, 0, none⟩, 32, someL 1 1⟩, ⟨some ⟨w2.heap.size, 0, none⟩, 32, someL 1 2⟩, ⟨some ⟨w3.heap.size, 0, none⟩, 32, someL 1 3⟩] : List Part) = 0 := digF_app _ 1 (by simp) (by simp [List.range_succ])
    have HFF : Hid _ := HFf.out ([⟨some ⟨w1.heap.size + 1, 0, none⟩, 32, someL 1 1⟩, ⟨some ⟨w2.heap.size, 0, none⟩, 32, someL 1 2⟩, ⟨some ⟨w3.heap.size, 0, none⟩, 32, someL 1 3⟩] : List Part) rfl hdz
    have hne : ∀ p ∈ ([⟨some ⟨w1.heap.size + 1, 0, none⟩, 32, someL 1 1⟩, ⟨some ⟨w2.heap.size, 0, none⟩, 32, someL 1 2⟩, ⟨some ⟨w3.heap.size, 0, none⟩, 32, someL 1 3⟩] : List Part), SliceAt (w4.setCell ⟨w1.heap.size, 3, none⟩ (.slice (some ⟨w4.heap.size, 0, none⟩) 3 3)) p.sa p.cap p.bs := fun p hp => slice_far (hSS p hp) _ _ _ (by
      intro sb so e
      simp only [List.mem_cons, List.not_mem_nil, or_false] at hp
      rcases hp with rfl | rfl | rfl <;> (cases e; omega))
    have hLit := listAt_lit _ _ hne (by simp)
    rw [show (w4.setCell ⟨w1.heap.size, 3, none⟩ (.slice (some ⟨w4.heap.size, 0, none⟩) 3 3)).heap.size = w4.heap.size by simp] at hLit
    have lBl : ListAt w4 ba bc bl := hLb.below hBw4
    have hWl : Below w.heap.size w w4 := hW1.trans (hBw4.mono hW1.size)
    have hAl : Below (w4.setCell ⟨w1.heap.size, 3, none⟩ (.slice (some ⟨w4.heap.size, 0, none⟩) 3 3)).heap.size (w4.setCell ⟨w1.heap.size, 3, none⟩ (.slice (some ⟨w4.heap.size, 0, none⟩) 3 3)) ((w4.setCell ⟨w1.heap.size, 3, none⟩ (.slice (some ⟨w4.heap.size, 0, none⟩) 3 3)).alloc (.cells #[.slice (some ⟨w1.heap.size + 1, 0, none⟩) 32 32, .slice (some ⟨w2.heap.size, 0, none⟩) 32 32, .slice (some ⟨w3.heap.size, 0, none⟩) 32 32] 25)) := (Below.refl _ _).alloc (Nat.le_refl _) _
    have rX : ((w4.setCell ⟨w1.heap.size, 3, none⟩ (.slice (some ⟨w4.heap.size, 0, none⟩) 3 3)).alloc (.cells #[.slice (some ⟨w1.heap.size + 1, 0, none⟩) 32 32, .slice (some ⟨w2.heap.size, 0, none⟩) 32 32, .slice (some ⟨w3.heap.size, 0, none⟩) 32 32] 25)).heap[w1.heap.size]? = some (.cells #[.int .i64 au, .int .i64 1, .slice ba bl.length bc, .slice (some ⟨w4.heap.size, 0, none⟩) 3 3] 33 (0, 0)) := heap_keep (by simpa using heap_setCell_same _ _ 3 _ _ (.slice (some ⟨w4.heap.size, 0, none⟩) 3 3) rw4)
    have lX : ListAt ((w4.setCell ⟨w1.heap.size, 3, none⟩ (.slice (some ⟨w4.heap.size, 0, none⟩) 3 3)).alloc (.cells #[.slice (some ⟨w1.heap.size + 1, 0, none⟩) 32 32, .slice (some ⟨w2.heap.size, 0, none⟩) 32 32, .slice (some ⟨w3.heap.size, 0, none⟩) 32 32] 25)) ba bc bl := (lBl.away hab _ _).below hAl
    have lY : ListAt ((w4.setCell ⟨w1.heap.size, 3, none⟩ (.slice (some ⟨w4.heap.size, 0, none⟩) 3 3)).alloc (.cells #[.slice (some ⟨w1.heap.size + 1, 0, none⟩) 32 32, .slice (some ⟨w2.heap.size, 0, none⟩) 32 32, .slice (some ⟨w3.heap.size, 0, none⟩) 32 32] 25)) (some ⟨w4.heap.size, 0, none⟩) 3 ([⟨some ⟨w1.heap.size + 1, 0, none⟩, 32, someL 1 1⟩, ⟨some ⟨w2.heap.size, 0, none⟩, 32, someL 1 2⟩, ⟨some ⟨w3.heap.size, 0, none⟩, 32, someL 1 3⟩] : List Part) := hLit
    have hX : Below w.heap.size w ((w4.setCell ⟨w1.heap.size, 3, none⟩ (.slice (some ⟨w4.heap.size, 0, none⟩) 3 3)).alloc (.cells #[.slice (some ⟨w1.heap.size + 1, 0, none⟩) 32 32, .slice (some ⟨w2.heap.size, 0, none⟩) 32 32, .slice (some ⟨w3.heap.size, 0, none⟩) 32 32] 25)) := (hWl.setCell hlw _).alloc (by simpa using hWl.size) _
    refine (HD.out _ au 1 ba bl.length bc bl (some ⟨w4.heap.size, 0, none⟩) 3 3 ([⟨some ⟨w1.heap.size + 1, 0, none⟩, 32, someL 1 1⟩, ⟨some ⟨w2.heap.size, 0, none⟩, 32, someL 1 2⟩, ⟨some ⟨w3.heap.size, 0, none⟩, 32, someL 1 3⟩] : List Part) 10 rfl rfl lX lY HFF.out (by decide)).mono ?_
    rintro e w7 ⟨rfl, hb7⟩
    have r7 := (hb7.block _ (lt_of_heap rX)).trans rX
    have hW7 := hX.trans (hb7.mono hX.size)
    have lX7 := lX.below hb7
    have lY7 := lY.below hb7
    have d0 : w7.cell? ⟨w1.heap.size, 0, none⟩ = some (.int .i64 au) := cells_at r7 0 _ rfl
    have d1 : w7.cell? ⟨w1.heap.size, 1, none⟩ = some (.int .i64 1) := cells_at r7 1 _ rfl
    have d2 : w7.cell? ⟨w1.heap.size, 2, none⟩ = some (.slice ba bl.length bc) := cells_at r7 2 _ rfl
    have d3 : w7.cell? ⟨w1.heap.size, 3, none⟩ = some (.slice (some ⟨w4.heap.size, 0, none⟩) 3 3) := cells_at r7 3 _ rfl
    clear rX lX lY hX hb7
    go_wp2_with fail
    refine (HE.out _ au 1 ba bl.length bc bl (some ⟨w4.heap.size, 0, none⟩) 3 3 ([⟨some ⟨w1.heap.size + 1, 0, none⟩, 32, someL 1 1⟩, ⟨some ⟨w2.heap.size, 0, none⟩, 32, someL 1 2⟩, ⟨some ⟨w3.heap.size, 0, none⟩, 32, someL 1 3⟩] : List Part) 10 rfl rfl lX7 lY7 HFF.out).mono ?_
    rintro e w8 ⟨rfl, hb8⟩
    have r8 := (hb8.block _ (lt_of_heap r7)).trans r7
    have hW8 := hW7.trans (hb8.mono hW7.size)
    have lX8 := lX7.below hb8
    have lY8 := lY7.below hb8
    clear d0 d1 d2 d3
    have d0 : w8.cell? ⟨w1.heap.size, 0, none⟩ = some (.int .i64 au) := cells_at r8 0 _ rfl
    have d1 : w8.cell? ⟨w1.heap.size, 1, none⟩ = some (.int .i64 1) := cells_at r8 1 _ rfl
    have d2 : w8.cell? ⟨w1.heap.size, 2, none⟩ = some (.slice ba bl.length bc) := cells_at r8 2 _ rfl
    have d3 : w8.cell? ⟨w1.heap.size, 3, none⟩ = some (.slice (some ⟨w4.heap.size, 0, none⟩) 3 3) := cells_at r8 3 _ rfl
    have hl8 : w1.heap.size < w8.heap.size := lt_of_heap r8
    have hlit := World.ownsRow_lit (base := w8.heap.size) (e := 3) (size := 1) w8 (iv [0, 1, 2]).toArray 3 (Nat.le_refl _) (by decide) rfl
    have hA8 : Below w8.heap.size w8 (w8.alloc (.cells (iv [0, 1, 2]).toArray 3)) := (Below.refl _ _).alloc (Nat.le_refl _) _
    obtain ⟨_, _, e9, _, hI8, _⟩ := intsAt_of_owns hlit
    cases e9
    have HI8 : Hid _ := hI8
    have HA8 : Hid _ := hA8
    clear hlit hI8 hA8 hb8
    go_wp2_with fail
    refine (HC.out _ au 1 ba bl.length bc bl (some ⟨w4.heap.size, 0, none⟩) 3 3 ([⟨some ⟨w1.heap.size + 1, 0, none⟩, 32, someL 1 1⟩, ⟨some ⟨w2.heap.size, 0, none⟩, 32, someL 1 2⟩, ⟨some ⟨w3.heap.size, 0, none⟩, 32, someL 1 3⟩] : List Part) _ 3 [0, 1, 2] 10 rfl rfl rfl (lX8.below HA8.out) (lY8.below HA8.out) HI8.out HFF.out (by decide)).mono ?_
    rintro e w9 ⟨rfl, hb9⟩
    go_wp2_with fail
    go_ret
    exact ⟨rfl, (hW8.alloc hW8.size _).trans (hb9.mono (le_alloc hW8.size _))⟩
  · have hff : ∀ xs : List Part, xs.length = 2 → digF xs = 0 → headerF au 2 bl xs = 10 := fun xs e1 e2 => by
      rw [headerF, if_neg (by omega), if_neg (by omega), HZB.out, e2, e1]
      simp [parentsF]
    have HFf : Hid _ := hff
    clear hff
    have lB0 : ListAt (w1.alloc (.cells #[.int .i64 au, .int .i64 2, .slice ba bl.length bc, .slice pa pl.length pc] 33)) ba bc bl := hLb.below ((Below.refl _ _).alloc (Nat.le_refl _) _)
    go_wp2_with (go_at_call 20; refine (HPK.out _).mono ?_; rintro e w9 ⟨rfl, rfl⟩)
    refine (HS.out 1 _).mono ?_
    rintro e w2 ⟨rfl, hsw2, hbw2, hlw2⟩
    have rw2 := row_new hbw2
    have hqw2 := hA1.size
    rw [size_alloc] at hsw2 hlw2
    have hBw2 := below_alloc hbw2
    have hzw2 : w1.heap.size < w2.heap.size := lt_of_heap rw2
    go_wp2_with fail
    refine (HS.out 2 _).mono ?_
    rintro e w3 ⟨rfl, hsw3, hbw3, hlw3⟩
    have rw3 := (hbw3.block _ (lt_of_heap rw2)).trans rw2
    have hBw3 := hBw2.trans (hbw3.mono hBw2.size)
    have hzw3 : w1.heap.size < w3.heap.size := lt_of_heap rw3
    have g0 : w3.cell? ⟨w1.heap.size, 0, none⟩ = some (.int .i64 au) := cells_at rw3 0 _ rfl
    have gf0 := frozen_at rw3 0
    have g1 : w3.cell? ⟨w1.heap.size, 1, none⟩ = some (.int .i64 2) := cells_at rw3 1 _ rfl
    have gf1 := frozen_at rw3 1
    have g2 : w3.cell? ⟨w1.heap.size, 2, none⟩ = some (.slice ba bl.length bc) := cells_at rw3 2 _ rfl
    have gf2 := frozen_at rw3 2
    have g3 : w3.cell? ⟨w1.heap.size, 3, none⟩ = some (.slice pa pl.length pc) := cells_at rw3 3 _ rfl
    have gf3 := frozen_at rw3 3
    go_wp2_with fail
    have sl0 := (hsw2.below hbw3)
    have sl1 := hsw3
    have hSS : ∀ p ∈ ([⟨some ⟨w1.heap.size + 1, 0, none⟩, 32, someL 1 1⟩, ⟨some ⟨w2.heap.size, 0, none⟩, 32, someL 1 2⟩] : List Part), SliceAt w3 p.sa p.cap p.bs := by
      intro p hp
      simp only [List.mem_cons, List.not_mem_nil, or_false] at hp
      rcases hp with rfl | rfl
      · exact sl0
      · exact sl1
    have hdz : digF ([⟨some ⟨w1.heap.size + 1, 0, none⟩, 32, someL 1 1⟩, ⟨some ⟨w2.heap.size, 0, none⟩, 32, someL 1 2⟩] : List Part) = 0 := digF_app _ 1 (by simp) (by simp [List.range_succ])
    have HFF : Hid _ := HFf.out ([⟨some ⟨w1.heap.size + 1, 0, none⟩, 32, someL 1 1⟩, ⟨some ⟨w2.heap.size, 0, none⟩, 32, someL 1 2⟩] : List Part) rfl hdz
    have hne : ∀ p ∈ ([⟨some ⟨w1.heap.size + 1, 0, none⟩, 32, someL 1 1⟩, ⟨some ⟨w2.heap.size, 0, none⟩, 32, someL 1 2⟩] : List Part), SliceAt (w3.setCell ⟨w1.heap.size, 3, none⟩ (.slice (some ⟨w3.heap.size, 0, none⟩) 2 2)) p.sa p.cap p.bs := fun p hp => slice_far (hSS p hp) _ _ _ (by
      intro sb so e
      simp only [List.mem_cons, List.not_mem_nil, or_false] at hp
      rcases hp with rfl | rfl <;> (cases e; omega))
    have hLit := listAt_lit _ _ hne (by simp)
    rw [show (w3.setCell ⟨w1.heap.size, 3, none⟩ (.slice (some ⟨w3.heap.size, 0, none⟩) 2 2)).heap.size = w3.heap.size by simp] at hLit
    have lBl : ListAt w3 ba bc bl := hLb.below hBw3
    have hWl : Below w.heap.size w w3 := hW1.trans (hBw3.mono hW1.size)
    have hAl : Below (w3.setCell ⟨w1.heap.size, 3, none⟩ (.slice (some ⟨w3.heap.size, 0, none⟩) 2 2)).heap.size (w3.setCell ⟨w1.heap.size, 3, none⟩ (.slice (some ⟨w3.heap.size, 0, none⟩) 2 2)) ((w3.setCell ⟨w1.heap.size, 3, none⟩ (.slice (some ⟨w3.heap.size, 0, none⟩) 2 2)).alloc (.cells #[.slice (some ⟨w1.heap.size + 1, 0, none⟩) 32 32, .slice (some ⟨w2.heap.size, 0, none⟩) 32 32] 25)) := (Below.refl _ _).alloc (Nat.le_refl _) _
    have rX : ((w3.setCell ⟨w1.heap.size, 3, none⟩ (.slice (some ⟨w3.heap.size, 0, none⟩) 2 2)).alloc (.cells #[.slice (some ⟨w1.heap.size + 1, 0, none⟩) 32 32, .slice (some ⟨w2.heap.size, 0, none⟩) 32 32] 25)).heap[w1.heap.size]? = some (.cells #[.int .i64 au, .int .i64 2, .slice ba bl.length bc, .slice (some ⟨w3.heap.size, 0, none⟩) 2 2] 33 (0, 0)) := heap_keep (by simpa using heap_setCell_same _ _ 3 _ _ (.slice (some ⟨w3.heap.size, 0, none⟩) 2 2) rw3)
    have lX : ListAt ((w3.setCell ⟨w1.heap.size, 3, none⟩ (.slice (some ⟨w3.heap.size, 0, none⟩) 2 2)).alloc (.cells #[.slice (some ⟨w1.heap.size + 1, 0, none⟩) 32 32, .slice (some ⟨w2.heap.size, 0, none⟩) 32 32] 25)) ba bc bl := (lBl.away hab _ _).below hAl
    have lY : ListAt ((w3.setCell ⟨w1.heap.size, 3, none⟩ (.slice (some ⟨w3.heap.size, 0, none⟩) 2 2)).alloc (.cells #[.slice (some ⟨w1.heap.size + 1, 0, none⟩) 32 32, .slice (some ⟨w2.heap.size, 0, none⟩) 32 32] 25)) (some ⟨w3.heap.size, 0, none⟩) 2 ([⟨some ⟨w1.heap.size + 1, 0, none⟩, 32, someL 1 1⟩, ⟨some ⟨w2.heap.size, 0, none⟩, 32, someL 1 2⟩] : List Part) := hLit
    have hX : Below w.heap.size w ((w3.setCell ⟨w1.heap.size, 3, none⟩ (.slice (some ⟨w3.heap.size, 0, none⟩) 2 2)).alloc (.cells #[.slice (some ⟨w1.heap.size + 1, 0, none⟩) 32 32, .slice (some ⟨w2.heap.size, 0, none⟩) 32 32] 25)) := (hWl.setCell hlw _).alloc (by simpa using hWl.size) _
    refine (HD.out _ au 2 ba bl.length bc bl (some ⟨w3.heap.size, 0, none⟩) 2 2 ([⟨some ⟨w1.heap.size + 1, 0, none⟩, 32, someL 1 1⟩, ⟨some ⟨w2.heap.size, 0, none⟩, 32, someL 1 2⟩] : List Part) 10 rfl rfl lX lY HFF.out (by decide)).mono ?_
    rintro e w7 ⟨rfl, hb7⟩
    have r7 := (hb7.block _ (lt_of_heap rX)).trans rX
    have hW7 := hX.trans (hb7.mono hX.size)
    have lX7 := lX.below hb7
    have lY7 := lY.below hb7
    have d0 : w7.cell? ⟨w1.heap.size, 0, none⟩ = some (.int .i64 au) := cells_at r7 0 _ rfl
    have d1 : w7.cell? ⟨w1.heap.size, 1, none⟩ = some (.int .i64 2) := cells_at r7 1 _ rfl
    have d2 : w7.cell? ⟨w1.heap.size, 2, none⟩ = some (.slice ba bl.length bc) := cells_at r7 2 _ rfl
    have d3 : w7.cell? ⟨w1.heap.size, 3, none⟩ = some (.slice (some ⟨w3.heap.size, 0, none⟩) 2 2) := cells_at r7 3 _ rfl
    clear rX lX lY hX hb7
    go_wp2_with fail
    refine (HE.out _ au 2 ba bl.length bc bl (some ⟨w3.heap.size, 0, none⟩) 2 2 ([⟨some ⟨w1.heap.size + 1, 0, none⟩, 32, someL 1 1⟩, ⟨some ⟨w2.heap.size, 0, none⟩, 32, someL 1 2⟩] : List Part) 10 rfl rfl lX7 lY7 HFF.out).mono ?_
    rintro e w8 ⟨rfl, hb8⟩
    have r8 := (hb8.block _ (lt_of_heap r7)).trans r7
    have hW8 := hW7.trans (hb8.mono hW7.size)
    have lX8 := lX7.below hb8
    have lY8 := lY7.below hb8
    clear d0 d1 d2 d3
    have d0 : w8.cell? ⟨w1.heap.size, 0, none⟩ = some (.int .i64 au) := cells_at r8 0 _ rfl
    have d1 : w8.cell? ⟨w1.heap.size, 1, none⟩ = some (.int .i64 2) := cells_at r8 1 _ rfl
    have d2 : w8.cell? ⟨w1.heap.size, 2, none⟩ = some (.slice ba bl.length bc) := cells_at r8 2 _ rfl
    have d3 : w8.cell? ⟨w1.heap.size, 3, none⟩ = some (.slice (some ⟨w3.heap.size, 0, none⟩) 2 2) := cells_at r8 3 _ rfl
    have hl8 : w1.heap.size < w8.heap.size := lt_of_heap r8
    have hlit := World.ownsRow_lit (base := w8.heap.size) (e := 3) (size := 1) w8 (iv [0, 1, 2]).toArray 3 (Nat.le_refl _) (by decide) rfl
    have hA8 : Below w8.heap.size w8 (w8.alloc (.cells (iv [0, 1, 2]).toArray 3)) := (Below.refl _ _).alloc (Nat.le_refl _) _
    obtain ⟨_, _, e9, _, hI8, _⟩ := intsAt_of_owns hlit
    cases e9
    have HI8 : Hid _ := hI8
    have HA8 : Hid _ := hA8
    clear hlit hI8 hA8 hb8
    go_wp2_with fail
    refine (HC.out _ au 2 ba bl.length bc bl (some ⟨w3.heap.size, 0, none⟩) 2 2 ([⟨some ⟨w1.heap.size + 1, 0, none⟩, 32, someL 1 1⟩, ⟨some ⟨w2.heap.size, 0, none⟩, 32, someL 1 2⟩] : List Part) _ 3 [0, 1, 2] 10 rfl rfl rfl (lX8.below HA8.out) (lY8.below HA8.out) HI8.out HFF.out (by decide)).mono ?_
    rintro e w9 ⟨rfl, hb9⟩
    go_wp2_with fail
    go_ret
    exact ⟨rfl, (hW8.alloc hW8.size _).trans (hb9.mono (le_alloc hW8.size _))⟩
  · have hff : ∀ xs : List Part, xs.length = 2 → digF xs = 7 → headerF au rd xs pl = 7 := fun xs e1 e2 => by
      rw [headerF, if_neg (by omega), if_neg (by omega), e2]
      simp
    have HFf : Hid _ := hff
    clear hff
    go_wp2_with (go_at_call 20; refine (HPK.out _).mono ?_; rintro e w9 ⟨rfl, rfl⟩)
    refine (HS.out 1 _).mono ?_
    rintro e w2 ⟨rfl, hsw2, hbw2, hlw2⟩
    have rw2 := row_new hbw2
    have hqw2 := hA1.size
    rw [size_alloc] at hsw2 hlw2
    have hBw2 := below_alloc hbw2
    have hzw2 : w1.heap.size < w2.heap.size := lt_of_heap rw2
    go_wp2_with fail
    refine (HS.out 1 _).mono ?_
    rintro e w3 ⟨rfl, hsw3, hbw3, hlw3⟩
    have rw3 := (hbw3.block _ (lt_of_heap rw2)).trans rw2
    have hBw3 := hBw2.trans (hbw3.mono hBw2.size)
    have hzw3 : w1.heap.size < w3.heap.size := lt_of_heap rw3
    have g0 : w3.cell? ⟨w1.heap.size, 0, none⟩ = some (.int .i64 au) := cells_at rw3 0 _ rfl
    have gf0 := frozen_at rw3 0
    have g1 : w3.cell? ⟨w1.heap.size, 1, none⟩ = some (.int .i64 rd) := cells_at rw3 1 _ rfl
    have gf1 := frozen_at rw3 1
    have g2 : w3.cell? ⟨w1.heap.size, 2, none⟩ = some (.slice ba bl.length bc) := cells_at rw3 2 _ rfl
    have gf2 := frozen_at rw3 2
    have g3 : w3.cell? ⟨w1.heap.size, 3, none⟩ = some (.slice pa pl.length pc) := cells_at rw3 3 _ rfl
    have gf3 := frozen_at rw3 3
    go_wp2_with fail
    have sl0 := (hsw2.below hbw3)
    have sl1 := hsw3
    have hSS : ∀ p ∈ ([⟨some ⟨w1.heap.size + 1, 0, none⟩, 32, someL 1 1⟩, ⟨some ⟨w2.heap.size, 0, none⟩, 32, someL 1 1⟩] : List Part), SliceAt w3 p.sa p.cap p.bs := by
      intro p hp
      simp only [List.mem_cons, List.not_mem_nil, or_false] at hp
      rcases hp with rfl | rfl
      · exact sl0
      · exact sl1
    have hdz : digF ([⟨some ⟨w1.heap.size + 1, 0, none⟩, 32, someL 1 1⟩, ⟨some ⟨w2.heap.size, 0, none⟩, 32, someL 1 1⟩] : List Part) = 7 := by simp [digF, digTo1, digAt, partAt, twice, someL_length, List.range_succ]
    have HFF : Hid _ := HFf.out ([⟨some ⟨w1.heap.size + 1, 0, none⟩, 32, someL 1 1⟩, ⟨some ⟨w2.heap.size, 0, none⟩, 32, someL 1 1⟩] : List Part) rfl hdz
    have hne : ∀ p ∈ ([⟨some ⟨w1.heap.size + 1, 0, none⟩, 32, someL 1 1⟩, ⟨some ⟨w2.heap.size, 0, none⟩, 32, someL 1 1⟩] : List Part), SliceAt (w3.setCell ⟨w1.heap.size, 2, none⟩ (.slice (some ⟨w3.heap.size, 0, none⟩) 2 2)) p.sa p.cap p.bs := fun p hp => slice_far (hSS p hp) _ _ _ (by
      intro sb so e
      simp only [List.mem_cons, List.not_mem_nil, or_false] at hp
      rcases hp with rfl | rfl <;> (cases e; omega))
    have hLit := listAt_lit _ _ hne (by simp)
    rw [show (w3.setCell ⟨w1.heap.size, 2, none⟩ (.slice (some ⟨w3.heap.size, 0, none⟩) 2 2)).heap.size = w3.heap.size by simp] at hLit
    have lPl : ListAt w3 pa pc pl := hLp.below hBw3
    have hWl : Below w.heap.size w w3 := hW1.trans (hBw3.mono hW1.size)
    have hAl : Below (w3.setCell ⟨w1.heap.size, 2, none⟩ (.slice (some ⟨w3.heap.size, 0, none⟩) 2 2)).heap.size (w3.setCell ⟨w1.heap.size, 2, none⟩ (.slice (some ⟨w3.heap.size, 0, none⟩) 2 2)) ((w3.setCell ⟨w1.heap.size, 2, none⟩ (.slice (some ⟨w3.heap.size, 0, none⟩) 2 2)).alloc (.cells #[.slice (some ⟨w1.heap.size + 1, 0, none⟩) 32 32, .slice (some ⟨w2.heap.size, 0, none⟩) 32 32] 25)) := (Below.refl _ _).alloc (Nat.le_refl _) _
    have rX : ((w3.setCell ⟨w1.heap.size, 2, none⟩ (.slice (some ⟨w3.heap.size, 0, none⟩) 2 2)).alloc (.cells #[.slice (some ⟨w1.heap.size + 1, 0, none⟩) 32 32, .slice (some ⟨w2.heap.size, 0, none⟩) 32 32] 25)).heap[w1.heap.size]? = some (.cells #[.int .i64 au, .int .i64 rd, .slice (some ⟨w3.heap.size, 0, none⟩) 2 2, .slice pa pl.length pc] 33 (0, 0)) := heap_keep (by simpa using heap_setCell_same _ _ 2 _ _ (.slice (some ⟨w3.heap.size, 0, none⟩) 2 2) rw3)
    have lX : ListAt ((w3.setCell ⟨w1.heap.size, 2, none⟩ (.slice (some ⟨w3.heap.size, 0, none⟩) 2 2)).alloc (.cells #[.slice (some ⟨w1.heap.size + 1, 0, none⟩) 32 32, .slice (some ⟨w2.heap.size, 0, none⟩) 32 32] 25)) (some ⟨w3.heap.size, 0, none⟩) 2 ([⟨some ⟨w1.heap.size + 1, 0, none⟩, 32, someL 1 1⟩, ⟨some ⟨w2.heap.size, 0, none⟩, 32, someL 1 1⟩] : List Part) := hLit
    have lY : ListAt ((w3.setCell ⟨w1.heap.size, 2, none⟩ (.slice (some ⟨w3.heap.size, 0, none⟩) 2 2)).alloc (.cells #[.slice (some ⟨w1.heap.size + 1, 0, none⟩) 32 32, .slice (some ⟨w2.heap.size, 0, none⟩) 32 32] 25)) pa pc pl := (lPl.away hap _ _).below hAl
    have hX : Below w.heap.size w ((w3.setCell ⟨w1.heap.size, 2, none⟩ (.slice (some ⟨w3.heap.size, 0, none⟩) 2 2)).alloc (.cells #[.slice (some ⟨w1.heap.size + 1, 0, none⟩) 32 32, .slice (some ⟨w2.heap.size, 0, none⟩) 32 32] 25)) := (hWl.setCell hlw _).alloc (by simpa using hWl.size) _
    refine (HD.out _ au rd (some ⟨w3.heap.size, 0, none⟩) 2 2 ([⟨some ⟨w1.heap.size + 1, 0, none⟩, 32, someL 1 1⟩, ⟨some ⟨w2.heap.size, 0, none⟩, 32, someL 1 1⟩] : List Part) pa pl.length pc pl 7 rfl rfl lX lY HFF.out (by decide)).mono ?_
    rintro e w7 ⟨rfl, hb7⟩
    have r7 := (hb7.block _ (lt_of_heap rX)).trans rX
    have hW7 := hX.trans (hb7.mono hX.size)
    have lX7 := lX.below hb7
    have lY7 := lY.below hb7
    have d0 : w7.cell? ⟨w1.heap.size, 0, none⟩ = some (.int .i64 au) := cells_at r7 0 _ rfl
    have d1 : w7.cell? ⟨w1.heap.size, 1, none⟩ = some (.int .i64 rd) := cells_at r7 1 _ rfl
    have d2 : w7.cell? ⟨w1.heap.size, 2, none⟩ = some (.slice (some ⟨w3.heap.size, 0, none⟩) 2 2) := cells_at r7 2 _ rfl
    have d3 : w7.cell? ⟨w1.heap.size, 3, none⟩ = some (.slice pa pl.length pc) := cells_at r7 3 _ rfl
    clear rX lX lY hX hb7
    go_wp2_with fail
    refine (HE.out _ au rd (some ⟨w3.heap.size, 0, none⟩) 2 2 ([⟨some ⟨w1.heap.size + 1, 0, none⟩, 32, someL 1 1⟩, ⟨some ⟨w2.heap.size, 0, none⟩, 32, someL 1 1⟩] : List Part) pa pl.length pc pl 7 rfl rfl lX7 lY7 HFF.out).mono ?_
    rintro e w8 ⟨rfl, hb8⟩
    have r8 := (hb8.block _ (lt_of_heap r7)).trans r7
    have hW8 := hW7.trans (hb8.mono hW7.size)
    have lX8 := lX7.below hb8
    have lY8 := lY7.below hb8
    clear d0 d1 d2 d3
    have d0 : w8.cell? ⟨w1.heap.size, 0, none⟩ = some (.int .i64 au) := cells_at r8 0 _ rfl
    have d1 : w8.cell? ⟨w1.heap.size, 1, none⟩ = some (.int .i64 rd) := cells_at r8 1 _ rfl
    have d2 : w8.cell? ⟨w1.heap.size, 2, none⟩ = some (.slice (some ⟨w3.heap.size, 0, none⟩) 2 2) := cells_at r8 2 _ rfl
    have d3 : w8.cell? ⟨w1.heap.size, 3, none⟩ = some (.slice pa pl.length pc) := cells_at r8 3 _ rfl
    have hl8 : w1.heap.size < w8.heap.size := lt_of_heap r8
    have hlit := World.ownsRow_lit (base := w8.heap.size) (e := 3) (size := 1) w8 (iv [0, 1, 2]).toArray 3 (Nat.le_refl _) (by decide) rfl
    have hA8 : Below w8.heap.size w8 (w8.alloc (.cells (iv [0, 1, 2]).toArray 3)) := (Below.refl _ _).alloc (Nat.le_refl _) _
    obtain ⟨_, _, e9, _, hI8, _⟩ := intsAt_of_owns hlit
    cases e9
    have HI8 : Hid _ := hI8
    have HA8 : Hid _ := hA8
    clear hlit hI8 hA8 hb8
    go_wp2_with fail
    refine (HC.out _ au rd (some ⟨w3.heap.size, 0, none⟩) 2 2 ([⟨some ⟨w1.heap.size + 1, 0, none⟩, 32, someL 1 1⟩, ⟨some ⟨w2.heap.size, 0, none⟩, 32, someL 1 1⟩] : List Part) pa pl.length pc pl _ 3 [0, 1, 2] 7 rfl rfl rfl (lX8.below HA8.out) (lY8.below HA8.out) HI8.out HFF.out (by decide)).mono ?_
    rintro e w9 ⟨rfl, hb9⟩
    go_wp2_with fail
    go_ret
    exact ⟨rfl, (hW8.alloc hW8.size _).trans (hb9.mono (le_alloc hW8.size _))⟩
  · have hff : headerF au rd ([⟨some ⟨w1.heap.size + 1, 0, none⟩, 1, [1]⟩] : List Part) pl = 4 := by
      rw [headerF, if_neg (by omega), if_neg (by simp; omega), show digF ([⟨some ⟨w1.heap.size + 1, 0, none⟩, 1, [1]⟩] : List Part) = 4 by simp [digF, digTo1, digAt, partAt]]
      simp
    have HFF : Hid _ := hff
    clear hff
    go_wp2_with (go_at_call 20; refine (HPK.out _).mono ?_; rintro e w9 ⟨rfl, rfl⟩)
    have hB0 : Below w1.heap.size w1 (w1.alloc (.cells #[.int .i64 au, .int .i64 rd, .slice (some ⟨w1.heap.size + 2, 0, none⟩) 1 1, .slice pa pl.length pc] 33)) := (Below.refl _ _).alloc (Nat.le_refl _) _
    have hB1 : Below w1.heap.size w1 ((w1.alloc (.cells #[.int .i64 au, .int .i64 rd, .slice (some ⟨w1.heap.size + 2, 0, none⟩) 1 1, .slice pa pl.length pc] 33)).alloc (.cells #[.int .u8 1] 5)) := hB0.alloc (by simp) _
    have hB2 : Below w1.heap.size w1 (((w1.alloc (.cells #[.int .i64 au, .int .i64 rd, .slice (some ⟨w1.heap.size + 2, 0, none⟩) 1 1, .slice pa pl.length pc] 33)).alloc (.cells #[.int .u8 1] 5)).alloc (.cells #[.slice (some ⟨w1.heap.size + 1, 0, none⟩) 1 1] 25)) := hB1.alloc (by simp; omega) _
    have hSS : ∀ p ∈ ([⟨some ⟨w1.heap.size + 1, 0, none⟩, 1, [1]⟩] : List Part), SliceAt ((w1.alloc (.cells #[.int .i64 au, .int .i64 rd, .slice (some ⟨w1.heap.size + 2, 0, none⟩) 1 1, .slice pa pl.length pc] 33)).alloc (.cells #[.int .u8 1] 5)) p.sa p.cap p.bs := by
      intro p hp
      simp only [List.mem_cons, List.not_mem_nil, or_false] at hp
      subst hp
      have hlit := World.ownsRow_lit (base := 0) (e := 5) (size := 1) (w1.alloc (.cells #[.int .i64 au, .int .i64 rd, .slice (some ⟨w1.heap.size + 2, 0, none⟩) 1 1, .slice pa pl.length pc] 33)) (ub [1]).toArray 1 (Nat.zero_le _) (by decide) rfl
      have h9 := (sliceAt_of_owns hlit).2
      rw [size_alloc] at h9
      exact h9
    have hLit := listAt_lit _ _ hSS (by simp)
    rw [size_alloc, size_alloc] at hLit
    have rX : (((w1.alloc (.cells #[.int .i64 au, .int .i64 rd, .slice (some ⟨w1.heap.size + 2, 0, none⟩) 1 1, .slice pa pl.length pc] 33)).alloc (.cells #[.int .u8 1] 5)).alloc (.cells #[.slice (some ⟨w1.heap.size + 1, 0, none⟩) 1 1] 25)).heap[w1.heap.size]? = some (.cells #[.int .i64 au, .int .i64 rd, .slice (some ⟨w1.heap.size + 2, 0, none⟩) 1 1, .slice pa pl.length pc] 33 (0, 0)) := heap_keep (heap_keep (heap_alloc_new _ _))
    have lX : ListAt (((w1.alloc (.cells #[.int .i64 au, .int .i64 rd, .slice (some ⟨w1.heap.size + 2, 0, none⟩) 1 1, .slice pa pl.length pc] 33)).alloc (.cells #[.int .u8 1] 5)).alloc (.cells #[.slice (some ⟨w1.heap.size + 1, 0, none⟩) 1 1] 25)) (some ⟨w1.heap.size + 2, 0, none⟩) 1 ([⟨some ⟨w1.heap.size + 1, 0, none⟩, 1, [1]⟩] : List Part) := hLit
    have lY : ListAt (((w1.alloc (.cells #[.int .i64 au, .int .i64 rd, .slice (some ⟨w1.heap.size + 2, 0, none⟩) 1 1, .slice pa pl.length pc] 33)).alloc (.cells #[.int .u8 1] 5)).alloc (.cells #[.slice (some ⟨w1.heap.size + 1, 0, none⟩) 1 1] 25)) pa pc pl := hLp.below hB2
    have hX : Below w.heap.size w (((w1.alloc (.cells #[.int .i64 au, .int .i64 rd, .slice (some ⟨w1.heap.size + 2, 0, none⟩) 1 1, .slice pa pl.length pc] 33)).alloc (.cells #[.int .u8 1] 5)).alloc (.cells #[.slice (some ⟨w1.heap.size + 1, 0, none⟩) 1 1] 25)) := hW1.trans (hB2.mono hW1.size)
    refine (HD.out _ au rd (some ⟨w1.heap.size + 2, 0, none⟩) 1 1 ([⟨some ⟨w1.heap.size + 1, 0, none⟩, 1, [1]⟩] : List Part) pa pl.length pc pl 4 rfl rfl lX lY HFF.out (by decide)).mono ?_
    rintro e w7 ⟨rfl, hb7⟩
    have r7 := (hb7.block _ (lt_of_heap rX)).trans rX
    have hW7 := hX.trans (hb7.mono hX.size)
    have lX7 := lX.below hb7
    have lY7 := lY.below hb7
    have d0 : w7.cell? ⟨w1.heap.size, 0, none⟩ = some (.int .i64 au) := cells_at r7 0 _ rfl
    have d1 : w7.cell? ⟨w1.heap.size, 1, none⟩ = some (.int .i64 rd) := cells_at r7 1 _ rfl
    have d2 : w7.cell? ⟨w1.heap.size, 2, none⟩ = some (.slice (some ⟨w1.heap.size + 2, 0, none⟩) 1 1) := cells_at r7 2 _ rfl
    have d3 : w7.cell? ⟨w1.heap.size, 3, none⟩ = some (.slice pa pl.length pc) := cells_at r7 3 _ rfl
    clear rX lX lY hX hb7
    go_wp2_with fail
    refine (HE.out _ au rd (some ⟨w1.heap.size + 2, 0, none⟩) 1 1 ([⟨some ⟨w1.heap.size + 1, 0, none⟩, 1, [1]⟩] : List Part) pa pl.length pc pl 4 rfl rfl lX7 lY7 HFF.out).mono ?_
    rintro e w8 ⟨rfl, hb8⟩
    have r8 := (hb8.block _ (lt_of_heap r7)).trans r7
    have hW8 := hW7.trans (hb8.mono hW7.size)
    have lX8 := lX7.below hb8
    have lY8 := lY7.below hb8
    clear d0 d1 d2 d3
    have d0 : w8.cell? ⟨w1.heap.size, 0, none⟩ = some (.int .i64 au) := cells_at r8 0 _ rfl
    have d1 : w8.cell? ⟨w1.heap.size, 1, none⟩ = some (.int .i64 rd) := cells_at r8 1 _ rfl
    have d2 : w8.cell? ⟨w1.heap.size, 2, none⟩ = some (.slice (some ⟨w1.heap.size + 2, 0, none⟩) 1 1) := cells_at r8 2 _ rfl
    have d3 : w8.cell? ⟨w1.heap.size, 3, none⟩ = some (.slice pa pl.length pc) := cells_at r8 3 _ rfl
    have hl8 : w1.heap.size < w8.heap.size := lt_of_heap r8
    have hlit := World.ownsRow_lit (base := w8.heap.size) (e := 3) (size := 1) w8 (iv [0, 1, 2]).toArray 3 (Nat.le_refl _) (by decide) rfl
    have hA8 : Below w8.heap.size w8 (w8.alloc (.cells (iv [0, 1, 2]).toArray 3)) := (Below.refl _ _).alloc (Nat.le_refl _) _
    obtain ⟨_, _, e9, _, hI8, _⟩ := intsAt_of_owns hlit
    cases e9
    have HI8 : Hid _ := hI8
    have HA8 : Hid _ := hA8
    clear hlit hI8 hA8 hb8
    go_wp2_with fail
    refine (HC.out _ au rd (some ⟨w1.heap.size + 2, 0, none⟩) 1 1 ([⟨some ⟨w1.heap.size + 1, 0, none⟩, 1, [1]⟩] : List Part) pa pl.length pc pl _ 3 [0, 1, 2] 4 rfl rfl rfl (lX8.below HA8.out) (lY8.below HA8.out) HI8.out HFF.out (by decide)).mono ?_
    rintro e w9 ⟨rfl, hb9⟩
    go_wp2_with fail
    go_ret
    exact ⟨rfl, (hW8.alloc hW8.size _).trans (hb9.mono (le_alloc hW8.size _))⟩
  · have hff : headerF 4 rd bl pl = 2 := by rw [headerF, if_pos (by omega)]
    have HFF : Hid _ := hff
    clear hff
    go_wp2_with (go_at_call 20; refine (HPK.out _).mono ?_; rintro e w9 ⟨rfl, rfl⟩)
    have rX : (w1.alloc (.cells #[.int .i64 4, .int .i64 rd, .slice ba bl.length bc, .slice pa pl.length pc] 33)).heap[w1.heap.size]? = some (.cells #[.int .i64 4, .int .i64 rd, .slice ba bl.length bc, .slice pa pl.length pc] 33 (0, 0)) := heap_alloc_new _ _
    have lX : ListAt (w1.alloc (.cells #[.int .i64 4, .int .i64 rd, .slice ba bl.length bc, .slice pa pl.length pc] 33)) ba bc bl := hLb.below ((Below.refl _ _).alloc (Nat.le_refl _) _)
    have lY : ListAt (w1.alloc (.cells #[.int .i64 4, .int .i64 rd, .slice ba bl.length bc, .slice pa pl.length pc] 33)) pa pc pl := hLp.below ((Below.refl _ _).alloc (Nat.le_refl _) _)
    have hX : Below w.heap.size w (w1.alloc (.cells #[.int .i64 4, .int .i64 rd, .slice ba bl.length bc, .slice pa pl.length pc] 33)) := hW1.alloc hlw _
    refine (HD.out _ 4 rd ba bl.length bc bl pa pl.length pc pl 2 rfl rfl lX lY HFF.out (by decide)).mono ?_
    rintro e w7 ⟨rfl, hb7⟩
    have r7 := (hb7.block _ (lt_of_heap rX)).trans rX
    have hW7 := hX.trans (hb7.mono hX.size)
    have lX7 := lX.below hb7
    have lY7 := lY.below hb7
    have d0 : w7.cell? ⟨w1.heap.size, 0, none⟩ = some (.int .i64 4) := cells_at r7 0 _ rfl
    have d1 : w7.cell? ⟨w1.heap.size, 1, none⟩ = some (.int .i64 rd) := cells_at r7 1 _ rfl
    have d2 : w7.cell? ⟨w1.heap.size, 2, none⟩ = some (.slice ba bl.length bc) := cells_at r7 2 _ rfl
    have d3 : w7.cell? ⟨w1.heap.size, 3, none⟩ = some (.slice pa pl.length pc) := cells_at r7 3 _ rfl
    clear rX lX lY hX hb7
    go_wp2_with fail
    refine (HE.out _ 4 rd ba bl.length bc bl pa pl.length pc pl 2 rfl rfl lX7 lY7 HFF.out).mono ?_
    rintro e w8 ⟨rfl, hb8⟩
    have r8 := (hb8.block _ (lt_of_heap r7)).trans r7
    have hW8 := hW7.trans (hb8.mono hW7.size)
    have lX8 := lX7.below hb8
    have lY8 := lY7.below hb8
    clear d0 d1 d2 d3
    have d0 : w8.cell? ⟨w1.heap.size, 0, none⟩ = some (.int .i64 4) := cells_at r8 0 _ rfl
    have d1 : w8.cell? ⟨w1.heap.size, 1, none⟩ = some (.int .i64 rd) := cells_at r8 1 _ rfl
    have d2 : w8.cell? ⟨w1.heap.size, 2, none⟩ = some (.slice ba bl.length bc) := cells_at r8 2 _ rfl
    have d3 : w8.cell? ⟨w1.heap.size, 3, none⟩ = some (.slice pa pl.length pc) := cells_at r8 3 _ rfl
    have hl8 : w1.heap.size < w8.heap.size := lt_of_heap r8
    have hlit := World.ownsRow_lit (base := w8.heap.size) (e := 3) (size := 1) w8 (iv [0, 1, 2]).toArray 3 (Nat.le_refl _) (by decide) rfl
    have hA8 : Below w8.heap.size w8 (w8.alloc (.cells (iv [0, 1, 2]).toArray 3)) := (Below.refl _ _).alloc (Nat.le_refl _) _
    obtain ⟨_, _, e9, _, hI8, _⟩ := intsAt_of_owns hlit
    cases e9
    have HI8 : Hid _ := hI8
    have HA8 : Hid _ := hA8
    clear hlit hI8 hA8 hb8
    go_wp2_with fail
    refine (HC.out _ 4 rd ba bl.length bc bl pa pl.length pc pl _ 3 [0, 1, 2] 2 rfl rfl rfl (lX8.below HA8.out) (lY8.below HA8.out) HI8.out HFF.out (by decide)).mono ?_
    rintro e w9 ⟨rfl, hb9⟩
    go_wp2_with fail
    go_ret
    exact ⟨rfl, (hW8.alloc hW8.size _).trans (hb9.mono (le_alloc hW8.size _))⟩
end Go.Proofs.YtcecjdoabnhcgaaDoor

namespace Go.Proofs.YtcecjdoabnhcgaaDoor
open Go.RowKit

set_option maxRecDepth 100000 in
/-- An array of arrays of integers that reads as a table of rows holds the rows' numbers, cell for cell. -/
theorem cells_of_tab2 {H : Type} {enc : TypeId × Value → H} {P : Program} {w : World} {base : Nat} {sp : Nat → Bool} {held : Bool} {fuel : Nat} {t e i : TypeId} {n m : Nat} {k : IntKind} {cs : List Value} {rows : List (List Int)} {p : List MemPlace}
    (ht : P.underlying t = some (.array n e)) (he : P.underlying e = some (.array m i)) (hi : P.underlying i = some (.int k)) (hci : P.cellsOf i = 1) (hce : P.cellsOf e = m) (hm : 0 < m)
    (h : DataW.trod enc P w base sp held fuel t cs = some (.agg (rows.map (Lib.tabData k)), p)) (q : Nat) (hq : q < n * m) : cs[q]? = ((rows.getD (q / m) []).map (Value.int k))[q % m]? := by
  obtain ⟨xs, f, rfl, hx, hl, hn, hr⟩ := DataW.trod_array ht h
  have hin : q / m < n := Nat.div_lt_of_lt_mul (by rw [Nat.mul_comm]; exact hq)
  have hrow := hr (q / m) hin
  have hxs : xs.map (·.1) = rows.map (Lib.tabData k) := by
    have := congrArg Prod.fst hx
    simpa using this.symm
  have hg : (xs.map (·.1))[q / m]? = some (xs[q / m]'(by omega)).1 := by simp [hn, hin]
  rw [hxs] at hg
  simp only [List.getElem?_map, Option.map_eq_some_iff] at hg
  obtain ⟨r, hr1, hr2⟩ := hg
  rw [List.getElem?_eq_getElem (by omega), hce] at hrow
  have hrow' : DataW.trod enc P w base sp held f e ((cs.drop (q / m * m)).take m) = some (Lib.tabData k r, (xs[q / m]'(by omega)).2) := by
    rw [hrow, hr2]
  have hc := Lib.cells_of_tab he hi hci hce hrow'
  have hj : q % m < m := Nat.mod_lt _ hm
  have e1 : ((cs.drop (q / m * m)).take m)[q % m]? = cs[q]? := by
    rw [List.getElem?_take, if_pos hj, List.getElem?_drop, Nat.mul_comm, Nat.div_add_mod]
  rw [← e1, hc]
  simp [List.getD, hr1]

set_option maxRecDepth 100000 in
theorem tFirst : (Tryd.prog.globals[0]?).map (·.type) = some 85 := by kernel_rfl
set_option maxRecDepth 100000 in
theorem tOrders : (Tryd.prog.globals[1]?).map (·.type) = some 101 := by kernel_rfl
set_option maxRecDepth 100000 in
theorem tLanes : (Tryd.prog.globals[2]?).map (·.type) = some 103 := by kernel_rfl
set_option maxRecDepth 100000 in
theorem cU32 : Tryd.prog.cellsOf 84 = 1 := by kernel_rfl
set_option maxRecDepth 100000 in
theorem c8U32 : Tryd.prog.cellsOf 85 = 8 := by kernel_rfl
set_option maxRecDepth 100000 in
theorem c16U8 : Tryd.prog.cellsOf 100 = 16 := by kernel_rfl
set_option maxRecDepth 100000 in
theorem c4U8 : Tryd.prog.cellsOf 102 = 4 := by kernel_rfl
def ordRows : List (List Int) := [[0, 1, 2, 3, 4, 5, 6, 7, 8, 9, 10, 11, 12, 13, 14, 15], [14, 10, 4, 8, 9, 15, 13, 6, 1, 12, 0, 2, 11, 7, 5, 3], [11, 8, 12, 0, 5, 2, 15, 13, 10, 14, 3, 6, 7, 1, 9, 4], [7, 9, 3, 1, 13, 12, 11, 14, 2, 6, 5, 10, 4, 0, 15, 8], [9, 0, 5, 7, 2, 4, 10, 15, 14, 1, 11, 12, 6, 8, 3, 13], [2, 12, 6, 10, 0, 11, 8, 3, 4, 13, 7, 5, 15, 14, 1, 9], [12, 5, 1, 15, 14, 13, 4, 10, 0, 7, 6, 3, 9, 2, 8, 11], [13, 11, 7, 14, 12, 1, 3, 9, 5, 0, 15, 4, 8, 6, 2, 10], [6, 15, 14, 9, 11, 3, 0, 8, 12, 2, 13, 7, 1, 4, 10, 5], [10, 2, 8, 4, 7, 6, 1, 5, 15, 11, 9, 14, 3, 12, 13, 0]]
def laneRows : List (List Int) := [[0, 4, 8, 12], [1, 5, 9, 13], [2, 6, 10, 14], [3, 7, 11, 15], [0, 5, 10, 15], [1, 6, 11, 12], [2, 7, 8, 13], [3, 4, 9, 14]]
set_option maxRecDepth 100000 in
theorem ordRows_flat : ∀ q, q < 160 → (ordRows.getD (q / 16) [])[q % 16]? = some ((ordF.getD q 0 : Nat) : Int) := by decide +kernel
set_option maxRecDepth 100000 in
theorem laneRows_flat : ∀ q, q < 32 → (laneRows.getD (q / 4) [])[q % 4]? = some ((laneF.getD q 0 : Nat) : Int) := by decide +kernel
set_option maxRecDepth 100000 in
theorem dFirst : Rows.laid_sheaves_blake_firstWords (H := Unit) = Lib.tabData .u32 fw := rfl
set_option maxRecDepth 100000 in
theorem dOrders : Rows.laid_sheaves_blake_orders (H := Unit) = .agg (ordRows.map (Lib.tabData .u8)) := rfl
set_option maxRecDepth 100000 in
theorem dLanes : Rows.laid_sheaves_blake_lanes (H := Unit) = .agg (laneRows.map (Lib.tabData .u8)) := rfl

set_option maxRecDepth 100000 in
theorem tabs_of_laid {W : World} {n1 n2 n3 : String} (gFirst : Tryd.prog.globalNamed n1 = some 0) (gOrders : Tryd.prog.globalNamed n2 = some 1) (gLanes : Tryd.prog.globalNamed n3 = some 2)
    (h : laidMetH Tryd.prog [(n1, Rows.laid_sheaves_blake_firstWords), (n2, Rows.laid_sheaves_blake_orders), (n3, Rows.laid_sheaves_blake_lanes)] W) : Tabs W := by
  have h1 : laidMet Tryd.prog [(n1, Rows.laid_sheaves_blake_firstWords), (n2, Rows.laid_sheaves_blake_orders), (n3, Rows.laid_sheaves_blake_lanes)] W := h
  clear h
  have h2 := h1.tail
  have h3 := h2.tail
  rw [dFirst] at h1
  rw [dOrders] at h2
  rw [dLanes] at h3
  have t1 := Lib.tabIs_of_head gFirst tFirst Tryd.underlying85 Tryd.underlying84 cU32 c8U32 h1
  refine ⟨fun i hi => t1.cell gFirst i hi, fun i hi => ?_, fun i hi => ?_⟩
  · obtain ⟨ps, ⟨g', t', cs, fuel, p, q, hg', ht', hvar, hd, _, _⟩, _⟩ := h2
    obtain rfl := Option.some.inj (gOrders.symm.trans hg')
    obtain rfl := Option.some.inj (tOrders.symm.trans ht')
    have hc := World.var?_cell gOrders hvar i
    have he := cells_of_tab2 Tryd.underlying101 Tryd.underlying100 Tryd.underlying5 cU8 c16U8 (by decide) hd i hi
    rw [hc]
    have := ordRows_flat i hi
    simp only [List.getElem?_map, this, Option.map_some] at he
    simpa using he
  · obtain ⟨ps, ⟨g', t', cs, fuel, p, q, hg', ht', hvar, hd, _, _⟩, _⟩ := h3
    obtain rfl := Option.some.inj (gLanes.symm.trans hg')
    obtain rfl := Option.some.inj (tLanes.symm.trans ht')
    have hc := World.var?_cell gLanes hvar i
    have he := cells_of_tab2 Tryd.underlying103 Tryd.underlying102 Tryd.underlying5 cU8 c4U8 (by decide) hd i hi
    rw [hc]
    have := laneRows_flat i hi
    simp only [List.getElem?_map, this, Option.map_some] at he
    simpa using he
end Go.Proofs.YtcecjdoabnhcgaaDoor

namespace Go.Proofs.YtcecjdoabnhcgaaDoor
open Go.ChangeShapes Go.WideShapes Go.ChangeAt Go.RowKit

/-- What the initialisers of the three tables lay, in the first blocks. -/
def layBlock (c : Array Value) : Obj → Obj
  | .cells _ t frozen => .cells c t frozen
  | o => o
def layTabs (w : World) : World :=
  { w with heap := ((w.heap.modify 0 (layBlock (ua fw))).modify 1 (layBlock (ub (ordF.map Int.ofNat)).toArray)).modify 2 (layBlock (ub (laneF.map Int.ofNat)).toArray) }
end Go.Proofs.YtcecjdoabnhcgaaDoor

namespace Go.Proofs.YtcecjdoabnhcgaaDoor.headerBad
open Go.ChangeShapes Go.WideShapes Go.ChangeAt Go.RowKit

set_option maxRecDepth 100000 in
/-- What the walk gives, for every argument and every world that holds the tables. -/
theorem contract (H : Type) (enc : TypeId × Value → H) (W : World) (base : Nat) (args : Array Value) (ds gs : List (DataW H)) (before : List MemPlace)
    (hval : ∀ (j : Nat) t v, Tryd.f6.params[j]? = some t → args[j]? = some v → Value.okWide Tryd.prog W .any base t v)
    (hW : DataW.Whole enc Tryd.prog Tryd.f6.params.toList Rows.headerBadSpec.vars false W args.toList ds gs before) (hsz : (DataW.weightsEach Tryd.prog (Tryd.f6.params.toList ++ (OpenSpec.ofChange Rows.headerBadSpec).bare.plain.varTypes Tryd.prog) (ds ++ gs)).all (· ≤ reachBytes) = true) (hL : laidMetH Tryd.prog Rows.headerBadRow.laid W) :
    Calls Tryd.prog 6 args W fun e W' => ∃ v, e = .returned v ∧ Rows.headerBadSpec.post enc Tryd.prog Tryd.f6 false true false false W args v W' := by
  have hW' := hW
  obtain ⟨p, q, hA0, hV, rfl, hfz, hnd⟩ := hW
  have hA : DataW.TrodAll enc Tryd.prog W 0 (fun _ => true) true Tryd.f6.params.toList args.toList ds p := hA0
  rw [Tryd.params6] at hA hval hsz
  obtain ⟨v0, vs0, d0, ds0, p0, q0, hargs, rfl, rfl, h0, r0⟩ := trodAll_cons hA
  obtain ⟨v1, vs1, d1, ds1, p1, q1, rfl, rfl, rfl, h1, r1⟩ := trodAll_cons r0
  obtain ⟨rfl, rfl, rfl⟩ := trodAll_nil r1
  obtain rfl : args = #[v0, v1] := by cases args; simp_all
  obtain ⟨rfl, rfl⟩ := trodVars_none hV
  have k0 := h0
  have lt0 : ∀ x ∈ p0, x.block < W.heap.size := by obtain ⟨m, hm⟩ := k0; exact DataW.trod_lt m _ _ _ hm
  obtain ⟨ki0, ra0, rb0, rc0, sa0, cap0, ss0, rfl, q0_0, q0_1, q0_2, q0_3, q0_4⟩ := open_raw (hval 0 39 v0 rfl rfl) h0 (fit_each hsz (j := 0) rfl rfl)
  obtain ⟨a1, rfl, rfl, rfl, w1⟩ := open_int Tryd.underlying3 (hval 1 3 v1 rfl rfl) h1
  obtain ⟨lo1, hi1⟩ := bounds_i64 w1
  clear hA0
  have hT : Tabs W := tabs_of_laid (by kernel_rfl) (by kernel_rfl) (by kernel_rfl) hL
  refine (headerBad_walk ki0 ra0 rb0 rc0 sa0 cap0 ss0 a1 W q0_0 q0_1 q0_2 q0_3 q0_4 lo1 hi1 hT).mono fun e W' ⟨he, bel⟩ => ?_
  subst he
  exact ⟨_, rfl, _, _, _, [], _, [], hW', trodAll_mk1 (shut_bool Tryd.underlying4 _), (trodAll_cons_mk (Below.trod laidOut (by kernel_rfl) (of_decide_eq_true (by kernel_rfl)) k0 bel lt0) (trodAll_cons_mk (shut_int Tryd.underlying3 w1) trodAll_mk0)), rfl, bel.frame _, fun h => by cases h⟩

set_option maxRecDepth 100000 in
theorem laid_met (os : Os) : laidMet Tryd.prog Rows.headerBadRow.laid ((layTabs (World.holding Tryd.prog os ⟨#[], #[], []⟩)).forCall (fun _ _ => 0) ⟨#[], #[.agg #[.int .i64 0, .int .i64 0, .int .i64 0, .int .i64 0, .slice none 0 0], .int .i64 0], []⟩).memory :=
  laidMet_of_run' 8 (by kernel_rfl) (by kernel_rfl)
set_option maxRecDepth 100000 in
theorem reads (os : Os) {H : Type} (enc : TypeId × Value → H) : ∃ places, DataW.whole enc Tryd.prog ((layTabs (World.holding Tryd.prog os ⟨#[], #[], []⟩)).forCall (fun _ _ => 0) ⟨#[], #[.agg #[.int .i64 0, .int .i64 0, .int .i64 0, .int .i64 0, .slice none 0 0], .int .i64 0], []⟩).memory Tryd.f6.params.toList Rows.headerBadSpec.vars false (#[.agg #[.int .i64 0, .int .i64 0, .int .i64 0, .int .i64 0, .slice none 0 0], .int .i64 0] : Array Value).toList 8 = some ([.agg [.lit (.int .i64 0), .lit (.int .i64 0), .lit (.int .i64 0), .lit (.int .i64 0), .nil], .lit (.int .i64 0)], [], places) :=
  ⟨[], by kernel_rfl⟩

set_option maxRecDepth 100000 in
theorem lifted (os : Os) (started : os.Started) (H : Type) (enc : TypeId × Value → H) (F : Stop.Interp) :
    ReturnsInHanded {} Tryd.checked os 6 .any ((OpenSpec.ofChange Rows.headerBadSpec).preRow enc Tryd.prog Tryd.f6 Rows.headerBadRow.domain false Rows.headerBadRow.laid) (((OpenSpec.ofChange Rows.headerBadSpec).at F).post enc Tryd.prog Tryd.f6 false true false false) := by
  obtain ⟨places, hx⟩ := reads os enc
  refine returnsInHanded_of_row (C := Tryd.checked) (s := OpenSpec.ofChange Rows.headerBadSpec) own started (by kernel_rfl) Tryd.func6
    (witness_row_at (enc := enc) (C := Tryd.checked) false (layTabs (World.holding Tryd.prog os ⟨#[], #[], []⟩)) #[.agg #[.int .i64 0, .int .i64 0, .int .i64 0, .int .i64 0, .slice none 0 0], .int .i64 0] rfl (by kernel_rfl) (by kernel_rfl) (by kernel_rfl)
      (OpenSpec.preRow_of_cond 8 hx (by kernel_rfl) (fun k hk => by cases hk) (by kernel_rfl) (laid_met os))) ?_
  intro W base args ds gs before hval hW _ _ hsz hL _ _
  exact contract H enc W base args ds gs before hval hW hsz hL

set_option maxRecDepth 100000 in
theorem said : Rows.HeaderBadSaid :=
  OpenClaim.holds_of_cond 6 Tryd.f6 rfl rfl rfl rfl rfl rfl rfl ⟨rfl, rfl, rfl, rfl, rfl⟩ rfl rfl rfl rfl rfl (by kernel_rfl) Tryd.func6 (by kernel_rfl)
    (of_decide_eq_true (by kernel_rfl)) (by unfold Func.isWrapper; first | (rw [if_pos (by decide +kernel)]; kernel_rfl) | (rw [if_neg (by decide +kernel)]; exact ⟨rfl, rfl⟩))
    (fun os started H enc _ F => by rw [OpenClaim.pre_eq_preRow]; exact lifted os started H enc F)

set_option maxRecDepth 100000 in
theorem plain (f : FuncId) (fn : Func) (hf : Tryd.pinned.checked.prog.funcNamed Rows.headerBadRow.func = some f) (hfn : Tryd.pinned.checked.prog.funcs[f]? = some fn) :
    false = Tryd.pinned.checked.prog.looks [] ∧ ∀ (j : Nat) t, fn.params[j]? = some t → Tryd.pinned.checked.prog.wantsStandIn t = false := by
  obtain rfl : f = 6 := Option.some.inj ((show Tryd.prog.funcNamed Rows.headerBadRow.func = some 6 by kernel_rfl).symm.trans hf) |>.symm
  obtain rfl : fn = Tryd.f6 := (Option.some.inj (Tryd.func6.symm.trans hfn)).symm
  refine ⟨by kernel_rfl, fun j t ht => ?_⟩
  rw [Tryd.params6] at ht
  have hm : t = 39 ∨ t = 3 := by simpa using Array.mem_of_getElem? ht
  rcases hm with rfl | rfl
  · exact (show Tryd.prog.wantsStandIn 39 = false by kernel_rfl)
  · exact (show Tryd.prog.wantsStandIn 3 = false by kernel_rfl)

set_option maxRecDepth 100000 in
/-- THE CARD. -/
theorem card : Rows.HeaderBadCardSaid :=
  Claim7.holds_tied_plain_at .later [] _ _ _ _ said (fun _ h => by cases h) (by kernel_rfl) (fun _ h => by cases h) headerBad_row_tie rfl ⟨rfl, rfl⟩ (by kernel_rfl) rfl plain (by kernel_rfl)
end Go.Proofs.YtcecjdoabnhcgaaDoor.headerBad
namespace Go.Proofs.YtcecjdoabnhcgaaDoor
set_option maxRecDepth 100000 in
theorem headerBad_holds : Rows.HeaderBadCardSaid := headerBad.card
#print axioms headerBad_holds
end Go.Proofs.YtcecjdoabnhcgaaDoor
