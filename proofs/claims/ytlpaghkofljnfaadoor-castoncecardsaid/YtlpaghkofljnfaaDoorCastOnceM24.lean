/- The law sheaveskeep.CastOnce answers true for every argument, and each argument reads behind the call as it read before: the tied card. Its conditions: the three tables of package blake hold what the program's text lays (the card ties that); the form's own reach. -/
import Derived.Test.YtlpaghkofljnfaaDoorCastOnceM18
import Derived.Test.YtlpaghkofljnfaaDoorGrew
import Derived.Test.YtlpaghkofljnfaaDoorOwnL
import Derived.Test.YtlpaghkofljnfaaDoorCastOnceM12
import Derived.Test.YtlpaghkofljnfaaDoorRows
import Derived.Test.YtlpaghkofljnfaaDoorK
import Derived.Test.YtlpaghkofljnfaaDoorCastOnceM0
import Derived.Lib.LaidTab
import Derived.OpenShut
import Derived.Stop.LaidErr
import Derived.Test.YtlpaghkofljnfaaDoorLib
import Derived.ProofKit
import Derived.Test.YtlpaghkofljnfaaDoorCards
import Derived.Test.YtlpaghkofljnfaaDoorTie
import Derived.WalkKit
import Derived.Deep.DeepHandedRow
import Derived.SevenTiedAt
import Derived.Below
namespace Go.Proofs.YtlpaghkofljnfaaDoor
open Go.RowKit

/-- The blocks that a header's lists lie in. -/
def HdIn (c : Hd) (b : Nat) : Prop := (∃ so, c.ba = some ⟨b, so, none⟩) ∨ (∃ so, c.pa = some ⟨b, so, none⟩) ∨ (∃ p, p ∈ c.bl ++ c.pl ∧ p.bs ≠ [] ∧ ∃ so, p.sa = some ⟨b, so, none⟩)
set_option maxRecDepth 100000 in
theorem slice_keepH {w w' : World} {sa : Option Addr} {cap : Nat} {bs : List Int} (h : SliceAt w sa cap bs) (hk : ∀ b so, bs ≠ [] → sa = some ⟨b, so, none⟩ → w'.heap[b]? = w.heap[b]?) : SliceAt w' sa cap bs := by
  refine ⟨h.le, h.max, h.some, h.nil, ?_⟩
  rcases h.bytes with hc | ⟨sb, so, e, hc⟩
  · exact .inl hc
  · by_cases hn : bs = []
    · exact .inl hn
    · exact .inr ⟨sb, so, e, fun k hk' => (World.cell?_of_block (hk sb so hn e)).trans (hc k hk')⟩
set_option maxRecDepth 100000 in
theorem slice_ltH {w : World} {sa : Option Addr} {cap : Nat} {bs : List Int} (h : SliceAt w sa cap bs) (hn : bs ≠ []) (b so : Nat) (e : sa = some ⟨b, so, none⟩) : b < w.heap.size := by
  rcases h.bytes with hc | ⟨sb, so', e', hc⟩
  · exact absurd hc hn
  · rw [e] at e'
    cases e'
    exact block_lt_of_cell (hc 0 (by cases bs with | nil => exact absurd rfl hn | cons a l => simp))
set_option maxRecDepth 100000 in
theorem list_keepH {w w' : World} {sa : Option Addr} {cap : Nat} {ps : List Part} (h : ListAt w sa cap ps) (hr : ∀ b so, sa = some ⟨b, so, none⟩ → w'.heap[b]? = w.heap[b]?) (hp : ∀ p, p ∈ ps → ∀ b so, p.bs ≠ [] → p.sa = some ⟨b, so, none⟩ → w'.heap[b]? = w.heap[b]?) : ListAt w' sa cap ps := by
  refine ⟨h.le, h.max, h.small, h.some, ⟨?_, fun p hm => slice_keepH (h.parts.each p hm) (hp p hm)⟩⟩
  rcases h.parts.cells with hc | ⟨sb, so, e, hc⟩
  · exact .inl hc
  · exact .inr ⟨sb, so, e, fun k hk => (World.cell?_of_block (hr sb so e)).trans (hc k hk)⟩
set_option maxRecDepth 100000 in
theorem HdAt.keep {w w' : World} {c : Hd} (h : HdAt w c) (hs : w.heap.size ≤ w'.heap.size) (hk : ∀ b, HdIn c b → w'.heap[b]? = w.heap[b]?) : HdAt w' c :=
  ⟨⟨list_keepH h.hat.lb (fun b so e => hk b (.inl ⟨so, e⟩)) (fun p hp b so hn e => hk b (.inr (.inr ⟨p, List.mem_append_left _ hp, hn, so, e⟩))), list_keepH h.hat.lp (fun b so e => hk b (.inr (.inl ⟨so, e⟩))) (fun p hp b so hn e => hk b (.inr (.inr ⟨p, List.mem_append_right _ hp, hn, so, e⟩))), fun sb so e => Nat.lt_of_lt_of_le (h.hat.rb sb so e) hs, fun sb so e => Nat.lt_of_lt_of_le (h.hat.rp sb so e) hs⟩, h.ok, h.bu, h.pu⟩
set_option maxRecDepth 100000 in
theorem HdAt.block_lt {w : World} {c : Hd} (h : HdAt w c) (b : Nat) (hb : HdIn c b) : b < w.heap.size := by
  rcases hb with ⟨so, e⟩ | ⟨so, e⟩ | ⟨p, hp, hn, so, e⟩
  · exact h.hat.rb b so e
  · exact h.hat.rp b so e
  · rcases List.mem_append.1 hp with hp | hp
    · exact slice_ltH (h.hat.lb.parts.each p hp) hn b so e
    · exact slice_ltH (h.hat.lp.parts.each p hp) hn b so e
/-- Headers, each apart from the row v. -/
def ApartH (w : World) (v : Value) (ks : List Hd) : Prop := ∀ c ∈ ks, HdAt w c ∧ ∀ b, HdIn c b → v.ownBlock ≠ some b
set_option maxRecDepth 100000 in
theorem ApartH.more {w w2 w3 : World} {B : Nat} {v v1 : Value} {ks : List Hd} {c : Hd} {o : Obj} {n sz : Nat} {e : TypeId} {xs : List Value} (h : ApartH w v ks) (ho : w.ownsRow B e sz v n xs) (hb2 : Below w.heap.size w w2)
    (hc : ∀ b, HdIn c b → w.heap.size ≤ b) (hs2 : HdAt w2 c) (G : Grew (w2.alloc o) v w3 v1) : ApartH w3 v1 (ks ++ [c]) := by
  have hA : Below w2.heap.size w2 (w2.alloc o) := (Below.refl _ _).alloc (Nat.le_refl _) _
  have hsz : w2.heap.size < (w2.alloc o).heap.size := by rw [size_alloc]; omega
  have h3 := G.grown.size
  have h2 := hb2.size
  intro d hd
  rcases List.mem_append.1 hd with hd | hd
  · obtain ⟨hs, ha⟩ := h d hd
    have hs' := (hs.below hb2).below hA
    refine ⟨hs'.keep h3 (fun b hb => G.grown.block b (hs'.block_lt b hb) (fun e => ha b hb e.symm)), fun b hb hv => ?_⟩
    have := hs.block_lt b hb
    rcases G.fresh b hv with g | g
    · exact ha b hb g
    · omega
  · obtain rfl : d = c := by simpa using hd
    have hne : ∀ b, HdIn d b → v.ownBlock ≠ some b := fun b hb hv => by
      have h1 := (ho.lt b hv).2
      have h2 := hc b hb
      omega
    have hs' := hs2.below hA
    refine ⟨hs'.keep h3 (fun b hb => G.grown.block b (hs'.block_lt b hb) (fun e => hne b hb e.symm)), fun b hb hv => ?_⟩
    have := hs2.block_lt b hb
    rcases G.fresh b hv with g | g
    · exact hne b hb g
    · omega
set_option maxRecDepth 100000 in
theorem infoHd : (Tryd.prog.info? 31).map (fun i => (i.zero, i.size, i.bytes)) = some (some (.agg #[.int .i64 0, .int .i64 0, .slice none 0 0, .slice none 0 0]), 4, 64) := by kernel_rfl
def Hd.cs (c : Hd) : List Value := [.int .i64 c.au, .int .i64 c.rd, .slice c.ba c.bl.length c.bc, .slice c.pa c.pl.length c.pc]
def hdv : List Hd → List Value
  | [] => []
  | s :: r => s.cs ++ hdv r
set_option maxRecDepth 100000 in
theorem hdv_snoc (ls : List Hd) (s : Hd) : hdv (ls ++ [s]) = hdv ls ++ s.cs := by
  induction ls with
  | nil => simp [hdv]
  | cons x r ih => simp [hdv, ih]
set_option maxRecDepth 100000 in
theorem hdv_length (ls : List Hd) : (hdv ls).length = ls.length * 4 := by
  induction ls with
  | nil => rfl
  | cons x r ih => simp [hdv, ih, Hd.cs]; omega
set_option maxRecDepth 100000 in
theorem hdv_get (ls : List Hd) (j i : Nat) (h : j < ls.length) (hi : i < 4) : (hdv ls)[j * 4 + i]? = (ls[j]).cs[i]? := by
  induction ls generalizing j with
  | nil => cases h
  | cons x r ih =>
    cases j with
    | zero => simp only [hdv, Nat.zero_mul, Nat.zero_add, List.getElem_cons_zero]; rw [List.getElem?_append_left (by simp [Hd.cs]; exact hi)]
    | succ j =>
      have h' : j < r.length := by simpa using h
      simp only [hdv, List.getElem_cons_succ]
      rw [List.getElem?_append_right (by simp [Hd.cs]; omega), ← ih j h']
      congr 1
      simp [Hd.cs]; omega
set_option maxRecDepth 100000 in
theorem hs_of_owns {w : World} {base n : Nat} {v : Value} {ls : List Hd} (h : w.ownsRow base 31 4 v n (hdv ls)) (ha : ApartH w v ls) : ∃ ra rc, v = .slice ra n rc ∧ n = ls.length ∧ HsAt w ra ls := by
  have hl : n = ls.length := by have := h.1; rw [hdv_length] at this; omega
  rcases h.2 with ⟨rfl, hn⟩ | ⟨g, cap, cur, rfl, hr⟩
  · have hb : ls = [] := List.eq_nil_of_length_eq_zero (by omega)
    subst hn hb
    exact ⟨none, 0, rfl, rfl, ⟨.inl rfl, fun p hp => by cases hp⟩⟩
  · refine ⟨some ⟨g, 0, none⟩, cap, rfl, hl, ⟨.inr ⟨g, 0, rfl, fun j hj => ?_⟩, fun s hs => (ha s hs).1⟩⟩
    have e : ∀ i, i < 4 → w.cell? ⟨g, 0 + j * 4 + i, none⟩ = (hdAt ls j).cs[i]? := fun i hi => by
      rw [show 0 + j * 4 + i = j * 4 + i by omega, World.ownsRow.cellAt h (j * 4 + i) (by omega), hdv_get ls j i hj hi, hdAt_get ls j hj]
    exact ⟨e 0 (by omega), e 1 (by omega), e 2 (by omega), e 3 (by omega)⟩
set_option maxRecDepth 100000 in
theorem hd_one (c : Hd) : ∀ u ∈ c.cs, u.oneCell' = true := by
  intro u hu
  simp [Hd.cs] at hu
  rcases hu with rfl | rfl | rfl | rfl <;> rfl
end Go.Proofs.YtlpaghkofljnfaaDoor

namespace Go.Proofs.YtlpaghkofljnfaaDoor
open Go.RowKit

set_option maxRecDepth 100000 in
theorem bats_u8 {bl : List Part} {c : Int} (h : bl.map (·.bs) = hBats c) : ∀ p ∈ bl, ∀ x ∈ p.bs, 0 ≤ x ∧ x ≤ 255 := by
  intro p hp
  have h1 : p.bs ∈ hBats c := by rw [← h]; exact List.mem_map.2 ⟨p, hp, rfl⟩
  rw [hBats] at h1
  obtain ⟨i, _, e⟩ := List.mem_map.1 h1
  rw [← e]; exact someL_u8 _ _
set_option maxRecDepth 100000 in
theorem pars_u8 {pl : List Part} {a b c : Int} (h : pl.map (·.bs) = hPars a b c) : ∀ p ∈ pl, ∀ x ∈ p.bs, 0 ≤ x ∧ x ≤ 255 := by
  intro p hp
  have h1 : p.bs ∈ hPars a b c := by rw [← h]; exact List.mem_map.2 ⟨p, hp, rfl⟩
  rw [hPars] at h1
  by_cases q : pk b 9 = 0
  · rw [if_pos q] at h1; cases h1
  · rw [if_neg q] at h1
    obtain ⟨i, _, e⟩ := List.mem_map.1 h1
    rw [← e]; exact someL_u8 _ _
set_option maxRecDepth 100000 in
theorem hd_raw {w : World} {r : Rw} {ba pa : Option Addr} {bc pc : Nat} {bl pl : List Part} (hH : HAt w ba bc bl pa pc pl) (hb : bl.map (·.bs) = hBats r.c) (hp : pl.map (·.bs) = hPars r.a r.b r.c) : HdAt w ⟨pk r.a 4, 1 + pk r.b 9, ba, bc, bl, pa, pc, pl⟩ :=
  ⟨hH, headerF_raw r.a r.b r.c bl pl hb hp, bats_u8 hb, pars_u8 hp⟩
set_option maxRecDepth 100000 in
theorem hd_oth {w : World} {r : Rw} {SZ NB : Nat} {nn : Int} {pa : Option Addr} {pc : Nat} {bl pl : List Part} (hH : HAt w (some ⟨SZ, 0, none⟩) 1 (oBl NB nn) pa pc pl) (hb : bl.map (·.bs) = hBats r.c) (hp : pl.map (·.bs) = hPars r.a r.b r.c) : HdAt w ⟨pk r.a 4, 1 + pk r.b 9, some ⟨SZ, 0, none⟩, 1, oBl NB nn, pa, pc, pl⟩ := by
  refine ⟨hH, oBl_ok NB nn (headerF_raw r.a r.b r.c bl pl hb hp), fun p hq => ?_, pars_u8 hp⟩
  have : p = ⟨some ⟨NB, 0, none⟩, 32, someL nn 200⟩ := by simpa [oBl] using hq
  subst this
  exact someL_u8 _ _
set_option maxRecDepth 100000 in
theorem hd_new {r : Rw} {B : Nat} {ba pa : Option Addr} {bc pc : Nat} {bl pl : List Part} (h1 : Fresh B ba bl) (h2 : Fresh B pa pl) : ∀ b, HdIn ⟨pk r.a 4, 1 + pk r.b 9, ba, bc, bl, pa, pc, pl⟩ b → B ≤ b := by
  intro b hb
  rcases hb with ⟨so, e⟩ | ⟨so, e⟩ | ⟨p, hp, _, so, e⟩
  · exact h1.row b so e
  · exact h2.row b so e
  · rcases List.mem_append.1 hp with g | g
    · exact h1.each p g b so e
    · exact h2.each p g b so e
set_option maxRecDepth 100000 in
theorem apart_two {X : World} {x y : Hd} {o : Obj} (hx : HdAt X x) (hy : HdAt X y) (n m : Nat) : ApartH (X.alloc o) (.slice (some ⟨X.heap.size, 0, none⟩) n m) [x, y] := by
  have hA : Below X.heap.size X (X.alloc o) := (Below.refl _ _).alloc (Nat.le_refl _) _
  intro c hc
  have hc' : c = x ∨ c = y := by simpa using hc
  rcases hc' with rfl | rfl
  · exact ⟨hx.below hA, fun b hb e => by have := hx.block_lt b hb; simp [Value.ownBlock] at e; omega⟩
  · exact ⟨hy.below hA, fun b hb e => by have := hy.block_lt b hb; simp [Value.ownBlock] at e; omega⟩
set_option maxRecDepth 100000 in
theorem un_like {r : Rw} {SZ NB : Nat} {nn : Int} {ba pa : Option Addr} {bc pc : Nat} {bl pl : List Part} (hb : bl.map (·.bs) = hBats r.c) : unlike ⟨pk r.a 4, 1 + pk r.b 9, some ⟨SZ, 0, none⟩, 1, oBl NB nn, pa, pc, pl⟩ ⟨pk r.a 4, 1 + pk r.b 9, ba, bc, bl, pa, pc, pl⟩ := by
  rintro ⟨_, _, h, _⟩
  have h1 : bsOf (oBl NB nn) = [someL nn 200] := by simp [bsOf, oBl]
  have h2 : bsOf bl = hBats r.c := hb
  rw [h1, h2] at h
  exact oBl_new r.c nn h.symm
set_option maxRecDepth 100000 in
set_option maxHeartbeats 4000000 in
theorem castSum_true (rs : List Rw) (sa : Option Addr) (n cap : Nat) (r : Rw) (nn : Int) (w : World) (hn : n = rs.length) (hr : RawsAt w sa rs) (h : I64 r.a ∧ I64 r.b ∧ I64 r.c) (hnn : I64 nn) (hT : Tabs w) (hD : rDig r = oDig r nn) :
    Calls Tryd.prog 5 #[.slice sa n cap, .agg #[.int .i64 r.ki, .int .i64 r.a, .int .i64 r.b, .int .i64 r.c, .slice r.sa r.n r.cap], .int .i64 nn] w fun e w' => e = .returned (.bool true) ∧ Below w.heap.size w w' := by
  subst hn
  have hsm := hr.small
  have HT : Hid (∀ W : World, Below w.heap.size w W → Tabs W) := by
    show ∀ W, _
    exact fun W hW => hT.below hW
  have HD : Hid (rDig r = oDig r nn) := hD
  clear hT hD
  have hA0 := (Below.refl w.heap.size w).alloc (Nat.le_refl _) (.cells #[.int .i64 r.ki, .int .i64 r.a, .int .i64 r.b, .int .i64 r.c, .slice r.sa r.n r.cap] 25)
  have qR := heap_alloc_new w (.cells #[.int .i64 r.ki, .int .i64 r.a, .int .i64 r.b, .int .i64 r.c, .slice r.sa r.n r.cap] 25)
  have c0 := cells_at qR 0 _ rfl
  have c1 := cells_at qR 1 _ rfl
  have c2 := cells_at qR 2 _ rfl
  have c3 := cells_at qR 3 _ rfl
  have c4 := cells_at qR 4 _ rfl
  obtain ⟨i, hi, hz0, hz1, hz2⟩ := info_parts infoHd
  go_enter Tryd.func5, Tryd.ntmps5
  go_wp2_with fail
  generalize w.alloc (.cells #[.int .i64 r.ki, .int .i64 r.a, .int .i64 r.b, .int .i64 r.c, .slice r.sa r.n r.cap] 25) = W0 at hA0 qR c0 c1 c2 c3 c4 ⊢
  refine (header_hat r W0 h).mono ?_
  rintro e w2 ⟨ba, bc, bl, pa, pc, pl, he, hH, hBL, hPL, hb2, -, -⟩
  subst he
  dsimp only
  clear c0 c1 c2 c3 c4 qR
  have HBL : Hid _ := hBL
  have HPL : Hid _ := hPL
  clear hBL hPL
  have hB := hA0.trans (hb2.mono hA0.size)
  have hA2 := (Below.refl w2.heap.size w2).alloc (Nat.le_refl _) (.cells #[.int .i64 (pk r.a 4), .int .i64 (1 + pk r.b 9), .slice ba bl.length bc, .slice pa pl.length pc] 31)
  have hA3 := ((Below.refl (w2.alloc (.cells #[.int .i64 (pk r.a 4), .int .i64 (1 + pk r.b 9), .slice ba bl.length bc, .slice pa pl.length pc] 31)).heap.size (w2.alloc (.cells #[.int .i64 (pk r.a 4), .int .i64 (1 + pk r.b 9), .slice ba bl.length bc, .slice pa pl.length pc] 31))).alloc (Nat.le_refl _) (.cells #[.int .i64 (pk r.a 4), .int .i64 (1 + pk r.b 9), .slice ba bl.length bc, .slice pa pl.length pc] 31))
  have qN := heap_alloc_new w2 (.cells #[.int .i64 (pk r.a 4), .int .i64 (1 + pk r.b 9), .slice ba bl.length bc, .slice pa pl.length pc] 31)
  have q_c0 := cells_at qN 0 _ rfl
  have q_c1 := cells_at qN 1 _ rfl
  have q_c2 := cells_at qN 2 _ rfl
  have q_c3 := cells_at qN 3 _ rfl
  have qH := heap_alloc2_old w2 (.cells #[.int .i64 (pk r.a 4), .int .i64 (1 + pk r.b 9), .slice ba bl.length bc, .slice pa pl.length pc] 31) (.cells #[.int .i64 (pk r.a 4), .int .i64 (1 + pk r.b 9), .slice ba bl.length bc, .slice pa pl.length pc] 31)
  have qO : ((w2.alloc (.cells #[.int .i64 (pk r.a 4), .int .i64 (1 + pk r.b 9), .slice ba bl.length bc, .slice pa pl.length pc] 31)).alloc (.cells #[.int .i64 (pk r.a 4), .int .i64 (1 + pk r.b 9), .slice ba bl.length bc, .slice pa pl.length pc] 31)).heap[w2.heap.size + 1]? = some (.cells #[.int .i64 (pk r.a 4), .int .i64 (1 + pk r.b 9), .slice ba bl.length bc, .slice pa pl.length pc] 31 (0, 0)) := by
    have := heap_alloc_new (w2.alloc (.cells #[.int .i64 (pk r.a 4), .int .i64 (1 + pk r.b 9), .slice ba bl.length bc, .slice pa pl.length pc] 31)) (.cells #[.int .i64 (pk r.a 4), .int .i64 (1 + pk r.b 9), .slice ba bl.length bc, .slice pa pl.length pc] 31)
    rw [size_alloc] at this; exact this
  have hs9 : (w2.alloc (.cells #[.int .i64 (pk r.a 4), .int .i64 (1 + pk r.b 9), .slice ba bl.length bc, .slice pa pl.length pc] 31)).heap.size = w2.heap.size + 1 := size_alloc _ _
  go_wp2_with fail
  have hH9 := hH.below hA2
  have hB9 := hB.trans (hA2.mono hB.size)
  generalize w2.alloc (.cells #[.int .i64 (pk r.a 4), .int .i64 (1 + pk r.b 9), .slice ba bl.length bc, .slice pa pl.length pc] 31) = w9 at hA2 hA3 qN q_c0 q_c1 q_c2 q_c3 qH qO hs9 hH9 hB9 ⊢
  have qH9 := qN
  clear q_c0 q_c1 q_c2 q_c3 qH qN
  generalize w9.alloc (.cells #[.int .i64 (pk r.a 4), .int .i64 (1 + pk r.b 9), .slice ba bl.length bc, .slice pa pl.length pc] 31) = W3 at hA3 qO ⊢
  generalize w2.heap.size + 1 = OB at qO hs9 ⊢
  generalize w2.heap.size = HB at qH9 ⊢
  refine (some_any nn 200 W3 hnn).mono ?_
  rintro e w10 ⟨he, hoN, hb10⟩
  subst he
  dsimp only
  have hsN := (sliceAt_of_owns hoN).2
  have hNO : OB < W3.heap.size := lt_of_heap qO
  have hNl : W3.heap.size < w10.heap.size := (hoN.lt W3.heap.size rfl).2
  generalize W3.heap.size = NB at hsN hNO hNl ⊢
  have qO1 : w10.heap[OB]? = some (.cells #[.int .i64 (pk r.a 4), .int .i64 (1 + pk r.b 9), .slice ba bl.length bc, .slice pa pl.length pc] 31 (0, 0)) := (hb10.block _ (lt_of_heap qO)).trans qO
  have hA9' := hA3.trans (hb10.mono hA3.size)
  have HO := oth_at (w9 := w9) (nn := nn) (by omega) hNO hA9' hH9 qO1 hsN
  have o_c0 := cells_at HO.box 0 _ rfl
  have o_c1 := cells_at HO.box 1 _ rfl
  have o_c2 := cells_at HO.box 2 _ rfl
  have o_c3 := cells_at HO.box 3 _ rfl
  have qHX := (HO.keep.block _ (lt_of_heap qH9)).trans qH9
  have x_c0 := cells_at qHX 0 _ rfl
  have x_c1 := cells_at qHX 1 _ rfl
  have x_c2 := cells_at qHX 2 _ rfl
  have x_c3 := cells_at qHX 3 _ rfl
  have o_z := cells_at qO1 2 _ rfl
  have hOl : OB < w10.heap.size := lt_of_heap qO1
  have o_f := frozen_at qO1 2
  have hX0 : HdAt ((w10.setCell ⟨OB, 2, none⟩ (.slice (some ⟨w10.heap.size, 0, none⟩) 1 1)).alloc (.cells #[.slice (some ⟨NB, 0, none⟩) 32 32] 33)) ⟨pk r.a 4, 1 + pk r.b 9, ba, bc, bl, pa, pc, pl⟩ := hd_raw (hH9.below HO.keep) HBL.out HPL.out
  have hX1 := hd_oth (r := r) HO.hat HBL.out HPL.out
  have hXs : ((w10.setCell ⟨OB, 2, none⟩ (.slice (some ⟨w10.heap.size, 0, none⟩) 1 1)).alloc (.cells #[.slice (some ⟨NB, 0, none⟩) 32 32] 33)).heap.size = w10.heap.size + 1 := by simp
  have hBX := hB9.trans (HO.keep.mono hB9.size)
  have hXX : w.heap.size ≤ ((w10.setCell ⟨OB, 2, none⟩ (.slice (some ⟨w10.heap.size, 0, none⟩) 1 1)).alloc (.cells #[.slice (some ⟨NB, 0, none⟩) 32 32] 33)).heap.size := hBX.size
  have hLit := World.ownsRow_lit (base := w.heap.size) (e := 31) (size := 4) ((w10.setCell ⟨OB, 2, none⟩ (.slice (some ⟨w10.heap.size, 0, none⟩) 1 1)).alloc (.cells #[.slice (some ⟨NB, 0, none⟩) 32 32] 33)) #[.int .i64 (pk r.a 4), .int .i64 (1 + pk r.b 9), .slice ba bl.length bc, .slice pa pl.length pc, .int .i64 (pk r.a 4), .int .i64 (1 + pk r.b 9), .slice (some ⟨w10.heap.size, 0, none⟩) 1 1, .slice pa pl.length pc] 2 hXX (by decide) rfl
  have hAp := apart_two (o := .cells #[.int .i64 (pk r.a 4), .int .i64 (1 + pk r.b 9), .slice ba bl.length bc, .slice pa pl.length pc, .int .i64 (pk r.a 4), .int .i64 (1 + pk r.b 9), .slice (some ⟨w10.heap.size, 0, none⟩) 1 1, .slice pa pl.length pc] 31) hX0 hX1 2 2
  have hBr := hBX.trans (((Below.refl ((w10.setCell ⟨OB, 2, none⟩ (.slice (some ⟨w10.heap.size, 0, none⟩) 1 1)).alloc (.cells #[.slice (some ⟨NB, 0, none⟩) 32 32] 33)).heap.size ((w10.setCell ⟨OB, 2, none⟩ (.slice (some ⟨w10.heap.size, 0, none⟩) 1 1)).alloc (.cells #[.slice (some ⟨NB, 0, none⟩) 32 32] 33))).alloc (Nat.le_refl _) (.cells #[.int .i64 (pk r.a 4), .int .i64 (1 + pk r.b 9), .slice ba bl.length bc, .slice pa pl.length pc, .int .i64 (pk r.a 4), .int .i64 (1 + pk r.b 9), .slice (some ⟨w10.heap.size, 0, none⟩) 1 1, .slice pa pl.length pc] 31)).mono hBX.size)
  rw [hXs] at hLit hAp
  have HLit : Hid _ := hLit
  have HAp : Hid _ := hAp
  have HBr : Hid _ := hBr
  clear hLit hAp hBr hX0 hX1 hXX hBX hA9' hH9 hB9 hB hA2 hA3 hb10 hoN hsN qO qH9 qHX hH
  go_wp2_with fail
  have hu := un_like (r := r) (SZ := w10.heap.size) (NB := NB) (nn := nn) (ba := ba) (bc := bc) (pa := pa) (pc := pc) (pl := pl) HBL.out
  have hd : Hd.d ⟨pk r.a 4, 1 + pk r.b 9, some ⟨w10.heap.size, 0, none⟩, 1, oBl NB nn, pa, pc, pl⟩ = Hd.d ⟨pk r.a 4, 1 + pk r.b 9, ba, bc, bl, pa, pc, pl⟩ := by
    show hDig (pk r.a 4) (1 + pk r.b 9) (oBl NB nn) pl = hDig (pk r.a 4) (1 + pk r.b 9) bl pl
    rw [oDig_of r NB nn pl HPL.out, hDig_raw r bl pl HBL.out HPL.out]
    exact HD.out.symm
  have hl : (((w10.setCell ⟨OB, 2, none⟩ (.slice (some ⟨w10.heap.size, 0, none⟩) 1 1)).alloc (.cells #[.slice (some ⟨NB, 0, none⟩) 32 32] 33)).alloc (.cells #[.int .i64 (pk r.a 4), .int .i64 (1 + pk r.b 9), .slice ba bl.length bc, .slice pa pl.length pc, .int .i64 (pk r.a 4), .int .i64 (1 + pk r.b 9), .slice (some ⟨w10.heap.size, 0, none⟩) 1 1, .slice pa pl.length pc] 31)).ownsRow w.heap.size 31 4 (.slice (some ⟨w10.heap.size + 1, 0, none⟩) 2 2) 2 (hdv [⟨pk r.a 4, 1 + pk r.b 9, ba, bc, bl, pa, pc, pl⟩, ⟨pk r.a 4, 1 + pk r.b 9, some ⟨w10.heap.size, 0, none⟩, 1, oBl NB nn, pa, pc, pl⟩]) := HLit.out
  have ha := HAp.out
  have hb := HBr.out
  clear HLit HAp HBr HO o_c0 o_c1 o_c2 o_c3 x_c0 x_c1 x_c2 x_c3 o_z o_f hOl hXs qO1 hNO hNl hs9 HD HBL HPL hb2 hA0
  generalize ((w10.setCell ⟨OB, 2, none⟩ (.slice (some ⟨w10.heap.size, 0, none⟩) 1 1)).alloc (.cells #[.slice (some ⟨NB, 0, none⟩) 32 32] 33)).alloc (.cells #[.int .i64 (pk r.a 4), .int .i64 (1 + pk r.b 9), .slice ba bl.length bc, .slice pa pl.length pc, .int .i64 (pk r.a 4), .int .i64 (1 + pk r.b 9), .slice (some ⟨w10.heap.size, 0, none⟩) 1 1, .slice pa pl.length pc] 31) = V0 at hl ha hb ⊢
  generalize (⟨pk r.a 4, 1 + pk r.b 9, some ⟨w10.heap.size, 0, none⟩, 1, oBl NB nn, pa, pc, pl⟩ : Hd) = H1 at hu hd hl ha
  generalize (⟨pk r.a 4, 1 + pk r.b 9, ba, bc, bl, pa, pc, pl⟩ : Hd) = H0 at hu hd hl ha
  generalize w10.heap.size + 1 = RB at hl ha ⊢
  have HU : Hid (unlike H1 H0) := hu
  have HDD : Hid (H1.d = H0.d) := hd
  clear hu hd
  go_loopw [10, 9] (fun j v wr => ∃ (k : Nat) (ms : List Hd) (tv : Value), k ≤ rs.length ∧ k ≤ 30 ∧ j = .int .i64 k ∧ tv = v ∧ wr.ownsRow w.heap.size 31 4 tv (k + 2) (hdv (H0 :: H1 :: ms)) ∧ Hid (ApartH wr tv (H0 :: H1 :: ms)) ∧ Below w.heap.size w wr) (fun j _ _ => rs.length - (intOf j).toNat)
  case atStart => exact ⟨0, [], _, Nat.zero_le _, by omega, rfl, rfl, hl, ha, hb⟩
  case round =>
    clear hl ha hb
    obtain ⟨k, ms, tv, hk, hk30, rfl, rfl, ho, ha, hb⟩ := hrel
    by_cases hlt : k < rs.length
    · by_cases h30 : k < 30
      · have hpw := hr.below hb
        obtain ⟨sb, so, rfl, hc⟩ : ∃ sb so, sa = some ⟨sb, so, none⟩ ∧ ∀ j (h : j < rs.length), wr.cell? ⟨sb, so + j * 5, none⟩ = some (.int .i64 (rs[j]).ki) ∧ wr.cell? ⟨sb, so + j * 5 + 1, none⟩ = some (.int .i64 (rs[j]).a) ∧ wr.cell? ⟨sb, so + j * 5 + 2, none⟩ = some (.int .i64 (rs[j]).b) ∧ wr.cell? ⟨sb, so + j * 5 + 3, none⟩ = some (.int .i64 (rs[j]).c) ∧ wr.cell? ⟨sb, so + j * 5 + 4, none⟩ = some (.slice (rs[j]).sa (rs[j]).n (rs[j]).cap) := by
          rcases hpw.cells with h | h
          · rw [h] at hlt; simp at hlt
          · exact h
        obtain ⟨c0, c1, c2, c3, c4⟩ := hc k hlt
        have hi5 := hr.each (rs[k]) (List.getElem_mem hlt)
        have hltI : (k : Int) < rs.length := by omega
        have h30I : (k : Int) < 30 := by omega
        clear hc hpw
        generalize rs[k] = x at c0 c1 c2 c3 c4 hi5
        have HH : Hid (I64 x.a ∧ I64 x.b ∧ I64 x.c) := hi5
        clear hi5
        go_wp2_with fail
        refine (header_hat x wr HH.out).mono ?_
        rintro e w1 ⟨ea, ec, el, fa, fc, fl, he, hH, hbl, hpl, hb1, hf1, hf2⟩
        subst he
        dsimp only
        clear c0 c1 c2 c3 c4
        have hA1 := (Below.refl w1.heap.size w1).alloc (Nat.le_refl _) (.cells #[.int .i64 (pk x.a 4), .int .i64 (1 + pk x.b 9), .slice ea el.length ec, .slice fa fl.length fc] 31)
        have qN := heap_alloc_new w1 (.cells #[.int .i64 (pk x.a 4), .int .i64 (1 + pk x.b 9), .slice ea el.length ec, .slice fa fl.length fc] 31)
        have HX : Hid (HdAt (w1.alloc (.cells #[.int .i64 (pk x.a 4), .int .i64 (1 + pk x.b 9), .slice ea el.length ec, .slice fa fl.length fc] 31)) ⟨pk x.a 4, 1 + pk x.b 9, ea, ec, el, fa, fc, fl⟩ ∧ ∀ b, HdIn ⟨pk x.a 4, 1 + pk x.b 9, ea, ec, el, fa, fc, fl⟩ b → wr.heap.size ≤ b) := ⟨(hd_raw hH hbl hpl).below hA1, hd_new hf1 hf2⟩
        clear hH hbl hpl hf1 hf2
        have hb3 := hb1.trans (hA1.mono hb1.size)
        have hB3 := hb.trans (hb3.mono hb.size)
        have ho3 := owns_keep ho hb3
        go_upto_region 9 with fail
        generalize w1.alloc (.cells #[.int .i64 (pk x.a 4), .int .i64 (1 + pk x.b 9), .slice ea el.length ec, .slice fa fl.length fc] 31) = W1 at hA1 qN HX hb3 hB3 ho3 ⊢
        generalize w1.heap.size = BB at qN ⊢
        clear hA1 hb1
        have n_c0 := cells_at qN 0 _ rfl
        have n_c1 := cells_at qN 1 _ rfl
        have n_c2 := cells_at qN 2 _ rfl
        have n_c3 := cells_at qN 3 _ rfl
        have hnew := cells_new W1 [.int .i64 (pk x.a 4), .int .i64 (1 + pk x.b 9), .slice ea el.length ec, .slice fa fl.length fc] 31
        go_wp2_with (at_builtin; go_loud (refine wpList_append_own_at _ rfl _ _ 46 rfl w.heap.size 31 i (.agg #[.int .i64 0, .int .i64 0, .slice none 0 0, .slice none 0 0]) 4 64 Tryd.underlying46 hi hz0 hz1 hz2 rfl (by decide) _ (k + 2) _ rfl (World.ownsRow.alloc ho3 _) ⟨W1.heap.size, 0, none⟩ 1 1 [.int .i64 (pk x.a 4), .int .i64 (1 + pk x.b 9), .slice ea el.length ec, .slice fa fl.length fc] rfl rfl hnew (hd_one ⟨pk x.a 4, 1 + pk x.b 9, ea, ec, el, fa, fc, fl⟩) (by unfold maxLen; omega) (by omega) (le_alloc hB3.size _) ?_; intro v5 w5 ho5 hg5 _ hat5))
        have G5 := Grew.of hg5 hat5
        have hap5 : Hid (ApartH w5 v5 (H0 :: H1 :: (ms ++ [⟨pk x.a 4, 1 + pk x.b 9, ea, ec, el, fa, fc, fl⟩]))) := ApartH.more ha.out ho hb3 HX.out.2 HX.out.1 G5
        have hb5 := Below.grown (hB3.alloc hB3.size (.cells #[.int .i64 (pk x.a 4), .int .i64 (1 + pk x.b 9), .slice ea el.length ec, .slice fa fl.length fc] 31)) hg5 (le_alloc hB3.size _) (fun q e => (ho.lt q e).1)
        have ho6 : w5.ownsRow w.heap.size 31 4 v5 (k + 1 + 2) (hdv (H0 :: H1 :: (ms ++ [⟨pk x.a 4, 1 + pk x.b 9, ea, ec, el, fa, fc, fl⟩]))) := by
          rw [show k + 1 + 2 = k + 2 + 1 by omega, show (H0 :: H1 :: (ms ++ [⟨pk x.a 4, 1 + pk x.b 9, ea, ec, el, fa, fc, fl⟩])) = (H0 :: H1 :: ms) ++ [⟨pk x.a 4, 1 + pk x.b 9, ea, ec, el, fa, fc, fl⟩] from rfl, hdv_snoc]
          exact ho5
        clear n_c0 n_c1 n_c2 n_c3 hnew HX ho5 hg5 hat5 G5 qN ha ho ho3 hb hb3 hB3
        go_wp2_with fail
        go_roundw
        case rel =>
          have hR : ∃ (k' : Nat) (ms' : List Hd) (tv' : Value), k' ≤ rs.length ∧ k' ≤ 30 ∧ (Value.int .i64 ((k : Int) + 1)) = .int .i64 k' ∧ tv' = v5 ∧ w5.ownsRow w.heap.size 31 4 tv' (k' + 2) (hdv (H0 :: H1 :: ms')) ∧ Hid (ApartH w5 tv' (H0 :: H1 :: ms')) ∧ Below w.heap.size w w5 :=
            ⟨k + 1, ms ++ [⟨pk x.a 4, 1 + pk x.b 9, ea, ec, el, fa, fc, fl⟩], v5, by omega, by omega, by go_num, rfl, ho6, hap5, hb5⟩
          first | exact hR | ((repeat apply Exists.intro); exact ⟨hR, rfl⟩)
        case measure => simp [intOf]; omega
      · obtain rfl : k = 30 := by omega
        have hltI : ((30 : Nat) : Int) < rs.length := by omega
        have hltJ : (30 : Int) < rs.length := by omega
        obtain ⟨ra, rc, rfl, hlen, hHs⟩ := hs_of_owns ho ha.out
        have HL1 : Hid _ := hlen
        have hl5 : (H0 :: H1 :: ms).length ≤ 100000 := by rw [← hlen]; omega
        have HL5 : Hid _ := hl5
        clear hlen hl5
        go_wp2_with fail
        refine (oneSum_true (H0 :: H1 :: ms) ra _ rc (.slice none 0 0) wr 1 0 HL1.out HL5.out (by decide) (by simp) hHs HDD.out HU.out (HT.out wr hb)).mono ?_
        rintro e wq ⟨he, hq⟩
        subst he
        dsimp only
        go_wp2_with fail
        go_ret
        exact ⟨rfl, hb.trans (hq.mono hb.size)⟩
    · obtain rfl : k = rs.length := by omega
      have hltI : ¬ (rs.length : Int) < rs.length := by omega
      obtain ⟨ra, rc, rfl, hlen, hHs⟩ := hs_of_owns ho ha.out
      have HL1 : Hid _ := hlen
      have hl5 : (H0 :: H1 :: ms).length ≤ 100000 := by rw [← hlen]; omega
      have HL5 : Hid _ := hl5
      clear hlen hl5
      go_wp2_with fail
      refine (oneSum_true (H0 :: H1 :: ms) ra _ rc (.slice none 0 0) wr 1 0 HL1.out HL5.out (by decide) (by simp) hHs HDD.out HU.out (HT.out wr hb)).mono ?_
      rintro e wq ⟨he, hq⟩
      subst he
      dsimp only
      go_wp2_with fail
      go_ret
      exact ⟨rfl, hb.trans (hq.mono hb.size)⟩
end Go.Proofs.YtlpaghkofljnfaaDoor

namespace Go.Proofs.YtlpaghkofljnfaaDoor
open Go.RowKit

set_option maxRecDepth 100000 in
set_option maxHeartbeats 2000000 in
theorem castOnce_walk (sa : Option Addr) (cap : Nat) (rs : List Rw) (ki ra rb rc : Int) (ta : Option Addr) (tc : Nat) (ss : List ByteArray) (nn : Int) (w : World) (hr : RawsAt w sa rs) (_hl : rs.length ≤ cap) (_i0 : I64 ki) (i1 : I64 ra) (i2 : I64 rb) (i3 : I64 rc) (_ht : TextsAt w ta tc ss) (lo : -9223372036854775808 ≤ nn) (hi : nn ≤ 9223372036854775807) (hT : Tabs w) :
    Calls Tryd.prog 3 #[.slice sa rs.length cap, .agg #[.int .i64 ki, .int .i64 ra, .int .i64 rb, .int .i64 rc, .slice ta ss.length tc], .int .i64 nn] w fun e w' => e = .returned (.bool true) ∧ Below w.heap.size w w' := by
  have hA := (Below.refl w.heap.size w).alloc (Nat.le_refl _) (.cells #[.int .i64 ki, .int .i64 ra, .int .i64 rb, .int .i64 rc, .slice ta ss.length tc] 25)
  have qR := heap_alloc_new w (.cells #[.int .i64 ki, .int .i64 ra, .int .i64 rb, .int .i64 rc, .slice ta ss.length tc] 25)
  have HC : Hid (∀ W : World, Below w.heap.size w W → Calls Tryd.prog 4 #[.slice sa rs.length cap, .agg #[.int .i64 ki, .int .i64 ra, .int .i64 rb, .int .i64 rc, .slice ta ss.length tc], .int .i64 nn] W fun e w' => ∃ b : Bool, e = .returned (.bool b) ∧ Below W.heap.size W w' ∧ (b = false → rDig ⟨ki, ra, rb, rc, ta, ss.length, tc⟩ = oDig ⟨ki, ra, rb, rc, ta, ss.length, tc⟩ nn)) := by
    show ∀ W, _
    intro W hW
    exact castOnce_or rs sa _ cap ⟨ki, ra, rb, rc, ta, ss.length, tc⟩ nn W rfl (hr.below hW) ⟨i1, i2, i3⟩ ⟨lo, hi⟩ (hT.below hW)
  have HS : Hid (∀ W : World, Below w.heap.size w W → rDig ⟨ki, ra, rb, rc, ta, ss.length, tc⟩ = oDig ⟨ki, ra, rb, rc, ta, ss.length, tc⟩ nn → Calls Tryd.prog 5 #[.slice sa rs.length cap, .agg #[.int .i64 ki, .int .i64 ra, .int .i64 rb, .int .i64 rc, .slice ta ss.length tc], .int .i64 nn] W fun e w' => e = .returned (.bool true) ∧ Below W.heap.size W w') := by
    show ∀ W, _
    intro W hW hD
    exact castSum_true rs sa _ cap ⟨ki, ra, rb, rc, ta, ss.length, tc⟩ nn W rfl (hr.below hW) ⟨i1, i2, i3⟩ ⟨lo, hi⟩ (hT.below hW) hD
  clear hr i1 i2 i3 hT lo hi _ht _hl _i0
  have c0 := cells_at qR 0 _ rfl
  have c1 := cells_at qR 1 _ rfl
  have c2 := cells_at qR 2 _ rfl
  have c3 := cells_at qR 3 _ rfl
  have c4 := cells_at qR 4 _ rfl
  go_enter Tryd.func3, Tryd.ntmps3
  go_wp2_with fail
  generalize w.alloc (.cells #[.int .i64 ki, .int .i64 ra, .int .i64 rb, .int .i64 rc, .slice ta ss.length tc] 25) = W0 at hA qR c0 c1 c2 c3 c4 ⊢
  have hWs : w.heap.size < W0.heap.size := lt_of_heap qR
  refine (HC.out W0 hA).mono ?_
  rintro e w1 ⟨b, he, hb1, hF⟩
  subst he
  dsimp only
  clear c0 c1 c2 c3 c4
  have hB := hA.trans (hb1.mono hA.size)
  have q1 := (hb1.block _ (lt_of_heap qR)).trans qR
  have c0 := cells_at q1 0 _ rfl
  have c1 := cells_at q1 1 _ rfl
  have c2 := cells_at q1 2 _ rfl
  have c3 := cells_at q1 3 _ rfl
  have c4 := cells_at q1 4 _ rfl
  cases b with
  | true =>
    clear hF
    go_wp2_with fail
    go_ret
    exact ⟨rfl, hB⟩
  | false =>
    have HS2 := HS.out w1 hB (hF rfl)
    clear hF
    go_wp2_with fail
    refine HS2.mono ?_
    rintro e w2 ⟨he, hb2⟩
    subst he
    dsimp only
    go_wp2_with fail
    go_ret
    exact ⟨rfl, hB.trans (hb2.mono hB.size)⟩
end Go.Proofs.YtlpaghkofljnfaaDoor

namespace Go.Proofs.YtlpaghkofljnfaaDoor
open Go.RowKit

set_option maxRecDepth 100000 in
/-- An array of arrays of integers that reads as a table of rows holds the rows' numbers, cell for cell. -/
theorem cells_of_tab2 {H : Type} {enc : TypeId × Value → H} {P : Program} {w : World} {base : Nat} {sp : Nat → Bool} {held : Bool} {fuel : Nat} {t e i : TypeId} {n m : Nat} {k : IntKind} {cs : List Value} {rows : List (List Int)} {p : List MemPlace}
    (ht : P.underlying t = some (.array n e)) (he : P.underlying e = some (.array m i)) (hi : P.underlying i = some (.int k)) (hci : P.cellsOf i = 1) (hce : P.cellsOf e = m) (hm : 0 < m)
    (h : DataW.trod enc P w base sp held fuel t cs = some (.agg (rows.map (Lib.tabData k)), p)) (q : Nat) (hq : q < n * m) : cs[q]? = ((rows.getD (q / m) []).map (Value.int k))[q % m]? := by
  obtain ⟨xs, f, rfl, hx, hl, hn, hr⟩ := DataW.trod_array ht h
  have hin : q / m < n := Nat.div_lt_of_lt_mul (by rw [Nat.mul_comm]; exact hq)
  have hrow := hr (q / m) hin
  have hxs : xs.map (·.1) = rows.map (Lib.tabData k) := by
    have := congrArg Prod.fst hx
    simpa using this.symm
  have hg : (xs.map (·.1))[q / m]? = some (xs[q / m]'(by omega)).1 := by simp [hn, hin]
  rw [hxs] at hg
  simp only [List.getElem?_map, Option.map_eq_some_iff] at hg
  obtain ⟨r, hr1, hr2⟩ := hg
  rw [List.getElem?_eq_getElem (by omega), hce] at hrow
  have hrow' : DataW.trod enc P w base sp held f e ((cs.drop (q / m * m)).take m) = some (Lib.tabData k r, (xs[q / m]'(by omega)).2) := by
    rw [hrow, hr2]
  have hc := Lib.cells_of_tab he hi hci hce hrow'
  have hj : q % m < m := Nat.mod_lt _ hm
  have e1 : ((cs.drop (q / m * m)).take m)[q % m]? = cs[q]? := by
    rw [List.getElem?_take, if_pos hj, List.getElem?_drop, Nat.mul_comm, Nat.div_add_mod]
  rw [← e1, hc]
  simp [List.getD, hr1]

set_option maxRecDepth 100000 in
theorem tFirst : (Tryd.prog.globals[0]?).map (·.type) = some 84 := by kernel_rfl
set_option maxRecDepth 100000 in
theorem tOrders : (Tryd.prog.globals[1]?).map (·.type) = some 95 := by kernel_rfl
set_option maxRecDepth 100000 in
theorem tLanes : (Tryd.prog.globals[2]?).map (·.type) = some 97 := by kernel_rfl
set_option maxRecDepth 100000 in
theorem cU32 : Tryd.prog.cellsOf 83 = 1 := by kernel_rfl
set_option maxRecDepth 100000 in
theorem c8U32 : Tryd.prog.cellsOf 84 = 8 := by kernel_rfl
set_option maxRecDepth 100000 in
theorem c16U8 : Tryd.prog.cellsOf 94 = 16 := by kernel_rfl
set_option maxRecDepth 100000 in
theorem c4U8 : Tryd.prog.cellsOf 96 = 4 := by kernel_rfl
def ordRows : List (List Int) := [[0, 1, 2, 3, 4, 5, 6, 7, 8, 9, 10, 11, 12, 13, 14, 15], [14, 10, 4, 8, 9, 15, 13, 6, 1, 12, 0, 2, 11, 7, 5, 3], [11, 8, 12, 0, 5, 2, 15, 13, 10, 14, 3, 6, 7, 1, 9, 4], [7, 9, 3, 1, 13, 12, 11, 14, 2, 6, 5, 10, 4, 0, 15, 8], [9, 0, 5, 7, 2, 4, 10, 15, 14, 1, 11, 12, 6, 8, 3, 13], [2, 12, 6, 10, 0, 11, 8, 3, 4, 13, 7, 5, 15, 14, 1, 9], [12, 5, 1, 15, 14, 13, 4, 10, 0, 7, 6, 3, 9, 2, 8, 11], [13, 11, 7, 14, 12, 1, 3, 9, 5, 0, 15, 4, 8, 6, 2, 10], [6, 15, 14, 9, 11, 3, 0, 8, 12, 2, 13, 7, 1, 4, 10, 5], [10, 2, 8, 4, 7, 6, 1, 5, 15, 11, 9, 14, 3, 12, 13, 0]]
def laneRows : List (List Int) := [[0, 4, 8, 12], [1, 5, 9, 13], [2, 6, 10, 14], [3, 7, 11, 15], [0, 5, 10, 15], [1, 6, 11, 12], [2, 7, 8, 13], [3, 4, 9, 14]]
set_option maxRecDepth 100000 in
theorem ordRows_flat : ∀ q, q < 160 → (ordRows.getD (q / 16) [])[q % 16]? = some ((ordF.getD q 0 : Nat) : Int) := by decide +kernel
set_option maxRecDepth 100000 in
theorem laneRows_flat : ∀ q, q < 32 → (laneRows.getD (q / 4) [])[q % 4]? = some ((laneF.getD q 0 : Nat) : Int) := by decide +kernel
set_option maxRecDepth 100000 in
theorem dFirst : Rows.laid_sheaves_blake_firstWords (H := Unit) = Lib.tabData .u32 fw := rfl
set_option maxRecDepth 100000 in
theorem dOrders : Rows.laid_sheaves_blake_orders (H := Unit) = .agg (ordRows.map (Lib.tabData .u8)) := rfl
set_option maxRecDepth 100000 in
theorem dLanes : Rows.laid_sheaves_blake_lanes (H := Unit) = .agg (laneRows.map (Lib.tabData .u8)) := rfl

set_option maxRecDepth 100000 in
theorem tabs_of_laid {W : World} {n1 n2 n3 : String} (gFirst : Tryd.prog.globalNamed n1 = some 0) (gOrders : Tryd.prog.globalNamed n2 = some 1) (gLanes : Tryd.prog.globalNamed n3 = some 2)
    (h : laidMetH Tryd.prog [(n1, Rows.laid_sheaves_blake_firstWords), (n2, Rows.laid_sheaves_blake_orders), (n3, Rows.laid_sheaves_blake_lanes)] W) : Tabs W := by
  have h1 : laidMet Tryd.prog [(n1, Rows.laid_sheaves_blake_firstWords), (n2, Rows.laid_sheaves_blake_orders), (n3, Rows.laid_sheaves_blake_lanes)] W := h
  clear h
  have h2 := h1.tail
  have h3 := h2.tail
  rw [dFirst] at h1
  rw [dOrders] at h2
  rw [dLanes] at h3
  have t1 := Lib.tabIs_of_head gFirst tFirst Tryd.underlying84 Tryd.underlying83 cU32 c8U32 h1
  refine ⟨fun i hi => t1.cell gFirst i hi, fun i hi => ?_, fun i hi => ?_⟩
  · obtain ⟨ps, ⟨g', t', cs, fuel, p, q, hg', ht', hvar, hd, _, _⟩, _⟩ := h2
    obtain rfl := Option.some.inj (gOrders.symm.trans hg')
    obtain rfl := Option.some.inj (tOrders.symm.trans ht')
    have hc := World.var?_cell gOrders hvar i
    have he := cells_of_tab2 Tryd.underlying95 Tryd.underlying94 Tryd.underlying5 cU8 c16U8 (by decide) hd i hi
    rw [hc]
    have := ordRows_flat i hi
    simp only [List.getElem?_map, this, Option.map_some] at he
    simpa using he
  · obtain ⟨ps, ⟨g', t', cs, fuel, p, q, hg', ht', hvar, hd, _, _⟩, _⟩ := h3
    obtain rfl := Option.some.inj (gLanes.symm.trans hg')
    obtain rfl := Option.some.inj (tLanes.symm.trans ht')
    have hc := World.var?_cell gLanes hvar i
    have he := cells_of_tab2 Tryd.underlying97 Tryd.underlying96 Tryd.underlying5 cU8 c4U8 (by decide) hd i hi
    rw [hc]
    have := laneRows_flat i hi
    simp only [List.getElem?_map, this, Option.map_some] at he
    simpa using he
end Go.Proofs.YtlpaghkofljnfaaDoor

namespace Go.Proofs.YtlpaghkofljnfaaDoor
open Go.ChangeShapes Go.WideShapes Go.ChangeAt Go.RowKit

/-- What the initialisers of the three tables lay, in the first blocks. -/
def layBlock (c : Array Value) : Obj → Obj
  | .cells _ t frozen => .cells c t frozen
  | o => o
def layTabs (w : World) : World :=
  { w with heap := ((w.heap.modify 0 (layBlock (ua fw))).modify 1 (layBlock (ub (ordF.map Int.ofNat)).toArray)).modify 2 (layBlock (ub (laneF.map Int.ofNat)).toArray) }
end Go.Proofs.YtlpaghkofljnfaaDoor

namespace Go.Proofs.YtlpaghkofljnfaaDoor.castOnce
open Go.ChangeShapes Go.WideShapes Go.ChangeAt Go.RowKit

set_option maxRecDepth 100000 in
/-- What the walk gives, for every argument and every world that holds the tables. -/
theorem contract (H : Type) (enc : TypeId × Value → H) (W : World) (base : Nat) (args : Array Value) (ds gs : List (DataW H)) (before : List MemPlace)
    (hval : ∀ (j : Nat) t v, Tryd.f3.params[j]? = some t → args[j]? = some v → Value.okWide Tryd.prog W .any base t v)
    (hW : DataW.Whole enc Tryd.prog Tryd.f3.params.toList Rows.castOnceSpec.vars false W args.toList ds gs before) (hsz : (DataW.weightsEach Tryd.prog (Tryd.f3.params.toList ++ (OpenSpec.ofChange Rows.castOnceSpec).bare.plain.varTypes Tryd.prog) (ds ++ gs)).all (· ≤ reachBytes) = true) (hL : laidMetH Tryd.prog Rows.castOnceRow.laid W) :
    Calls Tryd.prog 3 args W fun e W' => ∃ v, e = .returned v ∧ Rows.castOnceSpec.post enc Tryd.prog Tryd.f3 false true false false W args v W' := by
  have hW' := hW
  obtain ⟨p, q, hA0, hV, rfl, hfz, hnd⟩ := hW
  have hA : DataW.TrodAll enc Tryd.prog W 0 (fun _ => true) true Tryd.f3.params.toList args.toList ds p := hA0
  rw [Tryd.params3] at hA hval hsz
  obtain ⟨v0, vs0, d0, ds0, p0, q0, hargs, rfl, rfl, h0, r0⟩ := trodAll_cons hA
  obtain ⟨v1, vs1, d1, ds1, p1, q1, rfl, rfl, rfl, h1, r1⟩ := trodAll_cons r0
  obtain ⟨v2, vs2, d2, ds2, p2, q2, rfl, rfl, rfl, h2, r2⟩ := trodAll_cons r1
  obtain ⟨rfl, rfl, rfl⟩ := trodAll_nil r2
  obtain rfl : args = #[v0, v1, v2] := by cases args; simp_all
  obtain ⟨rfl, rfl⟩ := trodVars_none hV
  have k0 := h0
  have lt0 : ∀ x ∈ p0, x.block < W.heap.size := by obtain ⟨m, hm⟩ := k0; exact DataW.trod_lt m _ _ _ hm
  obtain ⟨sa0, cap0, rs0, rfl, q0_0, q0_1⟩ := open_raws (hval 0 22 v0 rfl rfl) h0 (fit_each hsz (j := 0) rfl rfl)
  have k1 := h1
  have lt1 : ∀ x ∈ p1, x.block < W.heap.size := by obtain ⟨m, hm⟩ := k1; exact DataW.trod_lt m _ _ _ hm
  obtain ⟨ki1, ra1, rb1, rc1, sa1, cap1, ss1, rfl, q1_0, q1_1, q1_2, q1_3, q1_4⟩ := open_raw (hval 1 25 v1 rfl rfl) h1 (fit_each hsz (j := 1) rfl rfl)
  obtain ⟨a2, rfl, rfl, rfl, w2⟩ := open_int Tryd.underlying3 (hval 2 3 v2 rfl rfl) h2
  obtain ⟨lo2, hi2⟩ := bounds_i64 w2
  clear hA0
  have hT : Tabs W := tabs_of_laid (by kernel_rfl) (by kernel_rfl) (by kernel_rfl) hL
  refine (castOnce_walk sa0 cap0 rs0 ki1 ra1 rb1 rc1 sa1 cap1 ss1 a2 W q0_0 q0_1 q1_0 q1_1 q1_2 q1_3 q1_4 lo2 hi2 hT).mono fun e W' ⟨he, bel⟩ => ?_
  subst he
  exact ⟨_, rfl, _, _, _, [], _, [], hW', trodAll_mk1 (shut_bool Tryd.underlying4 _), (trodAll_cons_mk (Below.trod laidOut (by kernel_rfl) (of_decide_eq_true (by kernel_rfl)) k0 bel lt0) (trodAll_cons_mk (Below.trod laidOut (by kernel_rfl) (of_decide_eq_true (by kernel_rfl)) k1 bel lt1) (trodAll_cons_mk (shut_int Tryd.underlying3 w2) trodAll_mk0))), rfl, bel.frame _, fun h => by cases h⟩

set_option maxRecDepth 100000 in
theorem laid_met (os : Os) : laidMet Tryd.prog Rows.castOnceRow.laid ((layTabs (World.holding Tryd.prog os ⟨#[], #[], []⟩)).forCall (fun _ _ => 0) ⟨#[], #[.slice none 0 0, .agg #[.int .i64 0, .int .i64 0, .int .i64 0, .int .i64 0, .slice none 0 0], .int .i64 0], []⟩).memory :=
  laidMet_of_run' 8 (by kernel_rfl) (by kernel_rfl)
set_option maxRecDepth 100000 in
theorem reads (os : Os) {H : Type} (enc : TypeId × Value → H) : ∃ places, DataW.whole enc Tryd.prog ((layTabs (World.holding Tryd.prog os ⟨#[], #[], []⟩)).forCall (fun _ _ => 0) ⟨#[], #[.slice none 0 0, .agg #[.int .i64 0, .int .i64 0, .int .i64 0, .int .i64 0, .slice none 0 0], .int .i64 0], []⟩).memory Tryd.f3.params.toList Rows.castOnceSpec.vars false (#[.slice none 0 0, .agg #[.int .i64 0, .int .i64 0, .int .i64 0, .int .i64 0, .slice none 0 0], .int .i64 0] : Array Value).toList 8 = some ([.nil, .agg [.lit (.int .i64 0), .lit (.int .i64 0), .lit (.int .i64 0), .lit (.int .i64 0), .nil], .lit (.int .i64 0)], [], places) :=
  ⟨[], by kernel_rfl⟩

set_option maxRecDepth 100000 in
theorem lifted (os : Os) (started : os.Started) (H : Type) (enc : TypeId × Value → H) (F : Stop.Interp) :
    ReturnsInHanded {} Tryd.checked os 3 .any ((OpenSpec.ofChange Rows.castOnceSpec).preRow enc Tryd.prog Tryd.f3 Rows.castOnceRow.domain false Rows.castOnceRow.laid) (((OpenSpec.ofChange Rows.castOnceSpec).at F).post enc Tryd.prog Tryd.f3 false true false false) := by
  obtain ⟨places, hx⟩ := reads os enc
  refine returnsInHanded_of_row (C := Tryd.checked) (s := OpenSpec.ofChange Rows.castOnceSpec) own started (by kernel_rfl) Tryd.func3
    (witness_row_at (enc := enc) (C := Tryd.checked) false (layTabs (World.holding Tryd.prog os ⟨#[], #[], []⟩)) #[.slice none 0 0, .agg #[.int .i64 0, .int .i64 0, .int .i64 0, .int .i64 0, .slice none 0 0], .int .i64 0] rfl (by kernel_rfl) (by kernel_rfl) (by kernel_rfl)
      (OpenSpec.preRow_of_cond 8 hx (by kernel_rfl) (fun k hk => by cases hk) (by kernel_rfl) (laid_met os))) ?_
  intro W base args ds gs before hval hW _ _ hsz hL _ _
  exact contract H enc W base args ds gs before hval hW hsz hL

set_option maxRecDepth 100000 in
theorem said : Rows.CastOnceSaid :=
  OpenClaim.holds_of_cond 3 Tryd.f3 rfl rfl rfl rfl rfl rfl rfl ⟨rfl, rfl, rfl, rfl, rfl⟩ rfl rfl rfl rfl rfl (by kernel_rfl) Tryd.func3 (by kernel_rfl)
    (of_decide_eq_true (by kernel_rfl)) (by unfold Func.isWrapper; first | (rw [if_pos (by decide +kernel)]; kernel_rfl) | (rw [if_neg (by decide +kernel)]; exact ⟨rfl, rfl⟩))
    (fun os started H enc _ F => by rw [OpenClaim.pre_eq_preRow]; exact lifted os started H enc F)

set_option maxRecDepth 100000 in
theorem plain (f : FuncId) (fn : Func) (hf : Tryd.pinned.checked.prog.funcNamed Rows.castOnceRow.func = some f) (hfn : Tryd.pinned.checked.prog.funcs[f]? = some fn) :
    false = Tryd.pinned.checked.prog.looks [] ∧ ∀ (j : Nat) t, fn.params[j]? = some t → Tryd.pinned.checked.prog.wantsStandIn t = false := by
  obtain rfl : f = 3 := Option.some.inj ((show Tryd.prog.funcNamed Rows.castOnceRow.func = some 3 by kernel_rfl).symm.trans hf) |>.symm
  obtain rfl : fn = Tryd.f3 := (Option.some.inj (Tryd.func3.symm.trans hfn)).symm
  refine ⟨by kernel_rfl, fun j t ht => ?_⟩
  rw [Tryd.params3] at ht
  have hm : t = 22 ∨ t = 25 ∨ t = 3 := by simpa using Array.mem_of_getElem? ht
  rcases hm with rfl | rfl | rfl
  · exact (show Tryd.prog.wantsStandIn 22 = false by kernel_rfl)
  · exact (show Tryd.prog.wantsStandIn 25 = false by kernel_rfl)
  · exact (show Tryd.prog.wantsStandIn 3 = false by kernel_rfl)

set_option maxRecDepth 100000 in
/-- THE CARD. -/
theorem card : Rows.CastOnceCardSaid :=
  Claim7.holds_tied_plain_at .later [] _ _ _ _ said (fun _ h => by cases h) (by kernel_rfl) (fun _ h => by cases h) castOnce_row_tie rfl ⟨rfl, rfl⟩ (by kernel_rfl) rfl plain (by kernel_rfl)
end Go.Proofs.YtlpaghkofljnfaaDoor.castOnce
namespace Go.Proofs.YtlpaghkofljnfaaDoor
set_option maxRecDepth 100000 in
theorem castOnce_holds : Rows.CastOnceCardSaid := castOnce.card
#print axioms castOnce_holds
end Go.Proofs.YtlpaghkofljnfaaDoor
