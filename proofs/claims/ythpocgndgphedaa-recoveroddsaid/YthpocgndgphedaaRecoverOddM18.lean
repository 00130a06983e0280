/- wire.appendCert, onto a row that the call owns. -/
import Derived.Test.YthpocgndgphedaaMsg
import Derived.Test.YthpocgndgphedaaPicked
import Derived.Test.YthpocgndgphedaaTextsAt
import Derived.Test.YthpocgndgphedaaRecoverOddM0
import Derived.Test.YthpocgndgphedaaMsgF
import Derived.Test.YthpocgndgphedaaRecoverOddM6
import Derived.Test.YthpocgndgphedaaRecoverOddM12
import Derived.Deep.RegionHeld3
import Derived.Deep.CutRange
import Derived.Deep.DeepCutAuto
import Derived.Test.YthpocgndgphedaaGrew
import Derived.Lib.AppendStr
import Derived.Test.YthpocgndgphedaaStrsAt
import Derived.Test.YthpocgndgphedaaCertF
namespace Go.Proofs.Ythpocgndgphedaa
open Go.RowKit

/-- All of a message's lists are new memory. -/
structure NewM (B : Nat) (m : Msg) (bl pl cbl cpl : List Part) : Prop where
  tx : ∀ sb so, m.bta = some ⟨sb, so, none⟩ → B ≤ sb
  hb : Fresh B m.hba bl
  hp : Fresh B m.hpa pl
  sd : ∀ sb so, m.sda = some ⟨sb, so, none⟩ → B ≤ sb
  cb : Fresh B m.cba cbl
  cp : Fresh B m.cpa cpl
  cv : ∀ sb so, m.cva = some ⟨sb, so, none⟩ → B ≤ sb
set_option maxRecDepth 100000 in
theorem nilM (w : World) : SliceAt w none 0 [] := ⟨Nat.le_refl _, by decide, .inl rfl, fun _ => rfl, .inl rfl⟩
set_option maxRecDepth 100000 in
theorem Fresh.monoM {B B' : Nat} {ra : Option Addr} {qs : List Part} (h : Fresh B ra qs) (hB : B' ≤ B) : Fresh B' ra qs := ⟨fun sb so e => Nat.le_trans hB (h.row sb so e), fun p hp sb so e => Nat.le_trans hB (h.each p hp sb so e)⟩
/-- What Message gives: a message that may be. -/
structure RawM (w w' : World) (e : Ending) (ki rb rc : Int) : Prop where
  out : ∃ (m : Msg) (ss : List ByteArray) (bl pl cbl cpl : List Part) (vl : List Int), e = .returned (.agg #[.int .i64 m.fr, .int .i64 m.tt, .int .i64 m.ki, .int .i64 m.bau, .int .i64 m.bnu, .slice m.bta m.btn m.btc, .int .i64 m.hau, .int .i64 m.hrd, .slice m.hba m.hbn m.hbc, .slice m.hpa m.hpn m.hpc, .int .i64 m.sau, .int .i64 m.srd, .slice m.sda m.sdn m.sdc, .int .i64 m.cau, .int .i64 m.crd, .slice m.cba m.cbn m.cbc, .slice m.cpa m.cpn m.cpc, .slice m.cva m.cvn m.cvc, .int .i64 m.ro]) ∧ MsgAt w' m ss bl pl cbl cpl vl ∧ m.fr = pk rc 4 ∧ m.tt = pk rb 4 ∧ carriedF m ss bl pl cbl cpl vl = 0 ∧ msgEmpty (strip m) = true ∧ Below w.heap.size w w' ∧ m.ki = 1 + pk ki 5 ∧ (m.ki = 1 → m.bnu ≠ 0) ∧ (m.ki = 2 → m.hrd ≠ 0) ∧ (m.ki = 3 → m.srd ≠ 0) ∧ (m.ki = 4 → m.crd ≠ 0) ∧ (m.ki = 5 → m.ro ≠ 0) ∧ ∃ ds : List Int, SliceAt w' m.sda m.sdc ds ∧ m.sdn = ds.length ∧ NewM w.heap.size m bl pl cbl cpl
/-- The bytes of a message's lists are bytes. -/
structure U8M (bl pl cbl cpl : List Part) (ds : List Int) : Prop where
  hb : ∀ p ∈ bl, ∀ x ∈ p.bs, 0 ≤ x ∧ x ≤ 255
  hp : ∀ p ∈ pl, ∀ x ∈ p.bs, 0 ≤ x ∧ x ≤ 255
  cb : ∀ p ∈ cbl, ∀ x ∈ p.bs, 0 ≤ x ∧ x ≤ 255
  cp : ∀ p ∈ cpl, ∀ x ∈ p.bs, 0 ≤ x ∧ x ≤ 255
  sd : ∀ x ∈ ds, 0 ≤ x ∧ x ≤ 255
set_option maxRecDepth 100000 in
theorem u8_bats {rc : Int} {bl : List Part} (h : bl.map (·.bs) = hBats rc) : ∀ p ∈ bl, ∀ x ∈ p.bs, 0 ≤ x ∧ x ≤ 255 := by
  intro p hp x hx
  have h1 : p.bs ∈ bl.map (·.bs) := List.mem_map_of_mem hp
  rw [h, hBats] at h1
  obtain ⟨i, _, hi⟩ := List.mem_map.1 h1
  rw [← hi] at hx
  exact someL_u8 _ _ x hx
set_option maxRecDepth 100000 in
theorem u8_pars {ra rb rc : Int} {pl : List Part} (h : pl.map (·.bs) = hPars ra rb rc) : ∀ p ∈ pl, ∀ x ∈ p.bs, 0 ≤ x ∧ x ≤ 255 := by
  intro p hp x hx
  have h1 : p.bs ∈ pl.map (·.bs) := List.mem_map_of_mem hp
  rw [h, hPars] at h1
  split at h1
  · cases h1
  · obtain ⟨i, _, hi⟩ := List.mem_map.1 h1
    rw [← hi] at hx
    exact someL_u8 _ _ x hx
set_option maxRecDepth 100000 in
theorem u8_none {α : Type} {P : α → Prop} : ∀ p ∈ ([] : List α), P p := fun p hp => by cases hp
/-- The same, and that its bytes are bytes. -/
structure RawMU (w w' : World) (e : Ending) (ki rb rc : Int) : Prop where
  out : ∃ (m : Msg) (ss : List ByteArray) (bl pl cbl cpl : List Part) (vl : List Int), e = .returned (.agg #[.int .i64 m.fr, .int .i64 m.tt, .int .i64 m.ki, .int .i64 m.bau, .int .i64 m.bnu, .slice m.bta m.btn m.btc, .int .i64 m.hau, .int .i64 m.hrd, .slice m.hba m.hbn m.hbc, .slice m.hpa m.hpn m.hpc, .int .i64 m.sau, .int .i64 m.srd, .slice m.sda m.sdn m.sdc, .int .i64 m.cau, .int .i64 m.crd, .slice m.cba m.cbn m.cbc, .slice m.cpa m.cpn m.cpc, .slice m.cva m.cvn m.cvc, .int .i64 m.ro]) ∧ MsgAt w' m ss bl pl cbl cpl vl ∧ m.fr = pk rc 4 ∧ m.tt = pk rb 4 ∧ carriedF m ss bl pl cbl cpl vl = 0 ∧ msgEmpty (strip m) = true ∧ Below w.heap.size w w' ∧ m.ki = 1 + pk ki 5 ∧ (m.ki = 1 → m.bnu ≠ 0) ∧ (m.ki = 2 → m.hrd ≠ 0) ∧ (m.ki = 3 → m.srd ≠ 0) ∧ (m.ki = 4 → m.crd ≠ 0) ∧ (m.ki = 5 → m.ro ≠ 0) ∧ ∃ ds : List Int, SliceAt w' m.sda m.sdc ds ∧ m.sdn = ds.length ∧ NewM w.heap.size m bl pl cbl cpl ∧ U8M bl pl cbl cpl ds
set_option maxRecDepth 100000 in
theorem list_setRowM {w : World} {ra : Option Addr} {rc B : Nat} {qs : List Part} (h : ListAt w ra rc qs) (hf : Fresh B ra qs) (b : Nat) (cs : Array Value) (hb : b < B) : ListAt (w.setRow b cs) ra rc qs := by
  refine ⟨h.le, h.max, h.small, h.some, ⟨?_, fun p hp => ?_⟩⟩
  · rcases h.parts.cells with hc | ⟨sb, so, rfl, hc⟩
    · exact .inl hc
    · exact .inr ⟨sb, so, rfl, fun k hk => (cell_row (by have := hf.row sb so rfl; omega)).trans (hc k hk)⟩
  · exact slice_setRow (h.parts.each p hp) b cs (fun sb so e => by have := hf.each p hp sb so e; omega)
set_option maxRecDepth 100000 in
theorem ints_setRowM {w : World} {va : Option Addr} {vl : List Int} (h : IntsAt w va vl) (b : Nat) (cs : Array Value) (hne : ∀ sb so, va = some ⟨sb, so, none⟩ → sb ≠ b) : IntsAt (w.setRow b cs) va vl := by
  refine ⟨?_⟩
  rcases h.cells with h | ⟨sb, so, rfl, hc⟩
  · exact .inl h
  · exact .inr ⟨sb, so, rfl, fun k hk => (cell_row (hne sb so rfl)).trans (hc k hk)⟩
set_option maxRecDepth 100000 in
theorem ints_owned {w : World} {base n : Nat} {va : Option Addr} {vc : Nat} {vl : List Int} (h : w.ownsRow base 3 1 (.slice va n vc) n (iv vl)) : IntsAt w va vl ∧ ∀ sb so, va = some ⟨sb, so, none⟩ → base ≤ sb := by
  have hl : n = vl.length := by have := h.1; simp [iv] at this; omega
  have hc := fun (g : Nat) (e : va = some ⟨g, 0, none⟩) j hj => World.ownsRow.cellAt (g := g) (by rw [← e]; exact h) j hj
  rcases h.2 with ⟨e, hn⟩ | ⟨g, cap, cur, e, hg, _⟩
  · simp only [Value.slice.injEq] at e
    obtain ⟨rfl, _, _⟩ := e
    exact ⟨⟨.inl (List.eq_nil_of_length_eq_zero (by omega))⟩, fun _ _ e => by cases e⟩
  · simp only [Value.slice.injEq, true_and] at e
    obtain ⟨rfl, _⟩ := e
    refine ⟨⟨.inr ⟨g, 0, rfl, fun j hj => ?_⟩⟩, fun sb so e => by cases e; exact hg⟩
    rw [Nat.zero_add, hc g rfl j (by omega)]
    simp [iv, hj]
set_option maxRecDepth 100000 in
theorem certF_ofM {au rd : Int} {bl pl : List Part} {vl : List Int} (hF : headerF au rd bl pl = 0) (hv : votersF vl = 0) (hl : vl.length ≤ 4) : certF au rd bl pl vl = 0 := by
  rw [certF, if_neg (by simp [hF]), if_neg (by omega), hv]
set_option maxRecDepth 100000 in
theorem list_nilM (w : World) : ListAt w none 0 [] := ⟨Nat.le_refl _, by decide, by decide, .inl rfl, ⟨.inl rfl, fun p hp => by cases hp⟩⟩
set_option maxRecDepth 100000 in
set_option maxHeartbeats 20000000 in
theorem message_rawU (ki ra rb rc : Int) (sa : Option Addr) (cap : Nat) (ss : List ByteArray) (w : World) (h1 : I64 ki) (h2 : I64 ra) (h3 : I64 rb) (h4 : I64 rc) (h5 : TextsAt w sa cap ss) :
    Calls Try.prog 24 #[.agg #[.int .i64 ki, .int .i64 ra, .int .i64 rb, .int .i64 rc, .slice sa ss.length cap]] w fun e w' => RawMU w w' e ki rb rc := by
  obtain ⟨pk0, pk1⟩ := pk_bounds ki 5 (by decide)
  have hw : IntKind.i64.wrap (1 + pk ki 5) = 1 + pk ki 5 := by rw [IntKind.wrap_i64]; omega
  have hA0 : Below w.heap.size w ((w.alloc (.cells #[.int .i64 ki, .int .i64 ra, .int .i64 rb, .int .i64 rc, .slice sa ss.length cap] 56)).alloc (.cells #[.int .i64 0, .int .i64 0, .int .i64 0, .int .i64 0, .int .i64 0, .slice none 0 0, .int .i64 0, .int .i64 0, .slice none 0 0, .slice none 0 0, .int .i64 0, .int .i64 0, .slice none 0 0, .int .i64 0, .int .i64 0, .slice none 0 0, .slice none 0 0, .slice none 0 0, .int .i64 0] 47)) := ((Below.refl _ _).alloc (Nat.le_refl _) _).alloc (by simp) _
  have q0 := heap_alloc2_old w (.cells #[.int .i64 ki, .int .i64 ra, .int .i64 rb, .int .i64 rc, .slice sa ss.length cap] 56) (.cells #[.int .i64 0, .int .i64 0, .int .i64 0, .int .i64 0, .int .i64 0, .slice none 0 0, .int .i64 0, .int .i64 0, .slice none 0 0, .slice none 0 0, .int .i64 0, .int .i64 0, .slice none 0 0, .int .i64 0, .int .i64 0, .slice none 0 0, .slice none 0 0, .slice none 0 0, .int .i64 0] 47)
  have q1 := heap_alloc2_new w (.cells #[.int .i64 ki, .int .i64 ra, .int .i64 rb, .int .i64 rc, .slice sa ss.length cap] 56) (.cells #[.int .i64 0, .int .i64 0, .int .i64 0, .int .i64 0, .int .i64 0, .slice none 0 0, .int .i64 0, .int .i64 0, .slice none 0 0, .slice none 0 0, .int .i64 0, .int .i64 0, .slice none 0 0, .int .i64 0, .int .i64 0, .slice none 0 0, .slice none 0 0, .slice none 0 0, .int .i64 0] 47)
  go_enter Try.func24, Try.ntmps24
  go_upto_region 1 with (fail)
  generalize (w.alloc (.cells #[.int .i64 ki, .int .i64 ra, .int .i64 rb, .int .i64 rc, .slice sa ss.length cap] 56)).alloc (.cells #[.int .i64 0, .int .i64 0, .int .i64 0, .int .i64 0, .int .i64 0, .slice none 0 0, .int .i64 0, .int .i64 0, .slice none 0 0, .slice none 0 0, .int .i64 0, .int .i64 0, .slice none 0 0, .int .i64 0, .int .i64 0, .slice none 0 0, .slice none 0 0, .slice none 0 0, .int .i64 0] 47) = W0 at hA0 q0 q1 ⊢
  go_cut [3] (fun v wx => ∃ b, v = .pointer (some ⟨b, 0, none⟩) ∧ w.heap.size + 1 < b ∧ Below w.heap.size w wx ∧ wx.heap[w.heap.size]? = some (.cells #[.int .i64 ki, .int .i64 ra, .int .i64 rb, .int .i64 rc, .slice sa ss.length cap] 56 (0, 0)) ∧ wx.heap[w.heap.size + 1]? = some (.cells #[.int .i64 0, .int .i64 0, .int .i64 0, .int .i64 0, .int .i64 0, .slice none 0 0, .int .i64 0, .int .i64 0, .slice none 0 0, .slice none 0 0, .int .i64 0, .int .i64 0, .slice none 0 0, .int .i64 0, .int .i64 0, .slice none 0 0, .slice none 0 0, .slice none 0 0, .int .i64 0] 47 (0, 0)) ∧ wx.heap[b]? = some (.cells #[.int .i64 (pk rc 4), .int .i64 (pk rb 4), .int .i64 (1 + pk ki 5), .int .i64 0, .int .i64 0, .slice none 0 0, .int .i64 0, .int .i64 0, .slice none 0 0, .slice none 0 0, .int .i64 0, .int .i64 0, .slice none 0 0, .int .i64 0, .int .i64 0, .slice none 0 0, .slice none 0 0, .slice none 0 0, .int .i64 0] 47 (0, 0)))
  case first =>
      have hV : Below w.heap.size w W0.drew := hA0.drew
      have qV0 : W0.drew.heap[w.heap.size]? = some (.cells #[.int .i64 ki, .int .i64 ra, .int .i64 rb, .int .i64 rc, .slice sa ss.length cap] 56 (0, 0)) := q0
      have qV1 : W0.drew.heap[w.heap.size + 1]? = some (.cells #[.int .i64 0, .int .i64 0, .int .i64 0, .int .i64 0, .int .i64 0, .slice none 0 0, .int .i64 0, .int .i64 0, .slice none 0 0, .slice none 0 0, .int .i64 0, .int .i64 0, .slice none 0 0, .int .i64 0, .int .i64 0, .slice none 0 0, .slice none 0 0, .slice none 0 0, .int .i64 0] 47 (0, 0)) := q1
      have hA := hV.alloc hV.size (.cells #[.int .i64 0, .int .i64 0, .int .i64 0, .int .i64 0, .int .i64 0, .slice none 0 0, .int .i64 0, .int .i64 0, .slice none 0 0, .slice none 0 0, .int .i64 0, .int .i64 0, .slice none 0 0, .int .i64 0, .int .i64 0, .slice none 0 0, .slice none 0 0, .slice none 0 0, .int .i64 0] 47)
      have qA0 := heap_keep (o := .cells #[.int .i64 0, .int .i64 0, .int .i64 0, .int .i64 0, .int .i64 0, .slice none 0 0, .int .i64 0, .int .i64 0, .slice none 0 0, .slice none 0 0, .int .i64 0, .int .i64 0, .slice none 0 0, .int .i64 0, .int .i64 0, .slice none 0 0, .slice none 0 0, .slice none 0 0, .int .i64 0] 47) qV0
      have qA1 := heap_keep (o := .cells #[.int .i64 0, .int .i64 0, .int .i64 0, .int .i64 0, .int .i64 0, .slice none 0 0, .int .i64 0, .int .i64 0, .slice none 0 0, .slice none 0 0, .int .i64 0, .int .i64 0, .slice none 0 0, .int .i64 0, .int .i64 0, .slice none 0 0, .slice none 0 0, .slice none 0 0, .int .i64 0] 47) qV1
      have qN := heap_alloc_new W0.drew (.cells #[.int .i64 0, .int .i64 0, .int .i64 0, .int .i64 0, .int .i64 0, .slice none 0 0, .int .i64 0, .int .i64 0, .slice none 0 0, .slice none 0 0, .int .i64 0, .int .i64 0, .slice none 0 0, .int .i64 0, .int .i64 0, .slice none 0 0, .slice none 0 0, .slice none 0 0, .int .i64 0] 47)
      have hlt1 := lt_of_heap qV1
      have hne0 : w.heap.size ≠ W0.drew.heap.size := by omega
      have hne1 : w.heap.size + 1 ≠ W0.drew.heap.size := by omega
      have hle0 : w.heap.size ≤ W0.drew.heap.size := by omega
      refine wp_region_held_drew (S := (fun w' => w'.cell? ⟨w.heap.size, 0, none⟩ = some (.int .i64 ki) ∧ w'.cell? ⟨w.heap.size, 2, none⟩ = some (.int .i64 rb) ∧ w'.cell? ⟨w.heap.size, 3, none⟩ = some (.int .i64 rc))) (by kernel_rfl) ⟨cells_at q0 0 _ rfl, cells_at q0 2 _ rfl, cells_at q0 3 _ rfl⟩ (fun hHeld => ?_)
      generalize W0.drew = V0 at *
      refine take_dst (i := 0) (d := 4) (v := .pointer (some ⟨w.heap.size, 3, none⟩)) rfl rfl (by kernel_rfl) (by kernel_rfl) (by kernel_rfl) (fun _ _ _ h => h) (Or.inl ⟨by rfl, ?_⟩) hHeld ?_
      · (intro w0 hSw; (try dsimp only at hSw); go_simp)
      simp only [Act.put, List.setIfInBounds_toArray, List.set_cons_zero, List.set_cons_succ]
      refine take_dst (i := 1) (d := 5) (v := .int .i64 rc) rfl rfl (by kernel_rfl) (by kernel_rfl) (by kernel_rfl) (fun _ _ _ h => h) (Or.inl ⟨by rfl, ?_⟩) hHeld ?_
      · (intro w0 hSw; (try dsimp only at hSw); go_simp)
      simp only [Act.put, List.setIfInBounds_toArray, List.set_cons_zero, List.set_cons_succ]
      refine take_dst (i := 3) (d := 7) (v := .pointer (some ⟨w.heap.size, 2, none⟩)) rfl rfl (by kernel_rfl) (by kernel_rfl) (by kernel_rfl) (fun _ _ _ h => h) (Or.inl ⟨by rfl, ?_⟩) hHeld ?_
      · (intro w0 hSw; (try dsimp only at hSw); go_simp)
      simp only [Act.put, List.setIfInBounds_toArray, List.set_cons_zero, List.set_cons_succ]
      refine take_dst (i := 4) (d := 8) (v := .int .i64 rb) rfl rfl (by kernel_rfl) (by kernel_rfl) (by kernel_rfl) (fun _ _ _ h => h) (Or.inl ⟨by rfl, ?_⟩) hHeld ?_
      · (intro w0 hSw; (try dsimp only at hSw); go_simp)
      simp only [Act.put, List.setIfInBounds_toArray, List.set_cons_zero, List.set_cons_succ]
      refine take_dst (i := 6) (d := 10) (v := .pointer (some ⟨w.heap.size, 0, none⟩)) rfl rfl (by kernel_rfl) (by kernel_rfl) (by kernel_rfl) (fun _ _ _ h => h) (Or.inl ⟨by rfl, ?_⟩) hHeld ?_
      · (intro w0 hSw; (try dsimp only at hSw); go_simp)
      simp only [Act.put, List.setIfInBounds_toArray, List.set_cons_zero, List.set_cons_succ]
      refine take_dst (i := 7) (d := 11) (v := .int .i64 ki) rfl rfl (by kernel_rfl) (by kernel_rfl) (by kernel_rfl) (fun _ _ _ h => h) (Or.inl ⟨by rfl, ?_⟩) hHeld ?_
      · (intro w0 hSw; (try dsimp only at hSw); go_simp)
      simp only [Act.put, List.setIfInBounds_toArray, List.set_cons_zero, List.set_cons_succ]
      refine wpAnyH_ready (rs := [2, 11]) (by kernel_rfl) (by simp) (AllReadyH.cons rfl (fun K hK => ?_) (AllReadyH.cons rfl (fun K hK => ?_) AllReadyH.nil))
      · skip
        refine step_calls_dst rfl 6 rfl 10 [.tmp 5, .const (.int .i64 4)] #[3, 3] rfl [.int .i64 rc, .int .i64 4] rfl (enters_of Try.func10 (by kernel_rfl) rfl) (fun v w' => v = .int .i64 (pk rc 4) ∧ V0 = w') ((picked_any rc 4 V0 h4.1 h4.2 (by omega) (by omega)).mono (fun e w2 h => ⟨_, h.1, rfl, h.2⟩)) ?_
        rintro v w' ⟨rfl, rfl⟩
        refine hK.out _ _ ⟨cells_at qV0 0 _ rfl, cells_at qV0 2 _ rfl, cells_at qV0 3 _ rfl⟩ (fun hHeld => ?_)
        simp only [Act.put, List.setIfInBounds_toArray, List.set_cons_zero, List.set_cons_succ]
        refine wpAnyH_ready (rs := [5, 11]) (by kernel_rfl) (by simp) (AllReadyH.cons rfl (fun K hK => ?_) (AllReadyH.cons rfl (fun K hK => ?_) AllReadyH.nil))
        · skip
          refine step_calls_dst rfl 9 rfl 10 [.tmp 8, .const (.int .i64 4)] #[3, 3] rfl [.int .i64 rb, .int .i64 4] rfl (enters_of Try.func10 (by kernel_rfl) rfl) (fun v w' => v = .int .i64 (pk rb 4) ∧ V0 = w') ((picked_any rb 4 V0 h3.1 h3.2 (by omega) (by omega)).mono (fun e w2 h => ⟨_, h.1, rfl, h.2⟩)) ?_
          rintro v w' ⟨rfl, rfl⟩
          refine hK.out _ _ ⟨cells_at qV0 0 _ rfl, cells_at qV0 2 _ rfl, cells_at qV0 3 _ rfl⟩ (fun hHeld => ?_)
          simp only [Act.put, List.setIfInBounds_toArray, List.set_cons_zero, List.set_cons_succ]
          refine wpAnyH_ready (rs := [8, 11]) (by kernel_rfl) (by simp) (AllReadyH.cons rfl (fun K hK => ?_) (AllReadyH.cons rfl (fun K hK => ?_) AllReadyH.nil))
          · skip
            refine step_calls_dst rfl 12 rfl 10 [.tmp 11, .const (.int .i64 5)] #[3, 3] rfl [.int .i64 ki, .int .i64 5] rfl (enters_of Try.func10 (by kernel_rfl) rfl) (fun v w' => v = .int .i64 (pk ki 5) ∧ V0 = w') ((picked_any ki 5 V0 h1.1 h1.2 (by omega) (by omega)).mono (fun e w2 h => ⟨_, h.1, rfl, h.2⟩)) ?_
            rintro v w' ⟨rfl, rfl⟩
            refine hK.out _ _ ⟨cells_at qV0 0 _ rfl, cells_at qV0 2 _ rfl, cells_at qV0 3 _ rfl⟩ (fun hHeld => ?_)
            simp only [Act.put, List.setIfInBounds_toArray, List.set_cons_zero, List.set_cons_succ]
            refine take_dst (i := 9) (d := 13) (v := .int .i64 (1 + pk ki 5)) rfl rfl (by kernel_rfl) (by kernel_rfl) (by kernel_rfl) (fun _ _ _ h => h) (Or.inl ⟨by rfl, ?_⟩) hHeld ?_
            · (intro w0 hSw; (try dsimp only at hSw); go_simp)
            simp only [Act.put, List.setIfInBounds_toArray, List.set_cons_zero, List.set_cons_succ]
            refine take_dst (i := 10) (d := 14) (v := .agg #[.int .i64 (pk rc 4), .int .i64 (pk rb 4), .int .i64 (1 + pk ki 5), .int .i64 0, .int .i64 0, .slice none 0 0, .int .i64 0, .int .i64 0, .slice none 0 0, .slice none 0 0, .int .i64 0, .int .i64 0, .slice none 0 0, .int .i64 0, .int .i64 0, .slice none 0 0, .slice none 0 0, .slice none 0 0, .int .i64 0]) rfl rfl (by kernel_rfl) (by kernel_rfl) (by kernel_rfl) (fun _ _ _ h => h) (Or.inl ⟨by rfl, ?_⟩) hHeld ?_
            · (intro w0 hSw; (try dsimp only at hSw); go_simp)
            simp only [Act.put, List.setIfInBounds_toArray, List.set_cons_zero, List.set_cons_succ]
            refine wpAnyH_ready (rs := [11]) (by kernel_rfl) (by simp) (AllReadyH.cons rfl (fun K hK => ?_) AllReadyH.nil)
            refine step_run rfl 3 rfl (.pointer (some ⟨V0.heap.size, 0, none⟩)) (V0.alloc (.cells #[.int .i64 0, .int .i64 0, .int .i64 0, .int .i64 0, .int .i64 0, .slice none 0 0, .int .i64 0, .int .i64 0, .slice none 0 0, .slice none 0 0, .int .i64 0, .int .i64 0, .slice none 0 0, .int .i64 0, .int .i64 0, .slice none 0 0, .slice none 0 0, .slice none 0 0, .int .i64 0] 47)) (by go_simp) ?_
            refine hK.out _ _ ⟨cells_at qA0 0 _ rfl, cells_at qA0 2 _ rfl, cells_at qA0 3 _ rfl⟩ (fun hHeld => ?_)
            simp only [Act.put, List.setIfInBounds_toArray, List.set_cons_zero, List.set_cons_succ]
            generalize V0.alloc (.cells #[.int .i64 0, .int .i64 0, .int .i64 0, .int .i64 0, .int .i64 0, .slice none 0 0, .int .i64 0, .int .i64 0, .slice none 0 0, .slice none 0 0, .int .i64 0, .int .i64 0, .slice none 0 0, .int .i64 0, .int .i64 0, .slice none 0 0, .slice none 0 0, .slice none 0 0, .int .i64 0] 47) = V1 at hA qA0 qA1 qN hHeld ⊢
            refine wpAnyH_ready (rs := [12]) (by kernel_rfl) (by simp) (AllReadyH.cons rfl (fun K hK => ?_) AllReadyH.nil)
            refine step_store_row rfl rfl 47 (.tmp 3) (.tmp 14) rfl V0.heap.size #[.int .i64 (pk rc 4), .int .i64 (pk rb 4), .int .i64 (1 + pk ki 5), .int .i64 0, .int .i64 0, .slice none 0 0, .int .i64 0, .int .i64 0, .slice none 0 0, .slice none 0 0, .int .i64 0, .int .i64 0, .slice none 0 0, .int .i64 0, .int .i64 0, .slice none 0 0, .slice none 0 0, .slice none 0 0, .int .i64 0] rfl rfl 47 _ qN sMsg' rfl (by simp [Value.oneCell']) ?_
            have qF0 := (setRow_other V1 V0.heap.size w.heap.size #[.int .i64 (pk rc 4), .int .i64 (pk rb 4), .int .i64 (1 + pk ki 5), .int .i64 0, .int .i64 0, .slice none 0 0, .int .i64 0, .int .i64 0, .slice none 0 0, .slice none 0 0, .int .i64 0, .int .i64 0, .slice none 0 0, .int .i64 0, .int .i64 0, .slice none 0 0, .slice none 0 0, .slice none 0 0, .int .i64 0] hne0).trans qA0
            have qF1 := (setRow_other V1 V0.heap.size (w.heap.size + 1) #[.int .i64 (pk rc 4), .int .i64 (pk rb 4), .int .i64 (1 + pk ki 5), .int .i64 0, .int .i64 0, .slice none 0 0, .int .i64 0, .int .i64 0, .slice none 0 0, .slice none 0 0, .int .i64 0, .int .i64 0, .slice none 0 0, .int .i64 0, .int .i64 0, .slice none 0 0, .slice none 0 0, .slice none 0 0, .int .i64 0] hne1).trans qA1
            have qFN := setRow_heap V1 V0.heap.size _ #[.int .i64 (pk rc 4), .int .i64 (pk rb 4), .int .i64 (1 + pk ki 5), .int .i64 0, .int .i64 0, .slice none 0 0, .int .i64 0, .int .i64 0, .slice none 0 0, .slice none 0 0, .int .i64 0, .int .i64 0, .slice none 0 0, .int .i64 0, .int .i64 0, .slice none 0 0, .slice none 0 0, .slice none 0 0, .int .i64 0] _ _ qN
            have hF := (Upd.setRow (cs := #[.int .i64 (pk rc 4), .int .i64 (pk rb 4), .int .i64 (1 + pk ki 5), .int .i64 0, .int .i64 0, .slice none 0 0, .int .i64 0, .int .i64 0, .slice none 0 0, .slice none 0 0, .int .i64 0, .int .i64 0, .slice none 0 0, .int .i64 0, .int .i64 0, .slice none 0 0, .slice none 0 0, .slice none 0 0, .int .i64 0]) qN).below hA hA.size hle0
            refine hK.out _ _ ⟨cells_at qF0 0 _ rfl, cells_at qF0 2 _ rfl, cells_at qF0 3 _ rfl⟩ (fun hHeld => ?_)
            generalize V1.setRow V0.heap.size #[.int .i64 (pk rc 4), .int .i64 (pk rb 4), .int .i64 (1 + pk ki 5), .int .i64 0, .int .i64 0, .slice none 0 0, .int .i64 0, .int .i64 0, .slice none 0 0, .slice none 0 0, .int .i64 0, .int .i64 0, .slice none 0 0, .int .i64 0, .int .i64 0, .slice none 0 0, .slice none 0 0, .slice none 0 0, .int .i64 0] = VF at *
            refine wpAnyH_done (by kernel_rfl) ?_ _
            go_wp2_with fail
            go_meet
            case rel => exact ⟨V0.heap.size, rfl, by omega, hF, qF0, qF1, qFN⟩
          · skip
            refine step_run rfl 3 rfl (.pointer (some ⟨V0.heap.size, 0, none⟩)) (V0.alloc (.cells #[.int .i64 0, .int .i64 0, .int .i64 0, .int .i64 0, .int .i64 0, .slice none 0 0, .int .i64 0, .int .i64 0, .slice none 0 0, .slice none 0 0, .int .i64 0, .int .i64 0, .slice none 0 0, .int .i64 0, .int .i64 0, .slice none 0 0, .slice none 0 0, .slice none 0 0, .int .i64 0] 47)) (by go_simp) ?_
            refine hK.out _ _ ⟨cells_at qA0 0 _ rfl, cells_at qA0 2 _ rfl, cells_at qA0 3 _ rfl⟩ (fun hHeld => ?_)
            simp only [Act.put, List.setIfInBounds_toArray, List.set_cons_zero, List.set_cons_succ]
            generalize V0.alloc (.cells #[.int .i64 0, .int .i64 0, .int .i64 0, .int .i64 0, .int .i64 0, .slice none 0 0, .int .i64 0, .int .i64 0, .slice none 0 0, .slice none 0 0, .int .i64 0, .int .i64 0, .slice none 0 0, .int .i64 0, .int .i64 0, .slice none 0 0, .slice none 0 0, .slice none 0 0, .int .i64 0] 47) = V1 at hA qA0 qA1 qN hHeld ⊢
            refine wpAnyH_ready (rs := [8]) (by kernel_rfl) (by simp) (AllReadyH.cons rfl (fun K hK => ?_) AllReadyH.nil)
            refine step_calls_dst rfl 12 rfl 10 [.tmp 11, .const (.int .i64 5)] #[3, 3] rfl [.int .i64 ki, .int .i64 5] rfl (enters_of Try.func10 (by kernel_rfl) rfl) (fun v w' => v = .int .i64 (pk ki 5) ∧ V1 = w') ((picked_any ki 5 V1 h1.1 h1.2 (by omega) (by omega)).mono (fun e w2 h => ⟨_, h.1, rfl, h.2⟩)) ?_
            rintro v w' ⟨rfl, rfl⟩
            refine hK.out _ _ ⟨cells_at qA0 0 _ rfl, cells_at qA0 2 _ rfl, cells_at qA0 3 _ rfl⟩ (fun hHeld => ?_)
            simp only [Act.put, List.setIfInBounds_toArray, List.set_cons_zero, List.set_cons_succ]
            refine take_dst (i := 9) (d := 13) (v := .int .i64 (1 + pk ki 5)) rfl rfl (by kernel_rfl) (by kernel_rfl) (by kernel_rfl) (fun _ _ _ h => h) (Or.inl ⟨by rfl, ?_⟩) hHeld ?_
            · (intro w0 hSw; (try dsimp only at hSw); go_simp)
            simp only [Act.put, List.setIfInBounds_toArray, List.set_cons_zero, List.set_cons_succ]
            refine take_dst (i := 10) (d := 14) (v := .agg #[.int .i64 (pk rc 4), .int .i64 (pk rb 4), .int .i64 (1 + pk ki 5), .int .i64 0, .int .i64 0, .slice none 0 0, .int .i64 0, .int .i64 0, .slice none 0 0, .slice none 0 0, .int .i64 0, .int .i64 0, .slice none 0 0, .int .i64 0, .int .i64 0, .slice none 0 0, .slice none 0 0, .slice none 0 0, .int .i64 0]) rfl rfl (by kernel_rfl) (by kernel_rfl) (by kernel_rfl) (fun _ _ _ h => h) (Or.inl ⟨by rfl, ?_⟩) hHeld ?_
            · (intro w0 hSw; (try dsimp only at hSw); go_simp)
            simp only [Act.put, List.setIfInBounds_toArray, List.set_cons_zero, List.set_cons_succ]
            refine wpAnyH_ready (rs := [12]) (by kernel_rfl) (by simp) (AllReadyH.cons rfl (fun K hK => ?_) AllReadyH.nil)
            refine step_store_row rfl rfl 47 (.tmp 3) (.tmp 14) rfl V0.heap.size #[.int .i64 (pk rc 4), .int .i64 (pk rb 4), .int .i64 (1 + pk ki 5), .int .i64 0, .int .i64 0, .slice none 0 0, .int .i64 0, .int .i64 0, .slice none 0 0, .slice none 0 0, .int .i64 0, .int .i64 0, .slice none 0 0, .int .i64 0, .int .i64 0, .slice none 0 0, .slice none 0 0, .slice none 0 0, .int .i64 0] rfl rfl 47 _ qN sMsg' rfl (by simp [Value.oneCell']) ?_
            have qF0 := (setRow_other V1 V0.heap.size w.heap.size #[.int .i64 (pk rc 4), .int .i64 (pk rb 4), .int .i64 (1 + pk ki 5), .int .i64 0, .int .i64 0, .slice none 0 0, .int .i64 0, .int .i64 0, .slice none 0 0, .slice none 0 0, .int .i64 0, .int .i64 0, .slice none 0 0, .int .i64 0, .int .i64 0, .slice none 0 0, .slice none 0 0, .slice none 0 0, .int .i64 0] hne0).trans qA0
            have qF1 := (setRow_other V1 V0.heap.size (w.heap.size + 1) #[.int .i64 (pk rc 4), .int .i64 (pk rb 4), .int .i64 (1 + pk ki 5), .int .i64 0, .int .i64 0, .slice none 0 0, .int .i64 0, .int .i64 0, .slice none 0 0, .slice none 0 0, .int .i64 0, .int .i64 0, .slice none 0 0, .int .i64 0, .int .i64 0, .slice none 0 0, .slice none 0 0, .slice none 0 0, .int .i64 0] hne1).trans qA1
            have qFN := setRow_heap V1 V0.heap.size _ #[.int .i64 (pk rc 4), .int .i64 (pk rb 4), .int .i64 (1 + pk ki 5), .int .i64 0, .int .i64 0, .slice none 0 0, .int .i64 0, .int .i64 0, .slice none 0 0, .slice none 0 0, .int .i64 0, .int .i64 0, .slice none 0 0, .int .i64 0, .int .i64 0, .slice none 0 0, .slice none 0 0, .slice none 0 0, .int .i64 0] _ _ qN
            have hF := (Upd.setRow (cs := #[.int .i64 (pk rc 4), .int .i64 (pk rb 4), .int .i64 (1 + pk ki 5), .int .i64 0, .int .i64 0, .slice none 0 0, .int .i64 0, .int .i64 0, .slice none 0 0, .slice none 0 0, .int .i64 0, .int .i64 0, .slice none 0 0, .int .i64 0, .int .i64 0, .slice none 0 0, .slice none 0 0, .slice none 0 0, .int .i64 0]) qN).below hA hA.size hle0
            refine hK.out _ _ ⟨cells_at qF0 0 _ rfl, cells_at qF0 2 _ rfl, cells_at qF0 3 _ rfl⟩ (fun hHeld => ?_)
            generalize V1.setRow V0.heap.size #[.int .i64 (pk rc 4), .int .i64 (pk rb 4), .int .i64 (1 + pk ki 5), .int .i64 0, .int .i64 0, .slice none 0 0, .int .i64 0, .int .i64 0, .slice none 0 0, .slice none 0 0, .int .i64 0, .int .i64 0, .slice none 0 0, .int .i64 0, .int .i64 0, .slice none 0 0, .slice none 0 0, .slice none 0 0, .int .i64 0] = VF at *
            refine wpAnyH_done (by kernel_rfl) ?_ _
            go_wp2_with fail
            go_meet
            case rel => exact ⟨V0.heap.size, rfl, by omega, hF, qF0, qF1, qFN⟩
        · skip
          refine step_run rfl 3 rfl (.pointer (some ⟨V0.heap.size, 0, none⟩)) (V0.alloc (.cells #[.int .i64 0, .int .i64 0, .int .i64 0, .int .i64 0, .int .i64 0, .slice none 0 0, .int .i64 0, .int .i64 0, .slice none 0 0, .slice none 0 0, .int .i64 0, .int .i64 0, .slice none 0 0, .int .i64 0, .int .i64 0, .slice none 0 0, .slice none 0 0, .slice none 0 0, .int .i64 0] 47)) (by go_simp) ?_
          refine hK.out _ _ ⟨cells_at qA0 0 _ rfl, cells_at qA0 2 _ rfl, cells_at qA0 3 _ rfl⟩ (fun hHeld => ?_)
          simp only [Act.put, List.setIfInBounds_toArray, List.set_cons_zero, List.set_cons_succ]
          generalize V0.alloc (.cells #[.int .i64 0, .int .i64 0, .int .i64 0, .int .i64 0, .int .i64 0, .slice none 0 0, .int .i64 0, .int .i64 0, .slice none 0 0, .slice none 0 0, .int .i64 0, .int .i64 0, .slice none 0 0, .int .i64 0, .int .i64 0, .slice none 0 0, .slice none 0 0, .slice none 0 0, .int .i64 0] 47) = V1 at hA qA0 qA1 qN hHeld ⊢
          refine wpAnyH_ready (rs := [5]) (by kernel_rfl) (by simp) (AllReadyH.cons rfl (fun K hK => ?_) AllReadyH.nil)
          refine step_calls_dst rfl 9 rfl 10 [.tmp 8, .const (.int .i64 4)] #[3, 3] rfl [.int .i64 rb, .int .i64 4] rfl (enters_of Try.func10 (by kernel_rfl) rfl) (fun v w' => v = .int .i64 (pk rb 4) ∧ V1 = w') ((picked_any rb 4 V1 h3.1 h3.2 (by omega) (by omega)).mono (fun e w2 h => ⟨_, h.1, rfl, h.2⟩)) ?_
          rintro v w' ⟨rfl, rfl⟩
          refine hK.out _ _ ⟨cells_at qA0 0 _ rfl, cells_at qA0 2 _ rfl, cells_at qA0 3 _ rfl⟩ (fun hHeld => ?_)
          simp only [Act.put, List.setIfInBounds_toArray, List.set_cons_zero, List.set_cons_succ]
          refine wpAnyH_ready (rs := [8]) (by kernel_rfl) (by simp) (AllReadyH.cons rfl (fun K hK => ?_) AllReadyH.nil)
          refine step_calls_dst rfl 12 rfl 10 [.tmp 11, .const (.int .i64 5)] #[3, 3] rfl [.int .i64 ki, .int .i64 5] rfl (enters_of Try.func10 (by kernel_rfl) rfl) (fun v w' => v = .int .i64 (pk ki 5) ∧ V1 = w') ((picked_any ki 5 V1 h1.1 h1.2 (by omega) (by omega)).mono (fun e w2 h => ⟨_, h.1, rfl, h.2⟩)) ?_
          rintro v w' ⟨rfl, rfl⟩
          refine hK.out _ _ ⟨cells_at qA0 0 _ rfl, cells_at qA0 2 _ rfl, cells_at qA0 3 _ rfl⟩ (fun hHeld => ?_)
          simp only [Act.put, List.setIfInBounds_toArray, List.set_cons_zero, List.set_cons_succ]
          refine take_dst (i := 9) (d := 13) (v := .int .i64 (1 + pk ki 5)) rfl rfl (by kernel_rfl) (by kernel_rfl) (by kernel_rfl) (fun _ _ _ h => h) (Or.inl ⟨by rfl, ?_⟩) hHeld ?_
          · (intro w0 hSw; (try dsimp only at hSw); go_simp)
          simp only [Act.put, List.setIfInBounds_toArray, List.set_cons_zero, List.set_cons_succ]
          refine take_dst (i := 10) (d := 14) (v := .agg #[.int .i64 (pk rc 4), .int .i64 (pk rb 4), .int .i64 (1 + pk ki 5), .int .i64 0, .int .i64 0, .slice none 0 0, .int .i64 0, .int .i64 0, .slice none 0 0, .slice none 0 0, .int .i64 0, .int .i64 0, .slice none 0 0, .int .i64 0, .int .i64 0, .slice none 0 0, .slice none 0 0, .slice none 0 0, .int .i64 0]) rfl rfl (by kernel_rfl) (by kernel_rfl) (by kernel_rfl) (fun _ _ _ h => h) (Or.inl ⟨by rfl, ?_⟩) hHeld ?_
          · (intro w0 hSw; (try dsimp only at hSw); go_simp)
          simp only [Act.put, List.setIfInBounds_toArray, List.set_cons_zero, List.set_cons_succ]
          refine wpAnyH_ready (rs := [12]) (by kernel_rfl) (by simp) (AllReadyH.cons rfl (fun K hK => ?_) AllReadyH.nil)
          refine step_store_row rfl rfl 47 (.tmp 3) (.tmp 14) rfl V0.heap.size #[.int .i64 (pk rc 4), .int .i64 (pk rb 4), .int .i64 (1 + pk ki 5), .int .i64 0, .int .i64 0, .slice none 0 0, .int .i64 0, .int .i64 0, .slice none 0 0, .slice none 0 0, .int .i64 0, .int .i64 0, .slice none 0 0, .int .i64 0, .int .i64 0, .slice none 0 0, .slice none 0 0, .slice none 0 0, .int .i64 0] rfl rfl 47 _ qN sMsg' rfl (by simp [Value.oneCell']) ?_
          have qF0 := (setRow_other V1 V0.heap.size w.heap.size #[.int .i64 (pk rc 4), .int .i64 (pk rb 4), .int .i64 (1 + pk ki 5), .int .i64 0, .int .i64 0, .slice none 0 0, .int .i64 0, .int .i64 0, .slice none 0 0, .slice none 0 0, .int .i64 0, .int .i64 0, .slice none 0 0, .int .i64 0, .int .i64 0, .slice none 0 0, .slice none 0 0, .slice none 0 0, .int .i64 0] hne0).trans qA0
          have qF1 := (setRow_other V1 V0.heap.size (w.heap.size + 1) #[.int .i64 (pk rc 4), .int .i64 (pk rb 4), .int .i64 (1 + pk ki 5), .int .i64 0, .int .i64 0, .slice none 0 0, .int .i64 0, .int .i64 0, .slice none 0 0, .slice none 0 0, .int .i64 0, .int .i64 0, .slice none 0 0, .int .i64 0, .int .i64 0, .slice none 0 0, .slice none 0 0, .slice none 0 0, .int .i64 0] hne1).trans qA1
          have qFN := setRow_heap V1 V0.heap.size _ #[.int .i64 (pk rc 4), .int .i64 (pk rb 4), .int .i64 (1 + pk ki 5), .int .i64 0, .int .i64 0, .slice none 0 0, .int .i64 0, .int .i64 0, .slice none 0 0, .slice none 0 0, .int .i64 0, .int .i64 0, .slice none 0 0, .int .i64 0, .int .i64 0, .slice none 0 0, .slice none 0 0, .slice none 0 0, .int .i64 0] _ _ qN
          have hF := (Upd.setRow (cs := #[.int .i64 (pk rc 4), .int .i64 (pk rb 4), .int .i64 (1 + pk ki 5), .int .i64 0, .int .i64 0, .slice none 0 0, .int .i64 0, .int .i64 0, .slice none 0 0, .slice none 0 0, .int .i64 0, .int .i64 0, .slice none 0 0, .int .i64 0, .int .i64 0, .slice none 0 0, .slice none 0 0, .slice none 0 0, .int .i64 0]) qN).below hA hA.size hle0
          refine hK.out _ _ ⟨cells_at qF0 0 _ rfl, cells_at qF0 2 _ rfl, cells_at qF0 3 _ rfl⟩ (fun hHeld => ?_)
          generalize V1.setRow V0.heap.size #[.int .i64 (pk rc 4), .int .i64 (pk rb 4), .int .i64 (1 + pk ki 5), .int .i64 0, .int .i64 0, .slice none 0 0, .int .i64 0, .int .i64 0, .slice none 0 0, .slice none 0 0, .int .i64 0, .int .i64 0, .slice none 0 0, .int .i64 0, .int .i64 0, .slice none 0 0, .slice none 0 0, .slice none 0 0, .int .i64 0] = VF at *
          refine wpAnyH_done (by kernel_rfl) ?_ _
          go_wp2_with fail
          go_meet
          case rel => exact ⟨V0.heap.size, rfl, by omega, hF, qF0, qF1, qFN⟩
      · skip
        refine step_run rfl 3 rfl (.pointer (some ⟨V0.heap.size, 0, none⟩)) (V0.alloc (.cells #[.int .i64 0, .int .i64 0, .int .i64 0, .int .i64 0, .int .i64 0, .slice none 0 0, .int .i64 0, .int .i64 0, .slice none 0 0, .slice none 0 0, .int .i64 0, .int .i64 0, .slice none 0 0, .int .i64 0, .int .i64 0, .slice none 0 0, .slice none 0 0, .slice none 0 0, .int .i64 0] 47)) (by go_simp) ?_
        refine hK.out _ _ ⟨cells_at qA0 0 _ rfl, cells_at qA0 2 _ rfl, cells_at qA0 3 _ rfl⟩ (fun hHeld => ?_)
        simp only [Act.put, List.setIfInBounds_toArray, List.set_cons_zero, List.set_cons_succ]
        generalize V0.alloc (.cells #[.int .i64 0, .int .i64 0, .int .i64 0, .int .i64 0, .int .i64 0, .slice none 0 0, .int .i64 0, .int .i64 0, .slice none 0 0, .slice none 0 0, .int .i64 0, .int .i64 0, .slice none 0 0, .int .i64 0, .int .i64 0, .slice none 0 0, .slice none 0 0, .slice none 0 0, .int .i64 0] 47) = V1 at hA qA0 qA1 qN hHeld ⊢
        refine wpAnyH_ready (rs := [2]) (by kernel_rfl) (by simp) (AllReadyH.cons rfl (fun K hK => ?_) AllReadyH.nil)
        refine step_calls_dst rfl 6 rfl 10 [.tmp 5, .const (.int .i64 4)] #[3, 3] rfl [.int .i64 rc, .int .i64 4] rfl (enters_of Try.func10 (by kernel_rfl) rfl) (fun v w' => v = .int .i64 (pk rc 4) ∧ V1 = w') ((picked_any rc 4 V1 h4.1 h4.2 (by omega) (by omega)).mono (fun e w2 h => ⟨_, h.1, rfl, h.2⟩)) ?_
        rintro v w' ⟨rfl, rfl⟩
        refine hK.out _ _ ⟨cells_at qA0 0 _ rfl, cells_at qA0 2 _ rfl, cells_at qA0 3 _ rfl⟩ (fun hHeld => ?_)
        simp only [Act.put, List.setIfInBounds_toArray, List.set_cons_zero, List.set_cons_succ]
        refine wpAnyH_ready (rs := [5]) (by kernel_rfl) (by simp) (AllReadyH.cons rfl (fun K hK => ?_) AllReadyH.nil)
        refine step_calls_dst rfl 9 rfl 10 [.tmp 8, .const (.int .i64 4)] #[3, 3] rfl [.int .i64 rb, .int .i64 4] rfl (enters_of Try.func10 (by kernel_rfl) rfl) (fun v w' => v = .int .i64 (pk rb 4) ∧ V1 = w') ((picked_any rb 4 V1 h3.1 h3.2 (by omega) (by omega)).mono (fun e w2 h => ⟨_, h.1, rfl, h.2⟩)) ?_
        rintro v w' ⟨rfl, rfl⟩
        refine hK.out _ _ ⟨cells_at qA0 0 _ rfl, cells_at qA0 2 _ rfl, cells_at qA0 3 _ rfl⟩ (fun hHeld => ?_)
        simp only [Act.put, List.setIfInBounds_toArray, List.set_cons_zero, List.set_cons_succ]
        refine wpAnyH_ready (rs := [8]) (by kernel_rfl) (by simp) (AllReadyH.cons rfl (fun K hK => ?_) AllReadyH.nil)
        refine step_calls_dst rfl 12 rfl 10 [.tmp 11, .const (.int .i64 5)] #[3, 3] rfl [.int .i64 ki, .int .i64 5] rfl (enters_of Try.func10 (by kernel_rfl) rfl) (fun v w' => v = .int .i64 (pk ki 5) ∧ V1 = w') ((picked_any ki 5 V1 h1.1 h1.2 (by omega) (by omega)).mono (fun e w2 h => ⟨_, h.1, rfl, h.2⟩)) ?_
        rintro v w' ⟨rfl, rfl⟩
        refine hK.out _ _ ⟨cells_at qA0 0 _ rfl, cells_at qA0 2 _ rfl, cells_at qA0 3 _ rfl⟩ (fun hHeld => ?_)
        simp only [Act.put, List.setIfInBounds_toArray, List.set_cons_zero, List.set_cons_succ]
        refine take_dst (i := 9) (d := 13) (v := .int .i64 (1 + pk ki 5)) rfl rfl (by kernel_rfl) (by kernel_rfl) (by kernel_rfl) (fun _ _ _ h => h) (Or.inl ⟨by rfl, ?_⟩) hHeld ?_
        · (intro w0 hSw; (try dsimp only at hSw); go_simp)
        simp only [Act.put, List.setIfInBounds_toArray, List.set_cons_zero, List.set_cons_succ]
        refine take_dst (i := 10) (d := 14) (v := .agg #[.int .i64 (pk rc 4), .int .i64 (pk rb 4), .int .i64 (1 + pk ki 5), .int .i64 0, .int .i64 0, .slice none 0 0, .int .i64 0, .int .i64 0, .slice none 0 0, .slice none 0 0, .int .i64 0, .int .i64 0, .slice none 0 0, .int .i64 0, .int .i64 0, .slice none 0 0, .slice none 0 0, .slice none 0 0, .int .i64 0]) rfl rfl (by kernel_rfl) (by kernel_rfl) (by kernel_rfl) (fun _ _ _ h => h) (Or.inl ⟨by rfl, ?_⟩) hHeld ?_
        · (intro w0 hSw; (try dsimp only at hSw); go_simp)
        simp only [Act.put, List.setIfInBounds_toArray, List.set_cons_zero, List.set_cons_succ]
        refine wpAnyH_ready (rs := [12]) (by kernel_rfl) (by simp) (AllReadyH.cons rfl (fun K hK => ?_) AllReadyH.nil)
        refine step_store_row rfl rfl 47 (.tmp 3) (.tmp 14) rfl V0.heap.size #[.int .i64 (pk rc 4), .int .i64 (pk rb 4), .int .i64 (1 + pk ki 5), .int .i64 0, .int .i64 0, .slice none 0 0, .int .i64 0, .int .i64 0, .slice none 0 0, .slice none 0 0, .int .i64 0, .int .i64 0, .slice none 0 0, .int .i64 0, .int .i64 0, .slice none 0 0, .slice none 0 0, .slice none 0 0, .int .i64 0] rfl rfl 47 _ qN sMsg' rfl (by simp [Value.oneCell']) ?_
        have qF0 := (setRow_other V1 V0.heap.size w.heap.size #[.int .i64 (pk rc 4), .int .i64 (pk rb 4), .int .i64 (1 + pk ki 5), .int .i64 0, .int .i64 0, .slice none 0 0, .int .i64 0, .int .i64 0, .slice none 0 0, .slice none 0 0, .int .i64 0, .int .i64 0, .slice none 0 0, .int .i64 0, .int .i64 0, .slice none 0 0, .slice none 0 0, .slice none 0 0, .int .i64 0] hne0).trans qA0
        have qF1 := (setRow_other V1 V0.heap.size (w.heap.size + 1) #[.int .i64 (pk rc 4), .int .i64 (pk rb 4), .int .i64 (1 + pk ki 5), .int .i64 0, .int .i64 0, .slice none 0 0, .int .i64 0, .int .i64 0, .slice none 0 0, .slice none 0 0, .int .i64 0, .int .i64 0, .slice none 0 0, .int .i64 0, .int .i64 0, .slice none 0 0, .slice none 0 0, .slice none 0 0, .int .i64 0] hne1).trans qA1
        have qFN := setRow_heap V1 V0.heap.size _ #[.int .i64 (pk rc 4), .int .i64 (pk rb 4), .int .i64 (1 + pk ki 5), .int .i64 0, .int .i64 0, .slice none 0 0, .int .i64 0, .int .i64 0, .slice none 0 0, .slice none 0 0, .int .i64 0, .int .i64 0, .slice none 0 0, .int .i64 0, .int .i64 0, .slice none 0 0, .slice none 0 0, .slice none 0 0, .int .i64 0] _ _ qN
        have hF := (Upd.setRow (cs := #[.int .i64 (pk rc 4), .int .i64 (pk rb 4), .int .i64 (1 + pk ki 5), .int .i64 0, .int .i64 0, .slice none 0 0, .int .i64 0, .int .i64 0, .slice none 0 0, .slice none 0 0, .int .i64 0, .int .i64 0, .slice none 0 0, .int .i64 0, .int .i64 0, .slice none 0 0, .slice none 0 0, .slice none 0 0, .int .i64 0]) qN).below hA hA.size hle0
        refine hK.out _ _ ⟨cells_at qF0 0 _ rfl, cells_at qF0 2 _ rfl, cells_at qF0 3 _ rfl⟩ (fun hHeld => ?_)
        generalize V1.setRow V0.heap.size #[.int .i64 (pk rc 4), .int .i64 (pk rb 4), .int .i64 (1 + pk ki 5), .int .i64 0, .int .i64 0, .slice none 0 0, .int .i64 0, .int .i64 0, .slice none 0 0, .slice none 0 0, .int .i64 0, .int .i64 0, .slice none 0 0, .int .i64 0, .int .i64 0, .slice none 0 0, .slice none 0 0, .slice none 0 0, .int .i64 0] = VF at *
        refine wpAnyH_done (by kernel_rfl) ?_ _
        go_wp2_with fail
        go_meet
        case rel => exact ⟨V0.heap.size, rfl, by omega, hF, qF0, qF1, qFN⟩
  case rest =>
      obtain ⟨b, rfl, hb1, hB, r0, r1, rB⟩ := hcut
      clear hA0 q0 q1
      have d0 : wc.cell? ⟨w.heap.size, 0, none⟩ = some (.int .i64 ki) := cells_at r0 0 _ rfl
      have d1 : wc.cell? ⟨w.heap.size, 1, none⟩ = some (.int .i64 ra) := cells_at r0 1 _ rfl
      have d2 : wc.cell? ⟨w.heap.size, 2, none⟩ = some (.int .i64 rb) := cells_at r0 2 _ rfl
      have d3 : wc.cell? ⟨w.heap.size, 3, none⟩ = some (.int .i64 rc) := cells_at r0 3 _ rfl
      have d4 : wc.cell? ⟨w.heap.size, 4, none⟩ = some (.slice sa ss.length cap) := cells_at r0 4 _ rfl
      obtain ⟨pb0, pb1⟩ := pk_bounds rb 9 (by decide)
      obtain ⟨pa0, pa1⟩ := pk_bounds ra 4 (by decide)
      have hwr : IntKind.i64.wrap (1 + pk rb 9) = 1 + pk rb 9 := by rw [IntKind.wrap_i64]; omega
      have hK : 1 + pk ki 5 = 1 ∨ 1 + pk ki 5 = 2 ∨ 1 + pk ki 5 = 3 ∨ 1 + pk ki 5 = 4 ∨ 1 + pk ki 5 = 5 := by omega
      clear hw
      generalize hkk : 1 + pk ki 5 = kk at *
      have HKK : Hid (1 + pk ki 5 = kk) := hkk
      clear hkk
      clear pk0 pk1
      have b2 : wc.cell? ⟨b, 2, none⟩ = some (.int .i64 kk) := cells_at rB 2 _ rfl
      rcases hK with rfl | rfl | rfl | rfl | rfl
      · go_wp2_with fail
        refine (batch_raw ki ra rb rc sa cap ss wc h2 h3 (h5.below hB)).mono ?_
        rintro e w3 ⟨ba, bc, he, ho, hb3⟩
        subst he
        dsimp only
        have s1 := (hb3.block _ (lt_of_heap r1)).trans r1
        have sB := (hb3.block _ (lt_of_heap rB)).trans rB
        have hB3 := hB.trans (hb3.mono hB.size)
        have hbw : w.heap.size ≤ b := by omega
        have hob : ∀ q, (Value.slice ba (bTxs ss).length bc).ownBlock = some q → q ≠ b ∧ q ≠ w.heap.size + 1 := fun q e => by have := (ho.lt q e).1; have := lt_of_heap rB; omega
        have x3 : w3.cell? ⟨b, 3, none⟩ = some (.int .i64 0) := cells_at sB 3 _ rfl
        have f3 := frozen_at sB 3
        have x4 : w3.cell? ⟨b, 4, none⟩ = some (.int .i64 0) := cells_at sB 4 _ rfl
        have f4 := frozen_at sB 4
        have x5 : w3.cell? ⟨b, 5, none⟩ = some (.slice none 0 0) := cells_at sB 5 _ rfl
        have f5 := frozen_at sB 5
        have rF : (((w3.setCell ⟨b, 3, none⟩ (.int .i64 (pk ra 4))).setCell ⟨b, 4, none⟩ (.int .i64 (1 + pk rb 9))).setCell ⟨b, 5, none⟩ (.slice ba (bTxs ss).length bc)).heap[b]? = some (.cells #[.int .i64 (pk rc 4), .int .i64 (pk rb 4), .int .i64 1, .int .i64 (pk ra 4), .int .i64 (1 + pk rb 9), .slice ba (bTxs ss).length bc, .int .i64 0, .int .i64 0, .slice none 0 0, .slice none 0 0, .int .i64 0, .int .i64 0, .slice none 0 0, .int .i64 0, .int .i64 0, .slice none 0 0, .slice none 0 0, .slice none 0 0, .int .i64 0] 47 (0, 0)) := by simpa using (heap_setCell_same _ _ 5 _ _ (.slice ba (bTxs ss).length bc) (heap_setCell_same _ _ 4 _ _ (.int .i64 (1 + pk rb 9)) (heap_setCell_same _ _ 3 _ _ (.int .i64 (pk ra 4)) sB)))
        have r1F := (heap_far (j := 5) (v := .slice ba (bTxs ss).length bc) (heap_far (j := 4) (v := .int .i64 (1 + pk rb 9)) (heap_far (j := 3) (v := .int .i64 (pk ra 4)) s1 (show w.heap.size + 1 ≠ b by omega)) (show w.heap.size + 1 ≠ b by omega)) (show w.heap.size + 1 ≠ b by omega))
        have hBF := (((hB3.setCell (p := ⟨b, 3, none⟩) hbw (.int .i64 (pk ra 4))).setCell (p := ⟨b, 4, none⟩) hbw (.int .i64 (1 + pk rb 9))).setCell (p := ⟨b, 5, none⟩) hbw (.slice ba (bTxs ss).length bc))
        have hbwc : b < wc.heap.size := lt_of_heap rB
        have hoF : (((w3.setCell ⟨b, 3, none⟩ (.int .i64 (pk ra 4))).setCell ⟨b, 4, none⟩ (.int .i64 (1 + pk rb 9))).setCell ⟨b, 5, none⟩ (.slice ba (bTxs ss).length bc)).ownsRow wc.heap.size 9 1 (.slice ba (bTxs ss).length bc) (bTxs ss).length (sv (bTxs ss)) := owns_far (owns_far (owns_far ho _ _ _ hbwc) _ _ _ hbwc) _ _ _ hbwc
        have hob1 : w.heap.size + 1 < wc.heap.size := lt_of_heap r1
        obtain ⟨_, _, hbe, -, hsA, hsf⟩ := strsAt_of_owns hoF (fun s hs => Nat.le_trans ((bTxs_ok ss).2 s hs).2 (by decide))
        simp only [Value.slice.injEq, true_and] at hbe
        obtain ⟨rfl, rfl⟩ := hbe
        have hl := (bTxs_ok ss).1
        have hcar := batchF_raw ra rb ss
        generalize bTxs ss = T at *
        go_wp2_with (first | refine wpList_load_row rfl 47 _ rfl b rfl 47 #[.int .i64 (pk rc 4), .int .i64 (pk rb 4), .int .i64 1, .int .i64 (pk ra 4), .int .i64 (1 + pk rb 9), .slice ba T.length bc, .int .i64 0, .int .i64 0, .slice none 0 0, .slice none 0 0, .int .i64 0, .int .i64 0, .slice none 0 0, .int .i64 0, .int .i64 0, .slice none 0 0, .slice none 0 0, .slice none 0 0, .int .i64 0] (0, 0) _ rF Try.underlying47 rfl sMsg' ?_ | refine wpList_store_row rfl 47 _ _ rfl (w.heap.size + 1) #[.int .i64 (pk rc 4), .int .i64 (pk rb 4), .int .i64 1, .int .i64 (pk ra 4), .int .i64 (1 + pk rb 9), .slice ba T.length bc, .int .i64 0, .int .i64 0, .slice none 0 0, .slice none 0 0, .int .i64 0, .int .i64 0, .slice none 0 0, .int .i64 0, .int .i64 0, .slice none 0 0, .slice none 0 0, .slice none 0 0, .int .i64 0] rfl rfl 47 _ r1F sMsg' rfl (by simp [Value.oneCell']) ?_)
        exact bodyPost_ret (v := .agg #[.int .i64 (pk rc 4), .int .i64 (pk rb 4), .int .i64 1, .int .i64 (pk ra 4), .int .i64 (1 + pk rb 9), .slice ba T.length bc, .int .i64 0, .int .i64 0, .slice none 0 0, .slice none 0 0, .int .i64 0, .int .i64 0, .slice none 0 0, .int .i64 0, .int .i64 0, .slice none 0 0, .slice none 0 0, .slice none 0 0, .int .i64 0]) (results_cell_row (fn := Try.f24) (p := 2) (ty := 47) rfl _ _ (w.heap.size + 1) 47 _ (0, 0) _ rfl (setRow_heap _ _ _ _ _ _ r1F) Try.underlying47 rfl sMsg') rfl ⟨⟨pk rc 4, pk rb 4, 1, pk ra 4, 1 + pk rb 9, 0, 0, 0, 0, 0, 0, 0, ba, none, none, none, none, none, none, T.length, bc, 0, 0, 0, 0, 0, 0, 0, 0, 0, 0, 0, 0⟩, T, [], [], [], [], [], rfl, ⟨rfl, rfl, rfl, rfl, rfl, rfl, by omega, by simp, by simp, (hsA.setRow _ _ (fun sb so e => by have := hsf sb so e; omega)), (list_nilM _), (list_nilM _), (list_nilM _), (list_nilM _), ⟨.inl rfl⟩⟩, rfl, rfl, (by rw [carriedF, if_pos rfl]; exact hcar), rfl, (Upd.setRow r1F).below hBF hBF.size (by omega), HKK.out.symm, (by intro h; dsimp only at h ⊢; omega), (by intro h; dsimp only at h ⊢; omega), (by intro h; dsimp only at h ⊢; omega), (by intro h; dsimp only at h ⊢; omega), (by intro h; dsimp only at h ⊢; omega), [], (nilM _), rfl, ⟨(fun sb so e => Nat.le_trans hB.size (hsf sb so e)), ⟨(fun _ _ e => by cases e), (fun p hp => by cases hp)⟩, ⟨(fun _ _ e => by cases e), (fun p hp => by cases hp)⟩, (fun _ _ e => by cases e), ⟨(fun _ _ e => by cases e), (fun p hp => by cases hp)⟩, ⟨(fun _ _ e => by cases e), (fun p hp => by cases hp)⟩, (fun _ _ e => by cases e)⟩, ⟨u8_none, u8_none, u8_none, u8_none, u8_none⟩⟩
      · go_wp2_with fail
        refine (header_raw2 ki ra rb rc sa _ cap wc h2 h3 h4).mono ?_
        rintro e w3 ⟨ba, bc, bl, pa, pc, pl, he, hL1, hL2, -, -, hE1, hE2, hb3, hF1, hF2⟩
        subst he
        dsimp only
        have s1 := (hb3.block _ (lt_of_heap r1)).trans r1
        have sB := (hb3.block _ (lt_of_heap rB)).trans rB
        have hB3 := hB.trans (hb3.mono hB.size)
        have hbw : w.heap.size ≤ b := by omega
        have hbwc : b < wc.heap.size := lt_of_heap rB
        have hb1c : w.heap.size + 1 < wc.heap.size := lt_of_heap r1
        have hcar := headerF_raw ra rb rc bl pl hE1 hE2
        have HL1 : Hid _ := hL1
        have HL2 : Hid _ := hL2
        have HF1 : Hid _ := hF1
        have HF2 : Hid _ := hF2
        have x6 : w3.cell? ⟨b, 6, none⟩ = some (.int .i64 0) := cells_at sB 6 _ rfl
        have f6 := frozen_at sB 6
        have x7 : w3.cell? ⟨b, 7, none⟩ = some (.int .i64 0) := cells_at sB 7 _ rfl
        have f7 := frozen_at sB 7
        have x8 : w3.cell? ⟨b, 8, none⟩ = some (.slice none 0 0) := cells_at sB 8 _ rfl
        have f8 := frozen_at sB 8
        have x9 : w3.cell? ⟨b, 9, none⟩ = some (.slice none 0 0) := cells_at sB 9 _ rfl
        have f9 := frozen_at sB 9
        have rF : ((((w3.setCell ⟨b, 6, none⟩ (.int .i64 (pk ra 4))).setCell ⟨b, 7, none⟩ (.int .i64 (1 + pk rb 9))).setCell ⟨b, 8, none⟩ (.slice ba bl.length bc)).setCell ⟨b, 9, none⟩ (.slice pa pl.length pc)).heap[b]? = some (.cells #[.int .i64 (pk rc 4), .int .i64 (pk rb 4), .int .i64 2, .int .i64 0, .int .i64 0, .slice none 0 0, .int .i64 (pk ra 4), .int .i64 (1 + pk rb 9), .slice ba bl.length bc, .slice pa pl.length pc, .int .i64 0, .int .i64 0, .slice none 0 0, .int .i64 0, .int .i64 0, .slice none 0 0, .slice none 0 0, .slice none 0 0, .int .i64 0] 47 (0, 0)) := by simpa using (heap_setCell_same _ _ 9 _ _ (.slice pa pl.length pc) (heap_setCell_same _ _ 8 _ _ (.slice ba bl.length bc) (heap_setCell_same _ _ 7 _ _ (.int .i64 (1 + pk rb 9)) (heap_setCell_same _ _ 6 _ _ (.int .i64 (pk ra 4)) sB))))
        have r1F := (heap_far (j := 9) (v := .slice pa pl.length pc) (heap_far (j := 8) (v := .slice ba bl.length bc) (heap_far (j := 7) (v := .int .i64 (1 + pk rb 9)) (heap_far (j := 6) (v := .int .i64 (pk ra 4)) s1 (show w.heap.size + 1 ≠ b by omega)) (show w.heap.size + 1 ≠ b by omega)) (show w.heap.size + 1 ≠ b by omega)) (show w.heap.size + 1 ≠ b by omega))
        have hBF := ((((hB3.setCell (p := ⟨b, 6, none⟩) hbw (.int .i64 (pk ra 4))).setCell (p := ⟨b, 7, none⟩) hbw (.int .i64 (1 + pk rb 9))).setCell (p := ⟨b, 8, none⟩) hbw (.slice ba bl.length bc)).setCell (p := ⟨b, 9, none⟩) hbw (.slice pa pl.length pc))
        have HLa : Hid (ListAt ((((w3.setCell ⟨b, 6, none⟩ (.int .i64 (pk ra 4))).setCell ⟨b, 7, none⟩ (.int .i64 (1 + pk rb 9))).setCell ⟨b, 8, none⟩ (.slice ba bl.length bc)).setCell ⟨b, 9, none⟩ (.slice pa pl.length pc)) ba bc bl) := ((((HL1.out.setCell HF1.out b 6 _ hbwc).setCell HF1.out b 7 _ hbwc).setCell HF1.out b 8 _ hbwc).setCell HF1.out b 9 _ hbwc)
        have HLb : Hid (ListAt ((((w3.setCell ⟨b, 6, none⟩ (.int .i64 (pk ra 4))).setCell ⟨b, 7, none⟩ (.int .i64 (1 + pk rb 9))).setCell ⟨b, 8, none⟩ (.slice ba bl.length bc)).setCell ⟨b, 9, none⟩ (.slice pa pl.length pc)) pa pc pl) := ((((HL2.out.setCell HF2.out b 6 _ hbwc).setCell HF2.out b 7 _ hbwc).setCell HF2.out b 8 _ hbwc).setCell HF2.out b 9 _ hbwc)
        have HU : Hid (U8M bl pl [] [] []) := ⟨u8_bats hE1, u8_pars hE2, u8_none, u8_none, u8_none⟩
        clear hL1 hL2 hE1 hE2 hF1 hF2
        go_wp2_with (first | refine wpList_load_row rfl 47 _ rfl b rfl 47 #[.int .i64 (pk rc 4), .int .i64 (pk rb 4), .int .i64 2, .int .i64 0, .int .i64 0, .slice none 0 0, .int .i64 (pk ra 4), .int .i64 (1 + pk rb 9), .slice ba bl.length bc, .slice pa pl.length pc, .int .i64 0, .int .i64 0, .slice none 0 0, .int .i64 0, .int .i64 0, .slice none 0 0, .slice none 0 0, .slice none 0 0, .int .i64 0] (0, 0) _ rF Try.underlying47 rfl sMsg' ?_ | refine wpList_store_row rfl 47 _ _ rfl (w.heap.size + 1) #[.int .i64 (pk rc 4), .int .i64 (pk rb 4), .int .i64 2, .int .i64 0, .int .i64 0, .slice none 0 0, .int .i64 (pk ra 4), .int .i64 (1 + pk rb 9), .slice ba bl.length bc, .slice pa pl.length pc, .int .i64 0, .int .i64 0, .slice none 0 0, .int .i64 0, .int .i64 0, .slice none 0 0, .slice none 0 0, .slice none 0 0, .int .i64 0] rfl rfl 47 _ r1F sMsg' rfl (by simp [Value.oneCell']) ?_)
        exact bodyPost_ret (v := .agg #[.int .i64 (pk rc 4), .int .i64 (pk rb 4), .int .i64 2, .int .i64 0, .int .i64 0, .slice none 0 0, .int .i64 (pk ra 4), .int .i64 (1 + pk rb 9), .slice ba bl.length bc, .slice pa pl.length pc, .int .i64 0, .int .i64 0, .slice none 0 0, .int .i64 0, .int .i64 0, .slice none 0 0, .slice none 0 0, .slice none 0 0, .int .i64 0]) (results_cell_row (fn := Try.f24) (p := 2) (ty := 47) rfl _ _ (w.heap.size + 1) 47 _ (0, 0) _ rfl (setRow_heap _ _ _ _ _ _ r1F) Try.underlying47 rfl sMsg') rfl ⟨⟨pk rc 4, pk rb 4, 2, 0, 0, pk ra 4, 1 + pk rb 9, 0, 0, 0, 0, 0, none, ba, pa, none, none, none, none, 0, 0, bl.length, bc, pl.length, pc, 0, 0, 0, 0, 0, 0, 0, 0⟩, [], bl, pl, [], [], [], rfl, ⟨rfl, rfl, rfl, rfl, rfl, rfl, by simp, by simp, by simp, ⟨.inl rfl, fun s h => by cases h⟩, (list_setRowM HLa.out HF1.out _ _ hb1c), (list_setRowM HLb.out HF2.out _ _ hb1c), (list_nilM _), (list_nilM _), ⟨.inl rfl⟩⟩, rfl, rfl, (by simp only [carriedF]; rw [if_neg (show ¬ (2 : Int) = 1 by decide), if_pos trivial]; exact hcar), rfl, (Upd.setRow r1F).below hBF hBF.size (by omega), HKK.out.symm, (by intro h; dsimp only at h ⊢; omega), (by intro h; dsimp only at h ⊢; omega), (by intro h; dsimp only at h ⊢; omega), (by intro h; dsimp only at h ⊢; omega), (by intro h; dsimp only at h ⊢; omega), [], (nilM _), rfl, ⟨(fun _ _ e => by cases e), (HF1.out.monoM hB.size), (HF2.out.monoM hB.size), (fun _ _ e => by cases e), ⟨(fun _ _ e => by cases e), (fun p hp => by cases hp)⟩, ⟨(fun _ _ e => by cases e), (fun p hp => by cases hp)⟩, (fun _ _ e => by cases e)⟩, HU.out⟩
      · have hneb : w.heap.size ≠ b := by omega
        have hbw : w.heap.size ≤ b := by omega
        go_upto_region 8 with fail
        go_region_held3 (fun w' => w'.cell? ⟨w.heap.size, 1, none⟩ = some (.int .i64 ra) ∧ w'.cell? ⟨w.heap.size, 2, none⟩ = some (.int .i64 rb) ∧ w'.cell? ⟨w.heap.size, 3, none⟩ = some (.int .i64 rc)) (go_keep) (first | (go_at_call 35; refine (some_any rc ra wc.drew h4).mono ?_; rintro e w3 ⟨rfl, ho3, hb3⟩; replace hb3 := below_drew hb3; have s0 := (hb3.block _ (lt_of_heap r0)).trans r0; have s1 := (hb3.block _ (lt_of_heap r1)).trans r1; have sB := (hb3.block _ (lt_of_heap rB)).trans rB; have g1 : w3.cell? ⟨w.heap.size, 1, none⟩ = some (.int .i64 ra) := cells_at s0 1 _ rfl; have g2 : w3.cell? ⟨w.heap.size, 2, none⟩ = some (.int .i64 rb) := cells_at s0 2 _ rfl; have g3 : w3.cell? ⟨w.heap.size, 3, none⟩ = some (.int .i64 rc) := cells_at s0 3 _ rfl; have x10 : w3.cell? ⟨b, 10, none⟩ = some (.int .i64 0) := cells_at sB 10 _ rfl; have f10 := frozen_at sB 10; have x11 : w3.cell? ⟨b, 11, none⟩ = some (.int .i64 0) := cells_at sB 11 _ rfl; have f11 := frozen_at sB 11; have x12 : w3.cell? ⟨b, 12, none⟩ = some (.slice none 0 0) := cells_at sB 12 _ rfl; have f12 := frozen_at sB 12; have sF0 := (heap_far (j := 12) (v := .slice (some ⟨wc.heap.size, 0, none⟩) 32 32) (heap_far (j := 11) (v := .int .i64 (1 + pk rb 9)) (heap_far (j := 10) (v := .int .i64 (pk ra 4)) s0 hneb) hneb) hneb); have k1 : (((w3.setCell ⟨b, 10, none⟩ (.int .i64 (pk ra 4))).setCell ⟨b, 11, none⟩ (.int .i64 (1 + pk rb 9))).setCell ⟨b, 12, none⟩ (.slice (some ⟨wc.heap.size, 0, none⟩) 32 32)).cell? ⟨w.heap.size, 1, none⟩ = some (.int .i64 ra) := cells_at sF0 1 _ rfl; have k2 : (((w3.setCell ⟨b, 10, none⟩ (.int .i64 (pk ra 4))).setCell ⟨b, 11, none⟩ (.int .i64 (1 + pk rb 9))).setCell ⟨b, 12, none⟩ (.slice (some ⟨wc.heap.size, 0, none⟩) 32 32)).cell? ⟨w.heap.size, 2, none⟩ = some (.int .i64 rb) := cells_at sF0 2 _ rfl; have k3 : (((w3.setCell ⟨b, 10, none⟩ (.int .i64 (pk ra 4))).setCell ⟨b, 11, none⟩ (.int .i64 (1 + pk rb 9))).setCell ⟨b, 12, none⟩ (.slice (some ⟨wc.heap.size, 0, none⟩) 32 32)).cell? ⟨w.heap.size, 3, none⟩ = some (.int .i64 rc) := cells_at sF0 3 _ rfl) | (go_at_call 10; refine (picked_any _ _ _ (by first | exact h2.1 | exact h3.1) (by first | exact h2.2 | exact h3.2) (by omega) (by omega)).mono ?_; rintro e w9 ⟨rfl, rfl⟩))
        all_goals
          have hB3 := hB.trans (hb3.mono hB.size)
          have rF : (((w3.setCell ⟨b, 10, none⟩ (.int .i64 (pk ra 4))).setCell ⟨b, 11, none⟩ (.int .i64 (1 + pk rb 9))).setCell ⟨b, 12, none⟩ (.slice (some ⟨wc.heap.size, 0, none⟩) 32 32)).heap[b]? = some (.cells #[.int .i64 (pk rc 4), .int .i64 (pk rb 4), .int .i64 3, .int .i64 0, .int .i64 0, .slice none 0 0, .int .i64 0, .int .i64 0, .slice none 0 0, .slice none 0 0, .int .i64 (pk ra 4), .int .i64 (1 + pk rb 9), .slice (some ⟨wc.heap.size, 0, none⟩) 32 32, .int .i64 0, .int .i64 0, .slice none 0 0, .slice none 0 0, .slice none 0 0, .int .i64 0] 47 (0, 0)) := by simpa using (heap_setCell_same _ _ 12 _ _ (.slice (some ⟨wc.heap.size, 0, none⟩) 32 32) (heap_setCell_same _ _ 11 _ _ (.int .i64 (1 + pk rb 9)) (heap_setCell_same _ _ 10 _ _ (.int .i64 (pk ra 4)) sB)))
          have r1F := (heap_far (j := 12) (v := .slice (some ⟨wc.heap.size, 0, none⟩) 32 32) (heap_far (j := 11) (v := .int .i64 (1 + pk rb 9)) (heap_far (j := 10) (v := .int .i64 (pk ra 4)) s1 (show w.heap.size + 1 ≠ b by omega)) (show w.heap.size + 1 ≠ b by omega)) (show w.heap.size + 1 ≠ b by omega))
          have hBF := (((hB3.setCell (p := ⟨b, 10, none⟩) hbw (.int .i64 (pk ra 4))).setCell (p := ⟨b, 11, none⟩) hbw (.int .i64 (1 + pk rb 9))).setCell (p := ⟨b, 12, none⟩) hbw (.slice (some ⟨wc.heap.size, 0, none⟩) 32 32))
          have hoF : (((w3.setCell ⟨b, 10, none⟩ (.int .i64 (pk ra 4))).setCell ⟨b, 11, none⟩ (.int .i64 (1 + pk rb 9))).setCell ⟨b, 12, none⟩ (.slice (some ⟨wc.heap.size, 0, none⟩) 32 32)).ownsRow wc.heap.size 5 1 (.slice (some ⟨wc.heap.size, 0, none⟩) 32 32) 32 (ub (someL rc ra)) := owns_far (owns_far (owns_far ho3 _ _ _ (lt_of_heap rB)) _ _ _ (lt_of_heap rB)) _ _ _ (lt_of_heap rB)
          go_wp2_with (first | refine wpList_load_row rfl 47 _ rfl b rfl 47 #[.int .i64 (pk rc 4), .int .i64 (pk rb 4), .int .i64 3, .int .i64 0, .int .i64 0, .slice none 0 0, .int .i64 0, .int .i64 0, .slice none 0 0, .slice none 0 0, .int .i64 (pk ra 4), .int .i64 (1 + pk rb 9), .slice (some ⟨wc.heap.size, 0, none⟩) 32 32, .int .i64 0, .int .i64 0, .slice none 0 0, .slice none 0 0, .slice none 0 0, .int .i64 0] (0, 0) _ rF Try.underlying47 rfl sMsg' ?_ | refine wpList_store_row rfl 47 _ _ rfl (w.heap.size + 1) #[.int .i64 (pk rc 4), .int .i64 (pk rb 4), .int .i64 3, .int .i64 0, .int .i64 0, .slice none 0 0, .int .i64 0, .int .i64 0, .slice none 0 0, .slice none 0 0, .int .i64 (pk ra 4), .int .i64 (1 + pk rb 9), .slice (some ⟨wc.heap.size, 0, none⟩) 32 32, .int .i64 0, .int .i64 0, .slice none 0 0, .slice none 0 0, .slice none 0 0, .int .i64 0] rfl rfl 47 _ r1F sMsg' rfl (by simp [Value.oneCell']) ?_)
          exact bodyPost_ret (v := .agg #[.int .i64 (pk rc 4), .int .i64 (pk rb 4), .int .i64 3, .int .i64 0, .int .i64 0, .slice none 0 0, .int .i64 0, .int .i64 0, .slice none 0 0, .slice none 0 0, .int .i64 (pk ra 4), .int .i64 (1 + pk rb 9), .slice (some ⟨wc.heap.size, 0, none⟩) 32 32, .int .i64 0, .int .i64 0, .slice none 0 0, .slice none 0 0, .slice none 0 0, .int .i64 0]) (results_cell_row (fn := Try.f24) (p := 2) (ty := 47) rfl _ _ (w.heap.size + 1) 47 _ (0, 0) _ rfl (setRow_heap _ _ _ _ _ _ r1F) Try.underlying47 rfl sMsg') rfl ⟨⟨pk rc 4, pk rb 4, 3, 0, 0, 0, 0, pk ra 4, 1 + pk rb 9, 0, 0, 0, none, none, none, some ⟨wc.heap.size, 0, none⟩, none, none, none, 0, 0, 0, 0, 0, 0, 32, 32, 0, 0, 0, 0, 0, 0⟩, [], [], [], [], [], [], rfl, ⟨rfl, rfl, rfl, rfl, rfl, rfl, by simp, by simp, by simp, ⟨.inl rfl, fun s h => by cases h⟩, (list_nilM _), (list_nilM _), (list_nilM _), (list_nilM _), ⟨.inl rfl⟩⟩, rfl, rfl, (by simp only [carriedF]; rw [if_neg (show ¬ (3 : Int) = 1 by decide), if_neg (show ¬ (3 : Int) = 2 by decide), if_pos trivial, slotF, if_neg (by omega), if_neg (by decide)]), rfl, (Upd.setRow r1F).below hBF hBF.size (by omega), HKK.out.symm, (by intro h; dsimp only at h ⊢; omega), (by intro h; dsimp only at h ⊢; omega), (by intro h; dsimp only at h ⊢; omega), (by intro h; dsimp only at h ⊢; omega), (by intro h; dsimp only at h ⊢; omega), someL rc ra, (slice_setRow (sliceAt_of_owns hoF).2 _ _ (fun sb so e => by cases e; have := lt_of_heap r1; omega)), (sliceAt_of_owns hoF).1, ⟨(fun _ _ e => by cases e), ⟨(fun _ _ e => by cases e), (fun p hp => by cases hp)⟩, ⟨(fun _ _ e => by cases e), (fun p hp => by cases hp)⟩, (fun sb so e => by cases e; exact hB.size), ⟨(fun _ _ e => by cases e), (fun p hp => by cases hp)⟩, ⟨(fun _ _ e => by cases e), (fun p hp => by cases hp)⟩, (fun _ _ e => by cases e)⟩, ⟨u8_none, u8_none, u8_none, u8_none, someL_u8 _ _⟩⟩
      · have hneb : w.heap.size ≠ b := by omega
        have hbw : w.heap.size ≤ b := by omega
        have hbwc : b < wc.heap.size := lt_of_heap rB
        have hb1c : w.heap.size + 1 < wc.heap.size := lt_of_heap r1
        obtain ⟨VN, hVN⟩ : ∃ n, (votersL rc).length = n := ⟨_, rfl⟩
        have HVN : Hid ((votersL rc).length = VN) := hVN
        clear hVN
        go_upto_region 10 with fail
        go_region_held3 (fun w' => w'.cell? ⟨w.heap.size, 0, none⟩ = some (.int .i64 ki) ∧ w'.cell? ⟨w.heap.size, 1, none⟩ = some (.int .i64 ra) ∧ w'.cell? ⟨w.heap.size, 2, none⟩ = some (.int .i64 rb) ∧ w'.cell? ⟨w.heap.size, 3, none⟩ = some (.int .i64 rc) ∧ w'.cell? ⟨w.heap.size, 4, none⟩ = some (.slice sa ss.length cap)) (go_keep) (first | (go_at_call 36; refine (voters_any rc w3 h4).mono ?_; rintro e w4 ⟨v4, he, ho4, hb4⟩; rw [HVN.out] at ho4; obtain ⟨va, vc, hv4⟩ := owns_shape ho4; subst hv4; subst he; have hb34 := hb3.trans (hb4.mono hb3.size); have s0 := (hb34.block _ (lt_of_heap r0)).trans r0; have s1 := (hb34.block _ (lt_of_heap r1)).trans r1; have sB := (hb34.block _ (lt_of_heap rB)).trans rB; have g0 : w4.cell? ⟨w.heap.size, 0, none⟩ = some (.int .i64 ki) := cells_at s0 0 _ rfl; have g1 : w4.cell? ⟨w.heap.size, 1, none⟩ = some (.int .i64 ra) := cells_at s0 1 _ rfl; have g2 : w4.cell? ⟨w.heap.size, 2, none⟩ = some (.int .i64 rb) := cells_at s0 2 _ rfl; have g3 : w4.cell? ⟨w.heap.size, 3, none⟩ = some (.int .i64 rc) := cells_at s0 3 _ rfl; have g4 : w4.cell? ⟨w.heap.size, 4, none⟩ = some (.slice sa ss.length cap) := cells_at s0 4 _ rfl; have x13 : w4.cell? ⟨b, 13, none⟩ = some (.int .i64 0) := cells_at sB 13 _ rfl; have f13 := frozen_at sB 13; have x14 : w4.cell? ⟨b, 14, none⟩ = some (.int .i64 0) := cells_at sB 14 _ rfl; have f14 := frozen_at sB 14; have x15 : w4.cell? ⟨b, 15, none⟩ = some (.slice none 0 0) := cells_at sB 15 _ rfl; have f15 := frozen_at sB 15; have x16 : w4.cell? ⟨b, 16, none⟩ = some (.slice none 0 0) := cells_at sB 16 _ rfl; have f16 := frozen_at sB 16; have x17 : w4.cell? ⟨b, 17, none⟩ = some (.slice none 0 0) := cells_at sB 17 _ rfl; have f17 := frozen_at sB 17; have sF0 := (heap_far (j := 17) (v := .slice va VN vc) (heap_far (j := 16) (v := .slice pa pl.length pc) (heap_far (j := 15) (v := .slice ba bl.length bc) (heap_far (j := 14) (v := .int .i64 (1 + pk rb 9)) (heap_far (j := 13) (v := .int .i64 (pk ra 4)) s0 hneb) hneb) hneb) hneb) hneb); have k0 : (((((w4.setCell ⟨b, 13, none⟩ (.int .i64 (pk ra 4))).setCell ⟨b, 14, none⟩ (.int .i64 (1 + pk rb 9))).setCell ⟨b, 15, none⟩ (.slice ba bl.length bc)).setCell ⟨b, 16, none⟩ (.slice pa pl.length pc)).setCell ⟨b, 17, none⟩ (.slice va VN vc)).cell? ⟨w.heap.size, 0, none⟩ = some (.int .i64 ki) := cells_at sF0 0 _ rfl; have k1 : (((((w4.setCell ⟨b, 13, none⟩ (.int .i64 (pk ra 4))).setCell ⟨b, 14, none⟩ (.int .i64 (1 + pk rb 9))).setCell ⟨b, 15, none⟩ (.slice ba bl.length bc)).setCell ⟨b, 16, none⟩ (.slice pa pl.length pc)).setCell ⟨b, 17, none⟩ (.slice va VN vc)).cell? ⟨w.heap.size, 1, none⟩ = some (.int .i64 ra) := cells_at sF0 1 _ rfl; have k2 : (((((w4.setCell ⟨b, 13, none⟩ (.int .i64 (pk ra 4))).setCell ⟨b, 14, none⟩ (.int .i64 (1 + pk rb 9))).setCell ⟨b, 15, none⟩ (.slice ba bl.length bc)).setCell ⟨b, 16, none⟩ (.slice pa pl.length pc)).setCell ⟨b, 17, none⟩ (.slice va VN vc)).cell? ⟨w.heap.size, 2, none⟩ = some (.int .i64 rb) := cells_at sF0 2 _ rfl; have k3 : (((((w4.setCell ⟨b, 13, none⟩ (.int .i64 (pk ra 4))).setCell ⟨b, 14, none⟩ (.int .i64 (1 + pk rb 9))).setCell ⟨b, 15, none⟩ (.slice ba bl.length bc)).setCell ⟨b, 16, none⟩ (.slice pa pl.length pc)).setCell ⟨b, 17, none⟩ (.slice va VN vc)).cell? ⟨w.heap.size, 3, none⟩ = some (.int .i64 rc) := cells_at sF0 3 _ rfl; have k4 : (((((w4.setCell ⟨b, 13, none⟩ (.int .i64 (pk ra 4))).setCell ⟨b, 14, none⟩ (.int .i64 (1 + pk rb 9))).setCell ⟨b, 15, none⟩ (.slice ba bl.length bc)).setCell ⟨b, 16, none⟩ (.slice pa pl.length pc)).setCell ⟨b, 17, none⟩ (.slice va VN vc)).cell? ⟨w.heap.size, 4, none⟩ = some (.slice sa ss.length cap) := cells_at sF0 4 _ rfl) | (go_at_call 34; refine (header_raw2 ki ra rb rc sa _ cap wc.drew h2 h3 h4).mono ?_; rintro e w3 ⟨ba, bc, bl, pa, pc, pl, rfl, hL1, hL2, -, -, hE1, hE2, hb3, hF1, hF2⟩; replace hb3 := below_drew hb3; have t0 := (hb3.block _ (lt_of_heap r0)).trans r0; have m0 : w3.cell? ⟨w.heap.size, 0, none⟩ = some (.int .i64 ki) := cells_at t0 0 _ rfl; have m1 : w3.cell? ⟨w.heap.size, 1, none⟩ = some (.int .i64 ra) := cells_at t0 1 _ rfl; have m2 : w3.cell? ⟨w.heap.size, 2, none⟩ = some (.int .i64 rb) := cells_at t0 2 _ rfl; have m3 : w3.cell? ⟨w.heap.size, 3, none⟩ = some (.int .i64 rc) := cells_at t0 3 _ rfl; have m4 : w3.cell? ⟨w.heap.size, 4, none⟩ = some (.slice sa ss.length cap) := cells_at t0 4 _ rfl; have HL1 : Hid _ := hL1; have HL2 : Hid _ := hL2; have HF1 : Hid _ := hF1; have HF2 : Hid _ := hF2; have HE1 : Hid _ := hE1; have HE2 : Hid _ := hE2; clear hL1 hL2 hF1 hF2 hE1 hE2))
        all_goals
          have hB3 := hB.trans (hb34.mono hB.size)
          have hcar := headerF_raw ra rb rc bl pl HE1.out HE2.out
          obtain ⟨_, _, _, _, _, _, _, _, hvf, _, hvl⟩ := votersL_form rc
          have rF : (((((w4.setCell ⟨b, 13, none⟩ (.int .i64 (pk ra 4))).setCell ⟨b, 14, none⟩ (.int .i64 (1 + pk rb 9))).setCell ⟨b, 15, none⟩ (.slice ba bl.length bc)).setCell ⟨b, 16, none⟩ (.slice pa pl.length pc)).setCell ⟨b, 17, none⟩ (.slice va VN vc)).heap[b]? = some (.cells #[.int .i64 (pk rc 4), .int .i64 (pk rb 4), .int .i64 4, .int .i64 0, .int .i64 0, .slice none 0 0, .int .i64 0, .int .i64 0, .slice none 0 0, .slice none 0 0, .int .i64 0, .int .i64 0, .slice none 0 0, .int .i64 (pk ra 4), .int .i64 (1 + pk rb 9), .slice ba bl.length bc, .slice pa pl.length pc, .slice va VN vc, .int .i64 0] 47 (0, 0)) := by simpa using (heap_setCell_same _ _ 17 _ _ (.slice va VN vc) (heap_setCell_same _ _ 16 _ _ (.slice pa pl.length pc) (heap_setCell_same _ _ 15 _ _ (.slice ba bl.length bc) (heap_setCell_same _ _ 14 _ _ (.int .i64 (1 + pk rb 9)) (heap_setCell_same _ _ 13 _ _ (.int .i64 (pk ra 4)) sB)))))
          have r1F := (heap_far (j := 17) (v := .slice va VN vc) (heap_far (j := 16) (v := .slice pa pl.length pc) (heap_far (j := 15) (v := .slice ba bl.length bc) (heap_far (j := 14) (v := .int .i64 (1 + pk rb 9)) (heap_far (j := 13) (v := .int .i64 (pk ra 4)) s1 (show w.heap.size + 1 ≠ b by omega)) (show w.heap.size + 1 ≠ b by omega)) (show w.heap.size + 1 ≠ b by omega)) (show w.heap.size + 1 ≠ b by omega)) (show w.heap.size + 1 ≠ b by omega))
          have hBF := (((((hB3.setCell (p := ⟨b, 13, none⟩) hbw (.int .i64 (pk ra 4))).setCell (p := ⟨b, 14, none⟩) hbw (.int .i64 (1 + pk rb 9))).setCell (p := ⟨b, 15, none⟩) hbw (.slice ba bl.length bc)).setCell (p := ⟨b, 16, none⟩) hbw (.slice pa pl.length pc)).setCell (p := ⟨b, 17, none⟩) hbw (.slice va VN vc))
          have HLa : Hid (ListAt (((((w4.setCell ⟨b, 13, none⟩ (.int .i64 (pk ra 4))).setCell ⟨b, 14, none⟩ (.int .i64 (1 + pk rb 9))).setCell ⟨b, 15, none⟩ (.slice ba bl.length bc)).setCell ⟨b, 16, none⟩ (.slice pa pl.length pc)).setCell ⟨b, 17, none⟩ (.slice va VN vc)) ba bc bl) := ((((((HL1.out.below hb4).setCell HF1.out b 13 _ hbwc).setCell HF1.out b 14 _ hbwc).setCell HF1.out b 15 _ hbwc).setCell HF1.out b 16 _ hbwc).setCell HF1.out b 17 _ hbwc)
          have HLb : Hid (ListAt (((((w4.setCell ⟨b, 13, none⟩ (.int .i64 (pk ra 4))).setCell ⟨b, 14, none⟩ (.int .i64 (1 + pk rb 9))).setCell ⟨b, 15, none⟩ (.slice ba bl.length bc)).setCell ⟨b, 16, none⟩ (.slice pa pl.length pc)).setCell ⟨b, 17, none⟩ (.slice va VN vc)) pa pc pl) := ((((((HL2.out.below hb4).setCell HF2.out b 13 _ hbwc).setCell HF2.out b 14 _ hbwc).setCell HF2.out b 15 _ hbwc).setCell HF2.out b 16 _ hbwc).setCell HF2.out b 17 _ hbwc)
          have hoF : (((((w4.setCell ⟨b, 13, none⟩ (.int .i64 (pk ra 4))).setCell ⟨b, 14, none⟩ (.int .i64 (1 + pk rb 9))).setCell ⟨b, 15, none⟩ (.slice ba bl.length bc)).setCell ⟨b, 16, none⟩ (.slice pa pl.length pc)).setCell ⟨b, 17, none⟩ (.slice va VN vc)).ownsRow w3.heap.size 3 1 (.slice va VN vc) VN (iv (votersL rc)) := (owns_far (owns_far (owns_far (owns_far (owns_far ho4 _ _ _ (by have := hb3.size; omega)) _ _ _ (by have := hb3.size; omega)) _ _ _ (by have := hb3.size; omega)) _ _ _ (by have := hb3.size; omega)) _ _ _ (by have := hb3.size; omega))
          have hIv : Hid (IntsAt (((((w4.setCell ⟨b, 13, none⟩ (.int .i64 (pk ra 4))).setCell ⟨b, 14, none⟩ (.int .i64 (1 + pk rb 9))).setCell ⟨b, 15, none⟩ (.slice ba bl.length bc)).setCell ⟨b, 16, none⟩ (.slice pa pl.length pc)).setCell ⟨b, 17, none⟩ (.slice va VN vc)) va (votersL rc) ∧ ∀ sb so, va = some ⟨sb, so, none⟩ → w3.heap.size ≤ sb) := ints_owned hoF
          have hsz3 : wc.heap.size ≤ w3.heap.size := hb3.size
          go_wp2_with (first | refine wpList_load_row rfl 47 _ rfl b rfl 47 #[.int .i64 (pk rc 4), .int .i64 (pk rb 4), .int .i64 4, .int .i64 0, .int .i64 0, .slice none 0 0, .int .i64 0, .int .i64 0, .slice none 0 0, .slice none 0 0, .int .i64 0, .int .i64 0, .slice none 0 0, .int .i64 (pk ra 4), .int .i64 (1 + pk rb 9), .slice ba bl.length bc, .slice pa pl.length pc, .slice va VN vc, .int .i64 0] (0, 0) _ rF Try.underlying47 rfl sMsg' ?_ | refine wpList_store_row rfl 47 _ _ rfl (w.heap.size + 1) #[.int .i64 (pk rc 4), .int .i64 (pk rb 4), .int .i64 4, .int .i64 0, .int .i64 0, .slice none 0 0, .int .i64 0, .int .i64 0, .slice none 0 0, .slice none 0 0, .int .i64 0, .int .i64 0, .slice none 0 0, .int .i64 (pk ra 4), .int .i64 (1 + pk rb 9), .slice ba bl.length bc, .slice pa pl.length pc, .slice va VN vc, .int .i64 0] rfl rfl 47 _ r1F sMsg' rfl (by simp [Value.oneCell']) ?_)
          exact bodyPost_ret (v := .agg #[.int .i64 (pk rc 4), .int .i64 (pk rb 4), .int .i64 4, .int .i64 0, .int .i64 0, .slice none 0 0, .int .i64 0, .int .i64 0, .slice none 0 0, .slice none 0 0, .int .i64 0, .int .i64 0, .slice none 0 0, .int .i64 (pk ra 4), .int .i64 (1 + pk rb 9), .slice ba bl.length bc, .slice pa pl.length pc, .slice va VN vc, .int .i64 0]) (results_cell_row (fn := Try.f24) (p := 2) (ty := 47) rfl _ _ (w.heap.size + 1) 47 _ (0, 0) _ rfl (setRow_heap _ _ _ _ _ _ r1F) Try.underlying47 rfl sMsg') rfl ⟨⟨pk rc 4, pk rb 4, 4, 0, 0, 0, 0, 0, 0, pk ra 4, 1 + pk rb 9, 0, none, none, none, none, ba, pa, va, 0, 0, 0, 0, 0, 0, 0, 0, bl.length, bc, pl.length, pc, VN, vc⟩, [], [], [], bl, pl, votersL rc, rfl, ⟨rfl, rfl, rfl, rfl, rfl, HVN.out.symm, by simp, by omega, by simp, ⟨.inl rfl, fun s h => by cases h⟩, (list_nilM _), (list_nilM _), (list_setRowM HLa.out HF1.out _ _ hb1c), (list_setRowM HLb.out HF2.out _ _ hb1c), (ints_setRowM hIv.out.1 _ _ (fun sb so e => by have := hIv.out.2 sb so e; omega))⟩, rfl, rfl, (by simp only [carriedF]; rw [if_neg (show ¬ (4 : Int) = 1 by decide), if_neg (show ¬ (4 : Int) = 2 by decide), if_neg (show ¬ (4 : Int) = 3 by decide), if_pos trivial]; exact certF_ofM hcar hvf hvl), rfl, (Upd.setRow r1F).below hBF hBF.size (by omega), HKK.out.symm, (by intro h; dsimp only at h ⊢; omega), (by intro h; dsimp only at h ⊢; omega), (by intro h; dsimp only at h ⊢; omega), (by intro h; dsimp only at h ⊢; omega), (by intro h; dsimp only at h ⊢; omega), [], (nilM _), rfl, ⟨(fun _ _ e => by cases e), ⟨(fun _ _ e => by cases e), (fun p hp => by cases hp)⟩, ⟨(fun _ _ e => by cases e), (fun p hp => by cases hp)⟩, (fun _ _ e => by cases e), (HF1.out.monoM hB.size), (HF2.out.monoM hB.size), (fun sb so e => Nat.le_trans hB.size (Nat.le_trans hsz3 (hIv.out.2 sb so e)))⟩, ⟨u8_none, u8_none, u8_bats HE1.out, u8_pars HE2.out, u8_none⟩⟩
      · have rF : (wc.setCell ⟨b, 18, none⟩ (.int .i64 (1 + pk rb 9))).heap[b]? = some (.cells #[.int .i64 (pk rc 4), .int .i64 (pk rb 4), .int .i64 5, .int .i64 0, .int .i64 0, .slice none 0 0, .int .i64 0, .int .i64 0, .slice none 0 0, .slice none 0 0, .int .i64 0, .int .i64 0, .slice none 0 0, .int .i64 0, .int .i64 0, .slice none 0 0, .slice none 0 0, .slice none 0 0, .int .i64 (1 + pk rb 9)] 47 (0, 0)) := by simpa using heap_setCell_same _ _ 18 _ _ (.int .i64 (1 + pk rb 9)) rB
        have r1F := heap_far (j := 18) (v := .int .i64 (1 + pk rb 9)) r1 (show w.heap.size + 1 ≠ b by omega)
        have hBF := hB.setCell (p := ⟨b, 18, none⟩) (by simp; omega) (.int .i64 (1 + pk rb 9))
        have x18 : wc.cell? ⟨b, 18, none⟩ = some (.int .i64 0) := cells_at rB 18 _ rfl
        have f18 := frozen_at rB 18
        go_wp2_with (first | (go_at_call 10; refine (picked_any _ _ _ h3.1 h3.2 (by omega) (by omega)).mono ?_; rintro e w9 ⟨rfl, rfl⟩) | refine wpList_load_row rfl 47 _ rfl b rfl 47 #[.int .i64 (pk rc 4), .int .i64 (pk rb 4), .int .i64 5, .int .i64 0, .int .i64 0, .slice none 0 0, .int .i64 0, .int .i64 0, .slice none 0 0, .slice none 0 0, .int .i64 0, .int .i64 0, .slice none 0 0, .int .i64 0, .int .i64 0, .slice none 0 0, .slice none 0 0, .slice none 0 0, .int .i64 (1 + pk rb 9)] (0, 0) _ rF Try.underlying47 rfl sMsg' ?_ | refine wpList_store_row rfl 47 _ _ rfl (w.heap.size + 1) #[.int .i64 (pk rc 4), .int .i64 (pk rb 4), .int .i64 5, .int .i64 0, .int .i64 0, .slice none 0 0, .int .i64 0, .int .i64 0, .slice none 0 0, .slice none 0 0, .int .i64 0, .int .i64 0, .slice none 0 0, .int .i64 0, .int .i64 0, .slice none 0 0, .slice none 0 0, .slice none 0 0, .int .i64 (1 + pk rb 9)] rfl rfl 47 _ r1F sMsg' rfl (by simp [Value.oneCell']) ?_)
        exact bodyPost_ret (v := .agg #[.int .i64 (pk rc 4), .int .i64 (pk rb 4), .int .i64 5, .int .i64 0, .int .i64 0, .slice none 0 0, .int .i64 0, .int .i64 0, .slice none 0 0, .slice none 0 0, .int .i64 0, .int .i64 0, .slice none 0 0, .int .i64 0, .int .i64 0, .slice none 0 0, .slice none 0 0, .slice none 0 0, .int .i64 (1 + pk rb 9)]) (results_cell_row (fn := Try.f24) (p := 2) (ty := 47) rfl _ _ (w.heap.size + 1) 47 _ (0, 0) _ rfl (setRow_heap _ _ _ _ _ _ r1F) Try.underlying47 rfl sMsg') rfl ⟨⟨pk rc 4, pk rb 4, 5, 0, 0, 0, 0, 0, 0, 0, 0, 1 + pk rb 9, none, none, none, none, none, none, none, 0, 0, 0, 0, 0, 0, 0, 0, 0, 0, 0, 0, 0, 0⟩, [], [], [], [], [], [], rfl, ⟨rfl, rfl, rfl, rfl, rfl, rfl, by simp, by simp, by simp, ⟨.inl rfl, fun s h => by cases h⟩, (list_nilM _), (list_nilM _), (list_nilM _), (list_nilM _), ⟨.inl rfl⟩⟩, rfl, rfl, (by rw [carriedF]; simp; omega), rfl, (Upd.setRow r1F).below hBF hBF.size (by omega), HKK.out.symm, (by intro h; dsimp only at h ⊢; omega), (by intro h; dsimp only at h ⊢; omega), (by intro h; dsimp only at h ⊢; omega), (by intro h; dsimp only at h ⊢; omega), (by intro h; dsimp only at h ⊢; omega), [], (nilM _), rfl, ⟨(fun _ _ e => by cases e), ⟨(fun _ _ e => by cases e), (fun p hp => by cases hp)⟩, ⟨(fun _ _ e => by cases e), (fun p hp => by cases hp)⟩, (fun _ _ e => by cases e), ⟨(fun _ _ e => by cases e), (fun p hp => by cases hp)⟩, ⟨(fun _ _ e => by cases e), (fun p hp => by cases hp)⟩, (fun _ _ e => by cases e)⟩, ⟨u8_none, u8_none, u8_none, u8_none, u8_none⟩⟩
set_option maxRecDepth 100000 in
theorem message_raw (ki ra rb rc : Int) (sa : Option Addr) (cap : Nat) (ss : List ByteArray) (w : World) (h1 : I64 ki) (h2 : I64 ra) (h3 : I64 rb) (h4 : I64 rc) (h5 : TextsAt w sa cap ss) :
    Calls Try.prog 24 #[.agg #[.int .i64 ki, .int .i64 ra, .int .i64 rb, .int .i64 rc, .slice sa ss.length cap]] w fun e w' => RawM w w' e ki rb rc := by
  refine (message_rawU ki ra rb rc sa cap ss w h1 h2 h3 h4 h5).mono ?_
  rintro e w' ⟨m, s, bl, pl, cbl, cpl, vl, x1, x2, x3, x4, x5, x6, x7, x8, x9, xa, xb, xc, xd, ds, xe, xf, xg, -⟩
  exact ⟨m, s, bl, pl, cbl, cpl, vl, x1, x2, x3, x4, x5, x6, x7, x8, x9, xa, xb, xc, xd, ds, xe, xf, xg⟩
end Go.Proofs.Ythpocgndgphedaa

namespace Go.Proofs.Ythpocgndgphedaa
open Go.RowKit

/-- The bytes of a text. -/
def tb (s : ByteArray) : List Int := s.data.toList.map fun b => (b.toNat : Int)
set_option maxRecDepth 100000 in
theorem tb_length (s : ByteArray) : (tb s).length = s.size := by simp [tb]
set_option maxRecDepth 100000 in
theorem strCells_tb (s : ByteArray) : Lib.strCells s = ub (tb s) := by simp [Lib.strCells, ub, tb]
set_option maxRecDepth 100000 in
theorem append_str_at (w : World) (ty : TypeId) (base : Nat) (v : Value) (n : Nat) (bs : List Int) (hown : w.ownsRow base 5 1 v n (ub bs)) (s : ByteArray) (hlen : n + s.size ≤ 140737488355328) (hbase : base ≤ w.heap.size) :
    ∃ v' w', (Builtin.append_ #[26, 9] ty #[v, .string s]).run Try.prog w = .ok v' w' ∧ w'.ownsRow base 5 1 v' (n + s.size) (ub (bs ++ tb s)) ∧ Grew w v w' v' := by
  obtain ⟨i, hi, hz0, hz1, hz2⟩ := info_parts infoU8
  have hm : n + s.size ≤ maxLen := by unfold maxLen; omega
  obtain ⟨v', w', hr, h2, h3, _⟩ := Lib.run_append_own_string (P := Try.prog) w base 26 9 ty 5 i Try.underlying26 Try.underlying9 hi hz0 hz1 hz2 v n (ub bs) hown s hm hlen hbase
  refine ⟨v', w', hr, by rw [show ub (bs ++ tb s) = ub bs ++ ub (tb s) by simp [ub], ← strCells_tb]; exact h2, ⟨h3, ?_⟩⟩
  intro q hq
  rcases hown.2 with ⟨rfl, hn⟩ | ⟨g, cap, cur, rfl, hg, hgc, h1, h2', h3', h4'⟩
  · subst hn
    have hnil : bs = [] := by have := hown.1; rw [ub_length] at this; exact List.eq_nil_of_length_eq_zero (by omega)
    subst hnil
    obtain ⟨v2, w2, hr2, k2, _, _⟩ := Lib.run_append_own_string (P := Try.prog) w w.heap.size 26 9 ty 5 i Try.underlying26 Try.underlying9 hi hz0 hz1 hz2 (.slice none 0 0) 0 [] (World.ownsRow_nil _ _ _ _) s hm hlen (Nat.le_refl _)
    have e := hr.symm.trans hr2
    cases e
    exact .inr (k2.lt q hq).1
  · by_cases hroom : n + s.size ≤ cap
    · have hr2 := Lib.run_append_room_string (P := Try.prog) w 26 9 ty 5 i Try.underlying26 Try.underlying9 hi hz1 g n cap cur hgc s hroom (by simp at h3'; omega)
      have e := hr.symm.trans hr2
      cases e
      exact .inl hq
    · have holds : ∀ j u, (ub bs)[j]? = some u → w.cell? ((⟨g, 0, none⟩ : Addr).add j) = some u := hown.cells (g := g) rfl
      have hr2 := Lib.run_append_grow_string (P := Try.prog) w 26 9 ty 5 i (.int .u8 0) Try.underlying26 Try.underlying9 hi hz0 ⟨g, 0, none⟩ n cap (ub bs) (by rw [hz1]; simpa using hown.1) holds s (by omega) (by omega) (by rw [hz2]; exact growslice_fits (by omega) (by omega))
      have e := hr.symm.trans hr2
      cases e
      cases hq
      exact .inr (Nat.le_refl _)
set_option maxRecDepth 100000 in
theorem wpList_append_str {w : World} {ops : Array Oper} {rest : List Oper} {o : Oper} {a : Act} {Q : Exit → Act → World → Prop} (hgd : o.guard = none) (sl x : Operand)
    (ho : o.op = .call { callee := .builtin .append, args := #[sl, x], argTypes := #[26, 9] })
    (base : Nat) (v : Value) (n : Nat) (bs : List Int) (hs : a.eval sl = v) (hown : w.ownsRow base 5 1 v n (ub bs)) (s : ByteArray) (hx : a.eval x = .string s) (hlen : n + s.size ≤ 140737488355328) (hbase : base ≤ w.heap.size)
    (h : ∀ v' w', w'.ownsRow base 5 1 v' (n + s.size) (ub (bs ++ tb s)) → Grew w v w' v' → wpList Try.prog ops Q rest (a.put o.dst v') w') : wpList Try.prog ops Q (o :: rest) a w := by
  refine wpList_plain hgd fun K hK => ?_
  obtain ⟨v', w', hr, h2, h3⟩ := append_str_at w o.type base v n bs hown s hlen hbase
  unfold Oper.wp execOp
  simp only [ho, resolve, invoke, builtin, Sem.run_bind, Sem.run_pure, Result.andThen_ok, List.map_toArray, List.map_cons, List.map_nil, hs, hx, hr]
  exact hK _ _ (h v' w' h2 h3)
set_option maxRecDepth 100000 in
theorem step_append_str {ops : Array Oper} {o : Oper} {a : Act} {w : World} {K : Act → World → Prop} {Q : Exit → Act → World → Prop} {E : Prop} (hgd : o.guard = none) (sl x : Operand)
    (ho : o.op = .call { callee := .builtin .append, args := #[sl, x], argTypes := #[26, 9] })
    (base : Nat) (v : Value) (n : Nat) (bs : List Int) (hs : a.eval sl = v) (hown : w.ownsRow base 5 1 v n (ub bs)) (s : ByteArray) (hx : a.eval x = .string s) (hlen : n + s.size ≤ 140737488355328) (hbase : base ≤ w.heap.size)
    (h : ∀ v' w', w'.ownsRow base 5 1 v' (n + s.size) (ub (bs ++ tb s)) → Grew w v w' v' → K (a.put o.dst v') w') : if Region.wanted o (yielded ops a.tmps) = true then Oper.wp Try.prog o a w K Q else E := by
  have hw : Region.wanted o (yielded ops a.tmps) = true := by simp [Region.wanted, hgd]
  rw [if_pos hw]
  obtain ⟨v', w', hr, h2, h3⟩ := append_str_at w o.type base v n bs hown s hlen hbase
  unfold Oper.wp execOp
  simp only [ho, resolve, invoke, builtin, Sem.run_bind, Sem.run_pure, Result.andThen_ok, List.map_toArray, List.map_cons, List.map_nil, hs, hx, hr]
  exact h v' w' h2 h3
end Go.Proofs.Ythpocgndgphedaa

namespace Go.Proofs.Ythpocgndgphedaa
open Go.RowKit

/-- P2.6: the texts of a batch, each behind its length. -/
def txsB : List ByteArray → List Int
  | [] => []
  | s :: l => (s.size : Int) :: (tb s ++ txsB l)
set_option maxRecDepth 100000 in
theorem txsB_snoc (l : List ByteArray) (s : ByteArray) : txsB (l ++ [s]) = txsB l ++ ((s.size : Int) :: tb s) := by
  induction l with
  | nil => simp [txsB]
  | cons x l ih => simp [txsB, ih]
set_option maxRecDepth 100000 in
theorem txsB_le (l : List ByteArray) (h : ∀ s ∈ l, s.size ≤ 20) : (txsB l).length ≤ 21 * l.length := by
  induction l with
  | nil => simp [txsB]
  | cons x l ih =>
    have h1 := h x (by simp)
    have h2 := ih (fun s hs => h s (by simp [hs]))
    simp [txsB, tb_length]; omega
/-- P2.6: the bytes of a batch. -/
def batchB (au nu : Int) (ss : List ByteArray) : List Int := [au] ++ rd3 nu ++ [(ss.length : Int)] ++ txsB ss
set_option maxRecDepth 100000 in
set_option maxHeartbeats 1000000 in
theorem appendBatch_any (base : Nat) (v : Value) (k : Nat) (bs : List Int) (au nu : Int) (sa : Option Addr) (n cap : Nat) (ss : List ByteArray) (w : World) (ha : 0 ≤ au ∧ au < 4) (hr : 0 ≤ nu ∧ nu ≤ 1048576) (hn : n = ss.length) (hl : ss.length ≤ 4) (hz : ∀ s ∈ ss, s.size ≤ 20) (hs : StrsAt w sa ss) (hne : ∀ sb so, sa = some ⟨sb, so, none⟩ → sb < w.heap.size ∧ v.ownBlock ≠ some sb)
    (ho : w.ownsRow base 5 1 v k (ub bs)) (hB : base ≤ w.heap.size) (hk : k ≤ 90000) :
    Calls Try.prog 41 #[v, .agg #[.int .i64 au, .int .i64 nu, .slice sa n cap]] w fun e w' => ∃ v', e = .returned v' ∧ w'.ownsRow base 5 1 v' (k + (batchB au nu ss).length) (ub (bs ++ batchB au nu ss)) ∧ Grew w v w' v' := by
  subst hn
  obtain ⟨i, hi, hz0, hz1, hz2⟩ := info_parts infoU8
  obtain ⟨ha0, ha1⟩ := ha
  have hvne : v.ownBlock ≠ some w.heap.size := fun e => by have := (ho.lt _ e).2; omega
  go_enter Try.func41, Try.ntmps41
  go_wp2_with (at_builtin; refine wpList_append_own_at _ rfl _ _ 26 rfl base 5 i (.int .u8 0) 1 1 Try.underlying26 hi hz0 hz1 hz2 rfl (by decide) _ k _ rfl (World.ownsRow.alloc (World.ownsRow.alloc ho _) _) ⟨w.heap.size + 1, 0, none⟩ 1 1 [.int .u8 au] rfl rfl (by have := cells_new (w.alloc (.cells #[.int .i64 au, .int .i64 nu, .slice sa ss.length cap] 37)) [.int .u8 au] 5; rw [size_alloc] at this; exact this) (u8_one [_]) (by unfold maxLen; omega) (by omega) (le_alloc (le_alloc hB _) _) ?_; intro v1 w1 ho1 hg1 _ hat; have G1 := Grew.of hg1 hat; have r1 := G1.row (heap_alloc2_old w _ _) hvne; have c1 : w1.cell? ⟨w.heap.size, 1, none⟩ = some (.int .i64 nu) := cells_at r1 1 _ rfl)
  have ho1' : w1.ownsRow base 5 1 v1 (k + 1) (ub (bs ++ [au])) := by simpa [ub] using ho1
  have hv1ne : v1.ownBlock ≠ some w.heap.size := fun e => by
    rcases G1.fresh _ e with g | g
    · exact hvne g
    · rw [size_alloc, size_alloc] at g; omega
  have G0 := G1.alloc.alloc
  clear ho1 hg1 hat G1
  refine (appendRound_any base v1 (k + 1) _ nu _ hr ho1' (Nat.le_trans hB G0.grown.size) (by omega)).mono ?_
  rintro e w2 ⟨v2, rfl, ho2, G2⟩
  have r2 := G2.row r1 hv1ne
  have c2 : w2.cell? ⟨w.heap.size, 2, none⟩ = some (.slice sa ss.length cap) := cells_at r2 2 _ rfl
  have hv2ne : v2.ownBlock ≠ some w.heap.size := fun e => by
    rcases G2.fresh _ e with g | g
    · exact hv1ne g
    · have := lt_of_heap r1; omega
  have G02 := G0.trans G2
  clear r1 c1
  go_wp2_with (at_builtin; refine wpList_append_own_at _ rfl _ _ 26 rfl base 5 i (.int .u8 0) 1 1 Try.underlying26 hi hz0 hz1 hz2 rfl (by decide) _ (k + 1 + 3) _ rfl (World.ownsRow.alloc ho2 _) ⟨w2.heap.size, 0, none⟩ 1 1 [.int .u8 (ss.length : Int)] rfl rfl (cells_new _ _ _) (u8_one [_]) (by unfold maxLen; omega) (by omega) (le_alloc (Nat.le_trans hB G02.grown.size) _) ?_; intro v3 w3 ho3 hg3 _ hat3; have G3 := (Grew.of hg3 hat3).alloc; have r3 := G3.row r2 hv2ne; have c3 : w3.cell? ⟨w.heap.size, 2, none⟩ = some (.slice sa ss.length cap) := cells_at r3 2 _ rfl)
  have ho3' : w3.ownsRow base 5 1 v3 (k + 1 + 3 + 1) (ub (bs ++ [au] ++ rd3 nu ++ [(ss.length : Int)])) := by simpa [ub] using ho3
  have G03 := G02.trans G3
  have hv3ne : v3.ownBlock ≠ some w.heap.size := fun e => by
    rcases G3.fresh _ e with g | g
    · exact hv2ne g
    · have := lt_of_heap r2; omega
  clear r2 c2 ho3 hg3 hat3 G3 ho2 G2 G0 G02 hv2ne hv1ne
  go_loopw [27, 0] (fun j t wr => ∃ m : Nat, m ≤ ss.length ∧ j = .int .i64 m ∧ wr.ownsRow base 5 1 t (k + 1 + 3 + 1 + (txsB (ss.take m)).length) (ub (bs ++ [au] ++ rd3 nu ++ [(ss.length : Int)] ++ txsB (ss.take m))) ∧ Grew w v wr t) (fun j _ _ => ss.length - (intOf j).toNat)
  case atStart => exact ⟨0, Nat.zero_le _, rfl, by simpa [txsB] using ho3', G03⟩
  case round =>
    clear ho3' G03 r3 c3 hv3ne
    obtain ⟨m, hm, rfl, ho, G⟩ := hrel
    by_cases hlt : m < ss.length
    · obtain ⟨sb, so, rfl, hc⟩ : ∃ sb so, sa = some ⟨sb, so, none⟩ ∧ ∀ j, j < ss.length → w.cell? ⟨sb, so + j, none⟩ = some (.string (ss.getD j ByteArray.empty)) := by
        rcases hs.cells with h | h
        · rw [h] at hlt; simp at hlt
        · exact h
      have ck0 := hc m hlt
      have ck : wr.cell? ⟨sb, so + m, none⟩ = some (.string (ss.getD m ByteArray.empty)) := (World.cell?_of_block (G.grown.block sb (block_lt_of_cell ck0) (fun e => (hne sb so rfl).2 e.symm))).trans ck0
      have hsz : (ss.getD m ByteArray.empty).size ≤ 20 := hz _ (by simp [List.getD, hlt])
      have hst : Hid (txsB (ss.take (m + 1)) = txsB (ss.take m) ++ (((ss.getD m ByteArray.empty).size : Int) :: tb (ss.getD m ByteArray.empty))) := by
        show _ = _
        rw [List.take_succ_eq_append_getElem hlt, txsB_snoc]
        simp only [List.getD, List.getElem?_eq_getElem hlt, Option.getD_some]
      have hLe : (txsB (ss.take m)).length ≤ 84 := by
        have h1 := txsB_le (ss.take m) (fun s h => hz s (List.mem_of_mem_take h))
        have h2 : (ss.take m).length ≤ 4 := by rw [List.length_take]; omega
        omega
      have hltI : (m : Int) < ss.length := by omega
      clear hc ck0
      generalize ss.getD m ByteArray.empty = x at ck hst hsz
      generalize txsB (ss.take m) = T at ho hst hLe
      have hBr : base ≤ wr.heap.size := Nat.le_trans hB G.grown.size
      go_wp2_with (at_builtin; first | (refine wpList_append_own_at _ rfl _ _ 26 rfl base 5 i (.int .u8 0) 1 1 Try.underlying26 hi hz0 hz1 hz2 rfl (by decide) _ (k + 1 + 3 + 1 + T.length) _ rfl (World.ownsRow.alloc ho _) ⟨wr.heap.size, 0, none⟩ 1 1 [.int .u8 (x.size : Int)] rfl rfl (cells_new _ _ _) (u8_one [_]) (by unfold maxLen; omega) (by omega) (le_alloc hBr _) ?_; intro v4 w4 ho4 hg4 _ hat4; have G4 := G.trans (Grew.of hg4 hat4).alloc; have ho4' : w4.ownsRow base 5 1 v4 (k + 1 + 3 + 1 + T.length + 1) (ub (bs ++ [au] ++ rd3 nu ++ [(ss.length : Int)] ++ T ++ [(x.size : Int)])) := (by simpa [ub] using ho4); clear ho4 hg4 hat4) | (refine wpList_append_str rfl _ _ rfl base _ (k + 1 + 3 + 1 + T.length + 1) _ rfl ho4' x rfl (by omega) (Nat.le_trans hB G4.grown.size) ?_; intro v5 w5 ho5 G5))
      go_roundw
      case rel =>
        have hR : ∃ m' : Nat, m' ≤ ss.length ∧ (Value.int .i64 ((m : Int) + 1)) = .int .i64 m' ∧ w5.ownsRow base 5 1 v5 (k + 1 + 3 + 1 + (txsB (ss.take m')).length) (ub (bs ++ [au] ++ rd3 nu ++ [(ss.length : Int)] ++ txsB (ss.take m'))) ∧ Grew w v w5 v5 :=
          ⟨m + 1, by omega, by go_num, by rw [hst.out]; simp only [List.length_append, List.length_cons, tb_length]; rw [show k + 1 + 3 + 1 + (T.length + (x.size + 1)) = k + 1 + 3 + 1 + T.length + 1 + x.size by omega]; simpa using ho5, G4.trans G5⟩
        first | exact hR | ((repeat apply Exists.intro); exact ⟨hR, rfl⟩)
      case measure => simp [intOf]; omega
    · obtain rfl : m = ss.length := by omega
      rw [List.take_of_length_le (Nat.le_refl _)] at ho
      have hltI : ¬ (ss.length : Int) < ss.length := by omega
      go_wp2_with fail
      go_ret
      refine ⟨_, rfl, ?_, G⟩
      have e : k + (batchB au nu ss).length = k + 1 + 3 + 1 + (txsB ss).length := by simp [batchB, rd3]; omega
      rw [e, show bs ++ batchB au nu ss = bs ++ [au] ++ rd3 nu ++ [(ss.length : Int)] ++ txsB ss by simp [batchB]]
      exact ho
end Go.Proofs.Ythpocgndgphedaa

namespace Go.Proofs.Ythpocgndgphedaa
open Go.RowKit

/-- P2.6: the bytes of a header. -/
def headB (au rd : Int) (bl pl : List Part) : List Int := [au] ++ rd3 rd ++ digsB bl ++ digsB pl
set_option maxRecDepth 100000 in
set_option maxHeartbeats 1000000 in
theorem appendHeader_w (base : Nat) (v : Value) (k : Nat) (bs : List Int) (au rd : Int) (ba : Option Addr) (bn bc : Nat) (bl : List Part) (pa : Option Addr) (pn pc : Nat) (pl : List Part) (w : World) (ha : 0 ≤ au ∧ au < 4) (hr : 0 ≤ rd ∧ rd ≤ 1048576) (hbn : bn = bl.length) (hpn : pn = pl.length) (hbl : bl.length ≤ 4) (hpl : pl.length ≤ 4) (hb32 : ∀ p ∈ bl, p.bs.length = 32) (hp32 : ∀ p ∈ pl, p.bs.length = 32)
    (hLb : ListAt w ba bc bl) (hOb : OffW w v ba bl) (hLp : ListAt w pa pc pl) (hOp : OffW w v pa pl)
    (ho : w.ownsRow base 5 1 v k (ub bs)) (hB : base ≤ w.heap.size) (hk : k ≤ 80000) :
    Calls Try.prog 42 #[v, .agg #[.int .i64 au, .int .i64 rd, .slice ba bn bc, .slice pa pn pc]] w fun e w' => ∃ v', e = .returned v' ∧ w'.ownsRow base 5 1 v' (k + (headB au rd bl pl).length) (ub (bs ++ headB au rd bl pl)) ∧ Grew w v w' v' := by
  subst hbn hpn
  obtain ⟨i, hi, hz0, hz1, hz2⟩ := info_parts infoU8
  obtain ⟨ha0, ha1⟩ := ha
  have hvne : v.ownBlock ≠ some w.heap.size := fun e => by have := (ho.lt _ e).2; omega
  go_enter Try.func42, Try.ntmps42
  go_wp2_with (at_builtin; refine wpList_append_own_at _ rfl _ _ 26 rfl base 5 i (.int .u8 0) 1 1 Try.underlying26 hi hz0 hz1 hz2 rfl (by decide) _ k _ rfl (World.ownsRow.alloc (World.ownsRow.alloc ho _) _) ⟨w.heap.size + 1, 0, none⟩ 1 1 [.int .u8 au] rfl rfl (by have := cells_new (w.alloc (.cells #[.int .i64 au, .int .i64 rd, .slice ba bl.length bc, .slice pa pl.length pc] 40)) [.int .u8 au] 5; rw [size_alloc] at this; exact this) (u8_one [_]) (by unfold maxLen; omega) (by omega) (le_alloc (le_alloc hB _) _) ?_; intro v1 w1 ho1 hg1 _ hat; have G1 := Grew.of hg1 hat; have r1 := G1.row (heap_alloc2_old w _ _) hvne; have c1 : w1.cell? ⟨w.heap.size, 1, none⟩ = some (.int .i64 rd) := cells_at r1 1 _ rfl)
  have ho1' : w1.ownsRow base 5 1 v1 (k + 1) (ub (bs ++ [au])) := by simpa [ub] using ho1
  have hv1ne : v1.ownBlock ≠ some w.heap.size := fun e => by
    rcases G1.fresh _ e with g | g
    · exact hvne g
    · rw [size_alloc, size_alloc] at g; omega
  have G0 := G1.alloc.alloc
  clear ho1 hg1 hat G1
  refine (appendRound_any base v1 (k + 1) _ rd _ hr ho1' (Nat.le_trans hB G0.grown.size) (by omega)).mono ?_
  rintro e w2 ⟨v2, rfl, ho2, G2⟩
  have r2 := G2.row r1 hv1ne
  have c2 : w2.cell? ⟨w.heap.size, 2, none⟩ = some (.slice ba bl.length bc) := cells_at r2 2 _ rfl
  have hv2ne : v2.ownBlock ≠ some w.heap.size := fun e => by
    rcases G2.fresh _ e with g | g
    · exact hv1ne g
    · have := lt_of_heap r1; omega
  have G02 := G0.trans G2
  have hD1 := appendDigests_w base v2 (k + 1 + 3) _ ba _ bc bl w2 rfl hbl hb32 (G02.listW hLb hOb) (G02.offW hOb) ho2 (Nat.le_trans hB G02.grown.size) (by omega)
  clear r1 c1
  go_wp2_with fail
  refine hD1.mono ?_
  rintro e w3 ⟨v3, rfl, ho3, G3⟩
  have r3 := G3.row r2 hv2ne
  have c3 : w3.cell? ⟨w.heap.size, 3, none⟩ = some (.slice pa pl.length pc) := cells_at r3 3 _ rfl
  have G03 := G02.trans G3
  have hlb := flatB_length bl hb32
  have hD2 := appendDigests_w base v3 (k + 1 + 3 + (digsB bl).length) _ pa _ pc pl w3 rfl hpl hp32 (G03.listW hLp hOp) (G03.offW hOp) ho3 (Nat.le_trans hB G03.grown.size) (by simp [digsB]; omega)
  clear r2 c2 hD1 hlb
  go_wp2_with fail
  refine hD2.mono ?_
  rintro e w4 ⟨v4, rfl, ho4, G4⟩
  go_wp2_with fail
  go_ret
  refine ⟨v4, rfl, ?_, G03.trans G4⟩
  rw [show k + (headB au rd bl pl).length = k + 1 + 3 + (digsB bl).length + (digsB pl).length by simp [headB, rd3]; omega, show bs ++ headB au rd bl pl = bs ++ [au] ++ rd3 rd ++ digsB bl ++ digsB pl by simp [headB]]
  exact ho4
set_option maxRecDepth 100000 in
theorem appendHeader_any (base : Nat) (v : Value) (k : Nat) (bs : List Int) (au rd : Int) (ba : Option Addr) (bn bc : Nat) (bl : List Part) (pa : Option Addr) (pn pc : Nat) (pl : List Part) (w : World) (ha : 0 ≤ au ∧ au < 4) (hr : 0 ≤ rd ∧ rd ≤ 1048576) (hbn : bn = bl.length) (hpn : pn = pl.length) (hbl : bl.length ≤ 4) (hpl : pl.length ≤ 4) (hb32 : ∀ p ∈ bl, p.bs.length = 32) (hp32 : ∀ p ∈ pl, p.bs.length = 32)
    (hLb : ListAt w ba bc bl) (hOb : Off w v ba bl) (hLp : ListAt w pa pc pl) (hOp : Off w v pa pl)
    (ho : w.ownsRow base 5 1 v k (ub bs)) (hB : base ≤ w.heap.size) (hk : k ≤ 80000) :
    Calls Try.prog 42 #[v, .agg #[.int .i64 au, .int .i64 rd, .slice ba bn bc, .slice pa pn pc]] w fun e w' => ∃ v', e = .returned v' ∧ w'.ownsRow base 5 1 v' (k + (headB au rd bl pl).length) (ub (bs ++ headB au rd bl pl)) ∧ Grew w v w' v' :=
  appendHeader_w base v k bs au rd ba bn bc bl pa pn pc pl w ha hr hbn hpn hbl hpl hb32 hp32 hLb hOb.weak hLp hOp.weak ho hB hk
end Go.Proofs.Ythpocgndgphedaa

namespace Go.Proofs.Ythpocgndgphedaa
open Go.RowKit

set_option maxRecDepth 100000 in
theorem headB_le (au rd : Int) (bl pl : List Part) (hbl : bl.length ≤ 4) (hpl : pl.length ≤ 4) (hb32 : ∀ p ∈ bl, p.bs.length = 32) (hp32 : ∀ p ∈ pl, p.bs.length = 32) : (headB au rd bl pl).length ≤ 300 := by
  have h1 := flatB_length bl hb32
  have h2 := flatB_length pl hp32
  simp [headB, rd3, digsB]; omega
end Go.Proofs.Ythpocgndgphedaa

namespace Go.Proofs.Ythpocgndgphedaa
open Go.RowKit

/-- P2.9: the bytes of a certificate. -/
def certB (au rd : Int) (bl pl : List Part) (vl : List Int) : List Int := headB au rd bl pl ++ [(vl.length : Int)] ++ vl
set_option maxRecDepth 100000 in
set_option maxHeartbeats 1000000 in
theorem appendCert_w (base : Nat) (v : Value) (k : Nat) (bs : List Int) (au rd : Int) (ba : Option Addr) (bn bc : Nat) (bl : List Part) (pa : Option Addr) (pn pc : Nat) (pl : List Part) (va : Option Addr) (vn vc : Nat) (vl : List Int) (w : World) (ha : 0 ≤ au ∧ au < 4) (hr : 0 ≤ rd ∧ rd ≤ 1048576) (hbn : bn = bl.length) (hpn : pn = pl.length) (hvn : vn = vl.length) (hbl : bl.length ≤ 4) (hpl : pl.length ≤ 4) (hvl : vl.length ≤ 4) (hb32 : ∀ p ∈ bl, p.bs.length = 32) (hp32 : ∀ p ∈ pl, p.bs.length = 32) (hv4 : ∀ x ∈ vl, 0 ≤ x ∧ x < 4)
    (hLb : ListAt w ba bc bl) (hOb : OffW w v ba bl) (hLp : ListAt w pa pc pl) (hOp : OffW w v pa pl) (hI : IntsAt w va vl) (hne : ∀ sb so, va = some ⟨sb, so, none⟩ → sb < w.heap.size ∧ v.ownBlock ≠ some sb)
    (ho : w.ownsRow base 5 1 v k (ub bs)) (hB : base ≤ w.heap.size) (hk : k ≤ 80000) :
    Calls Try.prog 44 #[v, .agg #[.int .i64 au, .int .i64 rd, .slice ba bn bc, .slice pa pn pc, .slice va vn vc]] w fun e w' => ∃ v', e = .returned v' ∧ w'.ownsRow base 5 1 v' (k + (certB au rd bl pl vl).length) (ub (bs ++ certB au rd bl pl vl)) ∧ Grew w v w' v' := by
  subst hvn
  obtain ⟨i, hi, hz0, hz1, hz2⟩ := info_parts infoU8
  have hvne : v.ownBlock ≠ some w.heap.size := fun e => by have := (ho.lt _ e).2; omega
  have hA : Below w.heap.size w (w.alloc (.cells #[.int .i64 au, .int .i64 rd, .slice ba bn bc, .slice pa pn pc, .slice va vl.length vc] 45)) := (Below.refl _ _).alloc (Nat.le_refl _) _
  have hH := appendHeader_w base v k bs au rd ba bn bc bl pa pn pc pl _ ha hr hbn hpn hbl hpl hb32 hp32 (hLb.below hA) (hOb.alloc (.cells #[.int .i64 au, .int .i64 rd, .slice ba bn bc, .slice pa pn pc, .slice va vl.length vc] 45)) (hLp.below hA) (hOp.alloc _) (World.ownsRow.alloc ho _) (le_alloc hB _) hk
  have hle := headB_le au rd bl pl hbl hpl hb32 hp32
  clear hbn hpn
  go_enter Try.func44, Try.ntmps44
  go_wp2_with fail
  refine hH.mono ?_
  rintro e w1 ⟨v1, rfl, ho1, G1⟩
  have r1 := G1.row (heap_alloc_new w _) hvne
  have c4 : w1.cell? ⟨w.heap.size, 4, none⟩ = some (.slice va vl.length vc) := cells_at r1 4 _ rfl
  have hv1ne : v1.ownBlock ≠ some w.heap.size := fun e => by
    rcases G1.fresh _ e with g | g
    · exact hvne g
    · rw [size_alloc] at g; omega
  have G0 := G1.alloc
  clear hH G1
  have hC : certB au rd bl pl vl = headB au rd bl pl ++ [(vl.length : Int)] ++ vl := rfl
  generalize headB au rd bl pl = HB at *
  have HC : Hid (certB au rd bl pl vl = HB ++ [(vl.length : Int)] ++ vl) := hC
  clear hC
  go_wp2_with (at_builtin; refine wpList_append_own_at _ rfl _ _ 26 rfl base 5 i (.int .u8 0) 1 1 Try.underlying26 hi hz0 hz1 hz2 rfl (by decide) _ (k + HB.length) _ rfl (World.ownsRow.alloc ho1 _) ⟨w1.heap.size, 0, none⟩ 1 1 [.int .u8 (vl.length : Int)] rfl rfl (cells_new _ _ _) (u8_one [_]) (by unfold maxLen; omega) (by omega) (le_alloc (Nat.le_trans hB G0.grown.size) _) ?_; intro v2 w2 ho2 hg2 _ hat; have G2 := (Grew.of hg2 hat).alloc; have r2 := G2.row r1 hv1ne; have d4 : w2.cell? ⟨w.heap.size, 4, none⟩ = some (.slice va vl.length vc) := cells_at r2 4 _ rfl)
  have ho2' : w2.ownsRow base 5 1 v2 (k + HB.length + 1) (ub (bs ++ HB ++ [(vl.length : Int)])) := by simpa [ub] using ho2
  have G02 := G0.trans G2
  clear ho2 hg2 hat c4 r1
  go_loopw [21, 0] (fun j t wr => ∃ (m : Nat) (tv : Value), m ≤ vl.length ∧ j = .int .i64 m ∧ tv = t ∧ wr.ownsRow base 5 1 tv (k + HB.length + 1 + m) (ub (bs ++ HB ++ [(vl.length : Int)] ++ vl.take m)) ∧ Grew w v wr tv) (fun j _ _ => vl.length - (intOf j).toNat)
  case atStart => exact ⟨0, _, Nat.zero_le _, rfl, rfl, by simpa using ho2', G02⟩
  case round =>
    clear ho2' G02 r2 d4
    obtain ⟨m, tv, hm, rfl, rfl, ho, G⟩ := hrel
    by_cases hlt : m < vl.length
    · obtain ⟨sb, so, rfl, hc⟩ : ∃ sb so, va = some ⟨sb, so, none⟩ ∧ ∀ j, j < vl.length → w.cell? ⟨sb, so + j, none⟩ = some (.int .i64 (vl.getD j 0)) := by
        rcases hI.cells with h | h
        · rw [h] at hlt; simp at hlt
        · exact h
      have ck0 := hc m hlt
      have ck : wr.cell? ⟨sb, so + m, none⟩ = some (.int .i64 (vl.getD m 0)) := (World.cell?_of_block (G.grown.block sb (block_lt_of_cell ck0) (fun e => (hne sb so rfl).2 e.symm))).trans ck0
      obtain ⟨hx0, hx1⟩ := hv4 (vl.getD m 0) (by simp [List.getD, hlt])
      have hst : Hid (vl.take (m + 1) = vl.take m ++ [vl.getD m 0]) := by
        show _ = _
        rw [List.take_succ_eq_append_getElem hlt]
        simp only [List.getD, List.getElem?_eq_getElem hlt, Option.getD_some]
      have hltI : (m : Int) < vl.length := by omega
      clear hc ck0
      generalize vl.getD m 0 = x at ck hst hx0 hx1
      have hBr : base ≤ wr.heap.size := Nat.le_trans hB G.grown.size
      go_wp2_with (at_builtin; refine wpList_append_own_at _ rfl _ _ 26 rfl base 5 i (.int .u8 0) 1 1 Try.underlying26 hi hz0 hz1 hz2 rfl (by decide) _ (k + HB.length + 1 + m) _ rfl (World.ownsRow.alloc ho _) ⟨wr.heap.size, 0, none⟩ 1 1 [.int .u8 x] rfl rfl (cells_new _ _ _) (u8_one [_]) (by unfold maxLen; omega) (by omega) (le_alloc hBr _) ?_; intro v5 w5 ho5 hg5 _ hat5)
      go_roundw
      case rel =>
        have hR : ∃ (m' : Nat) (tv' : Value), m' ≤ vl.length ∧ (Value.int .i64 ((m : Int) + 1)) = .int .i64 m' ∧ tv' = v5 ∧ w5.ownsRow base 5 1 tv' (k + HB.length + 1 + m') (ub (bs ++ HB ++ [(vl.length : Int)] ++ vl.take m')) ∧ Grew w v w5 tv' :=
          ⟨m + 1, v5, by omega, by go_num, rfl, by rw [hst.out, ← List.append_assoc]; exact owns_snoc ho5, G.trans (Grew.of hg5 hat5).alloc⟩
        first | exact hR | ((repeat apply Exists.intro); exact ⟨hR, rfl⟩)
      case measure => simp [intOf]; omega
    · obtain rfl : m = vl.length := by omega
      rw [List.take_of_length_le (Nat.le_refl _)] at ho
      have hltI : ¬ (vl.length : Int) < vl.length := by omega
      go_wp2_with fail
      go_ret
      refine ⟨_, rfl, ?_, G⟩
      rw [HC.out, show k + (HB ++ [(vl.length : Int)] ++ vl).length = k + HB.length + 1 + vl.length by simp; omega, show bs ++ (HB ++ [(vl.length : Int)] ++ vl) = bs ++ HB ++ [(vl.length : Int)] ++ vl by simp]
      exact ho
set_option maxRecDepth 100000 in
theorem appendCert_any (base : Nat) (v : Value) (k : Nat) (bs : List Int) (au rd : Int) (ba : Option Addr) (bn bc : Nat) (bl : List Part) (pa : Option Addr) (pn pc : Nat) (pl : List Part) (va : Option Addr) (vn vc : Nat) (vl : List Int) (w : World) (ha : 0 ≤ au ∧ au < 4) (hr : 0 ≤ rd ∧ rd ≤ 1048576) (hbn : bn = bl.length) (hpn : pn = pl.length) (hvn : vn = vl.length) (hbl : bl.length ≤ 4) (hpl : pl.length ≤ 4) (hvl : vl.length ≤ 4) (hb32 : ∀ p ∈ bl, p.bs.length = 32) (hp32 : ∀ p ∈ pl, p.bs.length = 32) (hv4 : ∀ x ∈ vl, 0 ≤ x ∧ x < 4)
    (hLb : ListAt w ba bc bl) (hOb : Off w v ba bl) (hLp : ListAt w pa pc pl) (hOp : Off w v pa pl) (hI : IntsAt w va vl) (hne : ∀ sb so, va = some ⟨sb, so, none⟩ → sb < w.heap.size ∧ v.ownBlock ≠ some sb)
    (ho : w.ownsRow base 5 1 v k (ub bs)) (hB : base ≤ w.heap.size) (hk : k ≤ 80000) :
    Calls Try.prog 44 #[v, .agg #[.int .i64 au, .int .i64 rd, .slice ba bn bc, .slice pa pn pc, .slice va vn vc]] w fun e w' => ∃ v', e = .returned v' ∧ w'.ownsRow base 5 1 v' (k + (certB au rd bl pl vl).length) (ub (bs ++ certB au rd bl pl vl)) ∧ Grew w v w' v' :=
  appendCert_w base v k bs au rd ba bn bc bl pa pn pc pl va vn vc vl w ha hr hbn hpn hvn hbl hpl hvl hb32 hp32 hv4 hLb hOb.weak hLp hOp.weak hI hne ho hB hk
end Go.Proofs.Ythpocgndgphedaa
