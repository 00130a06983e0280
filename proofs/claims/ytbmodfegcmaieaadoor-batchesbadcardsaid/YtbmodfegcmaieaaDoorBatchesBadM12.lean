/- The digests of a round, by their authors. -/
import Derived.Test.YtbmodfegcmaieaaDoorGBcF
import Derived.Test.YtbmodfegcmaieaaDoorBatchesBadM0
import Derived.Test.YtbmodfegcmaieaaDoorGBstr
import Derived.Test.YtbmodfegcmaieaaDoorGOwnL
import Derived.Test.YtbmodfegcmaieaaDoorGSteps
import Derived.Test.YtbmodfegcmaieaaDoorGAppB
import Derived.Deep.Strs
import Derived.Test.YtbmodfegcmaieaaDoorGCBatch
import Derived.Test.YtbmodfegcmaieaaDoorGBtRow
import Derived.Test.YtbmodfegcmaieaaDoorGAppR
import Derived.Test.YtbmodfegcmaieaaDoorGApp
import Derived.Laws.AppendOwnNone
import Derived.Deep.RegionHeld3
import Derived.Test.YtbmodfegcmaieaaDoorBatchesBadM6
import Derived.Test.YtbmodfegcmaieaaDoorQDagP
namespace Go.Proofs.YtbmodfegcmaieaaDoor
open Go.RowKit Go.WideMaps Go.Maps

set_option maxRecDepth 100000 in
theorem snoc_indB {α : Type} {P : List α → Prop} (h0 : P []) (hs : ∀ l x, P l → P (l ++ [x])) : ∀ l, P l := fun l => by
  have : ∀ l : List α, P l.reverse := by
    intro l
    induction l with
    | nil => exact h0
    | cons x l ih => rw [List.reverse_cons]; exact hs _ _ ih
  simpa using this l.reverse
/-- An element of the map stands for itself. -/
def tokE (v : Value) : Option (DataW Value × List MemPlace) := some (.held v, [])
/-- The map of batches by their digests. -/
def heldD (bl : List Bc) : DataW Value := bl.foldl (fun D b => D.put (keyS (bstr b.v.d)) (.held b.val)) (.map [])
set_option maxRecDepth 100000 in
theorem heldD_snoc (bl : List Bc) (b : Bc) : heldD (bl ++ [b]) = (heldD bl).put (keyS (bstr b.v.d)) (.held b.val) := by simp [heldD, List.foldl_append]
set_option maxRecDepth 100000 in
theorem heldD_map : ∀ bl : List Bc, IsMap (heldD bl) := by
  refine snoc_indB isMap_empty (fun l x h => ?_)
  rw [heldD_snoc]; exact h.put _ _
set_option maxRecDepth 100000 in
theorem keyS_lit (s : ByteArray) : WideAt.IsKeyLit (keyS s) := trivial
def bws (bl : List Bc) : List BW := bl.map (·.v)
set_option maxRecDepth 100000 in
theorem bws_length (bl : List Bc) : (bws bl).length = bl.length := by simp [bws]
set_option maxRecDepth 100000 in
theorem hasB_snoc (l : List BW) (b : BW) (d : List Int) : hasB (l ++ [b]) d = (hasB l d || decide (bstr b.d = bstr d)) := by simp [hasB]
set_option maxRecDepth 100000 in
theorem held_has (d : List Int) : ∀ bl : List Bc, Maps.has (heldD bl) (keyS (bstr d)) = hasB (bws bl) d := by
  refine snoc_indB rfl (fun l x h => ?_)
  have e : bws (l ++ [x]) = bws l ++ [x.v] := by simp [bws]
  rw [heldD_snoc, e, hasB_snoc]
  by_cases hx : bstr x.v.d = bstr d
  · rw [hx, has_put_same (heldD_map l) (keyS_lit _)]; simp
  · rw [has_put_other (fun e => hx (keyS_inj e).symm), h]; simp [hx]
set_option maxRecDepth 100000 in
theorem held_none {bl : List Bc} {d : List Int} (h : hasB (bws bl) d = false) (z : DataW Value) : (heldD bl).atKey (keyS (bstr d)) z = z := atKey_of_not_has (by rw [held_has]; exact h) z
/-- The batch of a digest, in memory. -/
def bcOf (l : List Bc) (d : List Int) : Option Bc := l.find? fun b => decide (bstr b.v.d = bstr d)
set_option maxRecDepth 100000 in
theorem bcOf_bOf (l : List Bc) (d : List Int) : (bcOf l d).map (·.v) = bOf (bws l) d := by
  induction l with
  | nil => rfl
  | cons x r ih =>
    simp only [bcOf, bOf, bws, List.map_cons, List.find?_cons] at ih ⊢
    cases decide (bstr x.v.d = bstr d)
    · exact ih
    · rfl
set_option maxRecDepth 100000 in
theorem held_at {d : List Int} (z : DataW Value) : ∀ (bl : List Bc), bl.Pairwise (fun a b => bstr a.v.d ≠ bstr b.v.d) → ∀ b, bcOf bl d = some b → (heldD bl).atKey (keyS (bstr d)) z = .held b.val := by
  refine snoc_indB (fun _ b h => by cases h) (fun l x h hp b hb => ?_)
  rw [List.pairwise_append] at hp
  rw [heldD_snoc]
  by_cases hx : bstr x.v.d = bstr d
  · rw [hx, atKey_put_same (heldD_map l) (keyS_lit _)]
    have hn : bcOf l d = none := by
      rw [bcOf, List.find?_eq_none]
      intro c hc h2
      exact hp.2.2 c hc x (by simp) ((of_decide_eq_true h2).trans hx.symm)
    rw [bcOf, List.find?_append] at hb
    rw [bcOf] at hn
    rw [hn] at hb
    have : some x = some b := by simpa [hx] using hb
    cases this; rfl
  · rw [atKey_put_other (fun e => hx (keyS_inj e).symm)]
    refine h hp.1 b ?_
    rw [bcOf, List.find?_append] at hb
    rw [bcOf]
    cases hl : l.find? fun b => decide (bstr b.v.d = bstr d) with
    | some c => rw [hl] at hb; simpa using hb
    | none => rw [hl] at hb; simp [hx] at hb
set_option maxRecDepth 100000 in
theorem bsF_apart {bl : List Bc} (h : bsF (bws bl) = 0) : bl.Pairwise (fun a b => bstr a.v.d ≠ bstr b.v.d) := by
  rw [List.pairwise_iff_getElem]
  intro i j hi hj hij e
  have hb := (bsF_zero h).2 j (by rw [bws_length]; exact hj)
  simp only [badB, Bool.or_eq_false_iff] at hb
  have h2 := hb.2
  have e1 : (bws bl).getD j ⟨0, 0, []⟩ = (bl[j]).v := by simp [bws, hj]
  rw [e1, hasB, List.any_eq_false] at h2
  have hm : (bl[i]).v ∈ (bws bl).take j := by
    rw [List.mem_take_iff_getElem]
    exact ⟨i, by rw [bws_length]; omega, by simp [bws]⟩
  exact h2 _ hm (by simp [e])
set_option maxRecDepth 100000 in
theorem wpList_lookup_tok {P : Program} (w : World) {ops : Array Oper} {rest : List Oper} {o : Oper} {a : Act} {Q : Exit → Act → World → Prop} (hg : o.guard = none) (m x : Operand) (t : TypeId) (hop : o.op = Op.lookup t m x true)
    (k e : TypeId) (K : Keyed P k) (ht : P.underlying t = some (.map k e)) {z : Value} (hz : (zeroValue e).run P w = .ok z w) (b n : Nat) (D : DataW Value)
    (hm : a.eval m = .map (some b)) (hown : w.ownsMap P k tokE b n D) (key : Value) (kl : Lit) (hx : a.eval x = key) (hkey : keyOf P k key = some kl) (V : Value) (hat : D.atKey kl (.held z) = .held V)
    (hK : wpList P ops Q rest (a.put o.dst (.tuple #[V, .bool (Maps.has D kl)])) w) :
    wpList P ops Q (o :: rest) a w :=
  wpList_lookup_own_ok w hg m x t hop k e K ht tokE hz (.held z) [] rfl b n D hm hown key kl hx hkey (fun v ps hv => by
    have h1 : some (DataW.held v, ([] : List MemPlace)) = some (D.atKey kl (.held z), ps) := hv
    rw [hat] at h1
    injection h1 with h1
    injection h1 with h1 h2
    injection h1 with h1
    subst h1
    exact hK)
set_option maxRecDepth 100000 in
theorem zeroB (w : World) : (zeroValue 42).run Tryd.prog w = .ok (.agg #[.int .i64 0, .int .i64 0, .slice none 0 0]) w := by kernel_rfl
set_option maxRecDepth 100000 in
theorem makeMapB (n : Int) (w : World) : (Instr.makeMap 37 (some (.int .i64 n))).run Tryd.prog w = .ok (.map (some w.heap.size)) (w.alloc (.map #[] 0)) := by
  simp [Instr.makeMap, run_underlying Tryd.underlying37, Result.andThen]
  rfl
set_option maxRecDepth 100000 in
theorem ownsMap_below {H : Type} {P : Program} {k : TypeId} {R : Value → Option (DataW H × List MemPlace)} {w w' : World} {b n : Nat} {D : DataW H} (h : w.ownsMap P k R b n D) (hb : Below w.heap.size w w') : w'.ownsMap P k R b n D := by
  have hl := h.lt
  obtain ⟨es, clock, h1, F, hs, hD⟩ := h
  exact ⟨es, clock, (hb.block _ hl).trans h1, F, hs, hD⟩
/-- What byDigest answers. -/
structure BydO (w w' : World) (e : Ending) (bl : List Bc) : Prop where
  below : Below w.heap.size w w'
  out : (bsF (bws bl) = 12 ∧ e = .returned (.tuple #[.map none, .int .i64 12])) ∨ (bsF (bws bl) = 0 ∧ ∃ b, e = .returned (.tuple #[.map (some b), .int .i64 0]) ∧ w.heap.size ≤ b ∧ w'.ownsMap Tryd.prog 9 tokE b bl.length (heldD bl))
set_option maxRecDepth 100000 in
theorem badB_at {bl : List Bc} {m : Nat} (hm : m < bl.length) : badB (bws bl) m = (decide ((bl[m]).v.f ≠ 0) || hasB (bws (bl.take m)) (bl[m]).v.d) := by
  have e1 : (bws bl).getD m ⟨0, 0, []⟩ = (bl[m]).v := by simp [bws, hm]
  have e2 : (bws bl).take m = bws (bl.take m) := by simp [bws, List.map_take]
  rw [badB, e1, e2]
set_option maxRecDepth 100000 in
set_option maxHeartbeats 4000000 in
theorem byDigest_any (bl : List Bc) (sa : Option Addr) (n cap : Nat) (w : World) (hn : n = bl.length) (hs : BcsAt w sa bl) (hT : Tabs w) :
    Calls Tryd.prog 28 #[.slice sa n cap] w fun e w' => BydO w w' e bl := by
  subst hn
  have HT : Hid (∀ W : World, Below w.heap.size w W → Tabs W) := by
    show ∀ W, _
    exact fun W hW => hT.below hW
  have HS : Hid (∀ W : World, Below w.heap.size w W → BcsAt W sa bl) := by
    show ∀ W, _
    exact fun W hW => hs.below hW
  clear hT hs
  by_cases hlong : 800 < bl.length
  · have HL : Hid (bsF (bws bl) = 12) := bsF_long (by rw [bws_length]; exact hlong)
    have hI : (bl.length : Int) > 800 := by omega
    go_enter Tryd.func28, Tryd.ntmps28
    go_wp2_with fail
    go_ret2
    exact ⟨Below.refl _ _, .inl ⟨HL.out, rfl⟩⟩
  · have hI : ¬ ((bl.length : Int) > 800) := by omega
    have hmm := makeMapB
    go_enter Tryd.func28, Tryd.ntmps28
    go_wp2_with fail
    have hA0 := (Below.refl w.heap.size w).alloc (Nat.le_refl _) (.map #[] 0)
    have hown0 := World.ownsMap_made w Tryd.prog 9 tokE
    generalize w.alloc (.map #[] 0) = W0 at hA0 hown0 ⊢
    go_loopw [19] (fun j wr => ∃ m : Nat, m ≤ bl.length ∧ j = .int .i64 m ∧ Hid (∀ k, k < m → badB (bws bl) k = false) ∧ wr.ownsMap Tryd.prog 9 tokE w.heap.size m (heldD (bl.take m)) ∧ Below w.heap.size w wr) (fun j _ => bl.length - (intOf j).toNat)
    case atStart => exact ⟨0, Nat.zero_le _, rfl, (show ∀ k, k < 0 → _ from fun k hk => by omega), hown0, hA0⟩
    case round =>
      clear hown0 hA0
      obtain ⟨m, hm, rfl, HG, hown, hb⟩ := hrel
      by_cases hlt : m < bl.length
      · have hltI : (m : Int) < bl.length := by omega
        obtain ⟨sb, so, rfl, c0, c1, c2⟩ := (HS.out wr hb).at m hlt
        have hx := (HS.out wr hb).each _ (List.getElem_mem hlt)
        have HBD : Hid (badB (bws bl) m = (decide ((bl[m]).v.f ≠ 0) || hasB (bws (bl.take m)) (bl[m]).v.d)) := badB_at hlt
        have HST : Hid (heldD (bl.take (m + 1)) = (heldD (bl.take m)).put (keyS (bstr (bl[m]).v.d)) (.held (bl[m]).val)) := by
          show _ = _
          rw [List.take_succ_eq_append_getElem hlt, heldD_snoc]
        generalize bl[m] = x at c0 c1 c2 hx HBD HST
        have HHAS : Hid (Maps.has (heldD (bl.take m)) (keyS (bstr x.v.d)) = hasB (bws (bl.take m)) x.v.d) := held_has _ _
        have HNON : Hid (hasB (bws (bl.take m)) x.v.d = false → ∀ z, (heldD (bl.take m)).atKey (keyS (bstr x.v.d)) z = z) := by
          show _ → _
          exact fun h z => held_none h z
        have HHIT : Hid (hasB (bws (bl.take m)) x.v.d = true → ∃ a1 a2 a3 a4 a5, ∀ z, (heldD (bl.take m)).atKey (keyS (bstr x.v.d)) z = .held (.agg #[.int .i64 a1, .int .i64 a2, .slice a3 a4 a5])) := by
          show _ → _
          intro h
          have hap : (bl.take m).Pairwise (fun a b => bstr a.v.d ≠ bstr b.v.d) := by
            refine bsF_apart (bsF_ok ?_ (fun k hk => ?_))
            · rw [bws_length, List.length_take]; omega
            · rw [bws_length, List.length_take] at hk
              have h1 := HG.out k (by omega)
              rw [badB_at (by rw [List.length_take]; omega)]
              rw [badB_at (by omega)] at h1
              rw [List.take_take, List.getElem_take]
              rwa [show min k m = k by omega]
          have hs : (bcOf (bl.take m) x.v.d).isSome = true := by
            have h1 := congrArg Option.isSome (bcOf_bOf (bl.take m) x.v.d)
            rw [bOf_some, h, Option.isSome_map] at h1
            exact h1
          obtain ⟨b, hb⟩ := Option.isSome_iff_exists.1 hs
          exact ⟨_, _, _, _, _, fun z => held_at z _ hap b hb⟩
        generalize heldD (bl.take m) = D at hown HST HHAS HNON HHIT
        have hA2 := (Below.refl wr.heap.size wr).alloc (Nat.le_refl _) (.cells #[.int .i64 x.v.au, .int .i64 x.v.nu, .slice x.ta x.v.ss.length x.tc] 42)
        have q0 := heap_alloc_new wr (.cells #[.int .i64 x.v.au, .int .i64 x.v.nu, .slice x.ta x.v.ss.length x.tc] 42)
        have hown2 := hown.alloc (.cells #[.int .i64 x.v.au, .int .i64 x.v.nu, .slice x.ta x.v.ss.length x.tc] 42)
        go_upto_region 7 with fail
        generalize wr.alloc (.cells #[.int .i64 x.v.au, .int .i64 x.v.nu, .slice x.ta x.v.ss.length x.tc] 42) = W2 at hA2 q0 hown2 ⊢
        generalize wr.heap.size = X at q0 ⊢
        have hB2 := hb.trans (hA2.mono hb.size)
        have hx2 := hx.below hA2
        have k0 := cells_at q0 0 _ rfl
        have k1 := cells_at q0 1 _ rfl
        have k2 := cells_at q0 2 _ rfl
        clear c0 c1 c2 hown
        cases hf : decide (x.v.f ≠ 0)
        case true =>
          have hne := of_decide_eq_true hf
          have HBB : Hid (bsF (bws bl) = 12) := bsF_bad (by rw [bws_length]; exact hlt) (by rw [HBD.out, hf]; rfl)
          clear hf
          go_wp2_with fail
          refine (batchDigest_bad x.v.au x.v.nu x.ta _ x.tc x.v.ss x.v.f W2 rfl (Nat.le_trans hx2.le hx2.max) hx2.strs rfl hne).mono ?_
          rintro e w3 ⟨he, hb3⟩
          subst he
          dsimp only
          have hB3 := hB2.trans (hb3.mono hB2.size)
          have hnb : (x.v.f != 0) = true := by simpa using hne
          clear hne
          go_wp2_with fail
          go_ret2
          exact ⟨hB3, .inl ⟨HBB.out, rfl⟩⟩
        case false =>
          have h0 : x.v.f = 0 := Decidable.not_not.1 (of_decide_eq_false hf)
          obtain ⟨y1, y2, y3, y4⟩ := batchF_ok h0
          have HDG := batchDigest_ok x.v.au x.v.nu x.ta _ x.tc x.v.ss W2 rfl hx2.strs h0 y1 (by omega) y3.2 (fun s hs => (y4 s hs).2) hx2.lt (HT.out W2 hB2)
          have HBD2 : Hid (badB (bws bl) m = hasB (bws (bl.take m)) x.v.d) := by show _ = _; rw [HBD.out, hf]; rfl
          clear hf HBD h0 y1 y2 y3 y4
          go_wp2_with fail
          refine HDG.mono ?_
          rintro e w3 ⟨dg, he, hgd, hb3, hsl3⟩
          subst he
          dsimp only
          have hB3 := hB2.trans (hb3.mono hB2.size)
          have q3 := (hb3.block _ (lt_of_heap q0)).trans q0
          have hown3 := ownsMap_below hown2 hb3
          change SliceAt w3 (some ⟨dg, 0, none⟩) 32 x.v.d at hsl3
          have h32 : x.v.d.length = 32 := tagD_length _ _
          have htx := run_text w3 (some ⟨dg, 0, none⟩) 32 32 x.v.d h32.symm hsl3
          have hkey : keyOf Tryd.prog 9 (.string (bstr x.v.d)) = some (keyS (bstr x.v.d)) := keyOf_string_mk Tryd.underlying9 (by rw [bstr_sz, h32]; decide)
          clear k0 k1 k2 q0 hown2 h32 HDG hx hx2
          cases hh : hasB (bws (bl.take m)) x.v.d
          case true =>
            have HBB : Hid (bsF (bws bl) = 12) := bsF_bad (by rw [bws_length]; exact hlt) (by rw [HBD2.out, hh])
            have HB : Hid (Maps.has D (keyS (bstr x.v.d)) = true) := by show _ = _; rw [HHAS.out, hh]
            obtain ⟨a1, a2, a3, a4, a5, hat⟩ := HHIT.out hh
            have HAT : Hid (∀ z, D.atKey (keyS (bstr x.v.d)) z = .held (.agg #[.int .i64 a1, .int .i64 a2, .slice a3 a4 a5])) := hat
            clear hh hat HHIT HNON HHAS HBD2 HST
            go_wp2_with (at_lookup; refine wpList_lookup_tok _ rfl _ _ 37 rfl 9 42 keyT Tryd.underlying37 (zeroB _) w.heap.size m _ rfl hown3 _ _ rfl hkey _ (HAT.out _) ?_; rw [HB.out])
            go_ret2
            exact ⟨hB3.alloc hB3.size _, .inl ⟨HBB.out, rfl⟩⟩
          case false =>
            have HB : Hid (Maps.has D (keyS (bstr x.v.d)) = false) := by show _ = _; rw [HHAS.out, hh]
            have HGN : Hid (∀ k, k < m + 1 → badB (bws bl) k = false) := by
              show ∀ k, _
              intro k hk
              rcases Nat.lt_or_ge k m with g | g
              · exact HG.out k g
              · obtain rfl : k = m := by omega
                rw [HBD2.out, hh]
            have HAT : Hid (∀ z, D.atKey (keyS (bstr x.v.d)) z = z) := HNON.out hh
            clear hh HHIT HNON HHAS HBD2
            go_upto_region 13 with (at_lookup; refine wpList_lookup_tok _ rfl _ _ 37 rfl 9 42 keyT Tryd.underlying37 (zeroB _) w.heap.size m _ rfl hown3 _ _ rfl hkey _ (HAT.out _) ?_; rw [HB.out])
            have hA4 := (Below.refl w3.heap.size w3).alloc (Nat.le_refl _) (.cells #[.int .i64 0, .int .i64 0, .slice none 0 0] 42)
            have hown4 := hown3.alloc (.cells #[.int .i64 0, .int .i64 0, .slice none 0 0] 42)
            have q4 := (hA4.block _ (lt_of_heap q3)).trans q3
            have hsl4 := hsl3.below hA4
            have hB4 := hB3.trans (hA4.mono hB3.size)
            clear htx
            generalize w3.alloc (.cells #[.int .i64 0, .int .i64 0, .slice none 0 0] 42) = W4 at hA4 hown4 q4 hsl4 hB4 ⊢
            have htx := run_text W4 (some ⟨dg, 0, none⟩) 32 32 x.v.d (tagD_length _ _).symm hsl4
            have k0 := cells_at q4 0 _ rfl
            have k1 := cells_at q4 1 _ rfl
            have k2 := cells_at q4 2 _ rfl
            go_wp2_with (at_mapUpdate; refine wpList_mapUpdate_own _ rfl _ _ _ 37 rfl 9 42 keyT Tryd.underlying37 tokE w.heap.size m _ rfl hown4 (by unfold maxLen; omega) _ _ _ rfl rfl hkey _ [] rfl ?_; intro w5 hown5 hgrow5)
            have hB5 := Below.grown hB4 hgrow5 hB4.size (fun j hj => by cases hj; exact Nat.le_refl _)
            go_roundw
            case rel => exact ⟨m + 1, by omega, by go_num, HGN, by rw [HST.out]; exact hown5, hB5⟩
            case measure => simp [intOf]; omega
      · obtain rfl : m = bl.length := by omega
        rw [List.take_length] at hown
        have HOK : Hid (bsF (bws bl) = 0) := bsF_ok (by rw [bws_length]; omega) (fun k hk => HG.out k (by rw [bws_length] at hk; exact hk))
        go_wp2_with fail
        go_ret2
        exact ⟨hb, .inr ⟨HOK.out, _, rfl, Nat.le_refl _, hown⟩⟩
set_option maxRecDepth 100000 in
theorem checkBatches_any (bl : List Bc) (sa : Option Addr) (n cap : Nat) (w : World) (hn : n = bl.length) (hs : BcsAt w sa bl) (hT : Tabs w) :
    Calls Tryd.prog 13 #[.slice sa n cap] w fun e w' => e = .returned (.int .i64 (bsF (bws bl))) ∧ Below w.heap.size w w' := by
  subst hn
  have HX := byDigest_any bl sa _ cap w rfl hs hT
  clear hs hT
  go_enter Tryd.func13, Tryd.ntmps13
  go_wp2_with fail
  refine HX.mono ?_
  intro e w1 hO
  have hb := hO.below
  rcases hO.out with ⟨h1, he⟩ | ⟨h1, b, he, _, _⟩
  · have H1 : Hid _ := h1
    subst he
    dsimp only
    clear h1 hO
    go_wp2_with fail
    go_ret
    exact ⟨ret_int H1.out.symm, hb⟩
  · have H1 : Hid _ := h1
    subst he
    dsimp only
    clear h1 hO
    go_wp2_with fail
    go_ret
    exact ⟨ret_int H1.out.symm, hb⟩
end Go.Proofs.YtbmodfegcmaieaaDoor

namespace Go.Proofs.YtbmodfegcmaieaaDoor
open Go.ChangeShapes Go.WideShapes Go.ChangeAt Go.RowKit Go.Deep

/-- What is read of a slice of texts that came in. -/
structure TextsAt (w : World) (sa : Option Addr) (cap : Nat) (ss : List ByteArray) : Prop where
  le : ss.length ≤ cap
  reach : cap * 16 ≤ 140737488351232
  nil : sa = none → cap = 0
  strs : StrsAt w sa ss
set_option maxRecDepth 100000 in
theorem TextsAt.below {w w' : World} {sa : Option Addr} {cap : Nat} {ss : List ByteArray} (h : TextsAt w sa cap ss) (hb : Below w.heap.size w w') : TextsAt w' sa cap ss := ⟨h.le, h.reach, h.nil, h.strs.below hb⟩

set_option maxRecDepth 100000 in
theorem cStr : Tryd.prog.cellsOf 9 = 1 := by kernel_rfl
set_option maxRecDepth 100000 in
theorem bStr : Tryd.prog.bytesOf 9 = 16 := by kernel_rfl
set_option maxRecDepth 100000 in
theorem open_texts_cells {H : Type} {enc : TypeId × Value → H} {W : World} {fuel : Nat} {cs : List Value} {x : DataW H × List MemPlace}
    (hf : DataW.trod enc Tryd.prog W 0 (fun _ => true) true fuel 40 cs = some x) (hfit : ∀ n ∈ x.1.weights Tryd.prog 40, n ≤ reachBytes) :
    ∃ sa cap ss, cs = [.slice sa (List.length ss) cap] ∧ TextsAt W sa cap ss := by
  rcases open_strs Tryd.underlying40 Tryd.underlying9 cStr hf with ⟨rfl, _⟩ | ⟨a, len, cap, m, Sx, rfl, _, hl, hm, hmm, rfl, hc⟩
  · exact ⟨none, 0, [], rfl, ⟨Nat.le_refl _, by decide, fun _ => rfl, ⟨.inl rfl, fun s hs => by cases hs⟩⟩⟩
  · simp only [if_true] at hmm
    subst hmm
    have hw := hfit ((((List.range len).map fun i => (DataW.lit (.string (Sx i).data.toList) : DataW H)).length + ((List.range (m - len)).map fun j => (DataW.lit (.string (Sx (len + j)).data.toList) : DataW H)).length) * Tryd.prog.bytesOf 9) (by simp [DataW.weights, Tryd.underlying40])
    rw [bStr] at hw
    simp [reachBytes] at hw
    refine ⟨some a, m, (List.range len).map Sx, by simp, ⟨by simpa using hl, by omega, (fun e => by cases e), ⟨?_, ?_⟩⟩⟩
    · rcases Nat.eq_zero_or_pos len with h0 | h0
      · subst h0; exact .inl rfl
      · right
        have h9 := (hc 0 (by omega)).1
        obtain ⟨b, off, rfl⟩ : ∃ b off, a = ⟨b, off, none⟩ := by
          cases a with
          | mk b off spot =>
            cases spot with
            | none => exact ⟨b, off, rfl⟩
            | some s => simp [World.cell?, Addr.add] at h9; split at h9 <;> cases h9
        refine ⟨b, off, rfl, fun j hj => ?_⟩
        have hj' : j < len := by simpa using hj
        have := (hc j (by omega)).1
        rw [add_off] at this
        rw [this]
        simp [hj']
    · intro s hs
      simp at hs
      obtain ⟨j, hj, rfl⟩ := hs
      exact (hc j (by omega)).2
end Go.Proofs.YtbmodfegcmaieaaDoor

namespace Go.Proofs.YtbmodfegcmaieaaDoor
open Go.RowKit

/-- Is a text among them? -/
def inS (s : ByteArray) (ss : List ByteArray) : Bool := ss.any fun x => decide (x = s)
set_option maxRecDepth 100000 in
theorem inS_true {s : ByteArray} {ss : List ByteArray} (h : s ∈ ss) : inS s ss = true := by simp [inS, h]
set_option maxRecDepth 100000 in
theorem inS_false {s : ByteArray} {ss : List ByteArray} (h : s ∉ ss) : inS s ss = false := by
  rw [inS, List.any_eq_false]
  intro x hx
  simp only [decide_eq_true_eq]
  exact fun e => h (e ▸ hx)
/-- Transactions that may be, all different. -/
def poolOk (ss : List ByteArray) : Bool := ss.all txOk && decide ss.Nodup
/-- P7.1 -/
def poolF (nx : Int) (ss : List ByteArray) : Int := if ¬ (1 ≤ nx ∧ nx ≤ 1048577) ∨ 40 < ss.length then 12 else if poolOk ss = true then 0 else 12
set_option maxRecDepth 100000 in
theorem poolOk_iff {ss : List ByteArray} : poolOk ss = true ↔ (∀ s ∈ ss, txOk s = true) ∧ ss.Nodup := by simp [poolOk]
set_option maxRecDepth 100000 in
theorem getD_at {ss : List ByteArray} {q : Nat} (hq : q < ss.length) : ss.getD q ByteArray.empty = ss[q] := by simp [List.getD, hq]
set_option maxRecDepth 100000 in
theorem mem_take_at {ss : List ByteArray} {q : Nat} {s : ByteArray} : s ∈ ss.take q ↔ ∃ i, ∃ h : i < ss.length, i < q ∧ ss[i] = s := by
  rw [List.mem_iff_getElem]
  constructor
  · rintro ⟨i, hi, rfl⟩
    have hi' : i < q ∧ i < ss.length := by rw [List.length_take] at hi; omega
    exact ⟨i, hi'.2, hi'.1, by simp⟩
  · rintro ⟨i, h, hiq, rfl⟩
    exact ⟨i, by rw [List.length_take]; omega, by simp⟩
set_option maxRecDepth 100000 in
theorem poolOk_of {ss : List ByteArray} (h : ∀ q, q < ss.length → txOk (ss.getD q ByteArray.empty) = true ∧ ss.getD q ByteArray.empty ∉ ss.take q) : poolOk ss = true := by
  refine poolOk_iff.2 ⟨fun s hs => ?_, ?_⟩
  · obtain ⟨i, hi, rfl⟩ := List.mem_iff_getElem.1 hs
    have := (h i hi).1
    rwa [getD_at hi] at this
  · rw [List.Nodup, List.pairwise_iff_getElem]
    intro i j hi hj hij he
    refine (h j hj).2 ?_
    rw [getD_at hj, mem_take_at]
    exact ⟨i, hi, hij, he⟩
set_option maxRecDepth 100000 in
theorem poolOk_no_tx {ss : List ByteArray} {q : Nat} (hq : q < ss.length) (h : txOk (ss.getD q ByteArray.empty) = false) : poolOk ss = false := by
  rw [Bool.eq_false_iff]
  intro e
  have := (poolOk_iff.1 e).1 ss[q] (List.getElem_mem hq)
  rw [getD_at hq] at h
  rw [h] at this
  cases this
set_option maxRecDepth 100000 in
theorem poolOk_no_in {ss : List ByteArray} {q : Nat} (hq : q < ss.length) (h : ss.getD q ByteArray.empty ∈ ss.take q) : poolOk ss = false := by
  rw [Bool.eq_false_iff]
  intro e
  rw [getD_at hq, mem_take_at] at h
  obtain ⟨i, hi, hiq, he⟩ := h
  have := (poolOk_iff.1 e).2
  rw [List.Nodup, List.pairwise_iff_getElem] at this
  exact this i q hi hq hiq he
set_option maxRecDepth 100000 in
theorem poolOk_nil : poolOk [] = true := by decide
set_option maxRecDepth 100000 in
theorem poolOk_snoc {ss : List ByteArray} {t : ByteArray} (h : poolOk ss = true) (ht : txOk t = true) (hn : t ∉ ss) : poolOk (ss ++ [t]) = true := by
  obtain ⟨h1, h2⟩ := poolOk_iff.1 h
  refine poolOk_iff.2 ⟨fun s hs => ?_, ?_⟩
  · rcases List.mem_append.1 hs with g | g
    · exact h1 s g
    · obtain rfl : s = t := by simpa using g
      exact ht
  · rw [List.nodup_append]
    refine ⟨h2, by simp, ?_⟩
    intro a ha b hb
    obtain rfl : b = t := by simpa using hb
    exact fun e => hn (e ▸ ha)
set_option maxRecDepth 100000 in
theorem poolOk_drop {ss : List ByteArray} (h : poolOk ss = true) (k : Nat) : poolOk (ss.drop k) = true := by
  obtain ⟨h1, h2⟩ := poolOk_iff.1 h
  exact poolOk_iff.2 ⟨fun s hs => h1 s (List.mem_of_mem_drop hs), h2.sublist (List.drop_sublist k ss)⟩
/-- What is read of a slice of texts: it came in, or a call made it. -/
structure TxsAt (w : World) (sa : Option Addr) (cap : Nat) (ss : List ByteArray) : Prop where
  le : ss.length ≤ cap
  max : cap ≤ maxLen
  nil : sa = none → cap = 0
  strs : StrsAt w sa ss
set_option maxRecDepth 100000 in
theorem TxsAt.below {w w' : World} {sa : Option Addr} {cap : Nat} {ss : List ByteArray} (h : TxsAt w sa cap ss) (hb : Below w.heap.size w w') : TxsAt w' sa cap ss := ⟨h.le, h.max, h.nil, h.strs.below hb⟩
set_option maxRecDepth 100000 in
theorem TextsAt.txs {w : World} {sa : Option Addr} {cap : Nat} {ss : List ByteArray} (h : TextsAt w sa cap ss) : TxsAt w sa cap ss := ⟨h.le, by have := h.reach; unfold maxLen; omega, h.nil, h.strs⟩
set_option maxRecDepth 100000 in
theorem txsAt_of_owns {w : World} {base n : Nat} {v : Value} {ss : List ByteArray} (h : w.ownsRow base 9 1 v n (sv ss)) (hz : ∀ s ∈ ss, s.size ≤ maxLen) : ∃ ra rc, v = .slice ra ss.length rc ∧ n = ss.length ∧ TxsAt w ra rc ss ∧ ∀ sb so, ra = some ⟨sb, so, none⟩ → base ≤ sb := by
  obtain ⟨ra, rc, rfl, hl, hs, hf⟩ := strsAt_of_owns h hz
  refine ⟨ra, rc, by rw [hl], hl, ?_, hf⟩
  rcases h.2 with ⟨e, hn⟩ | ⟨g, cap, cur, e, _, _, h1, h2, _, _⟩
  · cases e
    exact ⟨by omega, by decide, fun _ => rfl, hs⟩
  · cases e
    exact ⟨by omega, h2, (fun e => by cases e), hs⟩
set_option maxRecDepth 100000 in
theorem StrsAt.take {w : World} {sa : Option Addr} {ss : List ByteArray} (h : StrsAt w sa ss) (k : Nat) : StrsAt w sa (ss.take k) := by
  refine ⟨?_, fun s hs => h.size s (List.mem_of_mem_take hs)⟩
  rcases h.cells with h | ⟨sb, so, rfl, hc⟩
  · subst h; simp
  · refine .inr ⟨sb, so, rfl, fun j hj => ?_⟩
    have hj' : j < k ∧ j < ss.length := by rw [List.length_take] at hj; omega
    rw [hc j hj'.2]
    simp [List.getD, hj'.1]
set_option maxRecDepth 100000 in
theorem StrsAt.drop {w : World} {sb so : Nat} {ss : List ByteArray} (h : StrsAt w (some ⟨sb, so, none⟩) ss) (k : Nat) : StrsAt w (some ⟨sb, so + k, none⟩) (ss.drop k) := by
  refine ⟨?_, fun s hs => h.size s (List.mem_of_mem_drop hs)⟩
  rcases h.cells with h | ⟨b, o, e, hc⟩
  · subst h; simp
  · cases e
    refine .inr ⟨sb, so + k, rfl, fun j hj => ?_⟩
    have hj' : k + j < ss.length := by simp at hj; omega
    rw [Nat.add_assoc, hc (k + j) hj']
    simp [List.getD]
end Go.Proofs.YtbmodfegcmaieaaDoor

namespace Go.Proofs.YtbmodfegcmaieaaDoor
open Go.RowKit

set_option maxRecDepth 100000 in
theorem sv_app (xs ys : List ByteArray) : sv (xs ++ ys) = sv xs ++ sv ys := by simp [sv]
set_option maxRecDepth 100000 in
theorem txs_cells {w : World} {ad : Addr} {cap : Nat} {cs : List ByteArray} (hp : TxsAt w (some ad) cap cs) : ∀ j u, (sv cs)[j]? = some u → w.cell? (ad.add j) = some u := by
  intro j u hu
  rcases hp.strs.cells with hb | ⟨sb, so, e, hb⟩
  · subst hb; simp [sv] at hu
  · cases e
    have hj : j < cs.length := by
      rcases Nat.lt_or_ge j cs.length with g | g
      · exact g
      · rw [List.getElem?_eq_none (by rw [sv_length]; exact g)] at hu; cases hu
    rw [add_off, hb j hj]
    simp [sv, hj] at hu
    simp [hj, hu]
set_option maxRecDepth 100000 in
/-- 'append(l, p...)': l a row that the call owns, p whatever slice of texts, nil too. -/
theorem wpList_append_txs {w : World} {ops : Array Oper} {rest : List Oper} {o : Oper} {a : Act} {Q : Exit → Act → World → Prop} (hgd : o.guard = none) (s x : Operand)
    (ho : o.op = .call { callee := .builtin .append, args := #[s, x], argTypes := #[40, 40] })
    (base : Nat) (v : Value) (n : Nat) (bs : List ByteArray) (hs : a.eval s = v) (hown : w.ownsRow base 9 1 v n (sv bs))
    (sa : Option Addr) (m cap : Nat) (cs : List ByteArray) (hx : a.eval x = .slice sa m cap) (hm : m = cs.length) (hp : TxsAt w sa cap cs)
    (hlen : (n + m) * 16 ≤ 140737488355328) (hbase : base ≤ w.heap.size)
    (h : ∀ v' w', w'.ownsRow base 9 1 v' (n + m) (sv (bs ++ cs)) → w.grownBy w' v.ownBlock → wpList Tryd.prog ops Q rest (a.put o.dst v') w') : wpList Tryd.prog ops Q (o :: rest) a w := by
  obtain ⟨i, hi, hz0, hz1, hz2⟩ := info_parts infoStr
  cases sa with
  | none =>
    obtain rfl := hp.nil rfl
    obtain rfl : cs = [] := List.eq_nil_of_length_eq_zero (by have := hp.le; omega)
    subst hm
    exact wpList_append_own_none hgd s x 40 ho base 9 i 1 Tryd.underlying40 hi v n (sv bs) hs hown hx (h v w (by simpa using hown) (World.grownBy.refl _ _))
  | some ad =>
    refine wpList_append_own w hgd s x 40 ho base 9 i (.string ByteArray.empty) 1 16 Tryd.underlying40 hi hz0 hz1 hz2 rfl (by decide) v n (sv bs) hs hown ad m cap (sv cs) hx (by rw [sv_length, hm]; omega) (txs_cells hp) (sv_one cs) (by unfold maxLen; omega) hlen hbase (fun v' w' h1 h2 _ => h v' w' (by rw [sv_app]; exact h1) h2)
end Go.Proofs.YtbmodfegcmaieaaDoor

namespace Go.Proofs.YtbmodfegcmaieaaDoor
open Go.RowKit Go.WideMaps Go.Maps

set_option maxRecDepth 100000 in
/-- The texts of a batch that is there, as they are read. -/
theorem BcAt.txs {w : World} {b : Bc} (h : BcAt w b) : TxsAt w b.ta b.tc b.v.ss := ⟨h.le, h.max, h.nil, h.strs⟩
/-- What txsOf answers. -/
structure TxoO (w w' : World) (e : Ending) (l : List BW) (ds : List (List Int)) : Prop where
  below : Below w.heap.size w w'
  out : (txsH l ds = none ∧ e = .returned (.tuple #[.slice none 0 0, .int .i64 8])) ∨ (∃ t v, txsH l ds = some t ∧ e = .returned (.tuple #[v, .int .i64 0]) ∧ w'.ownsRow w.heap.size 9 1 v t.length (sv t))
set_option maxRecDepth 100000 in
theorem hisB_take {hs : List CV} {m : Nat} (hm : m < hs.length) : hisB (hs.take (m + 1)) = hisB (hs.take m) ++ (hs[m]).bl := by
  rw [hisB, hisB, List.take_succ_eq_append_getElem hm, List.flatMap_append]; simp
set_option maxRecDepth 100000 in
theorem hisB_pre {hs : List CV} {m k : Nat} (hm : m < hs.length) (d : List Int) (hk : k < (hs[m]).bl.length) (hd : (hs[m]).bl.getD k [] = d) : d ∈ hisB hs := by
  rw [hisB_mem]
  refine ⟨hs[m], List.getElem_mem hm, ?_⟩
  rw [← hd]; simp [hk]
set_option maxRecDepth 100000 in
set_option maxHeartbeats 4000000 in
theorem txsOf_any (sts : List HSt) (sa : Option Addr) (n cap mb nb : Nat) (bl : List Bc) (w : World) (hn : n = sts.length) (hl : sts.length ≤ 400) (hat : StsAt w sa sts) (hc : ∀ s ∈ sts, CtAt w s.c ∧ s.c.bl.length ≤ 3) (hown : w.ownsMap Tryd.prog 9 tokE mb nb (heldD bl)) (hF : bsF (bws bl) = 0) (hB : ∀ b ∈ bl, BcAt w b) :
    Calls Tryd.prog 58 #[.slice sa n cap, .map (some mb)] w fun e w' => TxoO w w' e (bws bl) (hisB (sts.map (·.c.v))) := by
  subst hn
  have HS : Hid (∀ W : World, Below w.heap.size w W → StsAt W sa sts ∧ (∀ s ∈ sts, CtAt W s.c ∧ s.c.bl.length ≤ 3) ∧ ∀ b ∈ bl, BcAt W b) := by
    show ∀ W, _
    exact fun W hW => ⟨hat.below hW, fun s hs => ⟨(hc s hs).1.below hW, (hc s hs).2⟩, fun b hb => (hB b hb).below hW⟩
  have HO : Hid (∀ W : World, Below w.heap.size w W → W.ownsMap Tryd.prog 9 tokE mb nb (heldD bl)) := by
    show ∀ W, _
    exact fun W hW => ownsMap_below hown hW
  have HL4 : Hid (∀ b ∈ bws bl, b.ss.length ≤ 4) := by
    show ∀ b ∈ bws bl, _
    intro b hb
    obtain ⟨j, hj, rfl⟩ := List.getElem_of_mem hb
    have h1 := (bsF_zero hF).2 j hj
    simp only [badB, Bool.or_eq_false_iff, decide_eq_false_iff_not, ne_eq, Decidable.not_not] at h1
    have e : (bws bl).getD j ⟨0, 0, []⟩ = (bws bl)[j] := by simp [hj]
    rw [e] at h1
    exact (batchF_ok h1.1).2.2.1.2
  have HF : Hid _ := hF
  have HSM : Hid (∀ m, m ≤ sts.length → (hisB ((sts.map (·.c.v)).take m)).length ≤ 3 * m) := by
    show ∀ m, _
    intro m hm
    have h1 := hisB_length (hs := (sts.map (·.c.v)).take m) (fun c hcm => by
      obtain ⟨s, hs, rfl⟩ := List.mem_map.1 (List.mem_of_mem_take hcm)
      show (bss s.c.bl).length ≤ 3
      rw [bss_length]; exact (hc s hs).2)
    rw [List.length_take, List.length_map] at h1
    omega
  clear hat hc hown hF hB
  go_enter Tryd.func58, Tryd.ntmps58
  go_wp2_with fail
  go_loopw [15, 6] (fun j v wr => ∃ (m : Nat) (t : List ByteArray), m ≤ sts.length ∧ j = .int .i64 m ∧ Hid (txsH (bws bl) (hisB ((sts.map (·.c.v)).take m)) = some t) ∧ wr.ownsRow w.heap.size 9 1 v t.length (sv t) ∧ Below w.heap.size w wr) (fun j _ _ => sts.length - (intOf j).toNat)
  case atStart => exact ⟨0, [], Nat.zero_le _, rfl, (show _ = _ from rfl), World.ownsRow_nil _ _ _ _, Below.refl _ _⟩
  case round =>
    obtain ⟨m, t, hm, rfl, HTX, ho, hb⟩ := hrel
    by_cases hlt : m < sts.length
    · have hltI : (m : Int) < sts.length := by omega
      obtain ⟨hatr, hcr, hBr⟩ := HS.out wr hb
      obtain ⟨sb, so, rfl, hcc⟩ : ∃ sb so, sa = some ⟨sb, so, none⟩ ∧ _ := by
        rcases hatr.cells with h | h
        · rw [h] at hlt; simp at hlt
        · exact h
      obtain ⟨c0, c1, c2, c3, c4⟩ := hcc m hlt
      have HCT : Hid (∀ W : World, Below w.heap.size w W → CtAt W (sts[m]).c) := by
        show ∀ W, _
        exact fun W hW => ((HS.out W hW).2.1 _ (List.getElem_mem hlt)).1
      have hbl3 := (hcr _ (List.getElem_mem hlt)).2
      have hmv : m < (sts.map (·.c.v)).length := by simpa using hlt
      have HTK : Hid (hisB ((sts.map (·.c.v)).take (m + 1)) = hisB ((sts.map (·.c.v)).take m) ++ bss (sts[m]).c.bl) := by
        show _ = _
        rw [hisB_take hmv]; simp [Ct.v]
      have HIN : Hid (∀ k, k < (sts[m]).c.bl.length → (bss (sts[m]).c.bl).getD k [] ∈ hisB (sts.map (·.c.v))) := by
        show ∀ k, _
        intro k hk
        refine hisB_pre hmv _ (k := k) ?_ ?_
        · simpa [Ct.v, bss] using hk
        · simp [Ct.v]
      clear hcc hatr hcr hBr
      generalize sts[m] = s at c0 c1 c2 c3 c4 HCT hbl3 HTK HIN
      have hA2 := (Below.refl wr.heap.size wr).alloc (Nat.le_refl _) (.cells #[.int .i64 s.c.au, .int .i64 s.c.rd, .slice s.c.ba s.c.bl.length s.c.bc, .slice s.c.pa s.c.pl.length s.c.pc, .slice s.p.sa s.p.bs.length s.p.cap] 91)
      have q0 := heap_alloc_new wr (.cells #[.int .i64 s.c.au, .int .i64 s.c.rd, .slice s.c.ba s.c.bl.length s.c.bc, .slice s.c.pa s.c.pl.length s.c.pc, .slice s.p.sa s.p.bs.length s.p.cap] 91)
      have ho2 := World.ownsRow.alloc ho (.cells #[.int .i64 s.c.au, .int .i64 s.c.rd, .slice s.c.ba s.c.bl.length s.c.bc, .slice s.c.pa s.c.pl.length s.c.pc, .slice s.p.sa s.p.bs.length s.p.cap] 91)
      go_upto_region 5 with fail
      generalize wr.alloc (.cells #[.int .i64 s.c.au, .int .i64 s.c.rd, .slice s.c.ba s.c.bl.length s.c.bc, .slice s.c.pa s.c.pl.length s.c.pc, .slice s.p.sa s.p.bs.length s.p.cap] 91) = W2 at hA2 q0 ho2 ⊢
      have k2 := cells_at q0 2 _ rfl
      have hB2 := hb.trans (hA2.mono hb.size)
      clear c0 c1 c2 c3 c4 ho
      go_wp2_with fail
      go_loopw [23, 6] (fun j v wi => ∃ (k : Nat) (t : List ByteArray), k ≤ s.c.bl.length ∧ j = .int .i64 k ∧ Hid (txsH (bws bl) (hisB ((sts.map (·.c.v)).take m) ++ (bss s.c.bl).take k) = some t) ∧ wi.ownsRow w.heap.size 9 1 v t.length (sv t) ∧ Below w.heap.size w wi) (fun j _ _ => s.c.bl.length - (intOf j).toNat)
      case atStart => exact ⟨0, t, Nat.zero_le _, rfl, (show _ = _ by rw [List.take_zero, List.append_nil]; exact HTX.out), ho2, hB2⟩
      case round =>
        clear ho2 k2 HTX
        obtain ⟨k, t, hk, rfl, HTX, ho, hbi⟩ := hrel
        by_cases hlk : k < s.c.bl.length
        · have hltk : (k : Int) < s.c.bl.length := by omega
          have hLB := (HCT.out _ hbi).hat.lb
          obtain ⟨pb, po, hpa, hcc⟩ : ∃ pb po, s.c.ba = some ⟨pb, po, none⟩ ∧ ∀ j (h : j < s.c.bl.length), _ := by
            rcases hLB.parts.cells with h | h
            · rw [h] at hlk; simp at hlk
            · exact h
          have ck := hcc k hlk
          have hxp := hLB.parts.each (s.c.bl[k]) (List.getElem_mem hlk)
          have HNX : Hid (txsH (bws bl) (hisB ((sts.map (·.c.v)).take m) ++ (bss s.c.bl).take (k + 1)) = (bOf (bws bl) (s.c.bl[k]).bs).map (fun b => t ++ b.ss)) := by
            show _ = _
            have e : (bss s.c.bl).take (k + 1) = (bss s.c.bl).take k ++ [(s.c.bl[k]).bs] := by
              rw [List.take_succ_eq_append_getElem (by rw [bss_length]; exact hlk)]
              simp [bss]
            rw [e, ← List.append_assoc]
            exact txsH_snoc _ _ _ _ HTX.out
          have HI : Hid ((s.c.bl[k]).bs ∈ hisB (sts.map (·.c.v))) := by
            have := HIN.out k hlk
            rwa [bss_get _ _ hlk] at this
          clear hcc hLB
          generalize s.c.bl[k] = p at ck hxp HNX HI
          have htx := run_text _ p.sa p.bs.length p.cap p.bs rfl hxp
          have hkey : keyOf Tryd.prog 9 (.string (bstr p.bs)) = some (keyS (bstr p.bs)) := keyOf_string_mk Tryd.underlying9 (by rw [bstr_sz]; exact Nat.le_trans hxp.le hxp.max)
          have hown := HO.out _ hbi
          have hBA := (HS.out _ hbi).2.2
          have hT4 : t.length ≤ 6000 := by
            have h1 := txsH_length HL4.out HTX.out
            rw [List.length_append, List.length_take] at h1
            have h2 := HSM.out m (by omega)
            omega
          rw [hpa]
          obtain ⟨WI, hWI⟩ : ∃ WI, WI = wr := ⟨_, rfl⟩
          subst hWI
          cases hbc : bcOf bl p.bs with
          | none =>
            have hn : hasB (bws bl) p.bs = false := by
              have h1 := bcOf_bOf bl p.bs
              rw [hbc] at h1
              exact bOf_none.1 h1.symm
            have HB : Hid (Maps.has (heldD bl) (keyS (bstr p.bs)) = false) := by show _ = _; rw [held_has]; exact hn
            have HAT : Hid (∀ z, (heldD bl).atKey (keyS (bstr p.bs)) z = z) := fun z => held_none hn z
            have HNO : Hid (txsH (bws bl) (hisB (sts.map (·.c.v))) = none) := txsH_none _ _ _ HI.out (bOf_none.2 hn)
            clear hbc hn HNX HI HTX
            generalize heldD bl = D at hown HB HAT
            go_wp2_with (at_lookup; refine wpList_lookup_tok _ rfl _ _ 37 rfl 9 42 keyT Tryd.underlying37 (zeroB _) mb nb _ rfl hown _ _ rfl hkey _ (HAT.out _) ?_; rw [HB.out])
            go_ret2
            exact ⟨hbi.alloc hbi.size _, .inl ⟨HNO.out, rfl⟩⟩
          | some b =>
            have hbm : b ∈ bl := List.mem_of_find?_eq_some hbc
            have hbv : bOf (bws bl) p.bs = some b.v := by rw [← bcOf_bOf, hbc]; rfl
            have HB : Hid (Maps.has (heldD bl) (keyS (bstr p.bs)) = true) := by show _ = _; rw [held_has, ← bOf_some, hbv]; rfl
            have HAT : Hid (∀ z, (heldD bl).atKey (keyS (bstr p.bs)) z = .held (.agg #[.int .i64 b.v.au, .int .i64 b.v.nu, .slice b.ta b.v.ss.length b.tc])) := fun z => held_at z _ (bsF_apart HF.out) b hbc
            have HN2 : Hid (txsH (bws bl) (hisB ((sts.map (·.c.v)).take m) ++ (bss s.c.bl).take (k + 1)) = some (t ++ b.v.ss)) := by show _ = _; rw [HNX.out, hbv]; rfl
            have hbt := (hBA b hbm).txs
            have hb4 : b.v.ss.length ≤ 4 := HL4.out _ (List.mem_map.2 ⟨b, hbm, rfl⟩)
            clear hbc hbv hBA HNX HTX HI
            generalize heldD bl = D at hown HB HAT
            go_upto_region 11 with (at_lookup; refine wpList_lookup_tok _ rfl _ _ 37 rfl 9 42 keyT Tryd.underlying37 (zeroB _) mb nb _ rfl hown _ _ rfl hkey _ (HAT.out _) ?_; rw [HB.out])
            have hA4 := (Below.refl WI.heap.size WI).alloc (Nat.le_refl _) (.cells #[.int .i64 b.v.au, .int .i64 b.v.nu, .slice b.ta b.v.ss.length b.tc] 42)
            have q4 := heap_alloc_new WI (.cells #[.int .i64 b.v.au, .int .i64 b.v.nu, .slice b.ta b.v.ss.length b.tc] 42)
            have ho4 := World.ownsRow.alloc ho (.cells #[.int .i64 b.v.au, .int .i64 b.v.nu, .slice b.ta b.v.ss.length b.tc] 42)
            have hbt4 := hbt.below hA4
            generalize WI.alloc (.cells #[.int .i64 b.v.au, .int .i64 b.v.nu, .slice b.ta b.v.ss.length b.tc] 42) = W4 at hA4 q4 ho4 hbt4 ⊢
            have hB4 := hbi.trans (hA4.mono hbi.size)
            have k2 := cells_at q4 2 _ rfl
            clear ck htx hkey hown HB HAT hbt hxp
            go_wp2_with (at_builtin; refine wpList_append_txs rfl _ _ rfl w.heap.size _ t.length t rfl ho4 b.ta _ b.tc b.v.ss rfl rfl hbt4 (by omega) hB4.size ?_; intro v5 w5 ho5 hg5)
            have hB5 := Below.grown hB4 hg5 hB4.size (fun q e => (ho4.lt q e).1)
            go_roundw
            case rel => exact ⟨k + 1, t ++ b.v.ss, by omega, by go_num, HN2, by rw [List.length_append]; exact ho5, hB5⟩
            case measure => simp [intOf]; omega
        · obtain rfl : k = s.c.bl.length := by omega
          have HE : Hid (txsH (bws bl) (hisB ((sts.map (·.c.v)).take (m + 1))) = some t) := by
            show _ = _
            have e : (bss s.c.bl).take s.c.bl.length = bss s.c.bl := List.take_of_length_le (by rw [bss_length]; exact Nat.le_refl _)
            rw [HTK.out, ← HTX.out, e]
          clear HTX
          go_wp2_with fail
          go_roundw
          case rel => exact ⟨m + 1, t, by omega, by go_num, HE, ho, hbi⟩
          case measure => simp [intOf]; omega
    · obtain rfl : m = sts.length := by omega
      have HE : Hid (txsH (bws bl) (hisB (sts.map (·.c.v))) = some t) := by
        show _ = _
        rw [← HTX.out, List.take_of_length_le (by simp)]
      clear HTX
      go_wp2_with fail
      go_ret2
      exact ⟨hb, .inr ⟨t, _, HE.out, rfl, ho⟩⟩
/-- What Block answers. -/
structure BlkO (w w' : World) (e : Ending) (l : List CV) (bl : List BW) (k : List Int) : Prop where
  below : Below w.heap.size w w'
  out : (∃ ec : Int, e = .returned (.tuple #[.slice none 0 0, .int .i64 ec]) ∧ FndE l k ec) ∨ (dagF l = 0 ∧ 0 ≤ pOf l k ∧ ((bsF bl = 12 ∧ e = .returned (.tuple #[.slice none 0 0, .int .i64 12])) ∨ (bsF bl = 0 ∧ ∃ hs, HistIs l k hs ∧ ((txsH bl (hisB hs) = none ∧ e = .returned (.tuple #[.slice none 0 0, .int .i64 8])) ∨ ∃ t v, txsH bl (hisB hs) = some t ∧ e = .returned (.tuple #[v, .int .i64 0]) ∧ w'.ownsRow w.heap.size 9 1 v (onceS [] t).length (sv (onceS [] t))))))
set_option maxRecDepth 100000 in
theorem txsH_small {l : List BW} (hF : bsF l = 0) {ds : List (List Int)} {t : List ByteArray} (h : txsH l ds = some t) : t.length ≤ 4 * ds.length ∧ ∀ s ∈ t, s.size ≤ 20 := by
  have hok : ∀ b ∈ l, b.f = 0 := by
    intro b hb
    obtain ⟨j, hj, rfl⟩ := List.getElem_of_mem hb
    have h1 := (bsF_zero hF).2 j hj
    simp only [badB, Bool.or_eq_false_iff, decide_eq_false_iff_not, ne_eq, Decidable.not_not] at h1
    have e : l.getD j ⟨0, 0, []⟩ = l[j] := by simp [hj]
    rw [e] at h1
    exact h1.1
  refine ⟨txsH_length (fun b hb => (batchF_ok (hok b hb)).2.2.1.2) h, fun s hs => ?_⟩
  obtain ⟨d, _, b, hb, hsb⟩ := (txsH_mem h s).1 hs
  exact ((batchF_ok (hok b (bOf_mem hb).1)).2.2.2 s hsb).2
set_option maxRecDepth 100000 in
set_option maxHeartbeats 4000000 in
theorem block_any (ls : List Ct) (sa : Option Addr) (n cap : Nat) (bl : List Bc) (ba : Option Addr) (bn bc : Nat) (bs : List Int) (ka : Option Addr) (kn kc : Nat) (w : World) (hn : n = ls.length) (hbn : bn = bl.length) (hkn : kn = bs.length) (hd : DagAt w sa cap ls) (hB : BcsAt w ba bl) (hk : SliceAt w ka kc bs) (hT : Tabs w) :
    Calls Tryd.prog 41 #[.agg #[.slice sa n cap], .slice ba bn bc, .slice ka kn kc] w fun e w' => BlkO w w' e (cvs ls) (bws bl) bs := by
  subst hn hbn hkn
  have hA : Below w.heap.size w (w.alloc (.cells #[.slice sa ls.length cap] 51)) := (Below.refl _ _).alloc (Nat.le_refl _) _
  have HW : Hid (∀ W : World, Below w.heap.size w W → DagAt W sa cap ls ∧ BcsAt W ba bl ∧ SliceAt W ka kc bs ∧ Tabs W) := by
    show ∀ W, _
    exact fun W hW => ⟨hd.below hW, hB.below hW, hk.below hW, hT.below hW⟩
  clear hd hB hk hT
  go_enter Tryd.func41, Tryd.ntmps41
  go_wp2_with fail
  generalize w.alloc (.cells #[.slice sa ls.length cap] 51) = W0 at hA ⊢
  obtain ⟨g1, g2, g3, g4⟩ := HW.out W0 hA
  refine (historyOf_any ls sa _ cap bs ka _ kc W0 rfl rfl g1 g3 g4).mono ?_
  clear g1 g2 g3 g4
  intro e w1 hO
  have hb1 := hO.below
  have hB1 := hA.trans (hb1.mono hA.size)
  rcases hO.out with ⟨ec, he, hec⟩ | ⟨h1, h2, ra, rc, sts, he, hH, hM, hat, hnw⟩
  · subst he
    dsimp only
    have hne : (ec != 0) = true := by
      rcases hec with h | h
      · rw [h.2]; rfl
      · rw [h.2.2]; rfl
    have HE : Hid _ := hec
    clear hec hO
    go_wp2_with fail
    go_ret2
    exact ⟨hB1, .inl ⟨ec, rfl, HE.out⟩⟩
  · subst he
    dsimp only
    have hlen : sts.length ≤ 400 := by have := hist_small hH h1; rwa [List.length_map] at this
    have HX : Hid (dagF (cvs ls) = 0 ∧ 0 ≤ pOf (cvs ls) bs ∧ HistIs (cvs ls) bs (sts.map (·.c.v))) := ⟨h1, h2, hH⟩
    have HC : Hid (∀ W : World, Below w.heap.size w W → ∀ s ∈ sts, CtAt W s.c ∧ s.c.bl.length ≤ 3) := by
      show ∀ W, _
      intro W hW s hs
      refine ⟨(HW.out W hW).1.each _ (hM s hs).1, ?_⟩
      have := (f_small (all_f h1 _ (hM s hs).1)).1
      rwa [show s.c.v.bl = bss s.c.bl from rfl, bss_length] at this
    clear h1 h2 hH hM hnw hO
    obtain ⟨g1, g2, g3, g4⟩ := HW.out w1 hB1
    have HY := byDigest_any bl ba _ bc w1 rfl g2 g4
    clear g1 g2 g3 g4
    go_wp2_with fail
    refine HY.mono ?_
    intro e w2 hO
    have hb2 := hO.below
    have hB2 := hB1.trans (hb2.mono hB1.size)
    rcases hO.out with ⟨h1, he⟩ | ⟨h1, mb, he, _, hown⟩
    · subst he
      dsimp only
      have H1 : Hid _ := h1
      clear h1 hO HY
      go_wp2_with fail
      go_ret2
      exact ⟨hB2, .inr ⟨HX.out.1, HX.out.2.1, .inl ⟨H1.out, rfl⟩⟩⟩
    · subst he
      dsimp only
      have HZ := txsOf_any sts ra _ rc mb _ bl w2 rfl hlen (hat.below hb2) (HC.out w2 hB2) hown h1 (HW.out w2 hB2).2.1.each
      have H1 : Hid _ := h1
      clear h1 hO HY hown
      go_wp2_with fail
      refine HZ.mono ?_
      intro e w3 hO
      have hb3 := hO.below
      have hB3 := hB2.trans (hb3.mono hB2.size)
      rcases hO.out with ⟨h2, he⟩ | ⟨t, v, h2, he, ho⟩
      · subst he
        dsimp only
        have H2 : Hid _ := h2
        clear h2 hO HZ
        go_wp2_with fail
        go_ret2
        exact ⟨hB3, .inr ⟨HX.out.1, HX.out.2.1, .inr ⟨H1.out, _, HX.out.2.2, .inl ⟨H2.out, rfl⟩⟩⟩⟩
      · subst he
        dsimp only
        have H2 : Hid _ := h2
        have hsm := txsH_small H1.out h2
        have hds : (hisB (sts.map (·.c.v))).length ≤ 1200 := by
          have := hisB_length (hs := sts.map (·.c.v)) (fun c hc => by
            obtain ⟨s, hs, rfl⟩ := List.mem_map.1 hc
            show (bss s.c.bl).length ≤ 3
            rw [bss_length]; exact (HC.out w3 hB3 s hs).2)
          rw [List.length_map] at this; omega
        obtain ⟨ta, tc, rfl, hts⟩ : ∃ ta tc, v = .slice ta t.length tc ∧ StrsAt w3 ta t := strs_of_owns ho (fun s hs => by have := hsm.2 s hs; unfold maxLen; omega)
        have HQ := eachOnce_any t ta _ tc w3 rfl (by omega) hts
        clear h2 hO HZ hsm hds ho
        go_wp2_with fail
        refine HQ.mono ?_
        rintro e w4 ⟨u, he, ho4, hb4⟩
        subst he
        dsimp only
        have hB4 := hB3.trans (hb4.mono hB3.size)
        have HS : Hid (w.heap.size ≤ w3.heap.size + 1) := Nat.le_succ_of_le hB3.size
        go_wp2_with fail
        go_ret2
        exact ⟨hB4, .inr ⟨HX.out.1, HX.out.2.1, .inr ⟨H1.out, _, HX.out.2.2, .inr ⟨t, u, H2.out, rfl, own_wideO ho4 HS.out⟩⟩⟩⟩
end Go.Proofs.YtbmodfegcmaieaaDoor

namespace Go.Proofs.YtbmodfegcmaieaaDoor
open Go.RowKit

/-- The authors, of the first n, that have a certificate of that round. -/
def dgA (l : List CV) (rd : Int) : Nat → List Nat
  | 0 => []
  | n + 1 => if 0 ≤ cOf l n rd then dgA l rd n ++ [n] else dgA l rd n
set_option maxRecDepth 100000 in
theorem dgA_map (l : List CV) (rd : Int) (n : Nat) : dgTo l rd n = (dgA l rd n).map (fun (a : Nat) => (cvAt l (cOf l (a : Int) rd).toNat).d) := by
  induction n with
  | zero => rfl
  | succ n ih =>
    rw [dgTo, dgA]
    split
    · rw [ih, List.map_append]; rfl
    · exact ih
set_option maxRecDepth 100000 in
theorem dgA_lt (l : List CV) (rd : Int) (n : Nat) : ∀ a ∈ dgA l rd n, a < n ∧ 0 ≤ cOf l a rd := by
  induction n with
  | zero => intro a ha; cases ha
  | succ n ih =>
    intro a ha
    rw [dgA] at ha
    split at ha
    · rename_i h
      rcases List.mem_append.1 ha with g | g
      · have := ih a g; exact ⟨by omega, this.2⟩
      · obtain rfl : a = n := by simpa using g
        exact ⟨by omega, h⟩
    · have := ih a ha; exact ⟨by omega, this.2⟩
set_option maxRecDepth 100000 in
theorem dgA_rise (l : List CV) (rd : Int) (n : Nat) : (dgA l rd n).Pairwise (· < ·) := by
  induction n with
  | zero => exact List.Pairwise.nil
  | succ n ih =>
    rw [dgA]
    split
    · rw [List.pairwise_append]
      refine ⟨ih, List.pairwise_singleton _ _, fun a ha b hb => ?_⟩
      have hbn : b = n := by simpa using hb
      rw [hbn]
      exact (dgA_lt l rd n a ha).1
    · exact ih
set_option maxRecDepth 100000 in
/-- The m'th digest of a round is that of a certificate of that round, by the m'th author. -/
theorem dgF_at {l : List CV} {rd : Int} {m : Nat} (hm : m < (dgF l rd).length) : ∃ i, i < l.length ∧ (dgF l rd).getD m [] = (cvAt l i).d ∧ (cvAt l i).rd = rd ∧ (cvAt l i).au = ((dgA l rd 4).getD m 0 : Int) := by
  have hl : (dgF l rd).length = (dgA l rd 4).length := by rw [dgF, dgA_map, List.length_map]
  have hm2 : m < (dgA l rd 4).length := by omega
  have ha := dgA_lt l rd 4 _ (List.getElem_mem hm2)
  have hb := cOf_bounds l ((dgA l rd 4)[m] : Int) rd
  have hy := fidx_yes (cHit l ((dgA l rd 4)[m] : Int) rd) l.length ha.2
  simp only [cHit, decide_eq_true_eq] at hy
  refine ⟨(cOf l ((dgA l rd 4)[m] : Int) rd).toNat, by have := ha.2; omega, ?_, hy.2, ?_⟩
  · rw [dgF, dgA_map]; simp [hm2]
  · rw [show (dgA l rd 4).getD m 0 = (dgA l rd 4)[m] by simp [hm2]]
    exact hy.1
/-- The author ahead of the m'th; -1: there is none. -/
def prevA (l : List CV) (rd : Int) (m : Nat) : Int := if m = 0 then -1 else ((dgA l rd 4).getD (m - 1) 0 : Int)
set_option maxRecDepth 100000 in
theorem prevA_lt {l : List CV} {rd : Int} {m : Nat} (hm : m < (dgF l rd).length) : prevA l rd m < ((dgA l rd 4).getD m 0 : Int) := by
  have hl : (dgF l rd).length = (dgA l rd 4).length := by rw [dgF, dgA_map, List.length_map]
  rw [prevA]
  split
  · omega
  · have hm2 : m < (dgA l rd 4).length := by omega
    have hp := List.pairwise_iff_getElem.1 (dgA_rise l rd 4) (m - 1) m (by omega) hm2 (by omega)
    rw [show (dgA l rd 4).getD (m - 1) 0 = (dgA l rd 4)[m - 1] by simp [show m - 1 < (dgA l rd 4).length by omega], show (dgA l rd 4).getD m 0 = (dgA l rd 4)[m] by simp [hm2]]
    exact_mod_cast hp
end Go.Proofs.YtbmodfegcmaieaaDoor
