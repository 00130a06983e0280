/- LinesReads answers true for every text of at most 1048576 bytes. -/
import Derived.Test.YtnpkpkknbflacaaDoorLrH
import Derived.Test.YtnpkpkknbflacaaDoorLrG
namespace Go.Proofs.YtnpkpkknbflacaaDoor
open Go.RowKit

set_option maxRecDepth 100000 in
theorem ok_texts {l : List AV} (h : ∀ a ∈ l, a.e = 0) : ∀ a ∈ l, a.t.size ≤ maxLen := fun a ha => by
  have := (ok_bounds (h a ha)).2.2.2.1
  unfold maxLen; omega
set_option maxRecDepth 100000 in
theorem readAs_ok (l : List UInt8) : (∀ a ∈ readAs l, a.e = 0) ∧ (readAs l).length ≤ 3000 := by
  unfold readAs
  split
  · rename_i h
    obtain ⟨_, h2, h3⟩ := rdAll_back (l.length + 1) 0 l (by omega) h
    refine ⟨h2, ?_⟩
    rcases h3 with h3 | h3
    · show (rdAll (l.length + 1) 0 l).1.length ≤ _
      rw [h3]; simp
    · show (rdAll (l.length + 1) 0 l).1.length ≤ _
      omega
  · exact ⟨fun a ha => absurd ha (by simp), by simp⟩
set_option maxRecDepth 100000 in
set_option maxHeartbeats 2000000 in
theorem linesReads_walk (s : ByteArray) (w : World) (hs : s.size ≤ 1048576) (hT : LTabs w) :
    Calls Tryd.prog 3 #[.string s] w fun e w' => e = .returned (.bool true) ∧ Below w.heap.size w w' := by
  have HR := read_any s w (by omega) hT
  have HA := fun w => actsOf_any s w hs
  obtain ⟨hok, hl⟩ := readAs_ok s.data.toList
  go_enter Tryd.func3, Tryd.ntmps3
  go_wp2_with fail
  refine HR.mono ?_
  rintro e w1 ⟨⟨v, he, ho⟩, hb1⟩
  subst he
  dsimp only
  go_wp2_with fail
  refine (HA _).mono ?_
  rintro e w2 ⟨⟨v2, he, ho2⟩, hb2⟩
  subst he
  dsimp only
  have hB2 := hb1.trans (hb2.mono hb1.size)
  have ho1 := owns_keep ho hb2
  obtain ⟨sa, ca, hv, _, _, hAc⟩ := acts_of_owns ho1 (ok_texts hok)
  obtain ⟨sb, cb, hv2, _, _, hBc⟩ := acts_of_owns ho2 (ok_texts hok)
  subst hv hv2
  have HS := sameActs_any (readAs s.data.toList) sa sb (readAs s.data.toList).length ca cb w2 rfl (by omega) hAc hBc
  clear HR HA ho ho1 ho2 hAc hBc hok
  generalize (readAs s.data.toList).length = n at *
  generalize readP s.data.toList = rp at *
  generalize readE s.data.toList = re at *
  go_wp2_with fail
  refine HS.mono ?_
  rintro e w3 ⟨he, hb3⟩
  subst he
  dsimp only
  go_wp2_with fail
  go_ret
  exact ⟨rfl, hB2.trans (hb3.mono hB2.size)⟩
end Go.Proofs.YtnpkpkknbflacaaDoor
