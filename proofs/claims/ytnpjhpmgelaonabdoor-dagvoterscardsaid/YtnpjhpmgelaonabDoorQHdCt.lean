/- sheaveskeep.Header and voters, as parts of a certificate. -/
import Derived.Test.YtnpjhpmgelaonabDoorQRawH
import Derived.Test.YtnpjhpmgelaonabDoorQHeadR
import Derived.Test.YtnpjhpmgelaonabDoorQVoters
import Derived.Test.YtnpjhpmgelaonabDoorGCtFar
import Derived.Test.YtnpjhpmgelaonabDoorGClone
namespace Go.Proofs.YtnpjhpmgelaonabDoor
open Go.RowKit

set_option maxRecDepth 100000 in
theorem header_ct (ki ra rb rc : Int) (sa : Option Addr) (n cap : Nat) (w : World) (h2 : I64 ra) (h3 : I64 rb) (h4 : I64 rc) :
    Calls Tryd.prog 11 #[.agg #[.int .i64 ki, .int .i64 ra, .int .i64 rb, .int .i64 rc, .slice sa n cap]] w fun e w' => ∃ h : Ct, e = .returned (.agg #[.int .i64 (pk ra 4), .int .i64 (1 + pk rb 9), .slice h.ba h.bl.length h.bc, .slice h.pa h.pl.length h.pc]) ∧ CtAt w' h ∧ headerF (pk ra 4) (1 + pk rb 9) h.bl h.pl = 0 ∧ (∀ b, CtIn h b → w.heap.size ≤ b) ∧ Below w.heap.size w w' := by
  refine (header_raw2 ki ra rb rc sa n cap w h2 h3 h4).mono ?_
  rintro e w' ⟨ba, bc, bl, pa, pc, pl, he, hb, hp, ob, op, eb, ep, hB, fb, fp⟩
  refine ⟨⟨pk ra 4, 1 + pk rb 9, ba, bc, bl, pa, pc, pl, none, 0, []⟩, he, ⟨⟨hb, hp, fun sb so e => (ob.row sb so e).1, fun sb so e => (op.row sb so e).1⟩, ⟨.inl rfl⟩, Nat.zero_le _⟩, headerF_raw ra rb rc bl pl eb ep, fun b hb' => ?_, hB⟩
  rcases hb' with ⟨so, e⟩ | ⟨so, e⟩ | ⟨p, hp', _, so, e⟩ | ⟨hn, _⟩
  · exact fb.row b so e
  · exact fp.row b so e
  · rcases List.mem_append.1 hp' with g | g
    · exact fb.each p g b so e
    · exact fp.each p g b so e
  · exact absurd rfl hn
set_option maxRecDepth 100000 in
theorem votersL_one (n : Int) : ∃ x r, votersL n = x :: r ∧ votersF [x] = 10 ∧ r.length ≤ 3 := by
  obtain ⟨p0, p1⟩ := pk_bounds n 5 (by decide)
  unfold votersL
  rcases (by omega : pk n 5 = 0 ∨ pk n 5 = 1 ∨ pk n 5 = 2 ∨ pk n 5 = 3 ∨ pk n 5 = 4) with h | h | h | h | h <;> rw [h]
  · exact ⟨1, [2, 3], by decide, by decide, by decide⟩
  · exact ⟨0, [2, 3], by decide, by decide, by decide⟩
  · exact ⟨0, [1, 3], by decide, by decide, by decide⟩
  · exact ⟨0, [1, 2], by decide, by decide, by decide⟩
  · exact ⟨0, [1, 2, 3], by decide, by decide, by decide⟩
set_option maxRecDepth 100000 in
theorem certF_few {au rd : Int} {bl pl : List Part} {x : Int} (h : headerF au rd bl pl = 0) (hx : votersF [x] = 10) : certF au rd bl pl [x] = 10 := by
  rw [certF, if_neg (fun g => g h), if_neg (by simp)]
  exact hx
set_option maxRecDepth 100000 in
theorem insE_f {l : List CV} {c : CV} (hd : dagF l = 0) (hf : c.f ≠ 0) : insE l c = c.f := by
  rw [insE, if_neg (fun g => g hd), if_pos hf]
end Go.Proofs.YtnpjhpmgelaonabDoor
