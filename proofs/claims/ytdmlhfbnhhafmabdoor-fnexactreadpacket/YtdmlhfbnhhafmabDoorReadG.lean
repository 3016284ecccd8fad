/-
  THE LAW laws.FnExactReadPacket: its walk over both contracts.
-/
import Derived.Test.YtdmlhfbnhhafmabDoorReadF
namespace Go.Proofs.YtdmlhfbnhhafmabDoor.tag
open Go.RowKit
set_option linter.unusedVariables false

theorem law (s key : ByteArray) (n : Int) (w : World) (hG : Gl w) :
    Calls Tryd.prog 3 #[.string s, .string key, .int .i64 n] w fun e w' => e = .returned (.bool true) ∧ Below w.heap.size w w' := by
  by_cases h1 : (s.size : Int) ≤ 1048576
  · by_cases h2 : (key.size : Int) ≤ 1048576
    · obtain ⟨k, f, m, y, nx, mk, sq, l, p, ok, HS, HI⟩ := both s key n (by omega) (by omega)
      go_enter Tryd.func3, Tryd.ntmps3
      go_wp2_with (first
        | (go_at_call 4; refine (HS _).mono ?_; rintro e w1 ⟨rfl, hb1⟩)
        | (go_at_call 5; refine (HI _ (hG.mono (below_one hb1))).mono ?_; rintro e w2 ⟨rfl, hb2⟩; (obtain ⟨a0, a1, a2, a3, a4, a5, a6, a7, a8, hbx, hsx⟩ := held9 (w := w1) hb2))
        | (go_at_call 6; refine (eqPacket_same k f m y nx mk sq l p _).mono ?_; rintro e w3 ⟨rfl, hb3⟩))
      go_ret
      exact ⟨rfl, below_chain (below_chain (below_one hb1) hb2) (below_box hb3)⟩
    · go_enter Tryd.func3, Tryd.ntmps3
      go_wp2
      go_ret
      exact ⟨rfl, Below.refl _ _⟩
  · go_enter Tryd.func3, Tryd.ntmps3
    go_wp2
    go_ret
    exact ⟨rfl, Below.refl _ _⟩
end Go.Proofs.YtdmlhfbnhhafmabDoor.tag
