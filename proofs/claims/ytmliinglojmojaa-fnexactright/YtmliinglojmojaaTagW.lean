/-
  THE WALKS of the tags: spec.Tag, impl.Tag and what they call.
-/
import Derived.Test.YtmliinglojmojaaProg
import Derived.Test.YtmliinglojmojaaBase
import Derived.WalkKit
import Derived.WalkSpells
import Derived.WalkLawsBesides
import Derived.Outline
namespace Go.Proofs.Ytmliinglojmojaa.tag
open Go.RowKit

theorem l1In_yes (n lo hi : Int) (w : World) (h1 : lo ≤ n) (h2 : n ≤ hi) :
    Calls Try.prog 31 #[.int .i64 n, .int .i64 lo, .int .i64 hi] w fun e w' => e = .returned (.bool true) ∧ w = w' := by
  go_enter Try.func31, Try.ntmps31
  go_wp2
  go_ret
  exact ⟨ret_bool (by simp), rfl⟩

theorem l1In_no (n lo hi : Int) (w : World) (h : n < lo ∨ hi < n) :
    Calls Try.prog 31 #[.int .i64 n, .int .i64 lo, .int .i64 hi] w fun e w' => e = .returned (.bool false) ∧ w = w' := by
  by_cases h1 : lo ≤ n
  · have h2 : hi < n := by omega
    clear h
    go_enter Try.func31, Try.ntmps31
    go_wp2
    go_ret
    exact ⟨ret_bool (by simp; omega), rfl⟩
  · clear h
    go_enter Try.func31, Try.ntmps31
    go_wp2
    go_ret
    exact ⟨ret_bool rfl, rfl⟩

theorem isSeal_any (key : ByteArray) (n : Int) (w : World) :
    Calls Try.prog 33 #[.string key, .int .i64 n] w fun e w' => e = .returned (.bool (sealOk key.size n)) ∧ w = w' := by
  go_enter Try.func33, Try.ntmps33
  go_wp2
  all_goals go_ret
  · exact ⟨ret_bool (by unfold sealOk; grind), rfl⟩
  · exact ⟨ret_bool (by rw [sealOk_no (by omega)]), rfl⟩
  · exact ⟨ret_bool (by rw [sealOk_no (by omega)]), rfl⟩

/-- 'string([]byte{z})': the one byte that was just laid -/
theorem conv_one (u : World) (z : Int) :
    (convert 154 9 (.slice (some ⟨u.heap.size, 0, none⟩) 1 1)).run Try.prog (u.alloc (.cells #[.int .u8 z] 5)) = .ok (.string (strOfNums [z])) (u.alloc (.cells #[.int .u8 z] 5)) :=
  run_convert_bytes_arg (P := Try.prog) _ 154 5 Try.underlying154 Try.underlying5 u.heap.size 0 1 1 [z] rfl
    (fun i hi => by
      obtain rfl : i = 0 := by omega
      rw [World.cell?_alloc_at (hn := rfl)]; rfl) 9 Try.underlying9

theorem info_u8 : (Try.prog.info? 5).map (fun i => (i.zero, i.size, i.bytes)) = some (some (.int .u8 0), 1, 1) := by kernel_rfl

end Go.Proofs.Ytmliinglojmojaa.tag
