/- pick of the statements with the document's answer. -/
import Derived.Test.YtgdcjccbdmcebaaDoorWSmall
namespace Go.Proofs.YtgdcjccbdmcebaaDoor
open Go.RowKit

set_option maxHeartbeats 400000 in
theorem lawpick_any (c n : Int) (w : World) (hc : -9223372036854775808 ≤ c) (hc2 : c ≤ 9223372036854775807) (hn : 1 ≤ n) (hn2 : n ≤ 9223372036854775807) :
    Calls Tryd.prog 14 #[.int .i64 c, .int .i64 n] w fun e w' => e = .returned (.int .i64 (pickI c n)) ∧ w' = w := by
  by_cases h1 : c < 0
  · go_enter Tryd.func14, Tryd.ntmps14
    go_wp2
    go_ret
    exact ⟨ri (by rw [pickI_neg h1, ← Int.neg_tmod, Int.tmod_eq_emod_of_nonneg (by omega)]), rfl⟩
  · go_enter Tryd.func14, Tryd.ntmps14
    go_wp2
    go_ret
    exact ⟨ri (by rw [pickI_pos (by omega)]), rfl⟩
end Go.Proofs.YtgdcjccbdmcebaaDoor
