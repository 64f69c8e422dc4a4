/- The small functions on numbers: each gives the number that is written beside it, and turns nothing. -/
import Derived.Test.YtgdcjccbdmcebaaDoorProg
import GoSem.Claim
import GoSem.ClaimJoined
import GoSem.ClaimMapViews
import Derived.JoinedTies
import Derived.KernelRfl
import Derived.RowKit
import Derived.WalkKit
import Derived.WalkSpells
import Derived.WalkLawsBesides
namespace Go.Proofs.YtgdcjccbdmcebaaDoor
open Go.RowKit

theorem rb {a b : Bool} (h : a = b) : Ending.returned (.bool a) = .returned (.bool b) := by rw [h]
theorem ri {k : IntKind} {a b : Int} (h : a = b) : Ending.returned (.int k a) = .returned (.int k b) := by rw [h]
theorem dT {p : Prop} [Decidable p] (h : p) : true = decide p := (decide_eq_true h).symm
theorem dF {p : Prop} [Decidable p] (h : ¬ p) : false = decide p := (decide_eq_false h).symm

set_option maxHeartbeats 400000 in
theorem within_any (n lo hi : Int) (w : World) :
    Calls Tryd.prog 83 #[.int .i64 n, .int .i64 lo, .int .i64 hi] w fun e w' => e = .returned (.bool (decide (lo ≤ n ∧ n ≤ hi))) ∧ w' = w := by
  by_cases h1 : lo ≤ n
  · by_cases h2 : n ≤ hi
    · go_enter Tryd.func83, Tryd.ntmps83
      go_wp2
      go_ret
      exact ⟨rb (dT (by omega)), rfl⟩
    · go_enter Tryd.func83, Tryd.ntmps83
      go_wp2
      go_ret
      exact ⟨rb (dF (by omega)), rfl⟩
  · go_enter Tryd.func83, Tryd.ntmps83
    go_wp2
    go_ret
    exact ⟨rb (by have := decide_eq_false (p := lo ≤ n) (by omega); simp [this]), rfl⟩

set_option maxHeartbeats 400000 in
theorem span_any (n lo : Int) (w : World) :
    Calls Tryd.prog 33 #[.int .i64 n, .int .i64 lo] w fun e w' => e = .returned (.bool (decide (lo ≤ n ∧ n ≤ 1048576))) ∧ w' = w := by
  by_cases h1 : lo ≤ n
  · by_cases h2 : n ≤ 1048576
    · go_enter Tryd.func33, Tryd.ntmps33
      go_wp2
      go_ret
      exact ⟨rb (dT (by omega)), rfl⟩
    · go_enter Tryd.func33, Tryd.ntmps33
      go_wp2
      go_ret
      exact ⟨rb (dF (by omega)), rfl⟩
  · go_enter Tryd.func33, Tryd.ntmps33
    go_wp2
    go_ret
    exact ⟨rb (by have := decide_eq_false (p := lo ≤ n) (by omega); simp [this]), rfl⟩

/-- What function pick makes of its numbers: 'c' is any int, 'n' at least one. -/
def pickI (c n : Int) : Int := if c < 0 then (-(c + 1)) % n else c % n
theorem pickI_neg {c n : Int} (h : c < 0) : pickI c n = (-(c + 1)) % n := by unfold pickI; rw [if_pos h]
theorem pickI_pos {c n : Int} (h : ¬ c < 0) : pickI c n = c % n := by unfold pickI; rw [if_neg h]
theorem pickI_lo (c n : Int) (h : 1 ≤ n) : 0 ≤ pickI c n := by unfold pickI; split <;> exact Int.emod_nonneg _ (by omega)
theorem pickI_hi (c n : Int) (h : 1 ≤ n) : pickI c n < n := by unfold pickI; split <;> exact Int.emod_lt_of_pos _ (by omega)

end Go.Proofs.YtgdcjccbdmcebaaDoor
