/- pick of the statements without the document's answer; ints that were handed in. -/
import Derived.Test.YtgdcjccbdmcebaaDoorWMem
namespace Go.Proofs.YtgdcjccbdmcebaaDoor
open Go.RowKit
set_option maxRecDepth 100000

set_option maxHeartbeats 400000 in
theorem kpick_any (c n : Int) (w : World) (hc : -9223372036854775808 ≤ c) (hc2 : c ≤ 9223372036854775807) (hn : 1 ≤ n) (hn2 : n ≤ 9223372036854775807) :
    Calls Tryd.prog 21 #[.int .i64 c, .int .i64 n] w fun e w' => e = .returned (.int .i64 (pickI c n)) ∧ w' = w := by
  by_cases h1 : c < 0
  · go_enter Tryd.func21, Tryd.ntmps21
    go_wp2
    go_ret
    exact ⟨ri (by rw [pickI_neg h1, ← Int.neg_tmod, Int.tmod_eq_emod_of_nonneg (by omega)]), rfl⟩
  · go_enter Tryd.func21, Tryd.ntmps21
    go_wp2
    go_ret
    exact ⟨ri (by rw [pickI_pos (by omega)]), rfl⟩

/-- Ints that were handed in, each in int's range. -/
structure IntsIn (w : World) (a : Option Addr) (n cap : Nat) (f : Nat → Int) : Prop where
  at' : IntsAt w a n cap f
  lo : ∀ k, k < n → -9223372036854775808 ≤ f k
  hi : ∀ k, k < n → f k ≤ 9223372036854775807
  len : n ≤ maxLen
theorem IntsIn.keep {w w' : World} {a : Option Addr} {n cap : Nat} {f : Nat → Int} (h : IntsIn w a n cap f) (hb : Below w.heap.size w w') : IntsIn w' a n cap f := ⟨h.at'.keep hb, h.lo, h.hi, h.len⟩
end Go.Proofs.YtgdcjccbdmcebaaDoor
