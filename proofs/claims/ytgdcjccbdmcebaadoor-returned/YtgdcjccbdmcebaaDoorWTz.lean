/- math/bits.TrailingZeros: the number of zero bits at the end, given that the library's table holds what it was laid with. -/
import Derived.Test.YtgdcjccbdmcebaaDoorWMem
import Derived.Laws.Bits64b
import Derived.Lib.TrailingZeros
namespace Go.Proofs.YtgdcjccbdmcebaaDoor
open Go.RowKit

/-- The library's table of 64 lies in w. -/
def TabIn (w : World) : Prop := ∀ j, j < 64 → w.cell? ⟨1, j, none⟩ = some (.int .u8 (Lib.deBruijn64tab.getD j 0))

theorem tz64_key (x a : Nat) (hx : x < 18446744073709551616) (hx0 : x ≠ 0) (hlow : x &&& (18446744073709551616 - x) = a) :
    IntKind.u64.wrap (bits BinOp.and IntKind.u64 (x : Int) (IntKind.u64.wrap (-(x : Int))) * 285870213051353865) / 288230376151711744 = ((a * 285870213051353865 % 18446744073709551616 / 288230376151711744 : Nat) : Int) := by
  have e1 : IntKind.u64.wrap (-(x : Int)) = ((18446744073709551616 - x : Nat) : Int) := by rw [IntKind.wrap_u64]; omega
  rw [e1, bits_and_u64_nat x _ hx (by omega), hlow, IntKind.wrap_u64]
  omega

set_option maxHeartbeats 1000000 in
theorem tz64_core (x k idx : Nat) (w : World) (hx0 : ((x : Int) == 0) = false)
    (key : IntKind.u64.wrap (bits BinOp.and IntKind.u64 (x : Int) (IntKind.u64.wrap (-(x : Int))) * 285870213051353865) / 288230376151711744 = (idx : Int))
    (hi : idx < 64) (hk : k < 64) (hcell : w.cell? ⟨1, idx, none⟩ = some (.int .u8 k)) :
    Calls Tryd.prog 79 #[.int .u64 x] w fun e w' => e = .returned (.int .i64 k) ∧ w' = w := by
  go_enter Tryd.func79, Tryd.ntmps79
  go_wp2_with (simp only [key])
  go_ret
  exact ⟨rfl, rfl⟩

theorem tz64_any (x : Nat) (hx : x < 18446744073709551616) (hx0 : x ≠ 0) (w : World) (hT : TabIn w) :
    Calls Tryd.prog 79 #[.int .u64 x] w fun e w' => e = .returned (.int .i64 (Lib.ctz 64 x)) ∧ w' = w := by
  obtain ⟨hlow, hk⟩ := Lib.lowest_bit 64 x hx0 hx
  obtain ⟨hi, htab⟩ := Lib.deBruijn64_at _ hk
  have hcell := hT _ hi
  rw [htab] at hcell
  exact tz64_core x _ _ w (by simp; omega) (tz64_key x _ hx hx0 hlow) hi hk hcell

theorem tz_any (x : Nat) (hx : x < 18446744073709551616) (hx0 : x ≠ 0) (w : World) (hT : TabIn w) :
    Calls Tryd.prog 99 #[.int .u64 x] w fun e w' => e = .returned (.int .i64 (Lib.ctz 64 x)) ∧ w' = w := by
  have c64 := tz64_any x hx hx0 w hT
  go_enter Tryd.func99, Tryd.ntmps99
  go_wp2_with (go_at_call 79; refine c64.mono ?_; rintro e w' ⟨rfl, hw'⟩; rw [hw'])
  go_ret
  exact ⟨rfl, rfl⟩

/-- The first bit that is 0, of a number below 2^63. -/
theorem ctzFrom_first (f p j : Nat) (hf : p < 2 ^ f) (hj : j < f) (h1 : ∀ i, i < j → p.testBit i = true) (h2 : p.testBit j = false) : Lib.ctzFrom f (2 ^ f - 1 - p) = j := by
  induction f generalizing p j with
  | zero => omega
  | succ f ih =>
    have hp2 : 2 ^ (f + 1) = 2 * 2 ^ f := by rw [Nat.pow_succ]; omega
    unfold Lib.ctzFrom
    cases j with
    | zero =>
      have : p % 2 = 0 := by simpa [Nat.testBit_zero] using h2
      rw [if_pos (by omega)]
    | succ j =>
      have e0 : p % 2 = 1 := by simpa [Nat.testBit_zero] using h1 0 (by omega)
      rw [if_neg (by omega)]
      have e1 : (2 ^ (f + 1) - 1 - p) / 2 = 2 ^ f - 1 - p / 2 := by omega
      rw [e1, ih (p / 2) j (by omega) (by omega) (fun i hi => by have := h1 (i + 1) (by omega); rwa [Nat.testBit_succ] at this) (by rwa [Nat.testBit_succ] at h2)]
      omega
theorem ctz_first (p j : Nat) (hp : p < 2 ^ 63) (hj : j < 64) (h1 : ∀ i, i < j → p.testBit i = true) (h2 : p.testBit j = false) : Lib.ctz 64 (18446744073709551615 - p) = j := by
  unfold Lib.ctz
  rw [if_neg (by omega)]
  exact ctzFrom_first 64 p j (by omega) hj h1 h2
end Go.Proofs.YtgdcjccbdmcebaaDoor
