/- Plain mathematics of the rests: no text of the program. -/
import Init
namespace Go.Proofs.YtgdcjccbdmcebaaDoor

/-- base times two to the m. -/
def pw (b : Int) (m : Nat) : Int := b * 2 ^ m
theorem pw_zero (b : Int) : pw b 0 = b := by simp [pw]
theorem pw_succ (b : Int) (m : Nat) : pw b (m + 1) = 2 * pw b m := by unfold pw; rw [Int.pow_succ]; rw [← Int.mul_assoc, Int.mul_comm]
theorem pw_pos (b : Int) (h : 1 ≤ b) (m : Nat) : 1 ≤ pw b m := by
  induction m with
  | zero => rw [pw_zero]; exact h
  | succ m ih => rw [pw_succ]; omega
theorem pw_mono (b : Int) (h : 1 ≤ b) (m n : Nat) (hmn : m ≤ n) : pw b m ≤ pw b n := by
  obtain ⟨d, rfl⟩ := Nat.exists_eq_add_of_le hmn
  clear hmn
  induction d with
  | zero => exact Int.le_refl _
  | succ d ih => have := pw_succ b (m + d); have := pw_pos b h (m + d); rw [← Nat.add_assoc]; omega
theorem pw_ge (b : Int) (h : 1 ≤ b) (m : Nat) : ((2 ^ m : Nat) : Int) ≤ pw b m := by
  induction m with
  | zero => rw [pw_zero]; simpa using h
  | succ m ih => rw [pw_succ, Nat.pow_succ]; omega

/-- P6: base, twice as long behind each further failure, at most cap; and what seed leaves. -/
def restI (base cap jit k : Int) (seed : Int) : Int := min (pw base (k - 1).toNat) cap + seed % (jit + 1)

theorem rest_at (base cap k : Int) (m : Nat) (hb : 1 ≤ base) (h : (m : Int) ≤ k - 1 ∨ m = 0) (h2 : k ≤ (m : Int) + 1 ∨ cap ≤ pw base m) :
    min (pw base (k - 1).toNat) cap = min (pw base m) cap := by
  rcases h2 with h2 | h2
  · have : (k - 1).toNat = m := by omega
    rw [this]
  · rcases h with h | h
    · have := pw_mono base hb m (k - 1).toNat (by omega)
      omega
    · subst h
      have := pw_mono base hb 0 (k - 1).toNat (by omega)
      omega
end Go.Proofs.YtgdcjccbdmcebaaDoor
