/- The sum of Bound (P7), as plain data. -/
import Derived.Test.YtgdcjccbdmcebaaDoorMOk
namespace Go.Proofs.YtgdcjccbdmcebaaDoor

/-- The sum over the first k nodes. -/
def sumB (F : FlowD) (g : Int) : Nat → Int
  | 0 => 0
  | k + 1 => sumB F g k + F.bu k * (F.cl k + F.ca k + F.ji k + g)

theorem prod_bd (a x : Int) (ha : 1 ≤ a) (ha2 : a ≤ 5) (hx : 0 ≤ x) (hx2 : x ≤ 4194304) : 0 ≤ a * x ∧ a * x ≤ 20971520 := by
  refine ⟨Int.mul_nonneg (by omega) hx, ?_⟩
  have h := Int.mul_le_mul ha2 hx2 hx (by decide)
  omega
theorem sumB_bd (F : FlowD) (g : Int) (hg : 0 ≤ g) (hg2 : g ≤ 1048576) (k : Nat) (h : ∀ i, i < k → OkNode F i) : 0 ≤ sumB F g k ∧ sumB F g k ≤ 20971520 * k := by
  induction k with
  | zero => simp [sumB]
  | succ k ih =>
    have h1 := ih fun i hi => h i (by omega)
    obtain ⟨a1, a2, b1, b2, _, _, d1, d2, e1, e2, f1, f2⟩ := h k (by omega)
    have h3 := prod_bd (F.bu k) (F.cl k + F.ca k + F.ji k + g) a1 a2 (by omega) (by omega)
    simp only [sumB]
    omega

end Go.Proofs.YtgdcjccbdmcebaaDoor
