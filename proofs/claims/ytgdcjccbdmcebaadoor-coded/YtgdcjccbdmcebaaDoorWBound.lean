/- Bound. -/
import Derived.Test.YtgdcjccbdmcebaaDoorWMem
import Derived.Test.YtgdcjccbdmcebaaDoorMSum
namespace Go.Proofs.YtgdcjccbdmcebaaDoor
open Go.RowKit

set_option maxHeartbeats 400000 in
theorem refBound_any (F : FlowD) (g : Int) (b o cap : Nat) (Aa : Nat → Option Addr) (Ac : Nat → Nat) (w : World) (hn : F.n ≤ 12) (hg : 0 ≤ g) (hg2 : g ≤ 1048576)
   (hok : ∀ i, i < F.n → OkNode F i) (hc : ∀ i, i < F.n → NodeAt w F i b (o + i * 7) (Aa i) (Ac i)) (hb : b < w.heap.size):
    Calls Tryd.prog 13 #[flV F.dl (.slice (some ⟨b, o, none⟩) F.n cap), .int .i64 g] w fun e w' => e = .returned (.int .i64 (min F.dl (sumB F g F.n))) ∧ Below w.heap.size w w' := by
  go_enter Tryd.func13, Tryd.ntmps13
  go_wp2_with fail
  go_loopw [5, 6] (fun s i wr => ∃ k : Nat, k ≤ F.n ∧ i = .int .i64 k ∧ s = .int .i64 (sumB F g k) ∧ wr.cell? ⟨w.heap.size, 0, none⟩ = some (.int .i64 F.dl) ∧ wr.cell? ⟨w.heap.size, 1, none⟩ = some (.slice (some ⟨b, o, none⟩) F.n cap) ∧ w.heap.size < wr.heap.size ∧ Below w.heap.size w wr) (fun _ i _ => F.n - (intOf i).toNat)
  case atStart => exact ⟨0, by omega, rfl, rfl, by simp, by simp, by simp, (Below.refl _ _).alloc (Nat.le_refl _) _⟩
  case round =>
    obtain ⟨k, hk, rfl, rfl, c0, c1, hsz, hbl⟩ := hrel
    by_cases h1 : k < F.n
    · obtain ⟨n0, n1, n2, n3, n4, n5, n6, ni⟩ := (hc k h1).keep hb hbl
      obtain ⟨a1, a2, b1, b2, _, _, d1, d2, e1, e2, f1, f2⟩ := hok k h1
      obtain ⟨p1, p2⟩ := prod_bd (F.bu k) (F.cl k + F.ca k + F.ji k + g) a1 a2 (by omega) (by omega)
      obtain ⟨s1, s2⟩ := sumB_bd F g hg hg2 k fun i hi => hok i (by omega)
      go_wp2_with fail
      go_roundw
      case rel => exact ⟨k + 1, by omega, by go_num, rfl, (cell_later (w := wr) (Below.refl _ _ |>.alloc (Nat.le_refl _) _) c0), (cell_later (w := wr) (Below.refl _ _ |>.alloc (Nat.le_refl _) _) c1), by simp; omega, hbl.alloc (by omega) _⟩
      case measure => simp [intOf]; omega
    · obtain rfl : k = F.n := by omega
      go_wp2_with fail
      all_goals go_ret
      all_goals exact ⟨ri (by omega), hbl⟩
end Go.Proofs.YtgdcjccbdmcebaaDoor
