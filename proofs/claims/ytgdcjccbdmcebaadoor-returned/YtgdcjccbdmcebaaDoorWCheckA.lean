/- The program's Check, its parts: the bounds of a node, the edges of a node, the fault that is told. -/
import Derived.Test.YtgdcjccbdmcebaaDoorWMem2
import Derived.Test.YtgdcjccbdmcebaaDoorWTz
import Derived.Deep.OwnRows
import Derived.Deep.QuietTactic
import Derived.BigQuiet
namespace Go.Proofs.YtgdcjccbdmcebaaDoor
open Go.RowKit
set_option maxRecDepth 100000

/-- Does n lie within? -/
def withinB (n lo hi : Int) : Bool := decide (lo ≤ n ∧ n ≤ hi)
theorem withinB_t {n lo hi : Int} (h : lo ≤ n) (h2 : n ≤ hi) : withinB n lo hi = true := decide_eq_true ⟨h, h2⟩
theorem withinB_f {n lo hi : Int} (h : n < lo ∨ hi < n) : withinB n lo hi = false := decide_eq_false (by omega)
theorem within_b (n lo hi : Int) (w : World) :
    Calls Tryd.prog 83 #[.int .i64 n, .int .i64 lo, .int .i64 hi] w fun e w' => e = .returned (.bool (withinB n lo hi)) ∧ w' = w := within_any n lo hi w

open Classical in
noncomputable def okNodeB (F : FlowD) (i : Nat) : Bool := decide (OkNode F i)
open Classical in
noncomputable def okEdgesB (F : FlowD) (i : Nat) : Bool := decide (OkEdges F i)
theorem okNodeB_t {F : FlowD} {i : Nat} (h : OkNode F i) : okNodeB F i = true := by unfold okNodeB; exact @decide_eq_true _ (Classical.propDecidable _) h
theorem okNodeB_f {F : FlowD} {i : Nat} (h : ¬ OkNode F i) : okNodeB F i = false := by unfold okNodeB; exact @decide_eq_false _ (Classical.propDecidable _) h
theorem okEdgesB_t {F : FlowD} {i : Nat} (h : OkEdges F i) : okEdgesB F i = true := by unfold okEdgesB; exact @decide_eq_true _ (Classical.propDecidable _) h
theorem okEdgesB_f {F : FlowD} {i : Nat} (h : ¬ OkEdges F i) : okEdgesB F i = false := by unfold okEdgesB; exact @decide_eq_false _ (Classical.propDecidable _) h

set_option maxHeartbeats 2000000 in
theorem bounded_any (F : FlowD) (i : Nat) (af : Value) (w : World) :
    Calls Tryd.prog 85 #[ndV (F.bu i) (F.cl i) (F.be i) (F.ba i) (F.ca i) (F.ji i) af] w fun e w' => e = .returned (.bool (okNodeB F i)) ∧ Below w.heap.size w w' := by
  by_cases hok : OkNode F i
  · obtain ⟨a1, a2, b1, b2, d1, d2, e1, e2, f1, f2, g1, g2⟩ := hok
    have s0 := withinB_t a1 a2
    have s1 := withinB_t b1 b2
    have s2 := withinB_t d1 d2
    have s3 := withinB_t e1 e2
    have s4 := withinB_t f1 f2
    have s5 := withinB_t g1 g2
    have H := Hid.mk (show OkNode F i from ⟨a1, a2, b1, b2, d1, d2, e1, e2, f1, f2, g1, g2⟩)
    go_enter Tryd.func85, Tryd.ntmps85
    go_wp2_with (go_at_call 83; refine (within_b _ _ _ _).mono ?_; rintro e w' ⟨rfl, rfl⟩)
    go_ret
    exact ⟨rb (okNodeB_t H.out).symm, (Below.refl _ _).alloc (Nat.le_refl _) _⟩
  · have hcs : (withinB (F.bu i) 1 5 = false) ∨ (withinB (F.bu i) 1 5 = true ∧ withinB (F.cl i) 1 1048576 = false) ∨ (withinB (F.bu i) 1 5 = true ∧ withinB (F.cl i) 1 1048576 = true ∧ withinB (F.be i) 0 1048576 = false)
          ∨ (withinB (F.bu i) 1 5 = true ∧ withinB (F.cl i) 1 1048576 = true ∧ withinB (F.be i) 0 1048576 = true ∧ withinB (F.ba i) 1 1048576 = false)
          ∨ (withinB (F.bu i) 1 5 = true ∧ withinB (F.cl i) 1 1048576 = true ∧ withinB (F.be i) 0 1048576 = true ∧ withinB (F.ba i) 1 1048576 = true ∧ withinB (F.ca i) (F.ba i) 1048576 = false)
          ∨ (withinB (F.bu i) 1 5 = true ∧ withinB (F.cl i) 1 1048576 = true ∧ withinB (F.be i) 0 1048576 = true ∧ withinB (F.ba i) 1 1048576 = true ∧ withinB (F.ca i) (F.ba i) 1048576 = true ∧ withinB (F.ji i) 0 1048576 = false) := by
      apply Classical.byContradiction
      intro hno
      apply hok
      unfold withinB at hno
      simp only [decide_eq_true_eq, decide_eq_false_iff_not] at hno
      constructor <;> omega
    have H := Hid.mk hok
    clear hok
    rcases hcs with q1 | ⟨q1, q2⟩ | ⟨q1, q2, q3⟩ | ⟨q1, q2, q3, q4⟩ | ⟨q1, q2, q3, q4, q5⟩ | ⟨q1, q2, q3, q4, q5, q6⟩
    all_goals
      go_enter Tryd.func85, Tryd.ntmps85
      go_wp2_with (go_at_call 83; refine (within_b _ _ _ _).mono ?_; rintro e w' ⟨rfl, rfl⟩)
      go_ret
      exact ⟨rb (okNodeB_f H.out).symm, (Below.refl _ _).alloc (Nat.le_refl _) _⟩

set_option maxHeartbeats 2000000 in
theorem rising_any (F : FlowD) (i : Nat) (a : Option Addr) (c : Nat) (w : World) (hi : IntsAt w a (F.an i) c (F.af i)) (hn : F.n ≤ 12) :
    Calls Tryd.prog 86 #[.slice a (F.an i) c, .int .i64 F.n] w fun e w' => e = .returned (.bool (okEdgesB F i)) ∧ w' = w := by
  rcases hi with h0 | ⟨ab, ao, rfl, hcap, hcap2, hab, hcell⟩
  · have H : Hid (OkEdges F i) := Hid.mk fun k hk => by omega
    have h0' : ((F.an i : Nat) : Int) ≤ 0 := by omega
    clear h0
    go_enter Tryd.func86, Tryd.ntmps86
    go_wp2_with fail
    go_loop [5, 10] (fun l k => k = .int .i64 0 ∧ l = .int .i64 (-1)) (fun _ _ => 0)
    case atStart => exact ⟨rfl, rfl⟩
    case round =>
      obtain ⟨rfl, rfl⟩ := hrel
      go_wp2_with fail
      go_ret
      exact ⟨rb (okEdgesB_t H.out).symm, rfl⟩
  · unfold maxLen at hcap2
    go_enter Tryd.func86, Tryd.ntmps86
    go_wp2_with fail
    go_loop [5, 10] (fun l k => ∃ (m : Nat) (x : Int), m ≤ F.an i ∧ k = .int .i64 m ∧ l = .int .i64 x ∧ (∀ j, j < m → OkEdge F i j) ∧ -1 ≤ x ∧ x < F.n ∧ (m = 0 → x = -1) ∧ (∀ p, m = p + 1 → x = F.af i p)) (fun _ k => F.an i - (intOf k).toNat)
    case atStart => exact ⟨0, -1, by omega, rfl, rfl, fun j hj => by omega, by omega, by omega, fun _ => rfl, fun p hp => by omega⟩
    case round =>
      obtain ⟨m, x, hm, rfl, rfl, hpre, hx1, hx2, hx3, hx4⟩ := hrel
      have HP := Hid.mk hpre
      have H3 := Hid.mk hx3
      have H4 := Hid.mk hx4
      clear hpre hx3 hx4
      by_cases hlt : m < F.an i
      · have y0 := hcell m hlt
        by_cases hok : OkEdge F i m
        · have hb : x + 1 ≤ F.af i m ∧ F.af i m ≤ (F.n : Int) - 1 := by
            obtain ⟨q1, q2, q3⟩ := hok
            refine ⟨?_, by omega⟩
            cases m with
            | zero => have := H3.out rfl; omega
            | succ p => have := H4.out p rfl; have := q3 (by omega); simp at this; omega
          have s0 := withinB_t hb.1 hb.2
          have H5 : Hid (∀ j, j < m + 1 → OkEdge F i j) := Hid.mk fun j hj => by
            by_cases hj2 : j < m
            · exact HP.out j hj2
            · obtain rfl : j = m := by omega
              exact hok
          have hb1 : 0 ≤ F.af i m := hok.1
          have hb2 : F.af i m < F.n := hok.2.1
          clear hb hok
          go_wp2_with (go_at_call 83; refine (within_b _ _ _ _).mono ?_; rintro e w' ⟨rfl, rfl⟩)
          go_round
          case rel => exact ⟨m + 1, F.af i m, by omega, by go_num, rfl, H5.out, by omega, by omega, by omega, fun p hp => (congrArg (F.af i) (show m = p by omega))⟩
          case measure => simp [intOf]; omega
        · have hb : F.af i m < x + 1 ∨ (F.n : Int) - 1 < F.af i m := by
            apply Classical.byContradiction
            intro hno
            apply hok
            refine ⟨by omega, by omega, fun hp => ?_⟩
            obtain ⟨p, rfl⟩ : ∃ p, m = p + 1 := ⟨m - 1, by omega⟩
            have := H4.out p rfl
            simp
            omega
          have s0 := withinB_f hb
          have H5 : Hid (¬ OkEdges F i) := Hid.mk fun h => hok (h m hlt)
          clear hb hok
          go_wp2_with (go_at_call 83; refine (within_b _ _ _ _).mono ?_; rintro e w' ⟨rfl, rfl⟩)
          go_ret
          exact ⟨rb (okEdgesB_f H5.out).symm, rfl⟩
      · have H5 : Hid (OkEdges F i) := Hid.mk fun j hj => HP.out j (by omega)
        go_wp2_with fail
        go_ret
        exact ⟨rb (okEdgesB_t H5.out).symm, rfl⟩

/-- A fault lies at block q: its error and its place. -/
def FaultAt (w : World) (q : Nat) (x y : Int) : Prop := w.cell? ⟨q, 0, none⟩ = some (.int .i64 x) ∧ w.cell? ⟨q, 1, none⟩ = some (.int .i64 y)
theorem faultAt_new (w : World) (x y : Int) (t : TypeId) : FaultAt (w.alloc (.cells #[.int .i64 x, .int .i64 y] t)) w.heap.size x y := ⟨by simp, by simp⟩
theorem FaultAt.keep {w w' : World} {q : Nat} {x y : Int} (h : FaultAt w q x y) (hq : q < w.heap.size) (hb : Below w.heap.size w w') : FaultAt w' q x y :=
  ⟨(hb.cell (p := ⟨q, 0, none⟩) hq).trans h.1, (hb.cell (p := ⟨q, 1, none⟩) hq).trans h.2⟩

set_option maxHeartbeats 400000 in
theorem fault_any (x y : Int) (w : World) :
    Calls Tryd.prog 84 #[.int .i64 x, .int .i64 y] w fun r w' => ∃ q : Nat, r = .returned (.iface 97 (.pointer (some ⟨q, 0, none⟩))) ∧ w.heap.size ≤ q ∧ q < w'.heap.size ∧ FaultAt w' q x y ∧ Below w.heap.size w w' := by
  go_enter Tryd.func84, Tryd.ntmps84
  go_wp2
  go_ret
  exact ⟨_, rfl, Nat.le_refl _, by simp, faultAt_new _ _ _ _, (Below.refl _ _).alloc (Nat.le_refl _) _⟩
end Go.Proofs.YtgdcjccbdmcebaaDoor
