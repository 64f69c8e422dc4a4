/- Rest: the program's and the document's give the same number at each node of a flow that is well. -/
import Derived.Test.YtgdcjccbdmcebaaDoorWSmall
import Derived.Test.YtgdcjccbdmcebaaDoorHHid
import Derived.Test.YtgdcjccbdmcebaaDoorMRest
namespace Go.Proofs.YtgdcjccbdmcebaaDoor
open Go.RowKit

/-- A node as a value: its six numbers and what it waits for. -/
abbrev ndV (bu cl be ba ca ji : Int) (af : Value) : Value := .agg #[.int .i64 bu, .int .i64 cl, .int .i64 be, .int .i64 ba, .int .i64 ca, .int .i64 ji, af]


set_option maxHeartbeats 400000 in
theorem refRest_any (bu cl be ba ca ji k s : Int) (af : Value) (w : World) (hb : 1 ≤ ba) (hb2 : ba ≤ 1048576) (hc : ba ≤ ca) (hc2 : ca ≤ 1048576) (hj : 0 ≤ ji) (hj2 : ji ≤ 1048576)
    (hk : -9223372036854775808 ≤ k) (hk2 : k ≤ 9223372036854775807) (hs : 0 ≤ s) (hs2 : s ≤ 18446744073709551615) :
    Calls Tryd.prog 16 #[ndV bu cl be ba ca ji af, .int .i64 k, .int .u64 s] w fun e w' => e = .returned (.int .i64 (restI ba ca ji k s)) ∧ Below w.heap.size w w' := by
  go_enter Tryd.func16, Tryd.ntmps16
  go_wp2
  go_loop [7, 8] (fun wt i => ∃ m : Nat, i = .int .i64 ((m : Int) + 1) ∧ ((m : Int) ≤ k - 1 ∨ m = 0) ∧ wt = .int .i64 (pw ba m) ∧ pw ba m < 2 * ca) (fun wt _ => (2 * ca - intOf wt).toNat)
  case atStart => exact ⟨0, rfl, Or.inr rfl, by rw [pw_zero], by rw [pw_zero]; omega⟩
  case round =>
    obtain ⟨m, rfl, hm, rfl, hlt⟩ := hrel
    have hp := pw_pos ba hb m
    have hs' := pw_succ ba m
    have hd0 : 0 ≤ s % (ji + 1) := Int.emod_nonneg _ (by omega)
    have hd1 : s % (ji + 1) < ji + 1 := Int.emod_lt_of_pos _ (by omega)
    by_cases h1 : (m : Int) + 1 < k
    · by_cases h2 : pw ba m < ca
      · have HS : Hid (pw ba (m + 1) = 2 * pw ba m) := hs'
        clear hs'
        go_wp2
        go_round
        case rel => exact ⟨m + 1, by go_num, Or.inl (by omega), by rw [HS.out]; go_num, by rw [HS.out]; omega⟩
        case measure => simp [intOf]; omega
      · have key := Hid.mk (rest_at ba ca k m hb hm (Or.inr (by omega)))
        clear hs'
        go_wp2
        all_goals go_ret
        all_goals exact ⟨ri (by unfold restI; rw [key.out]; omega), (Below.refl _ _).alloc (Nat.le_refl _) _⟩
    · have key := Hid.mk (rest_at ba ca k m hb hm (Or.inl (by omega)))
      clear hs'
      go_wp2
      all_goals go_ret
      all_goals exact ⟨ri (by unfold restI; rw [key.out]; omega), (Below.refl _ _).alloc (Nat.le_refl _) _⟩

/-- Twice as much, but no more than the last of the ints (of what is not below 0). -/
def satI (n : Int) : Int := min (2 * n) 9223372036854775807
set_option maxHeartbeats 400000 in
theorem twice_any (n : Int) (w : World) (h : 0 ≤ n) (h2 : n ≤ 9223372036854775807) :
    Calls Tryd.prog 75 #[.int .i64 n] w fun e w' => e = .returned (.int .i64 (satI n)) ∧ w' = w := by
  by_cases h1 : 4611686018427387903 < n
  · go_enter Tryd.func75, Tryd.ntmps75
    go_wp2
    go_ret
    exact ⟨ri (by unfold satI; omega), rfl⟩
  · go_enter Tryd.func75, Tryd.ntmps75
    go_wp2
    go_ret
    exact ⟨ri (by unfold satI; omega), rfl⟩
set_option maxHeartbeats 400000 in
theorem remainder_any (s j : Int) (w : World) (hs : 0 ≤ s) (hs2 : s ≤ 18446744073709551615) (hj : 0 ≤ j) (hj2 : j ≤ 1048576) :
    Calls Tryd.prog 76 #[.int .u64 s, .int .i64 j] w fun e w' => e = .returned (.int .i64 (s % (j + 1))) ∧ w' = w := by
  have hd0 : 0 ≤ s % (j + 1) := Int.emod_nonneg _ (by omega)
  have hd1 : s % (j + 1) < j + 1 := Int.emod_lt_of_pos _ (by omega)
  go_enter Tryd.func76, Tryd.ntmps76
  go_wp2
  go_ret
  exact ⟨rfl, rfl⟩

/-- base times two to the m, at the most the last of the ints. -/
def satP (b : Int) (m : Nat) : Int := min (pw b m) 9223372036854775807
theorem satP_zero (b : Int) (h : b ≤ 1048576) : satP b 0 = b := by unfold satP; rw [pw_zero]; omega
theorem satP_succ (b : Int) (hb : 1 ≤ b) (m : Nat) : satI (satP b m) = satP b (m + 1) := by have := pw_pos b hb m; unfold satI satP; rw [pw_succ]; omega
theorem satP_bd (b : Int) (hb : 1 ≤ b) (m : Nat) : 1 ≤ satP b m ∧ satP b m ≤ 9223372036854775807 := by have := pw_pos b hb m; unfold satP; omega
theorem satP_end (b c k : Int) (m : Nat) (hb : 1 ≤ b) (hc : c ≤ 1048576) (hm : (m : Int) = min (max k 1) 64 - 1) : min (satP b m) c = min (pw b (k - 1).toNat) c := by
  have key : min (pw b (k - 1).toNat) c = min (pw b m) c := by
    by_cases h : k ≤ 64
    · exact rest_at b c k m hb (by omega) (Or.inl (by omega))
    · have e : m = 63 := by omega
      subst e
      refine rest_at b c k 63 hb (Or.inl (by omega)) (Or.inr ?_)
      have := pw_mono b hb 40 63 (by omega)
      have h2 := pw_ge b hb 40
      have e2 : ((2 ^ 40 : Nat) : Int) = 1099511627776 := by decide
      omega
  rw [key]
  unfold satP
  omega

set_option maxHeartbeats 1000000 in
theorem rest_any (bu cl be ba ca ji k s : Int) (af : Value) (w : World) (hb : 1 ≤ ba) (hb2 : ba ≤ 1048576) (hc : ba ≤ ca) (hc2 : ca ≤ 1048576) (hj : 0 ≤ ji) (hj2 : ji ≤ 1048576)
    (hk : -9223372036854775808 ≤ k) (hk2 : k ≤ 9223372036854775807) (hs : 0 ≤ s) (hs2 : s ≤ 18446744073709551615) :
    Calls Tryd.prog 56 #[ndV bu cl be ba ca ji af, .int .i64 k, .int .u64 s] w fun e w' => e = .returned (.int .i64 (restI ba ca ji k s)) ∧ Below w.heap.size w w' := by
  go_enter Tryd.func56, Tryd.ntmps56
  go_wp2_with fail
  all_goals
    go_loop [7, 15] (fun wt i => ∃ m : Nat, i = .int .i64 m ∧ (m : Int) ≤ min (max k 1) 64 - 1 ∧ wt = .int .i64 (satP ba m)) (fun _ i => (64 - intOf i).toNat)
    case atStart => exact ⟨0, rfl, by omega, by rw [satP_zero _ hb2]⟩
    case round =>
      obtain ⟨m, rfl, hm, rfl⟩ := hrel
      have hp := satP_bd ba hb m
      obtain ⟨hp1, hp2⟩ := hp
      have hd0 : 0 ≤ s % (ji + 1) := Int.emod_nonneg _ (by omega)
      have hd1 : s % (ji + 1) < ji + 1 := Int.emod_lt_of_pos _ (by omega)
      by_cases h1 : (m : Int) < min (max k 1) 64 - 1
      · first
          | (exfalso; omega)
          | (have HS := Hid.mk (satP_succ ba hb m)
             go_wp2_with (go_at_call 75; refine (twice_any _ _ (by omega) (by omega)).mono ?_; rintro e w' ⟨rfl, rfl⟩)
             go_round
             case rel => exact ⟨m + 1, by go_num, by omega, by rw [HS.out]⟩
             case measure => simp [intOf]; omega)
      · have key := Hid.mk (satP_end ba ca k m hb hc2 (by omega))
        go_wp2_with (go_at_call 76; refine (remainder_any _ _ _ (by omega) (by omega) (by omega) (by omega)).mono ?_; rintro e w' ⟨rfl, rfl⟩)
        all_goals go_ret
        all_goals exact ⟨ri (by unfold restI; rw [← key.out]; omega), (Below.refl _ _).alloc (Nat.le_refl _) _⟩
end Go.Proofs.YtgdcjccbdmcebaaDoor
