/- The program's circling: the first node whose turn never comes. -/
import Derived.Test.YtgdcjccbdmcebaaDoorWCheckA
import Derived.Recover
import Derived.ScopeJumps
import Derived.WalkMore
namespace Go.Proofs.YtgdcjccbdmcebaaDoor
open Go.RowKit
set_option maxRecDepth 100000

/-- Is bit i of p not set? -/
def leftB (p i : Nat) : Bool := !p.testBit i

theorem leftB_eq (p i : Nat) (hp : p < 4096) : (bits BinOp.and IntKind.u64 ((p : Int) / 2 ^ i) 1 == 0) = leftB p i := by
  have e1 : ((p : Int) / 2 ^ i) = ((p / 2 ^ i : Nat) : Int) := by simp
  have h2 : p / 2 ^ i < 18446744073709551616 := by have := Nat.div_le_self p (2 ^ i); omega
  rw [e1, show (1 : Int) = ((1 : Nat) : Int) from rfl, bits_and_u64_nat _ _ h2 (by decide), Nat.and_one_is_mod]
  unfold leftB
  rw [Nat.testBit_eq_decide_div_mod_eq]
  have h3 : p / 2 ^ i % 2 = 0 ∨ p / 2 ^ i % 2 = 1 := by omega
  rcases h3 with h3 | h3 <;> simp [h3]

set_option maxHeartbeats 400000 in
theorem left_any (p : Nat) (i : Int) (pb : Nat) (w : World) (hi0 : 0 ≤ i) (hi : i < 12) (hp : p < 4096) (hc : w.cell? ⟨pb, 0, none⟩ = some (.int .u64 p)) :
    Calls Tryd.prog 97 #[.int .i64 i, .pointer (some ⟨pb, 0, none⟩)] w fun e w' => e = .returned (.bool (leftB p i.toNat)) ∧ w' = w := by
  obtain ⟨j, rfl⟩ := Int.eq_ofNat_of_zero_le hi0
  go_enter Tryd.func97, Tryd.ntmps97
  go_wp2
  go_ret
  exact ⟨rb (leftB_eq p j hp), rfl⟩

/-- Is one of these left? -/
noncomputable def anyB (p n : Nat) (f : Nat → Int) : Bool := @decide (∃ k, k < n ∧ leftB p (f k).toNat = true) (Classical.propDecidable _)
theorem anyB_t {p n : Nat} {f : Nat → Int} (k : Nat) (hk : k < n) (h : leftB p (f k).toNat = true) : anyB p n f = true := @decide_eq_true (∃ k, k < n ∧ leftB p (f k).toNat = true) (Classical.propDecidable _) ⟨k, hk, h⟩
theorem anyB_f {p n : Nat} {f : Nat → Int} (h : ∀ k, k < n → leftB p (f k).toNat = false) : anyB p n f = false := 
  @decide_eq_false (∃ k, k < n ∧ leftB p (f k).toNat = true) (Classical.propDecidable _) (fun ⟨k, hk, h2⟩ => by rw [h k hk] at h2; cases h2)
theorem anyB_inv {p n : Nat} {f : Nat → Int} (h : anyB p n f = false) : ∀ k, k < n → leftB p (f k).toNat = false := by
  intro k hk
  cases hl : leftB p (f k).toNat with
  | false => rfl
  | true => rw [anyB_t k hk hl] at h; cases h

set_option maxHeartbeats 400000 in
theorem index_any (p pb n cap : Nat) (a : Option Addr) (f : Nat → Int) (w : World) (hp : p < 4096) (hc : w.cell? ⟨pb, 0, none⟩ = some (.int .u64 p)) (hi : IntsAt w a n cap f) (hf : ∀ k, k < n → 0 ≤ f k ∧ f k < 12) :
    Calls Tryd.prog 101 #[.slice a n cap, .func (.func 97) #[] #[.pointer (some ⟨pb, 0, none⟩)]] w fun e w' => ∃ r : Int, e = .returned (.int .i64 r) ∧ ((0 ≤ r ∧ anyB p n f = true) ∨ (r < 0 ∧ anyB p n f = false)) ∧ w' = w := by
  rcases hi with h0 | ⟨ab, ao, rfl, hcap, hcap2, hab, hcell⟩
  · subst h0
    have H : Hid (anyB p 0 f = false) := Hid.mk (anyB_f fun k hk => by omega)
    go_enter Tryd.func101, Tryd.ntmps101
    go_wp2_with fail
    go_loop [8] (fun k => k = .int .i64 0) (fun _ => 0)
    case atStart => rfl
    case round =>
      obtain rfl := hrel
      go_wp2_with fail
      go_ret
      exact ⟨-1, rfl, Or.inr ⟨by omega, H.out⟩, rfl⟩
  · unfold maxLen at hcap2
    go_enter Tryd.func101, Tryd.ntmps101
    go_wp2_with fail
    go_loop [8] (fun k => ∃ m : Nat, m ≤ n ∧ k = .int .i64 m ∧ (∀ j, j < m → leftB p (f j).toNat = false)) (fun k => n - (intOf k).toNat)
    case atStart => exact ⟨0, by omega, rfl, fun j hj => by omega⟩
    case round =>
      obtain ⟨m, hm, rfl, hpre⟩ := hrel
      have HP := Hid.mk hpre
      clear hpre
      by_cases hlt : m < n
      · have y0 := hcell m hlt
        obtain ⟨y1, y2⟩ := hf m hlt
        cases hl : leftB p (f m).toNat with
        | true =>
          have H : Hid (anyB p n f = true) := Hid.mk (anyB_t m hlt hl)
          go_wp2_with (go_at_call 97; refine (left_any p _ pb _ (by assumption) (by assumption) hp hc).mono ?_; rintro e w' ⟨rfl, rfl⟩)
          go_ret
          exact ⟨m, rfl, Or.inl ⟨by omega, H.out⟩, rfl⟩
        | false =>
          have H : Hid (∀ j, j < m + 1 → leftB p (f j).toNat = false) := Hid.mk fun j hj => by
            by_cases hj2 : j < m
            · exact HP.out j hj2
            · obtain rfl : j = m := by omega
              exact hl
          go_wp2_with (go_at_call 97; refine (left_any p _ pb _ (by assumption) (by assumption) hp hc).mono ?_; rintro e w' ⟨rfl, rfl⟩)
          go_round
          case rel => exact ⟨m + 1, by omega, by go_num, H.out⟩
          case measure => simp [intOf]; omega
      · have H : Hid (anyB p n f = false) := Hid.mk (anyB_f fun k hk => HP.out k (by omega))
        go_wp2_with fail
        go_ret
        exact ⟨-1, rfl, Or.inr ⟨by omega, H.out⟩, rfl⟩

set_option maxHeartbeats 400000 in
theorem contains_any (p pb n cap : Nat) (a : Option Addr) (f : Nat → Int) (w : World) (hp : p < 4096) (hc : w.cell? ⟨pb, 0, none⟩ = some (.int .u64 p)) (hi : IntsAt w a n cap f) (hf : ∀ k, k < n → 0 ≤ f k ∧ f k < 12) :
    Calls Tryd.prog 98 #[.slice a n cap, .func (.func 97) #[] #[.pointer (some ⟨pb, 0, none⟩)]] w fun e w' => e = .returned (.bool (anyB p n f)) ∧ w' = w := by
  go_enter Tryd.func98, Tryd.ntmps98
  go_wp2_with fail
  refine (index_any p pb n cap a f w hp hc hi hf).mono ?_
  rintro e w' ⟨r, rfl, hr, rfl⟩
  rcases hr with ⟨h1, h2⟩ | ⟨h1, h2⟩
  · have H := Hid.mk h2
    clear h2
    go_wp2_with fail
    go_ret
    exact ⟨rb H.out.symm, rfl⟩
  · have H := Hid.mk h2
    clear h2
    go_wp2_with fail
    go_ret
    exact ⟨rb (by rw [H.out]; exact decide_eq_false (by omega)), rfl⟩
end Go.Proofs.YtgdcjccbdmcebaaDoor
