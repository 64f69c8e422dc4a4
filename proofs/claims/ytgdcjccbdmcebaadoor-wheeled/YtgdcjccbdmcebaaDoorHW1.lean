/- The program's wheel: place, start. -/
import Derived.Test.YtgdcjccbdmcebaaDoorHShelf
import Derived.Test.YtgdcjccbdmcebaaDoorWTz
import Derived.Deep.QuietTactic
import Derived.BigQuiet
import Derived.Deep.CutRange
namespace Go.Proofs.YtgdcjccbdmcebaaDoor
open Go.RowKit
set_option maxRecDepth 100000

theorem bits_xor_u64_nat (a b : Nat) (ha : a < 18446744073709551616) (hb : b < 18446744073709551616) :
    bits .xor .u64 (a : Int) (b : Int) = ((a ^^^ b : Nat) : Int) := by
  have hx : a ^^^ b < 2 ^ 64 := Nat.xor_lt_two_pow (by omega) (by omega)
  have h1 : (BitVec.ofInt 64 (a : Int)).toNat = a := by
    rw [BitVec.ofInt_natCast, BitVec.toNat_ofNat]; exact Nat.mod_eq_of_lt (by omega)
  have h2 : (BitVec.ofInt 64 (b : Int)).toNat = b := by
    rw [BitVec.ofInt_natCast, BitVec.toNat_ofNat]; exact Nat.mod_eq_of_lt (by omega)
  show IntKind.u64.wrap ((BitVec.ofInt 64 (a : Int) ^^^ BitVec.ofInt 64 (b : Int)).toNat : Int) = _
  rw [BitVec.toNat_xor, h1, h2, IntKind.wrap_u64]
  omega

theorem lev_val (b : Nat) (h : b ≤ 64) : wrap64 ((max (wrap64 ((b : Int) - 1)) 0).tdiv 6) = (((b - 1) / 6 : Nat) : Int) := by
  have e1 : wrap64 ((b : Int) - 1) = (b : Int) - 1 := by unfold wrap64; omega
  have e2 : max ((b : Int) - 1) 0 = ((b - 1 : Nat) : Int) := by omega
  rw [e1, e2]
  have e3 : ((b - 1 : Nat) : Int).tdiv 6 = (((b - 1) / 6 : Nat) : Int) := rfl
  rw [e3]
  unfold wrap64
  omega

set_option maxHeartbeats 1000000 in
theorem place_any (w : World) (P now t : Nat) (c0 : w.cell? ⟨P, 0, none⟩ = some (.int .u64 now)) (hn : now < 18446744073709551616) (ht : t < 18446744073709551616) :
    Calls Tryd.prog 80 #[.pointer (some ⟨P, 0, none⟩), .int .u64 t] w fun e w' => e = .returned (.tuple #[.int .i64 (lev now t), .int .i64 (slt (lev now t) t)]) ∧ ∃ q, w' = w.drewN q := by
  have hx : t ^^^ now < 18446744073709551616 := by
    have : t ^^^ now < 2 ^ 64 := Nat.xor_lt_two_pow (by omega) (by omega)
    omega
  have hb := bits_xor_u64_nat t now ht hn
  go_enter Tryd.func80, Tryd.ntmps80
  go_wp2_with (go_at_call 96; refine (len_any (t ^^^ now) w hx).mono ?_; rintro e w' ⟨rfl, hw'⟩; rw [hw'])
  have hbl : bl (t ^^^ now) ≤ 64 := (bl_le _ _).2 hx
  rw [lev_val _ hbl]
  obtain ⟨L, hL⟩ : ∃ L, L = lev now t := ⟨_, rfl⟩
  have e0 : (bl (t ^^^ now) - 1) / 6 = L := hL.symm
  have hl63 : L ≤ 10 := by omega
  have HL := Hid.mk hL
  rw [e0]
  clear hb hx hbl e0 hL
  have h1 : IntKind.i64.wrap ((L : Int) * 6) = (L : Int) * 6 := by rw [IntKind.wrap_i64]; omega
  go_quiet (fail)
  have hv : wrap64 (((t : Int) / 2 ^ (L * 6)).tmod 64) = (slt L t : Int) := by
    have e1 : ((t : Int) / 2 ^ (L * 6)) = ((t / 2 ^ (L * 6) : Nat) : Int) := by norm_cast
    rw [e1]
    have e2 : ((t / 2 ^ (L * 6) : Nat) : Int).tmod 64 = ((t / 2 ^ (L * 6) % 64 : Nat) : Int) := rfl
    rw [e2, Nat.mul_comm L 6]
    have := slt_lt L t
    unfold slt at *
    unfold wrap64
    omega
  rw [hv]
  go_wp2_with fail
  go_ret2
  exact ⟨by rw [← HL.out]; rfl, nq, rfl⟩

theorem start_at (now L s : Nat) (hs : s < 64) : start now (L * 64 + s) = 2 ^ (6 * (L + 1)) * (now / 2 ^ (6 * (L + 1))) + s * 2 ^ (6 * L) := by
  unfold start
  rw [show (L * 64 + s) / 64 = L by omega, show (L * 64 + s) % 64 = s by omega, Nat.mul_comm (now / 2 ^ (6 * (L + 1)))]
theorem start_val (now L s : Nat) (hn : now < 18446744073709551616) (hL : L ≤ 10) (hs : s < 64) (hst : start now (L * 64 + s) < 18446744073709551616) :
    bits .or .u64 (IntKind.u64.wrap ((now : Int) / 2 ^ min (6 * (L + 1)) 64 * 2 ^ min (6 * (L + 1)) 64)) (IntKind.u64.wrap ((s : Int) * 2 ^ (L * 6))) = (start now (L * 64 + s) : Int) := by
  have h0 := start_at now L s hs
  have hb : s * 2 ^ (6 * L) < 18446744073709551616 := by omega
  have e1 : IntKind.u64.wrap ((s : Int) * 2 ^ (L * 6)) = ((s * 2 ^ (6 * L) : Nat) : Int) := by
    have : (s : Int) * 2 ^ (L * 6) = ((s * 2 ^ (6 * L) : Nat) : Int) := by rw [Nat.mul_comm 6 L]; norm_cast
    rw [this, IntKind.wrap_u64]
    omega
  have hlt : s * 2 ^ (6 * L) < 2 ^ (6 * (L + 1)) := by
    rw [pow_step]
    exact Nat.mul_lt_mul_of_lt_of_le hs (Nat.le_refl _) (Nat.two_pow_pos _)
  have e2 : IntKind.u64.wrap ((now : Int) / 2 ^ min (6 * (L + 1)) 64 * 2 ^ min (6 * (L + 1)) 64) = ((2 ^ (6 * (L + 1)) * (now / 2 ^ (6 * (L + 1))) : Nat) : Int) := by
    by_cases h : L = 10
    · subst h
      have a1 : (now : Int) / 2 ^ min (6 * (10 + 1)) 64 = 0 := by
        rw [show min (6 * (10 + 1)) 64 = 64 by decide]; omega
      have a2 : now / 2 ^ (6 * (10 + 1)) = 0 := Nat.div_eq_of_lt (by omega)
      rw [a1, a2]
      rfl
    · rw [Nat.min_eq_left (by omega)]
      have : (now : Int) / 2 ^ (6 * (L + 1)) * 2 ^ (6 * (L + 1)) = ((2 ^ (6 * (L + 1)) * (now / 2 ^ (6 * (L + 1))) : Nat) : Int) := by
        generalize 6 * (L + 1) = A
        rw [Nat.mul_comm (2 ^ A)]; norm_cast
      rw [this, IntKind.wrap_u64]
      have : 2 ^ (6 * (L + 1)) * (now / 2 ^ (6 * (L + 1))) ≤ now := Nat.mul_div_le _ _
      omega
  rw [e1, e2, bits_or_u64_nat _ _ (by omega) hb, h0]
  congr 1
  exact (Nat.two_pow_add_eq_or_of_lt hlt _).symm

set_option maxHeartbeats 1000000 in
theorem start_any (w : World) (P now L s : Nat) (c0 : w.cell? ⟨P, 0, none⟩ = some (.int .u64 now)) (hn : now < 18446744073709551616) (hL : L ≤ 10) (hs : s < 64) (hst : start now (L * 64 + s) < 18446744073709551616) :
    Calls Tryd.prog 62 #[.pointer (some ⟨P, 0, none⟩), .int .i64 L, .int .i64 s] w fun e w' => e = .returned (.int .u64 (start now (L * 64 + s))) ∧ ∃ q, w' = w.drewN q := by
  have h1 : IntKind.i64.wrap ((L : Int) + 1) = (L : Int) + 1 := by rw [IntKind.wrap_i64]; omega
  have h2 : IntKind.i64.wrap (((L : Int) + 1) * 6) = ((L : Int) + 1) * 6 := by rw [IntKind.wrap_i64]; omega
  have h3 : IntKind.i64.wrap ((L : Int) * 6) = (L : Int) * 6 := by rw [IntKind.wrap_i64]; omega
  have h4 : IntKind.u64.wrap (s : Int) = (s : Int) := by rw [IntKind.wrap_u64]; omega
  go_enter Tryd.func62, Tryd.ntmps62
  go_wp2_with fail
  obtain ⟨A, hA⟩ : ∃ A, A = 6 * (L + 1) := ⟨_, rfl⟩
  rw [show ((L : Int) + 1) * 6 = (A : Int) by omega]
  have HA := Hid.mk hA
  clear hA h1 h2
  go_quiet (fail)
  have hv := start_val now L s hn hL hs hst
  rw [← HA.out] at hv
  rw [hv]
  clear hv
  go_wp2_with fail
  go_ret
  exact ⟨rfl, nq, rfl⟩
end Go.Proofs.YtgdcjccbdmcebaaDoor
