/- The program's wheel: first. -/
import Derived.Test.YtgdcjccbdmcebaaDoorHW1
namespace Go.Proofs.YtgdcjccbdmcebaaDoor
open Go.RowKit
set_option maxRecDepth 100000

/-- The eleven words as a value. -/
def w11 (wd : Nat → Nat) : Value := .agg #[.int .u64 (wd 0), .int .u64 (wd 1), .int .u64 (wd 2), .int .u64 (wd 3), .int .u64 (wd 4), .int .u64 (wd 5), .int .u64 (wd 6), .int .u64 (wd 7), .int .u64 (wd 8), .int .u64 (wd 9), .int .u64 (wd 10)]
theorem w11_0 (wd : Nat → Nat) (w : World) : (Instr.index 80 (w11 wd) (.int .i64 0)).run Tryd.prog w = .ok (.int .u64 (wd 0)) w := by kernel_rfl
theorem w11_1 (wd : Nat → Nat) (w : World) : (Instr.index 80 (w11 wd) (.int .i64 1)).run Tryd.prog w = .ok (.int .u64 (wd 1)) w := by kernel_rfl
theorem w11_2 (wd : Nat → Nat) (w : World) : (Instr.index 80 (w11 wd) (.int .i64 2)).run Tryd.prog w = .ok (.int .u64 (wd 2)) w := by kernel_rfl
theorem w11_3 (wd : Nat → Nat) (w : World) : (Instr.index 80 (w11 wd) (.int .i64 3)).run Tryd.prog w = .ok (.int .u64 (wd 3)) w := by kernel_rfl
theorem w11_4 (wd : Nat → Nat) (w : World) : (Instr.index 80 (w11 wd) (.int .i64 4)).run Tryd.prog w = .ok (.int .u64 (wd 4)) w := by kernel_rfl
theorem w11_5 (wd : Nat → Nat) (w : World) : (Instr.index 80 (w11 wd) (.int .i64 5)).run Tryd.prog w = .ok (.int .u64 (wd 5)) w := by kernel_rfl
theorem w11_6 (wd : Nat → Nat) (w : World) : (Instr.index 80 (w11 wd) (.int .i64 6)).run Tryd.prog w = .ok (.int .u64 (wd 6)) w := by kernel_rfl
theorem w11_7 (wd : Nat → Nat) (w : World) : (Instr.index 80 (w11 wd) (.int .i64 7)).run Tryd.prog w = .ok (.int .u64 (wd 7)) w := by kernel_rfl
theorem w11_8 (wd : Nat → Nat) (w : World) : (Instr.index 80 (w11 wd) (.int .i64 8)).run Tryd.prog w = .ok (.int .u64 (wd 8)) w := by kernel_rfl
theorem w11_9 (wd : Nat → Nat) (w : World) : (Instr.index 80 (w11 wd) (.int .i64 9)).run Tryd.prog w = .ok (.int .u64 (wd 9)) w := by kernel_rfl
theorem w11_10 (wd : Nat → Nat) (w : World) : (Instr.index 80 (w11 wd) (.int .i64 10)).run Tryd.prog w = .ok (.int .u64 (wd 10)) w := by kernel_rfl
theorem w11_at (wd : Nat → Nat) (w : World) (k : Nat) (hk : k < 11) : (Instr.index 80 (w11 wd) (.int .i64 k)).run Tryd.prog w = .ok (.int .u64 (wd k)) w := by
  have : k = 0 ∨ k = 1 ∨ k = 2 ∨ k = 3 ∨ k = 4 ∨ k = 5 ∨ k = 6 ∨ k = 7 ∨ k = 8 ∨ k = 9 ∨ k = 10 := by omega
  rcases this with rfl | rfl | rfl | rfl | rfl | rfl | rfl | rfl | rfl | rfl | rfl
  · exact w11_0 wd w
  · exact w11_1 wd w
  · exact w11_2 wd w
  · exact w11_3 wd w
  · exact w11_4 wd w
  · exact w11_5 wd w
  · exact w11_6 wd w
  · exact w11_7 wd w
  · exact w11_8 wd w
  · exact w11_9 wd w
  · exact w11_10 wd w

/-- Which word is the first that isn't 0. -/
def FstW (wd : Nat → Nat) (L s : Nat) (ok : Bool) : Prop :=
  (ok = false ∧ L = 0 ∧ s = 0 ∧ ∀ j, j < 11 → wd j = 0) ∨ (ok = true ∧ L < 11 ∧ (∀ j, j < L → wd j = 0) ∧ wd L ≠ 0 ∧ s = Lib.ctz 64 (wd L))

set_option maxHeartbeats 1000000 in
theorem first_any (w : World) (P B now : Nat) (dm : Value) (rw_ : Nat → Value) (ls : Nat → List Int) (wd : Nat → Nat) (h : PwAt w P B now dm rw_ ls wd) (hw : ∀ j, j < 11 → wd j < 18446744073709551616) (hT : TabIn w) :
    Calls Tryd.prog 61 #[.pointer (some ⟨P, 0, none⟩)] w fun e w' => ∃ L s ok, e = .returned (.tuple #[.int .i64 (L : Nat), .int .i64 (s : Nat), .bool ok]) ∧ FstW wd L s ok ∧ w' = w := by
  have c0 := h.cw 0 (by decide)
  have c1 := h.cw 1 (by decide)
  have c2 := h.cw 2 (by decide)
  have c3 := h.cw 3 (by decide)
  have c4 := h.cw 4 (by decide)
  have c5 := h.cw 5 (by decide)
  have c6 := h.cw 6 (by decide)
  have c7 := h.cw 7 (by decide)
  have c8 := h.cw 8 (by decide)
  have c9 := h.cw 9 (by decide)
  have c10 := h.cw 10 (by decide)
  have HW := Hid.mk hw
  have HT := Hid.mk hT
  have hix := w11_at wd w
  have HV : Hid (w11 wd = .agg #[.int .u64 (wd 0), .int .u64 (wd 1), .int .u64 (wd 2), .int .u64 (wd 3), .int .u64 (wd 4), .int .u64 (wd 5), .int .u64 (wd 6), .int .u64 (wd 7), .int .u64 (wd 8), .int .u64 (wd 9), .int .u64 (wd 10)]) := Hid.mk rfl
  have HIX := Hid.mk hix
  clear h hw hT hix
  go_enter Tryd.func61, Tryd.ntmps61
  go_wp2_with fail
  rw [← HV.out]
  clear HV c0 c1 c2 c3 c4 c5 c6 c7 c8 c9 c10
  generalize w11 wd = AV at *
  go_loopw [11] (fun iv wr => ∃ k : Nat, iv = .int .i64 k ∧ k ≤ 11 ∧ (∀ j, j < k → wd j = 0) ∧ wr = w) (fun iv _ => 11 - (intOf iv).toNat)
  case atStart => exact ⟨0, rfl, by omega, fun j hj => by omega, rfl⟩
  case round =>
    obtain ⟨k, rfl, hk, hz, rfl⟩ := hrel
    have HZ := Hid.mk hz
    clear hz
    by_cases h1 : k < 11
    · have hix := HIX.out k h1
      have hwl := HW.out k h1
      obtain ⟨x, hx⟩ : ∃ x, x = wd k := ⟨_, rfl⟩
      rw [← hx] at hix hwl
      have HX := Hid.mk hx
      clear hx
      by_cases h2 : x = 0
      · subst h2
        go_wp2_with fail
        go_roundw
        case rel => exact ⟨k + 1, by go_num, by omega, fun j hj => (by
          by_cases e : j = k
          · subst e; exact HX.out.symm
          · exact HZ.out j (by omega)), (by trivial)⟩
        case measure => simp [intOf]; omega
      · have g1 : ((x : Int) == 0) = false := by simpa using h2
        go_wp2_with (go_at_call 79; refine (tz64_any x hwl h2 _ HT.out).mono ?_; rintro e w' ⟨rfl, hw'⟩; rw [hw'])
        go_ret3
        exact ⟨k, _, true, rfl, Or.inr ⟨rfl, h1, HZ.out, by rw [← HX.out]; exact h2, by rw [← HX.out]⟩, rfl⟩
    · obtain rfl : k = 11 := by omega
      go_wp2_with fail
      go_ret3
      exact ⟨0, 0, false, rfl, Or.inl ⟨rfl, rfl, rfl, HZ.out⟩, rfl⟩
end Go.Proofs.YtgdcjccbdmcebaaDoor
