/- What bytes are, read as numbers (P5): where a number lies, and what it is; and a reader in memory. -/
import Derived.Test.YtgdcjccbdmcebaaDoorWPenc
import Derived.Test.YtgdcjccbdmcebaaDoorWRead
namespace Go.Proofs.YtgdcjccbdmcebaaDoor
open Go.RowKit

/-- The number that begins at place p of n bytes f, and the place behind it; none: too few bytes, too many of one number, or one byte too many. -/
def numAt (n : Nat) (f : Nat → Nat) (p : Nat) : Option (Nat × Nat) :=
  if n ≤ p then none else if f p < 128 then some (f p, p + 1) else
  if n ≤ p + 1 then none else if f (p + 1) < 128 then (if f (p + 1) = 0 then none else some (f p % 128 + f (p + 1) * 128, p + 2)) else
  if n ≤ p + 2 then none else if f (p + 2) < 128 then (if f (p + 2) = 0 then none else some (f p % 128 + f (p + 1) % 128 * 128 + f (p + 2) * 16384, p + 3)) else none

theorem numAt_lt {n : Nat} {f : Nat → Nat} {p v q : Nat} (h : numAt n f p = some (v, q)) : p < q ∧ q ≤ n ∧ v ≤ 2097151 := by
  unfold numAt at h
  split at h
  · cases h
  split at h
  · simp only [Option.some.injEq, Prod.mk.injEq] at h; omega
  split at h
  · cases h
  split at h
  · split at h
    · cases h
    · simp only [Option.some.injEq, Prod.mk.injEq] at h; omega
  split at h
  · cases h
  split at h
  · split at h
    · cases h
    · simp only [Option.some.injEq, Prod.mk.injEq] at h; omega
  · cases h

/-- The ways a number can go. -/
theorem numAt_ways (n : Nat) (f : Nat → Nat) (p : Nat) :
    (n ≤ p ∧ numAt n f p = none) ∨
    (p < n ∧ f p < 128 ∧ numAt n f p = some (f p, p + 1)) ∨
    (p < n ∧ 128 ≤ f p ∧ n ≤ p + 1 ∧ numAt n f p = none) ∨
    (p + 1 < n ∧ 128 ≤ f p ∧ f (p + 1) = 0 ∧ numAt n f p = none) ∨
    (p + 1 < n ∧ 128 ≤ f p ∧ 0 < f (p + 1) ∧ f (p + 1) < 128 ∧ numAt n f p = some (f p % 128 + f (p + 1) * 128, p + 2)) ∨
    (p + 1 < n ∧ 128 ≤ f p ∧ 128 ≤ f (p + 1) ∧ n ≤ p + 2 ∧ numAt n f p = none) ∨
    (p + 2 < n ∧ 128 ≤ f p ∧ 128 ≤ f (p + 1) ∧ f (p + 2) = 0 ∧ numAt n f p = none) ∨
    (p + 2 < n ∧ 128 ≤ f p ∧ 128 ≤ f (p + 1) ∧ 0 < f (p + 2) ∧ f (p + 2) < 128 ∧ numAt n f p = some (f p % 128 + f (p + 1) % 128 * 128 + f (p + 2) * 16384, p + 3)) ∨
    (p + 2 < n ∧ 128 ≤ f p ∧ 128 ≤ f (p + 1) ∧ 128 ≤ f (p + 2) ∧ numAt n f p = none) := by
  unfold numAt
  by_cases h0 : n ≤ p
  · simp [h0]
  rw [if_neg h0]
  by_cases h1 : f p < 128
  · rw [if_pos h1]; right; left; exact ⟨by omega, h1, rfl⟩
  rw [if_neg h1]
  by_cases h2 : n ≤ p + 1
  · rw [if_pos h2]; right; right; left; exact ⟨by omega, by omega, h2, rfl⟩
  rw [if_neg h2]
  by_cases h3 : f (p + 1) < 128
  · rw [if_pos h3]
    by_cases h4 : f (p + 1) = 0
    · rw [if_pos h4]; right; right; right; left; exact ⟨by omega, by omega, h4, rfl⟩
    · rw [if_neg h4]; right; right; right; right; left; exact ⟨by omega, by omega, by omega, h3, rfl⟩
  rw [if_neg h3]
  by_cases h5 : n ≤ p + 2
  · rw [if_pos h5]; right; right; right; right; right; left; exact ⟨by omega, by omega, by omega, h5, rfl⟩
  rw [if_neg h5]
  by_cases h6 : f (p + 2) < 128
  · rw [if_pos h6]
    by_cases h7 : f (p + 2) = 0
    · rw [if_pos h7]; right; right; right; right; right; right; left; exact ⟨by omega, by omega, by omega, h7, rfl⟩
    · rw [if_neg h7]; right; right; right; right; right; right; right; left; exact ⟨by omega, by omega, by omega, by omega, h6, rfl⟩
  · rw [if_neg h6]; right; right; right; right; right; right; right; right; exact ⟨by omega, by omega, by omega, by omega, rfl⟩

/-- Nothing but block R has turned, and nothing is new. -/
structure RTo (w w' : World) (R : Nat) : Prop where
  os : w'.os = w.os
  tape : w'.tape = w.tape
  output : w'.output = w.output
  size : w'.heap.size = w.heap.size
  block : ∀ k, k ≠ R → w'.heap[k]? = w.heap[k]?
theorem RTo.refl (w : World) (R : Nat) : RTo w w R := ⟨rfl, rfl, rfl, rfl, fun _ _ => rfl⟩
theorem RTo.set {w w' : World} {R : Nat} (h : RTo w w' R) (o : Nat) (v : Value) : RTo w (w'.setCell ⟨R, o, none⟩ v) R :=
  ⟨h.os, h.tape, h.output, by rw [← h.size]; simp [World.setCell], fun k hk => (Below.heap_setCell w' ⟨R, o, none⟩ v k hk).trans (h.block k hk)⟩
theorem RTo.drewN {w w' : World} {R : Nat} (h : RTo w w' R) (q : Nat) : RTo w (w'.drewN q) R := ⟨h.os, h.tape, h.output, h.size, h.block⟩
theorem RTo.trans {a b c : World} {R : Nat} (h : RTo a b R) (h2 : RTo b c R) : RTo a c R :=
  ⟨h2.os.trans h.os, h2.tape.trans h.tape, h2.output.trans h.output, h2.size.trans h.size, fun k hk => (h2.block k hk).trans (h.block k hk)⟩

/-- The document's reader in block R: n bytes behind a; the place; is it bad. -/
structure RdAt (w : World) (R : Nat) (a : Option Addr) (n cap : Nat) (p : Int) (bd : Bool) : Prop where
  c0 : w.cell? ⟨R, 0, none⟩ = some (.slice a n cap)
  c1 : w.cell? ⟨R, 1, none⟩ = some (.int .i64 p)
  c2 : w.cell? ⟨R, 2, none⟩ = some (.bool bd)
  f1 : w.frozen? ⟨R, 1, none⟩ = false
  f2 : w.frozen? ⟨R, 2, none⟩ = false
theorem RdAt.drewN {w : World} {R : Nat} {a : Option Addr} {n cap : Nat} {p : Int} {bd : Bool} (h : RdAt w R a n cap p bd) (k : Nat) : RdAt (w.drewN k) R a n cap p bd := ⟨h.c0, h.c1, h.c2, h.f1, h.f2⟩
theorem RdAt.setP {w : World} {R : Nat} {a : Option Addr} {n cap : Nat} {p : Int} {bd : Bool} (h : RdAt w R a n cap p bd) {v v' : Int} (hv : v = v') : RdAt (w.setCell ⟨R, 1, none⟩ (.int .i64 v)) R a n cap v' bd := by
  subst hv
  refine ⟨?_, World.cell?_setCell_same _ _ _ h.c1, ?_, by rw [World.frozen?_setCell]; exact h.f1, by rw [World.frozen?_setCell]; exact h.f2⟩
  · rw [World.cell?_setCell_other _ _ _ _ (by simp)]; exact h.c0
  · rw [World.cell?_setCell_other _ _ _ _ (by simp)]; exact h.c2
theorem RdAt.setB {w : World} {R : Nat} {a : Option Addr} {n cap : Nat} {p : Int} {bd : Bool} (h : RdAt w R a n cap p bd) (b : Bool) : RdAt (w.setCell ⟨R, 2, none⟩ (.bool b)) R a n cap p b := by
  refine ⟨?_, ?_, World.cell?_setCell_same _ _ _ h.c2, by rw [World.frozen?_setCell]; exact h.f1, by rw [World.frozen?_setCell]; exact h.f2⟩
  · rw [World.cell?_setCell_other _ _ _ _ (by simp)]; exact h.c0
  · rw [World.cell?_setCell_other _ _ _ _ (by simp)]; exact h.c1
/-- The reader at any place, not bad. -/
def RdX (w : World) (R : Nat) (a : Option Addr) (n cap : Nat) : Prop := ∃ p, RdAt w R a n cap p false
theorem RdX.drewN {w : World} {R : Nat} {a : Option Addr} {n cap : Nat} (h : RdX w R a n cap) (k : Nat) : RdX (w.drewN k) R a n cap := by obtain ⟨p, hp⟩ := h; exact ⟨p, hp.drewN k⟩
theorem RdX.setP {w : World} {R : Nat} {a : Option Addr} {n cap : Nat} (h : RdX w R a n cap) (v : Int) : RdX (w.setCell ⟨R, 1, none⟩ (.int .i64 v)) R a n cap := by obtain ⟨p, hp⟩ := h; exact ⟨v, hp.setP rfl⟩
theorem RdX.at' {w : World} {R : Nat} {a : Option Addr} {n cap : Nat} (h : RdX w R a n cap) {v v' : Int} (hv : v = v') : RdAt (w.setCell ⟨R, 1, none⟩ (.int .i64 v)) R a n cap v' false := by obtain ⟨p, hp⟩ := h; exact hp.setP hv
theorem RdX.setB {w : World} {R : Nat} {a : Option Addr} {n cap : Nat} (h : RdX w R a n cap) : ∃ q, RdAt (w.setCell ⟨R, 2, none⟩ (.bool true)) R a n cap q true := by obtain ⟨p, hp⟩ := h; exact ⟨p, hp.setB true⟩
end Go.Proofs.YtgdcjccbdmcebaaDoor
