/- What bytes are, read as a flow (P5): the reader's states one behind the other, and the numbers that are read. -/
import Derived.Test.YtgdcjccbdmcebaaDoorWDecM
namespace Go.Proofs.YtgdcjccbdmcebaaDoor
open Go.RowKit

/-- A reader: at place p, the last number that was asked for began at s; or what was asked for at s was none. -/
inductive RS where
  | good (p s : Nat)
  | bad (s : Nat)

/-- The reader behind the next number; and the number. -/
def nxS (n : Nat) (f : Nat → Nat) : RS → RS
  | .good p _ => match numAt n f p with
    | some (_, q) => .good q p
    | none => .bad p
  | .bad s => .bad s
def nxV (n : Nat) (f : Nat → Nat) : RS → Nat
  | .good p _ => match numAt n f p with
    | some (v, _) => v
    | none => 0
  | .bad _ => 0
theorem nxS_some {n : Nat} {f : Nat → Nat} {p s v q : Nat} (h : numAt n f p = some (v, q)) : nxS n f (.good p s) = .good q p := by simp [nxS, h]
theorem nxV_some {n : Nat} {f : Nat → Nat} {p s v q : Nat} (h : numAt n f p = some (v, q)) : nxV n f (.good p s) = v := by simp [nxV, h]
theorem nxS_none {n : Nat} {f : Nat → Nat} {p s : Nat} (h : numAt n f p = none) : nxS n f (.good p s) = .bad p := by simp [nxS, h]
theorem nxV_le (n : Nat) (f : Nat → Nat) (r : RS) : nxV n f r ≤ 2097151 := by
  cases r with
  | bad s => simp [nxV]
  | good p s =>
    cases h : numAt n f p with
    | none => simp [nxV, h]
    | some x =>
      obtain ⟨v, q⟩ := x
      rw [nxV_some h]
      exact (numAt_lt h).2.2

/-- The reader behind k more numbers. -/
def nxN (n : Nat) (f : Nat → Nat) : Nat → RS → RS
  | 0, r => r
  | k + 1, r => nxS n f (nxN n f k r)
theorem nxN_bad (n : Nat) (f : Nat → Nat) (k s : Nat) : nxN n f k (.bad s) = .bad s := by
  induction k with
  | zero => rfl
  | succ k ih => simp only [nxN, ih, nxS]
theorem nxN_add (n : Nat) (f : Nat → Nat) (j k : Nat) (r : RS) : nxN n f (j + k) r = nxN n f k (nxN n f j r) := by
  induction k with
  | zero => rfl
  | succ k ih => rw [← Nat.add_assoc]; simp only [nxN, ih]
/-- What fails on the way fails at the end. -/
theorem nxN_stuck {n : Nat} {f : Nat → Nat} {j m : Nat} {r : RS} {s : Nat} (h : nxN n f j r = .bad s) (hjm : j ≤ m) : nxN n f m r = .bad s := by
  obtain ⟨k, rfl⟩ : ∃ k, m = j + k := ⟨m - j, by omega⟩
  rw [nxN_add, h, nxN_bad]

/-- The reader behind a node: seven numbers, and so many as the seventh tells. -/
def ndS (n : Nat) (f : Nat → Nat) (r : RS) : RS := nxN n f (7 + nxV n f (nxN n f 6 r)) r
/-- The reader behind k nodes. -/
def ndN (n : Nat) (f : Nat → Nat) : Nat → RS → RS
  | 0, r => r
  | k + 1, r => ndS n f (ndN n f k r)
theorem ndS_bad (n : Nat) (f : Nat → Nat) (s : Nat) : ndS n f (.bad s) = .bad s := nxN_bad _ _ _ _
theorem ndN_bad (n : Nat) (f : Nat → Nat) (k s : Nat) : ndN n f k (.bad s) = .bad s := by
  induction k with
  | zero => rfl
  | succ k ih => simp only [ndN, ih, ndS_bad]
theorem ndN_add (n : Nat) (f : Nat → Nat) (j k : Nat) (r : RS) : ndN n f (j + k) r = ndN n f k (ndN n f j r) := by
  induction k with
  | zero => rfl
  | succ k ih => rw [← Nat.add_assoc]; simp only [ndN, ih]
theorem ndN_stuck {n : Nat} {f : Nat → Nat} {j m : Nat} {r : RS} {s : Nat} (h : ndN n f j r = .bad s) (hjm : j ≤ m) : ndN n f m r = .bad s := by
  obtain ⟨k, rfl⟩ : ∃ k, m = j + k := ⟨m - j, by omega⟩
  rw [ndN_add, h, ndN_bad]

/-- The reader ahead of the first node, and ahead of node i. -/
def st0 (n : Nat) (f : Nat → Nat) : RS := nxN n f 2 (.good 0 0)
def st (n : Nat) (f : Nat → Nat) (i : Nat) : RS := ndN n f i (st0 n f)
/-- The flow that n bytes f are, if they are one. -/
def flowOf (n : Nat) (f : Nat → Nat) : FlowD where
  dl := nxV n f (.good 0 0)
  n := nxV n f (nxN n f 1 (.good 0 0))
  bu i := nxV n f (st n f i)
  cl i := nxV n f (nxN n f 1 (st n f i))
  be i := nxV n f (nxN n f 2 (st n f i))
  ba i := nxV n f (nxN n f 3 (st n f i))
  ca i := nxV n f (nxN n f 4 (st n f i))
  ji i := nxV n f (nxN n f 5 (st n f i))
  an i := nxV n f (nxN n f 6 (st n f i))
  af i k := nxV n f (nxN n f (7 + k) (st n f i))
/-- The reader at the end. -/
def stE (n : Nat) (f : Nat → Nat) : RS := st n f (flowOf n f).n

/-- No flow at all. -/
def noFlow : FlowD := ⟨0, 0, fun _ => 0, fun _ => 0, fun _ => 0, fun _ => 0, fun _ => 0, fun _ => 0, fun _ => 0, fun _ _ => 0⟩
/-- The document's answer to n bytes f: what is wrong (0: nothing), where; and the flow. -/
def DecIs (n : Nat) (f : Nat → Nat) (x y : Int) (G : FlowD) : Prop :=
  (∃ s, stE n f = .bad s ∧ x = 1 ∧ y = s ∧ G = noFlow) ∨
  (∃ p s, stE n f = .good p s ∧ p < n ∧ x = 1 ∧ y = p ∧ G = noFlow) ∨
  (∃ p s, stE n f = .good p s ∧ n ≤ p ∧ ChkIs (flowOf n f) x y ∧ (x = 0 → G = flowOf n f) ∧ (x ≠ 0 → G = noFlow))
theorem DecIs.one {n : Nat} {f : Nat → Nat} {x y x' y' : Int} {G G' : FlowD} (h : DecIs n f x y G) (h' : DecIs n f x' y' G') : x = x' ∧ y = y' ∧ G = G' := by
  rcases h with ⟨s, hs, rfl, rfl, rfl⟩ | ⟨p, s, hs, hp, rfl, rfl, rfl⟩ | ⟨p, s, hs, hp, hc, h0, h1⟩
  · rcases h' with ⟨s', hs', rfl, rfl, rfl⟩ | ⟨p', s', hs', hp', rfl, rfl, rfl⟩ | ⟨p', s', hs', hp', hc', h0', h1'⟩
    · rw [hs] at hs'; cases hs'; exact ⟨rfl, rfl, rfl⟩
    · rw [hs] at hs'; cases hs'
    · rw [hs] at hs'; cases hs'
  · rcases h' with ⟨s', hs', rfl, rfl, rfl⟩ | ⟨p', s', hs', hp', rfl, rfl, rfl⟩ | ⟨p', s', hs', hp', hc', h0', h1'⟩
    · rw [hs] at hs'; cases hs'
    · rw [hs] at hs'; cases hs'; exact ⟨rfl, rfl, rfl⟩
    · rw [hs] at hs'; cases hs'; omega
  · rcases h' with ⟨s', hs', rfl, rfl, rfl⟩ | ⟨p', s', hs', hp', rfl, rfl, rfl⟩ | ⟨p', s', hs', hp', hc', h0', h1'⟩
    · rw [hs] at hs'; cases hs'
    · rw [hs] at hs'; cases hs'; omega
    · obtain ⟨rfl, rfl⟩ := hc.one hc'
      refine ⟨rfl, rfl, ?_⟩
      by_cases hx : x = 0
      · rw [h0 hx, h0' hx]
      · rw [h1 hx, h1' hx]

/-- The document's reader in block R, and what it began last in block S. -/
def StAt (w : World) (R S : Nat) (a : Option Addr) (n cap : Nat) : RS → Prop
  | .good p s => RdAt w R a n cap (p : Nat) false ∧ w.cell? ⟨S, 0, none⟩ = some (.int .i64 (s : Nat)) ∧ w.frozen? ⟨S, 0, none⟩ = false
  | .bad s => (∃ q, RdAt w R a n cap q true) ∧ w.cell? ⟨S, 0, none⟩ = some (.int .i64 (s : Nat)) ∧ w.frozen? ⟨S, 0, none⟩ = false

/-- Nothing but blocks R and S has turned, and nothing is new. -/
structure RTo2 (w w' : World) (R S : Nat) : Prop where
  os : w'.os = w.os
  tape : w'.tape = w.tape
  output : w'.output = w.output
  size : w'.heap.size = w.heap.size
  block : ∀ k, k ≠ R → k ≠ S → w'.heap[k]? = w.heap[k]?
theorem RTo2.refl (w : World) (R S : Nat) : RTo2 w w R S := ⟨rfl, rfl, rfl, rfl, fun _ _ _ => rfl⟩
theorem RTo2.trans {a b c : World} {R S : Nat} (h : RTo2 a b R S) (h2 : RTo2 b c R S) : RTo2 a c R S :=
  ⟨h2.os.trans h.os, h2.tape.trans h.tape, h2.output.trans h.output, h2.size.trans h.size, fun k hk hs => (h2.block k hk hs).trans (h.block k hk hs)⟩
theorem RTo.two {w w' : World} {R : Nat} (h : RTo w w' R) (S : Nat) : RTo2 w w' R S := ⟨h.os, h.tape, h.output, h.size, fun k hk _ => h.block k hk⟩
theorem RTo2.of_setS (w : World) (R S o : Nat) (v : Value) : RTo2 w (w.setCell ⟨S, o, none⟩ v) R S :=
  ⟨rfl, rfl, rfl, by simp [World.setCell], fun k _ hs => Below.heap_setCell w ⟨S, o, none⟩ v k hs⟩
end Go.Proofs.YtgdcjccbdmcebaaDoor
