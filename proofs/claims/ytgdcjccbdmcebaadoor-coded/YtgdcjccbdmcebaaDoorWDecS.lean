/- What bytes are, read as a flow (P5): the reader's states one behind the other, and the numbers that are read. -/
import Derived.Test.YtgdcjccbdmcebaaDoorWDecM
namespace Go.Proofs.YtgdcjccbdmcebaaDoor
section
open Go.RowKit
set_option maxRecDepth 100000

/-- The program's reader in block R: n bytes behind a; the place. -/
structure PdAt (w : World) (R : Nat) (a : Option Addr) (n cap : Nat) (p : Int) : Prop where
  c0 : w.cell? ⟨R, 0, none⟩ = some (.slice a n cap)
  c1 : w.cell? ⟨R, 1, none⟩ = some (.int .i64 p)
  f1 : w.frozen? ⟨R, 1, none⟩ = false
def PdX (w : World) (R : Nat) (a : Option Addr) (n cap : Nat) : Prop := ∃ p, PdAt w R a n cap p
theorem PdX.drewN {w : World} {R : Nat} {a : Option Addr} {n cap : Nat} (h : PdX w R a n cap) (k : Nat) : PdX (w.drewN k) R a n cap := by obtain ⟨p, hp⟩ := h; exact ⟨p, hp.c0, hp.c1, hp.f1⟩
theorem PdX.at' {w : World} {R : Nat} {a : Option Addr} {n cap : Nat} (h : PdX w R a n cap) {v v' : Int} (hv : v = v') : PdAt (w.setCell ⟨R, 1, none⟩ (.int .i64 v)) R a n cap v' := by
  obtain ⟨p, hp⟩ := h
  subst hv
  refine ⟨?_, World.cell?_setCell_same _ _ _ hp.c1, by rw [World.frozen?_setCell]; exact hp.f1⟩
  rw [World.cell?_setCell_other _ _ _ _ (by simp)]; exact hp.c0
theorem PdX.setP {w : World} {R : Nat} {a : Option Addr} {n cap : Nat} (h : PdX w R a n cap) (v : Int) : PdX (w.setCell ⟨R, 1, none⟩ (.int .i64 v)) R a n cap := ⟨v, h.at' rfl⟩

/-- What the reader's number comes to. -/
def PnumIs (w' : World) (R : Nat) (a : Option Addr) (n cap : Nat) (f : Nat → Nat) (p : Nat) (e : Ending) : Prop :=
  (∃ v q, numAt n f p = some (v, q) ∧ e = .returned (.int .i64 (v : Nat)) ∧ PdAt w' R a n cap (q : Nat)) ∨
  (numAt n f p = none ∧ e = .panicked [{ v := .iface 171 (.int .i64 (p : Nat)), recovered := false }] ∧ PdX w' R a n cap)

theorem bl8_small {x : Nat} (h : x < 128) : bl8 x ≤ 7 := (bl8_le x 7).2 h
/-- What Read answers is what the number is. -/
theorem read_numAt {n p k : Nat} {f : Nat → Nat} {x : Int} {ok : Bool} (h : ReadIs (fun j => f (p + j)) (min (n - p) 3) x k ok) : (ok = true ∧ ∃ v, numAt n f p = some (v, p + k) ∧ x = (v : Int)) ∨ (ok = false ∧ numAt n f p = none) := by
  rcases h with ⟨i, hi, ⟨e1, e2, e3, _⟩, rfl, rfl, rfl⟩ | ⟨hno, rfl, rfl, rfl⟩
  · refine Or.inl ⟨rfl, valN (fun j => f (p + j)) (i + 1), ?_, rfl⟩
    match i, hi with
    | 0, hi =>
      simp only [Nat.add_zero] at e2
      unfold numAt
      rw [if_neg (by omega), if_pos e2]
      simp only [valN, Nat.zero_add, Nat.add_zero, Nat.mul_zero, Nat.pow_zero, Nat.mul_one]
      rw [Nat.mod_eq_of_lt e2]
    | 1, hi =>
      have h0 := e1 0 (by omega)
      simp only [Nat.add_zero] at h0
      have h3 : f (p + 1) ≠ 0 := by
        rcases e3 with h | h
        · omega
        · exact Nat.ne_of_gt h
      unfold numAt
      rw [if_neg (by omega), if_neg (by omega), if_neg (by omega), if_pos e2, if_neg h3]
      simp only [valN, Nat.zero_add, Nat.add_zero, Nat.mul_zero, Nat.pow_zero, Nat.mul_one]
      rw [Nat.mod_eq_of_lt e2]
    | 2, hi =>
      have h0 := e1 0 (by omega)
      have h1 := e1 1 (by omega)
      simp only [Nat.add_zero] at h0
      have h3 : f (p + 2) ≠ 0 := by
        rcases e3 with h | h
        · omega
        · exact Nat.ne_of_gt h
      unfold numAt
      simp only [] at h1
      rw [if_neg (by omega), if_neg (by omega), if_neg (by omega), if_neg (by omega), if_neg (by omega), if_pos e2, if_neg h3]
      simp only [valN, Nat.zero_add, Nat.add_zero, Nat.mul_zero, Nat.pow_zero, Nat.mul_one]
      rw [Nat.mod_eq_of_lt e2]
    | i + 3, hi => omega
  · refine Or.inr ⟨rfl, ?_⟩
    rcases numAt_ways n f p with ⟨h0, hv⟩ | ⟨h0, h1, hv⟩ | ⟨h0, h1, h2, hv⟩ | ⟨h0, h1, h2, hv⟩ | ⟨h0, h1, h2, h3, hv⟩ | ⟨h0, h1, h2, h3, hv⟩ | ⟨h0, h1, h2, h3, hv⟩ | ⟨h0, h1, h2, h3, h4, hv⟩ | ⟨h0, h1, h2, h3, hv⟩
    · exact hv
    · exact absurd ⟨fun j hj => by omega, h1, Or.inl rfl, by have := bl8_small h1; show 7 * 0 + bl8 (f (p + 0)) ≤ 64; rw [Nat.add_zero]; omega⟩ (hno 0 (by omega))
    · exact hv
    · exact hv
    · exact absurd ⟨fun j hj => by
        obtain rfl : j = 0 := by omega
        exact h1, h3, Or.inr h2, by have := bl8_small h3; show 7 * 1 + bl8 (f (p + 1)) ≤ 64; omega⟩ (hno 1 (by omega))
    · exact hv
    · exact hv
    · exact absurd ⟨fun j hj => by
        rcases (by omega : j = 0 ∨ j = 1) with rfl | rfl
        · exact h1
        · exact h2, h4, Or.inr h3, by have := bl8_small h4; show 7 * 2 + bl8 (f (p + 2)) ≤ 64; omega⟩ (hno 2 (by omega))
    · exact hv
theorem BytesAt.from_ {w : World} {b o n cap p : Nat} {f : Nat → Nat} (h : BytesAt w (some ⟨b, o, none⟩) n cap f) (hp : p ≤ n) : BytesAt w (some (if cap = p then ⟨b, o, none⟩ else ⟨b, o + p, none⟩)) (n - p) (cap - p) (fun j => f (p + j)) := by
  rcases h with h | ⟨b', o', he, h1, h2, h3, h4⟩
  · exact Or.inl (by omega)
  · obtain ⟨rfl, rfl⟩ : b = b' ∧ o = o' := by simpa using he
    by_cases e : n = p
    · exact Or.inl (by omega)
    · rw [if_neg (by omega)]
      exact Or.inr ⟨b, o + p, rfl, by omega, by omega, h3, fun k hk => by rw [Nat.add_assoc]; exact h4 (p + k) (by omega)⟩

set_option maxHeartbeats 8000000 in
theorem pnum_any (w : World) (R : Nat) (a : Option Addr) (n cap : Nat) (f : Nat → Nat) (p : Nat) (hn : n ≤ maxLen) (hp : p ≤ n) (h : PdAt w R a n cap p) (hR : ∀ b o, a = some ⟨b, o, none⟩ → b ≠ R) (hb : BytesAt w a n cap f) :
    Calls Tryd.prog 91 #[.pointer (some ⟨R, 0, none⟩)] w fun e w' => PnumIs w' R a n cap f p e ∧ RTo w w' R := by
  have hbn := hb
  have HB := Hid.mk hb
  unfold maxLen at hn
  have H := Hid.mk h
  obtain ⟨c0, c1, f1⟩ := h
  obtain ⟨x, k, ok, hr⟩ := ReadIs.ex (fun j => f (p + j)) (min (n - p) 3)
  have HR := Hid.mk (read_numAt hr)
  have hle : ok = true → (p + k ≤ n ∧ 0 < k) ∧ (0 ≤ x ∧ x ≤ 2097151) := by
    intro e
    rcases HR.out with ⟨_, v, h1, h2⟩ | ⟨h1, _⟩
    · have := numAt_lt h1; omega
    · rw [h1] at e; cases e
  by_cases hpn : p = n
  · have hok : ok = false := by
      cases ok
      · rfl
      · have := hle rfl; omega
    subst hok
    have e0 : n - p = 0 := by omega
    have hr0 := hr
    rw [e0] at hr0
    have hcall : ∀ m A c, Calls Tryd.prog 100 #[.slice A 0 c, .int .i64 3] (w.drewN m) fun e w' => e = .returned (.tuple #[.int .u64 x, .int .i64 (k : Nat), .bool false]) ∧ w' = w.drewN m := fun m A c => read_the (w.drewN m) A 0 c 3 _ (by omega) (by omega) (Or.inl rfl) hr0
    have HC := Hid.mk hcall
    have hcap : n = 0 ∨ n ≤ cap := by
      rcases hb with h | ⟨_, _, _, h, _⟩
      · exact Or.inl h
      · exact Or.inr h
    subst hpn
    clear hcall hr hr0 hb hbn hle e0
    cases a with
    | none =>
      have hn0 : p = 0 := by
        rcases HB.out with h | ⟨b, o, h, _⟩
        · exact h
        · cases h
      subst hn0
      go_enter Tryd.func91, Tryd.ntmps91
      go_wp2_with fail
      go_quiet ((go_at_call 100; refine Calls.quiet_of_same (HC.out _ _ _)))
      go_wp2_with fail
      exact ⟨rfl, Or.inr ⟨by rcases HR.out with ⟨h, _⟩ | ⟨_, h⟩; cases h; exact h, rfl, (by repeat (first | exact ⟨_, H.out⟩ | refine PdX.setP ?_ _ | refine PdX.drewN ?_ _))⟩, (by repeat (first | exact RTo.refl _ _ | apply RTo.set | apply RTo.drewN))⟩
    | some a0 =>
      obtain ⟨b, o, g⟩ := a0
      rcases hcap with rfl | hcap
      · go_enter Tryd.func91, Tryd.ntmps91
        go_wp2_with fail
        go_quiet ((go_at_call 100; refine Calls.quiet_of_same (HC.out _ _ _)))
        go_wp2_with fail
        exact ⟨rfl, Or.inr ⟨by rcases HR.out with ⟨h, _⟩ | ⟨_, h⟩; cases h; exact h, rfl, (by repeat (first | exact ⟨_, H.out⟩ | refine PdX.setP ?_ _ | refine PdX.drewN ?_ _))⟩, (by repeat (first | exact RTo.refl _ _ | apply RTo.set | apply RTo.drewN))⟩
      · by_cases hcp : cap = p
        · subst hcp
          go_enter Tryd.func91, Tryd.ntmps91
          go_wp2_with fail
          go_quiet ((go_at_call 100; refine Calls.quiet_of_same (HC.out _ _ _)))
          go_wp2_with fail
          exact ⟨rfl, Or.inr ⟨by rcases HR.out with ⟨h, _⟩ | ⟨_, h⟩; cases h; exact h, rfl, (by repeat (first | exact ⟨_, H.out⟩ | refine PdX.setP ?_ _ | refine PdX.drewN ?_ _))⟩, (by repeat (first | exact RTo.refl _ _ | apply RTo.set | apply RTo.drewN))⟩
        · go_enter Tryd.func91, Tryd.ntmps91
          go_wp2_with fail
          go_quiet ((go_at_call 100; refine Calls.quiet_of_same (HC.out _ _ _)))
          go_wp2_with fail
          exact ⟨rfl, Or.inr ⟨by rcases HR.out with ⟨h, _⟩ | ⟨_, h⟩; cases h; exact h, rfl, (by repeat (first | exact ⟨_, H.out⟩ | refine PdX.setP ?_ _ | refine PdX.drewN ?_ _))⟩, (by repeat (first | exact RTo.refl _ _ | apply RTo.set | apply RTo.drewN))⟩
  · obtain ⟨b, o, rfl, hcap, hmax, hbs, hcell⟩ := hb.resolve_left (by omega)
    have hcall : ∀ m, Calls Tryd.prog 100 #[.slice (some ⟨b, o + p, none⟩) (n - p) (cap - p), .int .i64 3] (w.drewN m) fun e w' => e = .returned (.tuple #[.int .u64 x, .int .i64 (k : Nat), .bool ok]) ∧ w' = w.drewN m := fun m => by
      have hb2 := hbn.from_ (p := p) (by omega)
      rw [if_neg (by omega)] at hb2
      exact read_the (w.drewN m) _ (n - p) (cap - p) 3 _ (by unfold maxLen; omega) (by omega) hb2 hr
    have HC := Hid.mk hcall
    have g1 : (p : Int) ≤ (n : Int) := by omega
    have g2 : ¬ (cap = p) := by omega
    clear hcall hr hb hbn hcell
    cases ok with
    | false =>
      clear hle
      go_enter Tryd.func91, Tryd.ntmps91
      go_wp2_with fail
      go_quiet ((go_at_call 100; refine Calls.quiet_of_same (HC.out _)))
      go_wp2_with fail
      exact ⟨rfl, Or.inr ⟨by rcases HR.out with ⟨h, _⟩ | ⟨_, h⟩; cases h; exact h, rfl, (by repeat (first | exact ⟨_, H.out⟩ | refine PdX.setP ?_ _ | refine PdX.drewN ?_ _))⟩, (by repeat (first | exact RTo.refl _ _ | apply RTo.set | apply RTo.drewN))⟩
    | true =>
      have hk := hle rfl
      have g3 : IntKind.i64.wrap ((p : Int) + (k : Int)) = ((p + k : Nat) : Int) := by unfold maxLen at hmax; rw [IntKind.wrap_i64]; omega
      have g4 : wrap64 x = x := by unfold wrap64; omega
      clear hle
      go_enter Tryd.func91, Tryd.ntmps91
      go_wp2_with fail
      go_quiet ((go_at_call 100; refine Calls.quiet_of_same (HC.out _)))
      go_wp2_with fail
      go_ret
      rcases HR.out with ⟨_, v, h1, h2⟩ | ⟨h, _⟩
      · refine ⟨Or.inl ⟨v, p + k, h1, ri (by omega), (by refine PdX.at' ?_ (by omega); repeat (first | exact ⟨_, H.out⟩ | refine PdX.setP ?_ _ | refine PdX.drewN ?_ _))⟩, (by repeat (first | exact RTo.refl _ _ | apply RTo.set | apply RTo.drewN))⟩
      · cases h
end
section
open Go.RowKit

/-- A reader: at place p, the last number that was asked for began at s; or what was asked for at s was none. -/
inductive RS where
  | good (p s : Nat)
  | bad (s : Nat)

/-- The reader behind the next number; and the number. -/
def nxS (n : Nat) (f : Nat → Nat) : RS → RS
  | .good p _ => match numAt n f p with
    | some (_, q) => .good q p
    | none => .bad p
  | .bad s => .bad s
def nxV (n : Nat) (f : Nat → Nat) : RS → Nat
  | .good p _ => match numAt n f p with
    | some (v, _) => v
    | none => 0
  | .bad _ => 0
theorem nxS_some {n : Nat} {f : Nat → Nat} {p s v q : Nat} (h : numAt n f p = some (v, q)) : nxS n f (.good p s) = .good q p := by simp [nxS, h]
theorem nxV_some {n : Nat} {f : Nat → Nat} {p s v q : Nat} (h : numAt n f p = some (v, q)) : nxV n f (.good p s) = v := by simp [nxV, h]
theorem nxS_none {n : Nat} {f : Nat → Nat} {p s : Nat} (h : numAt n f p = none) : nxS n f (.good p s) = .bad p := by simp [nxS, h]
theorem nxV_le (n : Nat) (f : Nat → Nat) (r : RS) : nxV n f r ≤ 2097151 := by
  cases r with
  | bad s => simp [nxV]
  | good p s =>
    cases h : numAt n f p with
    | none => simp [nxV, h]
    | some x =>
      obtain ⟨v, q⟩ := x
      rw [nxV_some h]
      exact (numAt_lt h).2.2

/-- The reader behind k more numbers. -/
def nxN (n : Nat) (f : Nat → Nat) : Nat → RS → RS
  | 0, r => r
  | k + 1, r => nxS n f (nxN n f k r)
theorem nxN_bad (n : Nat) (f : Nat → Nat) (k s : Nat) : nxN n f k (.bad s) = .bad s := by
  induction k with
  | zero => rfl
  | succ k ih => simp only [nxN, ih, nxS]
theorem nxN_add (n : Nat) (f : Nat → Nat) (j k : Nat) (r : RS) : nxN n f (j + k) r = nxN n f k (nxN n f j r) := by
  induction k with
  | zero => rfl
  | succ k ih => rw [← Nat.add_assoc]; simp only [nxN, ih]
/-- What fails on the way fails at the end. -/
theorem nxN_stuck {n : Nat} {f : Nat → Nat} {j m : Nat} {r : RS} {s : Nat} (h : nxN n f j r = .bad s) (hjm : j ≤ m) : nxN n f m r = .bad s := by
  obtain ⟨k, rfl⟩ : ∃ k, m = j + k := ⟨m - j, by omega⟩
  rw [nxN_add, h, nxN_bad]

/-- The reader behind a node: seven numbers, and so many as the seventh tells. -/
def ndS (n : Nat) (f : Nat → Nat) (r : RS) : RS := nxN n f (7 + nxV n f (nxN n f 6 r)) r
/-- The reader behind k nodes. -/
def ndN (n : Nat) (f : Nat → Nat) : Nat → RS → RS
  | 0, r => r
  | k + 1, r => ndS n f (ndN n f k r)
theorem ndS_bad (n : Nat) (f : Nat → Nat) (s : Nat) : ndS n f (.bad s) = .bad s := nxN_bad _ _ _ _
theorem ndN_bad (n : Nat) (f : Nat → Nat) (k s : Nat) : ndN n f k (.bad s) = .bad s := by
  induction k with
  | zero => rfl
  | succ k ih => simp only [ndN, ih, ndS_bad]
theorem ndN_add (n : Nat) (f : Nat → Nat) (j k : Nat) (r : RS) : ndN n f (j + k) r = ndN n f k (ndN n f j r) := by
  induction k with
  | zero => rfl
  | succ k ih => rw [← Nat.add_assoc]; simp only [ndN, ih]
theorem ndN_stuck {n : Nat} {f : Nat → Nat} {j m : Nat} {r : RS} {s : Nat} (h : ndN n f j r = .bad s) (hjm : j ≤ m) : ndN n f m r = .bad s := by
  obtain ⟨k, rfl⟩ : ∃ k, m = j + k := ⟨m - j, by omega⟩
  rw [ndN_add, h, ndN_bad]

/-- The reader ahead of the first node, and ahead of node i. -/
def st0 (n : Nat) (f : Nat → Nat) : RS := nxN n f 2 (.good 0 0)
def st (n : Nat) (f : Nat → Nat) (i : Nat) : RS := ndN n f i (st0 n f)
/-- The flow that n bytes f are, if they are one. -/
def flowOf (n : Nat) (f : Nat → Nat) : FlowD where
  dl := nxV n f (.good 0 0)
  n := nxV n f (nxN n f 1 (.good 0 0))
  bu i := nxV n f (st n f i)
  cl i := nxV n f (nxN n f 1 (st n f i))
  be i := nxV n f (nxN n f 2 (st n f i))
  ba i := nxV n f (nxN n f 3 (st n f i))
  ca i := nxV n f (nxN n f 4 (st n f i))
  ji i := nxV n f (nxN n f 5 (st n f i))
  an i := nxV n f (nxN n f 6 (st n f i))
  af i k := nxV n f (nxN n f (7 + k) (st n f i))
/-- The reader at the end. -/
def stE (n : Nat) (f : Nat → Nat) : RS := st n f (flowOf n f).n

/-- No flow at all. -/
def noFlow : FlowD := ⟨0, 0, fun _ => 0, fun _ => 0, fun _ => 0, fun _ => 0, fun _ => 0, fun _ => 0, fun _ => 0, fun _ _ => 0⟩
/-- The document's answer to n bytes f: what is wrong (0: nothing), where; and the flow. -/
def DecIs (n : Nat) (f : Nat → Nat) (x y : Int) (G : FlowD) : Prop :=
  (∃ s, stE n f = .bad s ∧ x = 1 ∧ y = s ∧ G = noFlow) ∨
  (∃ p s, stE n f = .good p s ∧ p < n ∧ x = 1 ∧ y = p ∧ G = noFlow) ∨
  (∃ p s, stE n f = .good p s ∧ n ≤ p ∧ ChkIs (flowOf n f) x y ∧ (x = 0 → G = flowOf n f) ∧ (x ≠ 0 → G = noFlow))
theorem DecIs.one {n : Nat} {f : Nat → Nat} {x y x' y' : Int} {G G' : FlowD} (h : DecIs n f x y G) (h' : DecIs n f x' y' G') : x = x' ∧ y = y' ∧ G = G' := by
  rcases h with ⟨s, hs, rfl, rfl, rfl⟩ | ⟨p, s, hs, hp, rfl, rfl, rfl⟩ | ⟨p, s, hs, hp, hc, h0, h1⟩
  · rcases h' with ⟨s', hs', rfl, rfl, rfl⟩ | ⟨p', s', hs', hp', rfl, rfl, rfl⟩ | ⟨p', s', hs', hp', hc', h0', h1'⟩
    · rw [hs] at hs'; cases hs'; exact ⟨rfl, rfl, rfl⟩
    · rw [hs] at hs'; cases hs'
    · rw [hs] at hs'; cases hs'
  · rcases h' with ⟨s', hs', rfl, rfl, rfl⟩ | ⟨p', s', hs', hp', rfl, rfl, rfl⟩ | ⟨p', s', hs', hp', hc', h0', h1'⟩
    · rw [hs] at hs'; cases hs'
    · rw [hs] at hs'; cases hs'; exact ⟨rfl, rfl, rfl⟩
    · rw [hs] at hs'; cases hs'; omega
  · rcases h' with ⟨s', hs', rfl, rfl, rfl⟩ | ⟨p', s', hs', hp', rfl, rfl, rfl⟩ | ⟨p', s', hs', hp', hc', h0', h1'⟩
    · rw [hs] at hs'; cases hs'
    · rw [hs] at hs'; cases hs'; omega
    · obtain ⟨rfl, rfl⟩ := hc.one hc'
      refine ⟨rfl, rfl, ?_⟩
      by_cases hx : x = 0
      · rw [h0 hx, h0' hx]
      · rw [h1 hx, h1' hx]

/-- The document's reader in block R, and what it began last in block S. -/
def StAt (w : World) (R S : Nat) (a : Option Addr) (n cap : Nat) : RS → Prop
  | .good p s => RdAt w R a n cap (p : Nat) false ∧ w.cell? ⟨S, 0, none⟩ = some (.int .i64 (s : Nat)) ∧ w.frozen? ⟨S, 0, none⟩ = false
  | .bad s => (∃ q, RdAt w R a n cap q true) ∧ w.cell? ⟨S, 0, none⟩ = some (.int .i64 (s : Nat)) ∧ w.frozen? ⟨S, 0, none⟩ = false

/-- Nothing but blocks R and S has turned, and nothing is new. -/
structure RTo2 (w w' : World) (R S : Nat) : Prop where
  os : w'.os = w.os
  tape : w'.tape = w.tape
  output : w'.output = w.output
  size : w'.heap.size = w.heap.size
  block : ∀ k, k ≠ R → k ≠ S → w'.heap[k]? = w.heap[k]?
theorem RTo2.refl (w : World) (R S : Nat) : RTo2 w w R S := ⟨rfl, rfl, rfl, rfl, fun _ _ _ => rfl⟩
theorem RTo2.trans {a b c : World} {R S : Nat} (h : RTo2 a b R S) (h2 : RTo2 b c R S) : RTo2 a c R S :=
  ⟨h2.os.trans h.os, h2.tape.trans h.tape, h2.output.trans h.output, h2.size.trans h.size, fun k hk hs => (h2.block k hk hs).trans (h.block k hk hs)⟩
theorem RTo.two {w w' : World} {R : Nat} (h : RTo w w' R) (S : Nat) : RTo2 w w' R S := ⟨h.os, h.tape, h.output, h.size, fun k hk _ => h.block k hk⟩
theorem RTo2.of_setS (w : World) (R S o : Nat) (v : Value) : RTo2 w (w.setCell ⟨S, o, none⟩ v) R S :=
  ⟨rfl, rfl, rfl, by simp [World.setCell], fun k _ hs => Below.heap_setCell w ⟨S, o, none⟩ v k hs⟩
end
end Go.Proofs.YtgdcjccbdmcebaaDoor
