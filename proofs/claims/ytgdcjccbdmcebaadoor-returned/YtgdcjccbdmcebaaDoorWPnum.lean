/- The program's reader: one number, or a panic that tells where it began. -/
import Derived.Test.YtgdcjccbdmcebaaDoorWDecM
namespace Go.Proofs.YtgdcjccbdmcebaaDoor
open Go.RowKit
set_option maxRecDepth 100000

/-- The program's reader in block R: n bytes behind a; the place. -/
structure PdAt (w : World) (R : Nat) (a : Option Addr) (n cap : Nat) (p : Int) : Prop where
  c0 : w.cell? ⟨R, 0, none⟩ = some (.slice a n cap)
  c1 : w.cell? ⟨R, 1, none⟩ = some (.int .i64 p)
  f1 : w.frozen? ⟨R, 1, none⟩ = false
def PdX (w : World) (R : Nat) (a : Option Addr) (n cap : Nat) : Prop := ∃ p, PdAt w R a n cap p
theorem PdX.drewN {w : World} {R : Nat} {a : Option Addr} {n cap : Nat} (h : PdX w R a n cap) (k : Nat) : PdX (w.drewN k) R a n cap := by obtain ⟨p, hp⟩ := h; exact ⟨p, hp.c0, hp.c1, hp.f1⟩
theorem PdX.at' {w : World} {R : Nat} {a : Option Addr} {n cap : Nat} (h : PdX w R a n cap) {v v' : Int} (hv : v = v') : PdAt (w.setCell ⟨R, 1, none⟩ (.int .i64 v)) R a n cap v' := by
  obtain ⟨p, hp⟩ := h
  subst hv
  refine ⟨?_, World.cell?_setCell_same _ _ _ hp.c1, by rw [World.frozen?_setCell]; exact hp.f1⟩
  rw [World.cell?_setCell_other _ _ _ _ (by simp)]; exact hp.c0
theorem PdX.setP {w : World} {R : Nat} {a : Option Addr} {n cap : Nat} (h : PdX w R a n cap) (v : Int) : PdX (w.setCell ⟨R, 1, none⟩ (.int .i64 v)) R a n cap := ⟨v, h.at' rfl⟩

/-- What the reader's number comes to. -/
def PnumIs (w' : World) (R : Nat) (a : Option Addr) (n cap : Nat) (f : Nat → Nat) (p : Nat) (e : Ending) : Prop :=
  (∃ v q, numAt n f p = some (v, q) ∧ e = .returned (.int .i64 (v : Nat)) ∧ PdAt w' R a n cap (q : Nat)) ∨
  (numAt n f p = none ∧ e = .panicked [{ v := .iface 171 (.int .i64 (p : Nat)), recovered := false }] ∧ PdX w' R a n cap)

theorem bl_small {x : Nat} (h : x < 128) : bl x ≤ 7 := (bl_le x 7).2 h
/-- What Read answers is what the number is. -/
theorem read_numAt {n p k : Nat} {f : Nat → Nat} {x : Int} {ok : Bool} (h : ReadIs (fun j => f (p + j)) (min (n - p) 3) x k ok) : (ok = true ∧ ∃ v, numAt n f p = some (v, p + k) ∧ x = (v : Int)) ∨ (ok = false ∧ numAt n f p = none) := by
  rcases h with ⟨i, hi, ⟨e1, e2, e3, _⟩, rfl, rfl, rfl⟩ | ⟨hno, rfl, rfl, rfl⟩
  · refine Or.inl ⟨rfl, valN (fun j => f (p + j)) (i + 1), ?_, rfl⟩
    match i, hi with
    | 0, hi =>
      simp only [Nat.add_zero] at e2
      unfold numAt
      rw [if_neg (by omega), if_pos e2]
      simp only [valN, Nat.zero_add, Nat.add_zero, Nat.mul_zero, Nat.pow_zero, Nat.mul_one]
      rw [Nat.mod_eq_of_lt e2]
    | 1, hi =>
      have h0 := e1 0 (by omega)
      simp only [Nat.add_zero] at h0
      have h3 : f (p + 1) ≠ 0 := by
        rcases e3 with h | h
        · omega
        · exact Nat.ne_of_gt h
      unfold numAt
      rw [if_neg (by omega), if_neg (by omega), if_neg (by omega), if_pos e2, if_neg h3]
      simp only [valN, Nat.zero_add, Nat.add_zero, Nat.mul_zero, Nat.pow_zero, Nat.mul_one]
      rw [Nat.mod_eq_of_lt e2]
    | 2, hi =>
      have h0 := e1 0 (by omega)
      have h1 := e1 1 (by omega)
      simp only [Nat.add_zero] at h0
      have h3 : f (p + 2) ≠ 0 := by
        rcases e3 with h | h
        · omega
        · exact Nat.ne_of_gt h
      unfold numAt
      simp only [] at h1
      rw [if_neg (by omega), if_neg (by omega), if_neg (by omega), if_neg (by omega), if_neg (by omega), if_pos e2, if_neg h3]
      simp only [valN, Nat.zero_add, Nat.add_zero, Nat.mul_zero, Nat.pow_zero, Nat.mul_one]
      rw [Nat.mod_eq_of_lt e2]
    | i + 3, hi => omega
  · refine Or.inr ⟨rfl, ?_⟩
    rcases numAt_ways n f p with ⟨h0, hv⟩ | ⟨h0, h1, hv⟩ | ⟨h0, h1, h2, hv⟩ | ⟨h0, h1, h2, hv⟩ | ⟨h0, h1, h2, h3, hv⟩ | ⟨h0, h1, h2, h3, hv⟩ | ⟨h0, h1, h2, h3, hv⟩ | ⟨h0, h1, h2, h3, h4, hv⟩ | ⟨h0, h1, h2, h3, hv⟩
    · exact hv
    · exact absurd ⟨fun j hj => by omega, h1, Or.inl rfl, by have := bl_small h1; show 7 * 0 + bl (f (p + 0)) ≤ 64; rw [Nat.add_zero]; omega⟩ (hno 0 (by omega))
    · exact hv
    · exact hv
    · exact absurd ⟨fun j hj => by
        obtain rfl : j = 0 := by omega
        exact h1, h3, Or.inr h2, by have := bl_small h3; show 7 * 1 + bl (f (p + 1)) ≤ 64; omega⟩ (hno 1 (by omega))
    · exact hv
    · exact hv
    · exact absurd ⟨fun j hj => by
        rcases (by omega : j = 0 ∨ j = 1) with rfl | rfl
        · exact h1
        · exact h2, h4, Or.inr h3, by have := bl_small h4; show 7 * 2 + bl (f (p + 2)) ≤ 64; omega⟩ (hno 2 (by omega))
    · exact hv
theorem BytesAt.from_ {w : World} {b o n cap p : Nat} {f : Nat → Nat} (h : BytesAt w (some ⟨b, o, none⟩) n cap f) (hp : p ≤ n) : BytesAt w (some (if cap = p then ⟨b, o, none⟩ else ⟨b, o + p, none⟩)) (n - p) (cap - p) (fun j => f (p + j)) := by
  rcases h with h | ⟨b', o', he, h1, h2, h3, h4⟩
  · exact Or.inl (by omega)
  · obtain ⟨rfl, rfl⟩ : b = b' ∧ o = o' := by simpa using he
    by_cases e : n = p
    · exact Or.inl (by omega)
    · rw [if_neg (by omega)]
      exact Or.inr ⟨b, o + p, rfl, by omega, by omega, h3, fun k hk => by rw [Nat.add_assoc]; exact h4 (p + k) (by omega)⟩

set_option maxHeartbeats 8000000 in
theorem pnum_any (w : World) (R : Nat) (a : Option Addr) (n cap : Nat) (f : Nat → Nat) (p : Nat) (hn : n ≤ maxLen) (hp : p ≤ n) (h : PdAt w R a n cap p) (hR : ∀ b o, a = some ⟨b, o, none⟩ → b ≠ R) (hb : BytesAt w a n cap f) :
    Calls Tryd.prog 91 #[.pointer (some ⟨R, 0, none⟩)] w fun e w' => PnumIs w' R a n cap f p e ∧ RTo w w' R := by
  have hbn := hb
  have HB := Hid.mk hb
  unfold maxLen at hn
  have H := Hid.mk h
  obtain ⟨c0, c1, f1⟩ := h
  obtain ⟨x, k, ok, hr⟩ := ReadIs.ex (fun j => f (p + j)) (min (n - p) 3)
  have HR := Hid.mk (read_numAt hr)
  have hle : ok = true → (p + k ≤ n ∧ 0 < k) ∧ (0 ≤ x ∧ x ≤ 2097151) := by
    intro e
    rcases HR.out with ⟨_, v, h1, h2⟩ | ⟨h1, _⟩
    · have := numAt_lt h1; omega
    · rw [h1] at e; cases e
  by_cases hpn : p = n
  · have hok : ok = false := by
      cases ok
      · rfl
      · have := hle rfl; omega
    subst hok
    have e0 : n - p = 0 := by omega
    have hr0 := hr
    rw [e0] at hr0
    have hcall : ∀ m A c, Calls Tryd.prog 100 #[.slice A 0 c, .int .i64 3] (w.drewN m) fun e w' => e = .returned (.tuple #[.int .u64 x, .int .i64 (k : Nat), .bool false]) ∧ w' = w.drewN m := fun m A c => read_the (w.drewN m) A 0 c 3 _ (by omega) (by omega) (Or.inl rfl) hr0
    have HC := Hid.mk hcall
    have hcap : n = 0 ∨ n ≤ cap := by
      rcases hb with h | ⟨_, _, _, h, _⟩
      · exact Or.inl h
      · exact Or.inr h
    subst hpn
    clear hcall hr hr0 hb hbn hle e0
    cases a with
    | none =>
      have hn0 : p = 0 := by
        rcases HB.out with h | ⟨b, o, h, _⟩
        · exact h
        · cases h
      subst hn0
      go_enter Tryd.func91, Tryd.ntmps91
      go_wp2_with fail
      go_quiet ((go_at_call 100; refine Calls.quiet_of_same (HC.out _ _ _)))
      go_wp2_with fail
      exact ⟨rfl, Or.inr ⟨by rcases HR.out with ⟨h, _⟩ | ⟨_, h⟩; cases h; exact h, rfl, (by repeat (first | exact ⟨_, H.out⟩ | refine PdX.setP ?_ _ | refine PdX.drewN ?_ _))⟩, (by repeat (first | exact RTo.refl _ _ | apply RTo.set | apply RTo.drewN))⟩
    | some a0 =>
      obtain ⟨b, o, g⟩ := a0
      rcases hcap with rfl | hcap
      · go_enter Tryd.func91, Tryd.ntmps91
        go_wp2_with fail
        go_quiet ((go_at_call 100; refine Calls.quiet_of_same (HC.out _ _ _)))
        go_wp2_with fail
        exact ⟨rfl, Or.inr ⟨by rcases HR.out with ⟨h, _⟩ | ⟨_, h⟩; cases h; exact h, rfl, (by repeat (first | exact ⟨_, H.out⟩ | refine PdX.setP ?_ _ | refine PdX.drewN ?_ _))⟩, (by repeat (first | exact RTo.refl _ _ | apply RTo.set | apply RTo.drewN))⟩
      · by_cases hcp : cap = p
        · subst hcp
          go_enter Tryd.func91, Tryd.ntmps91
          go_wp2_with fail
          go_quiet ((go_at_call 100; refine Calls.quiet_of_same (HC.out _ _ _)))
          go_wp2_with fail
          exact ⟨rfl, Or.inr ⟨by rcases HR.out with ⟨h, _⟩ | ⟨_, h⟩; cases h; exact h, rfl, (by repeat (first | exact ⟨_, H.out⟩ | refine PdX.setP ?_ _ | refine PdX.drewN ?_ _))⟩, (by repeat (first | exact RTo.refl _ _ | apply RTo.set | apply RTo.drewN))⟩
        · go_enter Tryd.func91, Tryd.ntmps91
          go_wp2_with fail
          go_quiet ((go_at_call 100; refine Calls.quiet_of_same (HC.out _ _ _)))
          go_wp2_with fail
          exact ⟨rfl, Or.inr ⟨by rcases HR.out with ⟨h, _⟩ | ⟨_, h⟩; cases h; exact h, rfl, (by repeat (first | exact ⟨_, H.out⟩ | refine PdX.setP ?_ _ | refine PdX.drewN ?_ _))⟩, (by repeat (first | exact RTo.refl _ _ | apply RTo.set | apply RTo.drewN))⟩
  · obtain ⟨b, o, rfl, hcap, hmax, hbs, hcell⟩ := hb.resolve_left (by omega)
    have hcall : ∀ m, Calls Tryd.prog 100 #[.slice (some ⟨b, o + p, none⟩) (n - p) (cap - p), .int .i64 3] (w.drewN m) fun e w' => e = .returned (.tuple #[.int .u64 x, .int .i64 (k : Nat), .bool ok]) ∧ w' = w.drewN m := fun m => by
      have hb2 := hbn.from_ (p := p) (by omega)
      rw [if_neg (by omega)] at hb2
      exact read_the (w.drewN m) _ (n - p) (cap - p) 3 _ (by unfold maxLen; omega) (by omega) hb2 hr
    have HC := Hid.mk hcall
    have g1 : (p : Int) ≤ (n : Int) := by omega
    have g2 : ¬ (cap = p) := by omega
    clear hcall hr hb hbn hcell
    cases ok with
    | false =>
      clear hle
      go_enter Tryd.func91, Tryd.ntmps91
      go_wp2_with fail
      go_quiet ((go_at_call 100; refine Calls.quiet_of_same (HC.out _)))
      go_wp2_with fail
      exact ⟨rfl, Or.inr ⟨by rcases HR.out with ⟨h, _⟩ | ⟨_, h⟩; cases h; exact h, rfl, (by repeat (first | exact ⟨_, H.out⟩ | refine PdX.setP ?_ _ | refine PdX.drewN ?_ _))⟩, (by repeat (first | exact RTo.refl _ _ | apply RTo.set | apply RTo.drewN))⟩
    | true =>
      have hk := hle rfl
      have g3 : IntKind.i64.wrap ((p : Int) + (k : Int)) = ((p + k : Nat) : Int) := by unfold maxLen at hmax; rw [IntKind.wrap_i64]; omega
      have g4 : wrap64 x = x := by unfold wrap64; omega
      clear hle
      go_enter Tryd.func91, Tryd.ntmps91
      go_wp2_with fail
      go_quiet ((go_at_call 100; refine Calls.quiet_of_same (HC.out _)))
      go_wp2_with fail
      go_ret
      rcases HR.out with ⟨_, v, h1, h2⟩ | ⟨h, _⟩
      · refine ⟨Or.inl ⟨v, p + k, h1, ri (by omega), (by refine PdX.at' ?_ (by omega); repeat (first | exact ⟨_, H.out⟩ | refine PdX.setP ?_ _ | refine PdX.drewN ?_ _))⟩, (by repeat (first | exact RTo.refl _ _ | apply RTo.set | apply RTo.drewN))⟩
      · cases h
end Go.Proofs.YtgdcjccbdmcebaaDoor
