/- The program's reader: one number, or a panic that tells where it began. -/
import Derived.Test.YteeeagjejldgnaaDoorWDecM
namespace Go.Proofs.YteeeagjejldgnaaDoor
open Go.RowKit
set_option maxRecDepth 100000

/-- The program's reader in block R: n bytes behind a; the place. -/
structure PdAt (w : World) (R : Nat) (a : Option Addr) (n cap : Nat) (p : Int) : Prop where
  c0 : w.cell? ⟨R, 0, none⟩ = some (.slice a n cap)
  c1 : w.cell? ⟨R, 1, none⟩ = some (.int .i64 p)
  f1 : w.frozen? ⟨R, 1, none⟩ = false
def PdX (w : World) (R : Nat) (a : Option Addr) (n cap : Nat) : Prop := ∃ p, PdAt w R a n cap p
theorem PdX.drewN {w : World} {R : Nat} {a : Option Addr} {n cap : Nat} (h : PdX w R a n cap) (k : Nat) : PdX (w.drewN k) R a n cap := by obtain ⟨p, hp⟩ := h; exact ⟨p, hp.c0, hp.c1, hp.f1⟩
theorem PdX.at' {w : World} {R : Nat} {a : Option Addr} {n cap : Nat} (h : PdX w R a n cap) {v v' : Int} (hv : v = v') : PdAt (w.setCell ⟨R, 1, none⟩ (.int .i64 v)) R a n cap v' := by
  obtain ⟨p, hp⟩ := h
  subst hv
  refine ⟨?_, World.cell?_setCell_same _ _ _ hp.c1, by rw [World.frozen?_setCell]; exact hp.f1⟩
  rw [World.cell?_setCell_other _ _ _ _ (by simp)]; exact hp.c0
theorem PdX.setP {w : World} {R : Nat} {a : Option Addr} {n cap : Nat} (h : PdX w R a n cap) (v : Int) : PdX (w.setCell ⟨R, 1, none⟩ (.int .i64 v)) R a n cap := ⟨v, h.at' rfl⟩

set_option maxRecDepth 1000000 in
theorem and127' : ∀ x : Fin 256, bits .and .u8 (x.val : Int) 127 = (x.val : Int) % 128 := by decide
theorem and127 (y : Nat) (h : y < 256) : bits .and .u8 (y : Int) 127 = (y : Int) % 128 := and127' ⟨y, h⟩

theorem wraps_i64' (n : Int) (h₀ : 0 ≤ n) (h₁ : n < 2 ^ 62) : IntKind.i64.wrap n = n := by rw [IntKind.wrap_i64]; omega
theorem or_join (i : Nat) (y x : Int) (hx0 : 0 ≤ x) (hx : x % 2 ^ i = 0) (hx1 : x < 2 ^ 62) (hy0 : 0 ≤ y) (hy : y < 2 ^ i) (hy1 : y < 2 ^ 62) : bits .or .i64 y x = y + x := by
  have h := bits_join .i64 62 (by decide) wraps_i64' i x y hx0 hx hx1 hy0 hy hy1
  rw [Int.add_comm, ← h]
  obtain ⟨a, rfl⟩ := Int.eq_ofNat_of_zero_le hx0
  obtain ⟨b, rfl⟩ := Int.eq_ofNat_of_zero_le hy0
  have ha : a < 2 ^ 62 := by exact_mod_cast hx1
  have hb : b < 2 ^ 62 := by exact_mod_cast hy1
  have h1 := (bits_nat .i64 62 (by decide) wraps_i64' a b ha hb).2
  have h2 := (bits_nat .i64 62 (by decide) wraps_i64' b a hb ha).2
  rw [Nat.or_comm] at h2
  exact h2.trans h1.symm
theorem or_1 (x : Nat) : bits .or .i64 0 ((x : Int) % 128) = (x : Int) % 128 := by
  have := or_join 0 0 ((x : Int) % 128) (by omega) (by omega) (by omega) (by omega) (by omega) (by omega)
  omega
theorem or_2 (x y : Nat) : bits .or .i64 ((x : Int) % 128) ((y : Int) % 128 * 128) = (x : Int) % 128 + (y : Int) % 128 * 128 :=
  or_join 7 _ _ (by omega) (by omega) (by omega) (by omega) (by omega) (by omega)
theorem or_3 (x y z : Nat) : bits .or .i64 ((x : Int) % 128 + (y : Int) % 128 * 128) ((z : Int) % 128 * 16384) = (x : Int) % 128 + (y : Int) % 128 * 128 + (z : Int) % 128 * 16384 :=
  or_join 14 _ _ (by omega) (by omega) (by omega) (by omega) (by omega) (by omega)
theorem or_00 : bits .or .i64 0 0 = 0 := by decide

/-- What the reader's number comes to. -/
def PnumIs (w' : World) (R : Nat) (a : Option Addr) (n cap : Nat) (f : Nat → Nat) (p : Nat) (e : Ending) : Prop :=
  (∃ v q, numAt n f p = some (v, q) ∧ e = .returned (.int .i64 (v : Nat)) ∧ PdAt w' R a n cap (q : Nat)) ∨
  (numAt n f p = none ∧ e = .panicked [{ v := .iface 171 (.int .i64 (p : Nat)), recovered := false }] ∧ PdX w' R a n cap)

set_option maxHeartbeats 8000000 in
theorem pnum_any (w : World) (R : Nat) (a : Option Addr) (n cap : Nat) (f : Nat → Nat) (p : Nat) (hn : n ≤ maxLen) (hp : p ≤ n) (h : PdAt w R a n cap p) (hR : ∀ b o, a = some ⟨b, o, none⟩ → b ≠ R) (hb : BytesAt w a n cap f) :
    Calls Tryd.prog 91 #[.pointer (some ⟨R, 0, none⟩)] w fun e w' => PnumIs w' R a n cap f p e ∧ RTo w w' R := by
  unfold maxLen at hn
  have H := Hid.mk h
  obtain ⟨c0, c1, f1⟩ := h
  rcases numAt_ways n f p with ⟨h0, hv⟩ | ⟨h0, h1, hv⟩ | ⟨h0, h1, h2, hv⟩ | ⟨h0, h1, h2, hv⟩ | ⟨h0, h1, h2, h3, hv⟩ | ⟨h0, h1, h2, h3, hv⟩ | ⟨h0, h1, h2, h3, hv⟩ | ⟨h0, h1, h2, h3, h4, hv⟩ | ⟨h0, h1, h2, h3, hv⟩
  · -- z
    obtain rfl : n = p := by omega
    have HV := Hid.mk hv
    clear hv
    go_enter Tryd.func91, Tryd.ntmps91
    go_wp2_with fail
    refine wp_loop_rounds 4 ?_
    rw [rounds_succ]
    go_wp2_with fail
    go_quiet (fail)
    go_wp2_with fail
    all_goals (exact ⟨rfl, Or.inr ⟨HV.out, rfl, (by repeat (first | exact ⟨_, H.out⟩ | refine PdX.setP ?_ _ | refine PdX.drewN ?_ _))⟩, (by repeat (first | exact RTo.refl _ _ | apply RTo.set | apply RTo.drewN))⟩)
  · -- b1
    obtain ⟨b, oo, rfl, hcap, hmax, hbs, hcell⟩ := hb.resolve_left (by omega)
    have hRb := hR b oo rfl
    obtain ⟨y0, z0⟩ := hcell p (by omega)
    have e0 := and127 (f p) z0
    clear hcell
    have HV := Hid.mk hv
    clear hv
    go_enter Tryd.func91, Tryd.ntmps91
    go_wp2_with fail
    refine wp_loop_rounds 4 ?_
    rw [rounds_succ]
    go_wp2_with fail
    go_quiet (fail)
    go_wp2_with fail
    go_quiet (fail)
    go_wp2_with fail
    all_goals (go_ret; refine ⟨Or.inl ⟨_, _, HV.out, ri (by first | (rw [or_1]; omega) | (rw [or_00]; omega)), (by refine PdX.at' ?_ (by omega); repeat (first | exact ⟨_, H.out⟩ | refine PdX.setP ?_ _ | refine PdX.drewN ?_ _))⟩, (by repeat (first | exact RTo.refl _ _ | apply RTo.set | apply RTo.drewN))⟩)
  · -- s2
    obtain rfl : n = p + 1 := by omega
    obtain ⟨b, oo, rfl, hcap, hmax, hbs, hcell⟩ := hb.resolve_left (by omega)
    have hRb := hR b oo rfl
    obtain ⟨y0, z0⟩ := hcell p (by omega)
    have e0 := and127 (f p) z0
    clear hcell
    have HV := Hid.mk hv
    clear hv
    go_enter Tryd.func91, Tryd.ntmps91
    go_wp2_with fail
    refine wp_loop_rounds 4 ?_
    rw [rounds_succ]
    go_wp2_with fail
    go_quiet (fail)
    go_wp2_with fail
    go_quiet (fail)
    go_wp2_with fail
    rw [rounds_succ]
    go_wp2_with fail
    go_quiet (fail)
    go_wp2_with fail
    all_goals (exact ⟨rfl, Or.inr ⟨HV.out, rfl, (by repeat (first | exact ⟨_, H.out⟩ | refine PdX.setP ?_ _ | refine PdX.drewN ?_ _))⟩, (by repeat (first | exact RTo.refl _ _ | apply RTo.set | apply RTo.drewN))⟩)
  · -- z2
    obtain ⟨b, oo, rfl, hcap, hmax, hbs, hcell⟩ := hb.resolve_left (by omega)
    have hRb := hR b oo rfl
    obtain ⟨y0, z0⟩ := hcell p (by omega)
    obtain ⟨y1, z1⟩ := hcell (p + 1) (by omega)
    have e0 := and127 (f p) z0
    have e1 : bits .and .u8 0 127 = 0 := by decide
    clear e1
    rw [h2] at y1
    clear hcell
    have HV := Hid.mk hv
    clear hv
    go_enter Tryd.func91, Tryd.ntmps91
    go_wp2_with fail
    refine wp_loop_rounds 4 ?_
    rw [rounds_succ]
    go_wp2_with fail
    go_quiet (fail)
    go_wp2_with fail
    go_quiet (fail)
    go_wp2_with fail
    rw [rounds_succ]
    go_wp2_with fail
    go_quiet (fail)
    go_wp2_with fail
    go_quiet (fail)
    go_wp2_with fail
    all_goals (exact ⟨rfl, Or.inr ⟨HV.out, rfl, (by repeat (first | exact ⟨_, H.out⟩ | refine PdX.setP ?_ _ | refine PdX.drewN ?_ _))⟩, (by repeat (first | exact RTo.refl _ _ | apply RTo.set | apply RTo.drewN))⟩)
  · -- b2
    obtain ⟨b, oo, rfl, hcap, hmax, hbs, hcell⟩ := hb.resolve_left (by omega)
    have hRb := hR b oo rfl
    obtain ⟨y0, z0⟩ := hcell p (by omega)
    obtain ⟨y1, z1⟩ := hcell (p + 1) (by omega)
    have e0 := and127 (f p) z0
    have e1 := and127 (f (p + 1)) z1
    clear hcell
    have HV := Hid.mk hv
    clear hv
    go_enter Tryd.func91, Tryd.ntmps91
    go_wp2_with fail
    refine wp_loop_rounds 4 ?_
    rw [rounds_succ]
    go_wp2_with fail
    go_quiet (fail)
    go_wp2_with fail
    go_quiet (fail)
    go_wp2_with fail
    rw [rounds_succ]
    go_wp2_with fail
    go_quiet (fail)
    go_wp2_with fail
    go_quiet (fail)
    go_wp2_with fail
    all_goals (go_ret; refine ⟨Or.inl ⟨_, _, HV.out, ri (by rw [or_1, or_2]; omega), (by refine PdX.at' ?_ (by omega); repeat (first | exact ⟨_, H.out⟩ | refine PdX.setP ?_ _ | refine PdX.drewN ?_ _))⟩, (by repeat (first | exact RTo.refl _ _ | apply RTo.set | apply RTo.drewN))⟩)
  · -- s3
    obtain rfl : n = p + 2 := by omega
    obtain ⟨b, oo, rfl, hcap, hmax, hbs, hcell⟩ := hb.resolve_left (by omega)
    have hRb := hR b oo rfl
    obtain ⟨y0, z0⟩ := hcell p (by omega)
    obtain ⟨y1, z1⟩ := hcell (p + 1) (by omega)
    have e0 := and127 (f p) z0
    have e1 := and127 (f (p + 1)) z1
    clear hcell
    have HV := Hid.mk hv
    clear hv
    go_enter Tryd.func91, Tryd.ntmps91
    go_wp2_with fail
    refine wp_loop_rounds 4 ?_
    rw [rounds_succ]
    go_wp2_with fail
    go_quiet (fail)
    go_wp2_with fail
    go_quiet (fail)
    go_wp2_with fail
    rw [rounds_succ]
    go_wp2_with fail
    go_quiet (fail)
    go_wp2_with fail
    go_quiet (fail)
    go_wp2_with fail
    rw [rounds_succ]
    go_wp2_with fail
    go_quiet (fail)
    go_wp2_with fail
    all_goals (exact ⟨rfl, Or.inr ⟨HV.out, rfl, (by repeat (first | exact ⟨_, H.out⟩ | refine PdX.setP ?_ _ | refine PdX.drewN ?_ _))⟩, (by repeat (first | exact RTo.refl _ _ | apply RTo.set | apply RTo.drewN))⟩)
  · -- z3
    obtain ⟨b, oo, rfl, hcap, hmax, hbs, hcell⟩ := hb.resolve_left (by omega)
    have hRb := hR b oo rfl
    obtain ⟨y0, z0⟩ := hcell p (by omega)
    obtain ⟨y1, z1⟩ := hcell (p + 1) (by omega)
    obtain ⟨y2, z2⟩ := hcell (p + 2) (by omega)
    have e0 := and127 (f p) z0
    have e1 := and127 (f (p + 1)) z1
    have e2 : bits .and .u8 0 127 = 0 := by decide
    clear e2
    rw [h3] at y2
    clear hcell
    have HV := Hid.mk hv
    clear hv
    go_enter Tryd.func91, Tryd.ntmps91
    go_wp2_with fail
    refine wp_loop_rounds 4 ?_
    rw [rounds_succ]
    go_wp2_with fail
    go_quiet (fail)
    go_wp2_with fail
    go_quiet (fail)
    go_wp2_with fail
    rw [rounds_succ]
    go_wp2_with fail
    go_quiet (fail)
    go_wp2_with fail
    go_quiet (fail)
    go_wp2_with fail
    rw [rounds_succ]
    go_wp2_with fail
    go_quiet (fail)
    go_wp2_with fail
    go_quiet (fail)
    go_wp2_with fail
    all_goals (exact ⟨rfl, Or.inr ⟨HV.out, rfl, (by repeat (first | exact ⟨_, H.out⟩ | refine PdX.setP ?_ _ | refine PdX.drewN ?_ _))⟩, (by repeat (first | exact RTo.refl _ _ | apply RTo.set | apply RTo.drewN))⟩)
  · -- b3
    obtain ⟨b, oo, rfl, hcap, hmax, hbs, hcell⟩ := hb.resolve_left (by omega)
    have hRb := hR b oo rfl
    obtain ⟨y0, z0⟩ := hcell p (by omega)
    obtain ⟨y1, z1⟩ := hcell (p + 1) (by omega)
    obtain ⟨y2, z2⟩ := hcell (p + 2) (by omega)
    have e0 := and127 (f p) z0
    have e1 := and127 (f (p + 1)) z1
    have e2 := and127 (f (p + 2)) z2
    clear hcell
    have HV := Hid.mk hv
    clear hv
    go_enter Tryd.func91, Tryd.ntmps91
    go_wp2_with fail
    refine wp_loop_rounds 4 ?_
    rw [rounds_succ]
    go_wp2_with fail
    go_quiet (fail)
    go_wp2_with fail
    go_quiet (fail)
    go_wp2_with fail
    rw [rounds_succ]
    go_wp2_with fail
    go_quiet (fail)
    go_wp2_with fail
    go_quiet (fail)
    go_wp2_with fail
    rw [rounds_succ]
    go_wp2_with fail
    go_quiet (fail)
    go_wp2_with fail
    go_quiet (fail)
    go_wp2_with fail
    all_goals (go_ret; refine ⟨Or.inl ⟨_, _, HV.out, ri (by rw [or_1, or_2, or_3]; omega), (by refine PdX.at' ?_ (by omega); repeat (first | exact ⟨_, H.out⟩ | refine PdX.setP ?_ _ | refine PdX.drewN ?_ _))⟩, (by repeat (first | exact RTo.refl _ _ | apply RTo.set | apply RTo.drewN))⟩)
  · -- m
    obtain ⟨b, oo, rfl, hcap, hmax, hbs, hcell⟩ := hb.resolve_left (by omega)
    have hRb := hR b oo rfl
    obtain ⟨y0, z0⟩ := hcell p (by omega)
    obtain ⟨y1, z1⟩ := hcell (p + 1) (by omega)
    obtain ⟨y2, z2⟩ := hcell (p + 2) (by omega)
    have e0 := and127 (f p) z0
    have e1 := and127 (f (p + 1)) z1
    have e2 := and127 (f (p + 2)) z2
    clear hcell
    have HV := Hid.mk hv
    clear hv
    go_enter Tryd.func91, Tryd.ntmps91
    go_wp2_with fail
    refine wp_loop_rounds 4 ?_
    rw [rounds_succ]
    go_wp2_with fail
    go_quiet (fail)
    go_wp2_with fail
    go_quiet (fail)
    go_wp2_with fail
    rw [rounds_succ]
    go_wp2_with fail
    go_quiet (fail)
    go_wp2_with fail
    go_quiet (fail)
    go_wp2_with fail
    rw [rounds_succ]
    go_wp2_with fail
    go_quiet (fail)
    go_wp2_with fail
    go_quiet (fail)
    go_wp2_with fail
    rw [rounds_succ]
    go_wp2_with fail
    all_goals (exact ⟨rfl, Or.inr ⟨HV.out, rfl, (by repeat (first | exact ⟨_, H.out⟩ | refine PdX.setP ?_ _ | refine PdX.drewN ?_ _))⟩, (by repeat (first | exact RTo.refl _ _ | apply RTo.set | apply RTo.drewN))⟩)
end Go.Proofs.YteeeagjejldgnaaDoor
