/- The document's reader: one number. -/
import Derived.Test.YtgdcjccbdmcebaaDoorWDecM
namespace Go.Proofs.YtgdcjccbdmcebaaDoor
open Go.RowKit
set_option maxRecDepth 100000

/-- What the reader's number hands back. -/
def RnumIs (w' : World) (R : Nat) (a : Option Addr) (n cap : Nat) (f : Nat → Nat) (p : Nat) (e : Ending) : Prop :=
  (∃ v q, numAt n f p = some (v, q) ∧ e = .returned (.int .i64 (v : Nat)) ∧ RdAt w' R a n cap (q : Nat) false) ∨
  (∃ v : Int, numAt n f p = none ∧ e = .returned (.int .i64 v) ∧ ∃ q, RdAt w' R a n cap q true)

set_option maxHeartbeats 8000000 in
theorem rnum_any (w : World) (R : Nat) (a : Option Addr) (n cap : Nat) (f : Nat → Nat) (p : Nat) (hn : n ≤ maxLen) (h : RdAt w R a n cap p false) (hR : ∀ b o, a = some ⟨b, o, none⟩ → b ≠ R) (hb : BytesAt w a n cap f) :
    Calls Tryd.prog 74 #[.pointer (some ⟨R, 0, none⟩)] w fun e w' => RnumIs w' R a n cap f p e ∧ RTo w w' R := by
  unfold maxLen at hn
  have H := Hid.mk h
  obtain ⟨c0, c1, c2, f1, f2⟩ := h
  rcases numAt_ways n f p with ⟨h0, hv⟩ | ⟨h0, h1, hv⟩ | ⟨h0, h1, h2, hv⟩ | ⟨h0, h1, h2, hv⟩ | ⟨h0, h1, h2, h3, hv⟩ | ⟨h0, h1, h2, h3, hv⟩ | ⟨h0, h1, h2, h3, hv⟩ | ⟨h0, h1, h2, h3, h4, hv⟩ | ⟨h0, h1, h2, h3, hv⟩
  · -- z
    have HV := Hid.mk hv
    clear hv
    go_enter Tryd.func74, Tryd.ntmps74
    go_wp2_with fail
    refine wp_loop_rounds 4 ?_
    rw [rounds_succ]
    go_wp2_with fail
    go_quiet (fail)
    go_wp2_with fail
    all_goals (go_ret; exact ⟨Or.inr ⟨_, HV.out, rfl, (by refine RdX.setB ?_; repeat (first | exact ⟨_, H.out⟩ | refine RdX.setP ?_ _ | refine RdX.drewN ?_ _))⟩, (by repeat (first | exact RTo.refl _ _ | apply RTo.set | apply RTo.drewN))⟩)
  · -- b1
    obtain ⟨b, oo, rfl, hcap, hmax, hbs, hcell⟩ := hb.resolve_left (by omega)
    have hRb := hR b oo rfl
    obtain ⟨y0, z0⟩ := hcell p (by omega)
    clear hcell
    have HV := Hid.mk hv
    clear hv
    go_enter Tryd.func74, Tryd.ntmps74
    go_wp2_with fail
    refine wp_loop_rounds 4 ?_
    rw [rounds_succ]
    go_wp2_with fail
    go_quiet (fail)
    go_wp2_with fail
    go_quiet (fail)
    go_wp2_with fail
    all_goals (go_ret; refine ⟨Or.inl ⟨_, _, HV.out, ri (by omega), (by refine RdX.at' ?_ (by omega); repeat (first | exact ⟨_, H.out⟩ | refine RdX.setP ?_ _ | refine RdX.drewN ?_ _))⟩, (by repeat (first | exact RTo.refl _ _ | apply RTo.set | apply RTo.drewN))⟩)
  · -- s2
    obtain ⟨b, oo, rfl, hcap, hmax, hbs, hcell⟩ := hb.resolve_left (by omega)
    have hRb := hR b oo rfl
    obtain ⟨y0, z0⟩ := hcell p (by omega)
    clear hcell
    have HV := Hid.mk hv
    clear hv
    go_enter Tryd.func74, Tryd.ntmps74
    go_wp2_with fail
    refine wp_loop_rounds 4 ?_
    rw [rounds_succ]
    go_wp2_with fail
    go_quiet (fail)
    go_wp2_with fail
    go_quiet (fail)
    go_wp2_with fail
    rw [rounds_succ]
    go_wp2_with fail
    go_quiet (fail)
    go_wp2_with fail
    all_goals (go_ret; exact ⟨Or.inr ⟨_, HV.out, rfl, (by refine RdX.setB ?_; repeat (first | exact ⟨_, H.out⟩ | refine RdX.setP ?_ _ | refine RdX.drewN ?_ _))⟩, (by repeat (first | exact RTo.refl _ _ | apply RTo.set | apply RTo.drewN))⟩)
  · -- z2
    obtain ⟨b, oo, rfl, hcap, hmax, hbs, hcell⟩ := hb.resolve_left (by omega)
    have hRb := hR b oo rfl
    obtain ⟨y0, z0⟩ := hcell p (by omega)
    obtain ⟨y1, z1⟩ := hcell (p + 1) (by omega)
    rw [h2] at y1
    clear hcell
    have HV := Hid.mk hv
    clear hv
    go_enter Tryd.func74, Tryd.ntmps74
    go_wp2_with fail
    refine wp_loop_rounds 4 ?_
    rw [rounds_succ]
    go_wp2_with fail
    go_quiet (fail)
    go_wp2_with fail
    go_quiet (fail)
    go_wp2_with fail
    rw [rounds_succ]
    go_wp2_with fail
    go_quiet (fail)
    go_wp2_with fail
    go_quiet (fail)
    go_wp2_with fail
    all_goals (go_ret; exact ⟨Or.inr ⟨_, HV.out, rfl, (by refine RdX.setB ?_; repeat (first | exact ⟨_, H.out⟩ | refine RdX.setP ?_ _ | refine RdX.drewN ?_ _))⟩, (by repeat (first | exact RTo.refl _ _ | apply RTo.set | apply RTo.drewN))⟩)
  · -- b2
    obtain ⟨b, oo, rfl, hcap, hmax, hbs, hcell⟩ := hb.resolve_left (by omega)
    have hRb := hR b oo rfl
    obtain ⟨y0, z0⟩ := hcell p (by omega)
    obtain ⟨y1, z1⟩ := hcell (p + 1) (by omega)
    clear hcell
    have HV := Hid.mk hv
    clear hv
    go_enter Tryd.func74, Tryd.ntmps74
    go_wp2_with fail
    refine wp_loop_rounds 4 ?_
    rw [rounds_succ]
    go_wp2_with fail
    go_quiet (fail)
    go_wp2_with fail
    go_quiet (fail)
    go_wp2_with fail
    rw [rounds_succ]
    go_wp2_with fail
    go_quiet (fail)
    go_wp2_with fail
    go_quiet (fail)
    go_wp2_with fail
    all_goals (go_ret; refine ⟨Or.inl ⟨_, _, HV.out, ri (by omega), (by refine RdX.at' ?_ (by omega); repeat (first | exact ⟨_, H.out⟩ | refine RdX.setP ?_ _ | refine RdX.drewN ?_ _))⟩, (by repeat (first | exact RTo.refl _ _ | apply RTo.set | apply RTo.drewN))⟩)
  · -- s3
    obtain ⟨b, oo, rfl, hcap, hmax, hbs, hcell⟩ := hb.resolve_left (by omega)
    have hRb := hR b oo rfl
    obtain ⟨y0, z0⟩ := hcell p (by omega)
    obtain ⟨y1, z1⟩ := hcell (p + 1) (by omega)
    clear hcell
    have HV := Hid.mk hv
    clear hv
    go_enter Tryd.func74, Tryd.ntmps74
    go_wp2_with fail
    refine wp_loop_rounds 4 ?_
    rw [rounds_succ]
    go_wp2_with fail
    go_quiet (fail)
    go_wp2_with fail
    go_quiet (fail)
    go_wp2_with fail
    rw [rounds_succ]
    go_wp2_with fail
    go_quiet (fail)
    go_wp2_with fail
    go_quiet (fail)
    go_wp2_with fail
    rw [rounds_succ]
    go_wp2_with fail
    go_quiet (fail)
    go_wp2_with fail
    all_goals (go_ret; exact ⟨Or.inr ⟨_, HV.out, rfl, (by refine RdX.setB ?_; repeat (first | exact ⟨_, H.out⟩ | refine RdX.setP ?_ _ | refine RdX.drewN ?_ _))⟩, (by repeat (first | exact RTo.refl _ _ | apply RTo.set | apply RTo.drewN))⟩)
  · -- z3
    obtain ⟨b, oo, rfl, hcap, hmax, hbs, hcell⟩ := hb.resolve_left (by omega)
    have hRb := hR b oo rfl
    obtain ⟨y0, z0⟩ := hcell p (by omega)
    obtain ⟨y1, z1⟩ := hcell (p + 1) (by omega)
    obtain ⟨y2, z2⟩ := hcell (p + 2) (by omega)
    rw [h3] at y2
    clear hcell
    have HV := Hid.mk hv
    clear hv
    go_enter Tryd.func74, Tryd.ntmps74
    go_wp2_with fail
    refine wp_loop_rounds 4 ?_
    rw [rounds_succ]
    go_wp2_with fail
    go_quiet (fail)
    go_wp2_with fail
    go_quiet (fail)
    go_wp2_with fail
    rw [rounds_succ]
    go_wp2_with fail
    go_quiet (fail)
    go_wp2_with fail
    go_quiet (fail)
    go_wp2_with fail
    rw [rounds_succ]
    go_wp2_with fail
    go_quiet (fail)
    go_wp2_with fail
    go_quiet (fail)
    go_wp2_with fail
    all_goals (go_ret; exact ⟨Or.inr ⟨_, HV.out, rfl, (by refine RdX.setB ?_; repeat (first | exact ⟨_, H.out⟩ | refine RdX.setP ?_ _ | refine RdX.drewN ?_ _))⟩, (by repeat (first | exact RTo.refl _ _ | apply RTo.set | apply RTo.drewN))⟩)
  · -- b3
    obtain ⟨b, oo, rfl, hcap, hmax, hbs, hcell⟩ := hb.resolve_left (by omega)
    have hRb := hR b oo rfl
    obtain ⟨y0, z0⟩ := hcell p (by omega)
    obtain ⟨y1, z1⟩ := hcell (p + 1) (by omega)
    obtain ⟨y2, z2⟩ := hcell (p + 2) (by omega)
    clear hcell
    have HV := Hid.mk hv
    clear hv
    go_enter Tryd.func74, Tryd.ntmps74
    go_wp2_with fail
    refine wp_loop_rounds 4 ?_
    rw [rounds_succ]
    go_wp2_with fail
    go_quiet (fail)
    go_wp2_with fail
    go_quiet (fail)
    go_wp2_with fail
    rw [rounds_succ]
    go_wp2_with fail
    go_quiet (fail)
    go_wp2_with fail
    go_quiet (fail)
    go_wp2_with fail
    rw [rounds_succ]
    go_wp2_with fail
    go_quiet (fail)
    go_wp2_with fail
    go_quiet (fail)
    go_wp2_with fail
    all_goals (go_ret; refine ⟨Or.inl ⟨_, _, HV.out, ri (by omega), (by refine RdX.at' ?_ (by omega); repeat (first | exact ⟨_, H.out⟩ | refine RdX.setP ?_ _ | refine RdX.drewN ?_ _))⟩, (by repeat (first | exact RTo.refl _ _ | apply RTo.set | apply RTo.drewN))⟩)
  · -- m
    obtain ⟨b, oo, rfl, hcap, hmax, hbs, hcell⟩ := hb.resolve_left (by omega)
    have hRb := hR b oo rfl
    obtain ⟨y0, z0⟩ := hcell p (by omega)
    obtain ⟨y1, z1⟩ := hcell (p + 1) (by omega)
    obtain ⟨y2, z2⟩ := hcell (p + 2) (by omega)
    clear hcell
    have HV := Hid.mk hv
    clear hv
    go_enter Tryd.func74, Tryd.ntmps74
    go_wp2_with fail
    refine wp_loop_rounds 4 ?_
    rw [rounds_succ]
    go_wp2_with fail
    go_quiet (fail)
    go_wp2_with fail
    go_quiet (fail)
    go_wp2_with fail
    rw [rounds_succ]
    go_wp2_with fail
    go_quiet (fail)
    go_wp2_with fail
    go_quiet (fail)
    go_wp2_with fail
    rw [rounds_succ]
    go_wp2_with fail
    go_quiet (fail)
    go_wp2_with fail
    go_quiet (fail)
    go_wp2_with fail
    rw [rounds_succ]
    go_wp2_with fail
    all_goals (go_ret; exact ⟨Or.inr ⟨_, HV.out, rfl, (by refine RdX.setB ?_; repeat (first | exact ⟨_, H.out⟩ | refine RdX.setP ?_ _ | refine RdX.drewN ?_ _))⟩, (by repeat (first | exact RTo.refl _ _ | apply RTo.set | apply RTo.drewN))⟩)
end Go.Proofs.YtgdcjccbdmcebaaDoor
