/- The document's next: a number, where there is one. -/
import Derived.Test.YtgdcjccbdmcebaaDoorWDecM
import Derived.Test.YtgdcjccbdmcebaaDoorWDecS
namespace Go.Proofs.YtgdcjccbdmcebaaDoor
section
open Go.RowKit
set_option maxRecDepth 100000

/-- What the reader's number hands back. -/
def RnumIs (w' : World) (R : Nat) (a : Option Addr) (n cap : Nat) (f : Nat → Nat) (p : Nat) (e : Ending) : Prop :=
  (∃ v q, numAt n f p = some (v, q) ∧ e = .returned (.int .i64 (v : Nat)) ∧ RdAt w' R a n cap (q : Nat) false) ∨
  (∃ v : Int, numAt n f p = none ∧ e = .returned (.int .i64 v) ∧ ∃ q, RdAt w' R a n cap q true)

set_option maxHeartbeats 8000000 in
theorem rnum_any (w : World) (R : Nat) (a : Option Addr) (n cap : Nat) (f : Nat → Nat) (p : Nat) (hn : n ≤ maxLen) (h : RdAt w R a n cap p false) (hR : ∀ b o, a = some ⟨b, o, none⟩ → b ≠ R) (hb : BytesAt w a n cap f) :
    Calls Tryd.prog 74 #[.pointer (some ⟨R, 0, none⟩)] w fun e w' => RnumIs w' R a n cap f p e ∧ RTo w w' R := by
  unfold maxLen at hn
  have H := Hid.mk h
  obtain ⟨c0, c1, c2, f1, f2⟩ := h
  rcases numAt_ways n f p with ⟨h0, hv⟩ | ⟨h0, h1, hv⟩ | ⟨h0, h1, h2, hv⟩ | ⟨h0, h1, h2, hv⟩ | ⟨h0, h1, h2, h3, hv⟩ | ⟨h0, h1, h2, h3, hv⟩ | ⟨h0, h1, h2, h3, hv⟩ | ⟨h0, h1, h2, h3, h4, hv⟩ | ⟨h0, h1, h2, h3, hv⟩
  · -- z
    have HV := Hid.mk hv
    clear hv
    go_enter Tryd.func74, Tryd.ntmps74
    go_wp2_with fail
    refine wp_loop_rounds 4 ?_
    rw [rounds_succ]
    go_wp2_with fail
    go_quiet (fail)
    go_wp2_with fail
    all_goals (go_ret; exact ⟨Or.inr ⟨_, HV.out, rfl, (by refine RdX.setB ?_; repeat (first | exact ⟨_, H.out⟩ | refine RdX.setP ?_ _ | refine RdX.drewN ?_ _))⟩, (by repeat (first | exact RTo.refl _ _ | apply RTo.set | apply RTo.drewN))⟩)
  · -- b1
    obtain ⟨b, oo, rfl, hcap, hmax, hbs, hcell⟩ := hb.resolve_left (by omega)
    have hRb := hR b oo rfl
    obtain ⟨y0, z0⟩ := hcell p (by omega)
    clear hcell
    have HV := Hid.mk hv
    clear hv
    go_enter Tryd.func74, Tryd.ntmps74
    go_wp2_with fail
    refine wp_loop_rounds 4 ?_
    rw [rounds_succ]
    go_wp2_with fail
    go_quiet (fail)
    go_wp2_with fail
    go_quiet (fail)
    go_wp2_with fail
    all_goals (go_ret; refine ⟨Or.inl ⟨_, _, HV.out, ri (by omega), (by refine RdX.at' ?_ (by omega); repeat (first | exact ⟨_, H.out⟩ | refine RdX.setP ?_ _ | refine RdX.drewN ?_ _))⟩, (by repeat (first | exact RTo.refl _ _ | apply RTo.set | apply RTo.drewN))⟩)
  · -- s2
    obtain ⟨b, oo, rfl, hcap, hmax, hbs, hcell⟩ := hb.resolve_left (by omega)
    have hRb := hR b oo rfl
    obtain ⟨y0, z0⟩ := hcell p (by omega)
    clear hcell
    have HV := Hid.mk hv
    clear hv
    go_enter Tryd.func74, Tryd.ntmps74
    go_wp2_with fail
    refine wp_loop_rounds 4 ?_
    rw [rounds_succ]
    go_wp2_with fail
    go_quiet (fail)
    go_wp2_with fail
    go_quiet (fail)
    go_wp2_with fail
    rw [rounds_succ]
    go_wp2_with fail
    go_quiet (fail)
    go_wp2_with fail
    all_goals (go_ret; exact ⟨Or.inr ⟨_, HV.out, rfl, (by refine RdX.setB ?_; repeat (first | exact ⟨_, H.out⟩ | refine RdX.setP ?_ _ | refine RdX.drewN ?_ _))⟩, (by repeat (first | exact RTo.refl _ _ | apply RTo.set | apply RTo.drewN))⟩)
  · -- z2
    obtain ⟨b, oo, rfl, hcap, hmax, hbs, hcell⟩ := hb.resolve_left (by omega)
    have hRb := hR b oo rfl
    obtain ⟨y0, z0⟩ := hcell p (by omega)
    obtain ⟨y1, z1⟩ := hcell (p + 1) (by omega)
    rw [h2] at y1
    clear hcell
    have HV := Hid.mk hv
    clear hv
    go_enter Tryd.func74, Tryd.ntmps74
    go_wp2_with fail
    refine wp_loop_rounds 4 ?_
    rw [rounds_succ]
    go_wp2_with fail
    go_quiet (fail)
    go_wp2_with fail
    go_quiet (fail)
    go_wp2_with fail
    rw [rounds_succ]
    go_wp2_with fail
    go_quiet (fail)
    go_wp2_with fail
    go_quiet (fail)
    go_wp2_with fail
    all_goals (go_ret; exact ⟨Or.inr ⟨_, HV.out, rfl, (by refine RdX.setB ?_; repeat (first | exact ⟨_, H.out⟩ | refine RdX.setP ?_ _ | refine RdX.drewN ?_ _))⟩, (by repeat (first | exact RTo.refl _ _ | apply RTo.set | apply RTo.drewN))⟩)
  · -- b2
    obtain ⟨b, oo, rfl, hcap, hmax, hbs, hcell⟩ := hb.resolve_left (by omega)
    have hRb := hR b oo rfl
    obtain ⟨y0, z0⟩ := hcell p (by omega)
    obtain ⟨y1, z1⟩ := hcell (p + 1) (by omega)
    clear hcell
    have HV := Hid.mk hv
    clear hv
    go_enter Tryd.func74, Tryd.ntmps74
    go_wp2_with fail
    refine wp_loop_rounds 4 ?_
    rw [rounds_succ]
    go_wp2_with fail
    go_quiet (fail)
    go_wp2_with fail
    go_quiet (fail)
    go_wp2_with fail
    rw [rounds_succ]
    go_wp2_with fail
    go_quiet (fail)
    go_wp2_with fail
    go_quiet (fail)
    go_wp2_with fail
    all_goals (go_ret; refine ⟨Or.inl ⟨_, _, HV.out, ri (by omega), (by refine RdX.at' ?_ (by omega); repeat (first | exact ⟨_, H.out⟩ | refine RdX.setP ?_ _ | refine RdX.drewN ?_ _))⟩, (by repeat (first | exact RTo.refl _ _ | apply RTo.set | apply RTo.drewN))⟩)
  · -- s3
    obtain ⟨b, oo, rfl, hcap, hmax, hbs, hcell⟩ := hb.resolve_left (by omega)
    have hRb := hR b oo rfl
    obtain ⟨y0, z0⟩ := hcell p (by omega)
    obtain ⟨y1, z1⟩ := hcell (p + 1) (by omega)
    clear hcell
    have HV := Hid.mk hv
    clear hv
    go_enter Tryd.func74, Tryd.ntmps74
    go_wp2_with fail
    refine wp_loop_rounds 4 ?_
    rw [rounds_succ]
    go_wp2_with fail
    go_quiet (fail)
    go_wp2_with fail
    go_quiet (fail)
    go_wp2_with fail
    rw [rounds_succ]
    go_wp2_with fail
    go_quiet (fail)
    go_wp2_with fail
    go_quiet (fail)
    go_wp2_with fail
    rw [rounds_succ]
    go_wp2_with fail
    go_quiet (fail)
    go_wp2_with fail
    all_goals (go_ret; exact ⟨Or.inr ⟨_, HV.out, rfl, (by refine RdX.setB ?_; repeat (first | exact ⟨_, H.out⟩ | refine RdX.setP ?_ _ | refine RdX.drewN ?_ _))⟩, (by repeat (first | exact RTo.refl _ _ | apply RTo.set | apply RTo.drewN))⟩)
  · -- z3
    obtain ⟨b, oo, rfl, hcap, hmax, hbs, hcell⟩ := hb.resolve_left (by omega)
    have hRb := hR b oo rfl
    obtain ⟨y0, z0⟩ := hcell p (by omega)
    obtain ⟨y1, z1⟩ := hcell (p + 1) (by omega)
    obtain ⟨y2, z2⟩ := hcell (p + 2) (by omega)
    rw [h3] at y2
    clear hcell
    have HV := Hid.mk hv
    clear hv
    go_enter Tryd.func74, Tryd.ntmps74
    go_wp2_with fail
    refine wp_loop_rounds 4 ?_
    rw [rounds_succ]
    go_wp2_with fail
    go_quiet (fail)
    go_wp2_with fail
    go_quiet (fail)
    go_wp2_with fail
    rw [rounds_succ]
    go_wp2_with fail
    go_quiet (fail)
    go_wp2_with fail
    go_quiet (fail)
    go_wp2_with fail
    rw [rounds_succ]
    go_wp2_with fail
    go_quiet (fail)
    go_wp2_with fail
    go_quiet (fail)
    go_wp2_with fail
    all_goals (go_ret; exact ⟨Or.inr ⟨_, HV.out, rfl, (by refine RdX.setB ?_; repeat (first | exact ⟨_, H.out⟩ | refine RdX.setP ?_ _ | refine RdX.drewN ?_ _))⟩, (by repeat (first | exact RTo.refl _ _ | apply RTo.set | apply RTo.drewN))⟩)
  · -- b3
    obtain ⟨b, oo, rfl, hcap, hmax, hbs, hcell⟩ := hb.resolve_left (by omega)
    have hRb := hR b oo rfl
    obtain ⟨y0, z0⟩ := hcell p (by omega)
    obtain ⟨y1, z1⟩ := hcell (p + 1) (by omega)
    obtain ⟨y2, z2⟩ := hcell (p + 2) (by omega)
    clear hcell
    have HV := Hid.mk hv
    clear hv
    go_enter Tryd.func74, Tryd.ntmps74
    go_wp2_with fail
    refine wp_loop_rounds 4 ?_
    rw [rounds_succ]
    go_wp2_with fail
    go_quiet (fail)
    go_wp2_with fail
    go_quiet (fail)
    go_wp2_with fail
    rw [rounds_succ]
    go_wp2_with fail
    go_quiet (fail)
    go_wp2_with fail
    go_quiet (fail)
    go_wp2_with fail
    rw [rounds_succ]
    go_wp2_with fail
    go_quiet (fail)
    go_wp2_with fail
    go_quiet (fail)
    go_wp2_with fail
    all_goals (go_ret; refine ⟨Or.inl ⟨_, _, HV.out, ri (by omega), (by refine RdX.at' ?_ (by omega); repeat (first | exact ⟨_, H.out⟩ | refine RdX.setP ?_ _ | refine RdX.drewN ?_ _))⟩, (by repeat (first | exact RTo.refl _ _ | apply RTo.set | apply RTo.drewN))⟩)
  · -- m
    obtain ⟨b, oo, rfl, hcap, hmax, hbs, hcell⟩ := hb.resolve_left (by omega)
    have hRb := hR b oo rfl
    obtain ⟨y0, z0⟩ := hcell p (by omega)
    obtain ⟨y1, z1⟩ := hcell (p + 1) (by omega)
    obtain ⟨y2, z2⟩ := hcell (p + 2) (by omega)
    clear hcell
    have HV := Hid.mk hv
    clear hv
    go_enter Tryd.func74, Tryd.ntmps74
    go_wp2_with fail
    refine wp_loop_rounds 4 ?_
    rw [rounds_succ]
    go_wp2_with fail
    go_quiet (fail)
    go_wp2_with fail
    go_quiet (fail)
    go_wp2_with fail
    rw [rounds_succ]
    go_wp2_with fail
    go_quiet (fail)
    go_wp2_with fail
    go_quiet (fail)
    go_wp2_with fail
    rw [rounds_succ]
    go_wp2_with fail
    go_quiet (fail)
    go_wp2_with fail
    go_quiet (fail)
    go_wp2_with fail
    rw [rounds_succ]
    go_wp2_with fail
    all_goals (go_ret; exact ⟨Or.inr ⟨_, HV.out, rfl, (by refine RdX.setB ?_; repeat (first | exact ⟨_, H.out⟩ | refine RdX.setP ?_ _ | refine RdX.drewN ?_ _))⟩, (by repeat (first | exact RTo.refl _ _ | apply RTo.set | apply RTo.drewN))⟩)
end
section
open Go.RowKit
set_option maxRecDepth 100000

theorem RdAt.setS {w : World} {R S : Nat} {a : Option Addr} {n cap : Nat} {p : Int} {bd : Bool} (h : RdAt w R a n cap p bd) (hS : S ≠ R) (v : Value) : RdAt (w.setCell ⟨S, 0, none⟩ v) R a n cap p bd := by
  have e : ∀ o, (w.setCell ⟨S, 0, none⟩ v).cell? ⟨R, o, none⟩ = w.cell? ⟨R, o, none⟩ := fun o => World.cell?_of_block (Below.heap_setCell w ⟨S, 0, none⟩ v R (by simpa using hS.symm))
  exact ⟨(e 0).trans h.c0, (e 1).trans h.c1, (e 2).trans h.c2, by rw [World.frozen?_setCell]; exact h.f1, by rw [World.frozen?_setCell]; exact h.f2⟩
theorem BytesAt.two {w w' : World} {R S : Nat} {a : Option Addr} {n cap : Nat} {f : Nat → Nat} (h : BytesAt w a n cap f) (hR : ∀ b o, a = some ⟨b, o, none⟩ → b ≠ R ∧ b ≠ S) (ht : RTo2 w w' R S) : BytesAt w' a n cap f := by
  rcases h with h0 | ⟨b, o, rfl, h1, h2, h3, h4⟩
  · exact Or.inl h0
  · obtain ⟨r1, r2⟩ := hR b o rfl
    exact Or.inr ⟨b, o, rfl, h1, h2, by rw [ht.size]; exact h3, fun k hk => ⟨(World.cell?_of_block (ht.block b r1 r2)).trans (h4 k hk).1, (h4 k hk).2⟩⟩

/-- What next hands back: the number that is read (any, where there is none). -/
def NextIs (n : Nat) (f : Nat → Nat) (r : RS) (e : Ending) : Prop :=
  ∃ v : Int, e = .returned (.int .i64 v) ∧ ((∀ s, nxS n f r ≠ .bad s) → v = nxV n f r)

set_option maxHeartbeats 2000000 in
theorem next_any (w : World) (R S : Nat) (a : Option Addr) (n cap : Nat) (f : Nat → Nat) (r : RS) (hn : n ≤ maxLen) (hS : S ≠ R) (h : StAt w R S a n cap r) (hR : ∀ b o, a = some ⟨b, o, none⟩ → b ≠ R ∧ b ≠ S) (hb : BytesAt w a n cap f) :
    Calls Tryd.prog 53 #[.pointer (some ⟨R, 0, none⟩), .pointer (some ⟨S, 0, none⟩)] w fun e w' => NextIs n f r e ∧ StAt w' R S a n cap (nxS n f r) ∧ RTo2 w w' R S := by
  cases r with
  | bad s =>
    have H := Hid.mk h
    obtain ⟨⟨q, c0, c1, c2, f1, f2⟩, g0, g1⟩ := h
    go_enter Tryd.func53, Tryd.ntmps53
    go_wp2_with fail
    go_ret
    exact ⟨⟨0, rfl, fun hh => absurd rfl (hh s)⟩, H.out, RTo2.refl _ _ _⟩
  | good p s =>
    obtain ⟨hrd, g0, g1⟩ := h
    have H := Hid.mk hrd
    obtain ⟨c0, c1, c2, f1, f2⟩ := hrd
    have HB := Hid.mk hb
    clear hb
    have hset : Hid (∀ v, RTo2 w (w.setCell ⟨S, 0, none⟩ v) R S) := Hid.mk fun v => RTo2.of_setS w R S 0 v
    go_enter Tryd.func53, Tryd.ntmps53
    go_wp2_with fail
    refine (rnum_any _ R a n cap f p hn (H.out.setS hS _) (fun b o h => (hR b o h).1) (HB.out.two hR (hset.out _))).mono ?_
    rintro e w1 ⟨hx, ht⟩
    have hs : w1.cell? ⟨S, 0, none⟩ = some (.int .i64 p) := (World.cell?_of_block (ht.block S hS)).trans (World.cell?_setCell_same _ _ _ g0)
    have hf : w1.frozen? ⟨S, 0, none⟩ = false := (World.frozen?_of_block (ht.block S hS)).trans (by rw [World.frozen?_setCell]; exact g1)
    have HT := (hset.out (.int .i64 p)).trans (ht.two S)
    have HS := Hid.mk (And.intro hs (And.intro hf HT))
    clear ht hs hf HT
    rcases hx with ⟨v, q, hv, rfl, hrd⟩ | ⟨v, hv, rfl, hrd⟩
    · have HV := Hid.mk (And.intro hv hrd)
      clear hv hrd
      go_wp2_with fail
      go_ret
      refine ⟨⟨v, rfl, fun _ => by rw [nxV_some HV.out.1]⟩, ?_, HS.out.2.2⟩
      rw [nxS_some HV.out.1]
      exact ⟨HV.out.2, HS.out.1, HS.out.2.1⟩
    · have HV := Hid.mk (And.intro hv hrd)
      clear hv hrd
      go_wp2_with fail
      go_ret
      refine ⟨⟨v, rfl, fun hh => absurd (nxS_none HV.out.1) (hh p)⟩, ?_, HS.out.2.2⟩
      rw [nxS_none HV.out.1]
      exact ⟨HV.out.2, HS.out.1, HS.out.2.1⟩
end
end Go.Proofs.YtgdcjccbdmcebaaDoor
