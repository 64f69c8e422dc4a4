/- A scope in which the run jumps back to one label: the rest behind the label is walked once; a number that is no part of the world gets less with each jump. -/
import Derived.ScopeJumps
import Derived.WalkMore
namespace Go.Proofs.YtgdcjccbdmcebaaDoor

/-- A scope with one label ahead of the rest of it: the rest is walked once. -/
theorem scope_jumps_one {P : Program} {Q : Exit → Act → World → Prop} {a : Act} {w : World} {c rest : Code} (l : Nat) (J : Act → World → Prop) (μ : Act → World → Nat) (hf : findLabel c l = some (Code.skip.seq rest))
    (start : ∀ R : Exit → Act → World → Prop, (∀ a w, J a w → rest.wp P R a w) → c.wp P R a w)
    (pass : ∀ a w, J a w → rest.wp P (Exit.jump l (fun a' w' => J a' w' ∧ μ a' w' < μ a w) Q) a w) : (Code.scope c).wp P Q a w :=
  wp_scope_jumps l J μ hf (start _ fun a w hJ => wp_mono (pass a w hJ) fun e a w h => by
    cases e with
    | goto l' => exact ⟨h.1, h.2.1⟩
    | normal => exact h
    | exit id => exact h
    | ret => exact h
    | panic ch => exact h
    | outgrown => exact h) (fun a w hJ => wp_seq (wp_skip (pass a w hJ)))
theorem least_of {p : Nat → Prop} (h : ∃ n, p n) : ∃ n, p n ∧ ∀ m, p m → n ≤ m := by
  obtain ⟨n, hn⟩ := h
  induction n using Nat.strongRecOn with
  | _ n ih =>
    by_cases h2 : ∃ m, m < n ∧ p m
    · obtain ⟨m, h3, h4⟩ := h2
      exact ih m h3 h4
    · refine ⟨n, hn, fun m hm => ?_⟩
      rcases Nat.lt_or_ge m n with h3 | h3
      · exact absurd ⟨m, h3, hm⟩ h2
      · exact h3
/-- The same, with a number beside. -/
theorem scope_jumps_ghost {P : Program} {Q : Exit → Act → World → Prop} {a : Act} {w : World} {c rest : Code} (l : Nat) (J : Nat → Act → World → Prop) (hf : findLabel c l = some (Code.skip.seq rest))
    (start : ∀ R : Exit → Act → World → Prop, (∀ n a w, J n a w → rest.wp P R a w) → c.wp P R a w)
    (pass : ∀ n a w, J n a w → rest.wp P (Exit.jump l (fun a' w' => ∃ m, m < n ∧ J m a' w') Q) a w) : (Code.scope c).wp P Q a w := by
  obtain ⟨μ, hμ⟩ : ∃ μ : Act → World → Nat, ∀ a w, (∃ n, J n a w) → J (μ a w) a w ∧ ∀ m, J m a w → μ a w ≤ m := by
    refine Classical.skolem (p := fun a (f : World → Nat) => ∀ w, (∃ n, J n a w) → J (f w) a w ∧ ∀ m, J m a w → f w ≤ m) |>.1 (fun a => ?_)
    refine Classical.skolem (p := fun w (k : Nat) => (∃ n, J n a w) → J k a w ∧ ∀ m, J m a w → k ≤ m) |>.1 (fun w => ?_)
    by_cases h : ∃ n, J n a w
    · obtain ⟨n, h1, h2⟩ := least_of h
      exact ⟨n, fun _ => ⟨h1, h2⟩⟩
    · exact ⟨0, fun h2 => absurd h2 h⟩
  refine scope_jumps_one l (fun a w => ∃ n, J n a w) μ hf (fun R hR => start R (fun n a w hJ => hR a w ⟨n, hJ⟩)) (fun a w hJ => ?_)
  obtain ⟨h1, h2⟩ := hμ a w hJ
  refine wp_mono (pass _ a w h1) fun e a' w' h => ?_
  cases e with
  | goto l' =>
    obtain ⟨g1, m, g2, g3⟩ := h
    exact ⟨g1, ⟨m, g3⟩, Nat.lt_of_le_of_lt ((hμ a' w' ⟨m, g3⟩).2 m g3) g2⟩
  | normal => exact h
  | exit id => exact h
  | ret => exact h
  | panic ch => exact h
  | outgrown => exact h
end Go.Proofs.YtgdcjccbdmcebaaDoor
