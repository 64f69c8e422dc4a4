/- What an advance hands out, one by one, beside the rows of what is left. -/
import Derived.Test.YtgdcjccbdmcebaaDoorHA1
import Derived.Test.YtgdcjccbdmcebaaDoorHY5
namespace Go.Proofs.YtgdcjccbdmcebaaDoor

/-- So many have been looked at: what is left is what the wheel held behind these; none of it is due ahead of the last. -/
def Out (n : Nat) (l : List Tm) (tt : Int) (outs : List Fr) (due : Nat → Int) (left : Nat → Bool) (t : Nat) (last : Int) : Prop :=
  ∃ l2, AdvR l tt (outs.take t) l2 ∧ Live n l2 due left ∧ Apart l2 ∧ ∀ q, q < l2.length → last ≤ (l2.getD q .z).tm
theorem Out.first {n : Nat} {l : List Tm} {tt : Int} {due : Nat → Int} {left : Nat → Bool} {now : Int} (outs : List Fr) (h : Live n l due left) (ha : Apart l) (hl : ∀ q, q < l.length → now ≤ (l.getD q .z).tm) : Out n l tt outs due left 0 now := ⟨l, .base, h, ha, hl⟩
theorem Out.next {n : Nat} {l l' : List Tm} {tt : Int} {outs : List Fr} {due : Nat → Int} {left : Nat → Bool} {t : Nat} {last : Int} (h : Out n l tt outs due left t last) (g : AdvR l tt outs l') (ht : t < outs.length) :
    ∃ k : Nat, k < n ∧ left k = true ∧ outs[t]? = some ⟨k, due k⟩ ∧ due k ≤ tt ∧ last ≤ due k ∧ Out n l tt outs due (fun j => if j = k then false else left j) (t + 1) (due k) := by
  obtain ⟨l2, h1, h2, h3, h4⟩ := h
  obtain ⟨l3, b, g1, g2, g3, g4⟩ := g.steps t ht
  obtain ⟨_, rfl⟩ := h1.same g1 rfl
  obtain ⟨q1, q2, _⟩ := bestN_some g2
  obtain ⟨k, k1, k2, k3, k4⟩ := h2.mem b q1
  have hl := length_cut l2 b q1
  rw [k2, k4] at g4
  rw [k4] at g3
  have e : outs.take (t + 1) = outs.take t ++ [⟨(l2.getD b .z).id, (l2.getD b .z).tm⟩] := by
    rw [List.take_add_one, g4, k2, k4]; rfl
  refine ⟨k, k1, k3, g4, g3, by have := h4 b q1; omega, l2.take b ++ l2.drop (b + 1), ?_, h2.cut h3 q1 k2, h3.cut q1, fun q hq => ?_⟩
  · rw [e]
    exact .step _ _ b h1 g2 (by rw [k4]; exact g3)
  · rw [getD_cut l2 b q q1, ← k4]
    exact q2 _ (by split <;> omega)
theorem Out.done {n : Nat} {l l' : List Tm} {tt : Int} {outs : List Fr} {due : Nat → Int} {left : Nat → Bool} {last : Int} (h : Out n l tt outs due left outs.length last) (g : AdvR l tt outs l') (he : ∀ b, bestN l' l'.length = some b → tt < (l'.getD b .z).tm) :
    Live n l' due left ∧ ∀ k, k < n → left k = true → tt < due k := by
  obtain ⟨l2, h1, h2, _, _⟩ := h
  rw [List.take_length] at h1
  obtain ⟨_, rfl⟩ := h1.same g rfl
  refine ⟨h2, fun k hk hl => ?_⟩
  obtain ⟨q, q1, q2⟩ := h2.all k hk hl
  obtain ⟨k2, _, k3, _, k4⟩ := h2.mem q q1
  have e : k = k2 := by omega
  subst e
  cases hb : bestN l2 l2.length with
  | none => have := bestN_none hb; omega
  | some b =>
    have := he b hb
    have := (bestN_some hb).2.1 q q1
    omega
theorem frL_of : ∀ {l : List Fr} {i : Nat} {f : Fr}, l[i]? = some f → (frL l)[i * 2]? = some (.int .i64 f.id) ∧ (frL l)[i * 2 + 1]? = some (.int .u64 f.tm)
  | [], i, f, h => by simp at h
  | t :: r, 0, f, h => by
    obtain rfl : t = f := by simpa using h
    exact ⟨rfl, rfl⟩
  | t :: r, i + 1, f, h => by
    obtain ⟨h1, h2⟩ := frL_of (l := r) (i := i) (f := f) (by simpa using h)
    have e : frL (t :: r) = frV t ++ frL r := rfl
    have hl : (frV t).length = 2 := rfl
    refine ⟨?_, ?_⟩
    · rw [e, List.getElem?_append_right (by rw [hl]; omega), hl, show (i + 1) * 2 - 2 = i * 2 by omega, h1]
    · rw [e, List.getElem?_append_right (by rw [hl]; omega), hl, show (i + 1) * 2 + 1 - 2 = i * 2 + 1 by omega, h2]
theorem nxt_none {l : List Tm} {n : Nat} {due : Nat → Int} {left : Nat → Bool} {x : Int} {ok : Bool} (h : Live n l due left) (hn : ∀ k, k < n → left k = false) (hx : NxtIs l x ok) : ok = false := by
  rcases hx with ⟨_, _, e⟩ | ⟨b, hb, _, _⟩
  · exact e
  · obtain ⟨k, h1, _, h3, _⟩ := h.mem b (bestN_some hb).1
    rw [hn k h1] at h3
    cases h3
end Go.Proofs.YtgdcjccbdmcebaaDoor
