/- The document's wheel: what stays true of its list. -/
import Derived.Test.YtgdcjccbdmcebaaDoorHTm
namespace Go.Proofs.YtgdcjccbdmcebaaDoor

/-- A list as the wheel keeps it: its numbers rise, no id stands twice, no number is above the wheel's. -/
structure Good (l : List Tm) (sq : Int) : Prop where
  rising : Rising l
  apart : Apart l
  top : ∀ i, i < l.length → (l.getD i .z).sq ≤ sq
theorem good_nil (sq : Int) : Good [] sq := ⟨fun i j _ h => by simp at h, fun i j _ h => by simp at h, fun i h => by simp at h⟩
theorem getD_snoc (l : List Tm) (t : Tm) (i : Nat) (hi : i < l.length + 1) : (l ++ [t]).getD i .z = if i < l.length then l.getD i .z else t := by
  rw [List.getD_eq_getElem?_getD, List.getD_eq_getElem?_getD]
  by_cases h : i < l.length
  · rw [if_pos h, List.getElem?_append_left h]
  · obtain rfl : i = l.length := by omega
    rw [if_neg h, List.getElem?_append_right (Nat.le_refl _), Nat.sub_self]
    rfl
theorem Good.cut {l : List Tm} {sq : Int} (h : Good l sq) {b : Nat} (hb : b < l.length) : Good (l.take b ++ l.drop (b + 1)) sq := by
  refine ⟨h.rising.cut hb, h.apart.cut hb, fun i hi => ?_⟩
  have hl := length_cut l b hb
  rw [getD_cut l b i hb]
  by_cases h1 : i < b
  · rw [if_pos h1]; exact h.top _ (by omega)
  · rw [if_neg h1]; exact h.top _ (by omega)
theorem Good.can {l l' : List Tm} {sq id x : Int} (h : Good l sq) (hc : CanIs l id x l') : Good l' sq := by
  rcases hc with ⟨i, hi, _, _, _, rfl⟩ | ⟨_, _, rfl⟩
  · exact h.cut hi
  · exact h
theorem Good.set {l l' : List Tm} {sq sq' now id tm x : Int} (h : Good l sq) (hs : SetIs l now sq id tm x l' sq') : Good l' sq' := by
  rcases hs with ⟨_, _, rfl, rfl⟩ | ⟨_, _, _, rfl, rfl⟩ | ⟨hn, _, _, rfl, rfl⟩
  · exact h
  · exact h
  · refine ⟨fun i j hij hj => ?_, fun i j hij hj => ?_, fun i hi => ?_⟩
    · rw [List.length_append, List.length_singleton] at hj
      rw [getD_snoc _ _ i (by omega), getD_snoc _ _ j hj, if_pos (by omega : i < l.length)]
      by_cases h1 : j < l.length
      · rw [if_pos h1]; exact h.rising i j hij h1
      · rw [if_neg h1]
        have := h.top i (by omega)
        simp only
        omega
    · rw [List.length_append, List.length_singleton] at hj
      rw [getD_snoc _ _ i (by omega), getD_snoc _ _ j hj, if_pos (by omega : i < l.length)]
      by_cases h1 : j < l.length
      · rw [if_pos h1]; exact h.apart i j hij h1
      · rw [if_neg h1]
        exact fun e => hn ⟨i, by omega, e⟩
    · rw [List.length_append, List.length_singleton] at hi
      rw [getD_snoc _ _ i hi]
      by_cases h1 : i < l.length
      · rw [if_pos h1]; have := h.top i h1; omega
      · rw [if_neg h1]; simp
theorem Good.adv {l l' : List Tm} {sq tt : Int} {outs : List Fr} (h : Good l sq) (ha : AdvR l tt outs l') : Good l' sq := by
  induction ha with
  | base => exact h
  | step outs l' b _ hb _ ih => exact ih.cut (bestN_some hb).1
end Go.Proofs.YtgdcjccbdmcebaaDoor
