/- What the document asks of a flow (P4), as plain data: bounds, edges, and the nodes that have their turn at last; and what it says is wrong. -/
import Derived.Test.YtgdcjccbdmcebaaDoorWMem
import Derived.Test.YtgdcjccbdmcebaaDoorMOk
namespace Go.Proofs.YtgdcjccbdmcebaaDoor
open Go.RowKit

/-- What is wrong with a flow, and where. -/
def ChkIs (F : FlowD) (e a : Int) : Prop :=
  (e = 2 ∧ a = -1 ∧ ¬ OkTop F) ∨
  (e = 2 ∧ OkTop F ∧ ∃ i, i < F.n ∧ a = (i : Int) ∧ (∀ j, j < i → OkNode F j ∧ OkEdges F j) ∧ ¬ OkNode F i) ∨
  (e = 3 ∧ OkTop F ∧ ∃ i, i < F.n ∧ a = (i : Int) ∧ (∀ j, j < i → OkNode F j ∧ OkEdges F j) ∧ OkNode F i ∧ ¬ OkEdges F i) ∨
  (e = 4 ∧ OkTop F ∧ (∀ j, j < F.n → OkNode F j ∧ OkEdges F j) ∧ ∃ i, i < F.n ∧ a = (i : Int) ∧ ¬ Gone F i ∧ ∀ j, j < i → Gone F j) ∨
  (e = 0 ∧ a = -1 ∧ OkTop F ∧ (∀ j, j < F.n → OkNode F j ∧ OkEdges F j) ∧ ∀ i, i < F.n → Gone F i)

theorem first_bad {P : Nat → Prop} {i j : Nat} (h1 : ∀ k, k < i → P k) (h2 : ¬ P i) (h3 : ∀ k, k < j → P k) (h4 : ¬ P j) : i = j := by
  rcases Nat.lt_trichotomy i j with h | h | h
  · exact absurd (h3 i h) h2
  · exact h
  · exact absurd (h1 j h) h4

/-- One thing is wrong, at one place. -/
theorem ChkIs.one {F : FlowD} {e a e' a' : Int} (h : ChkIs F e a) (h' : ChkIs F e' a') : e = e' ∧ a = a' := by
  have key : ∀ {i j : Nat}, (∀ k, k < i → OkNode F k ∧ OkEdges F k) → ¬ (OkNode F i ∧ OkEdges F i) → (∀ k, k < j → OkNode F k ∧ OkEdges F k) → ¬ (OkNode F j ∧ OkEdges F j) → i = j := fun a b c d => first_bad a b c d
  rcases h with ⟨rfl, rfl, ht⟩ | ⟨rfl, ht, i, hi, rfl, hj, hk⟩ | ⟨rfl, ht, i, hi, rfl, hj, hk, hl⟩ | ⟨rfl, ht, hall, i, hi, rfl, hj, hk⟩ | ⟨rfl, rfl, ht, hall, hg⟩ <;>
  rcases h' with ⟨rfl, rfl, ht'⟩ | ⟨rfl, ht', i', hi', rfl, hj', hk'⟩ | ⟨rfl, ht', i', hi', rfl, hj', hk', hl'⟩ | ⟨rfl, ht', hall', i', hi', rfl, hj', hk'⟩ | ⟨rfl, rfl, ht', hall', hg'⟩
  case inl.inl => exact ⟨rfl, rfl⟩
  case inr.inl.inr.inl => obtain rfl := key hj (fun x => hk x.1) hj' (fun x => hk' x.1); exact ⟨rfl, rfl⟩
  case inr.inl.inr.inr.inl => obtain rfl := key hj (fun x => hk x.1) hj' (fun x => hl' x.2); exact absurd hk' hk
  case inr.inr.inl.inr.inl => obtain rfl := key hj (fun x => hl x.2) hj' (fun x => hk' x.1); exact absurd hk hk'
  case inr.inr.inl.inr.inr.inl => obtain rfl := key hj (fun x => hl x.2) hj' (fun x => hl' x.2); exact ⟨rfl, rfl⟩
  case inr.inr.inr.inl.inr.inr.inr.inl => obtain rfl := first_bad hk hj hk' hj'; exact ⟨rfl, rfl⟩
  case inr.inr.inr.inr.inr.inr.inr.inr => exact ⟨rfl, rfl⟩
  all_goals exfalso
  all_goals first
    | exact ht ht'
    | exact ht' ht
    | exact hk (hall' _ hi).1
    | exact hl (hall' _ hi).2
    | exact hk' (hall _ hi').1
    | exact hl' (hall _ hi').2
    | exact hj (hg' _ hi)
    | exact hj' (hg _ hi')

/-- How many of the first n are in S. -/
def cnt (S : Nat → Bool) : Nat → Nat
  | 0 => 0
  | n + 1 => cnt S n + if S n then 1 else 0
theorem cnt_mono {S T : Nat → Bool} {n : Nat} (h : ∀ j, j < n → S j = true → T j = true) : cnt S n ≤ cnt T n := by
  induction n with
  | zero => exact Nat.le_refl _
  | succ n ih =>
    have h1 := ih fun j hj => h j (by omega)
    have h2 := h n (by omega)
    simp only [cnt]
    cases hS : S n <;> cases hT : T n <;> simp_all <;> omega
theorem cnt_more {S T : Nat → Bool} {n i : Nat} (h : ∀ j, j < n → S j = true → T j = true) (hi : i < n) (h1 : S i = false) (h2 : T i = true) : cnt S n + 1 ≤ cnt T n := by
  induction n with
  | zero => omega
  | succ n ih =>
    simp only [cnt]
    by_cases e : i = n
    · subst e
      have h3 := cnt_mono (n := i) fun j hj => h j (by omega)
      rw [h1, h2]
      simp
      omega
    · have h3 := ih (fun j hj => h j (by omega)) (by omega)
      have h4 := h n (by omega)
      cases hS : S n <;> cases hT : T n <;> simp_all <;> omega
theorem cnt_le (S : Nat → Bool) (n : Nat) : cnt S n ≤ n := by
  induction n with
  | zero => exact Nat.le_refl _
  | succ n ih => simp only [cnt]; split <;> omega
theorem cnt_all {S : Nat → Bool} {n : Nat} (h : n ≤ cnt S n) : ∀ j, j < n → S j = true := by
  induction n with
  | zero => omega
  | succ n ih =>
    have h2 := cnt_le S n
    simp only [cnt] at h
    cases hS : S n with
    | false => rw [hS] at h; simp at h; omega
    | true =>
      rw [hS] at h
      simp at h
      intro j hj
      by_cases e : j = n
      · subst e; exact hS
      · exact ih h j (by omega)

/-- All in S have their turn; nothing is left whose turn it is. -/
def Sound (F : FlowD) (S : Nat → Bool) : Prop := ∀ j, j < F.n → S j = true → Gone F j
def Closed (F : FlowD) (S : Nat → Bool) : Prop := ∀ j, j < F.n → (∀ k, k < F.an j → S (F.af j k).toNat = true) → S j = true
theorem gone_iff {F : FlowD} {S : Nat → Bool} (he : ∀ j, j < F.n → OkEdges F j) (hs : Sound F S) (hc : Closed F S) : ∀ i, i < F.n → (Gone F i ↔ S i = true) := by
  intro i hi
  refine ⟨fun h => ?_, hs i hi⟩
  induction h with
  | mk i _ ih => exact hc i hi fun k hk => ih k hk (by have := he i hi k hk; unfold OkEdge at this; omega)
/-- In the midst of a pass over all nodes, ahead of node i: S0 is what was at its start, S what is now. -/
structure Pass (F : FlowD) (S0 S : Nat → Bool) (i : Nat) : Prop where
  sub : ∀ j, j < F.n → S0 j = true → S j = true
  sound : Sound F S
  made : ∀ j, j < i → (∀ k, k < F.an j → S0 (F.af j k).toNat = true) → S j = true
  same : Closed F S0 → ∀ j, j < F.n → S j = true → S0 j = true
theorem Pass.start {F : FlowD} {S : Nat → Bool} (h : Sound F S) : Pass F S S 0 := ⟨fun _ _ h => h, h, fun j hj => by omega, fun _ _ _ h => h⟩
theorem OkEdge.lt {F : FlowD} {i k : Nat} (h : OkEdge F i k) : (F.af i k).toNat < F.n := by have := h.1; have := h.2.1; omega
theorem Pass.step {F : FlowD} {S0 S : Nat → Bool} {i : Nat} {t : Bool} (he : ∀ j, j < F.n → OkEdges F j) (h : Pass F S0 S i) (hi : i < F.n) (ht : t = true ↔ ∀ k, k < F.an i → S (F.af i k).toNat = true) :
    Pass F S0 (fun j => if j = i then (S i || t) else S j) (i + 1) := by
  refine ⟨fun j hj h0 => ?_, fun j hj h0 => ?_, fun j hj h0 => ?_, fun hc j hj h0 => ?_⟩
  · by_cases e : j = i
    · subst e; simp [h.sub j hj h0]
    · simp [e, h.sub j hj h0]
  · by_cases e : j = i
    · subst e
      simp only [if_true, Bool.or_eq_true] at h0
      rcases h0 with h0 | h0
      · exact h.sound j hj h0
      · exact Gone.mk j fun k hk => h.sound _ (he j hj k hk).lt (ht.1 h0 k hk)
    · simp only [e, if_false] at h0
      exact h.sound j hj h0
  · by_cases e : j = i
    · subst e
      have : t = true := ht.2 fun k hk => h.sub _ (he j hi k hk).lt (h0 k hk)
      simp [this]
    · simp [e, h.made j (by omega) h0]
  · by_cases e : j = i
    · subst e
      simp only [if_true, Bool.or_eq_true] at h0
      rcases h0 with h0 | h0
      · exact h.same hc j hj h0
      · exact hc j hj fun k hk => h.same hc _ (he j hj k hk).lt (ht.1 h0 k hk)
    · simp only [e, if_false] at h0
      exact h.same hc j hj h0
theorem Pass.done {F : FlowD} {S0 S : Nat → Bool} {r : Nat} (he : ∀ j, j < F.n → OkEdges F j) (h : Pass F S0 S F.n) (hr : Closed F S0 ∨ r ≤ cnt S0 F.n) : Closed F S ∨ r + 1 ≤ cnt S F.n := by
  by_cases hc : Closed F S0
  · exact Or.inl fun j hj hk => h.sub j hj (hc j hj fun k hkk => h.same hc _ (he j hj k hkk).lt (hk k hkk))
  · right
    have hr' := hr.resolve_left hc
    obtain ⟨j, hj⟩ := Classical.not_forall.1 hc
    obtain ⟨hjn, hj⟩ := Classical.not_imp.1 hj
    obtain ⟨hk, hj⟩ := Classical.not_imp.1 hj
    have := cnt_more (S := S0) (T := S) (n := F.n) (i := j) h.sub hjn (by simpa using hj) (h.made j hjn hk)
    omega
theorem closed_of {F : FlowD} {S : Nat → Bool} (h : Closed F S ∨ F.n ≤ cnt S F.n) : Closed F S := by
  rcases h with h | h
  · exact h
  · exact fun j hj _ => cnt_all h j hj

/-- What holds of the world through the whole call: the flow's own two cells; nothing that was there has turned. -/
structure Own2 (w wr : World) (F : FlowD) (a : Option Addr) (cap : Nat) : Prop where
  c0 : wr.cell? ⟨w.heap.size, 0, none⟩ = some (.int .i64 F.dl)
  c1 : wr.cell? ⟨w.heap.size, 1, none⟩ = some (.slice a F.n cap)
  sz : w.heap.size < wr.heap.size
  bl : Below w.heap.size w wr
theorem Own2.keep {w wr wx : World} {F : FlowD} {a : Option Addr} {cap : Nat} (h : Own2 w wr F a cap) (hb : Below wr.heap.size wr wx) : Own2 w wx F a cap :=
  ⟨(hb.cell (p := ⟨w.heap.size, 0, none⟩) h.sz).trans h.c0, (hb.cell (p := ⟨w.heap.size, 1, none⟩) h.sz).trans h.c1, Nat.lt_of_lt_of_le h.sz hb.size, h.bl.trans (hb.mono (Nat.le_of_lt h.sz))⟩
theorem Own2.start (w : World) (F : FlowD) (a : Option Addr) (cap : Nat) (t : TypeId) : Own2 w (w.alloc (.cells #[.int .i64 F.dl, .slice a F.n cap] t)) F a cap :=
  ⟨by simp, by simp, by simp, (Below.refl _ _).alloc (Nat.le_refl _) _⟩
end Go.Proofs.YtgdcjccbdmcebaaDoor
