/- Timers as data, in the order in which they were set: which is due first; what Set, Cancel, Next and Advance do to them. (No program is spoken of.) -/
import Init
namespace Go.Proofs.YtgdcjccbdmcebaaDoor

structure Tm where
  id : Int
  tm : Int
  sq : Int
def Tm.z : Tm := ⟨0, 0, 0⟩
/-- Which of the first k timers is due first: of those due at one time the one that was set first. -/
def bestN (l : List Tm) : Nat → Option Nat
  | 0 => none
  | k + 1 => match bestN l k with
    | none => some k
    | some b => if (l.getD k .z).tm < (l.getD b .z).tm then some k else some b
def bestI : Option Nat → Int
  | none => -1
  | some b => b
theorem bestN_none {l : List Tm} {k : Nat} (h : bestN l k = none) : k = 0 := by
  cases k with
  | zero => rfl
  | succ k =>
    simp only [bestN] at h
    split at h
    · cases h
    · split at h <;> cases h
theorem bestN_some {l : List Tm} : ∀ {k b : Nat}, bestN l k = some b → b < k ∧ (∀ j, j < k → (l.getD b .z).tm ≤ (l.getD j .z).tm) ∧ ∀ j, j < b → (l.getD b .z).tm < (l.getD j .z).tm := by
  intro k
  induction k with
  | zero => intro b h; cases h
  | succ k ih =>
    intro b h
    simp only [bestN] at h
    cases hb : bestN l k with
    | none =>
      rw [hb] at h
      simp only [Option.some.injEq] at h
      subst h
      have := bestN_none hb
      subst this
      exact ⟨by omega, fun j hj => by obtain rfl : j = 0 := by omega
                                      exact Int.le_refl _, fun j hj => by omega⟩
    | some b' =>
      rw [hb] at h
      obtain ⟨h1, h2, h3⟩ := ih hb
      simp only at h
      by_cases hlt : (l.getD k .z).tm < (l.getD b' .z).tm
      · rw [if_pos hlt] at h
        simp only [Option.some.injEq] at h
        subst h
        refine ⟨by omega, fun j hj => ?_, fun j hj => ?_⟩
        · by_cases e : j = k
          · subst e; exact Int.le_refl _
          · have := h2 j (by omega); omega
        · have := h2 j hj; omega
      · rw [if_neg hlt] at h
        simp only [Option.some.injEq] at h
        subst h
        refine ⟨by omega, fun j hj => ?_, h3⟩
        by_cases e : j = k
        · subst e; omega
        · exact h2 j (by omega)
/-- The timers stand in the order in which they were set. -/
def Rising (l : List Tm) : Prop := ∀ i j, i < j → j < l.length → (l.getD i .z).sq < (l.getD j .z).sq
/-- Is there a timer of that id among the first k? -/
def hasId (l : List Tm) (id : Int) (k : Nat) : Prop := ∃ j, j < k ∧ (l.getD j .z).id = id
/-- When a timer is due that is set for `tm` at `now`. -/
def clampT (now tm : Int) : Int := if tm ≤ now then (if now + 1 > 4611686018427387904 then 4611686018427387904 else now + 1) else if tm > 4611686018427387904 then 4611686018427387904 else tm
/-- What Set answers, and what is there then. -/
def SetIs (l : List Tm) (now sq id tm : Int) (x : Int) (l' : List Tm) (sq' : Int) : Prop :=
  (hasId l id l.length ∧ x = 8 ∧ l' = l ∧ sq' = sq) ∨
  (¬ hasId l id l.length ∧ l.length = 200 ∧ x = 5 ∧ l' = l ∧ sq' = sq) ∨
  (¬ hasId l id l.length ∧ l.length ≠ 200 ∧ x = 0 ∧ l' = l ++ [⟨id, clampT now tm, sq + 1⟩] ∧ sq' = sq + 1)
/-- What Cancel answers, and what is there then. -/
def CanIs (l : List Tm) (id : Int) (x : Int) (l' : List Tm) : Prop :=
  (∃ i, i < l.length ∧ (l.getD i .z).id = id ∧ (∀ j, j < i → (l.getD j .z).id ≠ id) ∧ x = 0 ∧ l' = l.take i ++ l.drop (i + 1)) ∨
  (¬ hasId l id l.length ∧ x = 8 ∧ l' = l)
/-- What Next answers. -/
def NxtIs (l : List Tm) (t : Int) (ok : Bool) : Prop :=
  (l.length = 0 ∧ t = 0 ∧ ok = false) ∨ ∃ b, bestN l l.length = some b ∧ t = (l.getD b .z).tm ∧ ok = true
/-- What has come: id and time. -/
structure Fr where
  id : Int
  tm : Int
/-- The time behind so many ticks. -/
def advTo (now ticks : Int) : Int := if now + ticks > 4611686018427387904 then 4611686018427387904 else now + ticks
/-- One timer behind the other comes, that is due first and due by then. -/
inductive AdvR (l : List Tm) (tt : Int) : List Fr → List Tm → Prop
  | base : AdvR l tt [] l
  | step (outs : List Fr) (l' : List Tm) (b : Nat) : AdvR l tt outs l' → bestN l' l'.length = some b → (l'.getD b .z).tm ≤ tt → AdvR l tt (outs ++ [⟨(l'.getD b .z).id, (l'.getD b .z).tm⟩]) (l'.take b ++ l'.drop (b + 1))
/-- No two timers have one id. -/
def Apart (l : List Tm) : Prop := ∀ i j, i < j → j < l.length → (l.getD i .z).id ≠ (l.getD j .z).id
theorem getD_cut (l : List Tm) (b i : Nat) (hb : b < l.length) : (l.take b ++ l.drop (b + 1)).getD i .z = l.getD (if i < b then i else i + 1) .z := by
  rw [List.getD_eq_getElem?_getD, List.getD_eq_getElem?_getD]
  congr 1
  by_cases h : i < b
  · rw [if_pos h, List.getElem?_append_left (by rw [List.length_take]; omega), List.getElem?_take_of_lt h]
  · rw [if_neg h, List.getElem?_append_right (by rw [List.length_take]; omega), List.getElem?_drop, List.length_take]
    congr 1
    omega
theorem length_cut (l : List Tm) (b : Nat) (hb : b < l.length) : (l.take b ++ l.drop (b + 1)).length + 1 = l.length := by
  rw [List.length_append, List.length_take, List.length_drop]; omega
theorem Rising.cut {l : List Tm} (h : Rising l) {b : Nat} (hb : b < l.length) : Rising (l.take b ++ l.drop (b + 1)) := by
  intro i j hij hj
  have hl := length_cut l b hb
  rw [getD_cut l b i hb, getD_cut l b j hb]
  by_cases h1 : i < b <;> by_cases h2 : j < b <;> simp only [h1, h2, if_true, if_false] <;> exact h _ _ (by omega) (by omega)
theorem Apart.cut {l : List Tm} (h : Apart l) {b : Nat} (hb : b < l.length) : Apart (l.take b ++ l.drop (b + 1)) := by
  intro i j hij hj
  have hl := length_cut l b hb
  rw [getD_cut l b i hb, getD_cut l b j hb]
  by_cases h1 : i < b <;> by_cases h2 : j < b <;> simp only [h1, h2, if_true, if_false] <;> exact h _ _ (by omega) (by omega)
theorem CanIs.at' {l l' : List Tm} {x : Int} {b : Nat} (ha : Apart l) (hb : b < l.length) (h : CanIs l (l.getD b .z).id x l') : x = 0 ∧ l' = l.take b ++ l.drop (b + 1) := by
  rcases h with ⟨i, hi, he, hf, hx, hl⟩ | ⟨hn, _⟩
  · have : i = b := by
      rcases Nat.lt_trichotomy i b with h | h | h
      · exact absurd he (ha i b h hb)
      · exact h
      · exact absurd rfl (hf b h)
    subst this
    exact ⟨hx, hl⟩
  · exact absurd ⟨b, hb, rfl⟩ hn
end Go.Proofs.YtgdcjccbdmcebaaDoor
