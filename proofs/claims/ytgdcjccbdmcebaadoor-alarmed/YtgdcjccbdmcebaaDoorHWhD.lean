/- The program's wheel: the map of what is due holds the timers of a list. -/
import Derived.Test.YtgdcjccbdmcebaaDoorHWhM
import Derived.Test.YtgdcjccbdmcebaaDoorHTimG
namespace Go.Proofs.YtgdcjccbdmcebaaDoor
open Go.RowKit
open Go.Maps (Keyed int_keyed keyOf_int_mk)
set_option maxRecDepth 100000

theorem lawI : Keyed Tryd.prog 3 := int_keyed Tryd.underlying3
theorem zeroU (w : World) : (zeroValue 34).run Tryd.prog w = .ok (.int .u64 0) w := by kernel_rfl
def u0 : DataW Unit := .lit (.int .u64 0)
/-- The map's datum holds just these timers. -/
structure Due (D : DataW Unit) (l : List Tm) : Prop where
  size : Maps.size D = l.length
  tm : ∀ i, i < l.length → D.atKey (.int .i64 (l.getD i .z).id) u0 = .lit (.int .u64 (l.getD i .z).tm)
  has : ∀ id, Maps.has D (.int .i64 id) = true ↔ hasId l id l.length
/-- The ids are numbers of 64 bits; the times are not past the last one. -/
def IdsOk (l : List Tm) : Prop := ∀ i, i < l.length → (Lit.int .i64 (l.getD i .z).id).wf = true
theorem wf_u64 {x : Int} (h0 : 0 ≤ x) (h1 : x < 18446744073709551616) : (Lit.int .u64 x).wf = true := by
  have e1 : IntKind.u64.min = 0 := by decide
  have e2 : IntKind.u64.max = 18446744073709551615 := by decide
  simp only [Lit.wf, e1, e2, Bool.and_eq_true, decide_eq_true_eq]
  omega
theorem of_wf_u64 {x : Int} (h : (Lit.int .u64 x).wf = true) : 0 ≤ x ∧ x < 18446744073709551616 := by
  have e1 : IntKind.u64.min = 0 := by decide
  have e2 : IntKind.u64.max = 18446744073709551615 := by decide
  simp only [Lit.wf, e1, e2, Bool.and_eq_true, decide_eq_true_eq] at h
  omega
def mapOf (D : DataW Unit) (w : World) (bm n : Nat) : Prop := w.ownsMap Tryd.prog 3 (plainElem Tryd.prog 34) bm n D
/-- What is due, behind the wheel's map. -/
def DueAt (w : World) (B : Nat) (dm : Value) (l : List Tm) : Prop :=
  (dm = .map none ∧ l = []) ∨ ∃ bm D, dm = .map (some bm) ∧ B ≤ bm ∧ mapOf D w bm (Maps.size D) ∧ Due D l
theorem ownsMap_tight {P : Program} {k : TypeId} {R : Value → Option (DataW Unit × List MemPlace)} {w : World} {b n : Nat} {D : DataW Unit} (h : w.ownsMap P k R b n D) : w.ownsMap P k R b (Maps.size D) D := by
  obtain ⟨es, clock, hb, F, hs, rfl⟩ := h
  exact ⟨es, clock, hb, F, by simp [Maps.size, length_read], rfl⟩
theorem DueAt.kept {w w' : World} {B : Nat} {dm : Value} {l : List Tm} (h : DueAt w B dm l) (hb : ∀ k es c, B ≤ k → w.heap[k]? = some (.map es c) → w'.heap[k]? = w.heap[k]?) : DueAt w' B dm l := by
  rcases h with h | ⟨bm, D, h1, h2, ⟨es, clock, h3, h4⟩, h5⟩
  · exact Or.inl h
  · exact Or.inr ⟨bm, D, h1, h2, ⟨es, clock, (hb bm es clock h2 h3).trans h3, h4⟩, h5⟩
theorem due_nil : Due (.map []) [] := ⟨rfl, fun i h => by simp at h, fun id => by
  constructor
  · intro h; simp [Maps.has] at h
  · rintro ⟨j, hj, _⟩; simp at hj⟩
theorem hasId_snoc (l : List Tm) (t : Tm) (id : Int) : hasId (l ++ [t]) id (l ++ [t]).length ↔ hasId l id l.length ∨ t.id = id := by
  have hl : (l ++ [t]).length = l.length + 1 := by simp
  constructor
  · rintro ⟨j, hj, e⟩
    rw [hl] at hj
    rw [getD_snoc l t j hj] at e
    by_cases h : j < l.length
    · rw [if_pos h] at e; exact Or.inl ⟨j, h, e⟩
    · rw [if_neg h] at e; exact Or.inr e
  · rintro (⟨j, hj, e⟩ | e)
    · exact ⟨j, by omega, by rw [getD_snoc l t j (by omega), if_pos hj]; exact e⟩
    · exact ⟨l.length, by omega, by rw [getD_snoc l t l.length (by omega), if_neg (by omega)]; exact e⟩
theorem hasId_cut {l : List Tm} {b : Nat} (hb : b < l.length) (ha : Apart l) (id : Int) : hasId (l.take b ++ l.drop (b + 1)) id (l.take b ++ l.drop (b + 1)).length ↔ hasId l id l.length ∧ id ≠ (l.getD b .z).id := by
  have hl := length_cut l b hb
  constructor
  · rintro ⟨j, hj, e⟩
    rw [getD_cut l b j hb] at e
    refine ⟨⟨_, ?_, e⟩, ?_⟩
    · split <;> omega
    · rintro rfl
      by_cases h : j < b
      · rw [if_pos h] at e; exact ha j b h hb e
      · rw [if_neg h] at e; exact ha b (j + 1) (by omega) (by omega) e.symm
  · rintro ⟨⟨j, hj, e⟩, hne⟩
    have hjb : j ≠ b := fun h => hne (by rw [← e, h])
    by_cases h : j < b
    · exact ⟨j, by omega, by rw [getD_cut l b j hb, if_pos h]; exact e⟩
    · exact ⟨j - 1, by omega, by rw [getD_cut l b (j - 1) hb, if_neg (by omega), show j - 1 + 1 = j by omega]; exact e⟩
theorem keyLit (id : Int) : WideAt.IsKeyLit (.int .i64 id) := by simp [WideAt.IsKeyLit]
theorem Due.put {D : DataW Unit} {l : List Tm} (h : Due D l) (ht : Maps.Tidy D) (t : Tm) (hn : ¬ hasId l t.id l.length) : Due (D.put (.int .i64 t.id) (.lit (.int .u64 t.tm))) (l ++ [t]) := by
  have hno : Maps.has D (.int .i64 t.id) = false := by
    cases e : Maps.has D (.int .i64 t.id)
    · rfl
    · exact absurd ((h.has t.id).1 e) hn
  have hk := keyLit t.id
  refine ⟨?_, fun i hi => ?_, fun id => ?_⟩
  · rw [Maps.size_put ht, hno, h.size]; simp
  · rw [List.length_append, List.length_singleton] at hi
    rw [getD_snoc l t i hi]
    by_cases hil : i < l.length
    · rw [if_pos hil, Maps.atKey_put_other (fun e => hn ⟨i, hil, by injection e⟩)]
      exact h.tm i hil
    · rw [if_neg hil, Maps.atKey_put_same ht.isMap hk]
  · rw [hasId_snoc]
    by_cases e : id = t.id
    · subst e
      rw [Maps.has_put_same ht.isMap hk]; simp
    · rw [Maps.has_put_other (fun e2 => e (by injection e2)), h.has id]
      constructor
      · exact Or.inl
      · rintro (h2 | h2)
        · exact h2
        · exact absurd h2.symm e
theorem Due.cut {D : DataW Unit} {l : List Tm} (h : Due D l) (ht : Maps.Tidy D) (ha : Apart l) {b : Nat} (hb : b < l.length) : Due (D.del (.int .i64 (l.getD b .z).id)) (l.take b ++ l.drop (b + 1)) := by
  have hyes : Maps.has D (.int .i64 (l.getD b .z).id) = true := (h.has _).2 ⟨b, hb, rfl⟩
  have hl := length_cut l b hb
  refine ⟨?_, fun i hi => ?_, fun id => ?_⟩
  · have := Maps.size_del (k := .int .i64 (l.getD b .z).id) ht
    rw [hyes, h.size, if_pos rfl] at this
    omega
  · rw [getD_cut l b i hb]
    rw [Maps.atKey_del_other]
    · exact h.tm _ (by split <;> omega)
    · intro e
      injection e with _ e
      by_cases h1 : i < b
      · rw [if_pos h1] at e; exact ha i b h1 hb e
      · rw [if_neg h1] at e; exact ha b (i + 1) (by omega) (by omega) e.symm
  · rw [hasId_cut hb ha]
    by_cases e : id = (l.getD b .z).id
    · subst e; rw [Maps.has_del_same]; simp
    · rw [Maps.has_del_other (fun e2 => e (by injection e2)), h.has id]; exact ⟨fun h2 => ⟨h2, e⟩, fun h2 => h2.1⟩
end Go.Proofs.YtgdcjccbdmcebaaDoor
