/- Timers that were set and not cancelled, as two rows: when each is due, and whether it is left; and the wheel that holds them. -/
import Derived.Test.YtgdcjccbdmcebaaDoorHX3
import Derived.Test.YtgdcjccbdmcebaaDoorHPick
import Derived.Deep.OwnRows
namespace Go.Proofs.YtgdcjccbdmcebaaDoor
open Go.RowKit
set_option maxRecDepth 100000

/-- The wheel's timers are just those that are left, each at its time. -/
structure Live (n : Nat) (l : List Tm) (due : Nat → Int) (left : Nat → Bool) : Prop where
  mem : ∀ i, i < l.length → ∃ k : Nat, k < n ∧ (l.getD i .z).id = k ∧ left k = true ∧ (l.getD i .z).tm = due k
  all : ∀ k : Nat, k < n → left k = true → hasId l k l.length
theorem live_nil (n : Nat) (due : Nat → Int) : Live n [] due (fun _ => false) := ⟨fun i hi => by simp at hi, fun k _ h => by cases h⟩
theorem Live.has {n : Nat} {l : List Tm} {due : Nat → Int} {left : Nat → Bool} (h : Live n l due left) {k : Nat} (hk : k < n) : hasId l k l.length ↔ left k = true := by
  constructor
  · rintro ⟨j, hj, e⟩
    obtain ⟨k2, _, e2, e3, _⟩ := h.mem j hj
    rw [e] at e2
    have : k = k2 := by omega
    subst this
    exact e3
  · exact h.all k hk
theorem Live.set {n : Nat} {l : List Tm} {due : Nat → Int} {left : Nat → Bool} (h : Live n l due left) {k : Nat} (hk : k < n) (hl : left k = false) {d sq : Int} : Live n (l ++ [⟨k, d, sq⟩]) (fun j => if j = k then d else due j) (fun j => if j = k then true else left j) := by
  refine ⟨fun i hi => ?_, fun j hj hl2 => ?_⟩
  · rw [List.length_append, List.length_singleton] at hi
    rw [getD_snoc _ _ i hi]
    by_cases e : i < l.length
    · rw [if_pos e]
      obtain ⟨k2, h1, h2, h3, h4⟩ := h.mem i e
      have hne : k2 ≠ k := fun e2 => by subst e2; rw [hl] at h3; cases h3
      refine ⟨k2, h1, h2, ?_, ?_⟩
      · simp only [if_neg hne]; exact h3
      · simp only [if_neg hne]; exact h4
    · rw [if_neg e]
      exact ⟨k, hk, rfl, by simp, by simp⟩
  · rw [hasId_snoc]
    by_cases e : j = k
    · subst e; exact Or.inr rfl
    · simp only [if_neg e] at hl2
      exact Or.inl (h.all j hj hl2)
theorem Live.cut {n : Nat} {l : List Tm} {due : Nat → Int} {left : Nat → Bool} (h : Live n l due left) (ha : Apart l) {b k : Nat} (hb : b < l.length) (hid : (l.getD b .z).id = k) : Live n (l.take b ++ l.drop (b + 1)) due (fun j => if j = k then false else left j) := by
  have hl := length_cut l b hb
  refine ⟨fun i hi => ?_, fun j hj hl2 => ?_⟩
  · rw [getD_cut l b i hb]
    obtain ⟨k2, h1, h2, h3, h4⟩ := h.mem (if i < b then i else i + 1) (by split <;> omega)
    have hne : k2 ≠ k := fun e2 => by
      subst e2
      by_cases h5 : i < b
      · rw [if_pos h5] at h2; exact ha i b h5 hb (by rw [h2, hid])
      · rw [if_neg h5] at h2; exact ha b (i + 1) (by omega) (by omega) (by rw [h2, hid])
    exact ⟨k2, h1, h2, by simp only [if_neg hne]; exact h3, h4⟩
  · by_cases e : j = k
    · simp [e] at hl2
    · simp only [if_neg e] at hl2
      rw [hasId_cut hb ha]
      exact ⟨h.all j hj hl2, by rw [hid]; omega⟩
/-- What Cancel answers tells whether it was left. -/
theorem Live.can {n : Nat} {l l' : List Tm} {due : Nat → Int} {left : Nat → Bool} (h : Live n l due left) (ha : Apart l) {k : Nat} (hk : k < n) {x : Int} (hc : CanIs l k x l') : (x == 0) = left k ∧ Live n l' due (fun j => if j = k then false else left j) := by
  rcases hc with ⟨i, h1, h2, h3, rfl, rfl⟩ | ⟨h1, rfl, rfl⟩
  · refine ⟨?_, h.cut ha h1 h2⟩
    have := (h.has hk).1 ⟨i, h1, h2⟩
    rw [this]; rfl
  · have hf : left k = false := by
      cases e : left k
      · rfl
      · exact absurd ((h.has hk).2 e) h1
    refine ⟨by rw [hf]; rfl, ?_⟩
    have e : (fun j => if j = k then false else left j) = left := by
      funext j
      by_cases e : j = k
      · subst e; simp [hf]
      · simp [e]
    rw [e]; exact h
theorem rowIs_block {w : World} {b n : Nat} {t : TypeId} {f : Nat → Value} (h : w.rowIs b t n f) : ∃ cs fr, w.heap[b]? = some (.cells cs t fr) := by
  obtain ⟨c, h1, _⟩ := h
  exact ⟨c, _, h1⟩
theorem rowIs_pf {w w' : World} {P B b n : Nat} {t : TypeId} {f : Nat → Value} (h : w.rowIs b t n f) (hf : PF w w' P B) (ht : t ≠ 3) (hb : b ≠ P) : w'.rowIs b t n f := by
  obtain ⟨cs, fr, e⟩ := rowIs_block h
  exact h.of_block (hf.block b (lt_of_block e) hb (Or.inr ⟨_, _, _, e, ht⟩))
theorem WhAt.setO {w : World} {P B n : Nat} {l : List Tm} (h : WhAt w P B n l) {x : Addr} (hx : ∃ cs t fr, w.heap[x.block]? = some (.cells cs t fr) ∧ t ≠ 3) (hP : x.block ≠ P) (v : Value) : WhAt (w.setCell x v) P B n l := by
  obtain ⟨dm, rw_, wd, hp, hdue, hw⟩ := h.mem
  obtain ⟨cs, t, fr, e, ht⟩ := hx
  refine ⟨⟨dm, rw_, wd, hp.keepK (by simp [World.setCell]) (Below.heap_setCell w x v P (Ne.symm hP)) (fun k _ he => Below.heap_setCell w x v k (fun e2 => ?_)), hdue.kept (fun k es c _ e3 => Below.heap_setCell w x v k (fun e2 => ?_)), hw⟩, h.now_, h.few, h.later, h.ids, h.apart⟩
  · obtain ⟨cs2, fr2, e3⟩ := he
    rw [e2, e] at e3
    simp at e3
    exact ht e3.2.1
  · rw [e2, e] at e3
    cases e3
theorem below_pf {w w1 w2 : World} {P B : Nat} (h : Below w.heap.size w w1) (hf : PF w1 w2 P B) (hP : w.heap.size ≤ P) (hB : w.heap.size ≤ B) : Below w.heap.size w w2 :=
  ⟨hf.os.trans h.os, hf.tape.trans h.tape, hf.output.trans h.output, Nat.le_trans h.size hf.size, fun k hk => (hf.block k (Nat.lt_of_lt_of_le hk h.size) (by omega) (Or.inl (by omega))).trans (h.block k hk)⟩

/-- In the midst of the law: the wheel in P; when each is due in Bd; which are left in Bl. -/
structure AlR (w0 wr : World) (P B Bd Bl n now : Nat) (l : List Tm) (due : Nat → Int) (left : Nat → Bool) : Prop where
  wh : WhAt wr P B now l
  rd : wr.rowIs Bd 34 n (fun j => .int .u64 (due j))
  rl : wr.rowIs Bl 4 n (fun j => .bool (left j))
  live : Live n l due left
  bl : Below w0.heap.size w0 wr
theorem AlR.pf {w0 wr w' : World} {P B Bd Bl n now now' : Nat} {l l' : List Tm} {due due' : Nat → Int} {left left' : Nat → Bool} (h : AlR w0 wr P B Bd Bl n now l due left) (hf : PF wr w' P B) (hw : WhAt w' P B now' l') (hl : Live n l' due' left')
    (hd : ∀ j, j < n → due j = due' j) (hP : w0.heap.size ≤ P) (hB : w0.heap.size ≤ B) (h1 : Bd ≠ P) (h2 : Bl ≠ P) : w'.rowIs Bd 34 n (fun j => .int .u64 (due' j)) ∧ w'.rowIs Bl 4 n (fun j => .bool (left j)) ∧ Below w0.heap.size w0 w' ∧ WhAt w' P B now' l' ∧ Live n l' due' left' :=
  ⟨(rowIs_pf h.rd hf (by decide) h1).congr (fun j hj => by rw [hd j hj]), rowIs_pf h.rl hf (by decide) h2, below_pf h.bl hf hP hB, hw, hl⟩
theorem AlR.below {w0 wr w' : World} {P B Bd Bl n now : Nat} {l : List Tm} {due : Nat → Int} {left : Nat → Bool} (h : AlR w0 wr P B Bd Bl n now l due left) (hb : Below wr.heap.size wr w') : AlR w0 w' P B Bd Bl n now l due left :=
  ⟨h.wh.keep hb, h.rd.of_block (hb.block _ h.rd.lt), h.rl.of_block (hb.block _ h.rl.lt), h.live, h.bl.trans (hb.mono h.bl.size)⟩
/-! What an advance hands out, one by one. -/
theorem AdvR.steps {l : List Tm} {tt : Int} {o : List Fr} {l' : List Tm} (h : AdvR l tt o l') : ∀ i, i < o.length → ∃ l2 b, AdvR l tt (o.take i) l2 ∧ bestN l2 l2.length = some b ∧ (l2.getD b .z).tm ≤ tt ∧ o[i]? = some ⟨(l2.getD b .z).id, (l2.getD b .z).tm⟩ := by
  induction h with
  | base => intro i hi; simp at hi
  | step outs l1 b hr hb hle ih =>
    intro i hi
    rw [List.length_append, List.length_singleton] at hi
    by_cases e : i < outs.length
    · obtain ⟨l2, b2, h1, h2, h3, h4⟩ := ih i e
      refine ⟨l2, b2, ?_, h2, h3, ?_⟩
      · rw [List.take_append_of_le_length (by omega)]; exact h1
      · rw [List.getElem?_append_left e]; exact h4
    · have e2 : i = outs.length := by omega
      subst e2
      refine ⟨l1, b, ?_, hb, hle, ?_⟩
      · rw [List.take_append_of_le_length (Nat.le_refl _), List.take_length]; exact hr
      · simp
end Go.Proofs.YtgdcjccbdmcebaaDoor
