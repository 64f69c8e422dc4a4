/- The program's wheel: what comes is told to a list; how much is left to do, as cells. -/
import Derived.Test.YtgdcjccbdmcebaaDoorHW8
import Derived.Test.YtgdcjccbdmcebaaDoorHTimV
namespace Go.Proofs.YtgdcjccbdmcebaaDoor
open Go.RowKit
set_option maxRecDepth 100000
attribute [local go_sem ↓] Go.wp_at_zero Go.wp_at_succ

/-- The captured list, in block C: these have come. -/
structure CameAt (w : World) (C B3 : Nat) (outs : List Fr) : Prop where
  cell : ∃ xa xc, w.heap[C]? = some (.cells #[.slice xa outs.length xc] 60 (0, 0)) ∧ w.ownsRow B3 63 2 (.slice xa outs.length xc) outs.length (frL outs) ∧ (outs = [] → xa = none)
  le : B3 ≤ w.heap.size
/-- What the call of it turns: C, and rows of what has come, from B3 on. -/
structure CF (w w' : World) (C B3 : Nat) : Prop where
  os : w'.os = w.os
  tape : w'.tape = w.tape
  output : w'.output = w.output
  size : w.heap.size ≤ w'.heap.size
  block : ∀ k, k < w.heap.size → k ≠ C → (k < B3 ∨ ∀ cs fr, w.heap[k]? ≠ some (.cells cs 63 fr)) → w'.heap[k]? = w.heap[k]?

set_option maxHeartbeats 4000000 in
theorem come_any (w : World) (C B3 : Nat) (id at_ : Int) (outs : List Fr) (h : CameAt w C B3 outs) (hlen : outs.length < 1048576) :
    Calls Tryd.prog 47 #[.int .i64 id, .int .u64 at_, .pointer (some ⟨C, 0, none⟩)] w fun e w' => e = .returned (.tuple #[]) ∧ CameAt w' C B3 (outs ++ [⟨id, at_⟩]) ∧ CF w w' C B3 := by
  obtain ⟨⟨xa, xc, hC, hown, _⟩, hle⟩ := h
  obtain ⟨i63, hi, hz0, hz1, hz2⟩ := info_parts info63
  have HI := Hid.mk (And.intro hi (And.intro hz0 (And.intro hz1 hz2)))
  have c0 := cell_of_one hC
  have hCs := lt_of_block hC
  have HO := Hid.mk hown
  have HC := Hid.mk hC
  have hal : Below w.heap.size w (w.alloc (.cells #[.int .i64 id, .int .u64 at_] 63)) := (Below.refl _ _).alloc (Nat.le_refl _) _
  have HAL := Hid.mk hal
  have hCo : Hid (some C ≠ (Value.slice xa outs.length xc).ownBlock) := Hid.mk fun e => by
    rcases HO.out.2 with ⟨e2, _⟩ | ⟨g, cap, cur, e2, _, hh, _⟩
    · rw [e2] at e; simp [Value.ownBlock] at e
    · rw [e2] at e
      simp only [Value.ownBlock, Option.some.injEq] at e
      subst e
      rw [HC.out] at hh
      simp at hh
  clear hC hown hal hi hz0 hz1 hz2
  go_enter Tryd.func47, Tryd.ntmps47
  go_wp2_with (at_builtin; refine wpList_append_own _ rfl _ _ 60 rfl B3 63 i63 _ 2 16 Tryd.underlying60 HI.out.1 HI.out.2.1 HI.out.2.2.1 HI.out.2.2.2 rfl (by decide) (.slice xa outs.length xc) outs.length (frL outs) rfl (HO.out.alloc _) ⟨w.heap.size, 0, none⟩ 1 1 [.int .i64 id, .int .u64 at_] rfl rfl (World.news_of_block (cs := #[.int .i64 id, .int .u64 at_]) (t := 63) (fr := (0, 0)) (heap_alloc_new w _)) (by simp [Value.oneCell']) (by unfold maxLen; omega) (by omega) (by simp; omega) ?_; intro v2 w2 hown2 hgrow2 hiff2; clear hiff2; obtain ⟨ya, yc, rfl⟩ := own_slice hown2; have hC2 : w2.heap[C]? = some (.cells #[.slice xa outs.length xc] 60 (0, 0)) := (hgrow2.block C (by simp; omega) hCo.out).trans ((HAL.out.block C hCs).trans HC.out); have q1 := cell_of_one hC2; have q2 := free_of_one hC2; have HX := Hid.mk (And.intro hown2 (And.intro hgrow2 hC2)); clear hown2 hgrow2 hC2)
  have hX := HX.out
  obtain ⟨x1, x2, x3⟩ := hX
  have hs2 : w.heap.size ≤ w2.heap.size := by have := x2.size; simp at this; omega
  have hb2 : ∀ k, k < w.heap.size → some k ≠ (Value.slice xa outs.length xc).ownBlock → w2.heap[k]? = w.heap[k]? := fun k hk hne => (x2.block k (by simp; omega) hne).trans (HAL.out.block k hk)
  go_end0
  refine ⟨rfl, ⟨⟨ya, yc, ?_, ?_, fun e => by simp at e⟩, by simp [World.setCell]; omega⟩, ⟨x2.os, x2.tape, x2.output, by simpa [World.setCell] using hs2, fun k hk hkC hr => ?_⟩⟩
  · rw [List.length_append, List.length_singleton]; exact one_setCell x3
  · rw [List.length_append, List.length_singleton, frL_append]
    refine ownsRow_setCell_other x1 (fun e => ?_) _
    rcases x1.2 with ⟨e2, _⟩ | ⟨g, cap, cur, e2, _, hh, _⟩
    · rw [e2] at e; simp [Value.ownBlock] at e
    · rw [e2] at e
      simp only [Value.ownBlock, Option.some.injEq] at e
      subst e
      rw [x3] at hh
      simp at hh
  · refine (Below.heap_setCell w2 ⟨C, 0, none⟩ _ k (by simpa using hkC)).trans (hb2 k hk (fun e => ?_))
    rcases HO.out.2 with ⟨e2, _⟩ | ⟨g, cap, cur, e2, hg, hh, _⟩
    · rw [e2] at e; simp [Value.ownBlock] at e
    · rw [e2] at e
      simp only [Value.ownBlock, Option.some.injEq] at e
      subst e
      rcases hr with hr | hr
      · omega
      · exact hr _ _ hh

/-! How much is left to do, out of the cells. -/
def cellLen : Option Value → Nat
  | some (.slice _ n _) => n
  | _ => 0
def meas (P : Nat) (w : World) : Nat := ((List.range 704).map (fun k => (k + 1) * cellLen (w.cell? ⟨P, 2 + k, none⟩))).sum
theorem sum_one (p : Nat) : ∀ N, ((List.range N).map (fun k => (k + 1) * (if p = k then 1 else 0))).sum = if p < N then p + 1 else 0 := by
  intro N
  induction N with
  | zero => simp
  | succ N ih =>
    rw [List.range_succ, List.map_append, List.sum_append, ih]
    simp only [List.map_cons, List.map_nil, List.sum_cons, List.sum_nil]
    by_cases e : p = N
    · subst e; simp
    · rw [if_neg e]
      by_cases h : p < N
      · rw [if_pos h, if_pos (by omega)]; omega
      · rw [if_neg h, if_neg (by omega)]; omega
theorem sum_add (f g : Nat → Nat) (l : List Nat) : (l.map (fun k => f k + g k)).sum = (l.map f).sum + (l.map g).sum := by
  induction l with
  | nil => rfl
  | cons a l ih => simp only [List.map_cons, List.sum_cons, ih]; omega
theorem sum_zero (l : List Nat) : (l.map (fun _ => 0)).sum = 0 := by
  induction l with
  | nil => rfl
  | cons a l ih => simp only [List.map_cons, List.sum_cons, ih]
theorem placed_cons_len (n : Nat) (t : Tm) (r : List Tm) (k : Nat) : (placed n (t :: r) k).length = (if pl n t.tm.toNat = k then 1 else 0) + (placed n r k).length := by
  unfold placed
  by_cases h : pl n t.tm.toNat = k
  · rw [if_pos h, List.filter_cons_of_pos (by simpa using h)]; simp; omega
  · rw [if_neg h, List.filter_cons_of_neg (by simpa using h)]; simp
theorem sum_todo (n : Nat) (hn : n ≤ 4611686018427387904) : ∀ l : List Tm, Later n l → ((List.range 704).map (fun k => (k + 1) * (placed n l k).length)).sum = todo n l := by
  intro l
  induction l with
  | nil =>
    intro _
    have : (fun k => (k + 1) * (placed n [] k).length) = fun _ => 0 := by funext k; simp [placed]
    rw [this, sum_zero]
    rfl
  | cons t r ih =>
    intro hL
    have h1 := ih (fun x hx => hL x (by simp [hx]))
    have ht := hL t (by simp)
    have hp := pl_lt n t.tm.toNat hn (by omega)
    have : (fun k => (k + 1) * (placed n (t :: r) k).length) = fun k => (k + 1) * (if pl n t.tm.toNat = k then 1 else 0) + (k + 1) * (placed n r k).length := by
      funext k; rw [placed_cons_len, Nat.mul_add]
    rw [this, sum_add, sum_one, h1, if_pos hp]
    rfl
theorem meas_eq {w : World} {P B n : Nat} {dm : Value} {rw_ : Nat → Value} {wd : Nat → Nat} {l : List Tm} (h : PwAt w P B n dm rw_ (placed n l) wd) (hn : n ≤ 4611686018427387904) (hL : Later n l) : meas P w = todo n l := by
  rw [← sum_todo n hn l hL]
  unfold meas
  congr 1
  apply List.map_congr_left
  intro k hk
  have hk2 := List.mem_range.1 hk
  rw [h.cs k hk2]
  obtain ⟨a, c, e⟩ := own_slice (h.own k hk2)
  rw [e]
  rfl
theorem WhAt.meas {w : World} {P B n : Nat} {l : List Tm} (h : WhAt w P B n l) : meas P w = todo n l := by
  obtain ⟨dm, rw_, wd, hp, _⟩ := h.mem
  exact meas_eq hp h.now_ h.later

/-! What stays. -/
theorem CameAt.pf {w w' : World} {P B C B3 : Nat} {outs : List Fr} (h : CameAt w C B3 outs) (hf : PF w w' P B) (hCP : C ≠ P) (hP : P < B3) : CameAt w' C B3 outs := by
  obtain ⟨⟨xa, xc, hC, hown, hnil⟩, hle⟩ := h
  refine ⟨⟨xa, xc, (hf.block C (lt_of_block hC) hCP (Or.inr ⟨_, _, _, hC, by decide⟩)).trans hC, own_kept hown (fun k hk he _ => ?_), hnil⟩, Nat.le_trans hle hf.size⟩
  obtain ⟨cs, fr, e⟩ := he
  exact hf.block k (lt_of_block e) (by omega) (Or.inr ⟨_, _, _, e, by decide⟩)
theorem WhAt.cf {w w' : World} {P B C B3 n : Nat} {l : List Tm} (h : WhAt w P B n l) (hf : CF w w' C B3) (hC : ∃ v, w.heap[C]? = some (.cells #[v] 60 (0, 0))) (hCP : C ≠ P) (hP : P < B3) : WhAt w' P B n l := by
  obtain ⟨dm, rw_, wd, hp, hdue, hw⟩ := h.mem
  obtain ⟨v, hv⟩ := hC
  have hPs : P < w.heap.size := Nat.lt_of_lt_of_le hp.pb hp.bs
  refine ⟨⟨dm, rw_, wd, hp.keepK hf.size (hf.block P hPs (Ne.symm hCP) (Or.inl hP)) (fun k _ he => ?_), hdue.kept (fun k es c _ e => ?_), hw⟩, h.now_, h.few, h.later, h.ids, h.apart⟩
  · obtain ⟨cs, fr, e⟩ := he
    refine hf.block k (lt_of_block e) (fun e2 => ?_) (Or.inr (fun cs2 fr2 e2 => ?_))
    · subst e2; rw [hv] at e; simp at e
    · rw [e] at e2; simp at e2
  · refine hf.block k (lt_of_block e) (fun e2 => ?_) (Or.inr (fun cs2 fr2 e2 => ?_))
    · subst e2; rw [hv] at e; simp at e
    · rw [e] at e2; simp at e2
theorem TabIn.pf {w w' : World} {P B : Nat} (h : TabIn w) (hf : PF w w' P B) (h1 : 1 < B) (h2 : 1 ≠ P) : TabIn w' := by
  intro j hj
  have h0 := h j hj
  exact (World.cell?_of_block (a := ⟨1, j, none⟩) (hf.block _ (World.block_lt_of_cell? _ _ h0) h2 (Or.inl h1))).trans h0
theorem TabIn.cf {w w' : World} {C B3 : Nat} (h : TabIn w) (hf : CF w w' C B3) (h1 : 1 < B3) (h2 : 1 ≠ C) : TabIn w' := by
  intro j hj
  have h0 := h j hj
  exact (World.cell?_of_block (a := ⟨1, j, none⟩) (hf.block _ (World.block_lt_of_cell? _ _ h0) h2 (Or.inl h1))).trans h0
/-- What the whole Advance may turn of the blocks ahead of B3. -/
structure PA (w w' : World) (P B B3 : Nat) : Prop where
  os : w'.os = w.os
  tape : w'.tape = w.tape
  output : w'.output = w.output
  size : w.heap.size ≤ w'.heap.size
  block : ∀ k, k < B3 → k ≠ P → (k < B ∨ ∃ cs t fr, w.heap[k]? = some (.cells cs t fr) ∧ t ≠ 3) → w'.heap[k]? = w.heap[k]?
theorem PA.refl (w : World) (P B B3 : Nat) : PA w w P B B3 := ⟨rfl, rfl, rfl, Nat.le_refl _, fun _ _ _ _ => rfl⟩
theorem PA.pf {w w1 w2 : World} {P B B3 : Nat} (h : PA w w1 P B B3) (hf : PF w1 w2 P B) (hB : B3 ≤ w.heap.size) : PA w w2 P B B3 := by
  refine ⟨hf.os.trans h.os, hf.tape.trans h.tape, hf.output.trans h.output, Nat.le_trans h.size hf.size, fun k hk hP hr => ?_⟩
  have e := h.block k hk hP hr
  refine (hf.block k (by have := h.size; omega) hP ?_).trans e
  rcases hr with hr | ⟨cs, t, fr, h1, h2⟩
  · exact Or.inl hr
  · exact Or.inr ⟨cs, t, fr, e.trans h1, h2⟩
theorem PA.cf {w w1 w2 : World} {P B B3 C : Nat} (h : PA w w1 P B B3) (hf : CF w1 w2 C B3) (hB : B3 ≤ w.heap.size) (hC : B3 ≤ C) : PA w w2 P B B3 := by
  refine ⟨hf.os.trans h.os, hf.tape.trans h.tape, hf.output.trans h.output, Nat.le_trans h.size hf.size, fun k hk hP hr => ?_⟩
  exact (hf.block k (by have := h.size; omega) (by omega) (Or.inl hk)).trans (h.block k hk hP hr)
end Go.Proofs.YtgdcjccbdmcebaaDoor
