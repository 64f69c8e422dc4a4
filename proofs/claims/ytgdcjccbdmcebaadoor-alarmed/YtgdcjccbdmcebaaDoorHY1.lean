/- Both wheels side by side: one list; what each call answers is told by it. -/
import Derived.Test.YtgdcjccbdmcebaaDoorHX3
namespace Go.Proofs.YtgdcjccbdmcebaaDoor
open Go.RowKit
set_option maxRecDepth 100000

theorem SetIs.uniq {l l1 l2 : List Tm} {now sq id tm x y s1 s2 : Int} (h : SetIs l now sq id tm x l1 s1) (g : SetIs l now sq id tm y l2 s2) : x = y ∧ l1 = l2 ∧ s1 = s2 := by
  rcases h with ⟨a1, rfl, rfl, rfl⟩ | ⟨a1, a2, rfl, rfl, rfl⟩ | ⟨a1, a2, rfl, rfl, rfl⟩ <;> rcases g with ⟨b1, rfl, rfl, rfl⟩ | ⟨b1, b2, rfl, rfl, rfl⟩ | ⟨b1, b2, rfl, rfl, rfl⟩
  all_goals first
    | exact ⟨rfl, rfl, rfl⟩
    | (exfalso; exact b1 a1)
    | (exfalso; exact a1 b1)
    | (exfalso; exact b2 a2)
    | (exfalso; exact a2 b2)
theorem CanIs.uniq {l l1 l2 : List Tm} {id x y : Int} (h : CanIs l id x l1) (g : CanIs l id y l2) : x = y ∧ l1 = l2 := by
  rcases h with ⟨i, a1, a2, a3, rfl, rfl⟩ | ⟨a1, rfl, rfl⟩ <;> rcases g with ⟨j, b1, b2, b3, rfl, rfl⟩ | ⟨b1, rfl, rfl⟩
  · have : i = j := by
      rcases Nat.lt_trichotomy i j with e | e | e
      · exact absurd a2 (b3 i e)
      · exact e
      · exact absurd b2 (a3 j e)
    subst this
    exact ⟨rfl, rfl⟩
  · exact absurd ⟨i, a1, a2⟩ b1
  · exact absurd ⟨j, b1, b2⟩ a1
  · exact ⟨rfl, rfl⟩
theorem NxtIs.uniq {l : List Tm} {t u : Int} {o p : Bool} (h : NxtIs l t o) (g : NxtIs l u p) : t = u ∧ o = p := by
  rcases h with ⟨a1, rfl, rfl⟩ | ⟨b, a1, rfl, rfl⟩ <;> rcases g with ⟨b1, rfl, rfl⟩ | ⟨c, b1, rfl, rfl⟩
  · exact ⟨rfl, rfl⟩
  · have := (bestN_some b1).1; omega
  · have := (bestN_some a1).1; omega
  · rw [a1] at b1
    cases b1
    exact ⟨rfl, rfl⟩
theorem AdvR.same {l : List Tm} {tt : Int} {o1 : List Fr} {l1 : List Tm} (h : AdvR l tt o1 l1) : ∀ {o2 : List Fr} {l2 : List Tm}, AdvR l tt o2 l2 → o1.length = o2.length → o1 = o2 ∧ l1 = l2 := by
  induction h with
  | base =>
    intro o2 l2 g e
    cases g with
    | base => exact ⟨rfl, rfl⟩
    | step => simp at e
  | step outs l' b hr hb hle ih =>
    intro o2 l2 g e
    cases g with
    | base => simp at e
    | step outs2 l2' b2 hr2 hb2 hle2 =>
      obtain ⟨e1, e2⟩ := ih hr2 (by simpa using e)
      subst e1 e2
      rw [hb] at hb2
      cases hb2
      exact ⟨rfl, rfl⟩
theorem AdvR.mid {l : List Tm} {tt : Int} {o : List Fr} {l' : List Tm} (h : AdvR l tt o l') : ∀ n, n < o.length → ∃ o2 l2 b, AdvR l tt o2 l2 ∧ o2.length = n ∧ bestN l2 l2.length = some b ∧ (l2.getD b .z).tm ≤ tt := by
  induction h with
  | base => intro n hn; simp at hn
  | step outs l' b hr hb hle ih =>
    intro n hn
    rw [List.length_append, List.length_singleton] at hn
    by_cases e : n < outs.length
    · exact ih n e
    · exact ⟨outs, l', b, hr, by omega, hb, hle⟩
theorem AdvR.uniq {l : List Tm} {tt : Int} {o1 o2 : List Fr} {l1 l2 : List Tm} (h : AdvR l tt o1 l1) (g : AdvR l tt o2 l2) (e1 : ∀ b, bestN l1 l1.length = some b → tt < (l1.getD b .z).tm) (e2 : ∀ b, bestN l2 l2.length = some b → tt < (l2.getD b .z).tm) : o1 = o2 ∧ l1 = l2 := by
  rcases Nat.lt_trichotomy o1.length o2.length with e | e | e
  · obtain ⟨o, l', b, h1, h2, h3, h4⟩ := g.mid _ e
    obtain ⟨rfl, rfl⟩ := h1.same h h2
    have := e1 b h3
    omega
  · exact h.same g e
  · obtain ⟨o, l', b, h1, h2, h3, h4⟩ := h.mid _ e
    obtain ⟨rfl, rfl⟩ := h1.same g h2
    have := e2 b h3
    omega
theorem RwAt.pf {w w' : World} {P M B : Nat} {now : Int} {a : Option Addr} {cap : Nat} {l : List Tm} {sq : Int} (h : RwAt w M B now a cap l sq) (hf : PF w w' P B) (hPM : M ≠ P) (hPB : P < B) : RwAt w' M B now a cap l sq := by
  have hM := hf.block M (Nat.lt_of_lt_of_le h.mb h.bs) hPM (Or.inl h.mb)
  exact ⟨(World.cell?_of_block (a := ⟨M, 0, none⟩) hM).trans h.c0, (World.cell?_of_block (a := ⟨M, 1, none⟩) hM).trans h.c1, (World.cell?_of_block (a := ⟨M, 2, none⟩) hM).trans h.c2, (World.frozen?_of_block (a := ⟨M, 0, none⟩) hM).trans h.f0, (World.frozen?_of_block (a := ⟨M, 1, none⟩) hM).trans h.f1, (World.frozen?_of_block (a := ⟨M, 2, none⟩) hM).trans h.f2,
    own_kept h.own (fun k hk he _ => by
      obtain ⟨cs, fr, e⟩ := he
      exact hf.block k (lt_of_block e) (by omega) (Or.inr ⟨_, _, _, e, by decide⟩)), h.mb, Nat.le_trans h.bs hf.size, h.few⟩
theorem WhAt.rf {w w' : World} {P M B n : Nat} {l : List Tm} {ob : Option Nat} (h : WhAt w P B n l) (hf : RwF w w' M ob) (hPM : P ≠ M) (hMB : M < B) (hPB : P < B) (hob : ∀ z, ob = some z → B ≤ z ∧ ∀ cs t fr, w.heap[z]? = some (.cells cs t fr) → t ≠ 3) (hob2 : ∀ z, ob = some z → ∀ es c, w.heap[z]? ≠ some (.map es c)) : WhAt w' P B n l := by
  obtain ⟨dm, rw_, wd, hp, hdue, hw⟩ := h.mem
  refine ⟨⟨dm, rw_, wd, hp.keepK hf.size (hf.block P (Nat.lt_of_lt_of_le hp.pb hp.bs) hPM (fun e => by have := (hob P e.symm).1; omega)) (fun k hk he => ?_), hdue.kept (fun k es c hk e => ?_), hw⟩, h.now_, h.few, h.later, h.ids, h.apart⟩
  · obtain ⟨cs, fr, e⟩ := he
    exact hf.block k (lt_of_block e) (by omega) (fun e2 => (hob k e2.symm).2 _ _ _ e rfl)
  · exact hf.block k (lt_of_block e) (by omega) (fun e2 => hob2 k e2.symm _ _ e)
theorem own_row {w : World} {B : Nat} {e : TypeId} {size n : Nat} {v : Value} {xs : List Value} (h : w.ownsRow B e size v n xs) : ∀ z, v.ownBlock = some z → ∃ cs, w.heap[z]? = some (.cells cs e (0, 0)) := by
  intro z hz
  rcases h.2 with ⟨rfl, _⟩ | ⟨g, cap, cur, rfl, hg, hh, _⟩
  · simp [Value.ownBlock] at hz
  · simp only [Value.ownBlock, Option.some.injEq] at hz
    subst hz
    exact ⟨_, hh⟩
theorem WhAt.rfO {w w' : World} {P M B n : Nat} {l l2 : List Tm} {now sq : Int} {a : Option Addr} {cap : Nat} (h : WhAt w P B n l) (hr : RwAt w M B now a cap l2 sq) (hf : RwF w w' M (Value.slice a l2.length cap).ownBlock) (hPM : P ≠ M) (hPB : P < B) : WhAt w' P B n l := by
  refine h.rf hf hPM hr.mb hPB (fun z hz => ⟨(hr.own.lt z hz).1, fun cs t fr e => ?_⟩) (fun z hz es c e => ?_)
  · obtain ⟨cs2, e2⟩ := own_row hr.own z hz
    rw [e] at e2
    simp at e2
    rw [e2.2.1]
    decide
  · obtain ⟨cs2, e2⟩ := own_row hr.own z hz
    rw [e] at e2
    cases e2
theorem WhAt.rfN {w w' : World} {P M B n : Nat} {l : List Tm} (h : WhAt w P B n l) (hf : RwF w w' M none) (hPM : P ≠ M) (hMB : M < B) (hPB : P < B) : WhAt w' P B n l :=
  h.rf hf hPM hMB hPB (fun z hz => by cases hz) (fun z hz => by cases hz)
/-- What a turn leaves: of the blocks ahead of B nothing but the wheels' own has turned. -/
structure TF (w w' : World) (P M B : Nat) : Prop where
  os : w'.os = w.os
  tape : w'.tape = w.tape
  output : w'.output = w.output
  size : w.heap.size ≤ w'.heap.size
  block : ∀ k, k < B → k ≠ P → k ≠ M → w'.heap[k]? = w.heap[k]?
theorem TF.refl (w : World) (P M B : Nat) : TF w w P M B := ⟨rfl, rfl, rfl, Nat.le_refl _, fun _ _ _ _ => rfl⟩
theorem TF.trans {x y z : World} {P M B : Nat} (h : TF x y P M B) (g : TF y z P M B) : TF x z P M B :=
  ⟨g.os.trans h.os, g.tape.trans h.tape, g.output.trans h.output, Nat.le_trans h.size g.size, fun k hk hP hM => (g.block k hk hP hM).trans (h.block k hk hP hM)⟩
theorem TF.pf {w w' : World} {P M B : Nat} (h : PF w w' P B) (hB : B ≤ w.heap.size) : TF w w' P M B := ⟨h.os, h.tape, h.output, h.size, fun k hk hP _ => h.block k (by omega) hP (Or.inl hk)⟩
theorem TF.rf {w w' : World} {P M B : Nat} {ob : Option Nat} (h : RwF w w' M ob) (hB : B ≤ w.heap.size) (hob : ∀ z, ob = some z → B ≤ z) : TF w w' P M B := ⟨h.os, h.tape, h.output, h.size, fun k hk _ hM => h.block k (by omega) hM (fun e => by have := hob k e.symm; omega)⟩
theorem TF.below {w w' : World} {P M B : Nat} (h : Below w.heap.size w w') (hB : B ≤ w.heap.size) : TF w w' P M B := ⟨h.os, h.tape, h.output, h.size, fun k hk _ _ => h.block k (by omega)⟩
theorem TabIn.tf {w w' : World} {P M B : Nat} (h : TabIn w) (hf : TF w w' P M B) (h1 : 1 < B) (h2 : 1 ≠ P) (h3 : 1 ≠ M) : TabIn w' := fun j hj =>
  (World.cell?_of_block (a := ⟨1, j, none⟩) (hf.block _ h1 h2 h3)).trans (h j hj)
theorem ErrTypeIn.tf {w w' : World} {P M B : Nat} (h : ErrTypeIn w) (hf : TF w w' P M B) (h1 : 0 < B) (h2 : 0 ≠ P) (h3 : 0 ≠ M) : ErrTypeIn w' :=
  (World.cell?_of_block (a := ⟨0, 0, none⟩) (hf.block _ h1 h2 h3)).trans h
/-- Both wheels, in blocks P and M. -/
structure Two (w : World) (P M B now : Nat) (l : List Tm) (sq : Int) : Prop where
  wh : WhAt w P B now l
  rw_ : ∃ a cap, RwAt w M B now a cap l sq
  good : Good l sq
  sq0 : 0 ≤ sq
  tab : TabIn w
  err : ErrTypeIn w
  pm : P ≠ M
  pb : P < B
  g1 : 1 < B ∧ 1 ≠ P ∧ 1 ≠ M
  g2 : 0 < B ∧ 0 ≠ P ∧ 0 ≠ M
end Go.Proofs.YtgdcjccbdmcebaaDoor
