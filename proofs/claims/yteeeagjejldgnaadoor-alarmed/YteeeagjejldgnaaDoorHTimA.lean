/- The document's wheel: Next, Advance. -/
import Derived.Test.YteeeagjejldgnaaDoorHTimC
import Derived.Test.YteeeagjejldgnaaDoorHTimF
import Derived.Deep.CutRange
namespace Go.Proofs.YteeeagjejldgnaaDoor
open Go.RowKit
set_option maxRecDepth 100000
attribute [local go_sem ↓] Go.wp_at_zero Go.wp_at_succ

/-- What Next answers. -/
def NxtIs (l : List Tm) (t : Int) (ok : Bool) : Prop :=
  (l.length = 0 ∧ t = 0 ∧ ok = false) ∨ ∃ b, bestN l l.length = some b ∧ t = (l.getD b default).tm ∧ ok = true

set_option maxHeartbeats 2000000 in
theorem rnext_any' (w : World) (M B : Nat) (now : Int) (a : Option Addr) (cap : Nat) (l : List Tm) (sq : Int) (h : RwAt w M B now a cap l sq) (hr : Rising l) :
    Calls Tryd.prog 39 #[.pointer (some ⟨M, 0, none⟩)] w fun e w' => ∃ t ok, e = .returned (.tuple #[.int .u64 t, .bool ok]) ∧ NxtIs l t ok ∧ Below w.heap.size w w' := by
  have H := Hid.mk h
  have HR := Hid.mk hr
  clear h hr
  go_enter Tryd.func39, Tryd.ntmps39
  go_wp2_with fail
  refine (rfirst_any w M B now a cap l sq H.out HR.out).mono ?_
  rintro e w1 ⟨rfl, hb1⟩
  have HB1 := Hid.mk hb1
  have c1 := (H.out.keep hb1).c1
  have HT := tms_of_own (H.out.keep hb1).own
  clear hb1
  cases hb : bestN l l.length with
  | none =>
    have hl := bestN_none hb
    have HL := Hid.mk hl
    simp only [bestI]
    clear hb HT hl
    go_wp2_with fail
    go_ret2
    exact ⟨0, false, rfl, Or.inl ⟨HL.out, rfl, rfl⟩, HB1.out⟩
  | some b =>
    obtain ⟨h1, _, _⟩ := bestN_some hb
    rcases HT with h0 | ⟨b0, o, rfl, hcap, hmax, _, hc⟩
    · omega
    obtain ⟨_, x1, _⟩ := hc b h1
    unfold maxLen at hmax
    have HBN := Hid.mk hb
    simp only [bestI]
    obtain ⟨tb, htb⟩ : ∃ x, x = (l.getD b default).tm := ⟨_, rfl⟩
    have HTB := Hid.mk htb
    rw [← htb] at x1
    clear hb hc htb
    go_wp2_with fail
    go_ret2
    exact ⟨tb, true, rfl, Or.inr ⟨b, HBN.out, HTB.out, rfl⟩, HB1.out⟩

/-- What has come: id and time. -/
structure Fr where
  id : Int
  tm : Int
def frV (t : Fr) : List Value := [.int .i64 t.id, .int .u64 t.tm]
def frL (l : List Fr) : List Value := l.flatMap frV
theorem frL_append (a b : List Fr) : frL (a ++ b) = frL a ++ frL b := by simp [frL]
/-- The time behind so many ticks. -/
def advTo (now ticks : Int) : Int := if now + ticks > 4611686018427387904 then 4611686018427387904 else now + ticks
/-- One timer behind the other comes, that is due first and due by then. -/
inductive AdvR (l : List Tm) (tt : Int) : List Fr → List Tm → Prop
  | base : AdvR l tt [] l
  | step (outs : List Fr) (l' : List Tm) (b : Nat) : AdvR l tt outs l' → bestN l' l'.length = some b → (l'.getD b default).tm ≤ tt → AdvR l tt (outs ++ [⟨(l'.getD b default).id, (l'.getD b default).tm⟩]) (l'.take b ++ l'.drop (b + 1))
/-- No two timers have one id. -/
def Apart (l : List Tm) : Prop := ∀ i j, i < j → j < l.length → (l.getD i default).id ≠ (l.getD j default).id
theorem getD_cut (l : List Tm) (b i : Nat) (hb : b < l.length) : (l.take b ++ l.drop (b + 1)).getD i default = l.getD (if i < b then i else i + 1) default := by
  rw [List.getD_eq_getElem?_getD, List.getD_eq_getElem?_getD]
  congr 1
  by_cases h : i < b
  · rw [if_pos h, List.getElem?_append_left (by rw [List.length_take]; omega), List.getElem?_take_of_lt h]
  · rw [if_neg h, List.getElem?_append_right (by rw [List.length_take]; omega), List.getElem?_drop, List.length_take]
    congr 1
    omega
theorem length_cut (l : List Tm) (b : Nat) (hb : b < l.length) : (l.take b ++ l.drop (b + 1)).length + 1 = l.length := by
  rw [List.length_append, List.length_take, List.length_drop]; omega
theorem Rising.cut {l : List Tm} (h : Rising l) {b : Nat} (hb : b < l.length) : Rising (l.take b ++ l.drop (b + 1)) := by
  intro i j hij hj
  have hl := length_cut l b hb
  rw [getD_cut l b i hb, getD_cut l b j hb]
  by_cases h1 : i < b <;> by_cases h2 : j < b <;> simp only [h1, h2, if_true, if_false] <;> exact h _ _ (by omega) (by omega)
theorem Apart.cut {l : List Tm} (h : Apart l) {b : Nat} (hb : b < l.length) : Apart (l.take b ++ l.drop (b + 1)) := by
  intro i j hij hj
  have hl := length_cut l b hb
  rw [getD_cut l b i hb, getD_cut l b j hb]
  by_cases h1 : i < b <;> by_cases h2 : j < b <;> simp only [h1, h2, if_true, if_false] <;> exact h _ _ (by omega) (by omega)
theorem CanIs.at' {l l' : List Tm} {x : Int} {b : Nat} (ha : Apart l) (hb : b < l.length) (h : CanIs l (l.getD b default).id x l') : x = 0 ∧ l' = l.take b ++ l.drop (b + 1) := by
  rcases h with ⟨i, hi, he, hf, hx, hl⟩ | ⟨hn, _⟩
  · have : i = b := by
      rcases Nat.lt_trichotomy i b with h | h | h
      · exact absurd he (ha i b h hb)
      · exact h
      · exact absurd rfl (hf b h)
    subst this
    exact ⟨hx, hl⟩
  · exact absurd ⟨b, hb, rfl⟩ hn
theorem info63 : (Tryd.prog.info? 63).map (fun i => (i.zero, i.size, i.bytes)) = some (some (.agg #[.int .i64 0, .int .u64 0]), 2, 16) := by kernel_rfl
theorem own_F {w w' : World} {M B : Nat} {ob : Option Nat} {e : TypeId} {size n : Nat} {v : Value} {xs : List Value} (h : w.ownsRow B e size v n xs) (hf : RwF w w' M ob) (hM : M < B) (ho : ∀ z, v.ownBlock = some z → some z ≠ ob) : w'.ownsRow B e size v n xs := by
  obtain ⟨h1, h2⟩ := h
  refine ⟨h1, ?_⟩
  rcases h2 with h2 | ⟨g, cap, cur, rfl, hg, hh, hr⟩
  · exact Or.inl h2
  · refine Or.inr ⟨g, cap, cur, rfl, hg, ?_, hr⟩
    rw [hf.block g (by obtain ⟨hlt, _⟩ := Array.getElem?_eq_some_iff.1 hh; exact hlt) (by omega) (ho g rfl)]
    exact hh
end Go.Proofs.YteeeagjejldgnaaDoor
