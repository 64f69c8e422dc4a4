/- The program's lists of numbers, read; and the end of the bytes. -/
import Derived.Test.YtgdcjccbdmcebaaDoorWDecS
namespace Go.Proofs.YtgdcjccbdmcebaaDoor
open Go.RowKit
set_option maxRecDepth 100000

/-- The panic that tells a place. -/
abbrev badP (p : Nat) : Ending := .panicked [{ v := .iface 171 (.int .i64 (p : Nat)), recovered := false }]

theorem RTo.grown {w w' : World} {R : Nat} (h : RTo w w' R) : w.grownBy w' (some R) := ⟨h.os, h.tape, h.output, by rw [h.size]; exact Nat.le_refl _, fun k _ hk => h.block k (fun e => hk (by rw [e]))⟩
theorem grown_trans {a b c : World} {R : Nat} (h : a.grownBy b (some R)) (h2 : b.grownBy c (some R)) : a.grownBy c (some R) :=
  ⟨h2.os.trans h.os, h2.tape.trans h.tape, h2.output.trans h.output, Nat.le_trans h.size h2.size, fun k hk hr => (h2.block k (Nat.lt_of_lt_of_le hk h.size) hr).trans (h.block k hk hr)⟩
theorem grown_refl (a : World) (R : Option Nat) : a.grownBy a R := ⟨rfl, rfl, rfl, Nat.le_refl _, fun _ _ _ => rfl⟩
theorem BytesAt.grown {w w' : World} {R : Nat} {a : Option Addr} {n cap : Nat} {f : Nat → Nat} (h : BytesAt w a n cap f) (hR : ∀ b o, a = some ⟨b, o, none⟩ → b ≠ R) (ht : w.grownBy w' (some R)) : BytesAt w' a n cap f := by
  rcases h with h0 | ⟨b, o, rfl, h1, h2, h3, h4⟩
  · exact Or.inl h0
  · have hr := hR b o rfl
    exact Or.inr ⟨b, o, rfl, h1, h2, Nat.lt_of_lt_of_le h3 ht.size, fun k hk => ⟨(World.cell?_of_block (ht.block b h3 (by simpa using hr))).trans (h4 k hk).1, (h4 k hk).2⟩⟩

theorem grown_row {a b c : World} {R : Nat} {o : Obj} {r : Option Nat} (h : a.grownBy b (some R)) (h2 : (b.alloc o).grownBy c r) (hr : ∀ z, r = some z → a.heap.size ≤ z) : a.grownBy c (some R) := by
  have h3 : Below b.heap.size b (b.alloc o) := (Below.refl _ _).alloc (Nat.le_refl _) _
  refine ⟨h2.os.trans h.os, h2.tape.trans h.tape, h2.output.trans h.output, Nat.le_trans h.size (Nat.le_trans h3.size h2.size), fun k hk hkr => ?_⟩
  have hkb := Nat.lt_of_lt_of_le hk h.size
  rw [h2.block k (Nat.lt_of_lt_of_le hkb h3.size) (fun e => by have := hr k e.symm; omega), h3.block k hkb, h.block k hk hkr]
theorem PdAt.grown {w w' : World} {R : Nat} {a : Option Addr} {n cap : Nat} {p : Int} {o : Obj} {r : Option Nat} (h : PdAt w R a n cap p) (hR : R < w.heap.size) (hg : (w.alloc o).grownBy w' r) (hr : some R ≠ r) : PdAt w' R a n cap p := by
  have h3 : Below w.heap.size w (w.alloc o) := (Below.refl _ _).alloc (Nat.le_refl _) _
  have e : w'.heap[R]? = w.heap[R]? := (hg.block R (Nat.lt_of_lt_of_le hR h3.size) hr).trans (h3.block R hR)
  exact ⟨(World.cell?_of_block (a := ⟨R, 0, none⟩) e).trans h.c0, (World.cell?_of_block (a := ⟨R, 1, none⟩) e).trans h.c1, (World.frozen?_of_block (a := ⟨R, 1, none⟩) e).trans h.f1⟩

set_option maxHeartbeats 1000000 in
theorem pend_any (w : World) (R : Nat) (a : Option Addr) (n cap : Nat) (p : Nat) (hn : n ≤ maxLen) (hp : p ≤ n) (h : PdAt w R a n cap p) :
    Calls Tryd.prog 95 #[.pointer (some ⟨R, 0, none⟩)] w fun e w' => ((p < n ∧ e = badP p) ∨ (n ≤ p ∧ e = .returned (.tuple #[]))) ∧ RTo w w' R := by
  unfold maxLen at hn
  obtain ⟨c0, c1, f1⟩ := h
  have HR : Hid (∀ q, RTo w (w.drewN q) R) := Hid.mk fun q => (RTo.refl _ _).drewN q
  by_cases h1 : p < n
  · go_enter Tryd.func95, Tryd.ntmps95
    go_wp2_with fail
    go_quiet (fail)
    go_wp2_with fail
    exact ⟨rfl, Or.inl ⟨h1, rfl⟩, HR.out _⟩
  · obtain rfl : p = n := by omega
    go_enter Tryd.func95, Tryd.ntmps95
    go_wp2_with fail
    go_quiet (fail)
    go_wp2_with fail
    go_end0
    exact ⟨Or.inr ⟨Nat.le_refl _, rfl⟩, HR.out _⟩

/-- The list that is read of as many numbers as the first one tells; or the panic. -/
def PlistIs (B : Nat) (w' : World) (R : Nat) (a : Option Addr) (n cap : Nat) (f : Nat → Nat) (r : RS) (e : Ending) : Prop :=
  (∃ q s la lc, nxN n f (1 + nxV n f r) r = .good q s ∧ q ≤ n ∧ e = .returned (.slice la (nxV n f r) lc) ∧ w'.ownsRow B 3 1 (.slice la (nxV n f r) lc) (nxV n f r) (intsL (nxV n f r) fun k => nxV n f (nxN n f (1 + k) r)) ∧ PdAt w' R a n cap (q : Nat)) ∨
  (∃ s, nxN n f (1 + nxV n f r) r = .bad s ∧ e = badP s)

set_option maxHeartbeats 4000000 in
theorem plist_any (w : World) (R : Nat) (a : Option Addr) (n cap : Nat) (f : Nat → Nat) (p s : Nat) (hRB : R < w.heap.size) (hn : n ≤ maxLen) (hp : p ≤ n) (h : PdAt w R a n cap p) (hR : ∀ b o, a = some ⟨b, o, none⟩ → b ≠ R) (hb : BytesAt w a n cap f) :
    Calls Tryd.prog 94 #[.pointer (some ⟨R, 0, none⟩), .func (.func 91) #[.pointer (some ⟨R, 0, none⟩)] #[]] w fun e w' => PlistIs w.heap.size w' R a n cap f (.good p s) e ∧ w.grownBy w' (some R) := by
  obtain ⟨i3, hi3, hz30, hz31, hz32⟩ := info_parts info3
  have HI3 := Hid.mk (And.intro hi3 (And.intro hz30 (And.intro hz31 hz32)))
  have HB := Hid.mk hb
  have HRR := Hid.mk hR
  clear hi3 hz30 hz31 hz32 hb hR
  go_enter Tryd.func94, Tryd.ntmps94
  go_wp2_with fail
  refine (pnum_any _ R a n cap f p hn hp h HRR.out HB.out).mono ?_
  rintro e w1 ⟨⟨m, q, hv, rfl, hpd⟩ | ⟨hv, rfl, hpd⟩, ht⟩
  case inr =>
    have HV := Hid.mk (And.intro hv ht.grown)
    clear hv hpd ht h
    go_wp2_with fail
    refine ⟨rfl, Or.inr ⟨p, ?_, rfl⟩, HV.out.2⟩
    exact nxN_stuck (j := 1) (by simp only [nxN]; exact nxS_none HV.out.1) (by omega)
  have hq := numAt_lt hv
  have hs1 : nxN n f 1 (.good p s) = .good q p := by simp only [nxN]; exact nxS_some hv
  have hv1 : nxV n f (.good p s) = m := nxV_some hv
  have HS1 := Hid.mk (And.intro hs1 hv1)
  have HT1 := Hid.mk ht.grown
  have HP1 := Hid.mk hpd
  clear hv hs1 hv1 ht hpd h
  go_wp2_with fail
  go_loopw [5, 8] (fun lv iv wr => ∃ (k : Nat) (la : Option Addr) (lc q s' : Nat), iv = .int .i64 k ∧ k ≤ m ∧ lv = .slice la k lc ∧ wr.ownsRow w.heap.size 3 1 (.slice la k lc) k (intsL k fun k => nxV n f (nxN n f (1 + k) (.good p s))) ∧ nxN n f (1 + k) (.good p s) = .good q s' ∧ q ≤ n ∧ PdAt wr R a n cap (q : Nat) ∧ w.grownBy wr (some R)) (fun _ iv _ => m - (intOf iv).toNat)
  case atStart => exact ⟨0, none, 0, q, p, rfl, by omega, rfl, World.ownsRow_nil _ _ _ _, HS1.out.1, hq.2.1, HP1.out, HT1.out⟩
  case round =>
    obtain ⟨k, la, lc, q2, s2, rfl, hk, rfl, hown, hst, hq2, hpd2, hg2⟩ := hrel
    rename World => w2
    have HO := Hid.mk hown
    have HST := Hid.mk hst
    have HPD := Hid.mk hpd2
    have HG2 := Hid.mk hg2
    have hB2 : w.heap.size ≤ w2.heap.size := hg2.size
    clear hown hst hpd2 hg2
    by_cases h1 : k < m
    · go_wp2_with fail
      refine (pnum_any _ R a n cap f q2 hn hq2 HPD.out HRR.out (HB.out.grown HRR.out HG2.out)).mono ?_
      rintro e w3 ⟨⟨v, q3, hv, rfl, hpd⟩ | ⟨hv, rfl, hpd⟩, ht⟩
      case inr =>
        have HV := Hid.mk (And.intro hv ht.grown)
        clear hv hpd ht
        go_wp2_with fail
        refine ⟨rfl, Or.inr ⟨q2, ?_, rfl⟩, grown_trans HG2.out HV.out.2⟩
        rw [HS1.out.2]
        exact nxN_stuck (j := 1 + k + 1) (by simp only [nxN]; rw [HST.out]; exact nxS_none HV.out.1) (by omega)
      have hq3 := numAt_lt hv
      have HV := Hid.mk (And.intro hv (And.intro ht hpd))
      have hB3 : w.heap.size ≤ w3.heap.size := by rw [ht.size]; exact hB2
      clear hv ht hpd
      have HO3 : Hid (∀ ob, (w3.alloc ob).ownsRow w.heap.size 3 1 (.slice la k lc) k (intsL k fun k => nxV n f (nxN n f (1 + k) (.good p s)))) := Hid.mk fun ob => by
        refine (HO.out.kept HV.out.2.1.grown ?_).alloc ob
        cases hob : (Value.slice la k lc).ownBlock with
        | none => exact Or.inl rfl
        | some z => right; have := (HO.out.lt z hob).1; simp; omega
      go_wp2_with (at_builtin; refine wpList_append_own _ rfl (.tmp 10) (.tmp 13) 25 rfl w.heap.size 3 i3 (.int .i64 0) 1 8 Tryd.underlying25 HI3.out.1 HI3.out.2.1 HI3.out.2.2.1 HI3.out.2.2.2 rfl (by decide) (.slice la k lc) k (intsL k fun k => nxV n f (nxN n f (1 + k) (.good p s))) rfl (HO3.out _) ⟨w3.heap.size, 0, none⟩ 1 1 [.int .i64 v] rfl rfl (news1 _ _ _ _ rfl) (by intro u hu; simp only [List.mem_singleton] at hu; subst hu; rfl) (by unfold maxLen; omega) (by omega) (by simp; omega) ?_; intro v4 w4 hown4 hgrow4 hiff; clear hiff; obtain ⟨xa, xc, rfl⟩ := own_slice hown4; have HO4 := Hid.mk (And.intro hown4 hgrow4); clear hown4 hgrow4)
      go_roundw
      case rel =>
        have hrow : ∀ z, (Value.slice la k lc).ownBlock = some z → w.heap.size ≤ z := fun z hz => (HO.out.lt z hz).1
        refine ⟨k + 1, xa, xc, q3, q2, by go_num, by omega, rfl, ?_, ?_, hq3.2.1, ?_, grown_row (grown_trans HG2.out HV.out.2.1.grown) HO4.out.2 hrow⟩
        · have e : intsL (k + 1) (fun k => (nxV n f (nxN n f (1 + k) (.good p s)) : Int)) = intsL k (fun k => (nxV n f (nxN n f (1 + k) (.good p s)) : Int)) ++ [.int .i64 v] := by
            simp only [intsL, List.range_succ, List.map_append, List.map_cons, List.map_nil]
            rw [HST.out, nxV_some HV.out.1]
          rw [e]
          exact HO4.out.1
        · show nxN n f (1 + k + 1) _ = _
          simp only [nxN]
          rw [HST.out]
          exact nxS_some HV.out.1
        · exact HV.out.2.2.grown (by omega) HO4.out.2 (fun e => by have := hrow R e.symm; omega)
      case measure => simp [intOf]; omega
    · obtain rfl : k = m := by omega
      go_wp2_with fail
      go_ret
      exact ⟨Or.inl ⟨q2, s2, la, lc, by rw [HS1.out.2]; exact HST.out, hq2, (by rw [HS1.out.2]; rfl), by rw [HS1.out.2]; exact HO.out, HPD.out⟩, HG2.out⟩
end Go.Proofs.YtgdcjccbdmcebaaDoor
