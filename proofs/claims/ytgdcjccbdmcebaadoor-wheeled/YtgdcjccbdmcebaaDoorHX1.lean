/- The wheel behind the program's calls: Set, Cancel, Next by plain. -/
import Derived.Test.YtgdcjccbdmcebaaDoorHW10
import Derived.Test.YtgdcjccbdmcebaaDoorWAsE
namespace Go.Proofs.YtgdcjccbdmcebaaDoor
open Go.RowKit
set_option maxRecDepth 100000

theorem ErrTypeIn.pf {w w' : World} {P B : Nat} (h : ErrTypeIn w) (hf : PF w w' P B) (h1 : 0 < B) (h2 : 0 ≠ P) : ErrTypeIn w' :=
  (World.cell?_of_block (a := ⟨0, 0, none⟩) (hf.block _ (World.block_lt_of_cell? _ _ h) h2 (Or.inl h1))).trans h
/-- number at an error by its number. -/
theorem number_any (x : Int) (w : World) (hg : ErrTypeIn w) :
    Calls Tryd.prog 43 #[errV x] w fun e w' => e = .returned (.int .i64 x) ∧ Below w.heap.size w w' := by
  have HG := Hid.mk hg
  clear hg
  unfold errV
  by_cases h0 : x = 0
  · subst h0
    rw [if_pos rfl]
    go_enter Tryd.func43, Tryd.ntmps43
    go_wp2_with (go_at_call 29; refine (told_nil w).mono ?_; rintro e w1 ⟨rfl, hb⟩; have HB := Hid.mk hb; clear hb)
    go_ret
    exact ⟨rfl, HB.out⟩
  · rw [if_neg h0]
    go_enter Tryd.func43, Tryd.ntmps43
    go_wp2_with (go_at_call 29; refine (told_number x w HG.out).mono ?_; rintro e w1 ⟨rfl, hb⟩; have HB := Hid.mk hb; clear hb)
    go_ret
    exact ⟨rfl, HB.out⟩

set_option maxHeartbeats 2000000 in
theorem pset_any (w : World) (P B now : Nat) (l : List Tm) (id tm sq : Int) (h : WhAt w P B now l) (hid : (Lit.int .i64 id).wf = true) (h0 : 0 ≤ tm) (h1 : tm < 18446744073709551616) (hg : ErrTypeIn w) (hG : 0 < B) (hGP : 0 ≠ P) :
    Calls Tryd.prog 22 #[.pointer (some ⟨P, 0, none⟩), .int .i64 id, .int .u64 tm] w fun e w' => ∃ x l' sq', e = .returned (.int .i64 x) ∧ SetIs l now sq id tm x l' sq' ∧ WhAt w' P B now l' ∧ PF w w' P B := by
  have HS := Hid.mk (wset_any w P B now l id tm sq h hid h0 h1)
  have HG := Hid.mk hg
  clear h hid h0 h1 hg
  have hin : Calls Tryd.prog 44 #[.pointer (some ⟨P, 0, none⟩), .int .i64 id, .int .u64 tm] w fun e w' => ∃ x l' sq', e = .returned (errV x) ∧ SetIs l now sq id tm x l' sq' ∧ WhAt w' P B now l' ∧ PF w w' P B := by
    go_enter Tryd.func44, Tryd.ntmps44
    go_wp2_with (go_at_call 59; refine HS.out.mono ?_; rintro e w1 ⟨x, l', sq', rfl, h1, h2, h3⟩; have HR := Hid.mk (And.intro h1 (And.intro h2 h3)); clear h1 h2 h3)
    go_ret
    exact ⟨x, l', sq', rfl, HR.out⟩
  have HIN := Hid.mk hin
  clear hin
  go_enter Tryd.func22, Tryd.ntmps22
  go_wp2_with (first
    | (go_at_call 44; refine HIN.out.mono ?_; rintro e w1 ⟨x, l', sq', rfl, h1, h2, h3⟩; have HR := Hid.mk (And.intro h1 (And.intro h2 h3)); clear h1 h2 h3)
    | (go_at_call 43; refine (number_any x w1 (HG.out.pf HR.out.2.2 hG hGP)).mono ?_; rintro e w2 ⟨rfl, hb⟩; have HB := Hid.mk hb; clear hb))
  go_ret
  exact ⟨x, l', sq', rfl, HR.out.1, HR.out.2.1.keep HB.out, HR.out.2.2.trans (PF.of_below HB.out)⟩

set_option maxHeartbeats 2000000 in
theorem pcancel_any (w : World) (P B now : Nat) (l : List Tm) (id : Int) (h : WhAt w P B now l) (hid : (Lit.int .i64 id).wf = true) (hg : ErrTypeIn w) (hG : 0 < B) (hGP : 0 ≠ P) :
    Calls Tryd.prog 23 #[.pointer (some ⟨P, 0, none⟩), .int .i64 id] w fun e w' => ∃ x l', e = .returned (.int .i64 x) ∧ CanIs l id x l' ∧ WhAt w' P B now l' ∧ PF w w' P B := by
  have HS := Hid.mk (wcancel_any w P B now l id h hid)
  have HG := Hid.mk hg
  clear h hid hg
  have hin : Calls Tryd.prog 45 #[.pointer (some ⟨P, 0, none⟩), .int .i64 id] w fun e w' => ∃ x l', e = .returned (errV x) ∧ CanIs l id x l' ∧ WhAt w' P B now l' ∧ PF w w' P B := by
    go_enter Tryd.func45, Tryd.ntmps45
    go_wp2_with (go_at_call 60; refine HS.out.mono ?_; rintro e w1 ⟨x, l', rfl, h1, h2, h3⟩; have HR := Hid.mk (And.intro h1 (And.intro h2 h3)); clear h1 h2 h3)
    go_ret
    exact ⟨x, l', rfl, HR.out⟩
  have HIN := Hid.mk hin
  clear hin
  go_enter Tryd.func23, Tryd.ntmps23
  go_wp2_with (first
    | (go_at_call 45; refine HIN.out.mono ?_; rintro e w1 ⟨x, l', rfl, h1, h2, h3⟩; have HR := Hid.mk (And.intro h1 (And.intro h2 h3)); clear h1 h2 h3)
    | (go_at_call 43; refine (number_any x w1 (HG.out.pf HR.out.2.2 hG hGP)).mono ?_; rintro e w2 ⟨rfl, hb⟩; have HB := Hid.mk hb; clear hb))
  go_ret
  exact ⟨x, l', rfl, HR.out.1, HR.out.2.1.keep HB.out, HR.out.2.2.trans (PF.of_below HB.out)⟩

set_option maxHeartbeats 2000000 in
theorem pnext_any (w : World) (P B now : Nat) (l : List Tm) (h : WhAt w P B now l) (hT : TabIn w) :
    Calls Tryd.prog 25 #[.pointer (some ⟨P, 0, none⟩)] w fun e w' => ∃ t ok, e = .returned (.tuple #[.int .u64 t, .bool ok]) ∧ NxtIs l t ok ∧ w' = w := by
  have HS := Hid.mk (wnext_any w P B now l h hT)
  clear h hT
  go_enter Tryd.func25, Tryd.ntmps25
  go_wp2_with (go_at_call 48; refine HS.out.mono ?_; rintro e w1 ⟨t, ok, rfl, h1, hw1⟩; rw [hw1]; have HR := Hid.mk h1; clear h1)
  go_ret2
  exact ⟨t, ok, rfl, HR.out, rfl⟩

set_option maxHeartbeats 2000000 in
theorem padvance_any (w : World) (P B now : Nat) (l : List Tm) (ticks : Int) (h : WhAt w P B now l) (hT : TabIn w) (hG : 1 < B) (hGP : 1 ≠ P) (h0 : 0 ≤ ticks) (h1 : ticks < 18446744073709551616) :
    Calls Tryd.prog 24 #[.pointer (some ⟨P, 0, none⟩), .int .u64 ticks] w fun e w' => ∃ xa xc outs l', e = .returned (.slice xa outs.length xc) ∧ AdvR l (advTo now ticks) outs l' ∧ (∀ b, bestN l' l'.length = some b → advTo now ticks < (l'.getD b .z).tm) ∧ w'.ownsRow w.heap.size 63 2 (.slice xa outs.length xc) outs.length (frL outs) ∧ (outs = [] → xa = none) ∧ WhAt w' P B (advTo now ticks).toNat l' ∧ PF w w' P B := by
  obtain ⟨dm, rw_, wd, hp, _⟩ := h.mem
  have hPs : P < w.heap.size := Nat.lt_of_lt_of_le hp.pb hp.bs
  have hGs : 1 < w.heap.size := Nat.lt_of_lt_of_le hG hp.bs
  have hal : Below w.heap.size w (w.alloc (.cells #[.slice none 0 0] 60)) := (Below.refl _ _).alloc (Nat.le_refl _) _
  have hcame : CameAt (w.alloc (.cells #[.slice none 0 0] 60)) w.heap.size w.heap.size [] := ⟨⟨none, 0, heap_alloc_new w _, World.ownsRow_nil _ _ _ _, fun _ => rfl⟩, by simp⟩
  have HS := Hid.mk (wadvance_any (w.alloc (.cells #[.slice none 0 0] 60)) P B w.heap.size w.heap.size now l ticks (h.keep hal) (fun j hj => cell_later hal (hT j hj)) hcame hPs (Nat.le_refl _) hal.size hG hGs hGP h0 h1)
  clear h hT hp hcame
  go_enter Tryd.func24, Tryd.ntmps24
  go_wp2_with (go_at_call 46; refine HS.out.mono ?_; rintro e w1 ⟨outs, l', rfl, h1, h2, h3, h4, h5⟩; obtain ⟨xa, xc, hC, hown, hnil⟩ := h3.cell; have c0 := cell_of_one hC; have HR := Hid.mk (And.intro h1 (And.intro h2 (And.intro hown (And.intro hnil (And.intro h4 h5))))); clear h1 h2 h3 h4 h5 hC hown hnil)
  go_ret
  obtain ⟨r1, r2, r3, rn, r4, r5⟩ := HR.out
  refine ⟨xa, xc, outs, l', rfl, r1, r2, r3, rn, r4, ⟨r5.os.trans hal.os, r5.tape.trans hal.tape, r5.output.trans hal.output, Nat.le_trans hal.size r5.size, fun k hk hP hr => ?_⟩⟩
  have e := hal.block k hk
  refine (r5.block k hk hP ?_).trans e
  rcases hr with hr | ⟨cs, t, fr, e1, e2⟩
  · exact Or.inl hr
  · exact Or.inr ⟨cs, t, fr, e.trans e1, e2⟩
end Go.Proofs.YtgdcjccbdmcebaaDoor
