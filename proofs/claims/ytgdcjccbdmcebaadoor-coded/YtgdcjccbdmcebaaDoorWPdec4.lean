/- plain's Decode at no bytes at all. -/
import Derived.Test.YtgdcjccbdmcebaaDoorWPdec3
namespace Go.Proofs.YtgdcjccbdmcebaaDoor
open Go.RowKit
set_option maxRecDepth 100000

set_option maxHeartbeats 4000000 in
theorem pdecode_none (w : World) (f : Nat → Nat) (hT : TabIn w) (hg : 1 < w.heap.size) (hE : ErrTypeIn w) :
    Calls Tryd.prog 20 #[.slice none 0 0] w fun e w' => DecEnds w.heap.size w' 0 f e ∧ Below w.heap.size w w' := by
  obtain ⟨i5, hi5, hz50, hz51, hz52⟩ := info_parts info5
  have HI5 := Hid.mk hi5
  have HT := Hid.mk hT
  have HE := Hid.mk hE
  have hkb : Hid (∀ o, Below w.heap.size w (w.alloc o)) := Hid.mk fun o => (Below.refl _ _).alloc (Nat.le_refl _) _
  clear hi5 hz50 hz51 hz52 hT hE
  go_enter Tryd.func20, Tryd.ntmps20
  go_wp2_with (at_builtin; refine wpList_append_own_none rfl (.const (.slice none 0 0)) (.tmp 11) 28 rfl (w.heap.size + 1) 5 i5 1 Tryd.underlying28 HI5.out (.slice none 0 0) 0 [] rfl (World.ownsRow_nil _ _ _ _) rfl ?_)
  refine (fkdecode_any _ none 0 0 f (by decide) (HT.out.keep hg (hkb.out _)) (by simp; omega) (fun b o h => by cases h) (Or.inl rfl)).mono ?_
  rintro e w2 ⟨hx, hb2⟩
  have HB2 : Hid (Below w.heap.size w w2) := Hid.mk ((hkb.out _).trans (hb2.mono (by simp)))
  have p0 : w2.cell? ⟨w.heap.size, 0, none⟩ = some (.int .i64 0) := cell_later hb2 (by simp)
  have p1 : w2.cell? ⟨w.heap.size, 1, none⟩ = some (.slice none 0 0) := cell_later hb2 (by simp)
  have pf : ∀ j, w2.frozen? ⟨w.heap.size, j, none⟩ = false := fun j => (hb2.frozen (p := ⟨w.heap.size, j, none⟩) (by simp)).trans (by simp)
  have hs2 : w.heap.size + 1 ≤ w2.heap.size := by have := hb2.size; simpa using this
  clear hb2
  rcases hx with ⟨y, la, lc, Na, Nc, hd, rfl, hcp⟩ | ⟨x, y, q, hx, hd, rfl, hfa, hq1, hq2⟩
  · have hbad : DecIs 0 f 1 0 noFlow := Or.inl ⟨0, by
      have h1 : nxN 0 f 1 (.good 0 0) = .bad 0 := by simp [nxN, nxS, numAt]
      unfold stE st st0
      rw [nxN_stuck h1 (by omega), ndN_bad], rfl, rfl, rfl⟩
    exact absurd (hd.one hbad).1 (by decide)
  · have HX := Hid.mk (And.intro hd hfa)
    clear hd hfa
    go_wp2_with fail
    refine wp_loop_rounds 1 ?_
    rw [rounds_succ]
    go_wp2_with fail
    have hal : Below w2.heap.size w2 (w2.alloc (.cells #[.int .i64 0, .slice none 0 0] 24)) := (Below.refl _ _).alloc (Nat.le_refl _) _
    refine (told_fault q x y _ (HX.out.2.keep hq1 hal) (by simp; omega) (HE.out.keep (HB2.out.trans (hal.mono (by omega))))).mono ?_
    rintro e w5 ⟨rfl, hb5⟩
    have b0 := cell_later hb5 (cell_later hal p0)
    have b1 := cell_later hb5 (cell_later hal p1)
    have g0 := (hb5.frozen (p := ⟨w.heap.size, 0, none⟩) (by simp; omega)).trans ((hal.frozen (p := ⟨w.heap.size, 0, none⟩) (by simp only []; omega)).trans (pf 0))
    have g1 := (hb5.frozen (p := ⟨w.heap.size, 1, none⟩) (by simp; omega)).trans ((hal.frozen (p := ⟨w.heap.size, 1, none⟩) (by simp only []; omega)).trans (pf 1))
    have hnew := heap_alloc_new w2 (.cells #[.int .i64 0, .slice none 0 0] 24)
    have z0 := cell_later hb5 (cell_at hnew 0)
    have z1 := cell_later hb5 (cell_at hnew 1)
    have HB5 := Hid.mk ((HB2.out.trans (hal.mono (by omega))).trans (hb5.mono (by simp; omega)))
    clear hal hnew hb5 pf
    go_wp2_with fail
    refine bodyPost_ret (v := .tuple #[flV 0 (.slice none 0 0), .int .i64 x, .int .i64 y]) (by simp [results, Tryd.results20, go_sem, b0, b1]) rfl ⟨⟨x, y, noFlow, none, 0, fun _ => none, fun _ => 0, rfl, HX.out.1, ⟨World.ownsRow_nil _ _ _ _, fun i hi => absurd hi (Nat.not_lt_zero i)⟩⟩, ?_⟩
    exact (HB5.out.setCell (by simp) _).setCell (by simp) _
theorem pdecode_any (w : World) (a : Option Addr) (n cap : Nat) (f : Nat → Nat) (hn : n ≤ 1073741824) (hf : ∀ k, k < n → f k < 256) (h0 : a = none → n = 0 ∧ cap = 0) (hT : TabIn w) (hg : 1 < w.heap.size) (hE : ErrTypeIn w) (hb : BytesAt w a n cap f) :
    Calls Tryd.prog 20 #[.slice a n cap] w fun e w' => DecEnds w.heap.size w' n f e ∧ Below w.heap.size w w' := by
  cases a with
  | none => obtain ⟨rfl, rfl⟩ := h0 rfl; exact pdecode_none w f hT hg hE
  | some ad => exact pdecode_some w ad n cap f hn hf hT hg hE hb

end Go.Proofs.YtgdcjccbdmcebaaDoor
