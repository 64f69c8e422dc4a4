/- plain's Decode. -/
import Derived.Test.YtgdcjccbdmcebaaDoorWPdec
import Derived.Test.YtgdcjccbdmcebaaDoorWPenc
namespace Go.Proofs.YtgdcjccbdmcebaaDoor
open Go.RowKit
set_option maxRecDepth 100000

set_option maxHeartbeats 4000000 in
theorem fkdecode_any (w : World) (a : Option Addr) (n cap : Nat) (f : Nat → Nat) (hn : n ≤ maxLen) (hT : TabIn w) (hg : 1 < w.heap.size) (ha : ∀ b o, a = some ⟨b, o, none⟩ → b < w.heap.size) (hb : BytesAt w a n cap f) :
    Calls Tryd.prog 42 #[.slice a n cap] w fun e w' => PdecIs w.heap.size w' n f e ∧ Below w.heap.size w w' := by
  have HB := Hid.mk hb
  have HT := Hid.mk hT
  have HA := Hid.mk ha
  have hkb : Hid (∀ o, Below w.heap.size w (w.alloc o)) := Hid.mk fun o => (Below.refl _ _).alloc (Nat.le_refl _) _
  clear hb hT ha
  go_enter Tryd.func42, Tryd.ntmps42
  go_wp2_with fail
  refine (fdecode_any _ a n cap f hn (HT.out.keep hg (hkb.out _)) (by simp; omega) (fun b o h => by have := HA.out b o h; simp; omega) (HB.out.below (hkb.out _))).mono ?_
  rintro e w1 ⟨hx, hb1⟩
  have r0 : w1.cell? ⟨w.heap.size, 0, none⟩ = some (.int .i64 0) := cell_later hb1 (by simp)
  have r1 : w1.cell? ⟨w.heap.size, 1, none⟩ = some (.slice none 0 0) := cell_later hb1 (by simp)
  have rf0 : w1.frozen? ⟨w.heap.size, 0, none⟩ = false := (hb1.frozen (p := ⟨w.heap.size, 0, none⟩) (by simp)).trans (by simp)
  have rf1 : w1.frozen? ⟨w.heap.size, 1, none⟩ = false := (hb1.frozen (p := ⟨w.heap.size, 1, none⟩) (by simp)).trans (by simp)
  have HB1 : Hid (Below w.heap.size w w1) := Hid.mk ((hkb.out _).trans (hb1.mono (by simp)))
  clear hb1
  rcases hx with ⟨y, la, lc, Na, Nc, hd, rfl, hcp⟩ | ⟨x, y, q, hx, hd, rfl, hfa, hq1, hq2⟩
  · have HX := Hid.mk (And.intro hd hcp)
    clear hd hcp
    have HC2 : Hid (CopyAt (w.heap.size + 1) w1 (flowOf n f) (.slice la (flowOf n f).n lc) (flowOf n f).n Na Nc) := Hid.mk (HX.out.2.base (by simp))
    go_wp2_with fail
    refine bodyPost_ret (v := .tuple #[flV (flowOf n f).dl (.slice la (flowOf n f).n lc), .nilIface]) (by simp [results, Tryd.results42, go_sem, r0, r1]) rfl ⟨Or.inl ⟨y, la, lc, Na, Nc, HX.out.1, rfl, ?_⟩, ?_⟩
    · exact CopyAt.base (B := w.heap.size + 1) ⟨ownsRow_setCell_below (ownsRow_setCell_below HC2.out.own (by simp) _) (by simp) _, fun i hi => ownsRow_setCell_below (ownsRow_setCell_below (HC2.out.aft i hi) (by simp) _) (by simp) _⟩ (by omega)
    · exact (HB1.out.setCell (by simp) _).setCell (by simp) _
  · have HX := Hid.mk hd
    have hq2' : w.heap.size + 1 ≤ q := by simpa using hq2
    clear hd
    go_wp2_with fail
    refine bodyPost_ret (v := .tuple #[flV 0 (.slice none 0 0), .iface 97 (.pointer (some ⟨q, 0, none⟩))]) (by simp [results, Tryd.results42, go_sem, r0, r1]) rfl ⟨Or.inr ⟨x, y, q, hx, HX.out, rfl, (hfa.set (by omega) _).set (by omega) _, by simpa [World.setCell] using hq1, by omega⟩, ?_⟩
    exact (HB1.out.setCell (by simp) _).setCell (by simp) _
end Go.Proofs.YtgdcjccbdmcebaaDoor
