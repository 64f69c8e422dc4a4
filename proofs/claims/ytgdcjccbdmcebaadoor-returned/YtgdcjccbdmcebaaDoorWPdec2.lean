/- plain's Decode. -/
import Derived.Test.YtgdcjccbdmcebaaDoorWPread
import Derived.Test.YtgdcjccbdmcebaaDoorWFenc
import Derived.Test.YtgdcjccbdmcebaaDoorWPenc
namespace Go.Proofs.YtgdcjccbdmcebaaDoor
section
open Go.RowKit
set_option maxRecDepth 100000

theorem BytesAt.below {w w' : World} {a : Option Addr} {n cap : Nat} {f : Nat → Nat} (h : BytesAt w a n cap f) (hb : Below w.heap.size w w') : BytesAt w' a n cap f := by
  rcases h with h0 | ⟨b, o, rfl, h1, h2, h3, h4⟩
  · exact Or.inl h0
  · exact Or.inr ⟨b, o, rfl, h1, h2, Nat.lt_of_lt_of_le h3 hb.size, fun k hk => ⟨(hb.cell (p := ⟨b, o + k, none⟩) h3).trans (h4 k hk).1, (h4 k hk).2⟩⟩

/-- What Decode hands back. -/
def PdecIs (B : Nat) (w' : World) (n : Nat) (f : Nat → Nat) (e : Ending) : Prop :=
  (∃ (y : Int) (la : Option Addr) (lc : Nat) (Na : Nat → Option Addr) (Nc : Nat → Nat), DecIs n f 0 y (flowOf n f) ∧ e = .returned (.tuple #[flV (flowOf n f).dl (.slice la (flowOf n f).n lc), .nilIface]) ∧ CopyAt B w' (flowOf n f) (.slice la (flowOf n f).n lc) (flowOf n f).n Na Nc) ∨
  (∃ (x y : Int) (q : Nat), x ≠ 0 ∧ DecIs n f x y noFlow ∧ e = .returned (.tuple #[flV 0 (.slice none 0 0), .iface 97 (.pointer (some ⟨q, 0, none⟩))]) ∧ FaultAt w' q x y ∧ q < w'.heap.size ∧ B ≤ q)

theorem FaultAt.set {w : World} {q D o : Nat} {x y : Int} (h : FaultAt w q x y) (hD : q ≠ D) (v : Value) : FaultAt (w.setCell ⟨D, o, none⟩ v) q x y :=
  ⟨(setCell_far w D q o 0 v hD).trans h.1, (setCell_far w D q o 1 v hD).trans h.2⟩

set_option maxHeartbeats 4000000 in
theorem fdecode_any (w : World) (a : Option Addr) (n cap : Nat) (f : Nat → Nat) (hn : n ≤ maxLen) (hT : TabIn w) (hg : 1 < w.heap.size) (ha : ∀ b o, a = some ⟨b, o, none⟩ → b < w.heap.size) (hb : BytesAt w a n cap f) :
    Calls Tryd.prog 58 #[.slice a n cap] w fun e w' => PdecIs w.heap.size w' n f e ∧ Below w.heap.size w w' := by
  have HB := Hid.mk hb
  have HT := Hid.mk hT
  have HA := Hid.mk ha
  have hkb : Hid (∀ o, Below w.heap.size w (w.alloc o)) := Hid.mk fun o => (Below.refl _ _).alloc (Nat.le_refl _) _
  have hN : (flowOf n f).n ≤ 2097151 := nxV_le _ _ _
  clear hb hT ha
  go_enter Tryd.func58, Tryd.ntmps58
  go_wp2_with fail
  refine (pread_any _ a n cap f hn (fun b o h => by have := HA.out b o h; simp; omega) (HB.out.below (hkb.out _))).mono ?_
  rintro e w1 ⟨hx, hb1⟩
  have r0 : w1.cell? ⟨w.heap.size, 0, none⟩ = some (.int .i64 0) := cell_later hb1 (by simp)
  have r1 : w1.cell? ⟨w.heap.size, 1, none⟩ = some (.slice none 0 0) := cell_later hb1 (by simp)
  have rf0 : w1.frozen? ⟨w.heap.size, 0, none⟩ = false := (hb1.frozen (p := ⟨w.heap.size, 0, none⟩) (by simp)).trans (by simp)
  have rf1 : w1.frozen? ⟨w.heap.size, 1, none⟩ = false := (hb1.frozen (p := ⟨w.heap.size, 1, none⟩) (by simp)).trans (by simp)
  have hs1 : w.heap.size < w1.heap.size := by have := hb1.size; simp at this; omega
  have HB1 : Hid (Below w.heap.size w w1) := Hid.mk ((hkb.out _).trans (hb1.mono (by simp)))
  clear hb1
  rcases hx with ⟨q, s, la, lc, Na, Nc, hst, hle, rfl, hcp⟩ | ⟨y, blk, x, la, c, lc, hst, rfl, hfa, hblk, hBb⟩
  · have HX := Hid.mk (And.intro hst (And.intro hle hcp))
    clear hst hcp
    have hk1 : Hid (∀ o, Below w1.heap.size w1 (w1.alloc o)) := Hid.mk fun o => (Below.refl _ _).alloc (Nat.le_refl _) _
    go_wp2_with fail
    refine (check_any (flowOf n f) _ la lc Na Nc _ (by unfold maxLen; omega) ((HT.out.keep hg HB1.out).keep (by omega) (hk1.out _)) (by simp; omega) (HX.out.2.2.below (hk1.out _))).mono ?_
    rintro e w2 ⟨hce, hb2⟩
    have p0 : w2.cell? ⟨w.heap.size, 0, none⟩ = some (.int .i64 0) := cell_later (((hk1.out _).trans (hb2.mono (by simp)))) r0
    have p1 : w2.cell? ⟨w.heap.size, 1, none⟩ = some (.slice none 0 0) := cell_later (((hk1.out _).trans (hb2.mono (by simp)))) r1
    have pf0 : w2.frozen? ⟨w.heap.size, 0, none⟩ = false := ((((hk1.out _).trans (hb2.mono (by simp)))).frozen (p := ⟨w.heap.size, 0, none⟩) hs1).trans rf0
    have pf1 : w2.frozen? ⟨w.heap.size, 1, none⟩ = false := ((((hk1.out _).trans (hb2.mono (by simp)))).frozen (p := ⟨w.heap.size, 1, none⟩) hs1).trans rf1
    have d0 : w2.cell? ⟨w1.heap.size, 0, none⟩ = some (.int .i64 (flowOf n f).dl) := cell_later hb2 (by simp)
    have d1 : w2.cell? ⟨w1.heap.size, 1, none⟩ = some (.slice la (flowOf n f).n lc) := cell_later hb2 (by simp)
    have HB2 : Hid (Below w1.heap.size w1 w2) := Hid.mk ((hk1.out _).trans (hb2.mono (by simp)))
    have hs2 : w1.heap.size ≤ w2.heap.size := HB2.out.size
    clear r0 r1 rf0 rf1
    rcases hce with ⟨rfl, hchk⟩ | ⟨x, y, q2, rfl, hx, hchk, hq1, hq2, hfa⟩
    · have HK := Hid.mk hchk
      clear hchk hb2
      have HC : Hid (CopyAt w.heap.size w2 (flowOf n f) (.slice la (flowOf n f).n lc) (flowOf n f).n Na Nc) := Hid.mk ((HX.out.2.2.below HB2.out).base (by simp))
      have HC2 : Hid (CopyAt (w.heap.size + 1) w2 (flowOf n f) (.slice la (flowOf n f).n lc) (flowOf n f).n Na Nc) := Hid.mk ((HX.out.2.2.below HB2.out).base (by simp))
      go_wp2_with fail
      refine bodyPost_ret (v := .tuple #[flV (flowOf n f).dl (.slice la (flowOf n f).n lc), .nilIface]) (by simp [results, Tryd.results58, go_sem, p0, p1]) rfl ⟨Or.inl ⟨-1, la, lc, Na, Nc, Or.inr (Or.inr ⟨q, s, HX.out.1, HX.out.2.1, HK.out, fun _ => rfl, fun h => absurd rfl h⟩), rfl, ?_⟩, ?_⟩
      · exact CopyAt.base (B := w.heap.size + 1) ⟨ownsRow_setCell_below (ownsRow_setCell_below HC2.out.own (by simp) _) (by simp) _, fun i hi => ownsRow_setCell_below (ownsRow_setCell_below (HC2.out.aft i hi) (by simp) _) (by simp) _⟩ (by omega)
      · exact ((HB1.out.trans (HB2.out.mono (by omega))).setCell (by simp) _).setCell (by simp) _
    · have HK := Hid.mk hchk
      have hq1' : w1.heap.size ≤ q2 := by simp at hq1; omega
      clear hchk hb2
      go_wp2_with fail
      refine bodyPost_ret (v := .tuple #[flV 0 (.slice none 0 0), .iface 97 (.pointer (some ⟨q2, 0, none⟩))]) (by simp [results, Tryd.results58, go_sem, p0, p1]) rfl ⟨Or.inr ⟨x, y, q2, hx, Or.inr (Or.inr ⟨q, s, HX.out.1, HX.out.2.1, HK.out, fun h => absurd h hx, fun _ => rfl⟩), rfl, (hfa.set (by omega) _).set (by omega) _, by simpa [World.setCell] using hq2, by omega⟩, ?_⟩
      exact ((HB1.out.trans (HB2.out.mono (by omega))).setCell (by simp) _).setCell (by simp) _
  · have HX := Hid.mk hst
    clear hst
    have hBb' : w.heap.size + 1 ≤ blk := by simpa using hBb
    have HS : Hid (∀ u v, Below w.heap.size w ((w1.setCell ⟨w.heap.size, 0, none⟩ u).setCell ⟨w.heap.size, 1, none⟩ v) ∧ FaultAt ((w1.setCell ⟨w.heap.size, 0, none⟩ u).setCell ⟨w.heap.size, 1, none⟩ v) blk 1 y ∧ ((w1.setCell ⟨w.heap.size, 0, none⟩ u).setCell ⟨w.heap.size, 1, none⟩ v).cell? ⟨w.heap.size, 0, none⟩ = some u ∧ ((w1.setCell ⟨w.heap.size, 0, none⟩ u).setCell ⟨w.heap.size, 1, none⟩ v).cell? ⟨w.heap.size, 1, none⟩ = some v ∧ blk < ((w1.setCell ⟨w.heap.size, 0, none⟩ u).setCell ⟨w.heap.size, 1, none⟩ v).heap.size) := Hid.mk fun u v =>
      ⟨(HB1.out.setCell (by simp) _).setCell (by simp) _, (hfa.set (by omega) _).set (by omega) _, (cell_setCell_off _ _ 1 0 _ (by decide)).trans (World.cell?_setCell_same _ _ _ r0), World.cell?_setCell_same _ _ _ ((cell_setCell_off _ _ 0 1 _ (by decide)).trans r1), by simpa [World.setCell] using hblk⟩
    go_wp2_with fail
    obtain ⟨s1, s2, s3, s4, s5⟩ := HS.out (.int .i64 0) (.slice none 0 0)
    have z0 := cell_later (((Below.refl _ _).alloc (Nat.le_refl _) (.cells #[.int .i64 x, .slice la c lc] 24))) s3
    have z1 := cell_later (((Below.refl _ _).alloc (Nat.le_refl _) (.cells #[.int .i64 x, .slice la c lc] 24))) s4
    have hs5 : w.heap.size ≤ ((w1.setCell ⟨w.heap.size, 0, none⟩ (.int .i64 0)).setCell ⟨w.heap.size, 1, none⟩ (.slice none 0 0)).heap.size := s1.size
    refine bodyPost_ret (v := .tuple #[flV 0 (.slice none 0 0), .iface 97 (.pointer (some ⟨blk, 0, none⟩))]) (by simp [results, Tryd.results58, go_sem, z0, z1]) rfl ⟨Or.inr ⟨1, y, blk, by decide, ?_, rfl, s2.keep s5 ((Below.refl _ _).alloc (Nat.le_refl _) _), by simp; omega, by omega⟩, ?_⟩
    · rcases HX.out with h | ⟨s, h, hlt⟩
      · exact Or.inl ⟨y, h, rfl, rfl, rfl⟩
      · exact Or.inr (Or.inl ⟨y, s, h, hlt, rfl, rfl, rfl⟩)
    · exact s1.alloc hs5 _
end
section
open Go.RowKit
set_option maxRecDepth 100000

set_option maxHeartbeats 4000000 in
theorem fkdecode_any (w : World) (a : Option Addr) (n cap : Nat) (f : Nat → Nat) (hn : n ≤ maxLen) (hT : TabIn w) (hg : 1 < w.heap.size) (ha : ∀ b o, a = some ⟨b, o, none⟩ → b < w.heap.size) (hb : BytesAt w a n cap f) :
    Calls Tryd.prog 42 #[.slice a n cap] w fun e w' => PdecIs w.heap.size w' n f e ∧ Below w.heap.size w w' := by
  have HB := Hid.mk hb
  have HT := Hid.mk hT
  have HA := Hid.mk ha
  have hkb : Hid (∀ o, Below w.heap.size w (w.alloc o)) := Hid.mk fun o => (Below.refl _ _).alloc (Nat.le_refl _) _
  clear hb hT ha
  go_enter Tryd.func42, Tryd.ntmps42
  go_wp2_with fail
  refine (fdecode_any _ a n cap f hn (HT.out.keep hg (hkb.out _)) (by simp; omega) (fun b o h => by have := HA.out b o h; simp; omega) (HB.out.below (hkb.out _))).mono ?_
  rintro e w1 ⟨hx, hb1⟩
  have r0 : w1.cell? ⟨w.heap.size, 0, none⟩ = some (.int .i64 0) := cell_later hb1 (by simp)
  have r1 : w1.cell? ⟨w.heap.size, 1, none⟩ = some (.slice none 0 0) := cell_later hb1 (by simp)
  have rf0 : w1.frozen? ⟨w.heap.size, 0, none⟩ = false := (hb1.frozen (p := ⟨w.heap.size, 0, none⟩) (by simp)).trans (by simp)
  have rf1 : w1.frozen? ⟨w.heap.size, 1, none⟩ = false := (hb1.frozen (p := ⟨w.heap.size, 1, none⟩) (by simp)).trans (by simp)
  have HB1 : Hid (Below w.heap.size w w1) := Hid.mk ((hkb.out _).trans (hb1.mono (by simp)))
  clear hb1
  rcases hx with ⟨y, la, lc, Na, Nc, hd, rfl, hcp⟩ | ⟨x, y, q, hx, hd, rfl, hfa, hq1, hq2⟩
  · have HX := Hid.mk (And.intro hd hcp)
    clear hd hcp
    have HC2 : Hid (CopyAt (w.heap.size + 1) w1 (flowOf n f) (.slice la (flowOf n f).n lc) (flowOf n f).n Na Nc) := Hid.mk (HX.out.2.base (by simp))
    go_wp2_with fail
    refine bodyPost_ret (v := .tuple #[flV (flowOf n f).dl (.slice la (flowOf n f).n lc), .nilIface]) (by simp [results, Tryd.results42, go_sem, r0, r1]) rfl ⟨Or.inl ⟨y, la, lc, Na, Nc, HX.out.1, rfl, ?_⟩, ?_⟩
    · exact CopyAt.base (B := w.heap.size + 1) ⟨ownsRow_setCell_below (ownsRow_setCell_below HC2.out.own (by simp) _) (by simp) _, fun i hi => ownsRow_setCell_below (ownsRow_setCell_below (HC2.out.aft i hi) (by simp) _) (by simp) _⟩ (by omega)
    · exact (HB1.out.setCell (by simp) _).setCell (by simp) _
  · have HX := Hid.mk hd
    have hq2' : w.heap.size + 1 ≤ q := by simpa using hq2
    clear hd
    go_wp2_with fail
    refine bodyPost_ret (v := .tuple #[flV 0 (.slice none 0 0), .iface 97 (.pointer (some ⟨q, 0, none⟩))]) (by simp [results, Tryd.results42, go_sem, r0, r1]) rfl ⟨Or.inr ⟨x, y, q, hx, HX.out, rfl, (hfa.set (by omega) _).set (by omega) _, by simpa [World.setCell] using hq1, by omega⟩, ?_⟩
    exact (HB1.out.setCell (by simp) _).setCell (by simp) _
end
end Go.Proofs.YtgdcjccbdmcebaaDoor
