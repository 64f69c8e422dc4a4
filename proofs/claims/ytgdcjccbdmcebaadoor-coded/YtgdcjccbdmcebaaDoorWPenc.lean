/- plain's Encode, and the document's: the bytes of a flow, and what is wrong with it. -/
import Derived.Test.YtgdcjccbdmcebaaDoorWFenc
import Derived.Test.YtgdcjccbdmcebaaDoorWTurn2
import Derived.Test.YtgdcjccbdmcebaaDoorWRefCheck
import Derived.OwnWalk
namespace Go.Proofs.YtgdcjccbdmcebaaDoor
open Go.RowKit
set_option maxRecDepth 100000

theorem FaultAt.spare {w w' : World} {N q : Nat} {x y : Int} (h : FaultAt w q x y) (hq : N ≤ q) (hq2 : q < w.heap.size) (hk : ∀ z, N ≤ z → z < w.heap.size → w'.heap[z]? = w.heap[z]?) : FaultAt w' q x y :=
  ⟨(World.cell?_of_block (a := ⟨q, 0, none⟩) (hk q hq hq2)).trans h.1, (World.cell?_of_block (a := ⟨q, 1, none⟩) (hk q hq hq2)).trans h.2⟩

set_option maxHeartbeats 1000000 in
theorem fkencode_any (F : FlowD) (B : Nat) (la : Option Addr) (lc : Nat) (Na : Nat → Option Addr) (Nc : Nat → Nat) (w : World) (hn : F.n ≤ maxLen) (hT : TabIn w) (hg : 1 < w.heap.size)
    (h : CopyAt B w F (.slice la F.n lc) F.n Na Nc) :
    Calls Tryd.prog 27 #[flV F.dl (.slice la F.n lc)] w fun e w' => EncEnds F w w' e ∧ Below w.heap.size w w' := by
  have hkb : Hid (∀ o, Below w.heap.size w (w.alloc o)) := Hid.mk fun o => (Below.refl _ _).alloc (Nat.le_refl _) _
  have H := Hid.mk h
  have HT := Hid.mk hT
  clear h hT
  go_enter Tryd.func27, Tryd.ntmps27
  go_wp2_with fail
  refine (fencode_any F B la lc Na Nc _ hn (HT.out.keep hg (hkb.out _)) (by simp; omega) (H.out.below (hkb.out _))).mono ?_
  rintro e w' ⟨hx, hb⟩
  have HB : Below w.heap.size w w' := (hkb.out _).trans (hb.mono (by simp))
  clear hb
  rcases hx with ⟨v, rfl, hchk, hrow⟩ | ⟨x, y, q, rfl, hx, hchk, hq1, hq2, hfa⟩
  · have HX := Hid.mk (And.intro hchk hrow)
    clear hchk hrow
    go_wp2_with fail
    go_ret2
    exact ⟨Or.inl ⟨v, rfl, HX.out.1, own_base HX.out.2 (by simp)⟩, HB⟩
  · have HX := Hid.mk hchk
    clear hchk
    go_wp2_with fail
    go_ret2
    exact ⟨Or.inr ⟨x, y, q, rfl, hx, HX.out, by simp at hq1; omega, hq2, hfa⟩, HB⟩

/-- What plain's Encode hands back, and the document's: what is wrong (or 0), where, and the bytes (or none). -/
def EncIs (F : FlowD) (N : Nat) (w' : World) (e : Ending) : Prop :=
  ∃ (v : Value) (x y : Int) (l : List Int), e = .returned (.tuple #[v, .int .i64 x, .int .i64 y]) ∧ ChkIs F x y ∧ ByteRow N w' v l ∧ (x = 0 → l = flowB F) ∧ (x ≠ 0 → l = [] ∧ v = .slice none 0 0)

set_option maxHeartbeats 2000000 in
theorem pencode_any (F : FlowD) (a : Option Addr) (cap : Nat) (Aa : Nat → Option Addr) (Ac : Nat → Nat) (w : World) (h : FlowIn w F a cap Aa Ac) (hE : ErrTypeIn w) :
    Calls Tryd.prog 8 #[flV F.dl (.slice a F.n cap)] w fun e w' => EncIs F w.heap.size w' e ∧ Below w.heap.size w w' := by
  have hkb : Hid (∀ o, Below w.heap.size w (w.alloc o)) := Hid.mk fun o => (Below.refl _ _).alloc (Nat.le_refl _) _
  have H := Hid.mk h
  have HE := Hid.mk hE
  clear h hE
  go_enter Tryd.func8, Tryd.ntmps8
  go_wp2_with fail
  refine (copied_any F a cap Aa Ac _ (H.out.keep (hkb.out _))).mono ?_
  rintro e w1 ⟨la, lc, Na, Nc, rfl, hc, hb⟩
  have hb1 : Hid (Below w.heap.size w w1) := Hid.mk ((hkb.out _).trans (hb.mono (by simp)))
  have hsz1 : w.heap.size + 1 ≤ w1.heap.size := by have := hb.size; simpa using this
  have HC := Hid.mk hc
  clear hc hb
  go_wp2_with fail
  have hkb1 : Below w1.heap.size w1 (w1.alloc (.cells #[.int .i64 F.dl, .slice la F.n lc] 24)) := (Below.refl _ _).alloc (Nat.le_refl _) _
  refine (fkencode_any F _ la lc Na Nc _ H.out.len ((H.out.tab.keep H.out.tabg hb1.out).keep (by have := H.out.tabg; omega) hkb1) (by have := H.out.tabg; simp; omega) (HC.out.below hkb1)).mono ?_
  rintro e w2 ⟨hx, hb2⟩
  have hb12 : Hid (Below w1.heap.size w1 w2) := Hid.mk (hkb1.trans (hb2.mono (by simp)))
  have d0 : w2.cell? ⟨w1.heap.size, 0, none⟩ = some (.int .i64 F.dl) := cell_later hb2 (by simp)
  have d1 : w2.cell? ⟨w1.heap.size, 1, none⟩ = some (.slice la F.n lc) := cell_later hb2 (by simp)
  have hsz2 : w1.heap.size ≤ w2.heap.size := hb12.out.size
  clear hb2 hkb1
  rcases hx with ⟨v, rfl, hchk, hrow⟩ | ⟨x, y, q, rfl, hx, hchk, hq1, hq2, hfa⟩
  · have HX := Hid.mk (And.intro hchk hrow)
    clear hchk hrow
    go_wp2_with fail
    refine (turn_copy F _ la lc Na Nc w1 w2 (by simp; omega) H.out.len HC.out hb12.out).mono ?_
    rintro e w3 ⟨rfl, hb3, hsp⟩
    have hb03 : Hid (Below w.heap.size w w3) := Hid.mk ((hb1.out.trans (hb12.out.mono (by omega))).trans (hb3.mono (by simp)))
    have HR : Hid (ByteRow w1.heap.size w3 v (flowB F)) := Hid.mk (own_spare (own_base HX.out.2 (by simp)) hsp)
    clear hb3 hsp d0 d1
    go_wp2_with fail
    refine (told_nil _).mono ?_
    rintro e w4 ⟨rfl, hb4⟩
    have HB : Below w.heap.size w w4 := hb03.out.trans (hb4.mono hb03.out.size)
    have HR4 := Hid.mk (own_base (HR.out.below hb4) (B' := w.heap.size) (by omega))
    clear hb4
    go_wp2_with fail
    go_ret3
    exact ⟨⟨v, 0, -1, flowB F, rfl, HX.out.1, HR4.out, fun _ => rfl, fun h => absurd rfl h⟩, HB⟩
  · have HX := Hid.mk hchk
    clear hchk
    go_wp2_with fail
    refine (turn_copy F _ la lc Na Nc w1 w2 (by simp; omega) H.out.len HC.out hb12.out).mono ?_
    rintro e w3 ⟨rfl, hb3, hsp⟩
    have hb03 : Hid (Below w.heap.size w w3) := Hid.mk ((hb1.out.trans (hb12.out.mono (by omega))).trans (hb3.mono (by simp)))
    have hfa3 : FaultAt w3 q x y := hfa.spare (N := w1.heap.size) (by simp at hq1; omega) hq2 hsp
    have hq3 : q < w3.heap.size := by have := hb3.size; omega
    clear hb3 hsp d0 d1 hfa
    go_wp2_with fail
    refine (told_fault q x y _ hfa3 hq3 (HE.out.keep hb03.out)).mono ?_
    rintro e w4 ⟨rfl, hb4⟩
    have HB : Below w.heap.size w w4 := hb03.out.trans (hb4.mono hb03.out.size)
    clear hb4
    go_wp2_with fail
    go_ret3
    exact ⟨⟨.slice none 0 0, x, y, [], rfl, HX.out, ByteRow.nil _ _, fun h => absurd h hx, fun _ => ⟨rfl, rfl⟩⟩, HB⟩
end Go.Proofs.YtgdcjccbdmcebaaDoor
