/- What the statement reads twice: plain's Decode and the document's answer the same. -/
import Derived.Test.YtgdcjccbdmcebaaDoorWRdec
import Derived.Test.YtgdcjccbdmcebaaDoorWPdec4
import Derived.Test.YtgdcjccbdmcebaaDoorWSame
namespace Go.Proofs.YtgdcjccbdmcebaaDoor
open Go.RowKit
set_option maxRecDepth 100000

set_option maxHeartbeats 2000000 in
theorem reads_any (w : World) (a : Option Addr) (n cap : Nat) (f : Nat → Nat) (hn : n ≤ 1073741824) (hf : ∀ k, k < n → f k < 256) (h0 : a = none → n = 0 ∧ cap = 0) (hA : ∀ b o, a = some ⟨b, o, none⟩ → b < w.heap.size) (hT : TabIn w) (hg : 1 < w.heap.size) (hE : ErrTypeIn w) (hb : BytesAt w a n cap f) :
    Calls Tryd.prog 10 #[.slice a n cap] w fun e w' => e = .returned (.bool true) ∧ Below w.heap.size w w' := by
  have hP := Hid.mk (pdecode_any w a n cap f hn hf h0 hT hg hE hb)
  have HR := Hid.mk (fun w1 (hb1 : Below w.heap.size w w1) => rdecode_any w1 a n cap f (by unfold maxLen; omega) (hT.keep hg hb1) (Nat.lt_of_lt_of_le hg hb1.size) (fun b o h => Nat.lt_of_lt_of_le (hA b o h) hb1.size) (hb.below hb1))
  clear hf h0 hA hT hE hb
  go_enter Tryd.func10, Tryd.ntmps10
  go_wp2_with fail
  refine hP.out.mono ?_
  rintro e w1 ⟨⟨x, y, G, la, lc, Na, Nc, rfl, hd, hc⟩, hb1⟩
  have H1 := Hid.mk (And.intro hd (And.intro hc hb1))
  clear hd hc hb1
  go_wp2_with fail
  have hk1 : Below w1.heap.size w1 (w1.alloc (.cells #[.int .i64 G.dl, .slice la G.n lc] 24)) := (Below.refl _ _).alloc (Nat.le_refl _) _
  refine (HR.out _ (H1.out.2.2.trans (hk1.mono H1.out.2.2.size))).mono ?_
  rintro e w2 ⟨⟨x', y', G', la', lc', Na', Nc', rfl, hd', hc'⟩, hb2⟩
  obtain ⟨rfl, rfl, rfl⟩ := H1.out.1.one hd'
  have d0 : w2.cell? ⟨w1.heap.size, 0, none⟩ = some (.int .i64 G.dl) := cell_later hb2 (by simp)
  have d1 : w2.cell? ⟨w1.heap.size, 1, none⟩ = some (.slice la G.n lc) := cell_later hb2 (by simp)
  have hs2 : w1.heap.size + 1 ≤ w2.heap.size := by have := hb2.size; simpa using this
  have hb12 : Below w1.heap.size w1 w2 := hk1.trans (hb2.mono (by simp))
  have H2 := Hid.mk (And.intro hc' hb12)
  clear hd' hc' hb2 hk1 hb12
  have hk2 : Below w2.heap.size w2 (w2.alloc (.cells #[.int .i64 G.dl, .slice la' G.n lc'] 24)) := (Below.refl _ _).alloc (Nat.le_refl _) _
  have d0' := cell_later hk2 d0
  have d1' := cell_later hk2 d1
  have HK2 := Hid.mk hk2
  clear d0 d1 hk2
  go_wp2_with fail
  have hk2 := HK2.out
  obtain ⟨hsm, hsa⟩ := H1.out.1.small
  refine (sameFlows_any G la la' lc lc' Na Na' Nc Nc' _ (by unfold maxLen; omega) (fun i _ => by have := hsa i; unfold maxLen; omega) ((H1.out.2.1.below H2.out.2).below hk2).nodesAt (H2.out.1.below hk2).nodesAt).mono ?_
  rintro e w3 ⟨rfl, hb3⟩
  have HB : Below w.heap.size w w3 := ((H1.out.2.2.trans (H2.out.2.mono H1.out.2.2.size)).trans (hk2.mono (by have := H1.out.2.2.size; omega))).trans (hb3.mono (by have := H1.out.2.2.size; simp; omega))
  clear hk2 hsm hsa d0' d1' hb3
  go_wp2_with fail
  go_ret
  exact ⟨rfl, HB⟩
end Go.Proofs.YtgdcjccbdmcebaaDoor
