/- The document's Encode: the bytes of a flow, and what is wrong with it. -/
import Derived.Test.YtgdcjccbdmcebaaDoorWPenc
import Derived.Test.YtgdcjccbdmcebaaDoorWReck
namespace Go.Proofs.YtgdcjccbdmcebaaDoor
open Go.RowKit
set_option maxRecDepth 100000

theorem ChkIs.zero {F : FlowD} {a : Int} (h : ChkIs F 0 a) : a = -1 := by
  rcases h with ⟨h, _⟩ | ⟨h, _⟩ | ⟨h, _⟩ | ⟨h, _⟩ | ⟨_, h, _⟩
  · cases h
  · cases h
  · cases h
  · cases h
  · exact h
set_option maxHeartbeats 2000000 in
theorem rencode_any (F : FlowD) (a : Option Addr) (cap : Nat) (Aa : Nat → Option Addr) (Ac : Nat → Nat) (w : World) (h : FlowIn w F a cap Aa Ac) :
    Calls Tryd.prog 9 #[flV F.dl (.slice a F.n cap)] w fun e w' => EncIs F w.heap.size w' e ∧ Below w.heap.size w w' := by
  have hkb : Hid (∀ o, Below w.heap.size w (w.alloc o)) := Hid.mk fun o => (Below.refl _ _).alloc (Nat.le_refl _) _
  have H := Hid.mk h
  clear h
  go_enter Tryd.func9, Tryd.ntmps9
  go_wp2_with fail
  refine (refcheck_any F a cap Aa Ac _ (H.out.keep (hkb.out _))).mono ?_
  rintro e w1 ⟨x, y, rfl, hchk, hb⟩
  have hb1 : Hid (Below w.heap.size w w1) := Hid.mk ((hkb.out _).trans (hb.mono (by simp)))
  have d0 : w1.cell? ⟨w.heap.size, 0, none⟩ = some (.int .i64 F.dl) := cell_later hb (by simp)
  have d1 : w1.cell? ⟨w.heap.size, 1, none⟩ = some (.slice a F.n cap) := cell_later hb (by simp)
  have HX := Hid.mk hchk
  clear hb hchk
  by_cases hx : x = 0
  · subst hx
    obtain ⟨ht, hok⟩ := chk0 HX.out
    rcases H.out.at' with h0 | ⟨b, o, rfl, h1, h2, h3, h4⟩
    · exact absurd h0 (by have := ht.n1; omega)
    · have HN := Hid.mk h4
      have HOK := Hid.mk hok
      have HT := Hid.mk ht
      clear h4 hok ht
      go_wp2_with fail
      refine (refencode_any F b o cap Aa Ac _ HT.out HOK.out (by have := hb1.out.size; omega) (fun i hi => (HN.out i hi).keep h3 hb1.out)).mono ?_
      rintro e w2 ⟨v, rfl, hr, hb2⟩
      have HB : Below w.heap.size w w2 := hb1.out.trans (hb2.mono hb1.out.size)
      have HR := Hid.mk (own_base hr hb1.out.size)
      clear hr hb2 d0 d1
      go_wp2_with fail
      go_ret3
      exact ⟨⟨v, 0, -1, flowB F, rfl, (by rw [← HX.out.zero]; exact HX.out), HR.out, fun _ => rfl, fun h => absurd rfl h⟩, HB⟩
  · go_wp2_with fail
    go_ret3
    exact ⟨⟨.slice none 0 0, x, y, [], rfl, HX.out, ByteRow.nil _ _, fun h => absurd h hx, fun _ => ⟨rfl, rfl⟩⟩, hb1.out⟩
end Go.Proofs.YtgdcjccbdmcebaaDoor
