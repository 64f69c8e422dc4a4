/- The document's wheel: Next, Advance. -/
import Derived.Test.YtgdcjccbdmcebaaDoorHTimC
import Derived.Test.YtgdcjccbdmcebaaDoorHTimF
import Derived.Deep.CutRange
namespace Go.Proofs.YtgdcjccbdmcebaaDoor
open Go.RowKit
set_option maxRecDepth 100000
attribute [local go_sem ↓] Go.wp_at_zero Go.wp_at_succ

set_option maxHeartbeats 2000000 in
theorem rnext_any' (w : World) (M B : Nat) (now : Int) (a : Option Addr) (cap : Nat) (l : List Tm) (sq : Int) (h : RwAt w M B now a cap l sq) (hr : Rising l) :
    Calls Tryd.prog 39 #[.pointer (some ⟨M, 0, none⟩)] w fun e w' => ∃ t ok, e = .returned (.tuple #[.int .u64 t, .bool ok]) ∧ NxtIs l t ok ∧ Below w.heap.size w w' := by
  have H := Hid.mk h
  have HR := Hid.mk hr
  clear h hr
  go_enter Tryd.func39, Tryd.ntmps39
  go_wp2_with fail
  refine (rfirst_any w M B now a cap l sq H.out HR.out).mono ?_
  rintro e w1 ⟨rfl, hb1⟩
  have HB1 := Hid.mk hb1
  have c1 := (H.out.keep hb1).c1
  have HT := tms_of_own (H.out.keep hb1).own
  clear hb1
  cases hb : bestN l l.length with
  | none =>
    have hl := bestN_none hb
    have HL := Hid.mk hl
    simp only [bestI]
    clear hb HT hl
    go_wp2_with fail
    go_ret2
    exact ⟨0, false, rfl, Or.inl ⟨HL.out, rfl, rfl⟩, HB1.out⟩
  | some b =>
    obtain ⟨h1, _, _⟩ := bestN_some hb
    rcases HT with h0 | ⟨b0, o, rfl, hcap, hmax, _, hc⟩
    · omega
    obtain ⟨_, x1, _⟩ := hc b h1
    unfold maxLen at hmax
    have HBN := Hid.mk hb
    simp only [bestI]
    obtain ⟨tb, htb⟩ : ∃ x, x = (l.getD b .z).tm := ⟨_, rfl⟩
    have HTB := Hid.mk htb
    rw [← htb] at x1
    clear hb hc htb
    go_wp2_with fail
    go_ret2
    exact ⟨tb, true, rfl, Or.inr ⟨b, HBN.out, HTB.out, rfl⟩, HB1.out⟩

def frV (t : Fr) : List Value := [.int .i64 t.id, .int .u64 t.tm]
def frL (l : List Fr) : List Value := l.flatMap frV
theorem frL_append (a b : List Fr) : frL (a ++ b) = frL a ++ frL b := by simp [frL]
theorem info63 : (Tryd.prog.info? 63).map (fun i => (i.zero, i.size, i.bytes)) = some (some (.agg #[.int .i64 0, .int .u64 0]), 2, 16) := by kernel_rfl
theorem own_F {w w' : World} {M B : Nat} {ob : Option Nat} {e : TypeId} {size n : Nat} {v : Value} {xs : List Value} (h : w.ownsRow B e size v n xs) (hf : RwF w w' M ob) (hM : M < B) (ho : ∀ z, v.ownBlock = some z → some z ≠ ob) : w'.ownsRow B e size v n xs := by
  obtain ⟨h1, h2⟩ := h
  refine ⟨h1, ?_⟩
  rcases h2 with h2 | ⟨g, cap, cur, rfl, hg, hh, hr⟩
  · exact Or.inl h2
  · refine Or.inr ⟨g, cap, cur, rfl, hg, ?_, hr⟩
    rw [hf.block g (by obtain ⟨hlt, _⟩ := Array.getElem?_eq_some_iff.1 hh; exact hlt) (by omega) (ho g rfl)]
    exact hh
end Go.Proofs.YtgdcjccbdmcebaaDoor
