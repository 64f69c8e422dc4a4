/- What plain makes of an error: errors.Is at a fault and its number, and Told at nil and at a fault. -/
import Derived.Test.YtgdcjccbdmcebaaDoorWAs
import Derived.Test.YtgdcjccbdmcebaaDoorWCheckA
import Derived.Lib.IfaceEq
namespace Go.Proofs.YtgdcjccbdmcebaaDoor
open Go.RowKit Go.Extern.Stop Go.Stop Go.Extern
set_option maxRecDepth 100000

theorem s_comparable (w : World) : ((ReflectliteType.method fun t => do Rtype.noPackHeld "Comparable" t; Functor.map (fun a => Value.bool a.comparable) (typeInfo t)) #[.agg #[.pointer (some ⟨3, 29, none⟩)]]).run Tryd.prog w = .ok (.bool true) w := by kernel_rfl
theorem s_comp : (Tryd.prog.info? 29).map (·.comparable) = some true := by kernel_rfl

theorem unwrap_any (q : Nat) (x y : Int) (w : World) (h : FaultAt w q x y) :
    Calls Tryd.prog 123 #[.pointer (some ⟨q, 0, none⟩)] w fun e w' => e = .returned (.iface 29 (.int .i64 x)) ∧ w' = w := by
  obtain ⟨h0, h1⟩ := h
  go_enter Tryd.func123, Tryd.ntmps123
  go_wp2
  go_ret
  exact ⟨rfl, rfl⟩

set_option maxHeartbeats 4000000 in
theorem is_fault (q : Nat) (x y : Int) (w : World) (h : FaultAt w q x y) :
    Calls Tryd.prog 51 #[.iface 97 (.pointer (some ⟨q, 0, none⟩)), .iface 29 (.int .i64 x)] w fun e w' => e = .returned (.bool true) ∧ w' = w := by
  obtain ⟨h0, h1⟩ := h
  have h8 := @run_callFunc_extern Tryd.prog 72 _ ReflectliteType.typeOf Tryd.func72 (by kernel_rfl) (by kernel_rfl) (by kernel_rfl) (by kernel_rfl)
  have h32 := @run_callFunc_extern Tryd.prog 130 _ (ReflectliteType.method fun t => do Rtype.noPackHeld "Comparable" t; pure (.bool (← typeInfo t).comparable)) Tryd.func130 (by kernel_rfl) (by kernel_rfl) (by kernel_rfl) (by kernel_rfl)
  have tT := s_typeOf
  have cT := s_comparable
  have mR := s_methodComparable
  have nE := s_noIs
  have uW := s_hasUnwrap
  have mU := s_methodUnwrap
  have heq := Go.Lib.run_eql_iface_int (P := Tryd.prog) w (k := .i64) x x Tryd.underlying69 s_comp Tryd.underlying29
  have hty := run_eql_iface_types (P := Tryd.prog) 97 29 (.pointer (some ⟨q, 0, none⟩)) (.int .i64 x) Tryd.underlying69 (by decide) w
  go_enter Tryd.func51, Tryd.ntmps51
  go_wp2
  refine wp_loop_rounds 2 ?_
  rw [rounds_succ]
  go_wp2
  rw [rounds_succ]
  go_wp2
  go_ret
  exact ⟨rfl, rfl⟩

theorem told_nil (w : World) :
    Calls Tryd.prog 29 #[.nilIface] w fun e w' => e = .returned (.tuple #[.int .i64 0, .int .i64 (-1)]) ∧ Below w.heap.size w w' := by
  go_enter Tryd.func29, Tryd.ntmps29
  go_wp2
  go_ret2
  exact ⟨rfl, ((Below.refl _ _).alloc (Nat.le_refl _) _).alloc (by simp) _⟩

/-- What errors.errorType reads as. -/
def ErrTypeIn (w : World) : Prop := w.cell? ⟨0, 0, none⟩ = some (.iface 153 (.agg #[.pointer (some ⟨3, 69, none⟩)]))
theorem ErrTypeIn.keep {w w' : World} (h : ErrTypeIn w) (hb : Below w.heap.size w w') : ErrTypeIn w' :=
  (hb.cell (p := ⟨0, 0, none⟩) (World.block_lt_of_cell? _ _ h)).trans h

theorem asW_below (w : World) (B : Nat) (e : Addr) (t : Nat) (hB : B ≤ t) (ht : t < w.heap.size) : Below B w (asW w e ⟨t, 0, none⟩) := by
  unfold asW
  refine Below.setCell (Below.alloc (Below.alloc (Below.alloc (Below.alloc (Below.refl _ _) ?_ _) ?_ _) ?_ _) ?_ _) ?_ _
  · omega
  · simp; omega
  · simp; omega
  · simp; omega
  · exact hB
theorem asW_cell (w : World) (e : Addr) (t : Nat) (old : Value) (h : w.cell? ⟨t, 0, none⟩ = some old) : (asW w e ⟨t, 0, none⟩).cell? ⟨t, 0, none⟩ = some (.pointer (some e)) := by
  have ht : t < w.heap.size := World.block_lt_of_cell? _ _ h
  unfold asW
  refine World.cell?_setCell_same _ _ _ (u := old) ?_
  rw [World.cell?_alloc_lt _ _ ⟨t, 0, none⟩ (by simp; omega), World.cell?_alloc_lt _ _ ⟨t, 0, none⟩ (by simp; omega), World.cell?_alloc_lt _ _ ⟨t, 0, none⟩ (by simp; omega), World.cell?_alloc_lt _ _ ⟨t, 0, none⟩ ht]
  exact h

set_option maxHeartbeats 4000000 in
theorem told_fault (q : Nat) (x y : Int) (w : World) (h : FaultAt w q x y) (hq : q < w.heap.size) (hg : ErrTypeIn w) :
    Calls Tryd.prog 29 #[.iface 97 (.pointer (some ⟨q, 0, none⟩))] w fun e w' => e = .returned (.tuple #[.int .i64 x, .int .i64 y]) ∧ Below w.heap.size w w' := by
  have H := Hid.mk h
  have HG := Hid.mk hg
  clear h hg
  have hk : Hid (∀ a b, Below w.heap.size w ((w.alloc a).alloc b)) := Hid.mk fun a b => ((Below.refl _ _).alloc (Nat.le_refl _) _).alloc (by simp) _
  go_enter Tryd.func29, Tryd.ntmps29
  go_wp2_with fail
  refine (as_hit _ _ (.pointer none) _ (HG.out.keep (hk.out _ _)) (by simp) (by simp)).mono ?_
  rintro e w1 ⟨rfl, hw1⟩
  have hb1 : Below w.heap.size w w1 := by rw [hw1]; exact (hk.out _ _).trans (asW_below _ _ _ _ (Nat.le_refl _) (by simp; omega))
  have c1 : w1.cell? ⟨w.heap.size, 0, none⟩ = some (.pointer (some ⟨q, 0, none⟩)) := by rw [hw1]; exact asW_cell _ _ _ (.pointer none) (by simp)
  have hf1 := H.out.keep hq hb1
  have f0 := hf1.1
  have f1 := hf1.2
  have HF := Hid.mk hf1
  clear hw1 hf1
  go_wp2_with fail
  refine (is_fault q x y _ HF.out).mono ?_
  rintro e w2 ⟨rfl, rfl⟩
  go_wp2_with fail
  go_quiet (fail)
  go_wp2_with fail
  go_ret2
  exact ⟨rfl, below_drewN hb1 _⟩
end Go.Proofs.YtgdcjccbdmcebaaDoor
