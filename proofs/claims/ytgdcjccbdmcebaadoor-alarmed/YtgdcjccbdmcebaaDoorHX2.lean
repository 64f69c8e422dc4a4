/- A wheel that is made. -/
import Derived.Test.YtgdcjccbdmcebaaDoorHX1
import Derived.Deep.WholeRow
import Derived.Laws.Rows
namespace Go.Proofs.YtgdcjccbdmcebaaDoor
open Go.RowKit
set_option maxRecDepth 100000

theorem zw_size : Tryd.zeroCells82.size = 717 := by kernel_rfl
theorem zw_one : Tryd.zeroCells82.all (·.oneCell') = true := by kernel_rfl
theorem info82 : (Tryd.prog.info? 82).map (·.size) = some 717 := by kernel_rfl
theorem zw_set_one (v : Value) (h : v.oneCell' = true) : (Tryd.zeroCells82.setIfInBounds 0 v).all (·.oneCell') = true := by
  rw [Array.all_eq_true]
  intro i hi
  have h1 := zw_one
  rw [Array.all_eq_true] at h1
  rw [Array.size_setIfInBounds] at hi
  rw [Array.getElem_setIfInBounds]
  split
  · exact h
  · exact h1 i hi

set_option maxHeartbeats 2000000 in
theorem wnew_any (w : World) (now : Int) :
    Calls Tryd.prog 36 #[.int .u64 now] w fun e w' => e = .returned (.agg (Tryd.zeroCells82.setIfInBounds 0 (.int .u64 (min now 4611686018427387904)))) ∧ Below w.heap.size w w' := by
  have hst := run_storeCells_new (P := Tryd.prog) w 82 Tryd.zeroCells82 (Tryd.zeroCells82.setIfInBounds 0 (.int .u64 (min now 4611686018427387904))) (by rw [info82, Array.size_setIfInBounds, zw_size]) (by rw [Array.size_setIfInBounds]) (zw_set_one _ rfl)
  rw [Array.toList_setIfInBounds] at hst
  have hal : Below w.heap.size w (w.alloc (.cells (Tryd.zeroCells82.setIfInBounds 0 (.int .u64 (min now 4611686018427387904))) 82)) := (Below.refl _ _).alloc (Nat.le_refl _) _
  have HAL := Hid.mk hal
  clear hal
  go_enter Tryd.func36, Tryd.ntmps36
  go_wp2_with fail
  refine bodyPost_ret (results_cell_row rfl _ _ w.heap.size 82 (Tryd.zeroCells82.setIfInBounds 0 (.int .u64 (min now 4611686018427387904))) (0, 0) _ rfl (heap_alloc_new w _) Tryd.underlying82 rfl (by rw [info82, Array.size_setIfInBounds, zw_size])) rfl ?_
  exact ⟨rfl, HAL.out⟩

/-- A new wheel's cells, as a list. -/
theorem zw_list : Tryd.zeroCells82 = ((Value.int .u64 0 :: Value.map none :: (List.replicate 704 (Value.slice none 0 0))) ++ List.replicate 11 (Value.int .u64 0)).toArray := by kernel_rfl

theorem fold_copy : ∀ (l : List Value) (k : Nat) (z : Array Value), k + l.length ≤ z.size → ((l.zipIdx k).foldl (fun (cs : Array Value) (x : Value × Nat) => cs.setIfInBounds x.snd x.fst) z).toList = z.toList.take k ++ l ++ z.toList.drop (k + l.length)
  | [], k, z, _ => by simp
  | v :: r, k, z, h => by
    simp only [List.length_cons] at h
    have ih := fold_copy r (k + 1) (z.setIfInBounds k v) (by rw [Array.size_setIfInBounds]; omega)
    rw [List.zipIdx_cons, List.foldl_cons, ih, Array.toList_setIfInBounds, List.take_set, List.take_add_one, List.drop_set]
    have hk : k < z.toList.length := by simp; omega
    rw [List.getElem?_eq_getElem hk, Option.toList_some, List.set_append_right _ _ (by simp; omega)]
    have e1 : k - (List.take k z.toList).length = 0 := by simp; omega
    rw [e1, if_pos (by omega)]
    simp [show k + 1 + r.length = k + (r.length + 1) by omega]
theorem arr_copy (a z : Array Value) (h : a.size = z.size) : Array.foldl (fun (cs : Array Value) (x : Value × Nat) => cs.setIfInBounds x.snd x.fst) z a.zipIdx 0 a.size = a := by
  apply Array.ext'
  have e : Array.foldl (fun (cs : Array Value) (x : Value × Nat) => cs.setIfInBounds x.snd x.fst) z a.zipIdx 0 a.size = (a.toList.zipIdx 0).foldl (fun (cs : Array Value) (x : Value × Nat) => cs.setIfInBounds x.snd x.fst) z := by
    have e2 : a.size = a.zipIdx.size := by simp
    rw [e2, ← Array.foldl_toList, Array.toList_zipIdx]
  rw [e, fold_copy a.toList 0 z (by simp; omega)]
  simp [h]
theorem zw85_size : Tryd.zeroCells85.size = 717 := by kernel_rfl
theorem info85 : (Tryd.prog.info? 85).map (·.size) = some 717 := by kernel_rfl

set_option maxHeartbeats 2000000 in
theorem newWheel_any (w : World) (now : Int) :
    Calls Tryd.prog 17 #[.int .u64 now] w fun e w' => ∃ P, e = .returned (.pointer (some ⟨P, 0, none⟩)) ∧ w.heap.size ≤ P ∧ w'.heap[P]? = some (.cells (Tryd.zeroCells82.setIfInBounds 0 (.int .u64 (min now 4611686018427387904))) 85 (0, 0)) ∧ Below w.heap.size w w' := by
  go_enter Tryd.func17, Tryd.ntmps17
  go_wp2_with (go_at_call 36; refine (wnew_any w now).mono ?_; rintro e w1 ⟨rfl, hb⟩; have HB := Hid.mk hb; clear hb)
  have hcp := arr_copy (Tryd.zeroCells82.setIfInBounds 0 (.int .u64 (min now 4611686018427387904))) Tryd.zeroCells85 (by rw [Array.size_setIfInBounds, zw_size, zw85_size])
  rw [Array.size_setIfInBounds, zw_size] at hcp
  rw [hcp]
  go_ret
  exact ⟨w1.heap.size, rfl, HB.out.size, heap_alloc_new w1 _, HB.out.alloc HB.out.size _⟩
end Go.Proofs.YtgdcjccbdmcebaaDoor
