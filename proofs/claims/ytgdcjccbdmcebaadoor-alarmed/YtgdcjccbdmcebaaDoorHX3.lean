/- A wheel that is made holds nothing. -/
import Derived.Test.YtgdcjccbdmcebaaDoorHX2
namespace Go.Proofs.YtgdcjccbdmcebaaDoor
open Go.RowKit
set_option maxRecDepth 100000

/-- The new wheel holds nothing. -/
theorem wh_new {w : World} {P B : Nat} {now : Int} (h0 : 0 ≤ now) (h : w.heap[P]? = some (.cells (Tryd.zeroCells82.setIfInBounds 0 (.int .u64 (min now 4611686018427387904))) 85 (0, 0))) (hP : P < B) (hB : B ≤ w.heap.size) : WhAt w P B (min now 4611686018427387904).toNat [] := by
  have hc : ∀ j v, (Tryd.zeroCells82.setIfInBounds 0 (.int .u64 (min now 4611686018427387904)))[j]? = some v → w.cell? ⟨P, j, none⟩ = some v := fun j v hj => by
    simp [World.cell?, h, hj]
  have hz : ∀ j v, 0 < j → ((Value.int .u64 0 :: Value.map none :: (List.replicate 704 (Value.slice none 0 0))) ++ List.replicate 11 (Value.int .u64 0))[j]? = some v → w.cell? ⟨P, j, none⟩ = some v := fun j v h0 hj => by
    apply hc
    rw [Array.getElem?_setIfInBounds_ne (by omega), zw_list]
    simpa using hj
  have c0 : w.cell? ⟨P, 0, none⟩ = some (.int .u64 ((min now 4611686018427387904).toNat : Int)) := by
    apply hc
    rw [Array.getElem?_setIfInBounds_self_of_lt (by rw [zw_size]; decide)]
    congr 2
    omega
  have hp : PwAt w P B (min now 4611686018427387904).toNat (.map none) (fun _ => .slice none 0 0) (fun _ => []) (fun _ => 0) := by
    refine ⟨c0, hz 1 _ (by decide) rfl, fun k hk => ?_, fun k hk => ?_, fun o => by simp [World.frozen?, h], fun k _ => World.ownsRow_nil _ _ _ _, fun j k _ _ _ z hz => by simp [Value.ownBlock] at hz, hP, hB⟩
    · apply hz _ _ (by omega)
      rw [List.getElem?_append_left (by simp; omega), show 2 + k = k + 1 + 1 by omega, List.getElem?_cons_succ, List.getElem?_cons_succ, List.getElem?_replicate, if_pos hk]
    · apply hz _ _ (by omega)
      rw [List.getElem?_append_right (by simp), List.getElem?_replicate, if_pos (by simp; omega)]
      rfl
  have e : placed (min now 4611686018427387904).toNat [] = fun _ => [] := by funext j; rfl
  refine ⟨⟨_, _, fun _ => 0, by rw [e]; exact hp, Or.inl ⟨rfl, rfl⟩, ?_⟩, by omega, by simp, (fun t ht => by cases ht), (fun i hi => by simp at hi), (fun i j _ hj => by simp at hj)⟩
  intro L _
  refine ⟨by show 0 < _; decide, fun s _ => ?_⟩
  rw [e]
  simp
end Go.Proofs.YtgdcjccbdmcebaaDoor
