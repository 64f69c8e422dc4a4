/- The library's Len64, and Index and Delete at lists of int: what they answer here. -/
import Derived.Shelf.Strconv.Itoa0
import Derived.Shelf.Slices.Turned
import Derived.Shelf.Slices.Cells
import Derived.Shelf.Slices.Empties
import Derived.Lib.ItoaNum
import Derived.Deep.Upon
import Derived.Test.YtgdcjccbdmcebaaDoorHWhM
namespace Go.Proofs.YtgdcjccbdmcebaaDoor
open Go.RowKit Go.Shelf
set_option maxRecDepth 100000

def lays_len_ren : Go.Shelf.Ren := ⟨fun | 129 => 96 | n => n, fun | 3 => 3 | 4 => 4 | 5 => 5 | 9 => 9 | 46 => 89 | 53 => 34 | n => n, fun | n => n⟩
theorem lays_len : Go.Proofs.Lays.n129 Tryd.prog lays_len_ren := {
  mixed := by kernel_rfl
  f129 := Tryd.func96.trans (congrArg some (by kernel_rfl))
  t3 := Tryd.underlying3
  a3 := Tryd.isAgg3
  z3 := Tryd.sizeOf3
  v3 := Tryd.zeroValue3
  t4 := Tryd.underlying4
  a4 := Tryd.isAgg4
  z4 := Tryd.sizeOf4
  v4 := Tryd.zeroValue4
  t5 := Tryd.underlying5
  a5 := Tryd.isAgg5
  z5 := Tryd.sizeOf5
  v5 := Tryd.zeroValue5
  t9 := Tryd.underlying9
  a9 := Tryd.isAgg9
  z9 := Tryd.sizeOf9
  v9 := Tryd.zeroValue9
  t46 := Tryd.underlying89
  a46 := Tryd.isAgg89
  z46 := Tryd.sizeOf89
  v46 := Tryd.zeroValue89
  t53 := Tryd.underlying34
  a53 := Tryd.isAgg34
  z53 := Tryd.sizeOf34
  v53 := Tryd.zeroValue34 }
def lays_idx_ren : Go.Shelf.Ren := ⟨fun | 108 => 81 | n => n, fun | 0 => 0 | 3 => 3 | 4 => 4 | 28 => 25 | n => n, fun | n => n⟩
theorem lays_idx : Go.Proofs.Lays.n108 Tryd.prog lays_idx_ren := {
  mixed := by kernel_rfl
  f108 := Tryd.func81.trans (congrArg some (by kernel_rfl))
  t0 := Tryd.underlying0
  a0 := Tryd.isAgg0
  z0 := Tryd.sizeOf0
  v0 := Tryd.zeroValue0
  t3 := Tryd.underlying3
  a3 := Tryd.isAgg3
  z3 := Tryd.sizeOf3
  v3 := Tryd.zeroValue3
  t4 := Tryd.underlying4
  a4 := Tryd.isAgg4
  z4 := Tryd.sizeOf4
  v4 := Tryd.zeroValue4
  t28 := Tryd.underlying25
  a28 := Tryd.isAgg25
  z28 := Tryd.sizeOf25
  v28 := Tryd.zeroValue25 }
def lays_del_ren : Go.Shelf.Ren := ⟨fun | 23 => 82 | n => n, fun | 0 => 0 | 3 => 3 | 4 => 4 | 22 => 25 | n => n, fun | n => n⟩
theorem lays_del : Go.Proofs.Lays2.n23 Tryd.prog lays_del_ren := {
  mixed := by kernel_rfl
  f23 := Tryd.func82.trans (congrArg some (by kernel_rfl))
  t0 := Tryd.underlying0
  a0 := Tryd.isAgg0
  z0 := Tryd.sizeOf0
  v0 := Tryd.zeroValue0
  t3 := Tryd.underlying3
  a3 := Tryd.isAgg3
  z3 := Tryd.sizeOf3
  v3 := Tryd.zeroValue3
  t4 := Tryd.underlying4
  a4 := Tryd.isAgg4
  z4 := Tryd.sizeOf4
  v4 := Tryd.zeroValue4
  t22 := Tryd.underlying25
  a22 := Tryd.isAgg25
  z22 := Tryd.sizeOf25
  v22 := Tryd.zeroValue25
  i3 := by kernel_rfl }

theorem bitLen_bl (x : Nat) (hx : x < 18446744073709551616) : Lib.bitLen x = bl x := by
  by_cases h0 : x = 0
  · subst h0; rfl
  · obtain ⟨h1, h2, h3⟩ := Lib.bitLenAux_bounds 64 x hx h0
    have e : Lib.bitLen x = Lib.bitLenAux 64 x := rfl
    rw [e]
    generalize Lib.bitLenAux 64 x = L at *
    apply Nat.le_antisymm
    · rcases Nat.lt_or_ge (bl x) L with h4 | h4
      · have h5 : x < 2 ^ (L - 1) := (bl_le x (L - 1)).1 (by omega)
        omega
      · exact h4
    · exact (bl_le x L).2 h3
theorem len_any (x : Nat) (w : World) (hx : x < 18446744073709551616) :
    Calls Tryd.prog 96 #[.int .u64 x] w fun e w' => e = .returned (.int .i64 (bl x)) ∧ w' = w := by
  have h := Any.bits_Len64 lays_len (x : Int) w (by omega) (by omega)
  refine h.mono ?_
  rintro e w' ⟨rfl, rfl⟩
  refine ⟨?_, rfl⟩
  rw [Int.toNat_natCast, bitLen_bl x hx]
/-- Where an id stands in a row of ids. -/
theorem idx_any (w : World) (B : Nat) (a : Option Addr) (n c : Nat) (l : List Int) (i : Nat) (id : Int) (h : w.ownsRow B 3 1 (.slice a n c) n (idsL l)) (hn : l.length = n) (hi : i < n) (he : l.getD i 0 = id) (hne : ∀ j, j < i → l.getD j 0 ≠ id) :
    Calls Tryd.prog 81 #[.slice a n c, .int .i64 id] w fun e w' => e = .returned (.int .i64 i) ∧ w' = w := by
  rcases h.2 with ⟨h1, h2⟩ | ⟨g, cap, cur, h1, hg, hh, h3, h4, h5, h6⟩
  · omega
  · obtain ⟨rfl, _, rfl⟩ : a = some ⟨g, 0, none⟩ ∧ n = n ∧ c = cap := by simpa using h1
    unfold maxLen at h4
    have hc : ∀ j, j < l.length → w.cell? ⟨g, 0 + j, none⟩ = some (.int .i64 (l.getD j 0)) := fun j hj => by
      have := h.cellAt j (by omega)
      rw [Nat.zero_add, this]
      simp [idsL, hj]
    have := Any.slices_Index_int lays_idx g 0 n c l id w (by omega) (by omega) hc
    refine this.mono ?_
    rintro e w' ⟨rfl, rfl⟩
    refine ⟨?_, rfl⟩
    rw [Lib.idxOf_hit l n i id hi (by omega) he hne]
theorem heap_setCells_at (g : Nat) (e : TypeId) : ∀ (vs : List Value) (o : Nat) (w : World) (cur : Array Value), w.heap[g]? = some (.cells cur e (0, 0)) → o + vs.length ≤ cur.size → ∃ cur', (w.setCells g o vs).heap[g]? = some (.cells cur' e (0, 0)) ∧ cur'.size = cur.size ∧ cur'.toList.take (o + vs.length) = cur.toList.take o ++ vs
  | [], o, w, cur, h, _ => ⟨cur, h, rfl, by simp⟩
  | v :: r, o, w, cur, h, hl => by
    have h2 : (w.setCell ⟨g, o, none⟩ v).heap[g]? = some (.cells (cur.setIfInBounds o v) e (0, 0)) := by
      simp [World.setCell, Array.getElem?_modify, h]
    obtain ⟨cur', h3, h4, h5⟩ := heap_setCells_at g e r (o + 1) (w.setCell ⟨g, o, none⟩ v) (cur.setIfInBounds o v) h2 (by simp at hl ⊢; omega)
    refine ⟨cur', h3, by simpa using h4, ?_⟩
    simp only [List.length_cons] at hl ⊢
    rw [show o + (r.length + 1) = o + 1 + r.length by omega, h5, Array.toList_setIfInBounds, List.take_set, List.take_add_one]
    have ho : o < cur.toList.length := by simp; omega
    rw [List.getElem?_eq_getElem ho, Option.toList_some, List.set_append_right _ _ (by simp; omega)]
    have : o - (List.take o cur.toList).length = 0 := by simp; omega
    rw [this]
    simp
/-- One id goes out of a row. -/
theorem del_any (w : World) (B : Nat) (a : Option Addr) (n c : Nat) (l : List Int) (i : Nat) (h : w.ownsRow B 3 1 (.slice a n c) n (idsL l)) (hn : l.length = n) (hi : i < n) :
    Calls Tryd.prog 82 #[.slice a n c, .int .i64 i, .int .i64 (i + 1 : Nat)] w fun e w' => e = .returned (.slice a (n - 1) c) ∧ w'.ownsRow B 3 1 (.slice a (n - 1) c) (n - 1) (idsL (l.take i ++ l.drop (i + 1))) ∧ w.grownBy w' (Value.slice a n c).ownBlock ∧ w'.heap.size = w.heap.size := by
  rcases h.2 with ⟨h1, h2⟩ | ⟨g, cap, cur, h1, hg, hh, h3, h4, h5, h6⟩
  · omega
  · obtain ⟨rfl, _, rfl⟩ : a = some ⟨g, 0, none⟩ ∧ n = n ∧ c = cap := by simpa using h1
    have h4' := h4
    unfold maxLen at h4'
    have hc : ∀ j, j < l.length → w.cell? ⟨g, 0 + j, none⟩ = some (.int .i64 (l.getD j 0)) := fun j hj => by
      have := h.cellAt j (by omega)
      rw [Nat.zero_add, this]
      simp [idsL, hj]
    have hf : ∀ j, j < n → w.frozen? ⟨g, 0 + j, none⟩ = false := fun j hj => by simp [World.frozen?, hh]
    have hd := Any.slices_Delete_int_cells lays_del g 0 n c i (i + 1) l w (by omega) h3 (by omega) (by omega) (by omega) hc hf
    refine hd.mono ?_
    rintro e w' ⟨rfl, q, rfl⟩
    have htk : l.take n = l := List.take_of_length_le (by omega)
    have hlen : (((l.take n).take i ++ (l.take n).drop (i + 1) ++ List.replicate (i + 1 - i) (0 : Int)).map (Value.int .i64)).length = n := by
      rw [htk]; simp; omega
    have hh2 : (w.drewN q).heap[g]? = some (.cells cur 3 (0, 0)) := hh
    obtain ⟨cur', k1, k2, k3⟩ := heap_setCells_at g 3 (((l.take n).take i ++ (l.take n).drop (i + 1) ++ List.replicate (i + 1 - i) (0 : Int)).map (Value.int .i64)) 0 (w.drewN q) cur hh2 (by rw [hlen]; omega)
    rw [hlen] at k3
    have hsz : ∀ (vs : List Value) (o : Nat) (x : World), (x.setCells g o vs).heap.size = x.heap.size := by
      intro vs
      induction vs with
      | nil => intro o x; rfl
      | cons v r ih => intro o x; rw [World.setCells, ih]; simp [World.setCell]
    refine ⟨by rw [show n - (i + 1 - i) = n - 1 by omega], ⟨by rw [idsL_length]; simp; omega, Or.inr ⟨g, c, cur', rfl, hg, k1, by omega, h4, by omega, ?_⟩⟩, ⟨?_, ?_, ?_, Nat.le_of_eq (hsz _ _ (w.drewN q)).symm, fun k hk hne => World.heap_setCells_other (w.drewN q) g 0 _ hk (fun e => hne (by rw [e]; rfl))⟩, hsz _ _ (w.drewN q)⟩
    · have : cur'.toList.take (n - 1) = (cur'.toList.take n).take (n - 1) := by rw [List.take_take, Nat.min_eq_left (by omega)]
      rw [Nat.mul_one, this, show 0 + n = n by omega] at *
      rw [k3, htk]
      simp only [List.take_zero, List.nil_append, List.map_append, List.map_replicate, idsL]
      rw [List.take_append_of_le_length (by simp; omega), List.take_of_length_le (by simp; omega)]
    all_goals
      have hx : ∀ (vs : List Value) (o : Nat) (x : World), (x.setCells g o vs).os = x.os ∧ (x.setCells g o vs).tape = x.tape ∧ (x.setCells g o vs).output = x.output := by
        intro vs
        induction vs with
        | nil => intro o x; exact ⟨rfl, rfl, rfl⟩
        | cons v r ih => intro o x; rw [World.setCells]; exact ih _ _
    · exact (hx _ _ (w.drewN q)).1
    · exact (hx _ _ (w.drewN q)).2.1
    · exact (hx _ _ (w.drewN q)).2.2
end Go.Proofs.YtgdcjccbdmcebaaDoor
