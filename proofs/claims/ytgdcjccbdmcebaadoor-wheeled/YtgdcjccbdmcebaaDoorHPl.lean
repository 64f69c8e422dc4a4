/- Where timers stand: levels and slots as numbers; which slot is the first; what a new time does. -/
import Derived.Test.YtgdcjccbdmcebaaDoorHTm
namespace Go.Proofs.YtgdcjccbdmcebaaDoor
/-- How many bits a number has. -/
def bl (x : Nat) : Nat := if x = 0 then 0 else Nat.log2 x + 1
theorem bl_le (x k : Nat) : bl x ≤ k ↔ x < 2 ^ k := by
  unfold bl
  split
  · rename_i h; subst h; exact ⟨fun _ => Nat.two_pow_pos _, fun _ => Nat.zero_le _⟩
  · rename_i h; exact Nat.log2_lt h
/-- The level and the slot of a time. -/
def lev (n t : Nat) : Nat := (bl (t ^^^ n) - 1) / 6
def slt (L t : Nat) : Nat := t / 2 ^ (6 * L) % 64
def pl (n t : Nat) : Nat := lev n t * 64 + slt (lev n t) t
theorem xor_zero {a b : Nat} (h : a ^^^ b = 0) : a = b := by
  have h2 : (a ^^^ b) ^^^ b = 0 ^^^ b := by rw [h]
  rwa [Nat.xor_assoc, Nat.xor_self, Nat.xor_zero, Nat.zero_xor] at h2
theorem xor_div (a b k : Nat) : (a ^^^ b) < 2 ^ k ↔ a / 2 ^ k = b / 2 ^ k := by
  have e : (a ^^^ b) / 2 ^ k = (a / 2 ^ k) ^^^ (b / 2 ^ k) := by
    rw [← Nat.shiftRight_eq_div_pow, ← Nat.shiftRight_eq_div_pow, ← Nat.shiftRight_eq_div_pow, Nat.shiftRight_xor_distrib]
  constructor
  · intro h
    have : (a ^^^ b) / 2 ^ k = 0 := Nat.div_eq_of_lt h
    rw [e] at this
    exact xor_zero this
  · intro h
    have h0 : (a ^^^ b) / 2 ^ k = 0 := by rw [e, h, Nat.xor_self]
    rcases Nat.lt_or_ge (a ^^^ b) (2 ^ k) with h1 | h1
    · exact h1
    · have := Nat.div_pos h1 (Nat.two_pow_pos k); omega
theorem lev_le (n t L : Nat) : lev n t ≤ L ↔ t / 2 ^ (6 * (L + 1)) = n / 2 ^ (6 * (L + 1)) := by
  rw [← xor_div, ← bl_le]
  unfold lev
  omega
theorem slt_lt (L t : Nat) : slt L t < 64 := Nat.mod_lt _ (by decide)
theorem pl_div (n t : Nat) : pl n t / 64 = lev n t := by unfold pl; have := slt_lt (lev n t) t; omega
theorem pl_mod (n t : Nat) : pl n t % 64 = slt (lev n t) t := by unfold pl; have := slt_lt (lev n t) t; omega
theorem lev_top (n t : Nat) (hn : n ≤ 4611686018427387904) (ht : t ≤ 4611686018427387904) : lev n t ≤ 10 := by
  rw [lev_le, Nat.div_eq_of_lt (by omega), Nat.div_eq_of_lt (by omega)]
theorem pl_lt (n t : Nat) (hn : n ≤ 4611686018427387904) (ht : t ≤ 4611686018427387904) : pl n t < 704 := by
  unfold pl; have := slt_lt (lev n t) t; have := lev_top n t hn ht; omega
/-- The first time of a slot. -/
def start (n k : Nat) : Nat := n / 2 ^ (6 * (k / 64 + 1)) * 2 ^ (6 * (k / 64 + 1)) + k % 64 * 2 ^ (6 * (k / 64))
theorem pow_step (L : Nat) : 2 ^ (6 * (L + 1)) = 64 * 2 ^ (6 * L) := by rw [Nat.mul_add, Nat.pow_add]; omega
theorem div_step (t L : Nat) : t / 2 ^ (6 * (L + 1)) = t / 2 ^ (6 * L) / 64 := by rw [pow_step, Nat.mul_comm, Nat.div_div_eq_div_mul]
theorem div_up {a b i j : Nat} (h : i ≤ j) (e : a / 2 ^ (6 * i) = b / 2 ^ (6 * i)) : a / 2 ^ (6 * j) = b / 2 ^ (6 * j) := by
  obtain ⟨d, rfl⟩ : ∃ d, j = i + d := ⟨j - i, by omega⟩
  rw [Nat.mul_add, Nat.pow_add, ← Nat.div_div_eq_div_mul, ← Nat.div_div_eq_div_mul, e]
theorem start_eq (n k : Nat) : start n k = (n / 2 ^ (6 * (k / 64 + 1)) * 64 + k % 64) * 2 ^ (6 * (k / 64)) := by
  unfold start
  rw [pow_step, Nat.add_mul, Nat.mul_assoc _ 64]
/-- What a slot's first time is, cut by the slot's width. -/
theorem start_cut (n k : Nat) : start n k / 2 ^ (6 * (k / 64)) = n / 2 ^ (6 * (k / 64 + 1)) * 64 + k % 64 := by
  rw [start_eq, Nat.mul_div_cancel _ (Nat.two_pow_pos _)]
theorem start_above (n k : Nat) : start n k / 2 ^ (6 * (k / 64 + 1)) = n / 2 ^ (6 * (k / 64 + 1)) := by
  rw [div_step, start_cut]
  have := Nat.mod_lt k (show 0 < 64 by decide)
  omega
/-- A time, cut by its level's width. -/
theorem cut_eq (t L : Nat) : t / 2 ^ (6 * L) = t / 2 ^ (6 * (L + 1)) * 64 + slt L t := by
  rw [div_step]; unfold slt; omega
theorem cut_of_pl {n t k : Nat} (h : pl n t = k) : t / 2 ^ (6 * (k / 64)) = n / 2 ^ (6 * (k / 64 + 1)) * 64 + k % 64 := by
  subst h
  rw [pl_div, pl_mod, cut_eq, (lev_le n t (lev n t)).1 (Nat.le_refl _)]
theorem not_lev {n t L : Nat} (h : L < lev n t) : t / 2 ^ (6 * (L + 1)) ≠ n / 2 ^ (6 * (L + 1)) := fun e => by
  have := (lev_le n t L).2 e; omega
/-- No time stands ahead of the first slot that is filled. -/
theorem start_le {n t k : Nat} (hn : n ≤ t) (hk : k ≤ pl n t) : start n k ≤ t := by
  have hd : k / 64 ≤ lev n t := by rw [← pl_div]; omega
  suffices h : n / 2 ^ (6 * (k / 64 + 1)) * 64 + k % 64 ≤ t / 2 ^ (6 * (k / 64)) by
    rw [start_eq]; exact (Nat.le_div_iff_mul_le (Nat.two_pow_pos _)).1 h
  rw [cut_eq t (k / 64)]
  by_cases e : lev n t = k / 64
  · have h1 := pl_mod n t
    rw [(lev_le n t (k / 64)).1 (by omega), ← e, ← h1, e]
    have h2 := pl_div n t
    omega
  · have h1 := not_lev (n := n) (t := t) (L := k / 64) (by omega)
    have h2 : n / 2 ^ (6 * (k / 64 + 1)) ≤ t / 2 ^ (6 * (k / 64 + 1)) := Nat.div_le_div_right hn
    omega
/-- A slot that is filled is of a time to come (or of now). -/
theorem le_start {n t k : Nat} (hn : n ≤ t) (hk : pl n t = k) : n ≤ start n k := by
  by_cases h0 : k / 64 = 0
  · have h1 := cut_of_pl hk
    have h2 := start_cut n k
    rw [h0] at h1 h2
    simp at h1 h2
    omega
  · have h1 := not_lev (n := n) (t := t) (L := k / 64 - 1) (by rw [← hk, pl_div] at *; omega)
    rw [show k / 64 - 1 + 1 = k / 64 by omega] at h1
    have h2 : n / 2 ^ (6 * (k / 64)) ≤ t / 2 ^ (6 * (k / 64)) := Nat.div_le_div_right hn
    have h3 : n / 2 ^ (6 * (k / 64)) < start n k / 2 ^ (6 * (k / 64)) := by rw [start_cut, ← cut_of_pl hk]; omega
    exact Nat.le_of_lt (Nat.lt_of_div_lt_div h3)
/-- At the lowest level a slot is one time. -/
theorem start_low {n t k : Nat} (hk : pl n t = k) (h0 : k < 64) : start n k = t := by
  have h1 := cut_of_pl hk
  have h2 := start_cut n k
  rw [show k / 64 = 0 by omega] at h1 h2
  simp at h1 h2
  omega
theorem pl_of_low {n t k : Nat} (h0 : k < 64) (h : start n k = t) : pl n t = k := by
  have h2 := start_cut n k
  rw [show k / 64 = 0 by omega] at h2
  simp at h2
  have hl : lev n t = 0 := by
    have : lev n t ≤ 0 := by rw [lev_le]; simp; omega
    omega
  unfold pl
  rw [hl]
  unfold slt
  simp
  omega
/-- When now comes to a slot of a higher level, its times stand lower; all others stay where they are. -/
theorem pl_fall {n t k : Nat} (hk : pl n t = k) (h0 : 64 ≤ k) : pl (start n k) t < 64 * (k / 64) := by
  have h1 := cut_of_pl hk
  have h2 := start_cut n k
  have h3 : lev (start n k) t ≤ k / 64 - 1 := by
    rw [lev_le, show k / 64 - 1 + 1 = k / 64 by omega, h1, h2]
  have h4 := slt_lt (lev (start n k) t) t
  unfold pl
  omega
theorem lev_same {n m t L : Nat} (hn : L ≤ lev n t) (hs : ∀ j, L ≤ j → m / 2 ^ (6 * (j + 1)) = n / 2 ^ (6 * (j + 1))) (hl : L = 0 ∨ t / 2 ^ (6 * L) ≠ m / 2 ^ (6 * L)) : lev m t = lev n t := by
  have a1 : L ≤ lev m t := by
    rcases hl with h | h
    · omega
    · rcases Nat.lt_or_ge (lev m t) L with h1 | h1
      · exfalso
        apply h
        have h2 := (lev_le m t (L - 1)).1 (by omega)
        rwa [show L - 1 + 1 = L by omega] at h2
      · exact h1
  apply Nat.le_antisymm
  · rw [lev_le, hs _ hn]; exact (lev_le n t _).1 (Nat.le_refl _)
  · rw [lev_le, ← hs _ a1]; exact (lev_le m t _).1 (Nat.le_refl _)
theorem pl_stay {n t k : Nat} (hk : k < pl n t) : pl (start n k) t = pl n t := by
  have hd : k / 64 ≤ lev n t := by rw [← pl_div]; omega
  have hs : ∀ j, k / 64 ≤ j → start n k / 2 ^ (6 * (j + 1)) = n / 2 ^ (6 * (j + 1)) := fun j hj => div_up (by omega) (start_above n k)
  have e : lev (start n k) t = lev n t := by
    by_cases h1 : lev n t = k / 64
    · refine lev_same hd hs (Or.inr ?_)
      rw [start_cut, cut_eq t (k / 64), (lev_le n t (k / 64)).1 (by omega)]
      have h2 := pl_mod n t
      rw [h1] at h2
      have h3 := pl_div n t
      omega
    · refine lev_same hd hs (Or.inr ?_)
      rw [start_cut]
      have h2 := not_lev (n := n) (t := t) (L := k / 64) (by omega)
      have h3 := cut_eq t (k / 64)
      have h4 := slt_lt (k / 64) t
      have := Nat.mod_lt k (show 0 < 64 by decide)
      omega
  unfold pl
  rw [e]
/-- As long as now comes to no slot that is filled, all stand where they are. -/
theorem pl_wait {n m t k : Nat} (h1 : n ≤ m) (h2 : m < start n k) (hk : k ≤ pl n t) : pl m t = pl n t := by
  have hd : k / 64 ≤ lev n t := by rw [← pl_div]; omega
  have hm : m / 2 ^ (6 * (k / 64 + 1)) = n / 2 ^ (6 * (k / 64 + 1)) := by
    have a1 : n / 2 ^ (6 * (k / 64 + 1)) ≤ m / 2 ^ (6 * (k / 64 + 1)) := Nat.div_le_div_right h1
    have a2 : m / 2 ^ (6 * (k / 64 + 1)) ≤ start n k / 2 ^ (6 * (k / 64 + 1)) := Nat.div_le_div_right (Nat.le_of_lt h2)
    rw [start_above] at a2
    omega
  have hs : ∀ j, k / 64 ≤ j → m / 2 ^ (6 * (j + 1)) = n / 2 ^ (6 * (j + 1)) := fun j hj => div_up (by omega) hm
  have e : lev m t = lev n t := by
    by_cases h0 : k / 64 = 0
    · exact lev_same (L := 0) (Nat.zero_le _) (by rw [h0] at hs; exact hs) (Or.inl rfl)
    · refine lev_same hd hs (Or.inr ?_)
      have b1 : m / 2 ^ (6 * (k / 64)) < start n k / 2 ^ (6 * (k / 64)) := by
        rw [Nat.div_lt_iff_lt_mul (Nat.two_pow_pos _), start_cut, ← start_eq]; exact h2
      rw [start_cut] at b1
      have b2 := cut_eq t (k / 64)
      by_cases h3 : lev n t = k / 64
      · have h4 := pl_mod n t
        rw [h3] at h4
        have h5 := pl_div n t
        rw [(lev_le n t (k / 64)).1 (by omega)] at b2
        omega
      · have h4 := not_lev (n := n) (t := t) (L := k / 64) (by omega)
        have c3 := cut_eq m (k / 64)
        rw [hm] at c3
        have := slt_lt (k / 64) t
        have := slt_lt (k / 64) m
        omega
  unfold pl
  rw [e]

/-- The timers' ids that stand in a place. -/
def placed (n : Nat) (l : List Tm) (k : Nat) : List Int := (l.filter (fun t => pl n t.tm.toNat == k)).map (·.id)
/-- All timers are due at now or later, and not past the last time. -/
def Later (n : Nat) (l : List Tm) : Prop := ∀ t ∈ l, (n : Int) ≤ t.tm ∧ t.tm ≤ 4611686018427387904
/-- The first place that is filled. -/
def Fst (n : Nat) (l : List Tm) (k : Nat) : Prop := (∀ j, j < k → placed n l j = []) ∧ placed n l k ≠ []
theorem mem_getD {l : List Tm} {b : Nat} (h : b < l.length) : l.getD b .z ∈ l := by
  rw [List.getD_eq_getElem?_getD, List.getElem?_eq_getElem h]
  exact List.getElem_mem h
theorem mem_at {l : List Tm} {t : Tm} (h : t ∈ l) : ∃ i, i < l.length ∧ l.getD i .z = t := by
  obtain ⟨i, hi, rfl⟩ := List.mem_iff_getElem.1 h
  exact ⟨i, hi, by rw [List.getD_eq_getElem?_getD, List.getElem?_eq_getElem hi]; rfl⟩
theorem cut_split {l : List Tm} {b : Nat} (h : b < l.length) : l = l.take b ++ l.getD b .z :: l.drop (b + 1) := by
  conv => lhs; rw [← List.take_append_drop b l]
  congr 1
  rw [List.getD_eq_getElem?_getD, List.getElem?_eq_getElem h]
  exact List.drop_eq_getElem_cons h
theorem placed_nil {n : Nat} {l : List Tm} {k : Nat} (h : placed n l k = []) {t : Tm} (ht : t ∈ l) : pl n t.tm.toNat ≠ k := by
  unfold placed at h
  rw [List.map_eq_nil_iff, List.filter_eq_nil_iff] at h
  have := h t ht
  simpa using this
theorem placed_snoc (n : Nat) (l : List Tm) (t : Tm) (k : Nat) : placed n (l ++ [t]) k = if pl n t.tm.toNat = k then placed n l k ++ [t.id] else placed n l k := by
  unfold placed
  rw [List.filter_append, List.map_append]
  by_cases h : pl n t.tm.toNat = k
  · rw [if_pos h, List.filter_cons_of_pos (by simpa using h)]; rfl
  · rw [if_neg h, List.filter_cons_of_neg (by simpa using h)]; simp
theorem placed_cut_off (n : Nat) (l : List Tm) (b k : Nat) (hb : b < l.length) (h : pl n (l.getD b .z).tm.toNat ≠ k) : placed n (l.take b ++ l.drop (b + 1)) k = placed n l k := by
  unfold placed
  conv => rhs; rw [cut_split hb]
  rw [List.filter_append, List.filter_append, List.filter_cons_of_neg (by simpa using h)]
/-- What is left of a place when one of its timers is gone. -/
theorem placed_cut (n : Nat) (l : List Tm) (b : Nat) (hb : b < l.length) (ha : Apart l) : ∃ i, i < (placed n l (pl n (l.getD b .z).tm.toNat)).length ∧ (placed n l (pl n (l.getD b .z).tm.toNat)).getD i 0 = (l.getD b .z).id ∧ (∀ j, j < i → (placed n l (pl n (l.getD b .z).tm.toNat)).getD j 0 ≠ (l.getD b .z).id) ∧ placed n (l.take b ++ l.drop (b + 1)) (pl n (l.getD b .z).tm.toNat) = (placed n l (pl n (l.getD b .z).tm.toNat)).take i ++ (placed n l (pl n (l.getD b .z).tm.toNat)).drop (i + 1) := by
  generalize hk : pl n (l.getD b .z).tm.toNat = k
  generalize hx : l.getD b .z = x at *
  have e1 : placed n l k = ((l.take b).filter (fun t => pl n t.tm.toNat == k)).map (·.id) ++ x.id :: ((l.drop (b + 1)).filter (fun t => pl n t.tm.toNat == k)).map (·.id) := by
    unfold placed
    conv => lhs; rw [cut_split hb]
    rw [hx, List.filter_append, List.filter_cons_of_pos (by simpa using hk), List.map_append, List.map_cons]
  have e2 : placed n (l.take b ++ l.drop (b + 1)) k = ((l.take b).filter (fun t => pl n t.tm.toNat == k)).map (·.id) ++ ((l.drop (b + 1)).filter (fun t => pl n t.tm.toNat == k)).map (·.id) := by
    unfold placed
    rw [List.filter_append, List.map_append]
  have e3 : ∀ y ∈ ((l.take b).filter (fun t => pl n t.tm.toNat == k)).map (·.id), y ≠ x.id := by
    intro y hy
    obtain ⟨t, ht, rfl⟩ := List.mem_map.1 hy
    have ht2 := (List.mem_filter.1 ht).1
    obtain ⟨i, hi, rfl⟩ := mem_at ht2
    rw [List.length_take] at hi
    have : (l.take b).getD i .z = l.getD i .z := by
      rw [List.getD_eq_getElem?_getD, List.getD_eq_getElem?_getD, List.getElem?_take_of_lt (by omega)]
    rw [this, ← hx]
    exact ha i b (by omega) hb
  rw [e1, e2]
  generalize ((l.take b).filter (fun t => pl n t.tm.toNat == k)).map (·.id) = A at *
  generalize ((l.drop (b + 1)).filter (fun t => pl n t.tm.toNat == k)).map (·.id) = C at *
  refine ⟨A.length, by simp, ?_, fun j hj => ?_, ?_⟩
  · rw [List.getD_eq_getElem?_getD, List.getElem?_append_right (Nat.le_refl _)]; simp
  · rw [List.getD_eq_getElem?_getD, List.getElem?_append_left hj]
    refine e3 _ ?_
    rw [List.getElem?_eq_getElem hj]
    exact List.getElem_mem hj
  · rw [List.take_left, List.drop_append]
    simp
theorem fst_le {n : Nat} {l : List Tm} {k : Nat} (h : Fst n l k) {t : Tm} (ht : t ∈ l) : k ≤ pl n t.tm.toNat := by
  rcases Nat.lt_or_ge (pl n t.tm.toNat) k with h1 | h1
  · exact absurd rfl (placed_nil (h.1 _ h1) ht)
  · exact h1
/-- The first of a place. -/
theorem placed_first {n : Nat} {l : List Tm} {k : Nat} (h : placed n l k ≠ []) : ∃ b, b < l.length ∧ pl n (l.getD b .z).tm.toNat = k ∧ ∀ j, j < b → pl n (l.getD j .z).tm.toNat ≠ k := by
  induction l with
  | nil => exact absurd rfl h
  | cons t r ih =>
    by_cases ht : pl n t.tm.toNat = k
    · exact ⟨0, by simp, by simpa using ht, fun j hj => by omega⟩
    · have e : placed n (t :: r) k = placed n r k := by
        unfold placed; rw [List.filter_cons_of_neg (by simpa using ht)]
      rw [e] at h
      obtain ⟨b, h1, h2, h3⟩ := ih h
      refine ⟨b + 1, by simp; omega, by simpa using h2, fun j hj => ?_⟩
      cases j with
      | zero => simpa using ht
      | succ j => have := h3 j (by omega); simpa using this
theorem best_of {l : List Tm} {b : Nat} (hb : b < l.length) (h1 : ∀ j, j < l.length → (l.getD b .z).tm ≤ (l.getD j .z).tm) (h2 : ∀ j, j < b → (l.getD b .z).tm < (l.getD j .z).tm) : bestN l l.length = some b := by
  cases h : bestN l l.length with
  | none => have := bestN_none h; omega
  | some c =>
    obtain ⟨c1, c2, c3⟩ := bestN_some h
    rcases Nat.lt_trichotomy b c with e | e | e
    · have := c3 b e; have := h1 c c1; omega
    · rw [e]
    · have := h2 c e; have := c2 b hb; omega
/-- At the lowest level: the first one that is due is the first of its list, and it is due when its slot begins. -/
theorem fst_low {n : Nat} {l : List Tm} {k : Nat} (hL : Later n l) (hf : Fst n l k) (h0 : k < 64) : ∃ b, b < l.length ∧ bestN l l.length = some b ∧ (l.getD b .z).tm = (start n k : Int) ∧ pl n (l.getD b .z).tm.toNat = k ∧ ∃ r, placed n l k = (l.getD b .z).id :: r ∧ placed n (l.take b ++ l.drop (b + 1)) k = r := by
  obtain ⟨b, hb, h1, h2⟩ := placed_first hf.2
  have e1 := start_low h1 h0
  have e2 : (l.getD b .z).tm = (start n k : Int) := by
    have := (hL _ (mem_getD hb)).1
    omega
  refine ⟨b, hb, best_of hb (fun j hj => ?_) (fun j hj => ?_), e2, h1, ?_⟩
  · have a1 := fst_le hf (mem_getD hj)
    have a2 := (hL _ (mem_getD hj)).1
    have a3 := start_le (n := n) (t := (l.getD j .z).tm.toNat) (by omega) a1
    omega
  · have hj2 : j < l.length := by omega
    have a1 := fst_le hf (mem_getD hj2)
    have a2 := (hL _ (mem_getD hj2)).1
    have a3 := start_le (n := n) (t := (l.getD j .z).tm.toNat) (by omega) a1
    have a4 := h2 j hj
    have a5 : start n k ≠ (l.getD j .z).tm.toNat := fun e => a4 (pl_of_low h0 e)
    omega
  · refine ⟨((l.drop (b + 1)).filter (fun t => pl n t.tm.toNat == k)).map (·.id), ?_, ?_⟩
    all_goals
      have e3 : (l.take b).filter (fun t => pl n t.tm.toNat == k) = [] := by
        rw [List.filter_eq_nil_iff]
        intro t ht
        obtain ⟨i, hi, rfl⟩ := mem_at ht
        rw [List.length_take] at hi
        have : (l.take b).getD i .z = l.getD i .z := by
          rw [List.getD_eq_getElem?_getD, List.getD_eq_getElem?_getD, List.getElem?_take_of_lt (by omega)]
        rw [this]
        have := h2 i (by omega)
        simpa using this
      unfold placed
    · conv => lhs; rw [cut_split hb]
      rw [List.filter_append, e3, List.filter_cons_of_pos (by simpa using h1)]
      rfl
    · rw [List.filter_append, e3]; rfl
/-- When now comes to the time of its first slot at the lowest level, all stand where they are. -/
theorem low_stay {n : Nat} {l : List Tm} {k : Nat} (hf : Fst n l k) (h0 : k < 64) {t : Tm} (ht : t ∈ l) : pl (start n k) t.tm.toNat = pl n t.tm.toNat := by
  have a1 := fst_le hf ht
  by_cases e : pl n t.tm.toNat = k
  · rw [e, start_low e h0]
    have e2 := cut_of_pl e
    rw [show k / 64 = 0 by omega] at e2
    simp at e2
    have e3 : lev t.tm.toNat t.tm.toNat = 0 := by
      have : lev t.tm.toNat t.tm.toNat ≤ 0 := by rw [lev_le]
      omega
    unfold pl
    rw [e3]
    unfold slt
    simp
    omega
  · exact pl_stay (by omega)
theorem placed_congr {n m : Nat} {l : List Tm} (h : ∀ t ∈ l, pl m t.tm.toNat = pl n t.tm.toNat) (k : Nat) : placed m l k = placed n l k := by
  unfold placed
  congr 1
  exact List.filter_congr (fun t ht => by rw [h t ht])
theorem fst_unique {n : Nat} {l : List Tm} {k j : Nat} (h : Fst n l k) (g : Fst n l j) : k = j := by
  rcases Nat.lt_trichotomy k j with e | e | e
  · exact absurd (g.1 k e) h.2
  · exact e
  · exact absurd (h.1 j e) g.2
/-- When now comes to a slot of a higher level: what stands in the places then. -/
theorem high_placed {n : Nat} {l : List Tm} {k : Nat} (hf : Fst n l k) (h0 : 64 ≤ k) (j : Nat) : placed (start n k) l j = (if j = k then [] else placed n l j) ++ placed (start n k) (l.filter (fun t => pl n t.tm.toNat == k)) j := by
  unfold placed
  rw [List.filter_filter]
  by_cases hj : j < 64 * (k / 64)
  · rw [if_neg (by omega)]
    have e1 := hf.1 j (by omega)
    unfold placed at e1
    rw [e1, List.nil_append]
    congr 1
    refine List.filter_congr (fun t ht => ?_)
    have a1 := fst_le hf ht
    by_cases e : pl n t.tm.toNat = k
    · simp [e]
    · have a2 := pl_stay (n := n) (t := t.tm.toNat) (k := k) (by omega)
      rw [a2]
      simp [e]
      omega
  · have e2 : l.filter (fun t => (pl (start n k) t.tm.toNat == j) && (pl n t.tm.toNat == k)) = [] := by
      rw [List.filter_eq_nil_iff]
      intro t ht
      simp only [Bool.and_eq_true, beq_iff_eq, not_and]
      intro e1 e
      have := pl_fall e h0
      omega
    rw [e2, List.map_nil, List.append_nil]
    by_cases hk : j = k
    · rw [if_pos hk, List.map_eq_nil_iff, List.filter_eq_nil_iff]
      intro t ht
      have a1 := fst_le hf ht
      by_cases e : pl n t.tm.toNat = k
      · have := pl_fall e h0; simp; omega
      · rw [pl_stay (by omega)]; simp; omega
    · rw [if_neg hk]
      congr 1
      refine List.filter_congr (fun t ht => ?_)
      have a1 := fst_le hf ht
      by_cases e : pl n t.tm.toNat = k
      · have := pl_fall e h0
        have b1 : (pl (start n k) t.tm.toNat == j) = false := by simp; omega
        have b2 : (pl n t.tm.toNat == j) = false := by simp; omega
        rw [b1, b2]
      · rw [pl_stay (by omega)]
/-- What is left to do. -/
def todo (n : Nat) : List Tm → Nat
  | [] => 0
  | t :: r => pl n t.tm.toNat + 1 + todo n r
theorem todo_le {n m : Nat} : ∀ {l : List Tm}, (∀ t ∈ l, pl m t.tm.toNat ≤ pl n t.tm.toNat) → todo m l ≤ todo n l
  | [], _ => Nat.le_refl _
  | t :: r, h => by
    have h1 := h t (by simp)
    have h2 := todo_le (l := r) (fun x hx => h x (by simp [hx]))
    simp only [todo]; omega
theorem todo_lt {n m : Nat} : ∀ {l : List Tm}, (∀ t ∈ l, pl m t.tm.toNat ≤ pl n t.tm.toNat) → (∃ t ∈ l, pl m t.tm.toNat < pl n t.tm.toNat) → todo m l < todo n l
  | [], _, h => by obtain ⟨t, ht, _⟩ := h; cases ht
  | t :: r, h, h3 => by
    have h1 := h t (by simp)
    have h2 := todo_le (l := r) (fun x hx => h x (by simp [hx]))
    obtain ⟨x, hx, hlt⟩ := h3
    simp only [todo]
    rcases List.mem_cons.1 hx with rfl | hx
    · omega
    · have := todo_lt (l := r) (fun x hx => h x (by simp [hx])) ⟨x, hx, hlt⟩; omega
theorem todo_append (n : Nat) (a b : List Tm) : todo n (a ++ b) = todo n a + todo n b := by
  induction a with
  | nil => simp [todo]
  | cons t r ih => simp only [List.cons_append, todo]; omega
theorem todo_cut {n : Nat} {l : List Tm} {b : Nat} (hb : b < l.length) : todo n (l.take b ++ l.drop (b + 1)) < todo n l := by
  conv => rhs; rw [cut_split hb]
  rw [todo_append, todo_append]
  simp only [todo]
  omega
theorem todo_fall {n : Nat} {l : List Tm} {k : Nat} (hf : Fst n l k) (h0 : 64 ≤ k) : todo (start n k) l < todo n l := by
  refine todo_lt (fun t ht => ?_) ?_
  · have a1 := fst_le hf ht
    by_cases e : pl n t.tm.toNat = k
    · have := pl_fall e h0; omega
    · rw [pl_stay (by omega)]; exact Nat.le_refl _
  · obtain ⟨b, hb, h1, _⟩ := placed_first hf.2
    exact ⟨_, mem_getD hb, by have := pl_fall h1 h0; omega⟩
theorem todo_same {n m : Nat} {l : List Tm} (h : ∀ t ∈ l, pl m t.tm.toNat = pl n t.tm.toNat) : todo m l = todo n l :=
  Nat.le_antisymm (todo_le fun t ht => Nat.le_of_eq (h t ht)) (todo_le fun t ht => Nat.le_of_eq (h t ht).symm)
/-- Nothing is due ahead of the first slot. -/
theorem fst_start {n : Nat} {l : List Tm} {k : Nat} (hL : Later n l) (hf : Fst n l k) : n ≤ start n k ∧ start n k ≤ 4611686018427387904 ∧ ∀ t ∈ l, (start n k : Int) ≤ t.tm := by
  obtain ⟨b, hb, h1, _⟩ := placed_first hf.2
  have a1 := hL _ (mem_getD hb)
  have h3 : ∀ t ∈ l, (start n k : Int) ≤ t.tm := fun t ht => by
    have a2 := (hL t ht).1
    have a3 := start_le (n := n) (t := t.tm.toNat) (by omega) (fst_le hf ht)
    omega
  refine ⟨le_start (by omega) h1, ?_, h3⟩
  have := h3 _ (mem_getD hb)
  omega
theorem wait_stay {n m : Nat} {l : List Tm} {k : Nat} (hf : Fst n l k) (h1 : n ≤ m) (h2 : m < start n k) {t : Tm} (ht : t ∈ l) : pl m t.tm.toNat = pl n t.tm.toNat := pl_wait h1 h2 (fst_le hf ht)
theorem no_fst {n : Nat} {l : List Tm} (hL : Later n l) (hn : n ≤ 4611686018427387904) (h : ∀ k, k < 704 → placed n l k = []) : l = [] := by
  cases l with
  | nil => rfl
  | cons t r =>
    exfalso
    have a := hL t (by simp)
    exact placed_nil (h _ (pl_lt n t.tm.toNat hn (by omega))) (List.mem_cons_self ..) rfl
theorem placed_few (n : Nat) (l : List Tm) (k : Nat) : (placed n l k).length ≤ l.length := by
  unfold placed; rw [List.length_map]; exact List.length_filter_le _ _
end Go.Proofs.YtgdcjccbdmcebaaDoor
