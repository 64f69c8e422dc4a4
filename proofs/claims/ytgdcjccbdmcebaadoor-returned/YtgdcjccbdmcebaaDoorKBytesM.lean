/- What is written is read back (P3, P5): numbers, lists of numbers, flows. -/
import Derived.Test.YtgdcjccbdmcebaaDoorWRows
namespace Go.Proofs.YtgdcjccbdmcebaaDoor
open Go.RowKit

/-- The bytes as they are read. -/
def byF (l : List Int) (k : Nat) : Nat := (l.getD k 0).toNat
/-- Numbers, one behind the other. -/
def catL : List Nat → List Int
  | [] => []
  | v :: r => numL v ++ catL r
theorem catL_append (a b : List Nat) : catL (a ++ b) = catL a ++ catL b := by
  induction a with
  | nil => rfl
  | cons v r ih => simp only [List.cons_append, catL, ih, List.append_assoc]
theorem byF_at (pre l post : List Int) (k : Nat) (hk : k < l.length) : byF (pre ++ (l ++ post)) (pre.length + k) = (l.getD k 0).toNat := by
  unfold byF
  rw [List.getD_eq_getElem?_getD, List.getD_eq_getElem?_getD, List.getElem?_append_right (by omega), List.getElem?_append_left (by omega)]
  congr 2
  congr 1
  omega
/-- A number that was written is read. -/
theorem numAt_numL (pre post : List Int) (v : Nat) (hv : v ≤ 2097151) : numAt (pre ++ (numL v ++ post)).length (byF (pre ++ (numL v ++ post))) pre.length = some (v, pre.length + (numL v).length) := by
  by_cases h1 : v < 128
  · have e : numL v = [(v : Int)] := numL_small h1
    have b0 := byF_at pre (numL v) post 0 (by rw [e]; simp)
    rw [e] at b0 ⊢
    simp only [List.getD_cons_zero, Int.toNat_natCast, Nat.add_zero] at b0
    unfold numAt
    rw [b0, if_neg (by simp), if_pos h1]
    simp
  by_cases h2 : v < 16384
  · have e : numL v = [((v % 128 + 128 : Nat) : Int), ((v / 128 : Nat) : Int)] := by rw [numL_big h1, numL_small (by omega)]
    have b0 := byF_at pre (numL v) post 0 (by rw [e]; simp)
    have b1 := byF_at pre (numL v) post 1 (by rw [e]; simp)
    rw [e] at b0 b1 ⊢
    simp only [List.getD_cons_zero, List.getD_cons_succ, Int.toNat_natCast, Nat.add_zero] at b0 b1
    unfold numAt
    rw [b0, b1, if_neg (by simp), if_neg (by omega), if_neg (by simp), if_pos (by omega), if_neg (by omega)]
    have e3 : (v % 128 + 128) % 128 + v / 128 * 128 = v := by omega
    rw [e3]
    rfl
  · have e : numL v = [((v % 128 + 128 : Nat) : Int), ((v / 128 % 128 + 128 : Nat) : Int), ((v / 128 / 128 : Nat) : Int)] := by rw [numL_big h1, numL_big (by omega), numL_small (by omega)]
    have b0 := byF_at pre (numL v) post 0 (by rw [e]; simp)
    have b1 := byF_at pre (numL v) post 1 (by rw [e]; simp)
    have b2 := byF_at pre (numL v) post 2 (by rw [e]; simp)
    rw [e] at b0 b1 b2 ⊢
    simp only [List.getD_cons_zero, List.getD_cons_succ, Int.toNat_natCast, Nat.add_zero] at b0 b1 b2
    unfold numAt
    rw [b0, b1, b2, if_neg (by simp), if_neg (by omega), if_neg (by simp), if_neg (by omega), if_neg (by simp), if_pos (by omega), if_neg (by omega)]
    have e3 : (v % 128 + 128) % 128 + (v / 128 % 128 + 128) % 128 * 128 + v / 128 / 128 * 16384 = v := by omega
    rw [e3]
    rfl

/-- The reader goes through numbers that were written. -/
theorem nxN_cat (vs : List Nat) (hv : ∀ v ∈ vs, v ≤ 2097151) : ∀ k, k ≤ vs.length → ∃ s, nxN (catL vs).length (byF (catL vs)) k (.good 0 0) = .good (catL (vs.take k)).length s := by
  intro k
  induction k with
  | zero => intro _; exact ⟨0, rfl⟩
  | succ k ih =>
    intro hk
    obtain ⟨s, hs⟩ := ih (by omega)
    have hlt : k < vs.length := by omega
    have e : catL vs = catL (vs.take k) ++ (numL vs[k] ++ catL (vs.drop (k + 1))) := by
      conv => lhs; rw [← List.take_append_drop k vs, List.drop_eq_getElem_cons hlt]
      rw [catL_append]
      rfl
    have hn := numAt_numL (catL (vs.take k)) (catL (vs.drop (k + 1))) vs[k] (hv _ (List.getElem_mem _))
    rw [← e] at hn
    refine ⟨(catL (vs.take k)).length, ?_⟩
    simp only [nxN]
    rw [hs, nxS_some hn, List.take_succ_eq_append_getElem hlt, catL_append, List.length_append]
    simp [catL]
theorem nxV_cat (vs : List Nat) (hv : ∀ v ∈ vs, v ≤ 2097151) (k : Nat) (hk : k < vs.length) : nxV (catL vs).length (byF (catL vs)) (nxN (catL vs).length (byF (catL vs)) k (.good 0 0)) = vs[k] := by
  obtain ⟨s, hs⟩ := nxN_cat vs hv k (by omega)
  have e : catL vs = catL (vs.take k) ++ (numL vs[k] ++ catL (vs.drop (k + 1))) := by
    conv => lhs; rw [← List.take_append_drop k vs, List.drop_eq_getElem_cons hk]
    rw [catL_append]
    rfl
  have hn := numAt_numL (catL (vs.take k)) (catL (vs.drop (k + 1))) vs[k] (hv _ (List.getElem_mem _))
  rw [← e] at hn
  rw [hs, nxV_some hn]

/-- The numbers of a flow. -/
def nodeN (F : FlowD) (i : Nat) : List Nat :=
  [(F.bu i).toNat, (F.cl i).toNat, (F.be i).toNat, (F.ba i).toNat, (F.ca i).toNat, (F.ji i).toNat, F.an i] ++ (List.range (F.an i)).map fun k => (F.af i k).toNat
def nodesN (F : FlowD) : Nat → List Nat
  | 0 => []
  | k + 1 => nodesN F k ++ nodeN F k
def flowN (F : FlowD) : List Nat := [F.dl.toNat, F.n] ++ nodesN F F.n
theorem numsL_cat (f : Nat → Nat) (n : Nat) : numsL f n = catL ((List.range n).map f) := by
  induction n with
  | zero => rfl
  | succ n ih => simp only [numsL, List.range_succ, List.map_append, List.map_cons, List.map_nil, catL_append, ih, catL, List.append_nil]
theorem nodeB_cat (F : FlowD) (i : Nat) : nodeB F i = catL (nodeN F i) := by
  unfold nodeB nodeN
  rw [numsL_cat]
  simp [catL]
theorem nodesB_cat (F : FlowD) (k : Nat) : nodesB F k = catL (nodesN F k) := by
  induction k with
  | zero => rfl
  | succ k ih => simp only [nodesB, nodesN, catL_append, ih, nodeB_cat]
theorem flowB_cat (F : FlowD) : flowB F = catL (flowN F) := by
  unfold flowB flowN
  rw [nodesB_cat]
  simp [catL]
end Go.Proofs.YtgdcjccbdmcebaaDoor
