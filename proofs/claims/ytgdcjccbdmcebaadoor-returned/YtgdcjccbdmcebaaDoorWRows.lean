/- Bytes of the call's own, as they are read again and as a string. -/
import Derived.Test.YtgdcjccbdmcebaaDoorWPdec3
import Derived.Laws.IdiomStrings
namespace Go.Proofs.YtgdcjccbdmcebaaDoor
open Go.RowKit
set_option maxRecDepth 100000

/-- Every one of l is a byte. -/
def AllB (l : List Int) : Prop := ∀ x ∈ l, 0 ≤ x ∧ x < 256
theorem AllB.append {a b : List Int} (h : AllB a) (h2 : AllB b) : AllB (a ++ b) := fun x hx => by
  rcases List.mem_append.1 hx with h3 | h3
  · exact h x h3
  · exact h2 x h3
theorem numL_byte : ∀ n : Nat, AllB (numL n) := by
  intro n
  induction n using Nat.strongRecOn with
  | _ n ih =>
    by_cases h : n < 128
    · rw [numL_small h]
      intro x hx
      simp only [List.mem_singleton] at hx
      omega
    · rw [numL_big h]
      intro x hx
      rcases List.mem_cons.1 hx with rfl | hx
      · omega
      · exact ih (n / 128) (by omega) x hx
theorem nodeB_byte (F : FlowD) (i : Nat) : AllB (nodeB F i) := by
  have hs : ∀ (f : Nat → Nat) (k : Nat), AllB (numsL f k) := by
    intro f k
    induction k with
    | zero => intro x hx; cases hx
    | succ k ih => exact ih.append (numL_byte _)
  exact ((((((((numL_byte _).append (numL_byte _)).append (numL_byte _)).append (numL_byte _)).append (numL_byte _)).append (numL_byte _)).append (numL_byte _)).append (hs _ _))
theorem flowB_byte (F : FlowD) : AllB (flowB F) := by
  have hs : ∀ k, AllB (nodesB F k) := by
    intro k
    induction k with
    | zero => intro x hx; cases hx
    | succ k ih => exact ih.append (nodeB_byte F k)
  exact ((numL_byte _).append (numL_byte _)).append (hs _)
theorem flowB_pos (F : FlowD) : 1 ≤ (flowB F).length := by
  have := numL_pos F.dl.toNat
  simp only [flowB, List.length_append]
  omega
theorem flowB_len {F : FlowD} (ht : OkTop F) (h : ∀ i, i < F.n → NatNode F i) : (flowB F).length ≤ 4096 := by
  have h1 := nodesB_len (k := F.n) h
  have h2 := numL_len9 (n := F.dl.toNat) (by have := ht.dl2; omega)
  have h3 := numL_len9 (n := F.n) (by have := ht.n2; omega)
  have := ht.n2
  simp only [flowB, List.length_append]
  omega

/-- A row of bytes of the call's own, read again. -/
theorem row_bytes {B : Nat} {w : World} {v : Value} {l : List Int} (h : ByteRow B w v l) (hl : AllB l) :
    ∃ (a : Option Addr) (c : Nat), v = .slice a l.length c ∧ (a = none → l.length = 0 ∧ c = 0) ∧ (∀ b o, a = some ⟨b, o, none⟩ → b < w.heap.size) ∧ BytesAt w a l.length c (fun k => (l.getD k 0).toNat) ∧ (∀ k, k < l.length → (l.getD k 0).toNat < 256) ∧
      (l.length = 0 ∨ ∃ g, a = some ⟨g, 0, none⟩ ∧ ∀ k, k < l.length → w.cell? ⟨g, k, none⟩ = (bv l)[k]?) := by
  have hlt : ∀ k, k < l.length → 0 ≤ l.getD k 0 ∧ l.getD k 0 < 256 := fun k hk => by
    rw [List.getD_eq_getElem?_getD, List.getElem?_eq_getElem hk]
    exact hl _ (List.getElem_mem _)
  have hat : ∀ k, k < l.length → (bv l)[k]? = some (.int .u8 (((l.getD k 0).toNat : Nat) : Int)) := fun k hk => by
    have h1 := hlt k hk
    rw [Int.toNat_of_nonneg h1.1, List.getD_eq_getElem?_getD, List.getElem?_eq_getElem hk]
    simp [bv, hk]
  rcases h.2 with ⟨rfl, h2⟩ | ⟨g, cap, cur, rfl, hg, hh, h3, h4, h5, h6⟩
  · refine ⟨none, 0, by rw [h2], fun _ => ⟨h2, rfl⟩, fun b o e => by (cases e), Or.inl h2, fun k hk => by omega, Or.inl h2⟩
  · obtain ⟨hlt2, _⟩ := Array.getElem?_eq_some_iff.1 hh
    have key : ∀ k, k < l.length → w.cell? ⟨g, k, none⟩ = (bv l)[k]? := fun k hk => h.cellAt k (by omega)
    refine ⟨_, _, rfl, fun e => by (cases e), fun b o e => ?_, Or.inr ⟨g, 0, rfl, h3, h4, hlt2, fun k hk => ⟨by rw [Nat.zero_add, key k hk]; exact hat k hk, by show (l.getD k 0).toNat < 256; have := hlt k hk; omega⟩⟩, fun k hk => by have := hlt k hk; omega, Or.inr ⟨g, rfl, key⟩⟩
    obtain ⟨rfl, _⟩ : g = b ∧ 0 = o := by simpa using e
    exact hlt2

/-- Bytes as a string. -/
def strOf (l : List Int) : ByteArray := l.foldl (fun r n => r.push (UInt8.ofNat n.toNat)) ByteArray.empty
theorem run_string_of {w : World} {g c : Nat} {l : List Int} (h : ∀ k, k < l.length → w.cell? ⟨g, k, none⟩ = (bv l)[k]?) :
    (convert 28 9 (.slice (some ⟨g, 0, none⟩) l.length c)).run Tryd.prog w = .ok (.string (strOf l)) w := by
  rw [run_convert_bytes_string w 28 9 5 _ _ _ Tryd.underlying28 Tryd.underlying5 Tryd.underlying9]
  have hl := run_loadCells_list (P := Tryd.prog) w ⟨g, 0, none⟩ (bv l) (fun j v hj => by
    have hj' : j < l.length := by have := (List.getElem?_eq_some_iff.1 hj).1; simpa [bv] using this
    rw [show (⟨g, 0, none⟩ : Addr).add j = ⟨g, j, none⟩ by rw [addr_add, Nat.zero_add], h j hj', hj])
  rw [bv_length] at hl
  exact run_bytesToString w ⟨g, 0, none⟩ l.length c l hl
theorem run_string_nil (w : World) : (convert 28 9 (.slice none 0 0)).run Tryd.prog w = .ok (.string ByteArray.empty) w := by kernel_rfl

/-- What []byte of a string lays. -/
theorem str_bytes (w : World) (s : ByteArray) (hs : s.size ≤ 140737488355328) :
    BytesAt (w.drew.alloc (.cells (bytesRow s (grownCap w s.size 0 5)) 5 ((bytesRow s (grownCap w s.size 0 5)).size, (bytesRow s (grownCap w s.size 0 5)).size + 1))) (some ⟨w.heap.size, 0, none⟩) s.size (grownCap w s.size 0 5) (fun k => (s.data.getD k 0).toNat) := by
  refine Or.inr ⟨w.heap.size, 0, rfl, grownCap_ge _ _ _ _, grownCap_le_maxLen _ _ _ _ (by unfold maxLen; omega), by simp, fun k hk => ⟨?_, ?_⟩⟩
  · have hk2 : k < s.data.size := hk
    have h1 := World.cell?_alloc_mark w.drew (bytesRow s (grownCap w s.size 0 5)) 5 ((bytesRow s (grownCap w s.size 0 5)).size, (bytesRow s (grownCap w s.size 0 5)).size + 1) k
    rw [Nat.zero_add]
    refine h1.trans ?_
    rw [bytesRow_at s _ k hk2]
    show some (Value.int .u8 (s.data[k].toNat : Int)) = some (Value.int .u8 (((s.data.getD k 0).toNat : Nat) : Int))
    rw [show s.data.getD k 0 = s.data[k] by rw [Array.getD, dif_pos hk2]; rfl]
  · exact UInt8.toNat_lt _
end Go.Proofs.YtgdcjccbdmcebaaDoor
