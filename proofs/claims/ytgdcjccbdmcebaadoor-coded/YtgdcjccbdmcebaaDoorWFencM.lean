/- What the program's Encode needs of memory: the six pointers of a node; lists of ints that are handed on; Check at any flow that was copied. -/
import Derived.Test.YtgdcjccbdmcebaaDoorWEnc
import Derived.Test.YtgdcjccbdmcebaaDoorWPlain
import Derived.Test.YtgdcjccbdmcebaaDoorWTold
import Derived.BigRegion
namespace Go.Proofs.YtgdcjccbdmcebaaDoor
open Go.RowKit
set_option maxRecDepth 100000

theorem ints_new1 (B x : Nat) (W : World) : ∀ w', F8 B (W.alloc (.cells #[.int .i64 x] 3)) w' → IntsAt w' (some ⟨W.heap.size, 0, none⟩) 1 1 (fun _ => (x : Int)) := by
  intro w' hf
  have h := hf.block (heap_alloc_new W (.cells #[.int .i64 x] 3)) (by decide)
  obtain ⟨hlt, _⟩ := Array.getElem?_eq_some_iff.1 h
  refine Or.inr ⟨_, _, rfl, by omega, by decide, hlt, fun k hk => ?_⟩
  obtain rfl : k = 0 := by omega
  exact cell_at h 0
theorem ints_new2 (B x y : Nat) (W : World) : ∀ w', F8 B (W.alloc (.cells #[.int .i64 x, .int .i64 y] 3)) w' → IntsAt w' (some ⟨W.heap.size, 0, none⟩) 2 2 (fun k => if k = 0 then (x : Int) else y) := by
  intro w' hf
  have h := hf.block (heap_alloc_new W (.cells #[.int .i64 x, .int .i64 y] 3)) (by decide)
  obtain ⟨hlt, _⟩ := Array.getElem?_eq_some_iff.1 h
  refine Or.inr ⟨_, _, rfl, by omega, by decide, hlt, fun k hk => ?_⟩
  match k, hk with
  | 0, _ => exact cell_at h 0
  | 1, _ => exact cell_at h 1

theorem append1_any (B : Nat) (v : Value) (l : List Int) (x : Nat) (W : World) (hx : x ≤ 1048576) (hl : l.length ≤ 1099511627776) (hB : B ≤ W.heap.size) (h : ByteRow B W v l) :
    Calls Tryd.prog 66 #[v, .slice (some ⟨W.heap.size, 0, none⟩) 1 1] (W.alloc (.cells #[.int .i64 x] 3)) fun e w' => ∃ v', e = .returned v' ∧ ByteRow B w' v' (l ++ numL x) ∧ F8 B W w' := by
  refine (append_any B v l (fun _ => x) (fun _ => (x : Int)) _ 1 1 _ (fun _ _ => rfl) (fun _ _ => by omega) (by omega) hl (by simp; omega) (h.below ((Below.refl _ _).alloc (Nat.le_refl _) _)) (ints_new1 B x W)).mono ?_
  rintro e w' ⟨v', rfl, h1, h2⟩
  exact ⟨v', rfl, by simpa [numsL] using h1, ((F8.refl _ _).alloc hB _).trans h2⟩
theorem append2_any (B : Nat) (v : Value) (l : List Int) (x y : Nat) (W : World) (hx : x ≤ 1048576) (hy : y ≤ 1048576) (hl : l.length ≤ 1099511627776) (hB : B ≤ W.heap.size) (h : ByteRow B W v l) :
    Calls Tryd.prog 66 #[v, .slice (some ⟨W.heap.size, 0, none⟩) 2 2] (W.alloc (.cells #[.int .i64 x, .int .i64 y] 3)) fun e w' => ∃ v', e = .returned v' ∧ ByteRow B w' v' ((l ++ numL x) ++ numL y) ∧ F8 B W w' := by
  refine (append_any B v l (fun k => if k = 0 then x else y) (fun k => if k = 0 then (x : Int) else y) _ 2 2 _ (fun k _ => by split <;> rfl) (fun k _ => by show (if k = 0 then x else y) ≤ _; split <;> omega) (by omega) hl (by simp; omega) (h.below ((Below.refl _ _).alloc (Nat.le_refl _) _)) (ints_new2 B x y W)).mono ?_
  rintro e w' ⟨v', rfl, h1, h2⟩
  exact ⟨v', rfl, by simpa [numsL] using h1, ((F8.refl _ _).alloc hB _).trans h2⟩

/-- Six pointers into a node. -/
def sixP (g : Nat) : Value := .agg #[.pointer (some ⟨g, 0, none⟩), .pointer (some ⟨g, 1, none⟩), .pointer (some ⟨g, 2, none⟩), .pointer (some ⟨g, 3, none⟩), .pointer (some ⟨g, 4, none⟩), .pointer (some ⟨g, 5, none⟩)]

theorem six0 (g : Nat) (w : World) : (Instr.index 122 (sixP g) (.int .i64 0)).run Tryd.prog w = .ok (.pointer (some ⟨g, 0, none⟩)) w := by kernel_rfl
theorem six1 (g : Nat) (w : World) : (Instr.index 122 (sixP g) (.int .i64 1)).run Tryd.prog w = .ok (.pointer (some ⟨g, 1, none⟩)) w := by kernel_rfl
theorem six2 (g : Nat) (w : World) : (Instr.index 122 (sixP g) (.int .i64 2)).run Tryd.prog w = .ok (.pointer (some ⟨g, 2, none⟩)) w := by kernel_rfl
theorem six3 (g : Nat) (w : World) : (Instr.index 122 (sixP g) (.int .i64 3)).run Tryd.prog w = .ok (.pointer (some ⟨g, 3, none⟩)) w := by kernel_rfl
theorem six4 (g : Nat) (w : World) : (Instr.index 122 (sixP g) (.int .i64 4)).run Tryd.prog w = .ok (.pointer (some ⟨g, 4, none⟩)) w := by kernel_rfl
theorem six5 (g : Nat) (w : World) : (Instr.index 122 (sixP g) (.int .i64 5)).run Tryd.prog w = .ok (.pointer (some ⟨g, 5, none⟩)) w := by kernel_rfl

set_option maxHeartbeats 4000000 in
theorem numbersOf_any (g : Nat) (w : World) :
    Calls Tryd.prog 67 #[.pointer (some ⟨g, 0, none⟩)] w fun e w' => e = .returned (sixP g) ∧ Below w.heap.size w w' := by
  go_enter Tryd.func67, Tryd.ntmps67
  go_wp2_with fail
  go_region
  all_goals (go_wp2_with fail)
  exact bodyPost_ret (v := sixP g) (by simp [results, Tryd.results67, go_sem, sixP]) rfl ⟨rfl, ((Below.refl _ _).alloc (Nat.le_refl _) _).drew⟩

theorem check_any (F : FlowD) (B : Nat) (la : Option Addr) (lc : Nat) (Na : Nat → Option Addr) (Nc : Nat → Nat) (w : World) (hn : F.n ≤ maxLen) (hT : TabIn w) (hg : 1 < w.heap.size)
    (h : CopyAt B w F (.slice la F.n lc) F.n Na Nc) :
    Calls Tryd.prog 65 #[flV F.dl (.slice la F.n lc)] w fun e w' => CheckEnds F w w' e ∧ Below w.heap.size w w' := by
  by_cases ht : OkTop F
  · rcases h.own.2 with ⟨_, h2⟩ | ⟨g', cap, cur, h2, _⟩
    · exact absurd h2 (by have := ht.n1; omega)
    · obtain ⟨h7, _, h8⟩ : la = some ⟨g', 0, none⟩ ∧ F.n = F.n ∧ lc = cap := by simpa using h2
      subst h7 h8
      exact check_ok F g' 0 lc Na Nc w ht h.lt.2 hT hg h.node
  · exact check_top F la lc w hn ht
end Go.Proofs.YtgdcjccbdmcebaaDoor
