/- The document's Decode: what lies in memory on its way. -/
import Derived.Test.YtgdcjccbdmcebaaDoorWRnext
import Derived.Test.YtgdcjccbdmcebaaDoorWOwn
namespace Go.Proofs.YtgdcjccbdmcebaaDoor
open Go.RowKit
set_option maxRecDepth 100000

/-- The four blocks that Decode begins with: the result's, the reader, the flow's, the start. -/
structure RcI (w x : World) (a : Option Addr) (n cap : Nat) (r : RS) (d : Int) (v : Value) : Prop where
  bl : Below w.heap.size w x
  st : StAt x (w.heap.size + 1) (w.heap.size + 1 + 1 + 1) a n cap r
  a0 : x.cell? ⟨w.heap.size, 0, none⟩ = some (.int .i64 0)
  a1 : x.cell? ⟨w.heap.size, 1, none⟩ = some (.slice none 0 0)
  f0 : x.cell? ⟨w.heap.size + 1 + 1, 0, none⟩ = some (.int .i64 d)
  f1 : x.cell? ⟨w.heap.size + 1 + 1, 1, none⟩ = some v
  za : ∀ j, x.frozen? ⟨w.heap.size, j, none⟩ = false
  zf : ∀ j, x.frozen? ⟨w.heap.size + 1 + 1, j, none⟩ = false
  sz : w.heap.size + 1 + 1 + 1 < x.heap.size
theorem StAt.block {x y : World} {R S : Nat} {a : Option Addr} {n cap : Nat} {r : RS} (h : StAt x R S a n cap r) (h1 : y.heap[R]? = x.heap[R]?) (h2 : y.heap[S]? = x.heap[S]?) : StAt y R S a n cap r := by
  have rd : ∀ {p : Int} {bd : Bool}, RdAt x R a n cap p bd → RdAt y R a n cap p bd := fun h => ⟨(World.cell?_of_block (a := ⟨R, 0, none⟩) h1).trans h.c0, (World.cell?_of_block (a := ⟨R, 1, none⟩) h1).trans h.c1, (World.cell?_of_block (a := ⟨R, 2, none⟩) h1).trans h.c2, (World.frozen?_of_block (a := ⟨R, 1, none⟩) h1).trans h.f1, (World.frozen?_of_block (a := ⟨R, 2, none⟩) h1).trans h.f2⟩
  cases r with
  | good p s => exact ⟨rd h.1, (World.cell?_of_block (a := ⟨S, 0, none⟩) h2).trans h.2.1, (World.frozen?_of_block (a := ⟨S, 0, none⟩) h2).trans h.2.2⟩
  | bad s => obtain ⟨⟨q, hq⟩, h3, h4⟩ := h; exact ⟨⟨q, rd hq⟩, (World.cell?_of_block (a := ⟨S, 0, none⟩) h2).trans h3, (World.frozen?_of_block (a := ⟨S, 0, none⟩) h2).trans h4⟩
/-- Behind the next number. -/
theorem RcI.two {w x y : World} {a : Option Addr} {n cap : Nat} {r r' : RS} {d : Int} {v : Value} (h : RcI w x a n cap r d v) (ht : RTo2 x y (w.heap.size + 1) (w.heap.size + 1 + 1 + 1)) (hs : StAt y (w.heap.size + 1) (w.heap.size + 1 + 1 + 1) a n cap r') : RcI w y a n cap r' d v := by
  have e0 := ht.block w.heap.size (by omega) (by omega)
  have e2 := ht.block (w.heap.size + 1 + 1) (by omega) (by omega)
  exact ⟨⟨ht.os.trans h.bl.os, ht.tape.trans h.bl.tape, ht.output.trans h.bl.output, by rw [ht.size]; exact h.bl.size, fun k hk => (ht.block k (by omega) (by omega)).trans (h.bl.block k hk)⟩, hs,
    (World.cell?_of_block (a := ⟨w.heap.size, 0, none⟩) e0).trans h.a0, (World.cell?_of_block (a := ⟨w.heap.size, 1, none⟩) e0).trans h.a1,
    (World.cell?_of_block (a := ⟨w.heap.size + 1 + 1, 0, none⟩) e2).trans h.f0, (World.cell?_of_block (a := ⟨w.heap.size + 1 + 1, 1, none⟩) e2).trans h.f1,
    fun j => (World.frozen?_of_block (a := ⟨w.heap.size, j, none⟩) e0).trans (h.za j), fun j => (World.frozen?_of_block (a := ⟨w.heap.size + 1 + 1, j, none⟩) e2).trans (h.zf j), by rw [ht.size]; exact h.sz⟩
/-- Nothing of the four has turned. -/
theorem RcI.keep {w x y : World} {a : Option Addr} {n cap : Nat} {r : RS} {d : Int} {v : Value} (h : RcI w x a n cap r d v) (ho : y.os = x.os) (ht : y.tape = x.tape) (hp : y.output = x.output) (hs : x.heap.size ≤ y.heap.size) (hk : ∀ k, k < w.heap.size + 4 → y.heap[k]? = x.heap[k]?) : RcI w y a n cap r d v := by
  have e0 := hk w.heap.size (by omega)
  have e2 := hk (w.heap.size + 1 + 1) (by omega)
  exact ⟨⟨ho.trans h.bl.os, ht.trans h.bl.tape, hp.trans h.bl.output, Nat.le_trans h.bl.size hs, fun k hk2 => (hk k (by omega)).trans (h.bl.block k hk2)⟩, h.st.block (hk _ (by omega)) (hk _ (by omega)),
    (World.cell?_of_block (a := ⟨w.heap.size, 0, none⟩) e0).trans h.a0, (World.cell?_of_block (a := ⟨w.heap.size, 1, none⟩) e0).trans h.a1,
    (World.cell?_of_block (a := ⟨w.heap.size + 1 + 1, 0, none⟩) e2).trans h.f0, (World.cell?_of_block (a := ⟨w.heap.size + 1 + 1, 1, none⟩) e2).trans h.f1,
    fun j => (World.frozen?_of_block (a := ⟨w.heap.size, j, none⟩) e0).trans (h.za j), fun j => (World.frozen?_of_block (a := ⟨w.heap.size + 1 + 1, j, none⟩) e2).trans (h.zf j), Nat.lt_of_lt_of_le h.sz hs⟩
theorem StAt.set {x : World} {R S b o : Nat} {a : Option Addr} {n cap : Nat} {r : RS} (h : StAt x R S a n cap r) (h1 : R ≠ b) (h2 : S ≠ b) (u : Value) : StAt (x.setCell ⟨b, o, none⟩ u) R S a n cap r :=
  h.block (Below.heap_setCell x ⟨b, o, none⟩ u R (by simpa using h1)) (Below.heap_setCell x ⟨b, o, none⟩ u S (by simpa using h2))
/-- The flow's Deadline, and its nodes, are stored. -/
theorem RcI.setD {w x : World} {a : Option Addr} {n cap : Nat} {r : RS} {d : Int} {v : Value} (h : RcI w x a n cap r d v) (d' : Int) : RcI w (x.setCell ⟨w.heap.size + 1 + 1, 0, none⟩ (.int .i64 d')) a n cap r d' v :=
  ⟨h.bl.setCell (by simp; omega) _, h.st.set (by omega) (by omega) _, (setCell_far x _ _ 0 0 _ (by omega)).trans h.a0, (setCell_far x _ _ 0 1 _ (by omega)).trans h.a1, World.cell?_setCell_same _ _ _ h.f0, (cell_setCell_off x _ 0 1 _ (by decide)).trans h.f1,
    fun j => by rw [World.frozen?_setCell]; exact h.za j, fun j => by rw [World.frozen?_setCell]; exact h.zf j, by simpa [World.setCell] using h.sz⟩
theorem RcI.setV {w x : World} {a : Option Addr} {n cap : Nat} {r : RS} {d : Int} {v : Value} (h : RcI w x a n cap r d v) (v' : Value) : RcI w (x.setCell ⟨w.heap.size + 1 + 1, 1, none⟩ v') a n cap r d v' :=
  ⟨h.bl.setCell (by simp; omega) _, h.st.set (by omega) (by omega) _, (setCell_far x _ _ 1 0 _ (by omega)).trans h.a0, (setCell_far x _ _ 1 1 _ (by omega)).trans h.a1, (cell_setCell_off x _ 1 0 _ (by decide)).trans h.f0, World.cell?_setCell_same _ _ _ h.f1,
    fun j => by rw [World.frozen?_setCell]; exact h.za j, fun j => by rw [World.frozen?_setCell]; exact h.zf j, by simpa [World.setCell] using h.sz⟩

/-- Within a round that began at w2: the reader, and the seven cells of the node that is read, in the block that was new then; nothing else has turned. -/
structure RxI (w2 x : World) (R S : Nat) (a : Option Addr) (n cap : Nat) (r : RS) (g : Nat → Value) : Prop where
  os : x.os = w2.os
  tape : x.tape = w2.tape
  output : x.output = w2.output
  size : w2.heap.size < x.heap.size
  block : ∀ k, k < w2.heap.size → k ≠ R → k ≠ S → x.heap[k]? = w2.heap[k]?
  st : StAt x R S a n cap r
  nd : Nd x w2.heap.size g
/-- Behind the next number, which is stored. -/
theorem RxI.num {w2 x y : World} {R S : Nat} {a : Option Addr} {n cap : Nat} {r r' : RS} {g : Nat → Value} (h : RxI w2 x R S a n cap r g) (hR : R < w2.heap.size) (hS : S < w2.heap.size) (ht : RTo2 x y R S) (hs : StAt y R S a n cap r') (i : Nat) (hi : i < 7) (u : Value) :
    RxI w2 (y.setCell ⟨w2.heap.size, i, none⟩ u) R S a n cap r' (fun j => if j = i then u else g j) :=
  ⟨ht.os.trans h.os, ht.tape.trans h.tape, ht.output.trans h.output, by have := h.size; have := ht.size; simp [World.setCell]; omega, fun k hk h1 h2 => (Below.heap_setCell y ⟨w2.heap.size, i, none⟩ u k (by simp; omega)).trans ((ht.block k h1 h2).trans (h.block k hk h1 h2)),
    hs.set (by omega) (by omega) u, (h.nd.block (ht.block _ (by omega) (by omega))).set i hi u⟩
/-- Behind a number that is not stored. -/
theorem RxI.read {w2 x y : World} {R S : Nat} {a : Option Addr} {n cap : Nat} {r r' : RS} {g : Nat → Value} (h : RxI w2 x R S a n cap r g) (hR : R < w2.heap.size) (hS : S < w2.heap.size) (ht : RTo2 x y R S) (hs : StAt y R S a n cap r') : RxI w2 y R S a n cap r' g :=
  ⟨ht.os.trans h.os, ht.tape.trans h.tape, ht.output.trans h.output, by have := h.size; have := ht.size; omega, fun k hk h1 h2 => (ht.block k h1 h2).trans (h.block k hk h1 h2), hs, h.nd.block (ht.block _ (by omega) (by omega))⟩
/-- Blocks that are newer turn. -/
theorem RxI.later {w2 x y : World} {R S : Nat} {a : Option Addr} {n cap : Nat} {r : RS} {g : Nat → Value} (h : RxI w2 x R S a n cap r g) (hR : R < w2.heap.size) (hS : S < w2.heap.size) (ho : y.os = x.os) (ht : y.tape = x.tape) (hp : y.output = x.output) (hs : x.heap.size ≤ y.heap.size) (hk : ∀ k, k ≤ w2.heap.size → y.heap[k]? = x.heap[k]?) : RxI w2 y R S a n cap r g :=
  ⟨ho.trans h.os, ht.trans h.tape, hp.trans h.output, Nat.lt_of_lt_of_le h.size hs, fun k hk2 h1 h2 => (hk k (by omega)).trans (h.block k hk2 h1 h2), h.st.block (hk _ (by omega)) (hk _ (by omega)), h.nd.block (hk _ (Nat.le_refl _))⟩
theorem RxI.set {w2 x : World} {R S : Nat} {a : Option Addr} {n cap : Nat} {r : RS} {g : Nat → Value} (h : RxI w2 x R S a n cap r g) (hR : R < w2.heap.size) (hS : S < w2.heap.size) (i : Nat) (hi : i < 7) (u : Value) : RxI w2 (x.setCell ⟨w2.heap.size, i, none⟩ u) R S a n cap r (fun j => if j = i then u else g j) :=
  h.num hR hS (RTo2.refl _ _ _) h.st i hi u
/-- A round's blocks, seen from the four. -/
theorem RcI.round {w w2 x : World} {a : Option Addr} {n cap : Nat} {r r' : RS} {d : Int} {v : Value} {g : Nat → Value} (h : RcI w w2 a n cap r d v) (hx : RxI w2 x (w.heap.size + 1) (w.heap.size + 1 + 1 + 1) a n cap r' g) : RcI w x a n cap r' d v := by
  have hs := h.sz
  have e0 := hx.block w.heap.size (by omega) (by omega) (by omega)
  have e2 := hx.block (w.heap.size + 1 + 1) (by omega) (by omega) (by omega)
  exact ⟨⟨hx.os.trans h.bl.os, hx.tape.trans h.bl.tape, hx.output.trans h.bl.output, by have := hx.size; have := h.bl.size; omega, fun k hk => (hx.block k (by omega) (by omega) (by omega)).trans (h.bl.block k hk)⟩, hx.st,
    (World.cell?_of_block (a := ⟨w.heap.size, 0, none⟩) e0).trans h.a0, (World.cell?_of_block (a := ⟨w.heap.size, 1, none⟩) e0).trans h.a1,
    (World.cell?_of_block (a := ⟨w.heap.size + 1 + 1, 0, none⟩) e2).trans h.f0, (World.cell?_of_block (a := ⟨w.heap.size + 1 + 1, 1, none⟩) e2).trans h.f1,
    fun j => (World.frozen?_of_block (a := ⟨w.heap.size, j, none⟩) e0).trans (h.za j), fun j => (World.frozen?_of_block (a := ⟨w.heap.size + 1 + 1, j, none⟩) e2).trans (h.zf j), by have := hx.size; omega⟩
/-- The bytes stay. -/
theorem RxI.bytes {w2 x : World} {R S : Nat} {a : Option Addr} {n cap : Nat} {r : RS} {g : Nat → Value} {f : Nat → Nat} (h : RxI w2 x R S a n cap r g) (hR : ∀ b o, a = some ⟨b, o, none⟩ → b ≠ R ∧ b ≠ S) (hb : BytesAt w2 a n cap f) : BytesAt x a n cap f := by
  rcases hb with h0 | ⟨b, o, rfl, h1, h2, h3, h4⟩
  · exact Or.inl h0
  · obtain ⟨r1, r2⟩ := hR b o rfl
    exact Or.inr ⟨b, o, rfl, h1, h2, Nat.lt_trans h3 h.size, fun k hk => ⟨(World.cell?_of_block (h.block b h3 r1 r2)).trans (h4 k hk).1, (h4 k hk).2⟩⟩
/-- Is the reader bad? -/
def RS.isBad : RS → Bool
  | .good _ _ => false
  | .bad _ => true
theorem StAt.flag {x : World} {R S : Nat} {a : Option Addr} {n cap : Nat} {r : RS} (h : StAt x R S a n cap r) : x.cell? ⟨R, 2, none⟩ = some (.bool r.isBad) := by
  cases r with
  | good p s => exact h.1.c2
  | bad s => obtain ⟨⟨q, hq⟩, _⟩ := h; exact hq.c2
/-- Rows that lie behind the four blocks, and ahead of the round's own, stay. -/
theorem own_round {w2 x : World} {R S : Nat} {a : Option Addr} {n cap : Nat} {r : RS} {g : Nat → Value} {B : Nat} {e : TypeId} {size m : Nat} {v : Value} {xs : List Value} (h : RxI w2 x R S a n cap r g) (hR : R < B) (hS : S < B) (ho : w2.ownsRow B e size v m xs) : x.ownsRow B e size v m xs :=
  own_spare ho fun z h1 h2 => h.block z h2 (by omega) (by omega)
theorem CopyAt.round {w2 x : World} {R S : Nat} {a : Option Addr} {n cap : Nat} {r : RS} {g : Nat → Value} {B : Nat} {F : FlowD} {v : Value} {k : Nat} {Na : Nat → Option Addr} {Nc : Nat → Nat} (h : RxI w2 x R S a n cap r g) (hR : R < B) (hS : S < B) (ho : CopyAt B w2 F v k Na Nc) : CopyAt B x F v k Na Nc :=
  ⟨own_round h hR hS ho.own, fun i hi => own_round h hR hS (ho.aft i hi)⟩

/-- What is read is not long. -/
theorem DecIs.small {n : Nat} {f : Nat → Nat} {x y : Int} {G : FlowD} (h : DecIs n f x y G) : G.n ≤ 2097151 ∧ ∀ i, G.an i ≤ 2097151 := by
  have h1 : ∀ {G : FlowD}, G = noFlow → G.n ≤ 2097151 ∧ ∀ i, G.an i ≤ 2097151 := fun e => by subst e; exact ⟨Nat.zero_le _, fun _ => Nat.zero_le _⟩
  rcases h with ⟨s, _, _, _, h⟩ | ⟨p, s, _, _, _, _, h⟩ | ⟨p, s, _, _, _, h0, h2⟩
  · exact h1 h
  · exact h1 h
  · by_cases hx : x = 0
    · rw [h0 hx]; exact ⟨flowOf_n n f, flowOf_an n f⟩
    · exact h1 (h2 hx)

/-- The four blocks as they are laid. -/
abbrev rdW (w : World) (a : Option Addr) (n cap : Nat) : World :=
  (((w.alloc (.cells #[.int .i64 0, .slice none 0 0] 24)).alloc (.cells #[.slice a n cap, .int .i64 0, .bool false] 107)).alloc (.cells #[.int .i64 0, .slice none 0 0] 24)).alloc (.cells #[.int .i64 0] 3)
theorem RcI.start (w : World) (a : Option Addr) (n cap : Nat) : RcI w (rdW w a n cap) a n cap (.good 0 0) 0 (.slice none 0 0) := by
  have e0 : (rdW w a n cap).heap[w.heap.size]? = some (.cells #[.int .i64 0, .slice none 0 0] 24 (0, 0)) := by
    rw [rdW, heap_alloc_before _ _ _ (by simp; omega), heap_alloc_before _ _ _ (by simp; omega), heap_alloc_before _ _ _ (by simp)]
    exact heap_alloc_at _ _ _ _ rfl
  have e1 : (rdW w a n cap).heap[w.heap.size + 1]? = some (.cells #[.slice a n cap, .int .i64 0, .bool false] 107 (0, 0)) := by
    rw [rdW, heap_alloc_before _ _ _ (by simp), heap_alloc_before _ _ _ (by simp)]
    exact heap_alloc_at _ _ _ _ (by simp)
  have e2 : (rdW w a n cap).heap[w.heap.size + 1 + 1]? = some (.cells #[.int .i64 0, .slice none 0 0] 24 (0, 0)) := by
    rw [rdW, heap_alloc_before _ _ _ (by simp)]
    exact heap_alloc_at _ _ _ _ (by simp)
  have e3 : (rdW w a n cap).heap[w.heap.size + 1 + 1 + 1]? = some (.cells #[.int .i64 0] 3 (0, 0)) := heap_alloc_at _ _ _ _ (by simp)
  have hb : Below w.heap.size w (rdW w a n cap) := (((Below.refl _ _).alloc (Nat.le_refl _) _).alloc (by simp) _).alloc (by simp; omega) _ |>.alloc (by simp; omega) _
  exact ⟨hb, ⟨⟨cell_at e1 0, cell_at e1 1, cell_at e1 2, free_at e1 1, free_at e1 2⟩, cell_at e3 0, free_at e3 0⟩, cell_at e0 0, cell_at e0 1, cell_at e2 0, cell_at e2 1, free_at e0, free_at e2, by simp [rdW]⟩

theorem RxI.congr {w2 x : World} {R S : Nat} {a : Option Addr} {n cap : Nat} {r : RS} {g g' : Nat → Value} (h : RxI w2 x R S a n cap r g) (e : ∀ j, j < 7 → g j = g' j) : RxI w2 x R S a n cap r g' :=
  ⟨h.os, h.tape, h.output, h.size, h.block, h.st, fun j hj => by rw [← e j hj]; exact h.nd j hj⟩
theorem RxI.start {w2 : World} {R S : Nat} {a : Option Addr} {n cap : Nat} {r : RS} (hR : R < w2.heap.size) (hS : S < w2.heap.size) (h : StAt w2 R S a n cap r) :
    RxI w2 (w2.alloc (.cells #[.int .i64 0, .int .i64 0, .int .i64 0, .int .i64 0, .int .i64 0, .int .i64 0, .slice none 0 0] 27)) R S a n cap r (gg 0 0 0 0 0 0 (.slice none 0 0)) := by
  have hb : Below w2.heap.size w2 (w2.alloc (.cells #[.int .i64 0, .int .i64 0, .int .i64 0, .int .i64 0, .int .i64 0, .int .i64 0, .slice none 0 0] 27)) := (Below.refl _ _).alloc (Nat.le_refl _) _
  refine ⟨rfl, rfl, rfl, by simp, fun k hk _ _ => hb.block k hk, h.block (hb.block _ hR) (hb.block _ hS), fun j hj => ?_⟩
  rcases (show j = 0 ∨ j = 1 ∨ j = 2 ∨ j = 3 ∨ j = 4 ∨ j = 5 ∨ j = 6 by omega) with rfl | rfl | rfl | rfl | rfl | rfl | rfl <;> simp [gg]
end Go.Proofs.YtgdcjccbdmcebaaDoor
