/- The document's encode: the bytes of a flow (P3). -/
import Derived.Test.YtgdcjccbdmcebaaDoorWNum
import Derived.Test.YtgdcjccbdmcebaaDoorWCheckA
namespace Go.Proofs.YtgdcjccbdmcebaaDoor
open Go.RowKit
set_option maxRecDepth 100000

theorem OkEdges.ge {F : FlowD} {i : Nat} (h : OkEdges F i) : ∀ k : Nat, k < F.an i → (k : Int) ≤ F.af i k := by
  intro k
  induction k with
  | zero => intro hk; exact (h 0 hk).1
  | succ k ih =>
    intro hk
    have h1 := ih (by omega)
    have h2 := (h (k + 1) hk).2.2 (by omega)
    simp only [Nat.add_sub_cancel] at h2
    omega
theorem OkEdges.an_le {F : FlowD} {i : Nat} (h : OkEdges F i) : F.an i ≤ F.n := by
  by_cases h0 : F.an i = 0
  · omega
  · have h1 := h.ge (F.an i - 1) (by omega)
    have h2 := (h (F.an i - 1) (by omega)).2.1
    omega

/-- The bytes of node i. -/
def nodeB (F : FlowD) (i : Nat) : List Int :=
  (((((((numL (F.bu i).toNat ++ numL (F.cl i).toNat) ++ numL (F.be i).toNat) ++ numL (F.ba i).toNat) ++ numL (F.ca i).toNat) ++ numL (F.ji i).toNat) ++ numL (F.an i)) ++ numsL (fun k => (F.af i k).toNat) (F.an i))
def nodesB (F : FlowD) : Nat → List Int
  | 0 => []
  | k + 1 => nodesB F k ++ nodeB F k
/-- The bytes of a flow. -/
def flowB (F : FlowD) : List Int := (numL F.dl.toNat ++ numL F.n) ++ nodesB F F.n

/-- The six numbers of a node, none of them below 0. -/
structure NatNode (F : FlowD) (i : Nat) where
  bu : (F.bu i) = ((F.bu i).toNat : Int) ∧ (F.bu i).toNat ≤ 1048576
  cl : (F.cl i) = ((F.cl i).toNat : Int) ∧ (F.cl i).toNat ≤ 1048576
  be : (F.be i) = ((F.be i).toNat : Int) ∧ (F.be i).toNat ≤ 1048576
  ba : (F.ba i) = ((F.ba i).toNat : Int) ∧ (F.ba i).toNat ≤ 1048576
  ca : (F.ca i) = ((F.ca i).toNat : Int) ∧ (F.ca i).toNat ≤ 1048576
  ji : (F.ji i) = ((F.ji i).toNat : Int) ∧ (F.ji i).toNat ≤ 1048576
  an : F.an i ≤ 12
  af : ∀ k, k < F.an i → F.af i k = ((F.af i k).toNat : Int) ∧ (F.af i k).toNat ≤ 12
theorem natNode {F : FlowD} {i : Nat} (ht : OkTop F) (h : OkNode F i) (he : OkEdges F i) : NatNode F i := by
  obtain ⟨t1, t2, t3, t4⟩ := ht
  have h9 := he.an_le
  obtain ⟨h1, h2, h3, h4, h5, h6, h7, h8, h10, h11, h12, h13⟩ := h
  refine ⟨?_, ?_, ?_, ?_, ?_, ?_, by omega, fun k hk => ?_⟩
  · omega
  · omega
  · omega
  · omega
  · omega
  · omega
  · have := he k hk
    unfold OkEdge at this
    omega
theorem numsL_len12 (f : Nat → Nat) (n : Nat) (hn : n ≤ 12) (h : ∀ k, k < n → f k ≤ 12) : (numsL f n).length ≤ 108 := by
  have := numsL_len f n fun k hk => by have := h k hk; omega
  omega
theorem nodeB_len {F : FlowD} {i : Nat} (h : NatNode F i) : (nodeB F i).length ≤ 171 := by
  have l0 := numL_len9 (n := (F.bu i).toNat) (by have := h.bu; omega)
  have l1 := numL_len9 (n := (F.cl i).toNat) (by have := h.cl; omega)
  have l2 := numL_len9 (n := (F.be i).toNat) (by have := h.be; omega)
  have l3 := numL_len9 (n := (F.ba i).toNat) (by have := h.ba; omega)
  have l4 := numL_len9 (n := (F.ca i).toNat) (by have := h.ca; omega)
  have l5 := numL_len9 (n := (F.ji i).toNat) (by have := h.ji; omega)
  have l6 := numL_len9 (n := F.an i) (by have := h.an; omega)
  have l7 := numsL_len12 (fun k => (F.af i k).toNat) (F.an i) h.an fun k hk => (h.af k hk).2
  simp only [nodeB, List.length_append]
  omega
theorem nodesB_len {F : FlowD} {k : Nat} (h : ∀ i, i < k → NatNode F i) : (nodesB F k).length ≤ 171 * k := by
  induction k with
  | zero => simp [nodesB]
  | succ k ih =>
    have h1 := ih fun i hi => h i (by omega)
    have h2 := nodeB_len (h k (by omega))
    simp only [nodesB, List.length_append]
    omega

/-- The block of the flow's own stays. -/
structure Box (w wr : World) (F : FlowD) (a : Option Addr) (cap : Nat) : Prop where
  b : wr.heap[w.heap.size]? = some (.cells #[.int .i64 F.dl, .slice a F.n cap] 24 (0, 0))
  f : F8 w.heap.size w wr
theorem Box.start (w : World) (F : FlowD) (a : Option Addr) (cap : Nat) : Box w (w.alloc (.cells #[.int .i64 F.dl, .slice a F.n cap] 24)) F a cap :=
  ⟨heap_alloc_new _ _, (F8.refl _ _).alloc (Nat.le_refl _) _⟩
theorem Box.keep {w wr wx : World} {F : FlowD} {a : Option Addr} {cap : Nat} (h : Box w wr F a cap) (hb : F8 w.heap.size wr wx) : Box w wx F a cap :=
  ⟨hb.block h.b (by decide), h.f.trans hb⟩
theorem Box.lt {w wr : World} {F : FlowD} {a : Option Addr} {cap : Nat} (h : Box w wr F a cap) : w.heap.size < wr.heap.size := by
  obtain ⟨hlt, _⟩ := Array.getElem?_eq_some_iff.1 h.b
  exact hlt
/-- The block of node k's own stays, at g. -/
def NodeBox (wr : World) (g : Nat) (F : FlowD) (k : Nat) (a : Option Addr) (c : Nat) : Prop := wr.heap[g]? = some (.cells (nodeL F k a c).toArray 27 (0, 0))
theorem NodeBox.keep {wr wx : World} {g : Nat} {F : FlowD} {k : Nat} {a : Option Addr} {c B : Nat} (h : NodeBox wr g F k a c) (hb : F8 B wr wx) : NodeBox wx g F k a c := F8.block hb h (by decide)
theorem NodeBox.cells {wr : World} {g : Nat} {F : FlowD} {k : Nat} {a : Option Addr} {c : Nat} (h : NodeBox wr g F k a c) :
    wr.cell? ⟨g, 0, none⟩ = some (.int .i64 (F.bu k)) ∧ wr.cell? ⟨g, 1, none⟩ = some (.int .i64 (F.cl k)) ∧ wr.cell? ⟨g, 2, none⟩ = some (.int .i64 (F.be k)) ∧ wr.cell? ⟨g, 3, none⟩ = some (.int .i64 (F.ba k)) ∧
    wr.cell? ⟨g, 4, none⟩ = some (.int .i64 (F.ca k)) ∧ wr.cell? ⟨g, 5, none⟩ = some (.int .i64 (F.ji k)) ∧ wr.cell? ⟨g, 6, none⟩ = some (.slice a (F.an k) c) :=
  ⟨cell_at h 0, cell_at h 1, cell_at h 2, cell_at h 3, cell_at h 4, cell_at h 5, cell_at h 6⟩

set_option maxHeartbeats 8000000 in
theorem refencode_any (F : FlowD) (b o cap : Nat) (Aa : Nat → Option Addr) (Ac : Nat → Nat) (w : World) (ht : OkTop F) (hok : ∀ i, i < F.n → NatNode F i) (hb : b < w.heap.size)
    (hc : ∀ i, i < F.n → NodeAt w F i b (o + i * 7) (Aa i) (Ac i)) :
    Calls Tryd.prog 30 #[flV F.dl (.slice (some ⟨b, o, none⟩) F.n cap)] w fun e w' => ∃ v, e = .returned v ∧ ByteRow w.heap.size w' v (flowB F) ∧ Below w.heap.size w w' := by
  obtain ⟨t1, t2, t3, t4⟩ := ht
  have HC := Hid.mk hc
  have HOK := Hid.mk hok
  clear hc hok
  have hdl : ∃ x : Nat, F.dl = x ∧ x ≤ 1048576 ∧ F.dl.toNat = x := ⟨F.dl.toNat, by omega, by omega, rfl⟩
  obtain ⟨xd, hxd, hxd2, hxd3⟩ := hdl
  have hld := numL_len9 (n := xd) (by omega)
  have hln := numL_len9 (n := F.n) (by omega)
  go_enter Tryd.func30, Tryd.ntmps30
  go_wp2_with fail
  have HB0 := Hid.mk (Box.start w F (some ⟨b, o, none⟩) cap)
  rw [hxd]
  refine (refnumber_any w.heap.size _ [] xd _ (by omega) (by simp) (by simp) (ByteRow.nil _ _)).mono ?_
  rintro e w1 ⟨v1, rfl, hr, hf⟩
  have HR1 := Hid.mk hr
  have HB1 := Hid.mk (HB0.out.keep (by rw [← hxd] at hf; exact hf))
  have d1 := cell_at HB1.out.b 1
  have hs1 := HB1.out.lt
  clear hr hf
  go_wp2_with fail
  refine (refnumber_any w.heap.size _ _ F.n _ (by omega) (by simp; omega) (by omega) HR1.out).mono ?_
  rintro e w2 ⟨v2, rfl, hr, hf⟩
  have HR2 : Hid (ByteRow w.heap.size w2 v2 ((numL xd ++ numL F.n) ++ nodesB F 0)) := Hid.mk (by simpa [nodesB] using hr)
  have HB2 := Hid.mk (HB1.out.keep hf)
  clear hr hf d1 hs1
  go_wp2_with fail
  go_loopw [3, 4] (fun vv iv wr => ∃ k : Nat, iv = .int .i64 k ∧ k ≤ F.n ∧ ByteRow w.heap.size wr vv ((numL xd ++ numL F.n) ++ nodesB F k) ∧ Box w wr F (some ⟨b, o, none⟩) cap) (fun _ iv _ => F.n - (intOf iv).toNat)
  case atStart => exact ⟨0, rfl, by omega, HR2.out, HB2.out⟩
  case round =>
    obtain ⟨k, rfl, hk, hrow, hbox⟩ := hrel
    rename World => w3
    have HR3 := Hid.mk hrow
    have HB3 := Hid.mk hbox
    have d1 := cell_at HB3.out.b 1
    have hs3 := HB3.out.lt
    have hnl := nodesB_len (F := F) (k := k) fun i hi => HOK.out i (by omega)
    clear hrow hbox
    by_cases h1 : k < F.n
    · have hnn := HOK.out k h1
      obtain ⟨x0, hx0, hy0, hz0⟩ : ∃ x : Nat, F.bu k = x ∧ x ≤ 1048576 ∧ (F.bu k).toNat = x := ⟨(F.bu k).toNat, hnn.bu.1, hnn.bu.2, rfl⟩
      have hl0 := numL_len9 (n := x0) (by omega)
      obtain ⟨x1, hx1, hy1, hz1⟩ : ∃ x : Nat, F.cl k = x ∧ x ≤ 1048576 ∧ (F.cl k).toNat = x := ⟨(F.cl k).toNat, hnn.cl.1, hnn.cl.2, rfl⟩
      have hl1 := numL_len9 (n := x1) (by omega)
      obtain ⟨x2, hx2, hy2, hz2⟩ : ∃ x : Nat, F.be k = x ∧ x ≤ 1048576 ∧ (F.be k).toNat = x := ⟨(F.be k).toNat, hnn.be.1, hnn.be.2, rfl⟩
      have hl2 := numL_len9 (n := x2) (by omega)
      obtain ⟨x3, hx3, hy3, hz3⟩ : ∃ x : Nat, F.ba k = x ∧ x ≤ 1048576 ∧ (F.ba k).toNat = x := ⟨(F.ba k).toNat, hnn.ba.1, hnn.ba.2, rfl⟩
      have hl3 := numL_len9 (n := x3) (by omega)
      obtain ⟨x4, hx4, hy4, hz4⟩ : ∃ x : Nat, F.ca k = x ∧ x ≤ 1048576 ∧ (F.ca k).toNat = x := ⟨(F.ca k).toNat, hnn.ca.1, hnn.ca.2, rfl⟩
      have hl4 := numL_len9 (n := x4) (by omega)
      obtain ⟨x5, hx5, hy5, hz5⟩ : ∃ x : Nat, F.ji k = x ∧ x ≤ 1048576 ∧ (F.ji k).toNat = x := ⟨(F.ji k).toNat, hnn.ji.1, hnn.ji.2, rfl⟩
      have hl5 := numL_len9 (n := x5) (by omega)
      have ha12 := hnn.an
      have hl6 := numL_len9 (n := F.an k) (by omega)
      obtain ⟨n0, n1, n2, n3, n4, n5, n6, ni⟩ := (HC.out k h1).keep hb HB3.out.f.bl
      have HNI := Hid.mk ((HC.out k h1).ints)
      have HNN := Hid.mk hnn
      clear hnn ni
      rw [hx0] at n0
      rw [hx1] at n1
      rw [hx2] at n2
      rw [hx3] at n3
      rw [hx4] at n4
      rw [hx5] at n5
      have HN3 : Hid (NodeBox (w3.alloc (.cells #[.int .i64 x0, .int .i64 x1, .int .i64 x2, .int .i64 x3, .int .i64 x4, .int .i64 x5, .slice (Aa k) (F.an k) (Ac k)] 27)) w3.heap.size F k (Aa k) (Ac k)) := Hid.mk (by
        unfold NodeBox nodeL
        rw [hx0, hx1, hx2, hx3, hx4, hx5]
        exact heap_alloc_new _ _)
      have HF3 : Hid (∀ ob, F8 w.heap.size w3 (w3.alloc ob)) := Hid.mk fun ob => (F8.refl _ _).alloc (by omega) _
      have HR30 : Hid (∀ ob, ByteRow w.heap.size (w3.alloc ob) _ _) := Hid.mk fun ob => HR3.out.below ((Below.refl _ _).alloc (Nat.le_refl _) _)
      go_wp2_with fail
      refine (refnumber_any w.heap.size _ _ x0 _ (by omega) (by simp only [List.length_append]; omega) (by simp; omega) (HR30.out _)).mono ?_
      rintro e w4 ⟨v4, rfl, hr, hf⟩
      have HR4 := Hid.mk hr
      have HB4 := Hid.mk ((HB3.out.keep (HF3.out _)).keep hf)
      have HN4 := Hid.mk (HN3.out.keep hf)
      have hs4 := HB4.out.lt
      obtain ⟨q0, q1, q2, q3, q4, q5, q6⟩ := HN4.out.cells
      rw [hx1] at q1
      clear hr hf n0 n1 n2 n3 n4 n5 n6 d1 q0 q2 q3 q4 q5 q6
      go_wp2_with fail
      refine (refnumber_any w.heap.size _ _ x1 _ (by omega) (by simp only [List.length_append]; omega) (by omega) HR4.out).mono ?_
      rintro e w5 ⟨v5, rfl, hr, hf⟩
      have HR5 := Hid.mk hr
      have HB5 := Hid.mk (HB4.out.keep hf)
      have HN5 := Hid.mk (HN4.out.keep hf)
      have hs5 := HB5.out.lt
      clear hr hf q1
      obtain ⟨q0, q1, q2, q3, q4, q5, q6⟩ := HN5.out.cells
      rw [hx2] at q2
      clear q0 q1 q3 q4 q5 q6
      go_wp2_with fail
      refine (refnumber_any w.heap.size _ _ x2 _ (by omega) (by simp only [List.length_append]; omega) (by omega) HR5.out).mono ?_
      rintro e w6 ⟨v6, rfl, hr, hf⟩
      have HR6 := Hid.mk hr
      have HB6 := Hid.mk (HB5.out.keep hf)
      have HN6 := Hid.mk (HN5.out.keep hf)
      have hs6 := HB6.out.lt
      clear hr hf q2
      obtain ⟨q0, q1, q2, q3, q4, q5, q6⟩ := HN6.out.cells
      rw [hx3] at q3
      clear q0 q1 q2 q4 q5 q6
      go_wp2_with fail
      refine (refnumber_any w.heap.size _ _ x3 _ (by omega) (by simp only [List.length_append]; omega) (by omega) HR6.out).mono ?_
      rintro e w7 ⟨v7, rfl, hr, hf⟩
      have HR7 := Hid.mk hr
      have HB7 := Hid.mk (HB6.out.keep hf)
      have HN7 := Hid.mk (HN6.out.keep hf)
      have hs7 := HB7.out.lt
      clear hr hf q3
      obtain ⟨q0, q1, q2, q3, q4, q5, q6⟩ := HN7.out.cells
      rw [hx4] at q4
      clear q0 q1 q2 q3 q5 q6
      go_wp2_with fail
      refine (refnumber_any w.heap.size _ _ x4 _ (by omega) (by simp only [List.length_append]; omega) (by omega) HR7.out).mono ?_
      rintro e w8 ⟨v8, rfl, hr, hf⟩
      have HR8 := Hid.mk hr
      have HB8 := Hid.mk (HB7.out.keep hf)
      have HN8 := Hid.mk (HN7.out.keep hf)
      have hs8 := HB8.out.lt
      clear hr hf q4
      obtain ⟨q0, q1, q2, q3, q4, q5, q6⟩ := HN8.out.cells
      rw [hx5] at q5
      clear q0 q1 q2 q3 q4 q6
      go_wp2_with fail
      refine (refnumber_any w.heap.size _ _ x5 _ (by omega) (by simp only [List.length_append]; omega) (by omega) HR8.out).mono ?_
      rintro e w9 ⟨v9, rfl, hr, hf⟩
      have HR9 := Hid.mk hr
      have HB9 := Hid.mk (HB8.out.keep hf)
      have HN9 := Hid.mk (HN8.out.keep hf)
      have hs9 := HB9.out.lt
      clear hr hf q5
      obtain ⟨q0, q1, q2, q3, q4, q5, q6⟩ := HN9.out.cells
      clear q0 q1 q2 q3 q4 q5
      go_wp2_with fail
      refine (refnumber_any w.heap.size _ _ (F.an k) _ (by omega) (by simp only [List.length_append]; omega) (by omega) HR9.out).mono ?_
      rintro e w10 ⟨v10, rfl, hr, hf⟩
      have HR10 := Hid.mk hr
      have HB10 := Hid.mk (HB9.out.keep hf)
      have HN10 := Hid.mk (HN9.out.keep hf)
      have hs10 := HB10.out.lt
      clear hr hf q6
      obtain ⟨q0, q1, q2, q3, q4, q5, q6⟩ := HN10.out.cells
      clear q0 q1 q2 q3 q4 q5
      go_wp2_with fail
      go_loopw [3, 6] (fun vv iv wr => ∃ m : Nat, iv = .int .i64 m ∧ m ≤ F.an k ∧ ByteRow w.heap.size wr vv ((((((((((numL xd ++ numL F.n) ++ nodesB F k) ++ numL x0) ++ numL x1) ++ numL x2) ++ numL x3) ++ numL x4) ++ numL x5) ++ numL (F.an k)) ++ numsL (fun m => (F.af k m).toNat) m) ∧ Box w wr F (some ⟨b, o, none⟩) cap ∧ NodeBox wr w3.heap.size F k (Aa k) (Ac k)) (fun _ iv _ => F.an k - (intOf iv).toNat)
      case atStart => exact ⟨0, rfl, by omega, by simpa [numsL] using HR10.out, HB10.out, HN10.out⟩
      case round =>
        obtain ⟨m, rfl, hm, hrow, hbox, hnb⟩ := hrel
        rename World => w11
        have HR11 := Hid.mk hrow
        have HB11 := Hid.mk hbox
        have HN11 := Hid.mk hnb
        obtain ⟨r0, r1, r2, r3, r4, r5, r6⟩ := HN11.out.cells
        have hs11 := HB11.out.lt
        clear hrow hbox hnb r0 r1 r2 r3 r4 r5
        by_cases h2 : m < F.an k
        · rcases HNI.out with h0 | ⟨ab, ao, hA, hA1, hA2, hab, hcell⟩
          · omega
          · have hcm := cell_later HB11.out.f.bl (hcell m h2)
            obtain ⟨y, hy, hyy⟩ : ∃ y : Nat, F.af k m = y ∧ (F.af k m).toNat = y := ⟨(F.af k m).toNat, (HNN.out.af m h2).1, rfl⟩
            have hy12 := (HNN.out.af m h2).2
            have hnl2 := numsL_len12 (fun m => (F.af k m).toNat) m (by omega) (fun i hi => (HNN.out.af i (by omega)).2)
            rw [hA] at r6
            rw [hy] at hcm
            rw [hyy] at hy12
            clear hcell hA
            go_wp2_with fail
            refine (refnumber_any w.heap.size _ _ y _ (by omega) (by simp only [List.length_append]; omega) (by omega) HR11.out).mono ?_
            rintro e w12 ⟨v12, rfl, hr, hf⟩
            have HR12 := Hid.mk hr
            have HB12 := Hid.mk (HB11.out.keep hf)
            have HN12 := Hid.mk (HN11.out.keep hf)
            clear hr hf r6 hcm
            go_wp2_with fail
            go_roundw
            case rel => exact ⟨m + 1, by go_num, by omega, (by simp only [numsL]; rw [hyy, ← List.append_assoc]; exact HR12.out), HB12.out, HN12.out⟩
            case measure => simp [intOf]; omega
        · obtain rfl : m = F.an k := by omega
          go_wp2_with fail
          go_roundw
          case rel =>
            refine ⟨k + 1, by go_num, by omega, ?_, HB11.out⟩
            have := HR11.out
            simp only [nodesB, nodeB, hz0, hz1, hz2, hz3, hz4, hz5]
            simp only [List.append_assoc] at this ⊢
            exact this
          case measure => simp [intOf]; omega
    · obtain rfl : k = F.n := by omega
      go_wp2_with fail
      go_ret
      exact ⟨_, rfl, by rw [flowB, hxd3]; exact HR3.out, HB3.out.f.bl⟩
end Go.Proofs.YtgdcjccbdmcebaaDoor
