/- The program's Encode: the bytes of a flow (P3), or what is wrong with it (P4). -/
import Derived.Test.YtgdcjccbdmcebaaDoorWFencM
namespace Go.Proofs.YtgdcjccbdmcebaaDoor
open Go.RowKit
set_option maxRecDepth 100000

/-- What Encode hands back: the bytes, and nothing is wrong; or no bytes, and a fault, new in memory, that says what is wrong. -/
def EncEnds (F : FlowD) (w w' : World) (e : Ending) : Prop :=
  (∃ v, e = .returned (.tuple #[v, .nilIface]) ∧ ChkIs F 0 (-1) ∧ ByteRow w.heap.size w' v (flowB F)) ∨
  (∃ (x y : Int) (q : Nat), e = .returned (.tuple #[.slice none 0 0, .iface 97 (.pointer (some ⟨q, 0, none⟩))]) ∧ x ≠ 0 ∧ ChkIs F x y ∧ w.heap.size ≤ q ∧ q < w'.heap.size ∧ FaultAt w' q x y)

theorem chk0 {F : FlowD} {a : Int} (h : ChkIs F 0 a) : OkTop F ∧ ∀ i, i < F.n → NatNode F i := by
  have hg := h.good
  have ht : OkTop F := by
    rcases h with ⟨h, _⟩ | ⟨h, _⟩ | ⟨h, _⟩ | ⟨h, _⟩ | ⟨_, _, ht, _⟩
    · exact absurd h (by decide)
    · exact absurd h (by decide)
    · exact absurd h (by decide)
    · exact absurd h (by decide)
    · exact ht
  exact ⟨ht, fun i hi => natNode ht (hg i hi).1 (hg i hi).2⟩

set_option maxHeartbeats 8000000 in
theorem fencode_any (F : FlowD) (B : Nat) (la : Option Addr) (lc : Nat) (Na : Nat → Option Addr) (Nc : Nat → Nat) (w : World) (hn : F.n ≤ maxLen) (hT : TabIn w) (hg : 1 < w.heap.size)
    (h : CopyAt B w F (.slice la F.n lc) F.n Na Nc) :
    Calls Tryd.prog 49 #[flV F.dl (.slice la F.n lc)] w fun e w' => EncEnds F w w' e ∧ Below w.heap.size w w' := by
  have HC := Hid.mk h
  have HT := Hid.mk hT
  clear h hT
  go_enter Tryd.func49, Tryd.ntmps49
  have HB0 := Hid.mk (Box.start w F la lc)
  have hkb : Below w.heap.size w (w.alloc (.cells #[.int .i64 F.dl, .slice la F.n lc] 24)) := (Below.refl _ _).alloc (Nat.le_refl _) _
  go_wp2_with fail
  refine (check_any F B la lc Na Nc _ hn (HT.out.keep hg hkb) (by simp; omega) (HC.out.below hkb)).mono ?_
  rintro e w1 ⟨hce, hb1⟩
  have HB1 := Hid.mk (HB0.out.keep ((F8.of_below hb1 (Nat.le_refl _)).mono (by simp)))
  clear hkb
  rcases hce with ⟨rfl, hchk⟩ | ⟨x, y, q, rfl, hx, hchk, hq1, hq2, hfa⟩
  case inr =>
    have HX := Hid.mk hchk
    clear hb1 hchk
    go_wp2_with fail
    go_ret2
    exact ⟨Or.inr ⟨x, y, q, rfl, hx, HX.out, by simp at hq1; omega, hq2, hfa⟩, HB1.out.f.bl⟩
  have HX := Hid.mk hchk
  obtain ⟨⟨t1, t2, t3, t4⟩, hok⟩ := chk0 hchk
  have HOK := Hid.mk hok
  clear hb1 hchk hok
  obtain ⟨g, rfl, hgw⟩ : ∃ g, la = some ⟨g, 0, none⟩ ∧ g < w.heap.size := by
    rcases HC.out.own.2 with ⟨_, h2⟩ | ⟨g, cap, cur, h2, _, hh, _⟩
    · omega
    · obtain ⟨h7, _, h8⟩ : la = some ⟨g, 0, none⟩ ∧ F.n = F.n ∧ lc = cap := by simpa using h2
      obtain ⟨hlt, _⟩ := Array.getElem?_eq_some_iff.1 hh
      exact ⟨g, h7, hlt⟩
  have HND : Hid (∀ i, i < F.n → NodeAt w F i g (i * 7) (Na i) (Nc i)) := Hid.mk fun i hi => by have := HC.out.node i hi; rwa [Nat.zero_add] at this
  clear HC
  have hdl : ∃ x : Nat, F.dl = x ∧ x ≤ 1048576 ∧ F.dl.toNat = x := ⟨F.dl.toNat, by omega, by omega, rfl⟩
  obtain ⟨xd, hxd, hxd2, hxd3⟩ := hdl
  have hld := numL_len9 (n := xd) (by omega)
  have hln := numL_len9 (n := F.n) (by omega)
  have d0 := cell_at HB1.out.b 0
  have d1 := cell_at HB1.out.b 1
  have hs1 := HB1.out.lt
  rw [hxd] at d0
  go_wp2_with fail
  refine (append2_any w.heap.size _ [] xd F.n _ (by omega) (by omega) (by simp) (by omega) (ByteRow.nil _ _)).mono ?_
  rintro e w2 ⟨v2, rfl, hr, hf⟩
  have HR2 : Hid (ByteRow w.heap.size w2 v2 ((numL xd ++ numL F.n) ++ nodesB F 0)) := Hid.mk (by simpa [nodesB] using hr)
  have HB2 := Hid.mk (HB1.out.keep hf)
  clear hr hf d0 d1 hs1
  have d1 := cell_at HB2.out.b 1
  go_wp2_with fail
  clear d1
  go_loopw [5, 25] (fun vv iv wr => ∃ k : Nat, iv = .int .i64 k ∧ k ≤ F.n ∧ ByteRow w.heap.size wr vv ((numL xd ++ numL F.n) ++ nodesB F k) ∧ Box w wr F (some ⟨g, 0, none⟩) lc) (fun _ iv _ => F.n - (intOf iv).toNat)
  case atStart => exact ⟨0, rfl, by omega, HR2.out, HB2.out⟩
  case round =>
    obtain ⟨k, rfl, hk, hrow, hbox⟩ := hrel
    rename World => w3
    have HR3 := Hid.mk hrow
    have HB3 := Hid.mk hbox
    have hs3 := HB3.out.lt
    have hnl := nodesB_len (F := F) (k := k) fun i hi => HOK.out i (by omega)
    clear hrow hbox
    by_cases h1 : k < F.n
    · have hnn := HOK.out k h1
      obtain ⟨x0, hx0, hy0, hz0⟩ : ∃ x : Nat, F.bu k = x ∧ x ≤ 1048576 ∧ (F.bu k).toNat = x := ⟨(F.bu k).toNat, hnn.bu.1, hnn.bu.2, rfl⟩
      have hl0 := numL_len9 (n := x0) (by omega)
      obtain ⟨x1, hx1, hy1, hz1⟩ : ∃ x : Nat, F.cl k = x ∧ x ≤ 1048576 ∧ (F.cl k).toNat = x := ⟨(F.cl k).toNat, hnn.cl.1, hnn.cl.2, rfl⟩
      have hl1 := numL_len9 (n := x1) (by omega)
      obtain ⟨x2, hx2, hy2, hz2⟩ : ∃ x : Nat, F.be k = x ∧ x ≤ 1048576 ∧ (F.be k).toNat = x := ⟨(F.be k).toNat, hnn.be.1, hnn.be.2, rfl⟩
      have hl2 := numL_len9 (n := x2) (by omega)
      obtain ⟨x3, hx3, hy3, hz3⟩ : ∃ x : Nat, F.ba k = x ∧ x ≤ 1048576 ∧ (F.ba k).toNat = x := ⟨(F.ba k).toNat, hnn.ba.1, hnn.ba.2, rfl⟩
      have hl3 := numL_len9 (n := x3) (by omega)
      obtain ⟨x4, hx4, hy4, hz4⟩ : ∃ x : Nat, F.ca k = x ∧ x ≤ 1048576 ∧ (F.ca k).toNat = x := ⟨(F.ca k).toNat, hnn.ca.1, hnn.ca.2, rfl⟩
      have hl4 := numL_len9 (n := x4) (by omega)
      obtain ⟨x5, hx5, hy5, hz5⟩ : ∃ x : Nat, F.ji k = x ∧ x ≤ 1048576 ∧ (F.ji k).toNat = x := ⟨(F.ji k).toNat, hnn.ji.1, hnn.ji.2, rfl⟩
      have hl5 := numL_len9 (n := x5) (by omega)
      have ha12 := hnn.an
      have hl6 := numL_len9 (n := F.an k) (by omega)
      obtain ⟨n0, n1, n2, n3, n4, n5, n6, ni⟩ := (HND.out k h1).keep hgw HB3.out.f.bl
      have HNI := Hid.mk ((HND.out k h1).ints)
      have HNN := Hid.mk hnn
      clear hnn ni
      rw [hx0] at n0
      rw [hx1] at n1
      rw [hx2] at n2
      rw [hx3] at n3
      rw [hx4] at n4
      rw [hx5] at n5
      have HN3 : Hid (NodeBox (w3.alloc (.cells #[.int .i64 x0, .int .i64 x1, .int .i64 x2, .int .i64 x3, .int .i64 x4, .int .i64 x5, .slice (Na k) (F.an k) (Nc k)] 27)) w3.heap.size F k (Na k) (Nc k)) := Hid.mk (by
        unfold NodeBox nodeL
        rw [hx0, hx1, hx2, hx3, hx4, hx5]
        exact heap_alloc_new _ _)
      have HF3 : Hid (∀ ob, F8 w.heap.size w3 (w3.alloc ob)) := Hid.mk fun ob => (F8.refl _ _).alloc (by omega) _
      have HR30 : Hid (∀ ob, ByteRow w.heap.size (w3.alloc ob) _ _) := Hid.mk fun ob => HR3.out.below ((Below.refl _ _).alloc (Nat.le_refl _) _)
      go_wp2_with fail
      refine (numbersOf_any w3.heap.size _).mono ?_
      rintro e w4 ⟨rfl, hb4⟩
      have hf := F8.of_below hb4 (B := w.heap.size) (by simp; omega)
      have HR4 := Hid.mk ((HR30.out _).below hb4)
      have HB4 := Hid.mk ((HB3.out.keep (HF3.out _)).keep hf)
      have HN4 := Hid.mk (HN3.out.keep hf)
      have hs4 := HB4.out.lt
      obtain ⟨q0, q1, q2, q3, q4, q5, q6⟩ := HN4.out.cells
      rw [hx0] at q0
      clear hb4 hf n0 n1 n2 n3 n4 n5 n6 q1 q2 q3 q4 q5 q6
      have i0 := six0 w3.heap.size
      have i1 := six1 w3.heap.size
      have i2 := six2 w3.heap.size
      have i3 := six3 w3.heap.size
      have i4 := six4 w3.heap.size
      have i5 := six5 w3.heap.size
      generalize sixP w3.heap.size = pv at i0 i1 i2 i3 i4 i5
      go_wp2_with fail
      refine wp_loop_rounds 7 ?_
      rw [rounds_succ]
      go_wp2_with fail
      refine (append1_any w.heap.size _ _ x0 _ (by omega) (by simp only [List.length_append]; omega) (by omega) HR4.out).mono ?_
      rintro e w5 ⟨v5, rfl, hr, hf⟩
      have HR5 := Hid.mk hr
      have HB5 := Hid.mk (HB4.out.keep hf)
      have HN5 := Hid.mk (HN4.out.keep hf)
      have hs5 := HB5.out.lt
      clear hr hf q0
      obtain ⟨q0, q1, q2, q3, q4, q5, q6⟩ := HN5.out.cells
      rw [hx1] at q1
      clear q0 q2 q3 q4 q5 q6
      go_wp2_with fail
      rw [rounds_succ]
      go_wp2_with fail
      refine (append1_any w.heap.size _ _ x1 _ (by omega) (by simp only [List.length_append]; omega) (by omega) HR5.out).mono ?_
      rintro e w6 ⟨v6, rfl, hr, hf⟩
      have HR6 := Hid.mk hr
      have HB6 := Hid.mk (HB5.out.keep hf)
      have HN6 := Hid.mk (HN5.out.keep hf)
      have hs6 := HB6.out.lt
      clear hr hf q1
      obtain ⟨q0, q1, q2, q3, q4, q5, q6⟩ := HN6.out.cells
      rw [hx2] at q2
      clear q0 q1 q3 q4 q5 q6
      go_wp2_with fail
      rw [rounds_succ]
      go_wp2_with fail
      refine (append1_any w.heap.size _ _ x2 _ (by omega) (by simp only [List.length_append]; omega) (by omega) HR6.out).mono ?_
      rintro e w7 ⟨v7, rfl, hr, hf⟩
      have HR7 := Hid.mk hr
      have HB7 := Hid.mk (HB6.out.keep hf)
      have HN7 := Hid.mk (HN6.out.keep hf)
      have hs7 := HB7.out.lt
      clear hr hf q2
      obtain ⟨q0, q1, q2, q3, q4, q5, q6⟩ := HN7.out.cells
      rw [hx3] at q3
      clear q0 q1 q2 q4 q5 q6
      go_wp2_with fail
      rw [rounds_succ]
      go_wp2_with fail
      refine (append1_any w.heap.size _ _ x3 _ (by omega) (by simp only [List.length_append]; omega) (by omega) HR7.out).mono ?_
      rintro e w8 ⟨v8, rfl, hr, hf⟩
      have HR8 := Hid.mk hr
      have HB8 := Hid.mk (HB7.out.keep hf)
      have HN8 := Hid.mk (HN7.out.keep hf)
      have hs8 := HB8.out.lt
      clear hr hf q3
      obtain ⟨q0, q1, q2, q3, q4, q5, q6⟩ := HN8.out.cells
      rw [hx4] at q4
      clear q0 q1 q2 q3 q5 q6
      go_wp2_with fail
      rw [rounds_succ]
      go_wp2_with fail
      refine (append1_any w.heap.size _ _ x4 _ (by omega) (by simp only [List.length_append]; omega) (by omega) HR8.out).mono ?_
      rintro e w9 ⟨v9, rfl, hr, hf⟩
      have HR9 := Hid.mk hr
      have HB9 := Hid.mk (HB8.out.keep hf)
      have HN9 := Hid.mk (HN8.out.keep hf)
      have hs9 := HB9.out.lt
      clear hr hf q4
      obtain ⟨q0, q1, q2, q3, q4, q5, q6⟩ := HN9.out.cells
      rw [hx5] at q5
      clear q0 q1 q2 q3 q4 q6
      go_wp2_with fail
      rw [rounds_succ]
      go_wp2_with fail
      refine (append1_any w.heap.size _ _ x5 _ (by omega) (by simp only [List.length_append]; omega) (by omega) HR9.out).mono ?_
      rintro e w10 ⟨v10, rfl, hr, hf⟩
      have HR10 := Hid.mk hr
      have HB10 := Hid.mk (HB9.out.keep hf)
      have HN10 := Hid.mk (HN9.out.keep hf)
      have hs10 := HB10.out.lt
      clear hr hf q5
      obtain ⟨q0, q1, q2, q3, q4, q5, q6⟩ := HN10.out.cells
      clear q0 q1 q2 q3 q4 q5
      go_wp2_with fail
      rw [rounds_succ]
      go_wp2_with fail
      refine (append1_any w.heap.size _ _ (F.an k) _ (by omega) (by simp only [List.length_append]; omega) (by omega) HR10.out).mono ?_
      rintro e w11 ⟨v11, rfl, hr, hf⟩
      have HR11 := Hid.mk hr
      have HB11 := Hid.mk (HB10.out.keep hf)
      have HN11 := Hid.mk (HN10.out.keep hf)
      have hs11 := HB11.out.lt
      clear hr hf q6
      obtain ⟨q0, q1, q2, q3, q4, q5, q6⟩ := HN11.out.cells
      clear q0 q1 q2 q3 q4 q5
      go_wp2_with fail
      refine (append_any w.heap.size _ _ (fun m => (F.af k m).toNat) (F.af k) _ _ _ _ (fun m hm => (HNN.out.af m hm).1) (fun m hm => by have := (HNN.out.af m hm).2; omega) (by omega) (by simp only [List.length_append]; omega) (by omega) HR11.out (fun w' hf => HNI.out.keep (HB11.out.f.bl.trans hf.bl))).mono ?_
      rintro e w12 ⟨v12, rfl, hr, hf⟩
      have HR12 := Hid.mk hr
      have HB12 := Hid.mk (HB11.out.keep hf)
      clear hr hf q6
      go_wp2_with fail
      go_roundw
      case rel =>
        refine ⟨k + 1, by go_num, by omega, ?_, HB12.out⟩
        have := HR12.out
        simp only [nodesB, nodeB, hz0, hz1, hz2, hz3, hz4, hz5]
        simp only [List.append_assoc] at this ⊢
        exact this
      case measure => simp [intOf]; omega
    · obtain rfl : k = F.n := by omega
      go_wp2_with fail
      go_ret2
      exact ⟨Or.inl ⟨_, rfl, HX.out, by rw [flowB, hxd3]; exact HR3.out⟩, HB3.out.f.bl⟩
end Go.Proofs.YtgdcjccbdmcebaaDoor
