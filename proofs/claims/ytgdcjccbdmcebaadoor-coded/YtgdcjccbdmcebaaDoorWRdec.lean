/- The document's Decode: the flow of bytes, or what is wrong with them. -/
import Derived.Test.YtgdcjccbdmcebaaDoorWRdecM
import Derived.Test.YtgdcjccbdmcebaaDoorWRenc
namespace Go.Proofs.YtgdcjccbdmcebaaDoor
open Go.RowKit
set_option maxRecDepth 100000

/-- Ahead of node i: the reader, the flow that is read so far; or the reader is bad for good. -/
def RdecI (w wr : World) (a : Option Addr) (n cap : Nat) (f : Nat → Nat) (v2 : Int) (i : Nat) : Prop :=
  (∃ p s la lc Na Nc, st n f i = .good p s ∧ v2 = ((flowOf n f).n : Nat) ∧ i ≤ (flowOf n f).n ∧ RcI w wr a n cap (.good p s) (flowOf n f).dl (.slice la i lc) ∧ CopyAt (w.heap.size + 4) wr (flowOf n f) (.slice la i lc) i Na Nc) ∨
  (∃ s d v, stE n f = .bad s ∧ RcI w wr a n cap (.bad s) d v)
theorem RdecI.start {w wr : World} {a : Option Addr} {n cap : Nat} {f : Nat → Nat} {v1 v2 : Int} (h : RcI w wr a n cap (nxS n f (nxS n f (.good 0 0))) v1 (.slice none 0 0)) (h1 : (∀ s, nxS n f (.good 0 0) ≠ .bad s) → v1 = nxV n f (.good 0 0)) (h2 : (∀ s, nxS n f (nxS n f (.good 0 0)) ≠ .bad s) → v2 = nxV n f (nxS n f (.good 0 0))) : RdecI w wr a n cap f v2 0 := by
  have h0 : st0 n f = nxS n f (nxS n f (.good 0 0)) := rfl
  rw [← h0] at h h2
  cases hr : st0 n f with
  | bad s => rw [hr] at h; exact Or.inr ⟨s, v1, _, by unfold stE st; rw [hr, ndN_bad], h⟩
  | good p s =>
    rw [hr] at h h2
    have e2 := h2 (fun _ h => by cases h)
    have e1 : v1 = nxV n f (.good 0 0) := h1 fun s' hs => by rw [h0, hs] at hr; simp [nxS] at hr
    subst e1 e2
    exact Or.inl ⟨p, s, none, 0, fun _ => none, fun _ => 0, hr, rfl, Nat.zero_le _, h, World.ownsRow_nil _ _ _ _, fun i hi => by omega⟩

/-- Ahead of the k-th number of what the node waits for. -/
def RinI (w2 wz : World) (R S : Nat) (a : Option Addr) (n cap : Nat) (f : Nat → Nat) (r : RS) (u0 u1 u2 u3 u4 u5 : Int) (k : Nat) : Prop :=
  ∃ (xa : Option Addr) (xc : Nat) (zs : Nat → Int), RxI w2 wz R S a n cap (nxN n f (7 + k) r) (gg u0 u1 u2 u3 u4 u5 (.slice xa k xc)) ∧ wz.ownsRow (w2.heap.size + 1) 3 1 (.slice xa k xc) k (intsL k zs) ∧
    k ≤ nxV n f (nxN n f 6 r) ∧ ((∀ s, nxN n f (7 + k) r ≠ .bad s) → ∀ j, j < k → zs j = nxV n f (nxN n f (7 + j) r))

/-- A node more is appended: the four blocks, and the nodes. -/
theorem RcI.grown {w x y : World} {a : Option Addr} {n cap : Nat} {r : RS} {d : Int} {v : Value} {o : Obj} {rb : Option Nat} (h : RcI w x a n cap r d v) (hg : (x.alloc o).grownBy y rb) (hr : ∀ z, rb = some z → w.heap.size + 4 ≤ z) : RcI w y a n cap r d v := by
  have hs : x.heap.size ≤ y.heap.size := by have := hg.size; simp at this; omega
  have hsz := h.sz
  refine h.keep hg.os hg.tape hg.output hs fun k hk => grown_block hg (by omega) fun e => ?_
  have := hr k e.symm
  omega
theorem RxI.grown {w2 x y : World} {R S : Nat} {a : Option Addr} {n cap : Nat} {r : RS} {g : Nat → Value} {o : Obj} {rb : Option Nat} (h : RxI w2 x R S a n cap r g) (hR : R < w2.heap.size) (hS : S < w2.heap.size) (hg : (x.alloc o).grownBy y rb) (hr : ∀ z, rb = some z → w2.heap.size + 1 ≤ z) : RxI w2 y R S a n cap r g := by
  have hs : x.heap.size ≤ y.heap.size := by have := hg.size; simp at this; omega
  have hsz := h.size
  refine h.later hR hS hg.os hg.tape hg.output hs fun k hk => grown_block hg (by omega) fun e => ?_
  have := hr k e.symm
  omega
set_option maxHeartbeats 8000000 in
theorem rdecode_any (w : World) (a : Option Addr) (n cap : Nat) (f : Nat → Nat) (hn : n ≤ maxLen) (hT : TabIn w) (hg : 1 < w.heap.size) (hA : ∀ b o, a = some ⟨b, o, none⟩ → b < w.heap.size) (hb : BytesAt w a n cap f) :
    Calls Tryd.prog 31 #[.slice a n cap] w fun e w' => DecEnds w.heap.size w' n f e ∧ Below w.heap.size w w' := by
  have HAB : Hid (∀ b o, a = some ⟨b, o, none⟩ → b ≠ w.heap.size + 1 ∧ b ≠ w.heap.size + 1 + 1 + 1) := Hid.mk fun b o h => by have := hA b o h; omega
  have HB := Hid.mk hb
  have HT := Hid.mk (And.intro hT hg)
  have HC0 := Hid.mk (RcI.start w a n cap)
  obtain ⟨i27, hi27, hz270, hz271, hz272⟩ := info_parts info27
  have HI27 := Hid.mk (And.intro hi27 (And.intro hz270 (And.intro hz271 hz272)))
  obtain ⟨i3, hi3, hz30, hz31, hz32⟩ := info_parts info3
  have HI3 := Hid.mk (And.intro hi3 (And.intro hz30 (And.intro hz31 hz32)))
  clear hA hb hT hg hi27 hz270 hz271 hz272 hi3 hz30 hz31 hz32
  go_enter Tryd.func31, Tryd.ntmps31
  go_wp2_with fail
  refine (next_any (rdW w a n cap) (w.heap.size + 1) (w.heap.size + 1 + 1 + 1) a n cap f (.good 0 0) hn (by omega) HC0.out.st HAB.out (HB.out.below HC0.out.bl)).mono ?_
  rintro e w1 ⟨⟨v1, rfl, hv1⟩, hst1, ht1⟩
  have HC1 := Hid.mk (HC0.out.two ht1 hst1)
  have HV1 := Hid.mk hv1
  have c0 := HC1.out.f0
  have z0 := HC1.out.zf 0
  clear hv1 hst1 ht1
  go_wp2_with fail
  have HC1' := Hid.mk (HC1.out.setD v1)
  clear c0 z0
  refine (next_any _ (w.heap.size + 1) (w.heap.size + 1 + 1 + 1) a n cap f (nxS n f (.good 0 0)) hn (by omega) HC1'.out.st HAB.out (HB.out.below HC1'.out.bl)).mono ?_
  rintro e w2 ⟨⟨v2, rfl, hv2⟩, hst2, ht2⟩
  have HC2 := Hid.mk (HC1'.out.two ht2 hst2)
  have HV2 := Hid.mk hv2
  clear hv2 hst2 ht2
  go_wp2_with fail
  go_loopw [9] (fun iv wr => ∃ i : Nat, iv = .int .i64 i ∧ RdecI w wr a n cap f v2 i) (fun iv _ => (v2 - intOf iv).toNat)
  case atStart => exact ⟨0, rfl, RdecI.start HC2.out HV1.out HV2.out⟩
  case round =>
    obtain ⟨i, rfl, hI⟩ := hrel
    rename World => wr
    rcases hI with ⟨p, s, la, lc, Na, Nc, hst, hv2, hi, hC, hcp⟩ | ⟨s, d, v, hE, hC⟩
    case inr =>
      obtain ⟨⟨q, hq⟩, hs0, hs1⟩ := hC.st
      have c2 := hq.c2
      have b0 := hC.a0
      have b1 := hC.a1
      have y0 := hC.za 0
      have y1 := hC.za 1
      have HE := Hid.mk (And.intro hE hC.bl)
      clear hE hC hq hs1 HC0 HC1 HC1' HC2 HV1 HV2
      by_cases h1 : (i : Int) < v2
      all_goals
        go_wp2_with fail
        go_region
        all_goals (go_wp2_with fail)
        refine bodyPost_ret (v := .tuple #[flV 0 (.slice none 0 0), .int .i64 1, .int .i64 s]) (by simp [results, Tryd.results31, go_sem, b0, b1]) rfl ⟨⟨1, s, noFlow, none, 0, fun _ => none, fun _ => 0, rfl, Or.inl ⟨s, HE.out.1, rfl, rfl, rfl⟩, ⟨World.ownsRow_nil _ _ _ _, fun i hi => absurd hi (Nat.not_lt_zero i)⟩⟩, ?_⟩
        repeat (first | exact HE.out.2 | refine Below.setCell ?_ (by simp) _ | refine Below.drew ?_ | refine below_drewN ?_ _)
    case inl =>
      have hns := flowOf_n n f
      have hsz := hC.sz
      have HX0 := Hid.mk (RxI.start (by omega) (by omega) hC.st)
      have HC := Hid.mk hC
      have HST := Hid.mk hst
      have HCP := Hid.mk hcp
      obtain ⟨hrd, hs0, hs1⟩ := hC.st
      have c1 := hrd.c1
      have c2 := hrd.c2
      have b0 := hC.a0
      have b1 := hC.a1
      have y0 := hC.za 0
      have y1 := hC.za 1
      have f0 := hC.f0
      have f1 := hC.f1
      clear hC hcp hst hrd hs1 HC0 HC1 HC1' HC2 HV1 HV2
      by_cases h1 : i < (flowOf n f).n
      case neg =>
        obtain rfl : i = (flowOf n f).n := by omega
        have hE : Hid (stE n f = .good p s) := Hid.mk HST.out
        by_cases h2 : p < n
        · subst hv2
          unfold maxLen at hn
          go_wp2_with fail
          go_region
          all_goals (go_wp2_with fail)
          refine bodyPost_ret (v := .tuple #[flV 0 (.slice none 0 0), .int .i64 1, .int .i64 p]) (by simp [results, Tryd.results31, go_sem, b0, b1]) rfl ⟨⟨1, p, noFlow, none, 0, fun _ => none, fun _ => 0, rfl, Or.inr (Or.inl ⟨p, s, hE.out, h2, rfl, rfl, rfl⟩), ⟨World.ownsRow_nil _ _ _ _, fun i hi => absurd hi (Nat.not_lt_zero i)⟩⟩, ?_⟩
          repeat (first | exact HC.out.bl | refine Below.setCell ?_ (by simp) _ | refine Below.drew ?_ | refine below_drewN ?_ _)
        · subst hv2
          unfold maxLen at hn
          go_wp2_with fail
          refine (refcheck_any (flowOf n f) la lc Na Nc _ (HCP.out.flowIn hns (fun i _ => flowOf_an n f i) (HT.out.1.keep HT.out.2 HC.out.bl) (by have := HC.out.bl.size; have := HT.out.2; omega))).mono ?_
          rintro e w3 ⟨x, y, rfl, hchk, hb3⟩
          have g0 := cell_later hb3 f0
          have g1 := cell_later hb3 f1
          have d0 := cell_later hb3 b0
          have d1 := cell_later hb3 b1
          have z0 := (hb3.frozen (p := ⟨w.heap.size, 0, none⟩) (by simp only []; omega)).trans y0
          have z1 := (hb3.frozen (p := ⟨w.heap.size, 1, none⟩) (by simp only []; omega)).trans y1
          have HB3 := Hid.mk (HC.out.bl.trans (hb3.mono HC.out.bl.size))
          have HC3 := Hid.mk (HCP.out.below hb3)
          have HK := Hid.mk hchk
          clear hb3 hchk hs0 c1 c2 b0 b1 y0 y1 f0 f1 HX0
          by_cases hx : x = 0
          · subst hx
            go_wp2_with fail
            refine bodyPost_ret (v := .tuple #[flV (flowOf n f).dl (.slice la (flowOf n f).n lc), .int .i64 0, .int .i64 (-1)]) (by simp [results, Tryd.results31, go_sem, d0, d1]) rfl ⟨⟨0, -1, flowOf n f, la, lc, Na, Nc, rfl, Or.inr (Or.inr ⟨p, s, hE.out, by omega, by rw [← HK.out.zero]; exact HK.out, fun _ => rfl, fun h => absurd rfl h⟩), ?_⟩, ?_⟩
            · have hC3 := HC3.out
              exact CopyAt.base (B := w.heap.size + 4) ⟨ownsRow_setCell_below (ownsRow_setCell_below hC3.own (by simp) _) (by simp) _, fun i hi => ownsRow_setCell_below (ownsRow_setCell_below (hC3.aft i hi) (by simp) _) (by simp) _⟩ (by omega)
            · exact (HB3.out.setCell (by simp) _).setCell (by simp) _
          · have hxb : (x == 0) = false := by simpa using hx
            go_wp2_with fail
            refine bodyPost_ret (v := .tuple #[flV 0 (.slice none 0 0), .int .i64 x, .int .i64 y]) (by simp [results, Tryd.results31, go_sem, d0, d1]) rfl ⟨⟨x, y, noFlow, none, 0, fun _ => none, fun _ => 0, rfl, Or.inr (Or.inr ⟨p, s, hE.out, by omega, HK.out, fun h => absurd h hx, fun _ => rfl⟩), ⟨World.ownsRow_nil _ _ _ _, fun i hi => absurd hi (Nat.not_lt_zero i)⟩⟩, ?_⟩
            exact (HB3.out.setCell (by simp) _).setCell (by simp) _
      case pos =>
        subst hv2
        go_wp2_with fail
        clear hs0 c1 c2 b0 b1 y0 y1 f0 f1
        --[seven
        refine (next_any _ (w.heap.size + 1) (w.heap.size + 1 + 1 + 1) a n cap f (nxN n f 0 (.good p s)) hn (by omega) HX0.out.st HAB.out (HB.out.below (HC.out.round HX0.out).bl)).mono ?_
        rintro e x1 ⟨⟨u0, rfl, hu⟩, hs, ht⟩
        have HU0 : Hid ((∀ s', nxN n f 1 (.good p s) ≠ .bad s') → u0 = nxV n f (nxN n f 0 (.good p s))) := Hid.mk hu
        obtain ⟨k, kf⟩ := (HX0.out.nd.block (ht.block _ (by omega) (by omega))) 0 (by omega)
        have HX1 : Hid (RxI wr (x1.setCell ⟨wr.heap.size, 0, none⟩ (.int .i64 u0)) (w.heap.size + 1) (w.heap.size + 1 + 1 + 1) a n cap (nxN n f 1 (.good p s)) (gg u0 0 0 0 0 0 (.slice none 0 0))) := Hid.mk ((HX0.out.num (by omega) (by omega) ht hs 0 (by omega) (.int .i64 u0)).congr (by intro j hj; rcases (show j = 0 ∨ j = 1 ∨ j = 2 ∨ j = 3 ∨ j = 4 ∨ j = 5 ∨ j = 6 by omega) with rfl | rfl | rfl | rfl | rfl | rfl | rfl <;> rfl))
        clear hu hs ht
        go_wp2_with fail
        clear k kf
        refine (next_any _ (w.heap.size + 1) (w.heap.size + 1 + 1 + 1) a n cap f (nxN n f 1 (.good p s)) hn (by omega) HX1.out.st HAB.out (HB.out.below (HC.out.round HX1.out).bl)).mono ?_
        rintro e x2 ⟨⟨u1, rfl, hu⟩, hs, ht⟩
        have HU1 : Hid ((∀ s', nxN n f 2 (.good p s) ≠ .bad s') → u1 = nxV n f (nxN n f 1 (.good p s))) := Hid.mk hu
        obtain ⟨k, kf⟩ := (HX1.out.nd.block (ht.block _ (by omega) (by omega))) 1 (by omega)
        have HX2 : Hid (RxI wr (x2.setCell ⟨wr.heap.size, 1, none⟩ (.int .i64 u1)) (w.heap.size + 1) (w.heap.size + 1 + 1 + 1) a n cap (nxN n f 2 (.good p s)) (gg u0 u1 0 0 0 0 (.slice none 0 0))) := Hid.mk ((HX1.out.num (by omega) (by omega) ht hs 1 (by omega) (.int .i64 u1)).congr (by intro j hj; rcases (show j = 0 ∨ j = 1 ∨ j = 2 ∨ j = 3 ∨ j = 4 ∨ j = 5 ∨ j = 6 by omega) with rfl | rfl | rfl | rfl | rfl | rfl | rfl <;> rfl))
        clear hu hs ht
        go_wp2_with fail
        clear k kf
        refine (next_any _ (w.heap.size + 1) (w.heap.size + 1 + 1 + 1) a n cap f (nxN n f 2 (.good p s)) hn (by omega) HX2.out.st HAB.out (HB.out.below (HC.out.round HX2.out).bl)).mono ?_
        rintro e x3 ⟨⟨u2, rfl, hu⟩, hs, ht⟩
        have HU2 : Hid ((∀ s', nxN n f 3 (.good p s) ≠ .bad s') → u2 = nxV n f (nxN n f 2 (.good p s))) := Hid.mk hu
        obtain ⟨k, kf⟩ := (HX2.out.nd.block (ht.block _ (by omega) (by omega))) 2 (by omega)
        have HX3 : Hid (RxI wr (x3.setCell ⟨wr.heap.size, 2, none⟩ (.int .i64 u2)) (w.heap.size + 1) (w.heap.size + 1 + 1 + 1) a n cap (nxN n f 3 (.good p s)) (gg u0 u1 u2 0 0 0 (.slice none 0 0))) := Hid.mk ((HX2.out.num (by omega) (by omega) ht hs 2 (by omega) (.int .i64 u2)).congr (by intro j hj; rcases (show j = 0 ∨ j = 1 ∨ j = 2 ∨ j = 3 ∨ j = 4 ∨ j = 5 ∨ j = 6 by omega) with rfl | rfl | rfl | rfl | rfl | rfl | rfl <;> rfl))
        clear hu hs ht
        go_wp2_with fail
        clear k kf
        refine (next_any _ (w.heap.size + 1) (w.heap.size + 1 + 1 + 1) a n cap f (nxN n f 3 (.good p s)) hn (by omega) HX3.out.st HAB.out (HB.out.below (HC.out.round HX3.out).bl)).mono ?_
        rintro e x4 ⟨⟨u3, rfl, hu⟩, hs, ht⟩
        have HU3 : Hid ((∀ s', nxN n f 4 (.good p s) ≠ .bad s') → u3 = nxV n f (nxN n f 3 (.good p s))) := Hid.mk hu
        obtain ⟨k, kf⟩ := (HX3.out.nd.block (ht.block _ (by omega) (by omega))) 3 (by omega)
        have HX4 : Hid (RxI wr (x4.setCell ⟨wr.heap.size, 3, none⟩ (.int .i64 u3)) (w.heap.size + 1) (w.heap.size + 1 + 1 + 1) a n cap (nxN n f 4 (.good p s)) (gg u0 u1 u2 u3 0 0 (.slice none 0 0))) := Hid.mk ((HX3.out.num (by omega) (by omega) ht hs 3 (by omega) (.int .i64 u3)).congr (by intro j hj; rcases (show j = 0 ∨ j = 1 ∨ j = 2 ∨ j = 3 ∨ j = 4 ∨ j = 5 ∨ j = 6 by omega) with rfl | rfl | rfl | rfl | rfl | rfl | rfl <;> rfl))
        clear hu hs ht
        go_wp2_with fail
        clear k kf
        refine (next_any _ (w.heap.size + 1) (w.heap.size + 1 + 1 + 1) a n cap f (nxN n f 4 (.good p s)) hn (by omega) HX4.out.st HAB.out (HB.out.below (HC.out.round HX4.out).bl)).mono ?_
        rintro e x5 ⟨⟨u4, rfl, hu⟩, hs, ht⟩
        have HU4 : Hid ((∀ s', nxN n f 5 (.good p s) ≠ .bad s') → u4 = nxV n f (nxN n f 4 (.good p s))) := Hid.mk hu
        obtain ⟨k, kf⟩ := (HX4.out.nd.block (ht.block _ (by omega) (by omega))) 4 (by omega)
        have HX5 : Hid (RxI wr (x5.setCell ⟨wr.heap.size, 4, none⟩ (.int .i64 u4)) (w.heap.size + 1) (w.heap.size + 1 + 1 + 1) a n cap (nxN n f 5 (.good p s)) (gg u0 u1 u2 u3 u4 0 (.slice none 0 0))) := Hid.mk ((HX4.out.num (by omega) (by omega) ht hs 4 (by omega) (.int .i64 u4)).congr (by intro j hj; rcases (show j = 0 ∨ j = 1 ∨ j = 2 ∨ j = 3 ∨ j = 4 ∨ j = 5 ∨ j = 6 by omega) with rfl | rfl | rfl | rfl | rfl | rfl | rfl <;> rfl))
        clear hu hs ht
        go_wp2_with fail
        clear k kf
        refine (next_any _ (w.heap.size + 1) (w.heap.size + 1 + 1 + 1) a n cap f (nxN n f 5 (.good p s)) hn (by omega) HX5.out.st HAB.out (HB.out.below (HC.out.round HX5.out).bl)).mono ?_
        rintro e x6 ⟨⟨u5, rfl, hu⟩, hs, ht⟩
        have HU5 : Hid ((∀ s', nxN n f 6 (.good p s) ≠ .bad s') → u5 = nxV n f (nxN n f 5 (.good p s))) := Hid.mk hu
        obtain ⟨k, kf⟩ := (HX5.out.nd.block (ht.block _ (by omega) (by omega))) 5 (by omega)
        have HX6 : Hid (RxI wr (x6.setCell ⟨wr.heap.size, 5, none⟩ (.int .i64 u5)) (w.heap.size + 1) (w.heap.size + 1 + 1 + 1) a n cap (nxN n f 6 (.good p s)) (gg u0 u1 u2 u3 u4 u5 (.slice none 0 0))) := Hid.mk ((HX5.out.num (by omega) (by omega) ht hs 5 (by omega) (.int .i64 u5)).congr (by intro j hj; rcases (show j = 0 ∨ j = 1 ∨ j = 2 ∨ j = 3 ∨ j = 4 ∨ j = 5 ∨ j = 6 by omega) with rfl | rfl | rfl | rfl | rfl | rfl | rfl <;> rfl))
        clear hu hs ht
        go_wp2_with fail
        clear k kf
        refine (next_any _ (w.heap.size + 1) (w.heap.size + 1 + 1 + 1) a n cap f (nxN n f 6 (.good p s)) hn (by omega) HX6.out.st HAB.out (HB.out.below (HC.out.round HX6.out).bl)).mono ?_
        rintro e x7 ⟨⟨u6, rfl, hu⟩, hs, ht⟩
        have HU6 : Hid ((∀ s', nxN n f 7 (.good p s) ≠ .bad s') → u6 = nxV n f (nxN n f 6 (.good p s))) := Hid.mk hu
        have HX7 : Hid (RxI wr x7 (w.heap.size + 1) (w.heap.size + 1 + 1 + 1) a n cap (nxN n f 7 (.good p s)) (gg u0 u1 u2 u3 u4 u5 (.slice none 0 0))) := Hid.mk (HX6.out.read (by omega) (by omega) ht hs)
        clear hu hs ht
        go_wp2_with fail
        --seven]
        go_loopw [12] (fun kv wz => ∃ k : Nat, kv = .int .i64 k ∧ RinI wr wz (w.heap.size + 1) (w.heap.size + 1 + 1 + 1) a n cap f (.good p s) u0 u1 u2 u3 u4 u5 k) (fun kv _ => (u6 - intOf kv).toNat)
        case atStart =>
          exact ⟨0, rfl, none, 0, fun _ => 0, HX7.out, World.ownsRow_nil _ _ _ _, Nat.zero_le _, fun _ j hj => by omega⟩
        case round =>
          obtain ⟨k, rfl, xa, xc, zs, hX, hrow, hk, hgood⟩ := hrel
          rename World => wz
          have HX := Hid.mk hX
          have HROW := Hid.mk hrow
          have HGOOD := Hid.mk hgood
          have hflag := hX.st.flag
          have hzs := hX.size
          have hk2 := nxV_le n f (nxN n f 6 (.good p s))
          have hrest : ∀ z, (Value.slice xa k xc).ownBlock = some z → wr.heap.size + 1 ≤ z := fun z hz => (HROW.out.lt z hz).1
          have hla : ∀ z, (Value.slice la i lc).ownBlock = some z → w.heap.size + 4 ≤ z := fun z hz => (HCP.out.own.lt z hz).1
          have HLA := Hid.mk (And.intro hrest hla)
          have hBz : w.heap.size + 4 ≤ wz.heap.size := by omega
          clear hX hrow hgood hrest hla
          by_cases hround : (∃ q3 s3, nxN n f (7 + k) (.good p s) = .good q3 s3) ∧ (k : Int) < u6
          case pos =>
            obtain ⟨⟨q3, s3, hr⟩, h2⟩ := hround
            have HR := Hid.mk hr
            rw [hr] at hflag
            simp only [RS.isBad] at hflag
            have hu6 : Hid (u6 = nxV n f (nxN n f 6 (.good p s))) := Hid.mk (HU6.out fun s' h => by rw [nxN_stuck h (by omega)] at hr; cases hr)
            clear hr
            go_wp2_with fail
            refine (next_any _ (w.heap.size + 1) (w.heap.size + 1 + 1 + 1) a n cap f (nxN n f (7 + k) (.good p s)) hn (by omega) HX.out.st HAB.out (HB.out.below (HC.out.round HX.out).bl)).mono ?_
            rintro e y ⟨⟨d, rfl, hd⟩, hs, ht⟩
            have HXY := Hid.mk (HX.out.read (by omega) (by omega) ht hs)
            have HD := Hid.mk hd
            have hrowy : y.ownsRow (wr.heap.size + 1) 3 1 (.slice xa k xc) k (intsL k zs) := own_spare HROW.out fun z h1 _ => ht.block z (by omega) (by omega)
            have HRY := Hid.mk hrowy
            have n6 : y.cell? ⟨wr.heap.size, 6, none⟩ = some (.slice xa k xc) := (HXY.out.nd 6 (by omega)).1
            have hys := HXY.out.size
            clear hd hs ht hrowy hflag
            go_wp2_with (at_builtin; refine wpList_append_own _ rfl (.tmp 73) (.tmp 75) 25 rfl (wr.heap.size + 1) 3 i3 (.int .i64 0) 1 8 Tryd.underlying25 HI3.out.1 HI3.out.2.1 HI3.out.2.2.1 HI3.out.2.2.2 rfl (by decide) (.slice xa k xc) k (intsL k zs) rfl (HRY.out.alloc _) ⟨y.heap.size, 0, none⟩ 1 1 [.int .i64 d] rfl rfl (news1 _ _ _ _ rfl) (by intro u hu; simp only [List.mem_singleton] at hu; subst hu; rfl) (by unfold maxLen; omega) (by omega) (by simp; omega) ?_; intro v4 w4 hown4 hgrow4 hiff; clear hiff; obtain ⟨xb, xd, rfl⟩ := own_slice hown4; have hX4 := HXY.out.grown (by omega) (by omega) hgrow4 HLA.out.1; have HO4 := Hid.mk (And.intro hown4 (And.intro hgrow4 hX4)); have n4 : w4.cell? ⟨wr.heap.size, 6, none⟩ = some (.slice xa k xc) := (hX4.nd 6 (by omega)).1; have z4 : w4.frozen? ⟨wr.heap.size, 6, none⟩ = false := (hX4.nd 6 (by omega)).2; clear hown4 hgrow4 hX4)
            go_roundw
            case rel =>
              refine ⟨k + 1, by go_num, xb, xd, fun j => if j = k then d else zs j, ?_, ?_, ?_, ?_⟩
              · refine (HO4.out.2.2.set (by omega) (by omega) 6 (by omega) (.slice xb (k + 1) xd)).congr ?_
                intro j hj
                rcases (show j = 0 ∨ j = 1 ∨ j = 2 ∨ j = 3 ∨ j = 4 ∨ j = 5 ∨ j = 6 by omega) with rfl | rfl | rfl | rfl | rfl | rfl | rfl <;> rfl
              · rw [intsL_more]
                exact ownsRow_setCell_below HO4.out.1 (by simp) _
              · have := hu6.out
                omega
              · intro hg j hj
                by_cases e : j = k
                · subst e
                  simp only [if_true]
                  exact HD.out hg
                · simp only [e, if_false]
                  exact HGOOD.out (fun s' h => by rw [HR.out] at h; cases h) j (by omega)
            case measure => simp [intOf]; omega
          case neg =>
            have hcase : ((nxN n f (7 + k) (.good p s)).isBad = true ∧ (k : Int) < u6) ∨ ¬ (k : Int) < u6 := by
              by_cases h2 : (k : Int) < u6
              · refine Or.inl ⟨?_, h2⟩
                cases hr : nxN n f (7 + k) (.good p s) with
                | good q3 s3 => exact absurd ⟨⟨q3, s3, hr⟩, h2⟩ hround
                | bad s3 => rfl
              · exact Or.inr h2
            have HC4 := Hid.mk (HC.out.round HX.out)
            have HCP4 := Hid.mk (HCP.out.round HX.out (by omega) (by omega))
            have f1 := HC4.out.f1
            have HEND : Hid ((∃ q3 s3, nxN n f (7 + k) (.good p s) = .good q3 s3) → k = nxV n f (nxN n f 6 (.good p s))) := Hid.mk fun hg => by
              obtain ⟨q3, s3, hr⟩ := hg
              have h6 := HU6.out fun s' h => by rw [nxN_stuck (m := 7 + k) h (by omega)] at hr; cases hr
              have h7 : ¬ (k : Int) < u6 := fun h2 => hround ⟨⟨q3, s3, hr⟩, h2⟩
              omega
            have n0 : wz.cell? ⟨wr.heap.size, 0, none⟩ = some (.int .i64 u0) := (HX.out.nd 0 (by omega)).1
            have n1 : wz.cell? ⟨wr.heap.size, 1, none⟩ = some (.int .i64 u1) := (HX.out.nd 1 (by omega)).1
            have n2 : wz.cell? ⟨wr.heap.size, 2, none⟩ = some (.int .i64 u2) := (HX.out.nd 2 (by omega)).1
            have n3 : wz.cell? ⟨wr.heap.size, 3, none⟩ = some (.int .i64 u3) := (HX.out.nd 3 (by omega)).1
            have n4 : wz.cell? ⟨wr.heap.size, 4, none⟩ = some (.int .i64 u4) := (HX.out.nd 4 (by omega)).1
            have n5 : wz.cell? ⟨wr.heap.size, 5, none⟩ = some (.int .i64 u5) := (HX.out.nd 5 (by omega)).1
            have n6 : wz.cell? ⟨wr.heap.size, 6, none⟩ = some (.slice xa k xc) := (HX.out.nd 6 (by omega)).1
            have hones : Hid (∀ u ∈ [Value.int .i64 u0, .int .i64 u1, .int .i64 u2, .int .i64 u3, .int .i64 u4, .int .i64 u5, .slice xa k xc], u.oneCell' = true) := Hid.mk (by intro u hu; simp only [List.mem_cons, List.not_mem_nil, or_false] at hu; rcases hu with rfl | rfl | rfl | rfl | rfl | rfl | rfl <;> rfl)
            clear hround
            have hdone : ∀ (xb : Option Addr) (xd : Nat) (w4 : World), w4.ownsRow (w.heap.size + 4) 27 7 (.slice xb (i + 1) xd) (i + 1) (nodesL (flowOf n f) Na Nc i ++ [.int .i64 u0, .int .i64 u1, .int .i64 u2, .int .i64 u3, .int .i64 u4, .int .i64 u5, .slice xa k xc]) → (wz.alloc (.cells #[.int .i64 u0, .int .i64 u1, .int .i64 u2, .int .i64 u3, .int .i64 u4, .int .i64 u5, .slice xa k xc] 27)).grownBy w4 (Value.slice la i lc).ownBlock →
                RcI w w4 a n cap (nxN n f (7 + k) (.good p s)) (flowOf n f).dl (.slice la i lc) → RdecI w (w4.setCell ⟨w.heap.size + 1 + 1, 1, none⟩ (.slice xb (i + 1) xd)) a n cap f (((flowOf n f).n : Nat) : Int) (i + 1) := fun xb xd w4 hown4 hgrow4 hC5 => by
              cases hr : nxN n f (7 + k) (.good p s) with
              | bad s3 =>
                have h5 := hC5.setV (.slice xb (i + 1) xd)
                rw [hr] at h5
                refine Or.inr ⟨s3, _, _, ?_, h5⟩
                have h6 : ndS n f (.good p s) = .bad s3 := by unfold ndS; exact nxN_stuck hr (by omega)
                have h7 := HST.out
                unfold st at h7
                unfold stE st
                exact ndN_stuck (j := i + 1) (by simp only [ndN]; rw [h7]; exact h6) (by omega)
              | good q3 s3 =>
                have h5 := hC5.setV (.slice xb (i + 1) xd)
                rw [hr] at h5
                have hgj : ∀ j, j ≤ 7 + k → ∀ s', nxN n f j (.good p s) ≠ .bad s' := fun j hj s' h => by rw [nxN_stuck h hj] at hr; cases hr
                have hk' := HEND.out ⟨q3, s3, hr⟩
                have hnode : [Value.int .i64 u0, .int .i64 u1, .int .i64 u2, .int .i64 u3, .int .i64 u4, .int .i64 u5, .slice xa k xc] = nodeL (flowOf n f) i xa xc := by
                  show _ = [Value.int .i64 (nxV n f (st n f i) : Nat), .int .i64 (nxV n f (nxN n f 1 (st n f i)) : Nat), .int .i64 (nxV n f (nxN n f 2 (st n f i)) : Nat), .int .i64 (nxV n f (nxN n f 3 (st n f i)) : Nat), .int .i64 (nxV n f (nxN n f 4 (st n f i)) : Nat), .int .i64 (nxV n f (nxN n f 5 (st n f i)) : Nat), .slice xa (nxV n f (nxN n f 6 (st n f i))) xc]
                  rw [HST.out, ← hk', HU0.out (hgj 1 (by omega)), HU1.out (hgj 2 (by omega)), HU2.out (hgj 3 (by omega)), HU3.out (hgj 4 (by omega)), HU4.out (hgj 5 (by omega)), HU5.out (hgj 6 (by omega))]
                  rfl
                rw [hnode] at hown4
                have hrow5 : wz.ownsRow (w.heap.size + 4) 3 1 (.slice xa ((flowOf n f).an i) xc) ((flowOf n f).an i) (intsL ((flowOf n f).an i) ((flowOf n f).af i)) := by
                  have han : (flowOf n f).an i = k := by
                    show nxV n f (nxN n f 6 (st n f i)) = k
                    rw [HST.out, ← hk']
                  have haf : intsL k zs = intsL k ((flowOf n f).af i) := intsL_congr fun j hj => by
                    show zs j = (nxV n f (nxN n f (7 + j) (st n f i)) : Nat)
                    rw [HST.out]
                    exact HGOOD.out (hgj (7 + k) (by omega)) j hj
                  rw [han, ← haf]
                  exact own_base HROW.out (by omega)
                have hcp := HCP4.out.more (hrow5.alloc (.cells #[.int .i64 u0, .int .i64 u1, .int .i64 u2, .int .i64 u3, .int .i64 u4, .int .i64 u5, .slice xa k xc] 27)) ((Below.refl _ _).alloc (Nat.le_refl _) _) hown4 hgrow4
                refine Or.inl ⟨q3, s3, xb, xd, _, _, ?_, rfl, by omega, h5, ⟨ownsRow_setCell_below hcp.own (by simp) _, fun j hj => ownsRow_setCell_below (hcp.aft j hj) (by simp) _⟩⟩
                have h7 := HST.out
                unfold st at h7 ⊢
                simp only [ndN]
                rw [h7]
                unfold ndS
                rw [← hk']
                exact hr
            have HDONE := Hid.mk hdone
            clear hdone
            rcases hcase with ⟨hbad, h2⟩ | h2
            case inl =>
              rw [hbad] at hflag
              clear hbad
              go_wp2_with (at_builtin; refine wpList_append_own _ rfl (.tmp 79) (.tmp 81) 22 rfl (w.heap.size + 4) 27 i27 (.agg #[.int .i64 0, .int .i64 0, .int .i64 0, .int .i64 0, .int .i64 0, .int .i64 0, .slice none 0 0]) 7 72 Tryd.underlying22 HI27.out.1 HI27.out.2.1 HI27.out.2.2.1 HI27.out.2.2.2 rfl (by decide) (.slice la i lc) i (nodesL (flowOf n f) Na Nc i) rfl (HCP4.out.own.alloc _) ⟨wz.heap.size, 0, none⟩ 1 1 [.int .i64 u0, .int .i64 u1, .int .i64 u2, .int .i64 u3, .int .i64 u4, .int .i64 u5, .slice xa k xc] rfl rfl (news7 _ _ _ _ rfl) hones.out (by unfold maxLen; omega) (by omega) (by simp; omega) ?_; intro v4 w4 hown4 hgrow4 hiff; clear hiff; obtain ⟨xb, xd, rfl⟩ := own_slice hown4; have hC5 := HC4.out.grown hgrow4 HLA.out.2; have HO4 := Hid.mk (And.intro hown4 (And.intro hgrow4 hC5)); have q4 := hC5.f1; have z4 := hC5.zf 1; clear hown4 hgrow4 hC5)
              go_roundw
              case rel =>
                have hd := HDONE.out _ _ _ HO4.out.1 HO4.out.2.1 HO4.out.2.2
                first | exact ⟨i + 1, by go_num, hd⟩ | ((repeat apply Exists.intro); exact ⟨⟨i + 1, by go_num, hd⟩, rfl⟩)
              case measure => simp [intOf]; omega
            case inr =>
              clear hflag
              go_wp2_with (at_builtin; refine wpList_append_own _ rfl (.tmp 79) (.tmp 81) 22 rfl (w.heap.size + 4) 27 i27 (.agg #[.int .i64 0, .int .i64 0, .int .i64 0, .int .i64 0, .int .i64 0, .int .i64 0, .slice none 0 0]) 7 72 Tryd.underlying22 HI27.out.1 HI27.out.2.1 HI27.out.2.2.1 HI27.out.2.2.2 rfl (by decide) (.slice la i lc) i (nodesL (flowOf n f) Na Nc i) rfl (HCP4.out.own.alloc _) ⟨wz.heap.size, 0, none⟩ 1 1 [.int .i64 u0, .int .i64 u1, .int .i64 u2, .int .i64 u3, .int .i64 u4, .int .i64 u5, .slice xa k xc] rfl rfl (news7 _ _ _ _ rfl) hones.out (by unfold maxLen; omega) (by omega) (by simp; omega) ?_; intro v4 w4 hown4 hgrow4 hiff; clear hiff; obtain ⟨xb, xd, rfl⟩ := own_slice hown4; have hC5 := HC4.out.grown hgrow4 HLA.out.2; have HO4 := Hid.mk (And.intro hown4 (And.intro hgrow4 hC5)); have q4 := hC5.f1; have z4 := hC5.zf 1; clear hown4 hgrow4 hC5)
              go_roundw
              case rel =>
                have hd := HDONE.out _ _ _ HO4.out.1 HO4.out.2.1 HO4.out.2.2
                exact ⟨i + 1, by go_num, hd⟩
              case measure => simp [intOf]; omega
end Go.Proofs.YtgdcjccbdmcebaaDoor
