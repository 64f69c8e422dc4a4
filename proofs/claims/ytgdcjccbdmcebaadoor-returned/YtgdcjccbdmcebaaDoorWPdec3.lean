/- plain's Decode: a copy of the bytes is read, and written over. -/
import Derived.Test.YtgdcjccbdmcebaaDoorWPdec2
namespace Go.Proofs.YtgdcjccbdmcebaaDoor
open Go.RowKit
set_option maxRecDepth 100000

def bytesL (n : Nat) (f : Nat → Nat) : List Value := (List.range n).map fun k => .int .u8 (f k)
theorem bytesL_length (n : Nat) (f : Nat → Nat) : (bytesL n f).length = n := by simp [bytesL]
theorem bytesL_at (n : Nat) (f : Nat → Nat) (k : Nat) (h : k < n) : (bytesL n f)[k]? = some (.int .u8 (f k)) := by simp [bytesL, h]
theorem bytes_of_own {w : World} {B n c : Nat} {a : Option Addr} {f : Nat → Nat} (h : w.ownsRow B 5 1 (.slice a n c) n (bytesL n f)) (hf : ∀ k, k < n → f k < 256) : BytesAt w a n c f ∧ (∀ b o, a = some ⟨b, o, none⟩ → b < w.heap.size) ∧ n ≤ maxLen ∧
    (n = 0 ∨ ∃ g, a = some ⟨g, 0, none⟩ ∧ B ≤ g ∧ g < w.heap.size ∧ n ≤ c ∧ c ≤ maxLen ∧ ∀ k, k < n → (w.cell? ⟨g, k, none⟩).isSome = true ∧ w.frozen? ⟨g, k, none⟩ = false) := by
  rcases h.2 with ⟨h1, h2⟩ | ⟨g, cap, cur, h2, hg, hh, h3, h4, h5, h6⟩
  · obtain ⟨rfl, _, _⟩ : a = none ∧ n = 0 ∧ c = 0 := by simpa using h1
    exact ⟨Or.inl h2, fun b o e => (by cases e), by omega, Or.inl h2⟩
  · obtain ⟨h7, _, h8⟩ : a = some ⟨g, 0, none⟩ ∧ n = n ∧ c = cap := by simpa using h2
    subst h7 h8
    obtain ⟨hlt, _⟩ := Array.getElem?_eq_some_iff.1 hh
    have key : ∀ k, k < n → w.cell? ⟨g, k, none⟩ = some (.int .u8 (f k)) := fun k hk => by
      have := h.cellAt k (by omega)
      rw [this, bytesL_at n f k hk]
    refine ⟨Or.inr ⟨g, 0, rfl, h3, h4, hlt, fun k hk => ⟨by rw [Nat.zero_add]; exact key k hk, hf k hk⟩⟩, fun b o e => ?_, by omega, Or.inr ⟨g, rfl, hg, hlt, h3, h4, fun k hk => ⟨by rw [key k hk]; rfl, h.frozenAt k⟩⟩⟩
    obtain ⟨rfl, _⟩ : g = b ∧ 0 = o := by simpa using e
    exact hlt

/-- What plain's Decode hands back, and the document's. -/
def DecEnds (B : Nat) (w' : World) (n : Nat) (f : Nat → Nat) (e : Ending) : Prop :=
  ∃ (x y : Int) (G : FlowD) (la : Option Addr) (lc : Nat) (Na : Nat → Option Addr) (Nc : Nat → Nat), e = .returned (.tuple #[flV G.dl (.slice la G.n lc), .int .i64 x, .int .i64 y]) ∧ DecIs n f x y G ∧ CopyAt B w' G (.slice la G.n lc) G.n Na Nc

/-- Nothing but block g has turned, and nothing where n is 0. -/
structure RToN (n : Nat) (w w' : World) (g : Nat) : Prop where
  os : w'.os = w.os
  tape : w'.tape = w.tape
  output : w'.output = w.output
  size : w'.heap.size = w.heap.size
  block : ∀ k, n = 0 ∨ k ≠ g → w'.heap[k]? = w.heap[k]?
theorem RToN.refl (n : Nat) (w : World) (g : Nat) : RToN n w w g := ⟨rfl, rfl, rfl, rfl, fun _ _ => rfl⟩
theorem RToN.set {n : Nat} {w w' : World} {g : Nat} (h : RToN n w w' g) (hn : n ≠ 0) (o : Nat) (v : Value) : RToN n w (w'.setCell ⟨g, o, none⟩ v) g :=
  ⟨h.os, h.tape, h.output, by rw [← h.size]; simp [World.setCell], fun k hk => (Below.heap_setCell w' ⟨g, o, none⟩ v k (hk.resolve_left hn)).trans (h.block k hk)⟩
theorem chk_zero {F : FlowD} {a : Int} (h : ChkIs F 0 a) : a = -1 := by
  rcases h with ⟨h, _⟩ | ⟨h, _⟩ | ⟨h, _⟩ | ⟨h, _⟩ | ⟨_, h, _⟩
  · cases h
  · cases h
  · cases h
  · cases h
  · exact h
theorem dec_zero {n : Nat} {f : Nat → Nat} {y : Int} {G : FlowD} (h : DecIs n f 0 y G) : y = -1 := by
  rcases h with ⟨s, _, h, _⟩ | ⟨p, s, _, _, h, _⟩ | ⟨p, s, _, _, h, _⟩
  · cases h
  · cases h
  · exact chk_zero h

set_option maxHeartbeats 4000000 in
theorem pdecode_some (w : World) (ad : Addr) (n cap : Nat) (f : Nat → Nat) (hn : n ≤ 1073741824) (hf : ∀ k, k < n → f k < 256) (hT : TabIn w) (hg : 1 < w.heap.size) (hE : ErrTypeIn w) (hb : BytesAt w (some ad) n cap f) :
    Calls Tryd.prog 20 #[.slice (some ad) n cap] w fun e w' => DecEnds w.heap.size w' n f e ∧ Below w.heap.size w w' := by
  obtain ⟨i5, hi5, hz50, hz51, hz52⟩ := info_parts info5
  have HI5 := Hid.mk (And.intro hi5 (And.intro hz50 (And.intro hz51 hz52)))
  have HT := Hid.mk hT
  have HE := Hid.mk hE
  have HF := Hid.mk hf
  have hkb : Hid (∀ o, Below w.heap.size w (w.alloc o)) := Hid.mk fun o => (Below.refl _ _).alloc (Nat.le_refl _) _
  have hnews : Hid (∀ (ob : Obj) (j : Nat) (u : Value), (bytesL n f)[j]? = some u → (w.alloc ob).cell? (ad.add j) = some u) := Hid.mk fun ob j u hj => by
    have hjl : j < n := by
      have := (List.getElem?_eq_some_iff.1 hj).1
      rwa [bytesL_length] at this
    rcases hb with h0 | ⟨ab, ao, hA, _, _, hab, hcell⟩
    · omega
    · obtain rfl : ad = ⟨ab, ao, none⟩ := by simpa using hA
      rw [bytesL_at _ _ _ hjl] at hj
      rw [← hj, addr_add]
      exact cell_later ((Below.refl _ _).alloc (Nat.le_refl _) _) (hcell j hjl).1
  have hones : Hid (∀ u ∈ bytesL n f, u.oneCell' = true) := Hid.mk fun u hu => by
    simp only [bytesL, List.mem_map] at hu
    obtain ⟨x, _, rfl⟩ := hu
    rfl
  clear hi5 hz50 hz51 hz52 hT hE hf hb
  go_enter Tryd.func20, Tryd.ntmps20
  go_wp2_with (at_builtin; refine wpList_append_own _ rfl (.const (.slice none 0 0)) (.tmp 11) 28 rfl (w.heap.size + 1) 5 i5 (.int .u8 0) 1 1 Tryd.underlying28 HI5.out.1 HI5.out.2.1 HI5.out.2.2.1 HI5.out.2.2.2 rfl (by decide) (.slice none 0 0) 0 [] rfl (World.ownsRow_nil _ _ _ _) ad n cap (bytesL n f) rfl (by rw [bytesL_length]; omega) (hnews.out _) hones.out (by unfold maxLen; omega) (by omega) (by simp) ?_; intro v1 w1 hown1 hgrow1 hiff; clear hiff; rw [Nat.zero_add, List.nil_append] at hown1; obtain ⟨xa, xc, rfl⟩ := own_slice hown1; have HO1 := Hid.mk (And.intro hown1 hgrow1); clear hown1 hgrow1)
  obtain ⟨hby, hxa, hnm, hwr⟩ := bytes_of_own HO1.out.1 HF.out
  have HBY := Hid.mk hby
  have HWR := Hid.mk hwr
  have HB1 : Hid (Below w.heap.size w w1) := Hid.mk ((hkb.out _).grown HO1.out.2 (by simp) (fun k h => by cases h))
  have q0 : w1.cell? ⟨w.heap.size, 0, none⟩ = some (.int .i64 0) := HO1.out.2.cell (by simp) (by simp [Value.ownBlock])
  have q1 : w1.cell? ⟨w.heap.size, 1, none⟩ = some (.slice none 0 0) := HO1.out.2.cell (by simp) (by simp [Value.ownBlock])
  have hs1 : w.heap.size < w1.heap.size := by have := HO1.out.2.size; simp at this; omega
  have qf : ∀ j, w1.frozen? ⟨w.heap.size, j, none⟩ = false := fun j => (World.frozen?_of_block (HO1.out.2.block w.heap.size (by simp) (by simp [Value.ownBlock]))).trans (by simp)
  have QF := Hid.mk qf
  clear hby hwr qf
  refine (fkdecode_any _ xa n xc f hnm (HT.out.keep hg HB1.out) (by omega) hxa HBY.out).mono ?_
  rintro e w2 ⟨hx, hb2⟩
  have HB2 := Hid.mk hb2
  have p0 := cell_later hb2 q0
  have p1 := cell_later hb2 q1
  clear hb2 q0 q1
  obtain ⟨gg, hg1, hg2, hgx, hgw⟩ : ∃ gg, w.heap.size < gg ∧ (n = 0 ∨ gg < w1.heap.size) ∧ (n ≠ 0 → xa = some ⟨gg, 0, none⟩ ∧ n ≤ xc ∧ xc ≤ maxLen) ∧ ∀ m, m < n → Wr w1 gg m := by
    rcases HWR.out with h0 | ⟨g, h1, h2, h3, h4, h5, h6⟩
    · exact ⟨w.heap.size + 1, by omega, Or.inl h0, fun h => absurd h0 h, fun m hm => by omega⟩
    · exact ⟨g, by omega, Or.inr h3, fun _ => ⟨h1, h4, h5⟩, fun m hm => h6 m hm⟩
  have HW2 : Hid (∀ ob m, m < n → Wr (w2.alloc ob) gg m) := Hid.mk fun ob m hm => by
    have hgg : gg < w1.heap.size := by rcases hg2 with h | h <;> omega
    have hb : Below w1.heap.size w1 (w2.alloc ob) := HB2.out.alloc HB2.out.size ob
    obtain ⟨h1, h2⟩ := hgw m hm
    exact ⟨by rw [hb.cell (p := ⟨gg, m, none⟩) hgg]; exact h1, by rw [hb.frozen (p := ⟨gg, m, none⟩) hgg]; exact h2⟩
  have hs2 := HB2.out.size
  rcases hx with ⟨y, la, lc, Na, Nc, hd, rfl, hcp⟩ | ⟨x, y, q, hx, hd, rfl, hfa, hq1, hq2⟩
  · have HX := Hid.mk (And.intro hd hcp)
    clear hd hcp
    go_wp2_with fail
    go_loopw [20] (fun iv wr => ∃ k : Nat, iv = .int .i64 k ∧ k ≤ n ∧ RToN n (w2.alloc (.cells #[.int .i64 (flowOf n f).dl, .slice la (flowOf n f).n lc] 24)) wr gg ∧ ∀ m, m < n → Wr wr gg m) (fun iv _ => n - (intOf iv).toNat)
    case atStart => exact ⟨0, rfl, by omega, RToN.refl _ _ _, fun m hm => HW2.out _ m hm⟩
    case round =>
      obtain ⟨k, rfl, hk, hr, hw⟩ := hrel
      rename World => w4
      have HR := Hid.mk hr
      have HWW := Hid.mk hw
      by_cases h1 : k < n
      · obtain ⟨hA, hA1, hA2⟩ := hgx (by omega)
        obtain ⟨u, hu⟩ := Option.isSome_iff_exists.1 (hw k h1).1
        have fu := (hw k h1).2
        rw [hA]
        unfold maxLen at hA2
        clear hr hw hA
        go_wp2_with fail
        go_roundw
        case rel => exact ⟨k + 1, by go_num, by omega, HR.out.set (by omega) _ _, fun m hm => (HWW.out m hm).set _ _⟩
        case measure => simp [intOf]; omega
      · obtain rfl : n = k := by omega
        clear hr hw
        have hal : Below w2.heap.size w2 (w2.alloc (.cells #[.int .i64 (flowOf n f).dl, .slice la (flowOf n f).n lc] 24)) := (Below.refl _ _).alloc (Nat.le_refl _) _
        have hkeep : ∀ z, (z ≤ w.heap.size ∨ w1.heap.size ≤ z) → w4.heap[z]? = (w2.alloc (.cells #[.int .i64 (flowOf n f).dl, .slice la (flowOf n f).n lc] 24)).heap[z]? := fun z hz => HR.out.block z (by
          rcases hg2 with h | h
          · exact Or.inl h
          · right; omega)
        have hbb : Below w.heap.size w w2 := HB1.out.trans (HB2.out.mono (by omega))
        have hB4 : Below w.heap.size w w4 := ⟨HR.out.os.trans (hal.os.trans hbb.os), HR.out.tape.trans (hal.tape.trans hbb.tape), HR.out.output.trans (hal.output.trans hbb.output), by have := HR.out.size; have := hal.size; have := hbb.size; omega, fun z hz => (hkeep z (by omega)).trans ((hal.block z (by omega)).trans (hbb.block z hz))⟩
        have a0 : w4.cell? ⟨w.heap.size, 0, none⟩ = some (.int .i64 0) := (World.cell?_of_block (a := ⟨w.heap.size, 0, none⟩) (hkeep _ (Or.inl (Nat.le_refl _)))).trans (cell_later hal p0)
        have a1 : w4.cell? ⟨w.heap.size, 1, none⟩ = some (.slice none 0 0) := (World.cell?_of_block (a := ⟨w.heap.size, 1, none⟩) (hkeep _ (Or.inl (Nat.le_refl _)))).trans (cell_later hal p1)
        have fA : ∀ j, w4.frozen? ⟨w.heap.size, j, none⟩ = false := fun j => (World.frozen?_of_block (a := ⟨w.heap.size, j, none⟩) (hkeep _ (Or.inl (Nat.le_refl _)))).trans ((hal.frozen (p := ⟨w.heap.size, j, none⟩) (by simp only []; omega)).trans ((HB2.out.frozen (p := ⟨w.heap.size, j, none⟩) (by simp only []; omega)).trans (QF.out j)))
        have hnew := heap_alloc_new w2 (.cells #[.int .i64 (flowOf n f).dl, .slice la (flowOf n f).n lc] 24)
        have e4 := (hkeep w2.heap.size (Or.inr hs2)).trans hnew
        have hs4 : w2.heap.size < w4.heap.size := by
          have := (Array.getElem?_eq_some_iff.1 e4).1
          exact this
        have x0 := cell_at e4 0
        have x1 := cell_at e4 1
        have HB4 := Hid.mk hB4
        have hAs : w.heap.size < w4.heap.size := by omega
        have HC4 : Hid (CopyAt w1.heap.size w4 (flowOf n f) (.slice la (flowOf n f).n lc) (flowOf n f).n Na Nc) := Hid.mk ⟨own_spare (own_below HX.out.2.own hal) (fun z h1 _ => hkeep z (Or.inr h1)), fun i hi => own_spare (own_below (HX.out.2.aft i hi) hal) (fun z h1 _ => hkeep z (Or.inr h1))⟩
        clear hkeep hal hbb hB4 hnew e4
        go_wp2_with fail
        refine (told_nil _).mono ?_
        rintro e w5 ⟨rfl, hb5⟩
        have b0 := cell_later hb5 a0
        have b1 := cell_later hb5 a1
        have g0 := (hb5.frozen (p := ⟨w.heap.size, 0, none⟩) hAs).trans (fA 0)
        have g1 := (hb5.frozen (p := ⟨w.heap.size, 1, none⟩) hAs).trans (fA 1)
        have z0 := cell_later hb5 x0
        have z1 := cell_later hb5 x1
        have HB5 := Hid.mk (HB4.out.trans (hb5.mono (by omega)))
        have HC5 := Hid.mk ((HC4.out.below hb5).base (B' := w.heap.size + 1) (by omega))
        clear a0 a1 x0 x1 fA hb5
        go_wp2_with fail
        refine bodyPost_ret (v := .tuple #[flV (flowOf n f).dl (.slice la (flowOf n f).n lc), .int .i64 0, .int .i64 (-1)]) (by simp [results, Tryd.results20, go_sem, b0, b1]) rfl ⟨⟨0, -1, flowOf n f, la, lc, Na, Nc, rfl, by rw [← dec_zero HX.out.1]; exact HX.out.1, ?_⟩, ?_⟩
        · exact CopyAt.base (B := w.heap.size + 1) ⟨ownsRow_setCell_below (ownsRow_setCell_below HC5.out.own (by simp) _) (by simp) _, fun i hi => ownsRow_setCell_below (ownsRow_setCell_below (HC5.out.aft i hi) (by simp) _) (by simp) _⟩ (by omega)
        · exact (HB5.out.setCell (by simp) _).setCell (by simp) _
  · have HX := Hid.mk (And.intro hd hfa)
    clear hd hfa
    go_wp2_with fail
    go_loopw [20] (fun iv wr => ∃ k : Nat, iv = .int .i64 k ∧ k ≤ n ∧ RToN n (w2.alloc (.cells #[.int .i64 0, .slice none 0 0] 24)) wr gg ∧ ∀ m, m < n → Wr wr gg m) (fun iv _ => n - (intOf iv).toNat)
    case atStart => exact ⟨0, rfl, by omega, RToN.refl _ _ _, fun m hm => HW2.out _ m hm⟩
    case round =>
      obtain ⟨k, rfl, hk, hr, hw⟩ := hrel
      rename World => w4
      have HR := Hid.mk hr
      have HWW := Hid.mk hw
      by_cases h1 : k < n
      · obtain ⟨hA, hA1, hA2⟩ := hgx (by omega)
        obtain ⟨u, hu⟩ := Option.isSome_iff_exists.1 (hw k h1).1
        have fu := (hw k h1).2
        rw [hA]
        unfold maxLen at hA2
        clear hr hw hA
        go_wp2_with fail
        go_roundw
        case rel => exact ⟨k + 1, by go_num, by omega, HR.out.set (by omega) _ _, fun m hm => (HWW.out m hm).set _ _⟩
        case measure => simp [intOf]; omega
      · obtain rfl : n = k := by omega
        clear hr hw
        have hal : Below w2.heap.size w2 (w2.alloc (.cells #[.int .i64 0, .slice none 0 0] 24)) := (Below.refl _ _).alloc (Nat.le_refl _) _
        have hkeep : ∀ z, (z ≤ w.heap.size ∨ w1.heap.size ≤ z) → w4.heap[z]? = (w2.alloc (.cells #[.int .i64 0, .slice none 0 0] 24)).heap[z]? := fun z hz => HR.out.block z (by
          rcases hg2 with h | h
          · exact Or.inl h
          · right; omega)
        have hbb : Below w.heap.size w w2 := HB1.out.trans (HB2.out.mono (by omega))
        have hB4 : Below w.heap.size w w4 := ⟨HR.out.os.trans (hal.os.trans hbb.os), HR.out.tape.trans (hal.tape.trans hbb.tape), HR.out.output.trans (hal.output.trans hbb.output), by have := HR.out.size; have := hal.size; have := hbb.size; omega, fun z hz => (hkeep z (by omega)).trans ((hal.block z (by omega)).trans (hbb.block z hz))⟩
        have a0 : w4.cell? ⟨w.heap.size, 0, none⟩ = some (.int .i64 0) := (World.cell?_of_block (a := ⟨w.heap.size, 0, none⟩) (hkeep _ (Or.inl (Nat.le_refl _)))).trans (cell_later hal p0)
        have a1 : w4.cell? ⟨w.heap.size, 1, none⟩ = some (.slice none 0 0) := (World.cell?_of_block (a := ⟨w.heap.size, 1, none⟩) (hkeep _ (Or.inl (Nat.le_refl _)))).trans (cell_later hal p1)
        have fA : ∀ j, w4.frozen? ⟨w.heap.size, j, none⟩ = false := fun j => (World.frozen?_of_block (a := ⟨w.heap.size, j, none⟩) (hkeep _ (Or.inl (Nat.le_refl _)))).trans ((hal.frozen (p := ⟨w.heap.size, j, none⟩) (by simp only []; omega)).trans ((HB2.out.frozen (p := ⟨w.heap.size, j, none⟩) (by simp only []; omega)).trans (QF.out j)))
        have hnew := heap_alloc_new w2 (.cells #[.int .i64 0, .slice none 0 0] 24)
        have e4 := (hkeep w2.heap.size (Or.inr hs2)).trans hnew
        have hs4 : w2.heap.size < w4.heap.size := by
          have := (Array.getElem?_eq_some_iff.1 e4).1
          exact this
        have x0 := cell_at e4 0
        have x1 := cell_at e4 1
        have HB4 := Hid.mk hB4
        have hAs : w.heap.size < w4.heap.size := by omega
        have hf4 : FaultAt w4 q x y := (HX.out.2.keep hq1 hal).spare (N := w1.heap.size) hq2 (by simp; omega) (fun z h1 _ => hkeep z (Or.inr h1))
        clear hkeep hal hbb hB4 hnew e4
        go_wp2_with fail
        refine (told_fault q x y _ hf4 (by omega) (HE.out.keep HB4.out)).mono ?_
        rintro e w5 ⟨rfl, hb5⟩
        have b0 := cell_later hb5 a0
        have b1 := cell_later hb5 a1
        have g0 := (hb5.frozen (p := ⟨w.heap.size, 0, none⟩) hAs).trans (fA 0)
        have g1 := (hb5.frozen (p := ⟨w.heap.size, 1, none⟩) hAs).trans (fA 1)
        have z0 := cell_later hb5 x0
        have z1 := cell_later hb5 x1
        have HB5 := Hid.mk (HB4.out.trans (hb5.mono (by omega)))
        clear a0 a1 x0 x1 fA hb5
        go_wp2_with fail
        refine bodyPost_ret (v := .tuple #[flV 0 (.slice none 0 0), .int .i64 x, .int .i64 y]) (by simp [results, Tryd.results20, go_sem, b0, b1]) rfl ⟨⟨x, y, noFlow, none, 0, fun _ => none, fun _ => 0, rfl, HX.out.1, ⟨World.ownsRow_nil _ _ _ _, fun i hi => absurd hi (Nat.not_lt_zero i)⟩⟩, ?_⟩
        exact (HB5.out.setCell (by simp) _).setCell (by simp) _
end Go.Proofs.YtgdcjccbdmcebaaDoor
