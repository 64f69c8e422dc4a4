/- The program's circling: the first node whose turn never comes. -/
import Derived.Test.YtgdcjccbdmcebaaDoorWCircle
import Derived.Test.YtgdcjccbdmcebaaDoorGJump
namespace Go.Proofs.YtgdcjccbdmcebaaDoor
open Go.RowKit
set_option maxRecDepth 100000

/-- The number in a cell. -/
def cellI (w : World) (pb : Nat) : Int := match w.cell? ⟨pb, 0, none⟩ with | some v => intOf v | none => 0
theorem cellI_of {w : World} {pb : Nat} {k : IntKind} {p : Int} (h : w.cell? ⟨pb, 0, none⟩ = some (.int k p)) : cellI w pb = p := by unfold cellI; rw [h]; rfl

/-- What holds at the label: the bits of p are nodes that have their turn. -/
structure AtLabel (F : FlowD) (w w' : World) (p : Nat) : Prop where
  cell : w'.cell? ⟨w.heap.size, 0, none⟩ = some (.int .u64 p)
  free : w'.frozen? ⟨w.heap.size, 0, none⟩ = false
  size : w.heap.size < w'.heap.size
  bl : Below w.heap.size w w'
  lt : p < 2 ^ F.n
  sound : ∀ j, j < F.n → p.testBit j = true → Gone F j

def JumpJ (F : FlowD) (b o cap : Nat) (w : World) (a' : Act) (w' : World) : Prop :=
  ∃ (p : Nat) (u6 u7 u8 u9 u10 u11 u12 u13 u14 u15 u16 u17 u18 u19 u20 u21 u22 u23 u24 u25 u26 u27 u28 u29 u30 u31 : Value), AtLabel F w w' p ∧
    a' = { tmps := #[.slice (some ⟨b, o, none⟩) F.n cap, undef, .int .i64 0, .bool false, .pointer (some ⟨w.heap.size, 0, none⟩), .func (.func 97) #[] #[.pointer (some ⟨w.heap.size, 0, none⟩)],
      u6, u7, u8, u9, u10, u11, u12, u13, u14, u15, u16, u17, u18, u19, u20, u21, u22, u23, u24, u25, u26, u27, u28, u29, u30, u31, undef, undef, undef, undef, undef, undef, undef, undef], defers := [] }

theorem or_bit (p i : Nat) (hp : p < 4096) (hi : i < 12) : bits BinOp.or IntKind.u64 (p : Int) (IntKind.u64.wrap (2 ^ i)) = ((p ||| 2 ^ i : Nat) : Int) := by
  have h1 : (2 : Nat) ^ i < 4096 := Nat.lt_of_lt_of_le (Nat.pow_lt_pow_right (by decide) hi) (by decide)
  have e1 : IntKind.u64.wrap (2 ^ i) = ((2 ^ i : Nat) : Int) := by
    have e2 : ((2 : Int) ^ i) = ((2 ^ i : Nat) : Int) := by simp
    have h2 := Nat.two_pow_pos i
    rw [e2, IntKind.wrap_u64]
    omega
  rw [e1, bits_or_u64_nat _ _ (by omega) (by omega)]
theorem or_lt (p i n : Nat) (hp : p < 2 ^ n) (hi : i < n) : p ||| 2 ^ i < 2 ^ n := Nat.or_lt_two_pow hp (Nat.pow_lt_pow_right (by decide) hi)
theorem or_testBit (p i j : Nat) : (p ||| 2 ^ i).testBit j = (p.testBit j || decide (i = j)) := by rw [Nat.testBit_or, Nat.testBit_two_pow]
theorem or_gt (p i : Nat) (h : p.testBit i = false) : p < p ||| 2 ^ i := by
  apply Nat.lt_of_le_of_ne Nat.left_le_or
  intro e
  have h2 := or_testBit p i i
  rw [← e, h] at h2
  simp at h2
theorem xor_all (p : Nat) (hp : p < 4096) : bits BinOp.xor IntKind.u64 IntKind.u64.max (p : Int) = ((18446744073709551615 - p : Nat) : Int) := by
  have e1 : IntKind.u64.max = ((18446744073709551615 : Nat) : Int) := by decide
  rw [e1, bits_xor_u64_nat _ _ (by decide) (by omega)]
  congr 1
  apply Nat.eq_of_testBit_eq
  intro i
  have e2 : 18446744073709551615 - p = 2 ^ 64 - (p + 1) := by omega
  have e3 : 18446744073709551615 = 2 ^ 64 - (0 + 1) := by decide
  rw [Nat.testBit_xor, e2, Nat.testBit_two_pow_sub_succ (by omega), e3, Nat.testBit_two_pow_sub_succ (by decide)]
  by_cases hi : i < 64
  · simp [hi]
  · have : p.testBit i = false := Nat.testBit_lt_two_pow (Nat.lt_of_lt_of_le (show p < 2 ^ 64 by omega) (Nat.pow_le_pow_right (by decide) (by omega)))
    simp [hi, this]
/-- There is a first bit that isn't set. -/
theorem first_bit (p n : Nat) (h : p.testBit n = false) : ∃ j, j ≤ n ∧ p.testBit j = false ∧ ∀ i, i < j → p.testBit i = true := by
  induction n using Nat.strongRecOn with
  | _ n ih =>
    by_cases h2 : ∃ i, i < n ∧ p.testBit i = false
    · obtain ⟨i, hi, hp⟩ := h2
      obtain ⟨j, hj, h3, h4⟩ := ih i hi hp
      exact ⟨j, by omega, h3, h4⟩
    · refine ⟨n, Nat.le_refl _, h, fun i hi => ?_⟩
      cases hb : p.testBit i with
      | true => rfl
      | false => exact absurd ⟨i, hi, hb⟩ h2
theorem tzp_any (p j : Nat) (w : World) (hp : p < 4096) (hj : j ≤ 12) (h1 : ∀ i, i < j → p.testBit i = true) (h2 : p.testBit j = false) (hT : TabIn w) :
    Calls Tryd.prog 99 #[.int .u64 (bits BinOp.xor IntKind.u64 IntKind.u64.max (p : Int))] w fun e w' => e = .returned (.int .i64 j) ∧ w' = w := by
  rw [xor_all p hp]
  have h := tz_any (18446744073709551615 - p) (by omega) (by omega) w hT
  rw [ctz_first p j (by omega) (by omega) h1 h2] at h
  exact h
theorem TabIn.keep {w w' : World} (h : TabIn w) (hg : 1 < w.heap.size) (hb : Below w.heap.size w w') : TabIn w' :=
  fun j hj => (hb.cell (p := ⟨1, j, none⟩) hg).trans (h j hj)

set_option maxHeartbeats 4000000 in
theorem circling_any (F : FlowD) (b o cap : Nat) (Aa : Nat → Option Addr) (Ac : Nat → Nat) (w : World) (hn0 : 1 ≤ F.n) (hn : F.n ≤ 12) (hb : b < w.heap.size) (hT : TabIn w) (hg : 1 < w.heap.size)
    (he : ∀ j, j < F.n → OkEdges F j) (hc : ∀ i, i < F.n → NodeAt w F i b (o + i * 7) (Aa i) (Ac i)) :
    Calls Tryd.prog 87 #[.slice (some ⟨b, o, none⟩) F.n cap] w fun e w' => ((∃ j : Nat, e = .returned (.tuple #[.int .i64 j, .bool true]) ∧ j < F.n ∧ ¬ Gone F j ∧ ∀ k, k < j → Gone F k) ∨ (∃ j : Nat, e = .returned (.tuple #[.int .i64 j, .bool false]) ∧ ∀ k, k < F.n → Gone F k)) ∧ Below w.heap.size w w' := by
  have hmf : ∀ (fn : Fn) (first cap : Array Value) (w : World), (Instr.makeFunc fn first cap).run Tryd.prog w = .ok (.func fn first cap) w := fun _ _ _ _ => rfl
  have HE := Hid.mk he
  have HC := Hid.mk hc
  have HTT := Hid.mk hT
  clear he hc hT
  go_enter Tryd.func87, Tryd.ntmps87
  go_wp2
  refine scope_jumps_one 0 (JumpJ F b o cap w) (fun _ w' => (4096 - cellI w' w.heap.size).toNat) rfl ?_ ?_
  · intro R HR
    have HH := Hid.mk HR
    clear HR
    go_wp2
    go_step3
    rename_i K hK
    refine hK _ _ (HH.out _ _ ?_)
    exact ⟨0, _, _, _, _, _, _, _, _, _, _, _, _, _, _, _, _, _, _, _, _, _, _, _, _, _, _, ⟨by simp, by simp, by simp, (Below.refl _ _).alloc (Nat.le_refl _) _, Nat.two_pow_pos _, fun j _ h => by simp at h⟩, rfl⟩
  · rintro a' w' ⟨p, u6, u7, u8, u9, u10, u11, u12, u13, u14, u15, u16, u17, u18, u19, u20, u21, u22, u23, u24, u25, u26, u27, u28, u29, u30, u31, hat, rfl⟩
    obtain ⟨x0, x1, x2, x3, x4, x5⟩ := hat
    have hp : p < 4096 := Nat.lt_of_lt_of_le x4 (Nat.pow_le_pow_right (by omega) hn)
    have hmu : cellI w' w.heap.size = p := cellI_of x0
    rw [hmu]
    have HS := Hid.mk x5
    clear hmu x5
    go_wp2_with fail
    go_loopw [12] (fun iv wx => ∃ i : Nat, i ≤ F.n ∧ iv = .int .i64 i ∧ (∀ j, j < i → p.testBit j = true ∨ anyB p (F.an j) (F.af j) = true) ∧ wx.cell? ⟨w.heap.size, 0, none⟩ = some (.int .u64 p) ∧ wx.frozen? ⟨w.heap.size, 0, none⟩ = false ∧ w.heap.size < wx.heap.size ∧ Below w.heap.size w wx) (fun iv _ => F.n - (intOf iv).toNat)
    case atStart => exact ⟨0, by omega, rfl, fun j hj => by omega, x0, x1, x2, x3⟩
    case round =>
      obtain ⟨i, hi, rfl, hpre, z0, z1, z2, z3⟩ := hrel
      rename World => w2
      have HP := Hid.mk hpre
      clear hpre x0 x1 x2 x3
      by_cases h1 : i < F.n
      · obtain ⟨n0, n1, n2, n3, n4, n5, n6, ni⟩ := (HC.out i h1).keep hb z3
        have hin : i < 12 := by omega
        cases hl : leftB p i with
        | false =>
          have H6 : Hid (∀ j, j < i + 1 → p.testBit j = true ∨ anyB p (F.an j) (F.af j) = true) := Hid.mk fun j hj => by
            by_cases hj2 : j < i
            · exact HP.out j hj2
            · obtain rfl : j = i := by omega
              left
              simpa [leftB] using hl
          have hout : Hid (∀ o, (w2.alloc o).cell? ⟨w.heap.size, 0, none⟩ = some (.int .u64 p) ∧ (w2.alloc o).frozen? ⟨w.heap.size, 0, none⟩ = false ∧ w.heap.size < (w2.alloc o).heap.size ∧ Below w.heap.size w (w2.alloc o)) := Hid.mk fun o =>
            ⟨cell_later ((Below.refl _ _).alloc (Nat.le_refl _) _) z0, by rw [Below.frozen (w := w2) ((Below.refl _ _).alloc (Nat.le_refl _) _) z2]; exact z1, by simp; omega, z3.alloc (by omega) _⟩
          go_wp2_with fail
          refine (left_any p _ w.heap.size _ (by omega) (by omega) hp (hout.out _).1).mono ?_
          rintro e w' ⟨rfl, rfl⟩
          go_wp2_with fail
          go_roundw
          case rel => exact ⟨i + 1, by omega, by go_num, H6.out, hout.out _⟩
          case measure => simp [intOf]; omega
        | true =>
          have hout : Hid (∀ o, (w2.alloc o).cell? ⟨w.heap.size, 0, none⟩ = some (.int .u64 p) ∧ (w2.alloc o).frozen? ⟨w.heap.size, 0, none⟩ = false ∧ w.heap.size < (w2.alloc o).heap.size ∧ Below w.heap.size w (w2.alloc o)) := Hid.mk fun o =>
            ⟨cell_later ((Below.refl _ _).alloc (Nat.le_refl _) _) z0, by rw [Below.frozen (w := w2) ((Below.refl _ _).alloc (Nat.le_refl _) _) z2]; exact z1, by simp; omega, z3.alloc (by omega) _⟩
          have hints : Hid (∀ o, IntsAt (w2.alloc o) (Aa i) (F.an i) (Ac i) (F.af i)) := Hid.mk fun o => ni.keep ((Below.refl _ _).alloc (Nat.le_refl _) _)
          have hed : Hid (∀ k, k < F.an i → 0 ≤ F.af i k ∧ F.af i k < 12) := Hid.mk fun k hk => by
            have := HE.out i h1 k hk
            unfold OkEdge at this
            omega
          cases ha : anyB p (F.an i) (F.af i) with
          | true =>
            have H6 : Hid (∀ j, j < i + 1 → p.testBit j = true ∨ anyB p (F.an j) (F.af j) = true) := Hid.mk fun j hj => by
              by_cases hj2 : j < i
              · exact HP.out j hj2
              · obtain rfl : j = i := by omega
                exact Or.inr ha
            go_wp2_with fail
            refine (left_any p _ w.heap.size _ (by omega) (by omega) hp (hout.out _).1).mono ?_
            rintro e w' ⟨rfl, rfl⟩
            go_wp2_with fail
            refine (contains_any p w.heap.size _ _ _ _ _ hp (hout.out _).1 (hints.out _) hed.out).mono ?_
            rintro e w' ⟨rfl, rfl⟩
            go_wp2_with fail
            go_roundw
            case rel => exact ⟨i + 1, by omega, by go_num, H6.out, hout.out _⟩
            case measure => simp [intOf]; omega
          | false =>
            have hall : Hid (∀ k, k < F.an i → leftB p (F.af i k).toNat = false) := Hid.mk (anyB_inv ha)
            have hbit : p.testBit i = false := by simpa [leftB] using hl
            have HB := Hid.mk hbit
            clear hbit
            go_wp2_with fail
            refine (left_any p _ w.heap.size _ (by omega) (by omega) hp (hout.out _).1).mono ?_
            rintro e w' ⟨rfl, rfl⟩
            go_wp2_with fail
            refine (contains_any p w.heap.size _ _ _ _ _ hp (hout.out _).1 (hints.out _) hed.out).mono ?_
            rintro e w' ⟨rfl, rfl⟩
            go_wp2_with fail
            obtain ⟨q0, q1, q2, q3⟩ := hout.out (.cells #[.int .i64 (F.bu i), .int .i64 (F.cl i), .int .i64 (F.be i), .int .i64 (F.ba i), .int .i64 (F.ca i), .int .i64 (F.ji i), .slice (Aa i) (F.an i) (Ac i)] 27)
            generalize w2.alloc (.cells #[.int .i64 (F.bu i), .int .i64 (F.cl i), .int .i64 (F.be i), .int .i64 (F.ba i), .int .i64 (F.ca i), .int .i64 (F.ji i), .slice (Aa i) (F.an i) (Ac i)] 27) = w5 at *
            go_region
            all_goals go_wp2
            rw [or_bit p i hp hin]
            go_step3
            refine ⟨rfl, ⟨p ||| 2 ^ i, _, _, _, _, _, _, _, _, _, _, _, _, _, _, _, _, _, _, _, _, _, _, _, _, _, _, ⟨?_, ?_, ?_, ?_, or_lt p i F.n x4 h1, ?_⟩, rfl⟩, ?_⟩
            · show (w5.setCell ⟨w.heap.size, 0, none⟩ _).cell? ⟨w.heap.size, 0, none⟩ = _
              exact World.cell?_setCell_same' _ _ _ (by rw [q0]; rfl)
            · show (w5.setCell ⟨w.heap.size, 0, none⟩ _).frozen? ⟨w.heap.size, 0, none⟩ = _
              rw [World.frozen?_setCell]
              exact q1
            · show w.heap.size < (w5.setCell ⟨w.heap.size, 0, none⟩ _).heap.size
              simpa [World.setCell] using q2
            · exact (q3.setCell (by simp) _).drew
            · intro j hj hjt
              rw [or_testBit] at hjt
              by_cases e : i = j
              · subst e
                exact Gone.mk i fun k hk => HS.out _ (HE.out i h1 k hk).lt (by have := hall.out k hk; simpa [leftB] using this)
              · simp [e] at hjt
                exact HS.out j hj hjt
            · have e5 : cellI (w5.setCell ⟨w.heap.size, 0, none⟩ (.int .u64 ((p ||| 2 ^ i : Nat) : Int))).drew w.heap.size = ((p ||| 2 ^ i : Nat) : Int) := cellI_of (k := .u64) (World.cell?_setCell_same' _ _ _ (by rw [q0]; rfl))
              rw [e5]
              have := or_gt p i HB.out
              have := or_lt p i F.n x4 h1
              have : 2 ^ F.n ≤ 2 ^ 12 := Nat.pow_le_pow_right (by omega) hn
              omega
      · obtain rfl : i = F.n := by omega
        have hbn : p.testBit F.n = false := Nat.testBit_lt_two_pow x4
        obtain ⟨j, hj, hjf, hjt⟩ := first_bit p F.n hbn
        have hclosed : Closed F (fun j => p.testBit j) := fun k hk hall => by
          rcases HP.out k hk with h | h
          · exact h
          · exfalso
            have h2 := anyB_f (p := p) (n := F.an k) (f := F.af k) fun q hq => by simp [leftB, hall q hq]
            rw [h] at h2
            cases h2
        have hgi := gone_iff HE.out (S := fun j => p.testBit j) HS.out hclosed
        have hT2 : TabIn w2 := HTT.out.keep hg z3
        by_cases hjn : j < F.n
        · have H8 : Hid (¬ Gone F j ∧ ∀ k, k < j → Gone F k) := Hid.mk ⟨fun h => by
            have := (hgi j hjn).1 h
            simp [hjf] at this, fun k hk => (hgi k (by omega)).2 (hjt k hk)⟩
          have HT2 := Hid.mk hT2
          have HJ := Hid.mk hjt
          have HF := Hid.mk hjf
          clear hT2 hjt hjf hgi hclosed hbn
          go_wp2_with fail
          refine (tzp_any p j _ hp (by omega) HJ.out HF.out HT2.out).mono ?_
          rintro e w' ⟨rfl, rfl⟩
          go_wp2_with fail
          simp only [Exit.jump]
          go_ret2
          exact ⟨Or.inl ⟨j, rfl, hjn, H8.out.1, H8.out.2⟩, z3⟩
        · have H8 : Hid (∀ k, k < F.n → Gone F k) := Hid.mk fun k hk => (hgi k hk).2 (hjt k (by omega))
          have HT2 := Hid.mk hT2
          have HJ := Hid.mk hjt
          have HF := Hid.mk hjf
          clear hT2 hjt hjf hgi hclosed hbn
          go_wp2_with fail
          refine (tzp_any p j _ hp (by omega) HJ.out HF.out HT2.out).mono ?_
          rintro e w' ⟨rfl, rfl⟩
          go_wp2_with fail
          simp only [Exit.jump]
          go_ret2
          exact ⟨Or.inr ⟨j, rfl, H8.out⟩, z3⟩
end Go.Proofs.YtgdcjccbdmcebaaDoor
