/- A number as bytes: the document's function and the program's. -/
import Derived.Test.YtgdcjccbdmcebaaDoorWNumM
namespace Go.Proofs.YtgdcjccbdmcebaaDoor
open Go.RowKit
set_option maxRecDepth 100000

set_option maxHeartbeats 1000000 in
theorem refnumber_any (B : Nat) (v : Value) (l : List Int) (n : Nat) (w : World) (hn : n ≤ 9223372036854775807) (hl : l.length ≤ 1099511627776) (hB : B ≤ w.heap.size) (h : ByteRow B w v l) :
    Calls Tryd.prog 52 #[v, .int .i64 n] w fun e w' => ∃ v', e = .returned v' ∧ ByteRow B w' v' (l ++ numL n) ∧ F8 B w w' := by
  obtain ⟨i5, hi5, hz50, hz51, hz52⟩ := info_parts info5
  have HI5 := Hid.mk (And.intro hi5 (And.intro hz50 (And.intro hz51 hz52)))
  have H := Hid.mk h
  clear hi5 hz50 hz51 hz52 h
  go_enter Tryd.func52, Tryd.ntmps52
  go_wp2_with fail
  go_loopw [0, 1] (fun vv iv wr => ∃ (m : Nat) (k : List Int), iv = .int .i64 m ∧ m ≤ n ∧ k ++ numL m = l ++ numL n ∧ ByteRow B wr vv k ∧ F8 B w wr) (fun _ iv _ => (intOf iv).toNat)
  case atStart => exact ⟨n, l, rfl, by omega, rfl, H.out, F8.refl _ _⟩
  case round =>
    obtain ⟨m, k, rfl, hm, hk, hrow, hf⟩ := hrel
    rename World => w1
    have HK := Hid.mk hk
    have HR := Hid.mk hrow
    have HF := Hid.mk hf
    have hB1 : B ≤ w1.heap.size := Nat.le_trans hB hf.bl.size
    have hkl : k.length ≤ 1099511627776 + 9 := by
      have := congrArg List.length hk
      have h2 := numL_len9 hn
      simp only [List.length_append] at this
      omega
    obtain ⟨va, vc, rfl⟩ := own_slice hrow
    clear hk hrow hf
    by_cases h1 : m < 128
    · go_wp2_with (at_builtin; refine wpList_append_own _ rfl (.tmp 16) (.tmp 19) 28 rfl B 5 i5 (.int .u8 0) 1 1 Tryd.underlying28 HI5.out.1 HI5.out.2.1 HI5.out.2.2.1 HI5.out.2.2.2 rfl (by decide) (.slice va k.length vc) k.length (bv k) rfl (HR.out.below ((Below.refl _ _).alloc (Nat.le_refl _) _)) ⟨w1.heap.size, 0, none⟩ 1 1 [.int .u8 m] rfl rfl (news1 _ _ _ _ rfl) (one_byte _) (by unfold maxLen; omega) (by omega) (by simp; omega) ?_; intro v2 w3 hown2 hgrow2 hiff; clear hiff; obtain ⟨r1, r2⟩ := byte_step HR.out hB1 hown2 hgrow2; clear hown2 hgrow2)
      go_ret
      refine ⟨v2, rfl, ?_, HF.out.trans r2⟩
      have := HK.out
      rw [numL_small h1] at this
      rw [← this]
      exact r1
    · go_wp2_with (at_builtin; refine wpList_append_own _ rfl (.tmp 7) (.tmp 12) 28 rfl B 5 i5 (.int .u8 0) 1 1 Tryd.underlying28 HI5.out.1 HI5.out.2.1 HI5.out.2.2.1 HI5.out.2.2.2 rfl (by decide) (.slice va k.length vc) k.length (bv k) rfl (HR.out.below ((Below.refl _ _).alloc (Nat.le_refl _) _)) ⟨w1.heap.size, 0, none⟩ 1 1 [.int .u8 ((m : Int) % 128 + 128)] rfl rfl (news1 _ _ _ _ rfl) (one_byte _) (by unfold maxLen; omega) (by omega) (by simp; omega) ?_; intro v2 w3 hown2 hgrow2 hiff; clear hiff; obtain ⟨xa, xc, rfl⟩ := own_slice hown2; obtain ⟨r1, r2⟩ := byte_step HR.out hB1 hown2 hgrow2; clear hown2 hgrow2)
      go_roundw
      case rel =>
        refine ⟨m / 128, k ++ [(m : Int) % 128 + 128], by go_num, by omega, ?_, r1, HF.out.trans r2⟩
        have := HK.out
        rw [numL_big h1] at this
        rw [← this, List.append_assoc]
        rfl
      case measure => first | (simp [intOf]; done) | (simp [intOf]; omega)

/-- Numbers, one behind the other. -/
def numsL (f : Nat → Nat) : Nat → List Int
  | 0 => []
  | k + 1 => numsL f k ++ numL (f k)
theorem numsL_len (f : Nat → Nat) (n : Nat) (h : ∀ k, k < n → f k ≤ 9223372036854775807) : (numsL f n).length ≤ 9 * n := by
  induction n with
  | zero => simp [numsL]
  | succ k ih =>
    have h1 := ih fun j hj => h j (by omega)
    have h2 := numL_len9 (h k (by omega))
    simp only [numsL, List.length_append]
    omega

set_option maxHeartbeats 2000000 in
theorem append_any (B : Nat) (v : Value) (l : List Int) (f : Nat → Nat) (g : Nat → Int) (a : Option Addr) (n cap : Nat) (w : World) (hg : ∀ k, k < n → g k = (f k : Int)) (hn : ∀ k, k < n → f k ≤ 9223372036854775807) (hn2 : n ≤ 68719476736) (hl : l.length ≤ 1099511627776) (hB : B ≤ w.heap.size) (h : ByteRow B w v l)
    (hi : ∀ w', F8 B w w' → IntsAt w' a n cap g) :
    Calls Tryd.prog 66 #[v, .slice a n cap] w fun e w' => ∃ v', e = .returned v' ∧ ByteRow B w' v' (l ++ numsL f n) ∧ F8 B w w' := by
  obtain ⟨i5, hi5, hz50, hz51, hz52⟩ := info_parts info5
  have HI5 := Hid.mk (And.intro hi5 (And.intro hz50 (And.intro hz51 hz52)))
  have H := Hid.mk h
  have HI := Hid.mk hi
  have HG := Hid.mk hg
  have HN := Hid.mk hn
  have hlen : ∀ k, k ≤ n → (numsL f k).length ≤ 9 * k := fun k hk => numsL_len f k fun j hj => hn j (by omega)
  have HL := Hid.mk hlen
  clear hi5 hz50 hz51 hz52 h hi hg hn hlen
  go_enter Tryd.func66, Tryd.ntmps66
  go_wp2_with fail
  go_loopw [0, 9] (fun vv iv wr => ∃ k : Nat, iv = .int .i64 k ∧ k ≤ n ∧ ByteRow B wr vv (l ++ numsL f k) ∧ F8 B w wr) (fun _ iv _ => n - (intOf iv).toNat)
  case atStart => exact ⟨0, rfl, by omega, by simpa [numsL] using H.out, F8.refl _ _⟩
  case round =>
    obtain ⟨k, rfl, hk, hrow, hf⟩ := hrel
    rename World => w1
    have HR := Hid.mk hrow
    have HF := Hid.mk hf
    have hB1 : B ≤ w1.heap.size := Nat.le_trans hB hf.bl.size
    by_cases h1 : k < n
    · have hIA := HI.out w1 hf
      have hgk := HG.out k h1
      have hnk := HN.out k h1
      have hll := HL.out k hk
      rcases hIA with h0 | ⟨ab, ao, rfl, hc1, hc2, hab, hcell⟩
      · omega
      · have hck := hcell k h1
        rw [hgk] at hck
        clear hrow hf hcell hgk
        go_wp2_with fail
        go_loopw [0, 6] (fun vv iv wr => ∃ (m : Nat) (c : List Int), iv = .int .i64 m ∧ m ≤ f k ∧ c ++ numL m = (l ++ numsL f k) ++ numL (f k) ∧ ByteRow B wr vv c ∧ F8 B w1 wr) (fun _ iv _ => (intOf iv).toNat)
        case atStart => exact ⟨f k, l ++ numsL f k, rfl, by omega, rfl, HR.out, F8.refl _ _⟩
        case round =>
          obtain ⟨m, c, rfl, hm, hc, hrow, hf⟩ := hrel
          rename World => w2
          have HC := Hid.mk hc
          have HR2 := Hid.mk hrow
          have HF2 := Hid.mk hf
          have hB2 : B ≤ w2.heap.size := Nat.le_trans hB1 hf.bl.size
          have hcl : c.length ≤ 2199023255552 := by
            have := congrArg List.length hc
            have h2 := numL_len9 hnk
            simp only [List.length_append] at this
            omega
          obtain ⟨va, vc, rfl⟩ := own_slice hrow
          clear hc hrow hf
          by_cases h2 : m < 128
          · go_wp2_with (at_builtin; refine wpList_append_own _ rfl (.tmp 23) (.tmp 26) 28 rfl B 5 i5 (.int .u8 0) 1 1 Tryd.underlying28 HI5.out.1 HI5.out.2.1 HI5.out.2.2.1 HI5.out.2.2.2 rfl (by decide) (.slice va c.length vc) c.length (bv c) rfl (HR2.out.below ((Below.refl _ _).alloc (Nat.le_refl _) _)) ⟨w2.heap.size, 0, none⟩ 1 1 [.int .u8 m] rfl rfl (news1 _ _ _ _ rfl) (one_byte _) (by unfold maxLen; omega) (by omega) (by simp; omega) ?_; intro v3 w3 hown2 hgrow2 hiff; clear hiff; obtain ⟨xa, xc, rfl⟩ := own_slice hown2; obtain ⟨r1, r2⟩ := byte_step HR2.out hB2 hown2 hgrow2; clear hown2 hgrow2)
            go_roundw
            case rel =>
              refine ⟨k + 1, by go_num, by omega, ?_, (HF.out.trans HF2.out).trans r2⟩
              have := HC.out
              rw [numL_small h2] at this
              simp only [numsL]
              rw [← List.append_assoc, ← this]
              exact r1
            case measure => simp [intOf]; omega
          · have ho := Hid.mk (or_128 m)
            go_wp2_with (at_builtin; refine wpList_append_own _ rfl (.tmp 15) (.tmp 19) 28 rfl B 5 i5 (.int .u8 0) 1 1 Tryd.underlying28 HI5.out.1 HI5.out.2.1 HI5.out.2.2.1 HI5.out.2.2.2 rfl (by decide) (.slice va c.length vc) c.length (bv c) rfl (HR2.out.below ((Below.refl _ _).alloc (Nat.le_refl _) _)) ⟨w2.heap.size, 0, none⟩ 1 1 [.int .u8 (bits .or .u8 ((m : Int) % 256) 128)] rfl rfl (news1 _ _ _ _ rfl) (one_byte _) (by unfold maxLen; omega) (by omega) (by simp; omega) ?_; intro v3 w3 hown2 hgrow2 hiff; clear hiff; obtain ⟨xa, xc, rfl⟩ := own_slice hown2; obtain ⟨r1, r2⟩ := byte_step HR2.out hB2 hown2 hgrow2; clear hown2 hgrow2; rw [ho.out] at r1)
            go_roundw
            case rel =>
              refine ⟨m / 128, c ++ [(m : Int) % 128 + 128], by go_num, by omega, ?_, r1, HF2.out.trans r2⟩
              have := HC.out
              rw [numL_big h2] at this
              rw [← this, List.append_assoc]
              rfl
            case measure => simp [intOf]; omega
    · obtain rfl : k = n := by omega
      clear hrow hf
      go_wp2_with fail
      go_ret
      exact ⟨_, rfl, HR.out, HF.out⟩
end Go.Proofs.YtgdcjccbdmcebaaDoor
