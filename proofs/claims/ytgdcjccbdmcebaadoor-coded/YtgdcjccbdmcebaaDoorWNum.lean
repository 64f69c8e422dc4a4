/- A number as bytes: the document's function and the program's. -/
import Derived.Test.YtgdcjccbdmcebaaDoorWCopy
namespace Go.Proofs.YtgdcjccbdmcebaaDoor
section
open Go.RowKit

/-- The bytes of a number: seven bits at a time, the lowest first. -/
def numL (n : Nat) : List Int :=
  if h : n < 128 then [(n : Int)] else ((n % 128 + 128 : Nat) : Int) :: numL (n / 128)
  termination_by n
  decreasing_by omega
theorem numL_small {n : Nat} (h : n < 128) : numL n = [(n : Int)] := by rw [numL, dif_pos h]
theorem numL_big {n : Nat} (h : ¬ n < 128) : numL n = ((n % 128 + 128 : Nat) : Int) :: numL (n / 128) := by rw [numL, dif_neg h]
theorem numL_pos (n : Nat) : 1 ≤ (numL n).length := by
  by_cases h : n < 128
  · rw [numL_small h]; simp
  · rw [numL_big h]; simp
theorem numL_len : ∀ (k n : Nat), n < 128 ^ (k + 1) → (numL n).length ≤ k + 1 := by
  intro k
  induction k with
  | zero => intro n h; rw [numL_small (by simpa using h)]; simp
  | succ k ih =>
    intro n h
    by_cases hn : n < 128
    · rw [numL_small hn]; simp
    · rw [numL_big hn, List.length_cons]
      have := ih (n / 128) (by rw [Nat.pow_succ] at h; omega)
      omega
theorem numL_len9 {n : Nat} (h : n ≤ 9223372036854775807) : (numL n).length ≤ 9 := numL_len 8 n (by omega)
theorem numL_len3 {n : Nat} (h : n ≤ 1048576) : (numL n).length ≤ 3 := numL_len 2 n (by omega)

/-- Bytes as values. -/
def bv (l : List Int) : List Value := l.map fun x => .int .u8 x
theorem bv_append (a b : List Int) : bv (a ++ b) = bv a ++ bv b := by simp [bv]
theorem bv_length (a : List Int) : (bv a).length = a.length := by simp [bv]
theorem bv_one (a : List Int) : ∀ u ∈ bv a, u.oneCell' = true := by
  intro u hu
  simp only [bv, List.mem_map] at hu
  obtain ⟨x, _, rfl⟩ := hu
  rfl

/-- v is a row of the call's own, of these bytes. -/
def ByteRow (B : Nat) (w : World) (v : Value) (l : List Int) : Prop := w.ownsRow B 5 1 v l.length (bv l)
theorem ByteRow.nil (B : Nat) (w : World) : ByteRow B w (.slice none 0 0) [] := World.ownsRow_nil _ _ _ _
theorem ByteRow.below {B : Nat} {w w' : World} {v : Value} {l : List Int} (h : ByteRow B w v l) (hb : Below w.heap.size w w') : ByteRow B w' v l := own_below h hb

/-- What stays when bytes are appended: all below B, and every block that is no row of bytes. -/
structure F8 (B : Nat) (w w' : World) : Prop where
  bl : Below B w w'
  keep : ∀ k, k < w.heap.size → (∀ cs fz, w.heap[k]? ≠ some (.cells cs 5 fz)) → w'.heap[k]? = w.heap[k]?
theorem F8.refl (B : Nat) (w : World) : F8 B w w := ⟨Below.refl _ _, fun _ _ _ => rfl⟩
theorem F8.trans {B : Nat} {a b c : World} (h : F8 B a b) (h2 : F8 B b c) : F8 B a c :=
  ⟨h.bl.trans h2.bl, fun k hk hn => by
    have e := h.keep k hk hn
    rw [h2.keep k (Nat.lt_of_lt_of_le hk h.bl.size) (by rw [e]; exact hn), e]⟩
theorem F8.mono {B B' : Nat} {w w' : World} (h : F8 B w w') (hB : B' ≤ B) : F8 B' w w' := ⟨h.bl.mono hB, h.keep⟩
theorem F8.of_below {B : Nat} {w w' : World} (h : Below w.heap.size w w') (hB : B ≤ w.heap.size) : F8 B w w' := ⟨h.mono hB, fun k hk _ => h.block k hk⟩
theorem F8.alloc {B : Nat} {a w : World} (h : F8 B a w) (hB : B ≤ w.heap.size) (o : Obj) : F8 B a (w.alloc o) :=
  h.trans (F8.of_below ((Below.refl _ _).alloc (Nat.le_refl _) _) hB)
theorem F8.grown {B : Nat} {w w' : World} {v : Value} {l : List Int} (h : ByteRow B w v l) (hg : w.grownBy w' v.ownBlock) (hB : B ≤ w.heap.size) : F8 B w w' := by
  refine ⟨(Below.refl _ _).grown hg hB fun k hk => (h.lt k hk).1, fun k hk hn => hg.block k hk fun e => ?_⟩
  rcases h.2 with ⟨rfl, _⟩ | ⟨g, cap, cur, rfl, _, hh, _⟩
  · simp [Value.ownBlock] at e
  · simp only [Value.ownBlock, Option.some.injEq] at e
    subst e
    exact hn _ _ hh
/-- A block that is no row of bytes stays. -/
theorem F8.block {B : Nat} {w w' : World} (h : F8 B w w') {k : Nat} {cs : Array Value} {t : TypeId} {fz : Nat × Nat} (hk : w.heap[k]? = some (.cells cs t fz)) (ht : t ≠ 5) : w'.heap[k]? = some (.cells cs t fz) := by
  obtain ⟨hlt, _⟩ := Array.getElem?_eq_some_iff.1 hk
  rw [h.keep k hlt fun cs' fz' e => ?_, hk]
  rw [hk] at e
  simp only [Option.some.injEq, Obj.cells.injEq] at e
  exact ht e.2.1
/-- A row whose elements are no bytes stays. -/
theorem own_f8 {w w' : World} {B B' : Nat} {e : TypeId} {size n : Nat} {v : Value} {xs : List Value} (h : w.ownsRow B e size v n xs) (hb : F8 B' w w') (he : e ≠ 5) : w'.ownsRow B e size v n xs := by
  obtain ⟨h1, h2⟩ := h
  refine ⟨h1, ?_⟩
  rcases h2 with h2 | ⟨g, cap, cur, rfl, hg, hh, hr⟩
  · exact Or.inl h2
  · exact Or.inr ⟨g, cap, cur, rfl, hg, hb.block hh he, hr⟩

theorem info5 : (Tryd.prog.info? 5).map (fun i => (i.zero, i.size, i.bytes)) = some (some (.int .u8 0), 1, 1) := by kernel_rfl
theorem news1 (W : World) (N : Nat) (x : Value) (t : TypeId) (hN : N = W.heap.size) (j : Nat) (u : Value) (h : [x][j]? = some u) : (W.alloc (.cells #[x] t)).cell? ((⟨N, 0, none⟩ : Addr).add j) = some u := by
  subst hN
  cases j with
  | zero => simp at h; subst h; simp [Addr.add]
  | succ j => simp at h
theorem one_byte (x : Int) : ∀ u ∈ [Value.int .u8 x], u.oneCell' = true := by intro u hu; simp only [List.mem_singleton] at hu; subst hu; rfl

set_option maxRecDepth 1000000 in
theorem or128 : ∀ x : Fin 256, bits .or .u8 (x.val : Int) 128 = (x.val : Int) % 128 + 128 := by decide
theorem or_128 (m : Nat) : bits .or .u8 ((m : Int) % 256) 128 = (m : Int) % 128 + 128 := by
  have h := or128 ⟨m % 256, by omega⟩
  have e : ((m % 256 : Nat) : Int) = (m : Int) % 256 := by omega
  simp only [e] at h
  rw [h]
  omega

/-- Behind the append of one byte. -/
theorem byte_step {B : Nat} {w w2 : World} {v v' : Value} {l : List Int} {x : Int} {ob : Obj} (hl : ByteRow B w v l) (hB : B ≤ w.heap.size)
    (hown : w2.ownsRow B 5 1 v' (l.length + 1) (bv l ++ [.int .u8 x])) (hg : (w.alloc ob).grownBy w2 v.ownBlock) :
    ByteRow B w2 v' (l ++ [x]) ∧ F8 B w w2 := by
  refine ⟨?_, ((F8.refl B w).alloc hB ob).trans (F8.grown (hl.below ((Below.refl _ _).alloc (Nat.le_refl _) _)) hg (by simp; omega))⟩
  unfold ByteRow
  rw [bv_append, List.length_append]
  exact hown
end
section
open Go.RowKit
set_option maxRecDepth 100000

set_option maxHeartbeats 1000000 in
theorem refnumber_any (B : Nat) (v : Value) (l : List Int) (n : Nat) (w : World) (hn : n ≤ 9223372036854775807) (hl : l.length ≤ 1099511627776) (hB : B ≤ w.heap.size) (h : ByteRow B w v l) :
    Calls Tryd.prog 52 #[v, .int .i64 n] w fun e w' => ∃ v', e = .returned v' ∧ ByteRow B w' v' (l ++ numL n) ∧ F8 B w w' := by
  obtain ⟨i5, hi5, hz50, hz51, hz52⟩ := info_parts info5
  have HI5 := Hid.mk (And.intro hi5 (And.intro hz50 (And.intro hz51 hz52)))
  have H := Hid.mk h
  clear hi5 hz50 hz51 hz52 h
  go_enter Tryd.func52, Tryd.ntmps52
  go_wp2_with fail
  go_loopw [0, 1] (fun vv iv wr => ∃ (m : Nat) (k : List Int), iv = .int .i64 m ∧ m ≤ n ∧ k ++ numL m = l ++ numL n ∧ ByteRow B wr vv k ∧ F8 B w wr) (fun _ iv _ => (intOf iv).toNat)
  case atStart => exact ⟨n, l, rfl, by omega, rfl, H.out, F8.refl _ _⟩
  case round =>
    obtain ⟨m, k, rfl, hm, hk, hrow, hf⟩ := hrel
    rename World => w1
    have HK := Hid.mk hk
    have HR := Hid.mk hrow
    have HF := Hid.mk hf
    have hB1 : B ≤ w1.heap.size := Nat.le_trans hB hf.bl.size
    have hkl : k.length ≤ 1099511627776 + 9 := by
      have := congrArg List.length hk
      have h2 := numL_len9 hn
      simp only [List.length_append] at this
      omega
    obtain ⟨va, vc, rfl⟩ := own_slice hrow
    clear hk hrow hf
    by_cases h1 : m < 128
    · go_wp2_with (at_builtin; refine wpList_append_own _ rfl (.tmp 16) (.tmp 19) 28 rfl B 5 i5 (.int .u8 0) 1 1 Tryd.underlying28 HI5.out.1 HI5.out.2.1 HI5.out.2.2.1 HI5.out.2.2.2 rfl (by decide) (.slice va k.length vc) k.length (bv k) rfl (HR.out.below ((Below.refl _ _).alloc (Nat.le_refl _) _)) ⟨w1.heap.size, 0, none⟩ 1 1 [.int .u8 m] rfl rfl (news1 _ _ _ _ rfl) (one_byte _) (by unfold maxLen; omega) (by omega) (by simp; omega) ?_; intro v2 w3 hown2 hgrow2 hiff; clear hiff; obtain ⟨r1, r2⟩ := byte_step HR.out hB1 hown2 hgrow2; clear hown2 hgrow2)
      go_ret
      refine ⟨v2, rfl, ?_, HF.out.trans r2⟩
      have := HK.out
      rw [numL_small h1] at this
      rw [← this]
      exact r1
    · go_wp2_with (at_builtin; refine wpList_append_own _ rfl (.tmp 7) (.tmp 12) 28 rfl B 5 i5 (.int .u8 0) 1 1 Tryd.underlying28 HI5.out.1 HI5.out.2.1 HI5.out.2.2.1 HI5.out.2.2.2 rfl (by decide) (.slice va k.length vc) k.length (bv k) rfl (HR.out.below ((Below.refl _ _).alloc (Nat.le_refl _) _)) ⟨w1.heap.size, 0, none⟩ 1 1 [.int .u8 ((m : Int) % 128 + 128)] rfl rfl (news1 _ _ _ _ rfl) (one_byte _) (by unfold maxLen; omega) (by omega) (by simp; omega) ?_; intro v2 w3 hown2 hgrow2 hiff; clear hiff; obtain ⟨xa, xc, rfl⟩ := own_slice hown2; obtain ⟨r1, r2⟩ := byte_step HR.out hB1 hown2 hgrow2; clear hown2 hgrow2)
      go_roundw
      case rel =>
        refine ⟨m / 128, k ++ [(m : Int) % 128 + 128], by go_num, by omega, ?_, r1, HF.out.trans r2⟩
        have := HK.out
        rw [numL_big h1] at this
        rw [← this, List.append_assoc]
        rfl
      case measure => first | (simp [intOf]; done) | (simp [intOf]; omega)

/-- Numbers, one behind the other. -/
def numsL (f : Nat → Nat) : Nat → List Int
  | 0 => []
  | k + 1 => numsL f k ++ numL (f k)
theorem numsL_len (f : Nat → Nat) (n : Nat) (h : ∀ k, k < n → f k ≤ 9223372036854775807) : (numsL f n).length ≤ 9 * n := by
  induction n with
  | zero => simp [numsL]
  | succ k ih =>
    have h1 := ih fun j hj => h j (by omega)
    have h2 := numL_len9 (h k (by omega))
    simp only [numsL, List.length_append]
    omega

set_option maxHeartbeats 2000000 in
theorem append_any (B : Nat) (v : Value) (l : List Int) (f : Nat → Nat) (g : Nat → Int) (a : Option Addr) (n cap : Nat) (w : World) (hg : ∀ k, k < n → g k = (f k : Int)) (hn : ∀ k, k < n → f k ≤ 9223372036854775807) (hn2 : n ≤ 68719476736) (hl : l.length ≤ 1099511627776) (hB : B ≤ w.heap.size) (h : ByteRow B w v l)
    (hi : ∀ w', F8 B w w' → IntsAt w' a n cap g) :
    Calls Tryd.prog 66 #[v, .slice a n cap] w fun e w' => ∃ v', e = .returned v' ∧ ByteRow B w' v' (l ++ numsL f n) ∧ F8 B w w' := by
  obtain ⟨i5, hi5, hz50, hz51, hz52⟩ := info_parts info5
  have HI5 := Hid.mk (And.intro hi5 (And.intro hz50 (And.intro hz51 hz52)))
  have H := Hid.mk h
  have HI := Hid.mk hi
  have HG := Hid.mk hg
  have HN := Hid.mk hn
  have hlen : ∀ k, k ≤ n → (numsL f k).length ≤ 9 * k := fun k hk => numsL_len f k fun j hj => hn j (by omega)
  have HL := Hid.mk hlen
  clear hi5 hz50 hz51 hz52 h hi hg hn hlen
  go_enter Tryd.func66, Tryd.ntmps66
  go_wp2_with fail
  go_loopw [0, 9] (fun vv iv wr => ∃ k : Nat, iv = .int .i64 k ∧ k ≤ n ∧ ByteRow B wr vv (l ++ numsL f k) ∧ F8 B w wr) (fun _ iv _ => n - (intOf iv).toNat)
  case atStart => exact ⟨0, rfl, by omega, by simpa [numsL] using H.out, F8.refl _ _⟩
  case round =>
    obtain ⟨k, rfl, hk, hrow, hf⟩ := hrel
    rename World => w1
    have HR := Hid.mk hrow
    have HF := Hid.mk hf
    have hB1 : B ≤ w1.heap.size := Nat.le_trans hB hf.bl.size
    by_cases h1 : k < n
    · have hIA := HI.out w1 hf
      have hgk := HG.out k h1
      have hnk := HN.out k h1
      have hll := HL.out k hk
      rcases hIA with h0 | ⟨ab, ao, rfl, hc1, hc2, hab, hcell⟩
      · omega
      · have hck := hcell k h1
        rw [hgk] at hck
        clear hrow hf hcell hgk
        go_wp2_with fail
        go_loopw [0, 6] (fun vv iv wr => ∃ (m : Nat) (c : List Int), iv = .int .i64 m ∧ m ≤ f k ∧ c ++ numL m = (l ++ numsL f k) ++ numL (f k) ∧ ByteRow B wr vv c ∧ F8 B w1 wr) (fun _ iv _ => (intOf iv).toNat)
        case atStart => exact ⟨f k, l ++ numsL f k, rfl, by omega, rfl, HR.out, F8.refl _ _⟩
        case round =>
          obtain ⟨m, c, rfl, hm, hc, hrow, hf⟩ := hrel
          rename World => w2
          have HC := Hid.mk hc
          have HR2 := Hid.mk hrow
          have HF2 := Hid.mk hf
          have hB2 : B ≤ w2.heap.size := Nat.le_trans hB1 hf.bl.size
          have hcl : c.length ≤ 2199023255552 := by
            have := congrArg List.length hc
            have h2 := numL_len9 hnk
            simp only [List.length_append] at this
            omega
          obtain ⟨va, vc, rfl⟩ := own_slice hrow
          clear hc hrow hf
          by_cases h2 : m < 128
          · go_wp2_with (at_builtin; refine wpList_append_own _ rfl (.tmp 23) (.tmp 26) 28 rfl B 5 i5 (.int .u8 0) 1 1 Tryd.underlying28 HI5.out.1 HI5.out.2.1 HI5.out.2.2.1 HI5.out.2.2.2 rfl (by decide) (.slice va c.length vc) c.length (bv c) rfl (HR2.out.below ((Below.refl _ _).alloc (Nat.le_refl _) _)) ⟨w2.heap.size, 0, none⟩ 1 1 [.int .u8 m] rfl rfl (news1 _ _ _ _ rfl) (one_byte _) (by unfold maxLen; omega) (by omega) (by simp; omega) ?_; intro v3 w3 hown2 hgrow2 hiff; clear hiff; obtain ⟨xa, xc, rfl⟩ := own_slice hown2; obtain ⟨r1, r2⟩ := byte_step HR2.out hB2 hown2 hgrow2; clear hown2 hgrow2)
            go_roundw
            case rel =>
              refine ⟨k + 1, by go_num, by omega, ?_, (HF.out.trans HF2.out).trans r2⟩
              have := HC.out
              rw [numL_small h2] at this
              simp only [numsL]
              rw [← List.append_assoc, ← this]
              exact r1
            case measure => simp [intOf]; omega
          · have ho := Hid.mk (or_128 m)
            go_wp2_with (at_builtin; refine wpList_append_own _ rfl (.tmp 15) (.tmp 19) 28 rfl B 5 i5 (.int .u8 0) 1 1 Tryd.underlying28 HI5.out.1 HI5.out.2.1 HI5.out.2.2.1 HI5.out.2.2.2 rfl (by decide) (.slice va c.length vc) c.length (bv c) rfl (HR2.out.below ((Below.refl _ _).alloc (Nat.le_refl _) _)) ⟨w2.heap.size, 0, none⟩ 1 1 [.int .u8 (bits .or .u8 ((m : Int) % 256) 128)] rfl rfl (news1 _ _ _ _ rfl) (one_byte _) (by unfold maxLen; omega) (by omega) (by simp; omega) ?_; intro v3 w3 hown2 hgrow2 hiff; clear hiff; obtain ⟨xa, xc, rfl⟩ := own_slice hown2; obtain ⟨r1, r2⟩ := byte_step HR2.out hB2 hown2 hgrow2; clear hown2 hgrow2; rw [ho.out] at r1)
            go_roundw
            case rel =>
              refine ⟨m / 128, c ++ [(m : Int) % 128 + 128], by go_num, by omega, ?_, r1, HF2.out.trans r2⟩
              have := HC.out
              rw [numL_big h2] at this
              rw [← this, List.append_assoc]
              rfl
            case measure => simp [intOf]; omega
    · obtain rfl : k = n := by omega
      clear hrow hf
      go_wp2_with fail
      go_ret
      exact ⟨_, rfl, HR.out, HF.out⟩
end
end Go.Proofs.YtgdcjccbdmcebaaDoor
