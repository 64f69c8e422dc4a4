/- The program's wheel: Next. -/
import Derived.Test.YtgdcjccbdmcebaaDoorHW7
namespace Go.Proofs.YtgdcjccbdmcebaaDoor
open Go.RowKit
open Go.Maps (keyOf_int_mk)
set_option maxRecDepth 100000
attribute [local go_sem ↓] Go.wp_at_zero Go.wp_at_succ

theorem ctzFrom_bits : ∀ (f x : Nat), 0 < x → x < 2 ^ f → Lib.ctzFrom f x < f ∧ x.testBit (Lib.ctzFrom f x) = true ∧ ∀ j, j < Lib.ctzFrom f x → x.testBit j = false
  | 0, x, h0, h => by simp at h; omega
  | f + 1, x, h0, h => by
    unfold Lib.ctzFrom
    by_cases e : x % 2 = 1
    · rw [if_pos e]
      exact ⟨by omega, by simp [Nat.testBit_zero, e], fun j hj => by omega⟩
    · rw [if_neg e]
      have hp : 2 ^ (f + 1) = 2 * 2 ^ f := by rw [Nat.pow_succ]; omega
      obtain ⟨h1, h2, h3⟩ := ctzFrom_bits f (x / 2) (by omega) (by omega)
      refine ⟨by omega, by rw [Nat.add_comm, Nat.testBit_succ]; exact h2, fun j hj => ?_⟩
      cases j with
      | zero => simp [Nat.testBit_zero, e]
      | succ j => rw [Nat.testBit_succ]; exact h3 j (by omega)
theorem ctz_bits (x : Nat) (h0 : x ≠ 0) (h : x < 18446744073709551616) : Lib.ctz 64 x < 64 ∧ x.testBit (Lib.ctz 64 x) = true ∧ ∀ j, j < Lib.ctz 64 x → x.testBit j = false := by
  unfold Lib.ctz
  rw [if_neg h0]
  exact ctzFrom_bits 64 x (by omega) (by omega)
/-- The first word that isn't 0 tells the first place that is filled. -/
theorem fst_of {wd : Nat → Nat} {n L s : Nat} {l : List Tm} (hw : Words wd (placed n l)) (h : FstW wd L s true) : L < 11 ∧ s < 64 ∧ Fst n l (L * 64 + s) := by
  rcases h with ⟨h, _⟩ | ⟨_, hL, hz, hne, rfl⟩
  · cases h
  · obtain ⟨h1, h2⟩ := hw L hL
    obtain ⟨c1, c2, c3⟩ := ctz_bits (wd L) hne h1
    refine ⟨hL, c1, fun j hj => ?_, (h2 _ c1).1 c2⟩
    by_cases e : j / 64 = L
    · have hb := (h2 (j % 64) (by omega))
      rw [show L * 64 + j % 64 = j by omega] at hb
      have := c3 (j % 64) (by omega)
      rw [this] at hb
      by_cases e2 : placed n l j = []
      · exact e2
      · exact absurd (hb.2 e2) (by simp)
    · have hb := ((hw (j / 64) (by omega)).2 (j % 64) (by omega))
      rw [show j / 64 * 64 + j % 64 = j by omega, hz (j / 64) (by omega)] at hb
      by_cases e2 : placed n l j = []
      · exact e2
      · exact absurd (hb.2 e2) (by simp)
theorem none_of {wd : Nat → Nat} {n L s : Nat} {l : List Tm} (hw : Words wd (placed n l)) (hL : Later n l) (hn : n ≤ 4611686018427387904) (h : FstW wd L s false) : l = [] := by
  rcases h with ⟨_, _, _, hz⟩ | ⟨h, _⟩
  · refine no_fst hL hn (fun j hj => ?_)
    have hb := ((hw (j / 64) (by omega)).2 (j % 64) (by omega))
    rw [show j / 64 * 64 + j % 64 = j by omega, hz (j / 64) (by omega)] at hb
    by_cases e2 : placed n l j = []
    · exact e2
    · exact absurd (hb.2 e2) (by simp)
  · cases h
/-- What stands in the first place is due ahead of all else. -/
theorem fst_min {n k a b : Nat} (hb : n ≤ b) (ha : pl n a = k) (hk : k < pl n b) : a < b := by
  have h1 := cut_of_pl ha
  have hd : k / 64 ≤ lev n b := by rw [← pl_div]; omega
  have h2 : a / 2 ^ (6 * (k / 64)) < b / 2 ^ (6 * (k / 64)) := by
    rw [h1, cut_eq b (k / 64)]
    by_cases e : lev n b = k / 64
    · have h3 := pl_mod n b
      rw [(lev_le n b (k / 64)).1 (by omega), ← e, ← h3, e]
      have := pl_div n b
      omega
    · have h3 := not_lev (n := n) (t := b) (L := k / 64) (by omega)
      have h4 : n / 2 ^ (6 * (k / 64 + 1)) ≤ b / 2 ^ (6 * (k / 64 + 1)) := Nat.div_le_div_right hb
      have := Nat.mod_lt k (show 0 < 64 by decide)
      omega
  exact Nat.lt_of_div_lt_div h2
def memb (n : Nat) (l : List Tm) (k : Nat) : List Tm := l.filter (fun t => pl n t.tm.toNat == k)
theorem placed_memb (n : Nat) (l : List Tm) (k : Nat) : placed n l k = (memb n l k).map (·.id) := rfl
theorem memb_at {n : Nat} {l : List Tm} {k i : Nat} (hi : i < (memb n l k).length) : ∃ j, j < l.length ∧ l.getD j .z = (memb n l k).getD i .z ∧ pl n ((memb n l k).getD i .z).tm.toNat = k := by
  have h := mem_getD hi
  obtain ⟨h1, h2⟩ := List.mem_filter.1 h
  obtain ⟨j, hj, e⟩ := mem_at h1
  exact ⟨j, hj, e, by simpa using h2⟩
/-- The least time of the first place is the least of all. -/
theorem next_of {n : Nat} {l : List Tm} {k : Nat} {t : Int} (hL : Later n l) (hf : Fst n l k) (h1 : ∀ i, i < (memb n l k).length → t ≤ ((memb n l k).getD i .z).tm) (h2 : t = 4611686018427387904 ∨ ∃ i, i < (memb n l k).length ∧ t = ((memb n l k).getD i .z).tm) : NxtIs l t true := by
  have hne : 0 < (memb n l k).length := by
    rcases Nat.eq_zero_or_pos (memb n l k).length with e | e
    · exact absurd (by rw [placed_memb, List.eq_nil_of_length_eq_zero e]; rfl) hf.2
    · exact e
  have hat : ∃ i, i < (memb n l k).length ∧ t = ((memb n l k).getD i .z).tm := by
    rcases h2 with h2 | h2
    · obtain ⟨j, hj, e, _⟩ := memb_at hne
      have := (hL _ (mem_getD hj)).2
      rw [e] at this
      have := h1 0 hne
      exact ⟨0, hne, by omega⟩
    · exact h2
  obtain ⟨i, hi, hti⟩ := hat
  obtain ⟨j, hj, e, hp⟩ := memb_at hi
  cases hb : bestN l l.length with
  | none => have := bestN_none hb; omega
  | some b =>
    obtain ⟨b1, b2, _⟩ := bestN_some hb
    refine Or.inr ⟨b, hb, ?_, rfl⟩
    have c1 := b2 j hj
    rw [e, ← hti] at c1
    have c2 := fst_le hf (mem_getD b1)
    have c3 := hL _ (mem_getD b1)
    have c4 := hL _ (mem_getD hj)
    rw [e] at c4
    by_cases e2 : pl n (l.getD b .z).tm.toNat = k
    · have hm : l.getD b .z ∈ memb n l k := List.mem_filter.2 ⟨mem_getD b1, by simpa using e2⟩
      obtain ⟨i2, hi2, e3⟩ := mem_at hm
      have := h1 i2 hi2
      rw [e3] at this
      omega
    · have := fst_min (n := n) (a := ((memb n l k).getD i .z).tm.toNat) (b := (l.getD b .z).tm.toNat) (by omega) hp (by omega)
      omega

/-- The least of the first i times of a place. -/
def MinR (n : Nat) (l : List Tm) (k i : Nat) (t : Int) : Prop := (∀ j, j < i → t ≤ ((memb n l k).getD j .z).tm) ∧ (t = 4611686018427387904 ∨ ∃ j, j < i ∧ t = ((memb n l k).getD j .z).tm)
theorem MinR.next {n : Nat} {l : List Tm} {k i : Nat} {t : Int} (h : MinR n l k i t) : MinR n l k (i + 1) (min t ((memb n l k).getD i .z).tm) := by
  obtain ⟨h1, h2⟩ := h
  generalize hx : ((memb n l k).getD i .z).tm = x
  by_cases e : t ≤ x
  · rw [Int.min_eq_left e]
    refine ⟨fun j hj => ?_, h2.imp (fun e => e) (fun ⟨j, hj, e⟩ => ⟨j, by omega, e⟩)⟩
    by_cases e2 : j = i
    · subst e2; rw [hx]; exact e
    · exact h1 j (by omega)
  · rw [Int.min_eq_right (by omega)]
    refine ⟨fun j hj => ?_, Or.inr ⟨i, by omega, hx.symm⟩⟩
    by_cases e2 : j = i
    · subst e2; rw [hx]; exact Int.le_refl _
    · have := h1 j (by omega); omega

set_option maxHeartbeats 8000000 in
theorem wnext_any (w : World) (P B now : Nat) (l : List Tm) (h : WhAt w P B now l) (hT : TabIn w) :
    Calls Tryd.prog 48 #[.pointer (some ⟨P, 0, none⟩)] w fun e w' => ∃ t ok, e = .returned (.tuple #[.int .u64 t, .bool ok]) ∧ NxtIs l t ok ∧ w' = w := by
  obtain ⟨⟨dm, rw_, wd, hp, hdue, hw⟩, hnow, hfew, hlat, hids, hap⟩ := h
  have HA := Hid.mk (And.intro hnow (And.intro hfew (And.intro hlat (And.intro hids (And.intro hap hw)))))
  have HP := Hid.mk hp
  have HDUE := Hid.mk hdue
  have c1 := hp.c1
  have hfst := first_any w P B now dm rw_ (placed now l) wd hp (fun j hj => (hw j hj).1) hT
  have HF := Hid.mk hfst
  clear hnow hfew hlat hids hap hw hp hdue hfst hT
  go_enter Tryd.func48, Tryd.ntmps48
  go_upto_region 2 with (go_at_call 61; refine HF.out.mono ?_; rintro e w1 ⟨L, s, ok, rfl, hfw, hw1⟩; rw [hw1])
  have HFW := Hid.mk hfw
  cases ok with
  | false =>
    have hl0 := Hid.mk (none_of HA.out.2.2.2.2.2 HA.out.2.2.1 HA.out.1 hfw)
    clear hfw
    go_wp2_with fail
    go_ret2
    exact ⟨0, false, rfl, Or.inl ⟨by rw [hl0.out]; rfl, rfl, rfl⟩, rfl⟩
  | true =>
    obtain ⟨hL11, hs64, hfs⟩ := fst_of HA.out.2.2.2.2.2 hfw
    obtain ⟨k, hk⟩ : ∃ k, k = L * 64 + s := ⟨_, rfl⟩
    rw [← hk] at hfs
    have hk704 : k < 704 := by omega
    have HS := Hid.mk hfs
    have HKK := Hid.mk hk
    obtain ⟨n, hn⟩ : ∃ n, n = (memb now l k).length := ⟨_, rfl⟩
    have hn2 : (placed now l k).length = n := by rw [placed_memb, hn]; simp
    obtain ⟨a, c, hv⟩ := own_slice (HP.out.own k hk704)
    rw [hn2] at hv
    have m1 := HP.out.at_ (L := L) (s := s) hk.symm hk704
    rw [hv] at m1
    have hown := HP.out.own k hk704
    rw [hv, hn2] at hown
    have HO := Hid.mk hown
    have HN := Hid.mk hn
    have g1 : (L : Int) < 11 := by omega
    have g2 : (s : Int) < 64 := by omega
    have hn3 : n ≤ 200 := by
      have := placed_few now l k
      have := HA.out.2.1
      omega
    clear hfw hfs hk hn hn2 hv hown
    rcases HDUE.out with ⟨_, hl0⟩ | ⟨bm, D, rfl, hbm, hm, hD⟩
    · exfalso
      exact HS.out.2 (by rw [hl0]; rfl)
    have HM := Hid.mk (And.intro hm hD)
    clear hm hD
    go_wp2_with fail
    go_loopw [7, 27] (fun nv iv wr => ∃ (i : Nat) (t : Int), iv = .int .i64 i ∧ nv = .int .u64 t ∧ i ≤ n ∧ MinR now l k i t ∧ wr = w) (fun _ iv _ => n - (intOf iv).toNat)
    case atStart => exact ⟨0, _, rfl, rfl, by omega, ⟨fun j hj => by omega, Or.inl rfl⟩, rfl⟩
    case round =>
      obtain ⟨i, t, rfl, rfl, hi, ht, rfl⟩ := hrel
      have HTT := Hid.mk ht
      clear ht
      by_cases h1 : i < n
      · obtain ⟨j, hj, hje, hjp⟩ := memb_at (n := now) (l := l) (k := k) (i := i) (by have := HN.out; omega)
        obtain ⟨id, hid⟩ : ∃ x, x = ((memb now l k).getD i .z).id := ⟨_, rfl⟩
        obtain ⟨tm, htm⟩ : ∃ x, x = ((memb now l k).getD i .z).tm := ⟨_, rfl⟩
        have hcell : ∃ g, a = some ⟨g, 0, none⟩ ∧ wr.cell? ⟨g, i, none⟩ = some (.int .i64 id) := by
          have ho := HO.out
          rcases ho.2 with ⟨_, h2⟩ | ⟨g, cap, cur, h2, _⟩
          · omega
          · obtain ⟨e1, _, e2⟩ : a = some ⟨g, 0, none⟩ ∧ n = n ∧ c = cap := by simpa using h2
            subst e1
            refine ⟨g, rfl, ?_⟩
            have := ho.cellAt i (by omega)
            rw [this, placed_memb, hid]
            simp [idsL, ← HN.out, h1]
        obtain ⟨g, rfl, x0⟩ := hcell
        obtain ⟨c2, hrun, hat2, _⟩ := World.ownsMap.lookup_int (q := .u64) HM.out.1 lawI Tryd.underlying77 Tryd.underlying34 (zeroU wr) (keyOf_int_mk Tryd.underlying3 (a := id) (by rw [hid, ← hje]; exact HA.out.2.2.2.1 j hj))
        obtain rfl : c2 = tm := by
          have h3 := HM.out.2.tm j hj
          rw [hje, ← hid, ← htm] at h3
          have := hat2.symm.trans h3
          simpa using this
        have HTM := Hid.mk htm
        clear hat2 hje hjp hid htm hj
        go_wp2_with fail
        go_roundw
        case rel => exact ⟨i + 1, _, by go_num, rfl, by omega, by rw [HTM.out]; exact HTT.out.next, by trivial⟩
        case measure => simp [intOf]; omega
      · obtain rfl : i = n := by omega
        go_wp2_with fail
        go_ret2
        refine ⟨t, true, rfl, next_of HA.out.2.2.1 HS.out (fun j hj => HTT.out.1 j (by rw [HN.out]; exact hj)) (HTT.out.2.imp (fun e => e) (fun ⟨j, hj, e⟩ => ⟨j, by rw [← HN.out]; exact hj, e⟩)), rfl⟩
end Go.Proofs.YtgdcjccbdmcebaaDoor
