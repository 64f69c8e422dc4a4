/- The program's wheel: the words; spread. -/
import Derived.Test.YtgdcjccbdmcebaaDoorHW4
namespace Go.Proofs.YtgdcjccbdmcebaaDoor
open Go.RowKit
open Go.Maps (keyOf_int_mk)
set_option maxRecDepth 100000
attribute [local go_sem ↓] Go.wp_at_zero Go.wp_at_succ

/-- A bit of a word is set just where its list is not empty. -/
def Words (wd : Nat → Nat) (ls : Nat → List Int) : Prop := ∀ L, L < 11 → wd L < 18446744073709551616 ∧ ∀ s, s < 64 → ((wd L).testBit s = true ↔ ls (L * 64 + s) ≠ [])
theorem Words.set {wd : Nat → Nat} {ls : Nat → List Int} (h : Words wd ls) {L s y : Nat} {xs : List Int} (hs : s < 64) (hy : y < 18446744073709551616) (hb : ∀ j, j < 64 → j ≠ s → (y.testBit j = true ↔ (wd L).testBit j = true)) (hx : y.testBit s = true ↔ xs ≠ []) (hL : L < 11) : Words (upd wd L y) (upd ls (L * 64 + s) xs) := by
  intro M hM
  by_cases e : M = L
  · subst e
    rw [upd_same]
    refine ⟨hy, fun j hj => ?_⟩
    by_cases e2 : j = s
    · subst e2; rw [upd_same]; exact hx
    · rw [upd_other _ _ _ (by omega), hb j hj e2]; exact (h M hM).2 j hj
  · rw [upd_other _ _ _ e]
    refine ⟨(h M hM).1, fun j hj => ?_⟩
    rw [upd_other _ _ _ (by omega)]
    exact (h M hM).2 j hj
theorem Words.put {wd : Nat → Nat} {ls : Nat → List Int} (h : Words wd ls) {L s : Nat} (hL : L < 11) (hs : s < 64) (id : Int) : Words (upd wd L (wd L ||| 2 ^ s)) (upd ls (L * 64 + s) (ls (L * 64 + s) ++ [id])) := by
  refine h.set hs ?_ (fun j _ hne => ?_) ?_ hL
  · have h2 : 2 ^ s < 2 ^ 64 := Nat.pow_lt_pow_right (by decide) hs
    have := Nat.or_lt_two_pow (x := wd L) (y := 2 ^ s) (n := 64) (by have := (h L hL).1; omega) h2
    omega
  · rw [Nat.testBit_or, Nat.testBit_two_pow]; simp; omega
  · rw [Nat.testBit_or, Nat.testBit_two_pow]; simp
theorem Words.drop {wd : Nat → Nat} {ls : Nat → List Int} (h : Words wd ls) {L s y i : Nat} (hL : L < 11) (hs : s < 64) (hi : i < (ls (L * 64 + s)).length) (hy : DropW y (wd L) s (ls (L * 64 + s)).length) : Words (upd wd L y) (upd ls (L * 64 + s) ((ls (L * 64 + s)).take i ++ (ls (L * 64 + s)).drop (i + 1))) := by
  refine h.set hs hy.1 (fun j hj hne => ?_) ?_ hL
  · rw [hy.2 j hj]; exact ⟨fun e => e.1, fun e => ⟨e, fun e2 => hne e2.1.symm⟩⟩
  · rw [hy.2 s hs, (h L hL).2 s hs]
    have hlen : ((ls (L * 64 + s)).take i ++ (ls (L * 64 + s)).drop (i + 1)).length + 1 = (ls (L * 64 + s)).length := by rw [List.length_append, List.length_take, List.length_drop]; omega
    constructor
    · rintro ⟨_, e2⟩ e3
      rw [e3] at hlen
      exact e2 ⟨rfl, by simpa using hlen.symm⟩
    · intro e3
      refine ⟨fun e => by rw [e] at hi; simp at hi, fun e => e3 ?_⟩
      exact List.eq_nil_of_length_eq_zero (by omega)
theorem placed_take {n : Nat} {q : List Tm} {i : Nat} (hi : i < q.length) (j : Nat) : placed n (q.take (i + 1)) j = if pl n (q.getD i .z).tm.toNat = j then placed n (q.take i) j ++ [(q.getD i .z).id] else placed n (q.take i) j := by
  have : q.take (i + 1) = q.take i ++ [q.getD i .z] := by
    rw [List.take_add_one, List.getD_eq_getElem?_getD, List.getElem?_eq_getElem hi]; rfl
  rw [this, placed_snoc]

/-- Behind i of them: these stand in their places. -/
def SprR (w : World) (P B now bm : Nat) (D : DataW Unit) (ls : Nat → List Int) (k : Nat) (q : List Tm) (v0 : Value) (n i : Nat) (wr : World) : Prop :=
  ∃ (rw' : Nat → Value) (ls' : Nat → List Int) (wd' : Nat → Nat), PwAt wr P B now (.map (some bm)) rw' ls' wd' ∧ mapOf D wr bm (Maps.size D) ∧ PF w wr P B ∧ Words wd' ls' ∧ (∀ j, ls' j = (if j = k then [] else ls j) ++ placed now (q.take i) j) ∧ wr.ownsRow B 3 1 v0 n (idsL (ls k)) ∧ (∀ j, j < 704 → ∀ z, v0.ownBlock = some z → (rw' j).ownBlock ≠ some z)
theorem SprR.next {w wr w' : World} {P B now bm k n i tn : Nat} {D : DataW Unit} {ls : Nat → List Int} {q : List Tm} {v0 v' : Value} {rw' : Nat → Value} {ls' : Nat → List Int} {wd' : Nat → Nat} {x' : Nat}
    (hp : PwAt wr P B now (.map (some bm)) rw' ls' wd') (hf : PF w wr P B) (hw : Words wd' ls') (hls : ∀ j, ls' j = (if j = k then [] else ls j) ++ placed now (q.take i) j) (ho : wr.ownsRow B 3 1 v0 n (idsL (ls k))) (ha : ∀ j, j < 704 → ∀ z, v0.ownBlock = some z → (rw' j).ownBlock ≠ some z)
    (hi : i < q.length) (htn : (q.getD i .z).tm.toNat = tn) (hnow : now ≤ 4611686018427387904) (htn2 : tn ≤ 4611686018427387904)
    (hp' : PwAt w' P B now (.map (some bm)) (upd rw' (pl now tn) v') (upd ls' (pl now tn) (ls' (pl now tn) ++ [(q.getD i .z).id])) (upd wd' (lev now tn) x')) (hx : x' = wd' (lev now tn) ||| 2 ^ slt (lev now tn) tn) (hm' : mapOf D w' bm (Maps.size D)) (hf' : PF wr w' P B) (hn' : Near wr w' P (rw' (pl now tn)) v') : SprR w P B now bm D ls k q v0 n (i + 1) w' := by
  subst htn
  have hk7 := pl_lt now (q.getD i .z).tm.toNat hnow htn2
  refine ⟨_, _, _, hp', hm', hf.trans hf', ?_, fun j => ?_, ?_, fun j hj z hz => ?_⟩
  · rw [hx]
    exact hw.put (by have := lev_top now (q.getD i .z).tm.toNat hnow htn2; omega) (slt_lt _ _) _
  · rw [placed_take hi]
    by_cases e : pl now (q.getD i .z).tm.toNat = j
    · subst e
      rw [upd_same, if_pos rfl, hls, List.append_assoc]
    · rw [upd_other _ _ _ (Ne.symm e), if_neg e, hls]
  · refine own_kept ho (fun z hz he hz2 => hn'.block z ?_ (by have := hp.pb; omega) (fun e => ha _ hk7 z hz2 e.symm))
    exact (ho.lt z hz2).2
  · by_cases e : j = pl now (q.getD i .z).tm.toNat
    · subst e
      rw [upd_same]
      intro e2
      rcases hn'.at_ z e2 with e3 | e3
      · exact ha _ hk7 z hz e3
      · have := (ho.lt z hz).2; omega
    · rw [upd_other _ _ _ e]; exact ha j hj z hz

set_option maxHeartbeats 8000000 in
theorem spread_any (w : World) (P B now L s n : Nat) (rw_ : Nat → Value) (ls : Nat → List Int) (wd : Nat → Nat) (bm : Nat) (D : DataW Unit) (q : List Tm) (h : PwAt w P B now (.map (some bm)) rw_ ls wd) (hd : mapOf D w bm (Maps.size D)) (hbm : B ≤ bm) (hL : L < 11) (hs : s < 64) (hW : Words wd ls) (hq : ls (L * 64 + s) = q.map (·.id)) (hn : n = q.length)
    (hid : ∀ i, i < n → (Lit.int .i64 (q.getD i .z).id).wf = true) (hat : ∀ i, i < n → D.atKey (.int .i64 (q.getD i .z).id) u0 = .lit (.int .u64 (q.getD i .z).tm)) (ht : ∀ i, i < n → 0 ≤ (q.getD i .z).tm ∧ (q.getD i .z).tm ≤ 4611686018427387904) (hnow : now ≤ 4611686018427387904) (hlen : ∀ j, (ls j).length + n < 1048576) :
    Calls Tryd.prog 63 #[.pointer (some ⟨P, 0, none⟩), .int .i64 L, .int .i64 s] w fun e w' => e = .returned (.tuple #[]) ∧ ∃ rw' ls' wd', PwAt w' P B now (.map (some bm)) rw' ls' wd' ∧ mapOf D w' bm (Maps.size D) ∧ PF w w' P B ∧ Words wd' ls' ∧ ∀ j, ls' j = (if j = L * 64 + s then [] else ls j) ++ placed now q j := by
  obtain ⟨k, hk⟩ : ∃ k, k = L * 64 + s := ⟨_, rfl⟩
  have hk704 : k < 704 := by omega
  rw [← hk] at hq
  obtain ⟨a, c, hv⟩ := own_slice (h.own k hk704)
  have hlk : (ls k).length = n := by rw [hq, hn]; simp
  rw [hlk] at hv
  have m1 := h.at_ (L := L) (s := s) hk.symm hk704
  rw [hv] at m1
  have m2 := h.fz (2 + L * 64 + s)
  have hown := h.own k hk704
  rw [hv, hlk] at hown
  have HO := Hid.mk hown
  have HP := Hid.mk h
  have HM : Hid (mapOf D w bm (Maps.size D)) := Hid.mk hd
  have HW := Hid.mk hW
  have HQ := Hid.mk (And.intro hk (And.intro hq (And.intro hn hlk)))
  have HV := Hid.mk hv
  have HI := Hid.mk (And.intro hid (And.intro hat ht))
  have HL := Hid.mk hlen
  have g1 : (L : Int) < 11 := by omega
  have g2 : (s : Int) < 64 := by omega
  have hpb := h.pb
  have hbs := h.bs
  have HS0 := Hid.mk (h.slot (w7 := w) (k := k) hk704 (v' := .slice none 0 0) (xs := []) (n' := 0) rfl (Nat.le_refl _) (fun _ _ _ => rfl) (World.ownsRow_nil _ _ _ _) (fun z hz => by simp [Value.ownBlock] at hz))
  clear h hd hW hq hn hlk hv hown hid hat ht hlen
  go_enter Tryd.func63, Tryd.ntmps63
  go_upto_region 2 with fail
  have e0 : 2 + k = 2 + L * 64 + s := by rw [HQ.out.1, Nat.add_assoc]
  have HS := HS0.out
  rw [e0] at HS
  have HP1 := Hid.mk HS
  have HM1 : Hid (mapOf D (w.setCell ⟨P, 2 + L * 64 + s, none⟩ (.slice none 0 0)) bm (Maps.size D)) := Hid.mk (World.ownsMap.setCell HM.out (by simp; omega) _)
  have HF1 := Hid.mk (PF.setP w P B (2 + L * 64 + s) (.slice none 0 0))
  have HO1 := Hid.mk (ownsRow_setCell_below HO.out (a := ⟨P, 2 + L * 64 + s, none⟩) hpb (.slice none 0 0))
  clear HS HS0 e0 m1 m2
  generalize w.setCell ⟨P, 2 + L * 64 + s, none⟩ (.slice none 0 0) = w1 at *
  have x1 := HP1.out.cw L hL
  have x2 := HP1.out.fz (706 + L)
  go_region
  all_goals
    obtain ⟨y, hbit, hy, hyb⟩ := andNot_bitW (wd L) s ((HW.out L hL).1) hs
    rw [hbit]
    have HP2 := Hid.mk ((HP1.out.setWord L y hL).keep (((Below.refl _ _).drew)))
    have HM2 : Hid (mapOf D ((w1.setCell ⟨P, 706 + L, none⟩ (.int .u64 (y : Int))).drew) bm (Maps.size D)) := Hid.mk (World.ownsMap.setCell HM1.out (by simp; omega) _)
    have HF2 := Hid.mk ((HF1.out.trans (PF.setP w1 P B (706 + L) (.int .u64 (y : Int)))).trans (PF.of_below ((Below.refl _ _).drew)))
    have HO2 := Hid.mk (own_below (ownsRow_setCell_below HO1.out (a := ⟨P, 706 + L, none⟩) hpb (.int .u64 (y : Int))) ((Below.refl _ _).drew))
    have HW2 : Hid (Words (upd wd L y) (upd ls k [])) := Hid.mk (by
      rw [HQ.out.1]
      refine HW.out.set hs hy (fun j hj hne => ?_) ?_ hL
      · rw [hyb j hj]; simp; omega
      · rw [hyb s hs]; simp)
    have HA2 : Hid (∀ j, j < 704 → ∀ z, (Value.slice a n c).ownBlock = some z → (upd rw_ k (Value.slice none 0 0) j).ownBlock ≠ some z) := Hid.mk (fun j hj z hz => by
      by_cases e : j = k
      · subst e; rw [upd_same]; simp [Value.ownBlock]
      · rw [upd_other _ _ _ e]; exact HP.out.apart k j hk704 hj (Ne.symm e) z (by rw [HV.out]; exact hz))
    clear x1 x2 hbit hyb hy
    generalize (w1.setCell ⟨P, 706 + L, none⟩ (.int .u64 (y : Int))).drew = w2 at *
    go_wp2_with fail
    go_loopw [38] (fun iv wr => ∃ (i : Nat), iv = .int .i64 i ∧ i ≤ n ∧ SprR w P B now bm D ls k q (.slice a n c) n i wr) (fun iv _ => n - (intOf iv).toNat)
    case atStart => exact ⟨0, rfl, by omega, _, _, _, HP2.out, HM2.out, HF2.out, HW2.out, fun j => (by simp [placed, upd]), HO2.out, HA2.out⟩
    case round =>
      obtain ⟨i, rfl, hi, hrel⟩ := hrel
      have HR := Hid.mk hrel
      clear hrel HP1 HM1 HF1 HO1 HP2 HM2 HF2 HO2 HW2 HA2
      by_cases h1 : i < n
      · obtain ⟨rw', ls', wd', hp, hm, hf, hw, hls, ho, ha⟩ := HR.out
        have hiq : i < q.length := by have := HQ.out.2.2.1; omega
        obtain ⟨id, hid⟩ : ∃ x, x = (q.getD i .z).id := ⟨_, rfl⟩
        obtain ⟨tn, htn⟩ : ∃ x, (q.getD i .z).tm.toNat = x := ⟨_, rfl⟩
        have hti := HI.out.2.2 i h1
        have hcell : ∃ g, a = some ⟨g, 0, none⟩ ∧ wr.cell? ⟨g, i, none⟩ = some (.int .i64 id) := by
          rcases ho.2 with ⟨_, h2⟩ | ⟨g, cap, cur, h2, _⟩
          · omega
          · obtain ⟨e1, _, e2⟩ : a = some ⟨g, 0, none⟩ ∧ n = n ∧ c = cap := by simpa using h2
            subst e1
            refine ⟨g, rfl, ?_⟩
            have := ho.cellAt i (by omega)
            rw [this, HQ.out.2.1, hid]
            simp [idsL, hiq]
        obtain ⟨g, rfl, x0⟩ := hcell
        have hput := put_any wr P B now tn (.map (some bm)) rw' ls' wd' bm D id hp hm hbm (by rw [hid]; exact HI.out.1 i h1) (by rw [hid, HI.out.2.1 i h1]; congr 2; omega) hnow (by omega) (fun j hj => (hw j hj).1) (by
          have a1 := HL.out (pl now tn)
          have a2 := placed_few now (q.take i) (pl now tn)
          rw [List.length_take] at a2
          rw [hls, List.length_append]
          split
          · simp; omega
          · omega)
        have HPUT := Hid.mk hput
        have HX := Hid.mk (And.intro hid (And.intro htn hti))
        have hcl : n ≤ 1048576 := by have := HL.out 0; omega
        clear hput hid htn hti
        have HALL := Hid.mk (And.intro hp (And.intro hf (And.intro hw (And.intro hls (And.intro ho ha)))))
        clear hp hm hf hw hls ho ha
        go_wp2_with (go_at_call 78; refine HPUT.out.mono ?_; rintro e w' ⟨rfl, v', x', hp', hx, hm', hf', hn'⟩; have HN := Hid.mk (And.intro hp' (And.intro hx (And.intro hm' (And.intro hf' hn')))); clear hp' hx hm' hf' hn')
        go_roundw
        case rel =>
          refine ⟨i + 1, by go_num, by omega, ?_⟩
          have hA := HALL.out
          have hN := HN.out
          have hX := HX.out
          refine SprR.next hA.1 hA.2.1 hA.2.2.1 hA.2.2.2.1 hA.2.2.2.2.1 hA.2.2.2.2.2 hiq hX.2.1 hnow (by have := hX.2.2; have := hX.2.1; omega) ?_ hN.2.1 hN.2.2.1 hN.2.2.2.1 hN.2.2.2.2
          rw [← hX.1]
          exact hN.1
        case measure => simp [intOf]; omega
      · obtain rfl : i = n := by omega
        go_wp2_with fail
        go_end0
        obtain ⟨rw', ls', wd', hp, hm, hf, hw, hls, _, _⟩ := HR.out
        refine ⟨rfl, rw', ls', wd', hp, hm, hf, hw, fun j => ?_⟩
        have e : q.take i = q := List.take_of_length_le (by have := HQ.out.2.2.1; omega)
        rw [hls j, e, HQ.out.1]
end Go.Proofs.YtgdcjccbdmcebaaDoor
