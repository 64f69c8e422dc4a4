/- The program's wheel as data: the timers of a list, each in its place. Set, Cancel. -/
import Derived.Test.YtgdcjccbdmcebaaDoorHW5
namespace Go.Proofs.YtgdcjccbdmcebaaDoor
open Go.RowKit
open Go.Maps (keyOf_int_mk)
set_option maxRecDepth 100000
attribute [local go_sem ↓] Go.wp_at_zero Go.wp_at_succ

/-- The wheel in block P holds the timers of l. -/
structure WhAt (w : World) (P B now : Nat) (l : List Tm) : Prop where
  mem : ∃ dm rw_ wd, PwAt w P B now dm rw_ (placed now l) wd ∧ DueAt w B dm l ∧ Words wd (placed now l)
  now_ : now ≤ 4611686018427387904
  few : l.length ≤ 200
  later : Later now l
  ids : IdsOk l
  apart : Apart l
theorem nil_eq (w : World) : (binOp .eql 77 (.map none) (.map none)).run Tryd.prog w = .ok (.bool true) w := by kernel_rfl
theorem nil_ne (bm : Nat) (w : World) : (binOp .eql 77 (.map (some bm)) (.map none)).run Tryd.prog w = .ok (.bool false) w := by kernel_rfl
/-- An error by its number, as a value. -/
def errV (x : Int) : Value := if x = 0 then .nilIface else .iface 29 (.int .i64 x)
theorem clamp_val (now : Nat) (tm : Int) (h0 : 0 ≤ tm) (hn : now ≤ 4611686018427387904) : min (max tm ((now : Int) + 1)) 4611686018427387904 = clampT now tm := by
  unfold clampT
  split <;> split <;> omega
theorem clamp_ok (now : Nat) (tm : Int) (h0 : 0 ≤ tm) (hn : now ≤ 4611686018427387904) : (now : Int) ≤ clampT now tm ∧ clampT now tm ≤ 4611686018427387904 := by
  rw [← clamp_val now tm h0 hn]; omega
theorem Later.snoc {n : Nat} {l : List Tm} (h : Later n l) {t : Tm} (ht : (n : Int) ≤ t.tm ∧ t.tm ≤ 4611686018427387904) : Later n (l ++ [t]) := by
  intro x hx
  rcases List.mem_append.1 hx with h1 | h1
  · exact h x h1
  · simp at h1; subst h1; exact ht
theorem IdsOk.snoc {l : List Tm} (h : IdsOk l) {t : Tm} (ht : (Lit.int .i64 t.id).wf = true) : IdsOk (l ++ [t]) := by
  intro i hi
  rw [List.length_append, List.length_singleton] at hi
  rw [getD_snoc l t i hi]
  by_cases h1 : i < l.length
  · rw [if_pos h1]; exact h i h1
  · rw [if_neg h1]; exact ht
theorem Apart.snoc {l : List Tm} (h : Apart l) {t : Tm} (hn : ¬ hasId l t.id l.length) : Apart (l ++ [t]) := by
  intro i j hij hj
  rw [List.length_append, List.length_singleton] at hj
  rw [getD_snoc _ _ i (by omega), getD_snoc _ _ j hj, if_pos (by omega : i < l.length)]
  by_cases h1 : j < l.length
  · rw [if_pos h1]; exact h i j hij h1
  · rw [if_neg h1]; exact fun e => hn ⟨i, by omega, e⟩
theorem Later.cut {n : Nat} {l : List Tm} (h : Later n l) {b : Nat} : Later n (l.take b ++ l.drop (b + 1)) := by
  intro x hx
  rcases List.mem_append.1 hx with h1 | h1
  · exact h x (List.mem_of_mem_take h1)
  · exact h x (List.mem_of_mem_drop h1)
theorem IdsOk.cut {l : List Tm} (h : IdsOk l) {b : Nat} (hb : b < l.length) : IdsOk (l.take b ++ l.drop (b + 1)) := by
  intro i hi
  have hl := length_cut l b hb
  rw [getD_cut l b i hb]
  exact h _ (by split <;> omega)
/-- The wheel behind a put of a new timer. -/
theorem wh_put {w' : World} {P B now bm : Nat} {rw' : Nat → Value} {wd : Nat → Nat} {l : List Tm} {D : DataW Unit} {t : Tm} {tn x' : Nat} (htn : t.tm = (tn : Int)) (hnow : now ≤ 4611686018427387904) (hlen : l.length < 200) (hL : Later now l) (hids : IdsOk l) (hap : Apart l) (hno : ¬ hasId l t.id l.length) (hid : (Lit.int .i64 t.id).wf = true) (ht : (now : Int) ≤ t.tm ∧ t.tm ≤ 4611686018427387904) (hD : Due D l) (hT : Maps.Tidy D) (hbm : B ≤ bm) (hw : Words wd (placed now l))
    (hp : PwAt w' P B now (.map (some bm)) rw' (upd (placed now l) (pl now tn) (placed now l (pl now tn) ++ [t.id])) (upd wd (lev now tn) x')) (hx : x' = wd (lev now tn) ||| 2 ^ slt (lev now tn) tn) (hm : mapOf (D.put (.int .i64 t.id) (.lit (.int .u64 t.tm))) w' bm (Maps.size (D.put (.int .i64 t.id) (.lit (.int .u64 t.tm))))) : WhAt w' P B now (l ++ [t]) := by
  have e0 : t.tm.toNat = tn := by rw [htn]; rfl
  have e : placed now (l ++ [t]) = upd (placed now l) (pl now tn) (placed now l (pl now tn) ++ [t.id]) := by
    funext j
    rw [placed_snoc, e0]
    by_cases h : pl now tn = j
    · subst h; rw [if_pos rfl, upd_same]
    · rw [if_neg h, upd_other _ _ _ (Ne.symm h)]
  refine ⟨⟨_, rw', _, by rw [e]; exact hp, Or.inr ⟨bm, _, rfl, hbm, hm, hD.put hT t hno⟩, ?_⟩, hnow, by simp; omega, hL.snoc ht, hids.snoc hid, hap.snoc hno⟩
  rw [e, hx]
  exact hw.put (by have := lev_top now tn hnow (by omega); omega) (slt_lt _ _) t.id

set_option maxHeartbeats 8000000 in
theorem wset_any (w : World) (P B now : Nat) (l : List Tm) (id tm sq : Int) (h : WhAt w P B now l) (hid : (Lit.int .i64 id).wf = true) (h0 : 0 ≤ tm) (_h1 : tm < 18446744073709551616) :
    Calls Tryd.prog 59 #[.pointer (some ⟨P, 0, none⟩), .int .i64 id, .int .u64 tm] w fun e w' => ∃ x l' sq', e = .returned (errV x) ∧ SetIs l now sq id tm x l' sq' ∧ WhAt w' P B now l' ∧ PF w w' P B := by
  obtain ⟨⟨dm, rw_, wd, hp, hdue, hw⟩, hnow, hfew, hlat, hids, hap⟩ := h
  have HA := Hid.mk (And.intro hnow (And.intro hfew (And.intro hlat (And.intro hids (And.intro hap hw)))))
  have HC := Hid.mk (clamp_ok now tm h0 hnow)
  have e1 : IntKind.u64.wrap ((now : Int) + 1) = (now : Int) + 1 := by rw [IntKind.wrap_u64]; omega
  have e2 := clamp_val now tm h0 hnow
  have hmm := @run_makeMap Tryd.prog
  have hkey := keyOf_int_mk Tryd.underlying3 hid
  have HK := Hid.mk hkey
  have HID := Hid.mk hid
  clear hnow hlat hids hap hw
  rcases hdue with ⟨rfl, hl0⟩ | ⟨bm, D, rfl, hbm, hm, hD⟩
  · have HP := Hid.mk hp
    have c1 := hp.c1
    have f1 := hp.fz 1
    have HPB := Hid.mk (And.intro hp.pb hp.bs)
    have lk := Maps.look_nil (w := w) true lawI Tryd.underlying77 (zeroU w) hkey
    have ln := Maps.len_nil (w := w) Tryd.underlying77 3
    rw [if_pos rfl] at lk
    have c1a := cell_later ((Below.refl _ _).alloc (Nat.le_refl _) (.map #[] 0)) c1
    have f1a := (((Below.refl w.heap.size w).alloc (Nat.le_refl _) (.map #[] 0)).frozen (p := ⟨P, 1, none⟩) (by simp; have := HPB.out; omega)).trans f1
    clear hp hkey
    go_enter Tryd.func59, Tryd.ntmps59
    have nq := nil_eq
    go_upto_region 8 with fail
    have HP2 := Hid.mk ((HP.out.keep ((Below.refl _ _).alloc (Nat.le_refl _) (.map #[] 0))).setDue (.map (some w.heap.size)))
    have HM2 : Hid (mapOf (.map []) ((w.alloc (.map #[] 0)).setCell ⟨P, 1, none⟩ (.map (some w.heap.size))) w.heap.size (Maps.size (.map [] : DataW Unit))) := Hid.mk (World.ownsMap.setCell (World.ownsMap_made w _ _ _) (by simp; have := HPB.out; omega) _)
    have HF2 : Hid (PF w ((w.alloc (.map #[] 0)).setCell ⟨P, 1, none⟩ (.map (some w.heap.size))) P B) := Hid.mk ((PF.of_below ((Below.refl _ _).alloc (Nat.le_refl _) (.map #[] 0))).trans (PF.setP _ P B 1 _))
    have hbm : B ≤ w.heap.size := HPB.out.2
    have HD2 : Hid (Due (.map []) l ∧ ¬ hasId l id l.length ∧ l.length ≠ 200) := Hid.mk (by subst hl0; exact ⟨due_nil, (fun ⟨j, hj, _⟩ => by simp at hj), by simp⟩)
    clear c1a f1a c1 f1 lk ln nq
    generalize (DataW.map [] : DataW Unit) = D at *
    clear hl0
    generalize (w.alloc (.map #[] 0)).setCell ⟨P, 1, none⟩ (.map (some w.heap.size)) = w2 at *
    generalize w.heap.size = bm at *
    have c0 := HP2.out.c0
    have c1 := HP2.out.c1
    obtain ⟨w3, hup, hown3, hg3⟩ := World.ownsMap.update (w := w2.drew) HM2.out lawI Tryd.underlying77 (by have := HD2.out.1.size; have := HA.out.2.1; unfold maxLen; omega) HK.out (plainElem_int Tryd.underlying34 (wf_u64 (x := clampT now tm) (by have := HC.out; omega) (by have := HC.out; omega)))
    have h3 := HP2.out.keep ((Below.refl w2.heap.size w2).drew)
    obtain ⟨k1, k2⟩ := h3.mapped (HM2.out : mapOf D w2.drew bm (Maps.size D)) hbm hg3
    have HP3 := Hid.mk k1
    have HF3 := Hid.mk (HF2.out.trans ((PF.of_below ((Below.refl w2.heap.size w2).drew)).trans k2))
    have HM3 := Hid.mk (ownsMap_tight hown3)
    clear h3 k1 k2 hown3 hg3
    go_region
    have HT := Hid.mk (HM2.out.tidy lawI)
    try clear HP
    clear hup HP2 HM2 c0 c1 HF2
    have c1 := HP3.out.c1
    obtain ⟨tn, htn⟩ : ∃ tn : Nat, clampT now tm = (tn : Int) := ⟨(clampT now tm).toNat, by have := HC.out; omega⟩
    have hput := put_any w3 P B now tn (.map (some bm)) rw_ (placed now l) wd bm (D.put (.int .i64 id) (.lit (.int .u64 (clampT now tm)))) id HP3.out HM3.out hbm HID.out (by rw [Maps.atKey_put_same HT.out.isMap (keyLit id), htn]) HA.out.1 (by have := HC.out; omega) (fun j hj => (HA.out.2.2.2.2.2 j hj).1) (by have := placed_few now l (pl now tn); have := HA.out.2.1; omega)
    have HPUT := Hid.mk hput
    have HTN := Hid.mk htn
    clear hput htn
    go_wp2_with (go_at_call 78; refine HPUT.out.mono ?_; rintro e w4 ⟨rfl, v', x', hp', hx, hm', hf', hn'⟩; have HN := Hid.mk (And.intro hp' (And.intro hx (And.intro hm' hf'))); clear hp' hx hm' hf' hn')
    go_ret
    refine ⟨0, l ++ [⟨id, clampT now tm, sq + 1⟩], sq + 1, rfl, Or.inr (Or.inr ⟨HD2.out.2.1, HD2.out.2.2, rfl, rfl, rfl⟩), ?_, HF3.out.trans HN.out.2.2.2⟩
    exact wh_put (t := ⟨id, clampT now tm, sq + 1⟩) HTN.out HA.out.1 (by have := HA.out.2.1; have := HD2.out.2.2; omega) HA.out.2.2.1 HA.out.2.2.2.1 HA.out.2.2.2.2.1 HD2.out.2.1 HID.out HC.out HD2.out.1 HT.out hbm HA.out.2.2.2.2.2 HN.out.1 HN.out.2.1 HN.out.2.2.1
  · have HP := Hid.mk hp
    have c1 := hp.c1
    have HM := Hid.mk hm
    obtain ⟨v0, ps, lk, _⟩ := World.ownsMap.look_ok hm lawI Tryd.underlying77 (zeroU w) (plainElem_int Tryd.underlying34 (by decide)) hkey
    have ln := World.ownsMap.len hm Tryd.underlying77 3
    have nq := nil_ne bm
    have HD := Hid.mk hD
    rw [hD.size] at ln
    by_cases hh : hasId l id l.length
    · have eh : Maps.has D (.int .i64 id) = true := (hD.has id).2 hh
      rw [eh] at lk
      have HH := Hid.mk hh
      clear hp hkey hm hD eh hh
      go_enter Tryd.func59, Tryd.ntmps59
      go_wp2_with fail
      go_ret
      exact ⟨8, l, sq, rfl, Or.inl ⟨HH.out, rfl, rfl, rfl⟩, ⟨⟨_, rw_, wd, HP.out, Or.inr ⟨bm, D, rfl, hbm, HM.out, HD.out⟩, HA.out.2.2.2.2.2⟩, HA.out.1, HA.out.2.1, HA.out.2.2.1, HA.out.2.2.2.1, HA.out.2.2.2.2.1⟩, PF.refl _ _ _⟩
    · have eh : Maps.has D (.int .i64 id) = false := by
        cases e : Maps.has D (.int .i64 id)
        · rfl
        · exact absurd ((hD.has id).1 e) hh
      rw [eh] at lk
      have HH := Hid.mk hh
      clear hp hkey hm hD eh hh
      by_cases h200 : l.length = 200
      · rw [h200] at ln
        go_enter Tryd.func59, Tryd.ntmps59
        go_wp2_with fail
        go_ret
        exact ⟨5, l, sq, rfl, Or.inr (Or.inl ⟨HH.out, h200, rfl, rfl, rfl⟩), ⟨⟨_, rw_, wd, HP.out, Or.inr ⟨bm, D, rfl, hbm, HM.out, HD.out⟩, HA.out.2.2.2.2.2⟩, HA.out.1, HA.out.2.1, HA.out.2.2.1, HA.out.2.2.2.1, HA.out.2.2.2.2.1⟩, PF.refl _ _ _⟩
      · have g3 : decide ((200 : Int) ≤ (l.length : Int)) = false := decide_eq_false (by omega)
        have HD2 : Hid (Due D l ∧ ¬ hasId l id l.length ∧ l.length ≠ 200) := Hid.mk ⟨HD.out, HH.out, h200⟩
        have HP2 := HP
        have HM2 := HM
        have HF2 : Hid (PF w w P B) := Hid.mk (PF.refl w P B)
        clear HP HM HD HH
        go_enter Tryd.func59, Tryd.ntmps59
        go_upto_region 8 with fail
        generalize hww : w = w2 at HP2 HM2
        subst hww
        have c0 := HP2.out.c0
        have c1 := HP2.out.c1
        obtain ⟨w3, hup, hown3, hg3⟩ := World.ownsMap.update (w := w.drew) HM2.out lawI Tryd.underlying77 (by have := HD2.out.1.size; have := HA.out.2.1; unfold maxLen; omega) HK.out (plainElem_int Tryd.underlying34 (wf_u64 (x := clampT now tm) (by have := HC.out; omega) (by have := HC.out; omega)))
        have h3 := HP2.out.keep ((Below.refl w.heap.size w).drew)
        obtain ⟨k1, k2⟩ := h3.mapped (HM2.out : mapOf D w.drew bm (Maps.size D)) hbm hg3
        have HP3 := Hid.mk k1
        have HF3 := Hid.mk (HF2.out.trans ((PF.of_below ((Below.refl w.heap.size w).drew)).trans k2))
        have HM3 := Hid.mk (ownsMap_tight hown3)
        clear h3 k1 k2 hown3 hg3
        go_region
        have HT := Hid.mk (HM2.out.tidy lawI)
        try clear HP
        clear hup HP2 HM2 c0 c1 HF2
        have c1 := HP3.out.c1
        obtain ⟨tn, htn⟩ : ∃ tn : Nat, clampT now tm = (tn : Int) := ⟨(clampT now tm).toNat, by have := HC.out; omega⟩
        have hput := put_any w3 P B now tn (.map (some bm)) rw_ (placed now l) wd bm (D.put (.int .i64 id) (.lit (.int .u64 (clampT now tm)))) id HP3.out HM3.out hbm HID.out (by rw [Maps.atKey_put_same HT.out.isMap (keyLit id), htn]) HA.out.1 (by have := HC.out; omega) (fun j hj => (HA.out.2.2.2.2.2 j hj).1) (by have := placed_few now l (pl now tn); have := HA.out.2.1; omega)
        have HPUT := Hid.mk hput
        have HTN := Hid.mk htn
        clear hput htn
        go_wp2_with (go_at_call 78; refine HPUT.out.mono ?_; rintro e w4 ⟨rfl, v', x', hp', hx, hm', hf', hn'⟩; have HN := Hid.mk (And.intro hp' (And.intro hx (And.intro hm' hf'))); clear hp' hx hm' hf' hn')
        go_ret
        refine ⟨0, l ++ [⟨id, clampT now tm, sq + 1⟩], sq + 1, rfl, Or.inr (Or.inr ⟨HD2.out.2.1, HD2.out.2.2, rfl, rfl, rfl⟩), ?_, HF3.out.trans HN.out.2.2.2⟩
        exact wh_put (t := ⟨id, clampT now tm, sq + 1⟩) HTN.out HA.out.1 (by have := HA.out.2.1; have := HD2.out.2.2; omega) HA.out.2.2.1 HA.out.2.2.2.1 HA.out.2.2.2.2.1 HD2.out.2.1 HID.out HC.out HD2.out.1 HT.out hbm HA.out.2.2.2.2.2 HN.out.1 HN.out.2.1 HN.out.2.2.1
end Go.Proofs.YtgdcjccbdmcebaaDoor
