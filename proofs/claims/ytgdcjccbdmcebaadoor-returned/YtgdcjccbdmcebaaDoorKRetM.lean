/- An edge back closes a circle just if the node that it leads to is reached (P4). -/
import Derived.Test.YtgdcjccbdmcebaaDoorKBack
namespace Go.Proofs.YtgdcjccbdmcebaaDoor
open Go.RowKit

/-- Node j waits, by whatever others, for node a (or is it). -/
inductive Rch (F : FlowD) (a : Nat) : Nat → Prop
  | base : Rch F a a
  | step (j k : Nat) : k < F.an j → Rch F a (F.af j k).toNat → Rch F a j
theorem rch_ge {F : FlowD} (h : FlowW F F.n) {a j : Nat} (hr : Rch F a j) : j < F.n → a ≤ j := by
  induction hr with
  | base => intro _; omega
  | step j k hk _ ih => intro hj; have := (h.nodes j hj).af k hk; have := ih (by omega); omega
/-- Node a waits for z besides. -/
def FlowD.edge (F : FlowD) (a z : Nat) : FlowD := F.upd a (F.bu a) (F.cl a) (F.be a) (F.ba a) (F.ca a) (F.ji a) (F.an a + 1) (fun k => if k < F.an a then F.af a k else (z : Int))
theorem edge_an (F : FlowD) (a z : Nat) : (F.edge a z).an a = F.an a + 1 := if_pos rfl
theorem edge_an_ne (F : FlowD) {a z j : Nat} (h : j ≠ a) : (F.edge a z).an j = F.an j := if_neg h
theorem edge_af (F : FlowD) (a z : Nat) : (F.edge a z).af a = fun k => if k < F.an a then F.af a k else (z : Int) := if_pos rfl
theorem edge_af_ne (F : FlowD) {a z j : Nat} (h : j ≠ a) : (F.edge a z).af j = F.af j := if_neg h
theorem edge_num (F : FlowD) (a z j : Nat) : (F.edge a z).bu j = F.bu j ∧ (F.edge a z).cl j = F.cl j ∧ (F.edge a z).be j = F.be j ∧ (F.edge a z).ba j = F.ba j ∧ (F.edge a z).ca j = F.ca j ∧ (F.edge a z).ji j = F.ji j := by
  by_cases e : j = a
  · subst e; simp [FlowD.edge, FlowD.upd]
  · simp [FlowD.edge, FlowD.upd, e]
theorem rch_not_gone {F : FlowD} {a z : Nat} (hz : Rch F a z) {j : Nat} (hg : Gone (F.edge a z) j) : Rch F a j → False := by
  induction hg with
  | mk i _ ih =>
    intro hr
    by_cases e : i = a
    · subst e
      refine ih (F.an i) (by rw [edge_an]; omega) ?_
      rw [edge_af]
      simpa using hz
    · cases hr with
      | base => exact e rfl
      | step _ k hk hr' => exact ih k (by rw [edge_an_ne F e]; exact hk) (by rw [edge_af_ne F e]; exact hr')
theorem not_rch_gone {F : FlowD} (h : FlowW F F.n) {a z : Nat} (ha : a < F.n) (hz : z < F.n) (hnz : ¬ Rch F a z) : ∀ i, i < F.n → Gone (F.edge a z) i := by
  have h1 : ∀ i, i < F.n → ¬ Rch F a i → Gone (F.edge a z) i := by
    intro i
    induction i using Nat.strongRecOn with
    | _ i ih =>
      intro hi hn
      have e : i ≠ a := fun e => hn (by rw [e]; exact Rch.base)
      refine Gone.mk i fun k hk => ?_
      rw [edge_an_ne F e] at hk
      rw [edge_af_ne F e]
      have := (h.nodes i hi).af k hk
      exact ih _ (by omega) (by omega) fun hr => hn (Rch.step i k hk hr)
  have h2 : Gone (F.edge a z) a := by
    refine Gone.mk a fun k hk => ?_
    rw [edge_an] at hk
    rw [edge_af]
    by_cases e : k < F.an a
    · simp only [e, if_true]
      have := (h.nodes a ha).af k e
      refine h1 _ (by omega) fun hr => ?_
      have := rch_ge h hr (by omega)
      omega
    · simp only [e, if_false, Int.toNat_natCast]
      exact h1 z hz hnz
  intro i
  induction i using Nat.strongRecOn with
  | _ i ih =>
    intro hi
    by_cases e : i = a
    · subst e; exact h2
    · refine Gone.mk i fun k hk => ?_
      rw [edge_an_ne F e] at hk
      rw [edge_af_ne F e]
      have := (h.nodes i hi).af k hk
      exact ih _ (by omega) (by omega)
theorem edge_ok {F : FlowD} (h : FlowW F F.n) (h1 : 1 ≤ F.n) (h2 : F.n ≤ 12) {a z : Nat} (ha : a < F.n) (haz : a ≤ z) (hz : z < F.n) : OkTop (F.edge a z) ∧ ∀ j, j < F.n → OkNode (F.edge a z) j ∧ OkEdges (F.edge a z) j := by
  obtain ⟨ht, hok, _⟩ := h.ok h1 h2
  refine ⟨⟨ht.dl1, ht.dl2, ht.n1, ht.n2⟩, fun j hj => ⟨?_, fun k hk => ?_⟩⟩
  · obtain ⟨e1, e2, e3, e4, e5, e6⟩ := edge_num F a z j
    obtain ⟨x1, x2, x3, x4, x5, x6, x7, x8, x9, x10, x11, x12⟩ := (hok j hj).1
    constructor <;> simp only [e1, e2, e3, e4, e5, e6] <;> assumption
  · unfold OkEdge
    show 0 ≤ (F.edge a z).af j k ∧ (F.edge a z).af j k < F.n ∧ (0 < k → (F.edge a z).af j (k - 1) < (F.edge a z).af j k)
    by_cases e : j = a
    · subst e
      rw [edge_an] at hk
      rw [edge_af]
      by_cases e2 : k < F.an j
      · have := (h.nodes j hj).af k e2
        simp only [e2, if_true]
        refine ⟨this.1, by omega, fun h0 => ?_⟩
        rw [if_pos (by omega)]
        exact this.2.2 h0
      · simp only [e2, if_false]
        refine ⟨by omega, by omega, fun h0 => ?_⟩
        rw [if_pos (by omega)]
        have := (h.nodes j hj).af (k - 1) (by omega)
        omega
    · rw [edge_an_ne F e] at hk
      rw [edge_af_ne F e]
      have := (h.nodes j hj).af k hk
      exact ⟨this.1, by omega, this.2.2⟩
/-- What is wrong with the flow, one edge more: a circle, just if z is reached. -/
theorem edge_chk {F : FlowD} (h : FlowW F F.n) (h1 : 1 ≤ F.n) (h2 : F.n ≤ 12) {a z : Nat} (ha : a < F.n) (haz : a ≤ z) (hz : z < F.n) {x y : Int} (hc : ChkIs (F.edge a z) x y) : (Rch F a z ∧ x = 4) ∨ (¬ Rch F a z ∧ x = 0) := by
  obtain ⟨ht, hok⟩ := edge_ok h h1 h2 ha haz hz
  rcases hc with ⟨_, _, h3⟩ | ⟨_, _, i, hi, _, _, h3⟩ | ⟨_, _, i, hi, _, _, _, h3⟩ | ⟨rfl, _, _, i, hi, _, h3, _⟩ | ⟨rfl, _, _, _, h3⟩
  · exact absurd ht h3
  · exact absurd (hok i hi).1 h3
  · exact absurd (hok i hi).2 h3
  · by_cases hr : Rch F a z
    · exact Or.inl ⟨hr, rfl⟩
    · exact absurd (not_rch_gone h ha hz hr i hi) h3
  · by_cases hr : Rch F a z
    · exact absurd Rch.base (fun hb => rch_not_gone hr (h3 a ha) hb)
    · exact Or.inr ⟨hr, rfl⟩

/-- What is reached so far: all nodes ahead of i are told; node i by the first k that it waits for. -/
def ReS (F : FlowD) (a i : Nat) (S : Nat → Bool) : Prop := (∀ j, j < i → j < F.n → (S j = true ↔ Rch F a j)) ∧ (∀ j, i ≤ j → S j = false)
def ReT (F : FlowD) (a i k : Nat) (S : Nat → Bool) : Prop := (∀ j, j < i → j < F.n → (S j = true ↔ Rch F a j)) ∧ (∀ j, i < j → S j = false) ∧ (S i = true ↔ ∃ k', k' < k ∧ Rch F a (F.af i k').toNat)
theorem ReS.start {F : FlowD} (h : FlowW F F.n) (a : Nat) : ReS F a (a + 1) (fun j => decide (j = a)) := by
  refine ⟨fun j hj hn => ⟨fun e => ?_, fun hr => ?_⟩, fun j hj => decide_eq_false (by omega)⟩
  · rw [of_decide_eq_true e]; exact Rch.base
  · have := rch_ge h hr hn
    exact decide_eq_true (by omega)
theorem ReS.inner {F : FlowD} {a i : Nat} {S : Nat → Bool} (h : ReS F a i S) : ReT F a i 0 S :=
  ⟨h.1, fun j hj => h.2 j (by omega), fun e => (by rw [h.2 i (Nat.le_refl _)] at e; cases e), fun ⟨k', hk, _⟩ => by omega⟩
theorem ReT.done {F : FlowD} {a i : Nat} {S : Nat → Bool} (h : ReT F a i (F.an i) S) (hi : a < i) : ReS F a (i + 1) S := by
  refine ⟨fun j hj hn => ?_, fun j hj => h.2.1 j (by omega)⟩
  by_cases e : j = i
  · subst e
    rw [h.2.2]
    refine ⟨fun ⟨k', hk, hr⟩ => Rch.step j k' hk hr, fun hr => ?_⟩
    cases hr with
    | base => omega
    | step _ k hk hr' => exact ⟨k, hk, hr'⟩
  · exact h.1 j (by omega) hn
theorem ReT.more {F : FlowD} {a i k : Nat} {S : Nat → Bool} (h : ReT F a i k S) (hi : i < F.n) (hc : (F.af i k).toNat < i) : ReT F a i (k + 1) (fun j => if j = i then (S i || S (F.af i k).toNat) else S j) := by
  refine ⟨fun j hj hn => by simp only [show j ≠ i by omega, if_false]; exact h.1 j hj hn, fun j hj => by simp only [show j ≠ i by omega, if_false]; exact h.2.1 j hj, ?_⟩
  simp only [if_true]
  rw [Bool.or_eq_true, h.2.2, h.1 _ hc (by omega)]
  constructor
  · rintro (⟨k', hk, hr⟩ | hr)
    · exact ⟨k', by omega, hr⟩
    · exact ⟨k, by omega, hr⟩
  · rintro ⟨k', hk, hr⟩
    by_cases e : k' = k
    · subst e; exact Or.inr hr
    · exact Or.inl ⟨k', by omega, hr⟩

theorem own_frozen {w : World} {B b o n c : Nat} {e : TypeId} {size : Nat} {xs : List Value} (h : w.ownsRow B e size (.slice (some ⟨b, o, none⟩) n c) n xs) (j : Nat) : w.frozen? ⟨b, j, none⟩ = false := by
  rcases h.2 with ⟨h1, _⟩ | ⟨g, cap, cur, h2, _⟩
  · simp at h1
  · obtain ⟨⟨rfl, rfl⟩, _, rfl⟩ : (b = g ∧ o = 0) ∧ n = n ∧ c = cap := by simpa using h2
    exact h.frozenAt j

/-- A flow is nine bytes long at least. -/
theorem catL_len (vs : List Nat) : vs.length ≤ (catL vs).length := by
  induction vs with
  | nil => exact Nat.zero_le _
  | cons v r ih => have := numL_pos v; simp only [catL, List.length_cons, List.length_append]; omega
theorem flowB_nine {F : FlowD} (h1 : 1 ≤ F.n) : 9 ≤ (flowB F).length := by
  rw [flowB_cat]
  have h2 := catL_len (flowN F)
  have h3 : 9 ≤ (flowN F).length := by
    obtain ⟨r, hr⟩ := nodesN_pre F 1 F.n h1
    have h4 : (nodesN F 1).length = 7 + F.an 0 := by simp [nodesN, nodeN_length]
    simp only [flowN, List.length_append, List.length_cons, List.length_nil, hr]
    omega
  omega
theorem FlowW.nat {F : FlowD} (h : FlowW F F.n) (h1 : 1 ≤ F.n) (h2 : F.n ≤ 12) : ∀ i, i < F.n → NatNode F i := fun i hi => natNode (h.ok h1 h2).1 ((h.ok h1 h2).2.1 i hi).1 ((h.ok h1 h2).2.1 i hi).2
theorem FlowW.chk {F : FlowD} (h : FlowW F F.n) (h1 : 1 ≤ F.n) (h2 : F.n ≤ 12) : ChkIs F 0 (-1) := Or.inr (Or.inr (Or.inr (Or.inr ⟨rfl, rfl, (h.ok h1 h2).1, (h.ok h1 h2).2.1, (h.ok h1 h2).2.2⟩)))
theorem FlowW.an {F : FlowD} (h : FlowW F F.n) (h1 : 1 ≤ F.n) (h2 : F.n ≤ 12) : ∀ i, i < F.n → F.an i ≤ 12 := fun i hi => by have := ((h.ok h1 h2).2.1 i hi).2.an_le; omega
/-- What is read of what was written. -/
theorem dec_back {F : FlowD} (h : FlowW F F.n) (h1 : 1 ≤ F.n) (h2 : F.n ≤ 12) {x y : Int} {G : FlowD} (hd : DecIs (flowB F).length (byF (flowB F)) x y G) : x = 0 ∧ G.dl = F.dl ∧ G.n = F.n ∧ SameTo F G F.n := by
  obtain ⟨⟨s, hs⟩, b1, b2, b3⟩ := back (h.ok h1 h2).1 (h.nat h1 h2)
  have hG : FlowW (flowOf (flowB F).length (byF (flowB F))) (flowOf (flowB F).length (byF (flowB F))).n := h.same b1 b2 b3
  have hc := hG.chk (by omega) (by omega)
  rcases hd with ⟨s', hs', _⟩ | ⟨p, s', hs', hp, _⟩ | ⟨p, s', hs', hp, hc', h0, h3⟩
  · rw [hs] at hs'; cases hs'
  · rw [hs] at hs'; cases hs'; omega
  · obtain ⟨rfl, rfl⟩ := hc'.one hc
    rw [h0 rfl]
    exact ⟨rfl, b1, b2, b3⟩
/-- The flow in memory, one edge more. -/
theorem edge_flowIn {w : World} {B B2 b o lc gg gcap av z : Nat} {F : FlowD} {Na : Nat → Option Addr} {Nc : Nat → Nat} (h : CopyAt B w F (.slice (some ⟨b, o, none⟩) F.n lc) F.n Na Nc) (hn1 : 1 ≤ F.n) (hn2 : F.n ≤ 12) (han : ∀ i, i < F.n → F.an i ≤ 12) (ha : av < F.n)
    (hrow : w.ownsRow B2 3 1 (.slice (some ⟨gg, 0, none⟩) (F.an av + 1) gcap) (F.an av + 1) (intsL (F.an av) (F.af av) ++ [.int .i64 (z : Nat)])) (hT : TabIn (w.setCell ⟨b, o + av * 7 + 6, none⟩ (.slice (some ⟨gg, 0, none⟩) (F.an av + 1) gcap))) (hg : 1 < w.heap.size) :
    FlowIn (w.setCell ⟨b, o + av * 7 + 6, none⟩ (.slice (some ⟨gg, 0, none⟩) (F.an av + 1) gcap)) (F.edge av z) (some ⟨b, o, none⟩) lc (fun i => if i = av then some ⟨gg, 0, none⟩ else Na i) (fun i => if i = av then gcap else Nc i) := by
  have hother : ∀ {e : TypeId} {B' n : Nat} {v : Value} {xs : List Value}, w.ownsRow B' e 1 v n xs → e = 3 → (w.setCell ⟨b, o + av * 7 + 6, none⟩ (.slice (some ⟨gg, 0, none⟩) (F.an av + 1) gcap)).ownsRow B' e 1 v n xs := by
    intro e B' n v xs hr he
    refine ownsRow_setCell_other hr (fun e2 => ?_) _
    rcases hr.2 with ⟨h1, _⟩ | ⟨g, cap, cur, h1, _, hh, _⟩
    · rw [h1] at e2; simp [Value.ownBlock] at e2
    · rw [h1] at e2
      simp only [Value.ownBlock, Option.some.injEq] at e2
      subst e2
      rcases h.own.2 with ⟨h3, _⟩ | ⟨g', cap', cur', h3, _, hh', _⟩
      · simp at h3
      · obtain ⟨⟨rfl, _⟩, _, _⟩ : (g = g' ∧ o = 0) ∧ F.n = F.n ∧ lc = cap' := by simpa using h3
        rw [hh] at hh'
        simp only [Option.some.injEq, Obj.cells.injEq] at hh'
        rw [he] at hh'
        exact absurd hh'.2.1 (by decide)
  rcases h.nodesAt with h0 | ⟨b', o', hbo, hcap, hmax, hbs, hc⟩
  · omega
  obtain ⟨rfl, rfl⟩ : b = b' ∧ o = o' := by simpa using hbo
  refine ⟨Or.inr ⟨b, o, rfl, hcap, hmax, by simpa [World.setCell] using hbs, fun i hi => ?_⟩, by show F.n ≤ maxLen; unfold maxLen; omega, by show F.n * 72 ≤ _; omega, fun i hi e => ?_, fun i hi => ?_, hT, by simpa [World.setCell] using hg⟩
  · obtain ⟨n0, n1, n2, n3, n4, n5, n6, _⟩ := hc i hi
    obtain ⟨e1, e2, e3, e4, e5, e6⟩ := edge_num F av z i
    have far : ∀ j, j ≠ o + av * 7 + 6 → (w.setCell ⟨b, o + av * 7 + 6, none⟩ (.slice (some ⟨gg, 0, none⟩) (F.an av + 1) gcap)).cell? ⟨b, j, none⟩ = w.cell? ⟨b, j, none⟩ := fun j hj => cell_setCell_off w b _ j _ (by omega)
    by_cases e : i = av
    · subst e
      simp only [if_true]
      refine ⟨by rw [far _ (by omega), e1]; exact n0, by rw [far _ (by omega), e2]; exact n1, by rw [far _ (by omega), e3]; exact n2, by rw [far _ (by omega), e4]; exact n3, by rw [far _ (by omega), e5]; exact n4, by rw [far _ (by omega), e6]; exact n5, ?_, ?_⟩
      · rw [edge_an]
        exact World.cell?_setCell_same _ _ _ n6
      · rw [edge_an, edge_af]
        refine ints_of_own (B := B2) ?_
        have he : intsL (F.an i + 1) (fun k => if k < F.an i then F.af i k else (z : Int)) = intsL (F.an i) (F.af i) ++ [.int .i64 (z : Nat)] := by
          simp only [intsL, List.range_succ, List.map_append, List.map_cons, List.map_nil, Nat.lt_irrefl, if_false]
          congr 1
          apply List.map_congr_left
          intro k hk
          rw [if_pos (List.mem_range.1 hk)]
        rw [he]
        exact hother hrow rfl
    · simp only [e, if_false]
      refine ⟨by rw [far _ (by omega), e1]; exact n0, by rw [far _ (by omega), e2]; exact n1, by rw [far _ (by omega), e3]; exact n2, by rw [far _ (by omega), e4]; exact n3, by rw [far _ (by omega), e5]; exact n4, by rw [far _ (by omega), e6]; exact n5, ?_, ?_⟩
      · rw [far _ (by omega), edge_an_ne F e]; exact n6
      · rw [edge_an_ne F e, edge_af_ne F e]
        exact ints_of_own (hother (h.aft i hi) rfl)
  · by_cases e2 : i = av
    · simp [e2] at e
    · simp only [e2, if_false] at e ⊢
      have h9 := h.aft i hi
      rw [e] at h9
      exact own_nil h9
  · have h9 := han i hi
    by_cases e : i = av
    · subst e; rw [edge_an]; omega
    · rw [edge_an_ne F e]; omega
end Go.Proofs.YtgdcjccbdmcebaaDoor
