import Derived.Test.YtgdcjccbdmcebabGreatDoorM02
set_option linter.unusedSimpArgs false
set_option linter.unusedVariables false
namespace Go.Proofs.YtgdcjccbdmcebabGreatDoor
open Go.RowKit
set_option maxRecDepth 100000
attribute [local go_sem ↓] Go.wp_at_zero Go.wp_at_succ
theorem madeTU (n:Nat):(madeCells (.int .u64 0:Value).cells (n * 1)).toList=(List.replicate n (0:Int)).flatMap u64C:=by
 rw [<-u64C_zeros,<-Zbw]
 rfl
theorem copyTU (w:World)(ty:TypeId)(b o dLen dCap m:Nat)(a:Addr)(sLen sCap:Nat)(cur:Array Value)(zs:List Int)(hw:w.heap[b]? =some (.cells cur 39 (0,0)))(hm:Nat.min sLen dLen=m)(hz:zs.length=m)(hsz:o+m * 1<=cur.size)
  (hsrc:∀j v,(zs.flatMap u64C)[j]? =some v->w.cell? (a.add j)=some v) :
  (Builtin.copy_ #[58,58] ty #[.slice (some ⟨b,o,none⟩) dLen dCap, .slice (some a) sLen sCap]).run Tryz.prog w= .ok (goInt m) (w.setCells b o (zs.flatMap u64C)):=by
 have hl:=Zau zs
 refine run_copy_k w 58 58 ty 39 1 m b o dLen dCap a sLen sCap (zs.flatMap u64C) Tryz.underlying58 sizeTU hm (by omega) hsrc (fun j hj=> ?_) (fun j _=> ?_) (u64C_one zs)
 ·unfold World.cell?
  rw [hw]
  simp only [Array.getElem?_eq_getElem (show o+j<cur.size by omega)]
  rfl
 ·simp [World.frozen?,hw]
theorem Zc9 (g:Nat)(e:TypeId):∀(vs:List Value) (o:Nat) (w:World) (cur:Array Value),w.heap[g]? =some (.cells cur e (0,0))->o+vs.length<=cur.size->∃cur',(w.setCells g o vs).heap[g]? =some (.cells cur' e (0,0))/\cur'.size=cur.size/\cur'.toList=cur.toList.take o++vs++cur.toList.drop (o+vs.length)
 | [],o,w,cur,h,_=>⟨cur,h,rfl,by simp⟩
 | v::r,o,w,cur,h,hl=>by
  have h2:(w.setCell ⟨g,o,none⟩ v).heap[g]? =some (.cells (cur.setIfInBounds o v) e (0,0)):=by
   simp [World.setCell,Array.getElem?_modify,h]
  obtain⟨cur',h3,h4,h5⟩:=Zc9 g e r (o+1) (w.setCell ⟨g,o,none⟩ v) (cur.setIfInBounds o v) h2 (by simp at hl ⊢;omega)
  refine⟨cur',h3,by simpa using h4,?_⟩
  simp only [List.length_cons] at hl ⊢
  have ho:o<cur.toList.length:=by simp;omega
  rw [h5,Array.toList_setIfInBounds,List.take_set,List.take_add_one,List.getElem?_eq_getElem ho,Option.toList_some,List.set_append_right _ _ (by simp;omega),List.drop_set_of_lt (by omega)]
  have:o - (List.take o cur.toList).length=0:=by simp;omega
  rw [this,show o+(r.length+1)=o+1+r.length by omega]
  simp
theorem Zbn (w:World)(g o:Nat)(vs:List Value):(w.setCells g o vs).heap.size=w.heap.size/\(w.setCells g o vs).os=w.os/\(w.setCells g o vs).tape=w.tape/\(w.setCells g o vs).output=w.output:=by
 induction vs generalizing o w with
 | nil=>exact⟨rfl,rfl,rfl,rfl⟩
 | cons v r ih =>
  obtain⟨h1,h2,h3,h4⟩:=ih (w.setCell ⟨g,o,none⟩ v) (o+1)
  rw [World.setCells]
  exact⟨by rw [h1];simp [World.setCell],h2,h3,h4⟩
theorem Zar (g k:Nat)(hk:k≠g):∀(vs:List Value) (o:Nat) (w:World),(w.setCells g o vs).heap[k]? =w.heap[k]?
 | [],_,_=>rfl
 | v::r,o,w=>by rw [World.setCells,Zar g k hk r];exact Below.heap_setCell w ⟨g,o,none⟩ v k hk
theorem below_setTU {w w':World}{k:Nat}(h:Below k w w')(g o:Nat)(vs:List Value)(hg:k<=g):Below k w (w'.setCells g o vs):=by
 obtain⟨h1,h2,h3,h4⟩:=Zbn w' g o vs
 exact⟨h2.trans h.os,h3.trans h.tape,h4.trans h.output,by rw [h1];exact h.size,fun j hj=>(Zar g j (by omega) vs o w').trans (h.block j hj)⟩
set_option maxHeartbeats 4000000 in
theorem listTU_any (w:World)(P B n c first:Nat)(a:Option Addr)(ys xs:List Int)(h:EAt w P B a n c first ys xs) :
  Calls Tryz.prog 160 #[.pointer (some ⟨P,5,none⟩)] w fun e w'=>∃a' c',e= .returned (.slice a' xs.length c')/\w'.ownsRow w.heap.size 39 1 (.slice a' xs.length c') xs.length (xs.flatMap u64C)/\Below w.heap.size w w':=by
 obtain⟨m,hm⟩:∃m,m=xs.length:=⟨_,rfl⟩
 have c0:=h.c0
 have c1:=h.c1
 have c2:=h.c2
 have hlen:=h.len
 have hring:=h.ring
 have hfew:=h.few
 have hf:=hring.few
 have hnm:m<=n:=by omega
 rw [<-hm] at c2 ⊢
 have hem:=emptyTU_any w P m c2
 have HE:=Hid.mk hem
 by_cases h0:m=0
 ·subst h0
  have hx:xs=[]:=List.eq_nil_of_length_eq_zero hm.symm
  have HX:=Hid.mk hx
  clear hm hx hring hf hem
  go_enter Tryz.func160,Tryz.ntmps160
  go_wp2_with (go_at_call 84;refine HE.out.mono ?_;rintro e w1 ⟨rfl,hw1⟩;rw [hw1])
  go_ret
  exact⟨none,0,rfl,by rw [HX.out];exact World.ownsRow_nil _ _ _ _,Below.refl _ _⟩
 ·obtain⟨g,cur,rfl,hg,hnc,hcm,hgc⟩:∃g cur,a=some ⟨g,0,none⟩/\B<=g/\n<=c/\c<=maxLen/\w.heap[g]? =some (.cells cur 39 (0,0)):=by
   rcases h.row.2 with⟨h2,h3⟩ | ⟨g,cap,cur,h2,hg,hh,h3,h4,_⟩
   ·simp only [Value.slice.injEq] at h2
    omega
   ·obtain⟨rfl,_,rfl⟩:a=some ⟨g,0,none⟩/\n=n/\c=cap:=by simpa using h2
    exact⟨g,cur,rfl,hg,h3,h4,hh⟩
  have hcell:∀j,j<n * 1->w.cell? ⟨g,j,none⟩=(ys.flatMap u64C)[j]? :=fun j hj=>h.row.cellAt j hj
  have hfl:first<n:=by
   rcases hring.first_ with h1 | ⟨_,h2⟩
   ·omega
   ·subst h2;simp at hlen;omega
  have hgl:g<w.heap.size:=(Array.getElem?_eq_some_iff.1 hgc).1
  have hxl:=hring.list
  unfold maxLen at hcm
  have hmk:=makeTU w m (by omega)
  have HXS:=Hid.mk (And.intro hm (And.intro hxl (And.intro hlen hcell)))
  have HP:=Hid.mk (And.intro h.pb h.bs)
  obtain⟨lb,hlb⟩:∃lb,lb=w.heap.size:=⟨_,rfl⟩
  obtain⟨w1,hw1⟩:∃w1,w1=w.alloc (.cells (madeCells (.int .u64 0:Value).cells (m * 1)) 39):=⟨_,rfl⟩
  rw [<-hlb,<-hw1] at hmk
  have hb1:Below w.heap.size w w1:=by rw [hw1];exact (Below.refl _ _).alloc (Nat.le_refl _) _
  have hl1:w1.heap[lb]? =some (.cells (madeCells (.int .u64 0:Value).cells (m * 1)) 39 (0,0)):=by rw [hw1,hlb];exact heap_alloc_new w _
  have c0:=cell_later hb1 c0
  have c1:=cell_later hb1 c1
  have c2:=cell_later hb1 c2
  have HB1:=Hid.mk (And.intro hb1 (And.intro hlb hl1))
  have HC0:=Hid.mk h.c0
  have g0:decide (m=0)=false:=decide_eq_false h0
  have g1:(first:Int)<=(n:Int):=by omega
  have g2:¬(c=first):=by omega
  have g3:n<=c:=hnc
  obtain⟨m1,hm1⟩:∃m1,m1=Nat.min (n - first) m:=⟨_,rfl⟩
  have hm1m:m1<=m:=by rw [hm1];exact Nat.min_le_right _ _
  have hsrc1:∀j v,(((ys.drop first).take m1).flatMap u64C)[j]? =some v->w1.drew.cell? (Addr.add ⟨g,first * 1,none⟩ j)=some v:=by
   intro j v hv
   have hj:j<m1 * 1:=by
    have:=(List.getElem?_eq_some_iff.1 hv).1
    rw [Zau,List.length_take] at this
    have:=Nat.min_le_left m1 (ys.drop first).length
    omega
   have hm1n:m1<=n - first:=by rw [hm1];exact Nat.min_le_left _ _
   rw [Zb5]
   refine (World.cell?_of_block (a:=⟨g,first * 1+j,none⟩) (hb1.block g hgl)).trans ?_
   rw [hcell _ (by omega),<-hv,<-u64C_take,<-u64C_drop,List.getElem?_take_of_lt hj,List.getElem?_drop]
  have hz1:((ys.drop first).take m1).length=m1:=by
   rw [List.length_take,List.length_drop,hlen]
   have:m1<=n - first:=by rw [hm1];exact Nat.min_le_left _ _
   omega
  have hcp1:=fun ty=>copyTU w1.drew ty lb 0 m m m1 ⟨g,first * 1,none⟩ (n - first) (c - first) _ ((ys.drop first).take m1) hl1 hm1.symm hz1 (by rw [size_madeCells];omega) hsrc1
  have HS1:=Hid.mk (And.intro hsrc1 (And.intro hz1 hm1))
  try simp only [Nat.mul_one] at hcp1
  clear hw1 hm hxl hlen hcell hring hf hem hgc hsrc1 hz1 hb1 hl1 h hlb hm1
  go_enter Tryz.func160,Tryz.ntmps160
  go_upto_region 4 with (go_at_call 84;refine HE.out.mono ?_;rintro e w9 ⟨rfl,hw9⟩;rw [hw9])
  try rw [<-HB1.out.2.1]
  go_region
  obtain⟨w2,hw2⟩:∃w2,w2=w1.drew.setCells lb 0 (((ys.drop first).take m1).flatMap u64C):=⟨_,rfl⟩
  try rw [<-hw2]
  have hfl1:=Zau ((ys.drop first).take m1)
  have hb2:Below w.heap.size w w2:=by rw [hw2];exact below_setTU HB1.out.1.drew _ _ _ (by have:=HB1.out.2.1;omega)
  obtain⟨cur2,k1,k2,k3⟩:=Zc9 lb 39 (((ys.drop first).take m1).flatMap u64C) 0 w1.drew _ HB1.out.2.2 (by rw [size_madeCells,hfl1,HS1.out.2.1,Nat.zero_add];exact Nat.mul_le_mul_right _ hm1m)
  rw [<-hw2] at k1
  rw [size_madeCells] at k2
  have k3':cur2.toList.take (m1 * 1)=((ys.drop first).take m1).flatMap u64C:=by
   rw [k3]
   simp only [List.take_zero,List.nil_append]
   rw [List.take_append_of_le_length (by rw [hfl1,HS1.out.2.1];exact Nat.le_refl _),List.take_of_length_le (by rw [hfl1,HS1.out.2.1];exact Nat.le_refl _)]
  have HB2:=Hid.mk (And.intro hb2 (And.intro k1 (And.intro k2 k3')))
  have hPs:P<w.heap.size:=by have:=HP.out;omega
  have c0:=(World.cell?_of_block (a:=⟨P,5,none⟩) (hb2.block P hPs)).trans (HC0.out)
  clear hcp1 k1 k2 k3 k3' hw2 hb2 hfl1 c1 c2
  by_cases h1:m1=m
  ·subst h1
   have hcp2:∀A C,∀ty,(Builtin.copy_ #[58,58] ty #[.slice A 0 C, .slice (some ⟨g,0,none⟩) n c]).run Tryz.prog w2.drew= .ok (goInt 0) w2.drew:=fun A C ty=>Zcs w2.drew 58 58 ty 39 1 A _ 0 C n c Tryz.underlying58 sizeTU (Nat.min_zero _)
   go_wp2_with fail
   go_region
   go_wp2_with fail
   go_ret
   obtain⟨q1,q2,q3,q4⟩:=HB2.out
   obtain⟨x1,x2,x3,_⟩:=HXS.out
   have hle:m1<=n - first:=by
    have:=HS1.out.2.2
    rw [this]
    exact Nat.min_le_left _ _
   have hx:xs.flatMap u64C=cur2.toList.take (m1 * 1):=by
    rw [q4,x2,<-x1,show m1 - (ys.length - first)=0 by omega]
    simp
   refine⟨some ⟨lb,0,none⟩,m1,rfl,⟨by rw [Zau,<-x1],Or.inr ⟨lb,m1,cur2,rfl,by have:=HB1.out.2.1;omega,q2,Nat.le_refl _,by unfold maxLen;omega,q3,hx.symm⟩⟩,⟨q1.os,q1.tape,q1.output,q1.size,q1.block⟩⟩
  ·have hm1n:m1=n - first:=by
    have:=HS1.out.2.2
    rcases Nat.le_total (n - first) m with h2 | h2
    ·rw [this];exact Nat.min_eq_left h2
    ·exact absurd (this.trans (Nat.min_eq_right h2)) h1
   obtain⟨m2,hm2⟩:∃m2,m2=m - m1:=⟨_,rfl⟩
   have hsrc2:∀j v,((ys.take m2).flatMap u64C)[j]? =some v->w2.drew.cell? (Addr.add ⟨g,0,none⟩ j)=some v:=by
    intro j v hv
    have hj:j<m2 * 1:=by
     have:=(List.getElem?_eq_some_iff.1 hv).1
     rw [Zau,List.length_take] at this
     have:=Nat.min_le_left m2 ys.length
     omega
    rw [Zb5]
    refine (World.cell?_of_block (a:=⟨g,0+j,none⟩) (HB2.out.1.block g hgl)).trans ?_
    rw [HXS.out.2.2.2 _ (by omega),<-hv,<-u64C_take,List.getElem?_take_of_lt hj,Nat.zero_add]
   have hz2:(ys.take m2).length=m2:=by rw [List.length_take,HXS.out.2.2.1];omega
   have hcp2:=fun ty=>copyTU w2.drew ty lb (m1 * 1) m2 m2 m2 ⟨g,0,none⟩ n c cur2 (ys.take m2) HB2.out.2.1 (by show min n m2=m2;omega) hz2 (by rw [HB2.out.2.2.1,<-Nat.add_mul];exact Nat.mul_le_mul_right _ (by omega)) hsrc2
   try simp only [Nat.mul_one] at hcp2
   have g5:(m1:Int)<=(m:Int):=by omega
   have g6:m - m1=m2:=hm2.symm
   have g7:¬(m=m1):=fun e=>h1 e.symm
   have HM2:=Hid.mk (And.intro hm2 (And.intro hm1n hz2))
   clear hsrc2 hm1n hz2 hm2 h1
   go_wp2_with fail
   go_region
   go_wp2_with fail
   go_ret
   obtain⟨q1,q2,q3,q4⟩:=HB2.out
   obtain⟨x1,x2,x3,_⟩:=HXS.out
   obtain⟨y1,y2,y3⟩:=HM2.out
   have hfl2:=Zau (ys.take m2)
   obtain⟨cur3,k1,k2,k3⟩:=Zc9 lb 39 ((ys.take m2).flatMap u64C) (m1 * 1) w2.drew cur2 q2 (by rw [hfl2,y3,q3,<-Nat.add_mul];exact Nat.mul_le_mul_right _ (by omega))
   have hx:cur3.toList.take (m * 1)=xs.flatMap u64C:=by
    have e1:m * 1=(cur2.toList.take (m1 * 1)++(ys.take m2).flatMap u64C).length:=by
     rw [List.length_append,List.length_take,Array.length_toList,q3,hfl2,y3];omega
    rw [k3,e1,List.take_append_of_le_length (Nat.le_refl _),List.take_length,q4,x2,<-x1,List.flatMap_append,show m - (ys.length - first)=m2 by omega]
    have hd:(ys.drop first).length<=m:=by rw [List.length_drop];omega
    have hd1:(ys.drop first).length<=m1:=by rw [List.length_drop];omega
    rw [List.take_of_length_le hd,List.take_of_length_le hd1]
   refine⟨some ⟨lb,0,none⟩,m,rfl,⟨by rw [Zau,<-x1],Or.inr ⟨lb,m,cur3,rfl,by have:=HB1.out.2.1;omega,(by first | exact k1 | (rw [Nat.mul_one] at k1;exact k1)),Nat.le_refl _,by unfold maxLen;omega,by rw [k2,q3],hx⟩⟩,?_⟩
   exact below_setTU q1.drew _ _ _ (by have:=HB1.out.2.1;omega)
theorem u64C_set (ys:List Int)(p:Nat)(x:Int)(hp:p<ys.length):(ys.flatMap u64C).take (p * 1)++u64C x++(ys.flatMap u64C).drop (p * 1+1)=(ys.set p x).flatMap u64C:=by
 rw [u64C_take,show p * 1+1=(p+1) * 1 by omega,u64C_drop,List.set_eq_take_append_cons_drop,if_pos hp,List.flatMap_append,List.flatMap_cons,List.append_assoc]
theorem own_setTU {w:World}{B g n c p:Nat}{ys:List Int}(h:w.ownsRow B 39 1 (.slice (some ⟨g,0,none⟩) n c) n (ys.flatMap u64C))(hl:ys.length=n)(hp:p<n)(x:Int):(w.setCells g (p * 1) (u64C x)).ownsRow B 39 1 (.slice (some ⟨g,0,none⟩) n c) n ((ys.set p x).flatMap u64C):=by
 rcases h.2 with⟨h2,_⟩ | ⟨g',cap,cur,h2,hg,hh,h3,h4,h5,h6⟩
 ·cases h2
 ·obtain⟨rfl,rfl⟩:g=g'/\c=cap:=by simpa using h2
  have hpk:p * 1+1<=n * 1:=by have:=Nat.mul_le_mul_right 1 (show p+1<=n by omega);omega
  have hnk:n * 1<=c * 1:=Nat.mul_le_mul_right _ h3
  have hel:=Zbm x
  obtain⟨cur',k1,k2,k3⟩:=Zc9 g 39 (u64C x) (p * 1) w cur hh (by omega)
  refine⟨by rw [Zau,List.length_set,hl],Or.inr ⟨g,c,cur',rfl,hg,k1,h3,h4,by omega,?_⟩⟩
  rw [<-u64C_set ys p x (by omega),<-h6,k3,hel]
  have e1:(cur.toList.take (n * 1)).take (p * 1)=cur.toList.take (p * 1):=by rw [List.take_take,Nat.min_eq_left (by omega)]
  rw [e1,List.take_append,List.take_of_length_le (by rw [List.length_append,List.length_take,Array.length_toList,hel];omega),List.length_append,List.length_take,Array.length_toList,hel,Nat.min_eq_left (by omega),List.drop_take]
theorem EAt.frame {w w':World}{P B n c first:Nat}{a:Option Addr}{ys xs:List Int}(h:EAt w P B a n c first ys xs)(hs:w.heap.size<=w'.heap.size)(hP:∀o,5<=o->o<8->w'.cell? ⟨P,o,none⟩=w.cell? ⟨P,o,none⟩)(hf:∀o,w'.frozen? ⟨P,o,none⟩=w.frozen? ⟨P,o,none⟩)(hr:∀z,(Value.slice a n c).ownBlock=some z->w'.heap[z]? =w.heap[z]?):EAt w' P B a n c first ys xs:=by
 refine⟨(hP 5 (by omega) (by omega)).trans h.c0,(hP 6 (by omega) (by omega)).trans h.c1,(hP 7 (by omega) (by omega)).trans h.c2,fun o=>(hf o).trans (h.fz o),⟨h.row.1,?_⟩,h.len,h.ring,h.few,h.pb,Nat.le_trans h.bs hs⟩
 rcases h.row.2 with h2 | ⟨g,cap,cur,h2,hg,hh,h3⟩
 ·exact Or.inl h2
 ·exact Or.inr ⟨g,cap,cur,h2,hg,(hr g (by rw [h2];rfl)).trans hh,h3⟩
theorem EAt.below {w w':World}{P B n c first:Nat}{a:Option Addr}{ys xs:List Int}(h:EAt w P B a n c first ys xs)(hb:Below w.heap.size w w'):EAt w' P B a n c first ys xs:=by
 have hP:P<w.heap.size:=Nat.lt_of_lt_of_le h.pb h.bs
 exact h.frame hb.size (fun o _ _=>World.cell?_of_block (a:=⟨P,o,none⟩) (hb.block P hP)) (fun o=>World.frozen?_of_block (a:=⟨P,o,none⟩) (hb.block P hP)) (fun z hz=>hb.block z (h.row.lt z hz).2)
theorem EAt.pushed {w:World}{P B g n c first:Nat}{ys xs:List Int}(h:EAt w P B (some ⟨g,0,none⟩) n c first ys xs)(hr:xs.length<n)(x:Int) :
  EAt (((w.setCells g ((first+xs.length) % n * 1) (u64C x)).setCell ⟨P,7,none⟩ (.int .i64 (xs.length+1:Nat))).drew) P B (some ⟨g,0,none⟩) n c first (ys.set ((first+xs.length) % n) x) (xs++[x])/\RF w (((w.setCells g ((first+xs.length) % n * 1) (u64C x)).setCell ⟨P,7,none⟩ (.int .i64 (xs.length+1:Nat))).drew) P (some g) 5 8:=by
 have hgp:g≠P:=by
  have:=(h.row.lt g rfl).1
  have:=h.pb
  omega
 have hpos:(first+xs.length) % n<n:=Nat.mod_lt _ (by omega)
 have hrow:=own_setTU h.row h.len hpos x
 have hP:∀o,(w.setCells g ((first+xs.length) % n * 1) (u64C x)).cell? ⟨P,o,none⟩=w.cell? ⟨P,o,none⟩:=fun o=>World.cell?_of_block (a:=⟨P,o,none⟩) (Zar g P (Ne.symm hgp) _ _ _)
 have hFz:∀o,(w.setCells g ((first+xs.length) % n * 1) (u64C x)).frozen? ⟨P,o,none⟩=w.frozen? ⟨P,o,none⟩:=fun o=>World.frozen?_of_block (a:=⟨P,o,none⟩) (Zar g P (Ne.symm hgp) _ _ _)
 obtain⟨s1,s2,s3,s4⟩:=Zbn w g ((first+xs.length) % n * 1) (u64C x)
 have hlen:=h.len
 generalize hw1:w.setCells g ((first+xs.length) % n * 1) (u64C x)=w1 at *
 refine⟨⟨?_,?_,?_,fun o=> ?_,?_,by rw [List.length_set];exact h.len,?_,h.few,h.pb,?_⟩,?_⟩
 ·exact (Zab w1 P 7 5 _ (by decide)).trans ((hP 5).trans h.c0)
 ·exact (Zab w1 P 7 6 _ (by decide)).trans ((hP 6).trans h.c1)
 ·rw [List.length_append,List.length_singleton]
  exact World.cell?_setCell_same w1 ⟨P,7,none⟩ _ ((hP 7).trans h.c2)
 ·exact (World.frozen?_setCell w1 ⟨P,7,none⟩ _ _).trans ((hFz o).trans (h.fz o))
 ·exact (ownsRow_setCell_below hrow h.pb _).drew
 ·have:=h.ring.push (by omega) x
  rw [hlen] at this
  exact this
 ·show B<=(World.setCell w1 ⟨P,7,none⟩ _).heap.size
  simp only [World.setCell,Array.size_modify]
  rw [s1];exact h.bs
 ·refine⟨s2,s3,s4,?_,fun k hk hkP hr=> ?_,fun _ o ho=> ?_,fun _ o=> ?_⟩
  ·show w.heap.size<=(World.setCell w1 ⟨P,7,none⟩ _).heap.size
   simp only [World.setCell,Array.size_modify]
   rw [s1];exact Nat.le_refl _
  ·refine (Below.heap_setCell w1 ⟨P,7,none⟩ _ k hkP).trans ?_
   rw [<-hw1]
   exact Zar g k (fun e=>hr (by rw [e])) _ _ _
  ·exact (Zab w1 P 7 o _ (by omega)).trans (hP o)
  ·exact (World.frozen?_setCell w1 ⟨P,7,none⟩ _ _).trans (hFz o)
theorem copyInTU {w:World}{B b N m c:Nat}{a:Option Addr}{xs:List Int}{cur:Array Value}(hw:w.heap[b]? =some (.cells cur 39 (0,0)))(ho:w.ownsRow B 39 1 (.slice a m c) m (xs.flatMap u64C))(hm:m=xs.length)(hN:m<=N)(hs:cur.size=N * 1)(ty:TypeId) :
  (Builtin.copy_ #[58,58] ty #[.slice (some ⟨b,0,none⟩) N N, .slice a m c]).run Tryz.prog w= .ok (goInt m) (w.setCells b 0 (xs.flatMap u64C)):=by
 rcases ho.2 with⟨h2,h3⟩ | ⟨g,cap,cur',h2,hg,hh,h4⟩
 ·have h0:m=0:=by
   simp only [Value.slice.injEq] at h2
   omega
  have hx:xs=[]:=List.eq_nil_of_length_eq_zero (by omega)
  subst hx h0
  exact Zcs w 58 58 ty 39 1 _ a N N 0 c Tryz.underlying58 sizeTU (Nat.zero_min _)
 ·obtain⟨rfl,_,rfl⟩:a=some ⟨g,0,none⟩/\m=m/\c=cap:=by simpa using h2
  refine copyTU w ty b 0 N N m ⟨g,0,none⟩ m c cur xs hw (Nat.min_eq_left hN) hm.symm (by rw [hs,Nat.zero_add];exact Nat.mul_le_mul_right _ hN) (fun j v hv=> ?_)
  have hj:j<m * 1:=by
   have:=(List.getElem?_eq_some_iff.1 hv).1
   rw [Zau] at this
   rw [hm];exact this
  rw [Zb5,Nat.zero_add,ho.cellAt j hj]
  exact hv
theorem EAt.grown {w w3:World}{P B n c first nb N:Nat}{a:Option Addr}{ys xs:List Int}(h:EAt w P B a n c first ys xs)(hb:Below w.heap.size w w3)(hnb:w.heap.size<=nb)(hl:w3.heap[nb]? =some (.cells (madeCells (.int .u64 0:Value).cells (N * 1)) 39 (0,0)))(hN:xs.length+1<=N/\N<=1000) :
  EAt (((w3.setCells nb 0 (xs.flatMap u64C)).setCell ⟨P,5,none⟩ (.slice (some ⟨nb,0,none⟩) N N)).setCell ⟨P,6,none⟩ (.int .i64 0)) P B (some ⟨nb,0,none⟩) N N 0 (xs++List.replicate (N - xs.length) (0:Int)) xs/\RF w (((w3.setCells nb 0 (xs.flatMap u64C)).setCell ⟨P,5,none⟩ (.slice (some ⟨nb,0,none⟩) N N)).setCell ⟨P,6,none⟩ (.int .i64 0)) P (Value.slice a n c).ownBlock 5 8:=by
 have hPs:P<w.heap.size:=Nat.lt_of_lt_of_le h.pb h.bs
 have hfl:=Zau xs
 have hxN:xs.length * 1<=N * 1:=Nat.mul_le_mul_right _ (by omega)
 obtain⟨cur',k1,k2,k3⟩:=Zc9 nb 39 (xs.flatMap u64C) 0 w3 _ hl (by rw [size_madeCells];omega)
 have hb4:=below_setTU hb nb 0 (xs.flatMap u64C) hnb
 generalize hw4:w3.setCells nb 0 (xs.flatMap u64C)=w4 at *
 have hP:∀o,w4.cell? ⟨P,o,none⟩=w.cell? ⟨P,o,none⟩:=fun o=>World.cell?_of_block (a:=⟨P,o,none⟩) (hb4.block P hPs)
 have hFz:∀o,w4.frozen? ⟨P,o,none⟩=w.frozen? ⟨P,o,none⟩:=fun o=>World.frozen?_of_block (a:=⟨P,o,none⟩) (hb4.block P hPs)
 have hrow:w4.ownsRow B 39 1 (.slice (some ⟨nb,0,none⟩) N N) N ((xs++List.replicate (N - xs.length) (0:Int)).flatMap u64C):=by
  refine⟨by rw [Zau];simp;omega,Or.inr ⟨nb,N,cur',rfl,Nat.le_trans h.bs hnb,k1,Nat.le_refl _,by unfold maxLen;omega,by rw [k2,size_madeCells],?_⟩⟩
  have e1:cur'.toList.take (N * 1)=cur'.toList:=List.take_of_length_le (by rw [Array.length_toList,k2,size_madeCells];exact Nat.le_refl _)
  rw [e1,k3,madeTU,List.take_zero,List.nil_append,List.flatMap_append,Nat.zero_add,hfl,u64C_drop,List.drop_replicate]
 refine⟨⟨?_,?_,?_,fun o=> ?_,?_,by simp;omega,RingIs.of_list _ _,hN.2,h.pb,?_⟩,⟨hb4.os,hb4.tape,hb4.output,?_,fun k hk hkP _=> ?_,fun _ o ho=> ?_,fun _ o=> ?_⟩⟩
 ·rw [Zab _ P 6 5 _ (by decide)]
  exact World.cell?_setCell_same _ _ _ ((hP 5).trans h.c0)
 ·exact World.cell?_setCell_same _ _ _ (u:= .int .i64 first) (by rw [Zab _ P 5 6 _ (by decide)];exact (hP 6).trans h.c1)
 ·rw [Zab _ P 6 7 _ (by decide),Zab _ P 5 7 _ (by decide)];exact (hP 7).trans h.c2
 ·rw [World.frozen?_setCell,World.frozen?_setCell];exact (hFz o).trans (h.fz o)
 ·exact ownsRow_setCell_below (ownsRow_setCell_below hrow h.pb _) h.pb _
 ·simp only [World.setCell,Array.size_modify]
  exact Nat.le_trans h.bs hb4.size
 ·simp only [World.setCell,Array.size_modify]
  exact hb4.size
 ·exact (Below.heap_setCell _ ⟨P,6,none⟩ _ k hkP).trans ((Below.heap_setCell _ ⟨P,5,none⟩ _ k hkP).trans (hb4.block k hk))
 ·rw [Zab _ P 6 o _ (by omega),Zab _ P 5 o _ (by omega)];exact hP o
 ·rw [World.frozen?_setCell,World.frozen?_setCell];exact hFz o
end Go.Proofs.YtgdcjccbdmcebabGreatDoor
