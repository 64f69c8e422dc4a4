import Derived.Test.YtgdcjccbdmcebabGreatDoorM24
import Derived.Defers
import Derived.Laws.Pointers
set_option linter.unusedSimpArgs false
set_option linter.unusedVariables false
namespace Go.Proofs.YtgdcjccbdmcebabGreatDoor
section
open Go.RowKit
set_option maxRecDepth 100000
def Nd (w:World)(D:Nat)(g:Nat->Value):Prop:=∀j,j<7->w.cell? ⟨D,j,none⟩=some (g j)/\w.frozen? ⟨D,j,none⟩=false
theorem Nd.set {w:World}{D:Nat}{g:Nat->Value}(h:Nd w D g)(i:Nat)(hi:i<7)(v:Value):Nd (w.setCell ⟨D,i,none⟩ v) D (fun j=>if j=i then v else g j):=by
 intro j hj
 refine⟨?_,by rw [World.frozen?_setCell];exact (h j hj).2⟩
 by_cases e:j=i
 ·subst e
  simp only [if_true]
  exact World.cell?_setCell_same _ _ _ (h j hj).1
 ·simp only [e,if_false]
  rw [World.cell?_setCell_other _ _ _ _ (fun e2=>e (by have:=(Addr.mk.inj e2).2.1;omega))]
  exact (h j hj).1
theorem Nd.block {w w':World}{D:Nat}{g:Nat->Value}(h:Nd w D g)(e:w'.heap[D]? =w.heap[D]?):Nd w' D g:=fun j hj =>
 ⟨(World.cell?_of_block (a:=⟨D,j,none⟩) e).trans (h j hj).1,(World.frozen?_of_block (a:=⟨D,j,none⟩) e).trans (h j hj).2⟩
theorem Nd.lt {w:World}{D:Nat}{g:Nat->Value}(h:Nd w D g):D<w.heap.size:=World.block_lt_of_cell? _ _ (h 0 (by omega)).1
theorem PdAt.set {w:World}{R D o:Nat}{a:Option Addr}{n cap:Nat}{p:Int}(h:PdAt w R a n cap p)(hD:D≠R)(v:Value):PdAt (w.setCell ⟨D,o,none⟩ v) R a n cap p:=by
 have e:(w.setCell ⟨D,o,none⟩ v).heap[R]? =w.heap[R]? :=Below.heap_setCell w ⟨D,o,none⟩ v R (by simpa using hD.symm)
 exact⟨(World.cell?_of_block (a:=⟨R,0,none⟩) e).trans h.c0,(World.cell?_of_block (a:=⟨R,1,none⟩) e).trans h.c1,(World.frozen?_of_block (a:=⟨R,1,none⟩) e).trans h.f1⟩
theorem PdAt.below {w w':World}{R:Nat}{a:Option Addr}{n cap:Nat}{p:Int}(h:PdAt w R a n cap p)(hb:Below w.heap.size w w'):PdAt w' R a n cap p:=by
 have hR:R<w.heap.size:=World.block_lt_of_cell? _ _ h.c0
 exact⟨(hb.cell (p:=⟨R,0,none⟩) hR).trans h.c0,(hb.cell (p:=⟨R,1,none⟩) hR).trans h.c1,(hb.frozen (p:=⟨R,1,none⟩) hR).trans h.f1⟩
theorem Zcm {a b:World}{R D:Nat}(h:a.grownBy b (some R))(hD:a.heap.size<=D)(o:Nat)(v:Value):a.grownBy (b.setCell ⟨D,o,none⟩ v) (some R) :=
 ⟨h.os,h.tape,h.output,Nat.le_trans h.size (by simp [World.setCell]),fun k hk hr=>(Below.heap_setCell b ⟨D,o,none⟩ v k (by simp;omega)).trans (h.block k hk hr)⟩
theorem Zd3 {a b:World}{R:Nat}(h:Below a.heap.size a b):a.grownBy b (some R):=⟨h.os,h.tape,h.output,h.size,fun k hk _=>h.block k hk⟩
structure PnI (w x:World)(R:Nat)(a:Option Addr)(n cap q:Nat)(g:Nat->Value):Prop where
 gr:w.grownBy x (some R)
 pd:PdAt x R a n cap (q:Nat)
 nd:Nd x (w.heap.size+1) g
 ne:Nd x w.heap.size (fun j=>if j=6 then .slice none 0 0 else .int .i64 0)
theorem PnI.num {w x y:World}{R:Nat}{a:Option Addr}{n cap q q':Nat}{g:Nat->Value}(h:PnI w x R a n cap q g)(hR:R<w.heap.size)(ht:RTo x y R)(hp:PdAt y R a n cap (q':Nat))(i:Nat)(hi:i<7)(v:Value) :
  PnI w (y.setCell ⟨w.heap.size+1,i,none⟩ v) R a n cap q' (fun j=>if j=i then v else g j):=by
 have hs:=h.nd.lt
 refine⟨Zcm (Za4 h.gr ht.grown) (by omega) i v,hp.set (by omega) v,(h.nd.block (ht.block _ (by omega))).set i hi v,?_⟩
 refine (h.ne.block (ht.block _ (by omega))).block (Below.heap_setCell y ⟨w.heap.size+1,i,none⟩ v w.heap.size (by simp))
def PnodeIs (B:Nat)(w':World)(R:Nat)(a:Option Addr)(n cap:Nat)(f:Nat->Nat)(r:RS)(e:Ending):Prop :=
 (∃q s la lc,ndS n f r= .good q s/\q<=n/\e= .returned (.agg #[.int .i64 (nxV n f r:Nat), .int .i64 (nxV n f (nxN n f 1 r):Nat), .int .i64 (nxV n f (nxN n f 2 r):Nat), .int .i64 (nxV n f (nxN n f 3 r):Nat), .int .i64 (nxV n f (nxN n f 4 r):Nat), .int .i64 (nxV n f (nxN n f 5 r):Nat), .slice la (nxV n f (nxN n f 6 r)) lc]) /\
  w'.ownsRow B 3 1 (.slice la (nxV n f (nxN n f 6 r)) lc) (nxV n f (nxN n f 6 r)) (Zc5 (nxV n f (nxN n f 6 r)) fun k=>nxV n f (nxN n f (7+k) r))/\PdAt w' R a n cap (q:Nat)) \/
 (∃s,ndS n f r= .bad s/\e=badP s)
theorem nd_link {n:Nat}{f:Nat->Nat}{r r6:RS}(h6:nxN n f 6 r=r6):ndS n f r=nxN n f (1+nxV n f r6) r6:=by
 unfold ndS
 rw [h6,show 7+nxV n f r6=6+(1+nxV n f r6) by omega,nxN_add,h6]
set_option maxHeartbeats 8000000 in
theorem pnode_any (w:World)(R V:Nat)(a:Option Addr)(n cap:Nat)(f:Nat->Nat)(p s:Nat)(hRB:R<w.heap.size)(hVR:V≠R)(hV:w.cell? ⟨V,0,none⟩=some (.pointer (some ⟨R,0,none⟩)))(hn:n<=maxLen)(hp:p<=n)(h:PdAt w R a n cap p)(hR:∀b o,a=some ⟨b,o,none⟩->b≠R)(hb:BytesAt w a n cap f) :
  Calls Tryz.prog 131 #[.pointer (some ⟨V,0,none⟩)] w fun e w'=>PnodeIs w.heap.size w' R a n cap f (.good p s) e/\w.grownBy w' (some R):=by
 have HB:=Hid.mk hb
 have HRR:=Hid.mk hR
 have HP:=Hid.mk h
 have HV:=Hid.mk (fun x (hg:w.grownBy x (some R))=>hg.cell (a:=⟨V,0,none⟩) hV (by simpa using hVR))
 clear hb hR h
 have hkb:Hid (∀o1 o2,Below w.heap.size w ((w.alloc o1).alloc o2)):=Hid.mk fun o1 o2=>((Below.refl _ _).alloc (Nat.le_refl _) _).alloc (by simp) _
 have i0:=six0 (w.heap.size+1)
 have i1:=six1 (w.heap.size+1)
 have i2:=six2 (w.heap.size+1)
 have i3:=six3 (w.heap.size+1)
 have i4:=six4 (w.heap.size+1)
 have i5:=six5 (w.heap.size+1)
 go_enter Tryz.func131,Tryz.ntmps131
 go_wp2_with fail
 refine (numbersOf_any (w.heap.size+1) _).mono ?_
 rintro e x0 ⟨rfl,hb0⟩
 have hbb:Below w.heap.size w x0:=(hkb.out _ _).trans (hb0.mono (by simp;omega))
 have HI0:Hid (PnI w x0 R a n cap p (fun j=>if j=6 then .slice none 0 0 else .int .i64 0)):=Hid.mk ⟨Zd3 hbb,HP.out.below hbb,by
  refine Nd.block ?_ (hb0.block _ (by simp))
  intro j hj
  rcases (show j=0\/j=1\/j=2\/j=3\/j=4\/j=5\/j=6 by omega) with rfl | rfl | rfl | rfl | rfl | rfl | rfl<;>simp,by
  refine Nd.block ?_ (hb0.block _ (by simp;omega))
  intro j hj
  rcases (show j=0\/j=1\/j=2\/j=3\/j=4\/j=5\/j=6 by omega) with rfl | rfl | rfl | rfl | rfl | rfl | rfl<;>simp⟩
 clear hb0 hbb
 generalize sixP (w.heap.size+1)=pv at i0 i1 i2 i3 i4 i5
 have HS0:Hid (nxN n f 0 (.good p s)= .good p s):=Hid.mk rfl
 have V0:=HV.out _ HI0.out.gr
 obtain⟨k0,kf0⟩:=HI0.out.nd 0 (by omega)
 go_wp2_with fail
 refine wp_loop_rounds 7 ?_
 rw [rounds_succ]
 go_wp2_with fail
 refine (Zcz _ R a n cap f p hn hp HI0.out.pd HRR.out (HB.out.grown HRR.out HI0.out.gr)).mono ?_
 rintro e y0 ⟨⟨v0,q1,hv,rfl,hpd⟩ | ⟨hv,rfl,hpd⟩,ht⟩
 case inr =>
  have HX:=Hid.mk (And.intro hv ht.grown)
  clear hv hpd ht
  go_wp2_with fail
  refine⟨rfl,Or.inr ⟨p,?_,rfl⟩,Za4 HI0.out.gr HX.out.2⟩
  exact Zck (j:=0+1) (by show nxS n f (nxN n f 0 _)=_;rw [HS0.out];exact Zc0 HX.out.1) (by omega)
 have hq1:q1<=n:=(Zb3 hv).2.1
 have HS1:Hid (nxN n f 1 (.good p s)= .good q1 p):=Hid.mk (by show nxS n f (nxN n f 0 _)=_;rw [HS0.out];exact Zcj hv)
 have HW0:Hid (nxV n f (nxN n f 0 (.good p s))=v0):=Hid.mk (by rw [HS0.out];exact Zb2 hv)
 have HI1:=Hid.mk (HI0.out.num hRB ht hpd 0 (by omega) (.int .i64 v0))
 obtain⟨k0,kf0⟩:=(HI0.out.nd.block (ht.block _ (by omega))) 0 (by omega)
 clear hv hpd ht V0
 go_wp2_with fail
 have V1:=HV.out _ HI1.out.gr
 clear k0 kf0
 rw [rounds_succ]
 go_wp2_with fail
 refine (Zcz _ R a n cap f q1 hn hq1 HI1.out.pd HRR.out (HB.out.grown HRR.out HI1.out.gr)).mono ?_
 rintro e y1 ⟨⟨v1,q2,hv,rfl,hpd⟩ | ⟨hv,rfl,hpd⟩,ht⟩
 case inr =>
  have HX:=Hid.mk (And.intro hv ht.grown)
  clear hv hpd ht
  go_wp2_with fail
  refine⟨rfl,Or.inr ⟨q1,?_,rfl⟩,Za4 HI1.out.gr HX.out.2⟩
  exact Zck (j:=1+1) (by show nxS n f (nxN n f 1 _)=_;rw [HS1.out];exact Zc0 HX.out.1) (by omega)
 have hq2:q2<=n:=(Zb3 hv).2.1
 have HS2:Hid (nxN n f 2 (.good p s)= .good q2 q1):=Hid.mk (by show nxS n f (nxN n f 1 _)=_;rw [HS1.out];exact Zcj hv)
 have HW1:Hid (nxV n f (nxN n f 1 (.good p s))=v1):=Hid.mk (by rw [HS1.out];exact Zb2 hv)
 have HI2:=Hid.mk (HI1.out.num hRB ht hpd 1 (by omega) (.int .i64 v1))
 obtain⟨k1,kf1⟩:=(HI1.out.nd.block (ht.block _ (by omega))) 1 (by omega)
 clear hv hpd ht V1
 go_wp2_with fail
 have V2:=HV.out _ HI2.out.gr
 clear k1 kf1
 rw [rounds_succ]
 go_wp2_with fail
 refine (Zcz _ R a n cap f q2 hn hq2 HI2.out.pd HRR.out (HB.out.grown HRR.out HI2.out.gr)).mono ?_
 rintro e y2 ⟨⟨v2,q3,hv,rfl,hpd⟩ | ⟨hv,rfl,hpd⟩,ht⟩
 case inr =>
  have HX:=Hid.mk (And.intro hv ht.grown)
  clear hv hpd ht
  go_wp2_with fail
  refine⟨rfl,Or.inr ⟨q2,?_,rfl⟩,Za4 HI2.out.gr HX.out.2⟩
  exact Zck (j:=2+1) (by show nxS n f (nxN n f 2 _)=_;rw [HS2.out];exact Zc0 HX.out.1) (by omega)
 have hq3:q3<=n:=(Zb3 hv).2.1
 have HS3:Hid (nxN n f 3 (.good p s)= .good q3 q2):=Hid.mk (by show nxS n f (nxN n f 2 _)=_;rw [HS2.out];exact Zcj hv)
 have HW2:Hid (nxV n f (nxN n f 2 (.good p s))=v2):=Hid.mk (by rw [HS2.out];exact Zb2 hv)
 have HI3:=Hid.mk (HI2.out.num hRB ht hpd 2 (by omega) (.int .i64 v2))
 obtain⟨k2,kf2⟩:=(HI2.out.nd.block (ht.block _ (by omega))) 2 (by omega)
 clear hv hpd ht V2
 go_wp2_with fail
 have V3:=HV.out _ HI3.out.gr
 clear k2 kf2
 rw [rounds_succ]
 go_wp2_with fail
 refine (Zcz _ R a n cap f q3 hn hq3 HI3.out.pd HRR.out (HB.out.grown HRR.out HI3.out.gr)).mono ?_
 rintro e y3 ⟨⟨v3,q4,hv,rfl,hpd⟩ | ⟨hv,rfl,hpd⟩,ht⟩
 case inr =>
  have HX:=Hid.mk (And.intro hv ht.grown)
  clear hv hpd ht
  go_wp2_with fail
  refine⟨rfl,Or.inr ⟨q3,?_,rfl⟩,Za4 HI3.out.gr HX.out.2⟩
  exact Zck (j:=3+1) (by show nxS n f (nxN n f 3 _)=_;rw [HS3.out];exact Zc0 HX.out.1) (by omega)
 have hq4:q4<=n:=(Zb3 hv).2.1
 have HS4:Hid (nxN n f 4 (.good p s)= .good q4 q3):=Hid.mk (by show nxS n f (nxN n f 3 _)=_;rw [HS3.out];exact Zcj hv)
 have HW3:Hid (nxV n f (nxN n f 3 (.good p s))=v3):=Hid.mk (by rw [HS3.out];exact Zb2 hv)
 have HI4:=Hid.mk (HI3.out.num hRB ht hpd 3 (by omega) (.int .i64 v3))
 obtain⟨k3,kf3⟩:=(HI3.out.nd.block (ht.block _ (by omega))) 3 (by omega)
 clear hv hpd ht V3
 go_wp2_with fail
 have V4:=HV.out _ HI4.out.gr
 clear k3 kf3
 rw [rounds_succ]
 go_wp2_with fail
 refine (Zcz _ R a n cap f q4 hn hq4 HI4.out.pd HRR.out (HB.out.grown HRR.out HI4.out.gr)).mono ?_
 rintro e y4 ⟨⟨v4,q5,hv,rfl,hpd⟩ | ⟨hv,rfl,hpd⟩,ht⟩
 case inr =>
  have HX:=Hid.mk (And.intro hv ht.grown)
  clear hv hpd ht
  go_wp2_with fail
  refine⟨rfl,Or.inr ⟨q4,?_,rfl⟩,Za4 HI4.out.gr HX.out.2⟩
  exact Zck (j:=4+1) (by show nxS n f (nxN n f 4 _)=_;rw [HS4.out];exact Zc0 HX.out.1) (by omega)
 have hq5:q5<=n:=(Zb3 hv).2.1
 have HS5:Hid (nxN n f 5 (.good p s)= .good q5 q4):=Hid.mk (by show nxS n f (nxN n f 4 _)=_;rw [HS4.out];exact Zcj hv)
 have HW4:Hid (nxV n f (nxN n f 4 (.good p s))=v4):=Hid.mk (by rw [HS4.out];exact Zb2 hv)
 have HI5:=Hid.mk (HI4.out.num hRB ht hpd 4 (by omega) (.int .i64 v4))
 obtain⟨k4,kf4⟩:=(HI4.out.nd.block (ht.block _ (by omega))) 4 (by omega)
 clear hv hpd ht V4
 go_wp2_with fail
 have V5:=HV.out _ HI5.out.gr
 clear k4 kf4
 rw [rounds_succ]
 go_wp2_with fail
 refine (Zcz _ R a n cap f q5 hn hq5 HI5.out.pd HRR.out (HB.out.grown HRR.out HI5.out.gr)).mono ?_
 rintro e y5 ⟨⟨v5,q6,hv,rfl,hpd⟩ | ⟨hv,rfl,hpd⟩,ht⟩
 case inr =>
  have HX:=Hid.mk (And.intro hv ht.grown)
  clear hv hpd ht
  go_wp2_with fail
  refine⟨rfl,Or.inr ⟨q5,?_,rfl⟩,Za4 HI5.out.gr HX.out.2⟩
  exact Zck (j:=5+1) (by show nxS n f (nxN n f 5 _)=_;rw [HS5.out];exact Zc0 HX.out.1) (by omega)
 have hq6:q6<=n:=(Zb3 hv).2.1
 have HS6:Hid (nxN n f 6 (.good p s)= .good q6 q5):=Hid.mk (by show nxS n f (nxN n f 5 _)=_;rw [HS5.out];exact Zcj hv)
 have HW5:Hid (nxV n f (nxN n f 5 (.good p s))=v5):=Hid.mk (by rw [HS5.out];exact Zb2 hv)
 have HI6:=Hid.mk (HI5.out.num hRB ht hpd 5 (by omega) (.int .i64 v5))
 obtain⟨k5,kf5⟩:=(HI5.out.nd.block (ht.block _ (by omega))) 5 (by omega)
 clear hv hpd ht V5
 go_wp2_with fail
 have V6:=HV.out _ HI6.out.gr
 clear k5 kf5
 rw [rounds_succ]
 go_wp2_with fail
 have hs6:=HI6.out.gr.size
 refine (plist_any _ R a n cap f q6 q5 (by omega) hn hq6 HI6.out.pd HRR.out (HB.out.grown HRR.out HI6.out.gr)).mono ?_
 rintro e z ⟨hx,hg⟩
 have HG:=Hid.mk (Za4 HI6.out.gr hg)
 have hD:=HI6.out.nd.lt
 rcases hx with⟨q7,s7,la,lc,hst,hq7,rfl,hown,hpd⟩ | ⟨s7,hst,rfl⟩
 case inr =>
  have HX:=Hid.mk hst
  clear hst hg
  go_wp2_with fail
  exact⟨rfl,Or.inr ⟨s7,by rw [nd_link HS6.out];exact HX.out,rfl⟩,HG.out⟩
 have HX:=Hid.mk (And.intro hst (And.intro hown hpd))
 have hnd:=HI6.out.nd.block (hg.block _ hD (by simp;omega))
 have hne:=HI6.out.ne.block (hg.block _ (by omega) (by simp;omega))
 clear hst hown hpd hg V6
 have HND:=Hid.mk hnd
 have HNE:=Hid.mk hne
 have d0:z.cell? ⟨w.heap.size+1,0,none⟩=some (.int .i64 v0):=by have:=(hnd 0 (by omega)).1;simpa using this
 have e0:z.cell? ⟨w.heap.size,0,none⟩=some (.int .i64 0):=by have:=(hne 0 (by omega)).1;simpa using this
 have ef0:=(hne 0 (by omega)).2
 have d1:z.cell? ⟨w.heap.size+1,1,none⟩=some (.int .i64 v1):=by have:=(hnd 1 (by omega)).1;simpa using this
 have e1:z.cell? ⟨w.heap.size,1,none⟩=some (.int .i64 0):=by have:=(hne 1 (by omega)).1;simpa using this
 have ef1:=(hne 1 (by omega)).2
 have d2:z.cell? ⟨w.heap.size+1,2,none⟩=some (.int .i64 v2):=by have:=(hnd 2 (by omega)).1;simpa using this
 have e2:z.cell? ⟨w.heap.size,2,none⟩=some (.int .i64 0):=by have:=(hne 2 (by omega)).1;simpa using this
 have ef2:=(hne 2 (by omega)).2
 have d3:z.cell? ⟨w.heap.size+1,3,none⟩=some (.int .i64 v3):=by have:=(hnd 3 (by omega)).1;simpa using this
 have e3:z.cell? ⟨w.heap.size,3,none⟩=some (.int .i64 0):=by have:=(hne 3 (by omega)).1;simpa using this
 have ef3:=(hne 3 (by omega)).2
 have d4:z.cell? ⟨w.heap.size+1,4,none⟩=some (.int .i64 v4):=by have:=(hnd 4 (by omega)).1;simpa using this
 have e4:z.cell? ⟨w.heap.size,4,none⟩=some (.int .i64 0):=by have:=(hne 4 (by omega)).1;simpa using this
 have ef4:=(hne 4 (by omega)).2
 have d5:z.cell? ⟨w.heap.size+1,5,none⟩=some (.int .i64 v5):=by have:=(hnd 5 (by omega)).1;simpa using this
 have e5:z.cell? ⟨w.heap.size,5,none⟩=some (.int .i64 0):=by have:=(hne 5 (by omega)).1;simpa using this
 have ef5:=(hne 5 (by omega)).2
 have d6:z.cell? ⟨w.heap.size+1,6,none⟩=some (.slice none 0 0):=by have:=(hnd 6 (by omega)).1;simpa using this
 have e6:z.cell? ⟨w.heap.size,6,none⟩=some (.slice none 0 0):=by have:=(hne 6 (by omega)).1;simpa using this
 have ef6:=(hne 6 (by omega)).2
 have df6:=(hnd 6 (by omega)).2
 generalize hm:nxV n f (.good q6 q5)=m
 rw [hm] at HX
 clear hnd hne
 go_wp2_with fail
 have hw6:nxV n f (nxN n f 6 (.good p s))=m:=by rw [HS6.out];exact hm
 refine bodyPost_ret (v:= .agg #[.int .i64 v0, .int .i64 v1, .int .i64 v2, .int .i64 v3, .int .i64 v4, .int .i64 v5, .slice la m lc]) (by simp [results,Tryz.results131,go_sem,e0,e1,e2,e3,e4,e5,e6]) rfl ⟨Or.inl ⟨q7,s7,la,lc,?_,hq7,?_,?_,?_⟩,?_⟩
 ·rw [nd_link HS6.out,hm];exact HX.out.1
 ·rw [hw6,HW1.out,HW2.out,HW3.out,HW4.out,HW5.out]
  have:=HW0.out
  simp only [nxN] at this
  rw [this]
 ·rw [hw6]
  have e:(fun k=>(nxV n f (nxN n f (7+k) (.good p s)):Int))=fun k=>(nxV n f (nxN n f (1+k) (.good q6 q5)):Int):=by
   funext k
   rw [show 7+k=6+(1+k) by omega,nxN_add,HS6.out]
  rw [e]
  exact Zci ((ownsRow_setCell_below (ownsRow_setCell_below (ownsRow_setCell_below (ownsRow_setCell_below (ownsRow_setCell_below (ownsRow_setCell_below (ownsRow_setCell_below (ownsRow_setCell_below HX.out.2.1 (by simp only [];omega) _) (by simp only [];omega) _) (by simp only [];omega) _) (by simp only [];omega) _) (by simp only [];omega) _) (by simp only [];omega) _) (by simp only [];omega) _) (by simp only [];omega) _)) (by omega)
 ·exact (PdAt.set (PdAt.set (PdAt.set (PdAt.set (PdAt.set (PdAt.set (PdAt.set (PdAt.set HX.out.2.2 (by omega) _) (by omega) _) (by omega) _) (by omega) _) (by omega) _) (by omega) _) (by omega) _) (by omega) _)
 ·exact (Zcm (Zcm (Zcm (Zcm (Zcm (Zcm (Zcm (Zcm HG.out (by omega) _ _) (by omega) _ _) (by omega) _ _) (by omega) _ _) (by omega) _ _) (by omega) _ _) (by omega) _ _) (by omega) _ _)
end
section
open Go.RowKit
set_option maxRecDepth 100000
theorem own_grownR {w w':World}{B R:Nat}{e:TypeId}{size n:Nat}{v:Value}{xs:List Value}(h:w.ownsRow B e size v n xs)(hg:w.grownBy w' (some R))(hR:R<B):w'.ownsRow B e size v n xs:=by
 refine h.kept hg ?_
 cases hob:v.ownBlock with
 | none=>exact Or.inl rfl
 | some z=>right;have:=(h.lt z hob).1;simp;omega
theorem CopyAt.grownR {B R:Nat}{w w':World}{F:FlowD}{v:Value}{k:Nat}{Na:Nat->Option Addr}{Nc:Nat->Nat}(h:CopyAt B w F v k Na Nc)(hg:w.grownBy w' (some R))(hR:R<B):CopyAt B w' F v k Na Nc :=
 ⟨own_grownR h.own hg hR,fun i hi=>own_grownR (h.aft i hi) hg hR⟩
def PnodesIs (B:Nat)(w':World)(R:Nat)(a:Option Addr)(n cap:Nat)(f:Nat->Nat)(e:Ending):Prop :=
 (∃q s la lc Na Nc,stE n f= .good q s/\q<=n/\e= .returned (.slice la (Zag n f).n lc)/\CopyAt B w' (Zag n f) (.slice la (Zag n f).n lc) (Zag n f).n Na Nc/\PdAt w' R a n cap (q:Nat)) \/
 (∃s,stE n f= .bad s/\e=badP s)
set_option maxHeartbeats 4000000 in
theorem pnodes_any (w:World)(R V:Nat)(a:Option Addr)(n cap:Nat)(f:Nat->Nat)(p s:Nat)(hst0:nxN n f 1 (.good 0 0)= .good p s)(hRB:R<w.heap.size)(hVR:V≠R)(hV:w.cell? ⟨V,0,none⟩=some (.pointer (some ⟨R,0,none⟩)))(hn:n<=maxLen)(hp:p<=n)(h:PdAt w R a n cap p)(hR:∀b o,a=some ⟨b,o,none⟩->b≠R)(hb:BytesAt w a n cap f) :
  Calls Tryz.prog 130 #[.pointer (some ⟨R,0,none⟩), .func (.func 131) #[] #[.pointer (some ⟨V,0,none⟩)]] w fun e w'=>PnodesIs w.heap.size w' R a n cap f e/\w.grownBy w' (some R):=by
 obtain⟨i27,hi27,hz270,hz271,hz272⟩:=info_parts info27
 have HI27:=Hid.mk (And.intro hi27 (And.intro hz270 (And.intro hz271 hz272)))
 have HB:=Hid.mk hb
 have HRR:=Hid.mk hR
 have HV:=Hid.mk (fun x (hg:w.grownBy x (some R))=>hg.cell (a:=⟨V,0,none⟩) hV (by simpa using hVR))
 have hm:(Zag n f).n=nxV n f (.good p s):=by show nxV n f (nxN n f 1 (.good 0 0))=_;rw [hst0]
 have hmle:=nxV_le n f (.good p s)
 have hE:stE n f=ndN n f (nxV n f (.good p s)) (st0 n f):=by unfold stE st;rw [hm]
 have h0:st0 n f=nxN n f 1 (.good p s):=by unfold st0;rw [show 2=1+1 from rfl,nxN_add,hst0]
 have HE:=Hid.mk (And.intro hE (And.intro h0 hm))
 clear hi27 hz270 hz271 hz272 hb hR hE h0 hm hst0
 go_enter Tryz.func130,Tryz.ntmps130
 go_wp2_with fail
 refine (Zcz _ R a n cap f p hn hp h HRR.out HB.out).mono ?_
 rintro e w1 ⟨⟨m,q,hv,rfl,hpd⟩ | ⟨hv,rfl,hpd⟩,ht⟩
 case inr =>
  have HX:=Hid.mk (And.intro hv ht.grown)
  clear hv hpd ht h
  go_wp2_with fail
  refine⟨rfl,Or.inr ⟨p,?_,rfl⟩,HX.out.2⟩
  rw [HE.out.1,HE.out.2.1]
  have:nxN n f 1 (.good p s)= .bad p:=by simp only [nxN];exact Zc0 HX.out.1
  rw [this,ndN_bad]
 have hq:=Zb3 hv
 have hs1:nxN n f 1 (.good p s)= .good q p:=by simp only [nxN];exact Zcj hv
 have hv1:nxV n f (.good p s)=m:=Zb2 hv
 have HS1:=Hid.mk (And.intro (HE.out.2.1.trans hs1) hv1)
 have HT1:=Hid.mk ht.grown
 have HP1:=Hid.mk hpd
 rw [hv1] at hmle
 clear hv hs1 hv1 ht hpd h
 go_wp2_with fail
 go_loopw [5,8] (fun lv iv wr=>∃(k:Nat) (la:Option Addr) (lc q s':Nat) (Na:Nat->Option Addr) (Nc:Nat->Nat),iv= .int .i64 k/\k<=m/\lv= .slice la k lc/\CopyAt w.heap.size wr (Zag n f) (.slice la k lc) k Na Nc/\st n f k= .good q s'/\q<=n/\PdAt wr R a n cap (q:Nat)/\w.grownBy wr (some R)) (fun _ iv _=>m - (intOf iv).toNat)
 case atStart=>exact⟨0,none,0,q,p,fun _=>none,fun _=>0,rfl,by omega,rfl,⟨World.ownsRow_nil _ _ _ _,fun i hi=>by omega⟩,HS1.out.1,hq.2.1,HP1.out,HT1.out⟩
 case round =>
  obtain⟨k,la,lc,q2,s2,Na,Nc,rfl,hk,rfl,hcp,hst,hq2,hpd2,hg2⟩:=hrel
  rename World=>w2
  have HO:=Hid.mk hcp
  have HST:=Hid.mk hst
  have HPD:=Hid.mk hpd2
  have HG2:=Hid.mk hg2
  have hB2:w.heap.size<=w2.heap.size:=hg2.size
  clear hcp hst hpd2 hg2
  by_cases h1:k<m
  ·go_wp2_with fail
   refine (pnode_any _ R V a n cap f q2 s2 (by omega) hVR (HV.out _ HG2.out) hn hq2 HPD.out HRR.out (HB.out.grown HRR.out HG2.out)).mono ?_
   rintro e w3 ⟨hx,hg3⟩
   have hst1:st n f (k+1)=ndS n f (.good q2 s2):=by
    have:=HST.out
    unfold st at this ⊢
    simp only [ndN]
    rw [this]
   have HST1:=Hid.mk hst1
   rcases hx with⟨q3,s3,na,nc,hnd,hq3,rfl,hown,hpd⟩ | ⟨s3,hnd,rfl⟩
   case inr =>
    have HX:=Hid.mk (And.intro hnd hg3)
    clear hnd hg3 hst1
    go_wp2_with fail
    refine⟨rfl,Or.inr ⟨s3,?_,rfl⟩,Za4 HG2.out HX.out.2⟩
    rw [HE.out.1,HS1.out.2]
    exact ndN_stuck (j:=k+1) (by have:=HST1.out;unfold st at this;rw [this];exact HX.out.1) (by omega)
   have hr:st n f k= .good q2 s2:=HST.out
   rw [<-hr] at hown
   have HX:=Hid.mk (And.intro hnd (And.intro hown (And.intro hpd hg3)))
   have hs3:w2.heap.size<=w3.heap.size:=hg3.size
   have HC3:Hid (CopyAt w.heap.size w3 (Zag n f) (.slice la k lc) k Na Nc):=Hid.mk (HO.out.grownR hg3 (by omega))
   have HNL:Hid (nodeL (Zag n f) k na nc=[.int .i64 (nxV n f (.good q2 s2):Nat), .int .i64 (nxV n f (nxN n f 1 (.good q2 s2)):Nat), .int .i64 (nxV n f (nxN n f 2 (.good q2 s2)):Nat), .int .i64 (nxV n f (nxN n f 3 (.good q2 s2)):Nat), .int .i64 (nxV n f (nxN n f 4 (.good q2 s2)):Nat), .int .i64 (nxV n f (nxN n f 5 (.good q2 s2)):Nat), .slice na (nxV n f (nxN n f 6 (.good q2 s2))) nc]):=Hid.mk (by rw [<-hr];rfl)
   clear hnd hown hpd hg3 hst1 hr
   generalize nxV n f (.good q2 s2)=z0 at HNL ⊢
   generalize nxV n f (nxN n f 1 (.good q2 s2))=z1 at HNL ⊢
   generalize nxV n f (nxN n f 2 (.good q2 s2))=z2 at HNL ⊢
   generalize nxV n f (nxN n f 3 (.good q2 s2))=z3 at HNL ⊢
   generalize nxV n f (nxN n f 4 (.good q2 s2))=z4 at HNL ⊢
   generalize nxV n f (nxN n f 5 (.good q2 s2))=z5 at HNL ⊢
   generalize nxV n f (nxN n f 6 (.good q2 s2))=z6 at HNL ⊢
   have hones:Hid (∀u∈[Value.int .i64 z0, .int .i64 z1, .int .i64 z2, .int .i64 z3, .int .i64 z4, .int .i64 z5, .slice na z6 nc],u.oneCell'=true):=Hid.mk (by rw [<-HNL.out];exact ones7 _ _ _ _)
   go_wp2_with (at_builtin;refine wpList_append_own _ rfl (.tmp 10) (.tmp 13) 29 rfl w.heap.size 34 i27 (.agg #[.int .i64 0, .int .i64 0, .int .i64 0, .int .i64 0, .int .i64 0, .int .i64 0, .slice none 0 0]) 7 72 Tryz.underlying29 HI27.out.1 HI27.out.2.1 HI27.out.2.2.1 HI27.out.2.2.2 rfl (by decide) (.slice la k lc) k (Zca (Zag n f) Na Nc k) rfl (HC3.out.own.alloc _) ⟨w3.heap.size,0,none⟩ 1 1 [.int .i64 z0, .int .i64 z1, .int .i64 z2, .int .i64 z3, .int .i64 z4, .int .i64 z5, .slice na z6 nc] rfl rfl (news7 _ _ _ _ rfl) hones.out (by unfold maxLen;omega) (by omega) (by simp;omega) ?_;intro v4 w4 hown4 hgrow4 hiff;clear hiff;rw [<-HNL.out] at hown4;obtain⟨xa,xc,rfl⟩:=Za3 hown4;have HO4:=Hid.mk (And.intro hown4 hgrow4);clear hown4 hgrow4)
   go_roundw
   case rel =>
    have hrow:∀z,(Value.slice la k lc).ownBlock=some z->w.heap.size<=z:=fun z hz=>(HO.out.own.lt z hz).1
    refine⟨k+1,xa,xc,q3,s3,_,_,by go_num,by omega,rfl,HC3.out.more ((Zci HX.out.2.1 hB2).alloc _) ((Below.refl _ _).alloc (Nat.le_refl _) _) HO4.out.1 HO4.out.2,?_,hq3,?_,grown_row (Za4 HG2.out HX.out.2.2.2) HO4.out.2 hrow⟩
    ·rw [HST1.out];exact HX.out.1
    ·exact HX.out.2.2.1.grown (by omega) HO4.out.2 (fun e=>by have:=hrow R e.symm;omega)
   case measure=>simp [intOf];omega
  ·obtain rfl:k=m:=by omega
   go_wp2_with fail
   go_ret
   have hN:(Zag n f).n=k:=HE.out.2.2.trans HS1.out.2
   exact⟨Or.inl ⟨q2,s2,la,lc,Na,Nc,by unfold stE;rw [hN];exact HST.out,hq2,(by rw [hN];rfl),by rw [hN];exact HO.out,HPD.out⟩,HG2.out⟩
end
end Go.Proofs.YtgdcjccbdmcebabGreatDoor
namespace Go.Proofs.YtgdcjccbdmcebabGreatDoor
open Go.RowKit Go.Extern.Stop Go.Stop
set_option maxRecDepth 100000
set_option maxHeartbeats 2000000 in
theorem caught_idle (E V:Nat)(w:World) :
  CallsD Tryz.prog 128 #[.pointer (some ⟨E,0,none⟩), .pointer (some ⟨V,0,none⟩)] .returning w fun e u' w'=>e= .returned (.tuple #[])/\u'= .returning/\w'=w:=by
 refine callsD_of_wpS Tryz.func128 rfl fun c₀ cs hu=> ?_
 apply wpS_seq
 apply wpS_region
 simp [wpOpsS,go_sem,recoverD,hu,Tryz.ntmps128,Exit.thenS]
 rw [show (#[Value.pointer (some ⟨E,0,none⟩), .pointer (some ⟨V,0,none⟩)]++(Array.replicate 15 undef).setIfInBounds 3 Value.nilIface)=#[.pointer (some ⟨E,0,none⟩), .pointer (some ⟨V,0,none⟩),undef,undef,undef, .nilIface,undef,undef,undef,undef,undef,undef,undef,undef,undef,undef,undef] from rfl]
 refine wpS_of_wp ?_
 go_wp2_with fail
 exact⟨rfl, .returning,by cases c₀;simp_all, .tuple #[],by simp [results,Tryz.results128],rfl,rfl,rfl⟩
theorem assert_badAt (v:Value)(w:World):(Instr.typeAssert (.iface 253 v) 20 253 true).run Tryz.prog w= .ok (.tuple #[v, .bool true]) w:=by kernel_rfl
set_option maxHeartbeats 2000000 in
theorem Zd6 (E V p:Nat)(older:List PanicEntry)(w:World)(hc:w.cell? ⟨E,0,none⟩=some .nilIface)(hz:w.frozen? ⟨E,0,none⟩=false) :
  CallsD Tryz.prog 128 #[.pointer (some ⟨E,0,none⟩), .pointer (some ⟨V,0,none⟩)] (.panicking ({ v:= .iface 253 (.int .i64 (p:Nat)),recovered:=false }::older)) w fun e u' w' =>
   e= .returned (.tuple #[])/\u'= .panicking ({ v:= .iface 253 (.int .i64 (p:Nat)),recovered:=true }::older) /\
   ∃q w1,w.heap.size<=q/\FaultAt w1 q 1 p/\q<w1.heap.size/\Below w.heap.size w w1/\w'=w1.setCell ⟨E,0,none⟩ (.iface 105 (.pointer (some ⟨q,0,none⟩))):=by
 refine callsD_of_wpS Tryz.func128 rfl fun c₀ cs hu=> ?_
 apply wpS_seq
 apply wpS_region
 simp [wpOpsS,go_sem,recoverD,hu,Tryz.ntmps128,Exit.thenS]
 rw [show (#[Value.pointer (some ⟨E,0,none⟩), .pointer (some ⟨V,0,none⟩)]++(Array.replicate 15 undef).setIfInBounds 3 (Value.iface 253 (.int .i64 (p:Nat))))=#[.pointer (some ⟨E,0,none⟩), .pointer (some ⟨V,0,none⟩),undef,undef,undef, .iface 253 (.int .i64 (p:Nat)),undef,undef,undef,undef,undef,undef,undef,undef,undef,undef,undef] from rfl]
 refine wpS_of_wp ?_
 have hta:=assert_badAt (.int .i64 (p:Nat))
 go_wp2_with fail
 refine (fault_any _ _ _).mono ?_
 rintro e w1 ⟨q,rfl,hq1,hq2,hf,hbq⟩
 have hc1:w1.cell? ⟨E,0,none⟩=some .nilIface:=cell_later hbq hc
 have hz1:w1.frozen? ⟨E,0,none⟩=false:=(hbq.frozen (p:=⟨E,0,none⟩) (World.block_lt_of_cell? _ _ hc)).trans hz
 go_wp2_with fail
 exact⟨rfl,_,rfl, .tuple #[],by simp [results,Tryz.results128],rfl,rfl,q,hq1,w1,hf,hq2,hbq,rfl⟩
def PreadIs (B:Nat)(w':World)(n:Nat)(f:Nat->Nat)(e:Ending):Prop :=
 (∃q s la lc Na Nc,stE n f= .good q s/\n<=q/\e= .returned (.tuple #[flV (Zag n f).dl (.slice la (Zag n f).n lc), .nilIface])/\CopyAt B w' (Zag n f) (.slice la (Zag n f).n lc) (Zag n f).n Na Nc) \/
 (∃(y blk:Nat) (x:Int) (la:Option Addr) (c lc:Nat),(stE n f= .bad y\/∃s,stE n f= .good y s/\y<n)/\e= .returned (.tuple #[flV x (.slice la c lc), .iface 105 (.pointer (some ⟨blk,0,none⟩))])/\FaultAt w' blk 1 y/\blk<w'.heap.size/\B<=blk)
structure RdI (w x:World)(d:Int)(v e:Value):Prop where
 bl:Below w.heap.size w x
 a0:x.cell? ⟨w.heap.size,0,none⟩=some (.int .i64 d)
 a1:x.cell? ⟨w.heap.size,1,none⟩=some v
 e0:x.cell? ⟨w.heap.size+1,0,none⟩=some e
 v0:x.cell? ⟨w.heap.size+1+1+1,0,none⟩=some (.pointer (some ⟨w.heap.size+1+1,0,none⟩))
 fa0:x.frozen? ⟨w.heap.size,0,none⟩=false
 fa1:x.frozen? ⟨w.heap.size,1,none⟩=false
 fe0:x.frozen? ⟨w.heap.size+1,0,none⟩=false
theorem RdI.grown {w x y:World}{d:Int}{v e:Value}(h:RdI w x d v e)(hg:x.grownBy y (some (w.heap.size+1+1))):RdI w y d v e:=by
 have hs:w.heap.size+1+1+1<x.heap.size:=World.block_lt_of_cell? _ _ h.v0
 have k:∀b,b<w.heap.size+4->b≠w.heap.size+1+1->y.heap[b]? =x.heap[b]? :=fun b hb hne=>hg.block b (by omega) (by simpa using hne)
 refine⟨⟨hg.os.trans h.bl.os,hg.tape.trans h.bl.tape,hg.output.trans h.bl.output,Nat.le_trans h.bl.size hg.size,fun b hb=>(k b (by omega) (by omega)).trans (h.bl.block b hb)⟩,?_,?_,?_,?_,?_,?_,?_⟩
 ·exact (World.cell?_of_block (a:=⟨w.heap.size,0,none⟩) (k _ (by simp) (by simp<;>omega))).trans h.a0
 ·exact (World.cell?_of_block (a:=⟨w.heap.size,1,none⟩) (k _ (by simp) (by simp<;>omega))).trans h.a1
 ·exact (World.cell?_of_block (a:=⟨w.heap.size+1,0,none⟩) (k _ (by simp) (by simp<;>omega))).trans h.e0
 ·exact (World.cell?_of_block (a:=⟨w.heap.size+1+1+1,0,none⟩) (k _ (by simp) (by simp<;>omega))).trans h.v0
 ·exact (World.frozen?_of_block (a:=⟨w.heap.size,0,none⟩) (k _ (by simp) (by simp<;>omega))).trans h.fa0
 ·exact (World.frozen?_of_block (a:=⟨w.heap.size,1,none⟩) (k _ (by simp) (by simp<;>omega))).trans h.fa1
 ·exact (World.frozen?_of_block (a:=⟨w.heap.size+1,0,none⟩) (k _ (by simp) (by simp<;>omega))).trans h.fe0
theorem Za7 (x:World)(b b' o o':Nat)(u:Value)(h:b'≠b):(x.setCell ⟨b,o,none⟩ u).cell? ⟨b',o',none⟩=x.cell? ⟨b',o',none⟩:=World.cell?_of_block (Below.heap_setCell x ⟨b,o,none⟩ u b' h)
theorem RdI.setD {w x:World}{d:Int}{v e:Value}(h:RdI w x d v e)(d':Int):RdI w (x.setCell ⟨w.heap.size,0,none⟩ (.int .i64 d')) d' v e :=
 ⟨h.bl.setCell (by simp) _,World.cell?_setCell_same _ _ _ h.a0,(Zab x _ 0 1 _ (by decide)).trans h.a1,(Za7 x _ _ 0 0 _ (by omega)).trans h.e0,(Za7 x _ _ 0 0 _ (by omega)).trans h.v0,by rw [World.frozen?_setCell];exact h.fa0,by rw [World.frozen?_setCell];exact h.fa1,by rw [World.frozen?_setCell];exact h.fe0⟩
theorem RdI.setV {w x:World}{d:Int}{v e:Value}(h:RdI w x d v e)(v':Value):RdI w (x.setCell ⟨w.heap.size,1,none⟩ v') d v' e :=
 ⟨h.bl.setCell (by simp) _,(Zab x _ 1 0 _ (by decide)).trans h.a0,World.cell?_setCell_same _ _ _ h.a1,(Za7 x _ _ 1 0 _ (by omega)).trans h.e0,(Za7 x _ _ 1 0 _ (by omega)).trans h.v0,by rw [World.frozen?_setCell];exact h.fa0,by rw [World.frozen?_setCell];exact h.fa1,by rw [World.frozen?_setCell];exact h.fe0⟩
theorem RdI.setE {w x:World}{d:Int}{v e:Value}(h:RdI w x d v e)(e':Value):RdI w (x.setCell ⟨w.heap.size+1,0,none⟩ e') d v e' :=
 ⟨h.bl.setCell (by simp) _,(Za7 x _ _ 0 0 _ (by omega)).trans h.a0,(Za7 x _ _ 0 1 _ (by omega)).trans h.a1,World.cell?_setCell_same _ _ _ h.e0,(Za7 x _ _ 0 0 _ (by omega)).trans h.v0,by rw [World.frozen?_setCell];exact h.fa0,by rw [World.frozen?_setCell];exact h.fa1,by rw [World.frozen?_setCell];exact h.fe0⟩
theorem RdI.below {w x y:World}{d:Int}{v e:Value}(h:RdI w x d v e)(hb:Below x.heap.size x y):RdI w y d v e:=h.grown (Zd3 hb)
theorem read_thrown {w x w1:World}{n q p:Nat}{f:Nat->Nat}{d:Int}{la:Option Addr}{c lc:Nat}(hI:RdI w x d (.slice la c lc) .nilIface)(hs:stE n f= .bad p\/∃s,stE n f= .good p s/\p<n)(hq:x.heap.size<=q)(hf:FaultAt w1 q 1 p)(hq2:q<w1.heap.size)(hb:Below x.heap.size x w1) :
  PreadIs w.heap.size (w1.setCell ⟨w.heap.size+1,0,none⟩ (.iface 105 (.pointer (some ⟨q,0,none⟩)))) n f (.returned (.tuple #[flV d (.slice la c lc), .iface 105 (.pointer (some ⟨q,0,none⟩))])) /\
  RdI w (w1.setCell ⟨w.heap.size+1,0,none⟩ (.iface 105 (.pointer (some ⟨q,0,none⟩)))) d (.slice la c lc) (.iface 105 (.pointer (some ⟨q,0,none⟩))):=by
 have hx:w.heap.size+1+1+1<x.heap.size:=World.block_lt_of_cell? _ _ hI.v0
 refine⟨Or.inr ⟨p,q,d,la,c,lc,hs,rfl,⟨(Za7 w1 _ _ 0 0 _ (by omega)).trans hf.1,(Za7 w1 _ _ 0 1 _ (by omega)).trans hf.2⟩,by simpa [World.setCell] using hq2,by omega⟩,(hI.below hb).setE _⟩
theorem alloc4 (w:World)(o1 o2 o3 o4:Obj) :
  ((((w.alloc o1).alloc o2).alloc o3).alloc o4).heap[w.heap.size]? =some o1/\((((w.alloc o1).alloc o2).alloc o3).alloc o4).heap[w.heap.size+1]? =some o2 /\
  ((((w.alloc o1).alloc o2).alloc o3).alloc o4).heap[w.heap.size+1+1]? =some o3/\((((w.alloc o1).alloc o2).alloc o3).alloc o4).heap[w.heap.size+1+1+1]? =some o4:=by
 have s1:(w.alloc o1).heap.size=w.heap.size+1:=by simp
 have s2:((w.alloc o1).alloc o2).heap.size=w.heap.size+1+1:=by simp
 have s3:(((w.alloc o1).alloc o2).alloc o3).heap.size=w.heap.size+1+1+1:=by simp
 have n1:=heap_alloc_new w o1
 have n2:=heap_alloc_new (w.alloc o1) o2
 have n3:=heap_alloc_new ((w.alloc o1).alloc o2) o3
 have n4:=heap_alloc_new (((w.alloc o1).alloc o2).alloc o3) o4
 rw [s1] at n2
 rw [s2] at n3
 rw [s3] at n4
 have b2:Below (w.alloc o1).heap.size (w.alloc o1) ((w.alloc o1).alloc o2):=(Below.refl _ _).alloc (Nat.le_refl _) _
 have b3:Below ((w.alloc o1).alloc o2).heap.size ((w.alloc o1).alloc o2) (((w.alloc o1).alloc o2).alloc o3):=(Below.refl _ _).alloc (Nat.le_refl _) _
 have b4:Below (((w.alloc o1).alloc o2).alloc o3).heap.size (((w.alloc o1).alloc o2).alloc o3) ((((w.alloc o1).alloc o2).alloc o3).alloc o4):=(Below.refl _ _).alloc (Nat.le_refl _) _
 refine⟨?_,?_,?_,n4⟩
 ·rw [b4.block _ (by omega),b3.block _ (by omega),b2.block _ (by omega)];exact n1
 ·rw [b4.block _ (by omega),b3.block _ (by omega)];exact n2
 ·rw [b4.block _ (by omega)];exact n3
set_option maxHeartbeats 4000000 in
theorem pread_any (w:World)(a:Option Addr)(n cap:Nat)(f:Nat->Nat)(hn:n<=maxLen)(ha:∀b o,a=some ⟨b,o,none⟩->b<w.heap.size)(hb:BytesAt w a n cap f) :
  Calls Tryz.prog 83 #[.slice a n cap] w fun e w'=>PreadIs w.heap.size w' n f e/\Below w.heap.size w w':=by
 have hmf:∀(fn:Fn) (first cap:Array Value) (w:World),(Instr.makeFunc fn first cap).run Tryz.prog w= .ok (.func fn first cap) w:=fun _ _ _ _=>rfl
 have HB:=Hid.mk hb
 have HA:Hid (∀b o,a=some ⟨b,o,none⟩->b≠w.heap.size+1+1):=Hid.mk fun b o h=>by have:=ha b o h;omega
 clear hb ha
 have HI0:Hid (RdI w ((((w.alloc (.cells #[.int .i64 0, .slice none 0 0] 31)).alloc (.cells #[.nilIface] 74)).alloc (.cells #[.slice a n cap, .int .i64 0] 252)).alloc (.cells #[.pointer (some ⟨w.heap.size+1+1,0,none⟩)] 250)) 0 (.slice none 0 0) .nilIface):=Hid.mk (by
  obtain⟨n1,n2,n3,n4⟩:=alloc4 w (.cells #[.int .i64 0, .slice none 0 0] 31) (.cells #[.nilIface] 74) (.cells #[.slice a n cap, .int .i64 0] 252) (.cells #[.pointer (some ⟨w.heap.size+1+1,0,none⟩)] 250)
  exact⟨Below.alloc (Below.alloc (Below.alloc (Below.alloc (Below.refl _ _) (Nat.le_refl _) _) (by simp) _) (by simp;omega) _) (by simp;omega) _,Zai n1 0,Zai n1 1,Zai n2 0,Zai n4 0,Zdr n1 0,Zdr n1 1,Zdr n2 0⟩)
 have HP0:Hid (PdAt ((((w.alloc (.cells #[.int .i64 0, .slice none 0 0] 31)).alloc (.cells #[.nilIface] 74)).alloc (.cells #[.slice a n cap, .int .i64 0] 252)).alloc (.cells #[.pointer (some ⟨w.heap.size+1+1,0,none⟩)] 250)) (w.heap.size+1+1) a n cap ((0:Nat):Int)):=Hid.mk (by
  obtain⟨n1,n2,n3,n4⟩:=alloc4 w (.cells #[.int .i64 0, .slice none 0 0] 31) (.cells #[.nilIface] 74) (.cells #[.slice a n cap, .int .i64 0] 252) (.cells #[.pointer (some ⟨w.heap.size+1+1,0,none⟩)] 250)
  exact⟨Zai n3 0,Zai n3 1,Zdr n3 1⟩)
 go_enter_defers Tryz.func83,Tryz.ntmps83
 go_wp2_with fail
 refine (Zcz _ (w.heap.size+1+1) a n cap f 0 hn (by omega) HP0.out HA.out (HB.out.grown HA.out (Zd3 HI0.out.bl))).mono ?_
 rintro e x1 ⟨⟨m,q1,hv,rfl,hpd⟩ | ⟨hv,rfl,hpd⟩,ht⟩
 case inr =>
  have HI1:=Hid.mk (HI0.out.grown ht.grown)
  have HS:Hid (stE n f= .bad 0):=Hid.mk (by
   have h1:nxN n f 1 (.good 0 0)= .bad 0:=by simp only [nxN];exact Zc0 hv
   unfold stE st st0
   rw [Zck h1 (by omega),ndN_bad])
  clear hv hpd ht
  go_wp2_with fail
  refine leaves_cons (f:=128) (args:=#[.pointer (some ⟨w.heap.size+1,0,none⟩), .pointer (some ⟨w.heap.size+1+1+1,0,none⟩)]) (by simp) (by simp [go_sem]) ?_
  refine (Zd6 _ _ 0 [] _ HI1.out.e0 HI1.out.fe0).mono ?_
  rintro e u' w'' ⟨rfl,rfl,qf,wf,hq1,hf,hq2,hbf,rfl⟩
  obtain⟨r1,r2⟩:=read_thrown (n:=n) (f:=f) HI1.out (Or.inl HS.out) hq1 hf hq2 hbf
  have h0:=r2.a0
  have h1:=r2.a1
  have h2:=r2.e0
  have HZ:=Hid.mk (And.intro r1 r2.bl)
  clear r1 r2 hf hbf
  simp [Leaves,settle,results,Tryz.results83,go_sem,h0,h1,h2]
  exact HZ.out
 have hq1n:=(Zb3 hv).2.1
 have hst0:nxN n f 1 (.good 0 0)= .good q1 0:=by simp only [nxN];exact Zcj hv
 have hdl:(Zag n f).dl=m:=by show ((nxV n f (.good 0 0):Nat):Int)=m;rw [Zb2 hv]
 have HI1:=Hid.mk (HI0.out.grown ht.grown)
 have HIS:=Hid.mk (HI1.out.setD m)
 have HPS:=Hid.mk (hpd.set (D:=w.heap.size) (o:=0) (by omega) (.int .i64 m))
 have a0:=HI1.out.a0
 have fa0:=HI1.out.fa0
 have v0:=HIS.out.v0
 have hRs:w.heap.size+1+1<(x1.setCell ⟨w.heap.size,0,none⟩ (.int .i64 m)).heap.size:=by
  have:w.heap.size+1+1+1<(x1.setCell ⟨w.heap.size,0,none⟩ (.int .i64 m)).heap.size:=World.block_lt_of_cell? _ _ v0
  omega
 have hAs:w.heap.size<(x1.setCell ⟨w.heap.size,0,none⟩ (.int .i64 m)).heap.size:=by omega
 clear hv hpd ht
 go_wp2_with fail
 refine (pnodes_any _ (w.heap.size+1+1) (w.heap.size+1+1+1) a n cap f q1 0 hst0 hRs (by omega) HIS.out.v0 hn hq1n HPS.out HA.out (HB.out.grown HA.out (Zd3 HIS.out.bl))).mono ?_
 rintro e x2 ⟨hx,hg2⟩
 have HI2:=Hid.mk (HIS.out.grown hg2)
 rcases hx with⟨q2,s2,la,lc,Na,Nc,hst,hq2n,rfl,hcp,hpd2⟩ | ⟨s2,hst,rfl⟩
 case inr =>
  have HS:=Hid.mk hst
  clear hst hg2 a0 fa0 v0
  go_wp2_with fail
  refine leaves_cons (f:=128) (args:=#[.pointer (some ⟨w.heap.size+1,0,none⟩), .pointer (some ⟨w.heap.size+1+1+1,0,none⟩)]) (by simp) (by simp [go_sem]) ?_
  refine (Zd6 _ _ s2 [] _ HI2.out.e0 HI2.out.fe0).mono ?_
  rintro e u' w'' ⟨rfl,rfl,qf,wf,hq1,hf,hq2,hbf,rfl⟩
  obtain⟨r1,r2⟩:=read_thrown (n:=n) (f:=f) HI2.out (Or.inl HS.out) hq1 hf hq2 hbf
  have h0:=r2.a0
  have h1:=r2.a1
  have h2:=r2.e0
  have HZ:=Hid.mk (And.intro r1 r2.bl)
  clear r1 r2 hf hbf
  simp [Leaves,settle,results,Tryz.results83,go_sem,h0,h1,h2]
  exact HZ.out
 have HI3:=Hid.mk (HI2.out.setV (.slice la (Zag n f).n lc))
 have HP3:=Hid.mk (hpd2.set (D:=w.heap.size) (o:=1) (by omega) (.slice la (Zag n f).n lc))
 have HC3:Hid (CopyAt (x1.setCell ⟨w.heap.size,0,none⟩ (.int .i64 m)).heap.size (x2.setCell ⟨w.heap.size,1,none⟩ (.slice la (Zag n f).n lc)) (Zag n f) (.slice la (Zag n f).n lc) (Zag n f).n Na Nc):=Hid.mk
  ⟨ownsRow_setCell_below hcp.own (by simpa using hAs) _,fun i hi=>ownsRow_setCell_below (hcp.aft i hi) (by simpa using hAs) _⟩
 have HS:=Hid.mk hst
 clear hst hcp hpd2 hg2 a0 fa0 v0
 have a1:=HI2.out.a1
 have fa1:=HI2.out.fa1
 have v1:=HI3.out.v0
 go_wp2_with fail
 refine (pend_any _ (w.heap.size+1+1) a n cap q2 hn hq2n HP3.out).mono ?_
 rintro e x4 ⟨hx,ht⟩
 have HI4:=Hid.mk (HI3.out.grown ht.grown)
 have HC4:=Hid.mk (HC3.out.grownR ht.grown hRs)
 clear a1 fa1 v1
 rcases hx with⟨hlt,rfl⟩ | ⟨hle,rfl⟩
 ·clear ht
  go_wp2_with fail
  refine leaves_cons (f:=128) (args:=#[.pointer (some ⟨w.heap.size+1,0,none⟩), .pointer (some ⟨w.heap.size+1+1+1,0,none⟩)]) (by simp) (by simp [go_sem]) ?_
  refine (Zd6 _ _ q2 [] _ HI4.out.e0 HI4.out.fe0).mono ?_
  rintro e u' w'' ⟨rfl,rfl,qf,wf,hq1,hf,hq2,hbf,rfl⟩
  obtain⟨r1,r2⟩:=read_thrown (n:=n) (f:=f) HI4.out (Or.inr ⟨s2,HS.out,hlt⟩) hq1 hf hq2 hbf
  have h0:=r2.a0
  have h1:=r2.a1
  have h2:=r2.e0
  have HZ:=Hid.mk (And.intro r1 r2.bl)
  clear r1 r2 hf hbf
  simp [Leaves,settle,results,Tryz.results83,go_sem,h0,h1,h2]
  exact HZ.out
 ·clear ht
  have b0:=HI4.out.a0
  have b1:=HI4.out.a1
  have c0:=HI4.out.fa0
  have c1:=HI4.out.fa1
  have g0:=HI4.out.e0
  have g1:=HI4.out.fe0
  have HI5:=Hid.mk (((HI4.out.setD m).setV (.slice la (Zag n f).n lc)).setE .nilIface)
  have HC5:Hid (CopyAt w.heap.size (((x4.setCell ⟨w.heap.size,0,none⟩ (.int .i64 m)).setCell ⟨w.heap.size,1,none⟩ (.slice la (Zag n f).n lc)).setCell ⟨w.heap.size+1,0,none⟩ .nilIface) (Zag n f) (.slice la (Zag n f).n lc) (Zag n f).n Na Nc):=Hid.mk
   (CopyAt.base (B:=(x1.setCell ⟨w.heap.size,0,none⟩ (.int .i64 m)).heap.size) ⟨ownsRow_setCell_below (ownsRow_setCell_below (ownsRow_setCell_below HC4.out.own (by simp only [];omega) _) (by simp only [];omega) _) (by simp only [];omega) _,
    fun i hi=>ownsRow_setCell_below (ownsRow_setCell_below (ownsRow_setCell_below (HC4.out.aft i hi) (by simp only [];omega) _) (by simp only [];omega) _) (by simp only [];omega) _⟩ (by omega))
  go_wp2_with fail
  refine leaves_cons (f:=128) (args:=#[.pointer (some ⟨w.heap.size+1,0,none⟩), .pointer (some ⟨w.heap.size+1+1+1,0,none⟩)]) (by simp) (by simp [go_sem]) ?_
  refine (caught_idle _ _ _).mono ?_
  rintro e u' w'' ⟨rfl,rfl,rfl⟩
  have h0:=HI5.out.a0
  have h1:=HI5.out.a1
  have h2:=HI5.out.e0
  simp [Leaves,settle,results,Tryz.results83,go_sem,h0,h1,h2]
  exact⟨Or.inl ⟨q2,s2,la,lc,Na,Nc,HS.out,hle,by rw [hdl],HC5.out⟩,HI5.out.bl⟩
end Go.Proofs.YtgdcjccbdmcebabGreatDoor
