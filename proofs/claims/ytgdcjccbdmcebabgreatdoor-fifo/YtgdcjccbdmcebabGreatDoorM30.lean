import Derived.Test.YtgdcjccbdmcebabGreatDoorM02
import Derived.Test.YtgdcjccbdmcebabGreatDoorM29
set_option linter.unusedSimpArgs false
set_option linter.unusedVariables false
namespace Go.Proofs.YtgdcjccbdmcebabGreatDoor
open Go.RowKit
set_option maxRecDepth 100000
attribute [local go_sem ↓] Go.wp_at_zero Go.wp_at_succ
theorem placed_cut_all {n:Nat}{l:List Tm}{b tn:Nat}(hb:b<l.length)(ha:Apart l)(htn:(l.getD b .z).tm.toNat=tn):∃i,i<(Zaf n l (pl n tn)).length/\(Zaf n l (pl n tn)).getD i 0=(l.getD b .z).id/\(∀j,j<i->(Zaf n l (pl n tn)).getD j 0≠(l.getD b .z).id)/\Zaf n (l.take b++l.drop (b+1))=updF (Zaf n l) (pl n tn) ((Zaf n l (pl n tn)).take i++(Zaf n l (pl n tn)).drop (i+1)):=by
 subst htn
 obtain⟨i,h1,h2,h3,h4⟩:=placed_cut n l b hb ha
 refine⟨i,h1,h2,h3,?_⟩
 funext j
 by_cases e:j=pl n (l.getD b .z).tm.toNat
 ·rw [e,Za9];exact h4
 ·rw [Zaz _ _ _ e];exact placed_cut_off n l b j hb (Ne.symm e)
theorem wh_drop {w':World}{P B:Nat}{K:Nat->Prop}{now bm i b tn x':Nat}{rw':Nat->Value}{wd:Nat->Nat}{l:List Tm}{D:DataW Unit}(hb:b<l.length)(htn:(l.getD b .z).tm.toNat=tn)(hnow:now<=4611686018427387904)(hlen:l.length<=200)(hL:Later now l)(hids:IdsOk l)(hap:Apart l)(hD:Due D l)(hT:Maps.Tidy D)(hbm:B<=bm)(hw:Words wd (Zaf now l))(hi:i<(Zaf now l (pl now tn)).length)
  (hcut:Zaf now (l.take b++l.drop (b+1))=updF (Zaf now l) (pl now tn) ((Zaf now l (pl now tn)).take i++(Zaf now l (pl now tn)).drop (i+1)))
  (hp:PwAt w' P B K now (.map (some bm)) rw' (updF (Zaf now l) (pl now tn) ((Zaf now l (pl now tn)).take i++(Zaf now l (pl now tn)).drop (i+1))) (updF wd (lev now tn) x')) (hx:DropW x' (wd (lev now tn)) (slt (lev now tn) tn) (Zaf now l (pl now tn)).length) (hm:Za8 (D.del (keyL (l.getD b .z).id)) w' bm (Maps.size (D.del (keyL (l.getD b .z).id)))):WhAt w' P B K now (l.take b++l.drop (b+1)):=by
 have hlc:=Zcb l b hb
 have hlat:=hL _ (Zb4 hb)
 refine⟨⟨_,rw',_,by rw [hcut];exact hp,Or.inr ⟨bm,_,rfl,hbm,hm,hD.cut hT hap hids hb⟩,?_⟩,hnow,by omega,hL.cut,hids.cut hb,hap.cut hb⟩
 rw [hcut]
 exact hw.drop (by have:=lev_top now tn hnow (by omega);omega) (Zds _ _) hi hx
set_option maxHeartbeats 8000000 in
theorem wcancel_any (w:World)(P B:Nat)(K:Nat->Prop)(now:Nat)(l:List Tm)(id r nd q:Int)(h:WhAt w P B K now l)(hid:KeyOk r nd q id) :
  Calls Tryz.prog 137 #[.pointer (some ⟨P,11,none⟩), .agg #[.int .u64 r, .int .i64 nd, .int .i64 q]] w fun e w'=>∃x l',e= .returned (errV x)/\CanIs l id x l'/\WhAt w' P B K now l'/\PF w w' P B K:=by
 have HID:=Hid.mk hid
 obtain⟨w0,hw0⟩:∃w0,w0=w.alloc (.cells #[.int .u64 r, .int .i64 nd, .int .i64 q] 183):=⟨_,rfl⟩
 obtain⟨bx,hbx⟩:∃bx,bx=w.heap.size:=⟨_,rfl⟩
 have HBX:=Hid.mk (show KBox w0 bx r nd q by rw [hw0,hbx];exact box_new w r nd q)
 have hB0:Below w.heap.size w w0:=by rw [hw0];exact (Below.refl _ _).alloc (Nat.le_refl _) _
 obtain⟨⟨dm,rw_,wd,hp,hdue,hw⟩,hnow,hfew,hlat,hids,hap⟩:=h
 have HA:=Hid.mk (And.intro hnow (And.intro hfew (And.intro hlat (And.intro hids (And.intro hap hw)))))
 have HP0:=Hid.mk (hp.keep hB0)
 have HF0:=Hid.mk (PF.of_below (P:=P) (B:=B) (K:=K) hB0)
 have c1:=HP0.out.c1
 have HW0:=Hid.mk (And.intro hbx hw0)
 clear hnow hlat hids hap hw hp hid hbx hw0
 obtain⟨⟨z0,z1⟩,z2⟩:=HBX.out
 rcases hdue with⟨rfl,hl0⟩ | ⟨bm,D,rfl,hbm,hm,hD⟩
 ·have lk:=look_no w0 HID.out
  have HL:=Hid.mk hl0
  clear hB0 hl0
  go_enter Tryz.func137,Tryz.ntmps137
  go_upto_region 1 with fail
  rw [<-HW0.out.1,<-HW0.out.2]
  go_quiet (fail)
  have HP1:=Hid.mk (HP0.out.keep (below_drewN w0 nq))
  have HF1:=Hid.mk (HF0.out.trans (PF.of_below (P:=P) (B:=B) (K:=K) (below_drewN w0 nq)))
  go_wp2_with fail
  go_ret
  exact⟨8,l,rfl,Or.inr ⟨(fun ⟨j,hj,_⟩=>by rw [HL.out] at hj;simp at hj),rfl,rfl⟩,⟨⟨_,rw_,wd,HP1.out,Or.inl ⟨rfl,HL.out⟩,HA.out.2.2.2.2.2⟩,HA.out.1,HA.out.2.1,HA.out.2.2.1,HA.out.2.2.2.1,HA.out.2.2.2.2.1⟩,HF1.out⟩
 ·have hm0:Za8 D w0 bm (Maps.size D):=mapOf_below hm hB0
  obtain⟨v0,lk⟩:=look_all hm0 HID.out
  have HM0:=Hid.mk hm0
  have HD:=Hid.mk hD
  clear hB0 hm hm0
  by_cases hh:hasId l id l.length
  ·have eh:Maps.has D (keyL id)=true:=(hD.has id HID.out.ok).2 hh
   rw [eh] at lk
   obtain⟨b,hb,he⟩:=hh
   obtain⟨tn,htn⟩:∃tn,(l.getD b .z).tm.toNat=tn:=⟨_,rfl⟩
   have hlt:=HA.out.2.2.1 _ (Zb4 hb)
   have htm:(l.getD b .z).tm=(tn:Int):=by omega
   obtain⟨i,hi,hi2,hi3,hcut⟩:=placed_cut_all (n:=now) hb HA.out.2.2.2.2.1 htn
   rw [he] at hi2 hi3
   have HALL:=Hid.mk (And.intro hb (And.intro he (And.intro htn (And.intro hi (And.intro hcut (And.intro hi2 (And.intro hi3 (And.intro htm hlt))))))))
   clear hD eh hb he htn hlt htm hi hi2 hi3 hcut
   go_enter Tryz.func137,Tryz.ntmps137
   go_upto_region 1 with fail
   rw [<-HW0.out.1,<-HW0.out.2]
   go_quiet (fail)
   have HP1:=Hid.mk (HP0.out.keep (below_drewN w0 nq))
   have HF1:=Hid.mk (HF0.out.trans (PF.of_below (P:=P) (B:=B) (K:=K) (below_drewN w0 nq)))
   have HX1:=Hid.mk (HBX.out.below (below_drewN w0 nq))
   have HM1:Hid (Za8 D (w0.drewN nq) bm (Maps.size D)):=HM0
   clear lk z0 z1 z2 c1
   generalize w0.drewN nq=w1 at *
   obtain⟨⟨z0,z1⟩,z2⟩:=HX1.out
   have HDROP:=Hid.mk (drop_any w1 P B K now tn rw_ (Zaf now l) wd bm i D id r nd q HP1.out HM1.out hbm HID.out (by rw [<-HALL.out.2.1,<-HALL.out.2.2.2.2.2.2.2.1];exact HD.out.tm b HALL.out.1) HA.out.1 (by have:=HALL.out.2.2.2.2.2.2.2;omega) (fun j hj=>(HA.out.2.2.2.2.2 j hj).1) (by have:=Zct now l (pl now tn);omega) HALL.out.2.2.2.1 HALL.out.2.2.2.2.2.1 HALL.out.2.2.2.2.2.2.1)
   go_wp2_with (go_at_call 152;refine HDROP.out.mono ?_;rintro e w4 ⟨rfl,v',x',hp',hx,hm',hf'⟩;have HN:=Hid.mk (And.intro hp' (And.intro hx (And.intro hm' hf')));clear hp' hx hm' hf')
   go_ret
   obtain⟨a1,a2,a3,a4,a5,a6,a7,a8,a9⟩:=HALL.out
   obtain⟨b1,b2,b3,b4,b5,b6⟩:=HA.out
   obtain⟨n1,n2,n3,n4⟩:=HN.out
   refine⟨0,_,rfl,Or.inl ⟨b,a1,a2,(fun j hj e=>b5 j b hj a1 (by rw [e,a2])),rfl,rfl⟩,?_,HF1.out.trans n4⟩
   exact wh_drop a1 a3 b1 b2 b3 b4 b5 HD.out (HM1.out.tidy lawK) hbm b6 a4 a5 n1 n2 (by rw [a2];exact n3)
  ·have eh:Maps.has D (keyL id)=false:=by
    cases e:Maps.has D (keyL id)
    ·rfl
    ·exact absurd ((hD.has id HID.out.ok).1 e) hh
   rw [eh] at lk
   have HH:=Hid.mk hh
   clear hD eh hh
   go_enter Tryz.func137,Tryz.ntmps137
   go_upto_region 1 with fail
   rw [<-HW0.out.1,<-HW0.out.2]
   go_quiet (fail)
   have HP1:=Hid.mk (HP0.out.keep (below_drewN w0 nq))
   have HF1:=Hid.mk (HF0.out.trans (PF.of_below (P:=P) (B:=B) (K:=K) (below_drewN w0 nq)))
   have HM1:Hid (Za8 D (w0.drewN nq) bm (Maps.size D)):=HM0
   go_wp2_with fail
   go_ret
   exact⟨8,l,rfl,Or.inr ⟨HH.out,rfl,rfl⟩,⟨⟨_,rw_,wd,HP1.out,Or.inr ⟨bm,D,rfl,hbm,HM1.out,HD.out⟩,HA.out.2.2.2.2.2⟩,HA.out.1,HA.out.2.1,HA.out.2.2.1,HA.out.2.2.2.1,HA.out.2.2.2.2.1⟩,HF1.out⟩
theorem WhAt.keepT {w w':World}{P B n:Nat}{K:Nat->Prop}{l:List Tm}(h:WhAt w P B K n l)(hs:w.heap.size<=w'.heap.size)(hP:∀o,11<=o->o<728->w'.cell? ⟨P,o,none⟩=w.cell? ⟨P,o,none⟩)(hf:∀o,w'.frozen? ⟨P,o,none⟩=w.frozen? ⟨P,o,none⟩)
  (hb:∀k cs fr,B<=k->w.heap[k]? =some (.cells cs 183 fr)->w'.heap[k]? =w.heap[k]?) (hm:∀k es c,B<=k->w.heap[k]? =some (.map es c)->w'.heap[k]? =w.heap[k]?):WhAt w' P B K n l:=by
 obtain⟨⟨dm,rw_,wd,hp,hdue,hw⟩,h1,h2,h3,h4,h5⟩:=h
 refine⟨⟨dm,rw_,wd,⟨?_,?_,fun k hk=> ?_,fun k hk=> ?_,fun o=>(hf o).trans (hp.fz o),fun k hk=>own_kept (hp.own k hk) (fun z hz he _=> ?_),hp.apart,hp.pb,Nat.le_trans hp.bs hs,hp.sp,fun z hz=> ?_⟩,hdue.kept hm,hw⟩,h1,h2,h3,h4,h5⟩
 ·exact (hP 11 (by omega) (by omega)).trans hp.c0
 ·exact (hP 12 (by omega) (by omega)).trans hp.c1
 ·exact (hP (13+k) (by omega) (by omega)).trans (hp.cs k hk)
 ·exact (hP (717+k) (by omega) (by omega)).trans (hp.cw k hk)
 ·obtain⟨cs,fr,e⟩:=he
  exact hb z cs fr hz e
 ·obtain⟨q1,cs,fr,q2⟩:=hp.kb z hz
  exact⟨q1,cs,fr,(hb z cs fr q1 q2).trans q2⟩
theorem WhAt.pb {w:World}{P B n:Nat}{K:Nat->Prop}{l:List Tm}(h:WhAt w P B K n l):P<B/\B<=w.heap.size:=by
 obtain⟨dm,rw_,wd,hp,_⟩:=h.mem
 exact⟨hp.pb,hp.bs⟩
theorem WhAt.keep {w w':World}{P B n:Nat}{K:Nat->Prop}{l:List Tm}(h:WhAt w P B K n l)(hb:Below w.heap.size w w'):WhAt w' P B K n l:=by
 have hP:P<w.heap.size:=by have:=h.pb;omega
 exact h.keepT hb.size (fun o _ _=>World.cell?_of_block (a:=⟨P,o,none⟩) (hb.block P hP)) (fun o=>World.frozen?_of_block (a:=⟨P,o,none⟩) (hb.block P hP)) (fun k _ _ _ e=>hb.block k (Zaa e)) (fun k _ _ _ e=>hb.block k (Zaa e))
theorem WhAt.now0 {w:World}{P B n:Nat}{K:Nat->Prop}{l:List Tm}(h:WhAt w P B K n l):w.cell? ⟨P,11,none⟩=some (.int .u64 n):=by
 obtain⟨dm,rw_,wd,hp,_⟩:=h.mem
 exact hp.c0
def noK:Nat->Prop:=fun _=>False
theorem WhAt.weak {w:World}{P B n:Nat}{K:Nat->Prop}{l:List Tm}(h:WhAt w P B K n l):WhAt w P B noK n l:=by
 obtain⟨⟨dm,rw_,wd,hp,hdue,hw⟩,h1,h2,h3,h4,h5⟩:=h
 exact⟨⟨dm,rw_,wd,⟨hp.c0,hp.c1,hp.cs,hp.cw,hp.fz,hp.own,hp.apart,hp.pb,hp.bs,fun _ _ _ _ h=>h,fun _ h=>h.elim⟩,hdue,hw⟩,h1,h2,h3,h4,h5⟩
theorem PF.weak {w w':World}{P B:Nat}{K:Nat->Prop}(h:PF w w' P B K):PF w w' P B noK :=
 ⟨h.os,h.tape,h.output,h.size,fun k hk hP hr=>h.block k hk hP (by
  rcases hr with (hr | hr) | hr
  ·exact Or.inl (Or.inl hr)
  ·exact hr.elim
  ·exact Or.inr hr),h.off,h.froz⟩
theorem WhAt.boxes {w w':World}{P B n:Nat}{K:Nat->Prop}{l:List Tm}(h:WhAt w P B noK n l)(hb:Below w.heap.size w w')(hk:∀z,K z->w.heap.size<=z/\∃cs fr,w'.heap[z]? =some (.cells cs 183 fr)):WhAt w' P B K n l:=by
 obtain⟨⟨dm,rw_,wd,hp,hdue,hw⟩,h1,h2,h3,h4,h5⟩:=h.keep hb
 refine⟨⟨dm,rw_,wd,⟨hp.c0,hp.c1,hp.cs,hp.cw,hp.fz,hp.own,hp.apart,hp.pb,hp.bs,fun k hk' z hz hz2=> ?_,fun z hz=>⟨Nat.le_trans h.pb.2 (hk z hz).1,(hk z hz).2⟩⟩,hdue,hw⟩,h1,h2,h3,h4,h5⟩
 obtain⟨⟨dm0,rw0,wd0,hp0,_,_⟩,_⟩:=h
 have e:rw_ k=rw0 k:=by
  have a:=hp.cs k hk'
  have b:=(World.cell?_of_block (a:=⟨P,13+k,none⟩) (hb.block P (by have:=hp0.pb;have:=hp0.bs;omega))).trans (hp0.cs k hk')
  rw [a] at b
  exact Option.some.inj b
 rw [e] at hz
 have:=((hp0.own k hk').lt z hz).2
 have:=(hk z hz2).1
 omega
set_option maxHeartbeats 1000000 in
theorem now_any (w:World)(P now:Nat)(h:w.cell? ⟨P,11,none⟩=some (.int .u64 now)) :
  Calls Tryz.prog 139 #[.pointer (some ⟨P,11,none⟩)] w fun e w'=>e= .returned (.int .u64 now)/\w'=w:=by
 go_enter Tryz.func139,Tryz.ntmps139
 go_wp2_with fail
 go_ret
 exact⟨rfl,rfl⟩
theorem CanIs.len {l l':List Tm}{id x:Int}(h:CanIs l id x l'):l'.length<=l.length:=by
 rcases h with⟨i,hi,_,_,_,rfl⟩ | ⟨_,_,rfl⟩
 ·have:=Zcb l i hi;omega
 ·exact Nat.le_refl _
theorem cut_mem {l:List Tm}{b:Nat}(hb:b<l.length)(ha:Apart l)(t:Tm):t∈l.take b++l.drop (b+1)↔t∈l/\t.id≠(l.getD b .z).id:=by
 have hl:=Zcb l b hb
 constructor
 ·intro h
  obtain⟨i,hi,rfl⟩:=List.getElem_of_mem h
  have e:=Zc1 l b i hb
  rw [List.getD_eq_getElem?_getD,List.getElem?_eq_getElem hi] at e
  simp only [Option.getD_some] at e
  rw [e]
  by_cases c:i<b
  ·rw [if_pos c]
   refine⟨?_,ha i b c hb⟩
   rw [List.getD_eq_getElem?_getD,List.getElem?_eq_getElem (by omega)];exact List.getElem_mem _
  ·rw [if_neg c]
   refine⟨?_,fun x=>ha b (i+1) (by omega) (by omega) x.symm⟩
   rw [List.getD_eq_getElem?_getD,List.getElem?_eq_getElem (by omega)];exact List.getElem_mem _
 ·rintro⟨h,hne⟩
  obtain⟨i,hi,rfl⟩:=List.getElem_of_mem h
  have hib:i≠b:=by
   intro e
   subst e
   rw [List.getD_eq_getElem?_getD,List.getElem?_eq_getElem hi] at hne
   exact hne rfl
  rw [List.mem_append]
  by_cases c:i<b
  ·left
   rw [List.mem_take_iff_getElem]
   exact⟨i,by omega,rfl⟩
  ·right
   rw [List.mem_drop_iff_getElem]
   exact⟨i - (b+1),by omega,by congr 1;omega⟩
theorem CanIs.gone {l l':List Tm}{id x:Int}(h:CanIs l id x l')(ha:Apart l):∀t,t∈l'↔t∈l/\t.id≠id:=by
 intro t
 rcases h with⟨i,hi,he,_,_,rfl⟩ | ⟨hn,_,rfl⟩
 ·rw [cut_mem hi ha,he]
 ·refine⟨fun h=>⟨h,fun e=>hn ?_⟩,fun h=>h.1⟩
  obtain⟨i,hi,rfl⟩:=List.getElem_of_mem h
  exact⟨i,hi,by rw [List.getD_eq_getElem?_getD,List.getElem?_eq_getElem hi];exact e⟩
theorem CanIs.rising {l l':List Tm}{id x:Int}(h:CanIs l id x l')(hr:Rising l):Rising l':=by
 rcases h with⟨i,hi,_,_,_,rfl⟩ | ⟨_,_,rfl⟩
 ·exact hr.cut hi
 ·exact hr
theorem CanIs.apart {l l':List Tm}{id x:Int}(h:CanIs l id x l')(hr:Apart l):Apart l':=by
 rcases h with⟨i,hi,_,_,_,rfl⟩ | ⟨_,_,rfl⟩
 ·exact hr.cut hi
 ·exact hr
theorem SetIs.after {l l1 l':List Tm}{now sq id tm x y sq':Int}(hc:CanIs l id y l1)(ha:Apart l)(hl:l.length<200)(h:SetIs l1 now sq id tm x l' sq'):l'=l1++[⟨id,Za0 now tm,sq+1⟩]:=by
 have hn:¬hasId l1 id l1.length:=by
  rintro⟨j,hj,e⟩
  have hm:l1.getD j .z∈l1:=by rw [List.getD_eq_getElem?_getD,List.getElem?_eq_getElem hj];exact List.getElem_mem _
  exact ((hc.gone ha _).1 hm).2 e
 rcases h with⟨h1,_⟩ | ⟨_,h2,_⟩ | ⟨_,_,_,h3,_⟩
 ·exact absurd h1 hn
 ·have:=hc.len;omega
 ·exact h3
theorem box_blk (w:World)(r nd q:Int):(w.alloc (.cells #[.int .u64 r, .int .i64 nd, .int .i64 q] 183)).heap[w.heap.size]? =some (.cells #[.int .u64 r, .int .i64 nd, .int .i64 q] 183 (0,0)):=heap_alloc_new w _
set_option maxHeartbeats 4000000 in
theorem kset_any (w:World)(P B now:Nat)(l:List Tm)(id r nd q ticks sq:Int)(h:WhAt w P B noK now l)(hid:KeyOk r nd q id)(h0:0<=ticks)(h1:ticks<=4611686018427387904)(hl:l.length<200) :
  Calls Tryz.prog 87 #[.pointer (some ⟨P,4,none⟩), .agg #[.int .u64 r, .int .i64 nd, .int .i64 q], .int .i64 ticks] w fun e w'=>e= .returned (.tuple #[])/\∃x l1,CanIs l id x l1/\WhAt w' P B noK now (l1++[⟨id,Za0 now (now+ticks),sq+1⟩])/\PF w w' P B noK:=by
 obtain⟨w0,hw0⟩:∃w0,w0=w.alloc (.cells #[.int .u64 r, .int .i64 nd, .int .i64 q] 183):=⟨_,rfl⟩
 obtain⟨bx,hbx⟩:∃bx,bx=w.heap.size:=⟨_,rfl⟩
 have HBX:=Hid.mk (show KBox w0 bx r nd q by rw [hw0,hbx];exact box_new w r nd q)
 have hB0:Below w.heap.size w w0:=by rw [hw0];exact (Below.refl _ _).alloc (Nat.le_refl _) _
 have hblk:w0.heap[bx]? =some (.cells #[.int .u64 r, .int .i64 nd, .int .i64 q] 183 (0,0)):=by rw [hw0,hbx];exact box_blk w r nd q
 obtain⟨K,hK⟩:∃K:Nat->Prop,K=(fun z=>z=bx):=⟨_,rfl⟩
 have hW0:WhAt w0.drew P B K now l:=h.boxes (hB0.drew) (fun z hz=>by rw [hK] at hz;subst hz;exact⟨by omega,_,_,hblk⟩)
 have HA:=Hid.mk (And.intro h.apart (And.intro hl (And.intro h.now_ h.pb)))
 have HF0:=Hid.mk (PF.of_below (P:=P) (B:=B) (K:=noK) hB0.drew)
 have HW0:=Hid.mk (And.intro hbx hw0)
 have HID:=Hid.mk hid
 have HK:=Hid.mk (And.intro hK hblk)
 have hbP:bx≠P:=by have:=h.pb;omega
 obtain⟨⟨z0,z1⟩,z2⟩:=HBX.out
 have e1:IntKind.u64.wrap ticks=ticks:=by rw [IntKind.wrap_u64];omega
 have e2:IntKind.u64.wrap ((now:Int)+ticks)=(now:Int)+ticks:=by have:=h.now_;rw [IntKind.wrap_u64];omega
 have hn0:(0:Int)<=(now:Int)+ticks:=by omega
 have hn1:(now:Int)+ticks<18446744073709551616:=by have:=h.now_;omega
 have HC:=Hid.mk (wcancel_any w0.drew P B K now l id r nd q hW0 hid)
 clear h hid hbx hw0 hB0 hl hblk hK hW0
 go_enter Tryz.func87,Tryz.ntmps87
 go_upto_region 1 with fail
 rw [<-HW0.out.1,<-HW0.out.2]
 go_region_held3 (fun w'=>(w'.cell? ⟨bx,0,none⟩=some (.int .u64 r)/\w'.cell? ⟨bx,1,none⟩=some (.int .i64 nd))/\w'.cell? ⟨bx,2,none⟩=some (.int .i64 q)) (go_keep) ((go_at_call 137;refine HC.out.mono ?_;rintro e w1 ⟨x,l1,rfl,hc1,hw1,hf1⟩;have HN:=Hid.mk (And.intro hc1 (And.intro hw1 hf1));have y0:=(World.cell?_of_block (a:=⟨bx,0,none⟩) (hf1.block bx (Zaa HK.out.2) hbP (Or.inl (Or.inr (by rw [HK.out.1]))))).trans z0;have y1:=(World.cell?_of_block (a:=⟨bx,1,none⟩) (hf1.block bx (Zaa HK.out.2) hbP (Or.inl (Or.inr (by rw [HK.out.1]))))).trans z1;have y2:=(World.cell?_of_block (a:=⟨bx,2,none⟩) (hf1.block bx (Zaa HK.out.2) hbP (Or.inl (Or.inr (by rw [HK.out.1]))))).trans z2;clear hc1 hw1 hf1))
 go_upto_region 2 with fail
 have n0:=HN.out.2.1.now0
 have HS:=Hid.mk (wset_any w1.drew P B K now l1 id r nd q ((now:Int)+ticks) sq (HN.out.2.1.keep ((Below.refl _ _).drew)) HID.out hn0 hn1)
 have HNW:=Hid.mk (now_any w1.drew P now n0)
 go_region_held3 (fun w'=>((w'.cell? ⟨bx,0,none⟩=some (.int .u64 r)/\w'.cell? ⟨bx,1,none⟩=some (.int .i64 nd))/\w'.cell? ⟨bx,2,none⟩=some (.int .i64 q))/\w'.cell? ⟨P,11,none⟩=some (.int .u64 now)) (go_keep) ((first | (go_at_call 139;refine HNW.out.mono ?_;rintro e w3 ⟨rfl,rfl⟩) | (go_at_call 138;refine HS.out.mono ?_;rintro e w3 ⟨x3,l3,sq3,rfl,hs3,hw3,hf3⟩;have HN3:=Hid.mk (And.intro hs3 (And.intro hw3 hf3));have hbx1:bx<w1.drew.heap.size:=Nat.lt_of_lt_of_le (Zaa HK.out.2) HN.out.2.2.size;have v0:=(World.cell?_of_block (a:=⟨bx,0,none⟩) (hf3.block bx hbx1 hbP (Or.inl (Or.inr (by rw [HK.out.1]))))).trans y0;have v1:=(World.cell?_of_block (a:=⟨bx,1,none⟩) (hf3.block bx hbx1 hbP (Or.inl (Or.inr (by rw [HK.out.1]))))).trans y1;have v2:=(World.cell?_of_block (a:=⟨bx,2,none⟩) (hf3.block bx hbx1 hbP (Or.inl (Or.inr (by rw [HK.out.1]))))).trans y2;have v3:=hw3.now0;clear hs3 hw3 hf3 hbx1)))
 all_goals
  go_wp2_with fail
  go_end0
  obtain⟨q1,q2,q3⟩:=HN3.out
  obtain⟨u1,u2,u3⟩:=HN.out
  have e:=q1.after u1 HA.out.1 HA.out.2.1
  rw [e] at q2
  exact⟨rfl,x,l1,u1,q2.weak,(HF0.out.trans u3.weak).trans ((PF.of_below ((Below.refl _ _).drew)).trans q3.weak)⟩
inductive StopR (l:List Tm):List Int->List Tm->Prop
 | nil:StopR l [] l
 | snoc (ids:List Int) (l1 l2:List Tm) (id x:Int):StopR l ids l1->CanIs l1 id x l2->StopR l (ids++[id]) l2
theorem StopR.all {l l':List Tm}{ids:List Int}(h:StopR l ids l')(ha:Apart l):Apart l'/\l'.length<=l.length/\(Rising l->Rising l')/\∀t,t∈l'↔t∈l/\t.id ∉ ids:=by
 induction h with
 | nil=>exact⟨ha,Nat.le_refl _,fun h=>h,fun t=>by simp⟩
 | snoc ids l1 l2 id x _ hc ih =>
  obtain⟨i1,i2,i3,i4⟩:=ih
  refine⟨hc.apart i1,Nat.le_trans hc.len i2,fun hr=>hc.rising (i3 hr),fun t=> ?_⟩
  rw [hc.gone i1,i4]
  simp only [List.mem_append,List.mem_singleton,not_or,and_assoc]
def keyQ (r nd:Int)(qs:List Int):List Int:=qs.map (fun q=>keyI r nd q)
def KindsAt (w:World)(vb:Nat)(qs:List Int):Prop:=∃cur,w.heap[vb]? =some (.cells cur 181 (0,0))/\∀i,i<qs.length->cur[i]? =some (.int .i64 (qs.getD i 0))
theorem KindsAt.cell {w:World}{vb:Nat}{qs:List Int}(h:KindsAt w vb qs){i:Nat}(hi:i<qs.length):w.cell? ⟨vb,i,none⟩=some (.int .i64 (qs.getD i 0)):=by
 obtain⟨cur,h1,h2⟩:=h
 unfold World.cell?
 rw [h1]
 exact h2 i hi
theorem KindsAt.at_ {w w':World}{vb:Nat}{qs:List Int}(h:KindsAt w vb qs)(e:w'.heap[vb]? =w.heap[vb]?):KindsAt w' vb qs:=by
 obtain⟨cur,h1,h2⟩:=h
 exact⟨cur,e.trans h1,h2⟩
def SpotAt (w:World)(sb:Nat)(r nd:Int):Prop:=w.heap[sb]? =some (.cells #[.int .u64 r, .int .i64 nd] 180 (0,0))
theorem SpotAt.cells {w:World}{sb:Nat}{r nd:Int}(h:SpotAt w sb r nd):w.cell? ⟨sb,0,none⟩=some (.int .u64 r)/\w.cell? ⟨sb,1,none⟩=some (.int .i64 nd):=by
 unfold World.cell?
 rw [h]
 exact⟨rfl,rfl⟩
theorem PF.other {w w':World}{P B:Nat}{K:Nat->Prop}(h:PF w w' P B K){k:Nat}{cs:Array Value}{t:TypeId}{fr:Nat×Nat}(e:w.heap[k]? =some (.cells cs t fr))(ht:t≠183)(hP:k≠P):w'.heap[k]? =w.heap[k]? :=h.block k (Zaa e) hP (Or.inr ⟨cs,t,fr,e,ht⟩)
set_option maxHeartbeats 4000000 in
theorem stop_any (w:World)(P B now vb:Nat)(l:List Tm)(r nd:Int)(qs:List Int)(h:WhAt w P B noK now l)(hk:∀q,q∈qs->KeyOk r nd q (keyI r nd q))(hv:KindsAt w vb qs)(hvP:vb≠P)(hn:qs.length<=10) :
  Calls Tryz.prog 99 #[.pointer (some ⟨P,4,none⟩), .agg #[.int .u64 r, .int .i64 nd], .slice (some ⟨vb,0,none⟩) qs.length qs.length] w fun e w'=>e= .returned (.tuple #[])/\∃l',StopR l (keyQ r nd qs) l'/\WhAt w' P B noK now l'/\PF w w' P B noK:=by
 obtain⟨n,hqn⟩:∃n,n=qs.length:=⟨_,rfl⟩
 rw [<-hqn] at hn ⊢
 obtain⟨w0,hw0⟩:∃w0,w0=w.alloc (.cells #[.int .u64 r, .int .i64 nd] 180):=⟨_,rfl⟩
 obtain⟨sb,hsb⟩:∃sb,sb=w.heap.size:=⟨_,rfl⟩
 have hB0:Below w.heap.size w w0:=by rw [hw0];exact (Below.refl _ _).alloc (Nat.le_refl _) _
 have hs0:SpotAt w0 sb r nd:=by rw [hw0,hsb];exact heap_alloc_new w _
 obtain⟨hv1,hv2⟩:=(show vb<w.heap.size/\True from⟨by obtain⟨cur,q,_⟩:=hv;exact Zaa q,trivial⟩)
 have hpb:=h.pb
 have hsP:sb≠P:=by omega
 have H:=Hid.mk (And.intro hB0 (And.intro hs0 (And.intro (hv.at_ (hB0.block vb hv1)) (And.intro (h.keep hB0) (And.intro hk (And.intro hqn h.apart))))))
 have HW0:=Hid.mk (And.intro hsb hw0)
 clear h hk hv hB0 hs0 hv1 hv2 hpb hsb hw0 hqn
 go_enter Tryz.func99,Tryz.ntmps99
 go_upto_region 2 with fail
 rw [<-HW0.out.1,<-HW0.out.2]
 go_loopw [10] (fun iv wr=>∃(i:Nat) (li:List Tm),iv= .int .i64 i/\i<=n/\StopR l (keyQ r nd (qs.take i)) li/\WhAt wr P B noK now li/\PF w0 wr P B noK) (fun iv _=>n - (intOf iv).toNat)
 case atStart=>exact⟨0,l,rfl,by omega, .nil,H.out.2.2.2.1,PF.refl _ _ _ _⟩
 case round =>
  obtain⟨i,li,rfl,hi,hst,hwh,hpf⟩:=hrel
  have HR:=Hid.mk (And.intro hst (And.intro hwh hpf))
  by_cases h1:i<n
  ·have hsr:SpotAt wr sb r nd:=(hpf.other H.out.2.1 (by decide) hsP).trans H.out.2.1
   obtain⟨cv,hcv,_⟩:=H.out.2.2.1
   have hvr:KindsAt wr vb qs:=H.out.2.2.1.at_ (hpf.other hcv (by decide) hvP)
   obtain⟨z0,z1⟩:=hsr.cells
   have v0:=hvr.cell (i:=i) (by have:=H.out.2.2.2.2.2.1;omega)
   obtain⟨q,hq⟩:∃q,q=qs.getD i 0:=⟨_,rfl⟩
   rw [<-hq] at v0
   have hqm:q∈qs:=by
    rw [hq,List.getD_eq_getElem?_getD,List.getElem?_eq_getElem (by have:=H.out.2.2.2.2.2.1;omega)]
    exact List.getElem_mem _
   have HQ:=Hid.mk hq
   have HC:=Hid.mk (wcancel_any wr.drew P B noK now li _ r nd q (hwh.keep ((Below.refl _ _).drew)) (H.out.2.2.2.2.1 q hqm))
   have hsrd:SpotAt wr.drew sb r nd:=hsr
   have HSR:=Hid.mk hsrd
   have i1:(i:Int)<(n:Int):=by omega
   clear hst hwh hpf hsr hcv hvr hq hqm hsrd
   go_upto_region 4 with fail
   go_region_held3 (fun w'=>w'.cell? ⟨sb,0,none⟩=some (.int .u64 r)/\w'.cell? ⟨sb,1,none⟩=some (.int .i64 nd)) (go_keep) ((go_at_call 137;refine HC.out.mono ?_;rintro e w3 ⟨x,l1,rfl,hc1,hw1,hf1⟩;have HN:=Hid.mk (And.intro hc1 (And.intro hw1 hf1));have y:=(show SpotAt w3 sb r nd from (hf1.other HSR.out (by decide) hsP).trans HSR.out).cells;have y0:=y.1;have y1:=y.2;clear hc1 hw1 hf1 y))
   all_goals
    go_wp2_with fail
    go_roundw
    case rel =>
     obtain⟨q1,q2,q3⟩:=HN.out
     obtain⟨u1,u2,u3⟩:=HR.out
     have ht:keyQ r nd (qs.take (i+1))=keyQ r nd (qs.take i)++[keyI r nd q]:=by
      unfold keyQ
      rw [List.take_add_one,List.map_append,HQ.out,List.getD_eq_getElem?_getD]
      rw [List.getElem?_eq_getElem (by have:=H.out.2.2.2.2.2.1;omega)]
      rfl
     refine⟨i+1,l1,by go_num,by omega,?_,q2,(u3.trans (PF.of_below ((Below.refl _ _).drew))).trans q3⟩
     rw [ht]
     exact .snoc _ _ _ _ x u1 q1
    case measure=>simp [intOf];omega
  ·have e:i=n:=by omega
   subst e
   have i1:¬(i:Int)<(i:Int):=by omega
   clear h1
   go_wp2_with fail
   go_end0
   obtain⟨q1,q2,q3⟩:=HR.out
   refine⟨rfl,li,?_,q2,(PF.of_below H.out.1).trans q3⟩
   rw [List.take_of_length_le (by have:=H.out.2.2.2.2.2.1;omega)] at q1
   exact q1
set_option maxHeartbeats 2000000 in
theorem await_any (w:World)(P B now:Nat)(l:List Tm)(r nd ticks sq:Int)(h:WhAt w P B noK now l)(hid:KeyOk r nd 2 (keyI r nd 2))(h0:0<=ticks)(h1:ticks<=4611686018427387904)(hl:l.length<200) :
  Calls Tryz.prog 97 #[.pointer (some ⟨P,4,none⟩), .agg #[.int .u64 r, .int .i64 nd], .int .i64 ticks] w fun e w'=>e= .returned (.tuple #[])/\(∃l',((ticks=0/\l'=l)\/(ticks≠0/\∃x l1,CanIs l (keyI r nd 2) x l1/\l'=l1++[⟨keyI r nd 2,Za0 now (now+ticks),sq+1⟩]))/\WhAt w' P B noK now l')/\PF w w' P B noK:=by
 obtain⟨w0,hw0⟩:∃w0,w0=w.alloc (.cells #[.int .u64 r, .int .i64 nd] 180):=⟨_,rfl⟩
 obtain⟨sb,hsb⟩:∃sb,sb=w.heap.size:=⟨_,rfl⟩
 have hB0:Below w.heap.size w w0:=by rw [hw0];exact (Below.refl _ _).alloc (Nat.le_refl _) _
 have hs0:SpotAt w0 sb r nd:=by rw [hw0,hsb];exact heap_alloc_new w _
 have hpb:=h.pb
 have hsP:sb≠P:=by omega
 obtain⟨z0,z1⟩:=hs0.cells
 have hw1:=h.keep hB0
 have hset:=kset_any w0 P B now l (keyI r nd 2) r nd 2 ticks sq hw1 hid h0 h1 hl
 have H:=Hid.mk (And.intro hB0 (And.intro hw1 hset))
 have HW0:=Hid.mk (And.intro hsb hw0)
 clear h hid hB0 hs0 hpb hsb hw0 hset hw1
 by_cases ht:ticks=0
 ·subst ht
  go_enter Tryz.func97,Tryz.ntmps97
  go_wp2_with fail
  try rw [<-HW0.out.1,<-HW0.out.2]
  go_end0
  exact⟨rfl,⟨l,Or.inl ⟨by first | rfl | trivial,rfl⟩,H.out.2.1⟩,PF.of_below H.out.1⟩
 ·have g1:(ticks != 0)=true:=by simpa using ht
  have g1':decide (ticks=0)=false:=decide_eq_false ht
  have HT:=Hid.mk ht
  go_enter Tryz.func97,Tryz.ntmps97
  go_upto_region 2 with fail
  rw [<-HW0.out.1,<-HW0.out.2]
  go_wp2_with (go_at_call 87;refine H.out.2.2.mono ?_;rintro e w3 ⟨rfl,x,l1,hc1,hw1,hf1⟩;have HN:=Hid.mk (And.intro hc1 (And.intro hw1 hf1));clear hc1 hw1 hf1)
  go_end0
  obtain⟨q1,q2,q3⟩:=HN.out
  exact⟨rfl,⟨_,Or.inr ⟨HT.out,x,l1,q1,rfl⟩,q2⟩,(PF.of_below H.out.1).trans q3⟩
end Go.Proofs.YtgdcjccbdmcebabGreatDoor
