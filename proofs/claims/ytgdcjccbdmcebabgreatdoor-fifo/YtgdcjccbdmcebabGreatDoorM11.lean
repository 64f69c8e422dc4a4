import Derived.Test.YtgdcjccbdmcebabGreatDoorM03
import Derived.Test.YtgdcjccbdmcebabGreatDoorM10
import Derived.Deep.LoopGhost
set_option linter.unusedSimpArgs false
set_option linter.unusedVariables false
namespace Go.Proofs.YtgdcjccbdmcebabGreatDoor
open Go.RowKit
set_option maxRecDepth 100000
attribute [local go_sem ↓] Go.wp_at_zero Go.wp_at_succ
def overSt (st:Int):Int:=if st=5\/st=6 then st else 7
def NdM.over (n:NdM):NdM:=⟨0,0,0,0,0,0,none,0,[],overSt n.st,n.tries,0⟩
def RnM.endTo (r:RnM)(st:Int)(k:Nat):RnM:={ r with st:=st,ns:=(r.ns.take k).map NdM.over++r.ns.drop k }
def RnM.ended (r:RnM)(st:Int):RnM:={ r with st:=st,ns:=r.ns.map NdM.over }
theorem RnM.endTo_zero (r:RnM)(st:Int):r.endTo st 0={ r with st:=st }:=by unfold RnM.endTo;simp
theorem RnM.endTo_all (r:RnM)(st:Int):r.endTo st r.ns.length=r.ended st:=by unfold RnM.endTo RnM.ended;simp
theorem RnM.endTo_len (r:RnM)(st:Int)(k:Nat):(r.endTo st k).ns.length=r.ns.length:=by unfold RnM.endTo;simp;omega
theorem RnM.endTo_at {r:RnM}{st:Int}{k m:Nat}(hm:m<r.ns.length):(r.endTo st k).at_ m=if m<k then (r.at_ m).over else r.at_ m:=by
 unfold RnM.endTo RnM.at_
 simp only [List.getD_eq_getElem?_getD]
 by_cases h:m<k
 ·rw [if_pos h,List.getElem?_append_left (by simp;omega),List.getElem?_map,List.getElem?_take_of_lt h,List.getElem?_eq_getElem hm];rfl
 ·rw [if_neg h,List.getElem?_append_right (by simp;omega),List.getElem?_drop]
  congr 2
  rw [List.length_map,List.length_take]
  omega
theorem ns_ext {r q:RnM}(h1:q.b=r.b/\q.id=r.id/\q.st=r.st/\q.ng=r.ng/\q.nc=r.nc)(hl:q.ns.length=r.ns.length)(ha:∀m,m<r.ns.length->q.at_ m=r.at_ m):q=r:=by
 obtain⟨b,id,st,ng,nc,ns⟩:=r
 obtain⟨b',id',st',ng',nc',ns'⟩:=q
 simp only at h1 hl
 obtain⟨rfl,rfl,rfl,rfl,rfl⟩:=h1
 congr 1
 apply List.ext_getElem hl
 intro m h2 h3
 have:=ha m h3
 simp only [RnM.at_,List.getD_eq_getElem?_getD,List.getElem?_eq_getElem h2,List.getElem?_eq_getElem h3,Option.getD_some] at this
 exact this
theorem RnM.endTo_succ {r:RnM}{st:Int}{k:Nat}(hk:k<r.ns.length):r.endTo st (k+1)=(r.endTo st k).onNd k (fun _=>(r.at_ k).over):=by
 refine ns_ext ⟨rfl,rfl,rfl,rfl,rfl⟩ (by rw [r.endTo_len,RnM.onNd_len,r.endTo_len]) (fun m hm=> ?_)
 rw [RnM.onNd_len,r.endTo_len] at hm
 rw [RnM.onNd_at _ _ _ _ (by rw [r.endTo_len];exact hm),RnM.endTo_at hm,RnM.endTo_at hm]
 by_cases e:k=m
 ·subst e;rw [if_pos (by omega),if_pos rfl]
 ·rw [if_neg e]
  by_cases h:m<k
  ·rw [if_pos h,if_pos (by omega)]
  ·rw [if_neg h,if_neg (by omega)]
theorem onNd_onNd (r:RnM)(k:Nat)(f:NdM->NdM)(n:NdM)(hk:k<r.ns.length):(r.onNd k f).onNd k (fun _=>n)=r.onNd k (fun _=>n):=by
 refine ns_ext ⟨rfl,rfl,rfl,rfl,rfl⟩ (by simp [RnM.onNd_len]) (fun m hm=> ?_)
 rw [RnM.onNd_len] at hm
 rw [RnM.onNd_at _ _ _ _ (by rw [RnM.onNd_len];exact hm),RnM.onNd_at _ _ _ _ hm,RnM.onNd_at _ _ _ _ hm]
 by_cases e:k=m
 ·rw [if_pos e,if_pos e]
 ·rw [if_neg e,if_neg e,if_neg e]
theorem RnAt.drew {w:World}{B:Nat}{r:RnM}(h:RnAt w B r):RnAt w.drew B r:=h.below ((Below.refl _ _).drew)
theorem RnF.drew {w w':World}{b g:Nat}(h:RnF w w' b g):RnF w w'.drew b g:=⟨h.os,h.tape,h.output,h.size,h.block⟩
set_option maxHeartbeats 8000000 in
theorem kend_any (w:World)(B:Nat)(r:RnM)(st:Int)(h:RnAt w B r) :
  Calls Tryz.prog 145 #[.pointer (some ⟨r.b,0,none⟩), .int .i64 st] w fun e w'=>e= .returned (.tuple #[])/\RnAt w' B (r.ended st)/\RnF w w' r.b r.ng:=by
 obtain⟨⟨c0,c1,c2⟩,cf⟩:=h.topC
 have f1:=cf 1
 have HS:=Hid.mk (h.setSt st)
 obtain⟨_,_,hnc,hcm,_,_⟩:=h.rowBlk
 have h12:=h.few
 obtain⟨m,hm⟩:∃m,m=r.ns.length:=⟨_,rfl⟩
 rw [<-hm] at c2 hnc h12
 have HM:=Hid.mk hm
 have HW:=Hid.mk (RnF.setB w r.b r.ng 1 (.int .i64 st))
 have d2:=HS.out.topC.1.2.2
 rw [show ({ r with st:=st }:RnM).ns.length=m from hm.symm] at d2
 have d2:(w.setCell ⟨r.b,1,none⟩ (.int .i64 st)).cell? ⟨r.b,2,none⟩=some (.slice (some ⟨r.ng,0,none⟩) m r.nc):=d2
 clear h hm c0 hcm cf
 go_enter Tryz.func145,Tryz.ntmps145
 go_wp2_with fail
 go_loopw [15] (fun iv wr=>∃i:Nat,iv= .int .i64 i/\i<=m/\RnAt wr B (r.endTo st i)/\RnF w wr r.b r.ng) (fun iv _=>m - (intOf iv).toNat)
 case atStart=>exact⟨0,rfl,by omega,by rw [r.endTo_zero];exact HS.out,HW.out⟩
 case round =>
  obtain⟨i,rfl,hi,hra,hrf⟩:=hrel
  have HR:=Hid.mk (And.intro hra hrf)
  clear c1 c2 d2 f1
  by_cases h1:i<m
  ·obtain⟨⟨c0,c1,c2⟩,cf⟩:=hra.topC
   have hil:i<r.ns.length:=by have:=HM.out;omega
   have hil2:i<(r.endTo st i).ns.length:=by rw [r.endTo_len];exact hil
   have hnd:=hra.nd hil2
   have c2:wr.cell? ⟨r.b,2,none⟩=some (.slice (some ⟨r.ng,0,none⟩) m r.nc):=by
    have e:(r.endTo st i).ns.length=m:=by rw [r.endTo_len];exact HM.out.symm
    rw [<-e];exact c2
   have hat:(r.endTo st i).at_ i=r.at_ i:=by rw [RnM.endTo_at hil,if_neg (by omega)]
   rw [hat] at hnd
   have hnd:NdC wr r.ng (i * 10) (r.at_ i):=hnd
   obtain⟨t0,t1,t2,t3,t4,t5,t6,t7,t8,t9⟩:=hnd
   have z:∀j,wr.frozen? ⟨r.ng,i * 10+j,none⟩=false:=fun j=>hra.froz _
   have z0:wr.frozen? ⟨r.ng,i * 10,none⟩=false:=hra.froz (i * 10)
   have z1:=z 1;have z2:=z 2;have z3:=z 3;have z4:=z 4;have z5:=z 5;have z6:=z 6;have z7:=z 7;have z8:=z 8;have z9:=z 9
   have hset:=fun v=>hra.setNd (k:=i) (j:=7) (f:=fun n=>{ n with st:=v }) (v:= .int .i64 v) hil2 (by omega) rfl ⟨rfl,rfl,rfl⟩
   have HT:=Hid.mk (And.intro hat (And.intro hset (And.intro hil hil2)))
   have i1:(i:Int)<(m:Int):=by omega
   have i2:i<m:=h1
   clear z hset hat hil hil2 cf hra hrf c0 c1
   generalize hn:r.at_ i=n at *
   by_cases q5:n.st=5
   ·have g5:decide (n.st=5)=true:=decide_eq_true q5
    have g5':(n.st != 5)=false:=by simp [q5]
    have HQ:=Hid.mk q5
    rw [q5] at t7
    go_upto_region 7 with fail
    go_region
    all_goals
     go_wp2_with fail
     go_roundw
     case rel =>
      have hq:n.over=⟨0,0,0,0,0,0,none,0,[],5,n.tries,0⟩:=by unfold NdM.over overSt;rw [HQ.out];rfl
      obtain⟨k1,k2⟩:=HR.out.1.setAll (w':=wr.setCells (r.endTo st i).ng (i * 10) (knV n.over)) HT.out.2.2.2 n.over ⟨rfl,rfl,rfl⟩ rfl
      have hs:=RnM.endTo_succ (st:=st) HT.out.2.2.1
      rw [hn] at hs
      rw [<-hs] at k1
      rw [hq] at k1 k2
      exact⟨i+1,by go_num,by omega,k1.drew,(HR.out.2.trans k2).drew⟩
     case measure=>simp [intOf];omega
   ·by_cases q6:n.st=6
    ·have g5:decide (n.st=5)=false:=decide_eq_false q5
     have HQ:=Hid.mk q6
     rw [q6] at t7
     clear q5 q6 g5
     go_upto_region 7 with fail
     go_region
     all_goals
      go_wp2_with fail
      go_roundw
      case rel =>
       have hq:n.over=⟨0,0,0,0,0,0,none,0,[],6,n.tries,0⟩:=by unfold NdM.over overSt;rw [HQ.out];rfl
       obtain⟨k1,k2⟩:=HR.out.1.setAll (w':=wr.setCells (r.endTo st i).ng (i * 10) (knV n.over)) HT.out.2.2.2 n.over ⟨rfl,rfl,rfl⟩ rfl
       have hs:=RnM.endTo_succ (st:=st) HT.out.2.2.1
       rw [hn] at hs
       rw [<-hs] at k1
       rw [hq] at k1 k2
       exact⟨i+1,by go_num,by omega,k1.drew,(HR.out.2.trans k2).drew⟩
      case measure=>simp [intOf];omega
    ·have g5:decide (n.st=5)=false:=decide_eq_false q5
     have g6:decide (n.st=6)=false:=decide_eq_false q6
     have g5':(n.st == 5)=false:=by simpa using q5
     have g6':(n.st == 6)=false:=by simpa using q6
     have HQ:=Hid.mk (And.intro q5 q6)
     have hset7:RnAt (wr.setCell ⟨r.ng,i * 10+7,none⟩ (.int .i64 7)) B _:=HT.out.2.1 7
     have HS7:=Hid.mk hset7
     have g5'':(n.st != 5)=true:=by simpa using q5
     have g6'':(n.st != 6)=true:=by simpa using q6
     clear hset7
     go_upto_region 7 with fail
     obtain⟨w1,hw1⟩:∃w1,w1=wr.setCell ⟨r.ng,i * 10+7,none⟩ (.int .i64 7):=⟨_,rfl⟩
     rw [<-hw1]
     have h7:=HS7.out
     rw [<-hw1] at h7
     have hil7:i<((r.endTo st i).onNd i (fun n=>{ n with st:=7 })).ns.length:=by rw [RnM.onNd_len];exact HT.out.2.2.2
     have hnd7:=h7.nd hil7
     have hat7:((r.endTo st i).onNd i (fun n=>{ n with st:=7 })).at_ i={ n with st:=7 }:=by rw [RnM.onNd_at _ _ _ _ HT.out.2.2.2,if_pos rfl,HT.out.1]
     rw [hat7] at hnd7
     have hnd7:NdC w1 r.ng (i * 10) { n with st:=7 }:=hnd7
     obtain⟨t0,t1,t2,t3,t4,t5,t6,t7,t8,t9⟩:=hnd7
     have z:∀j,w1.frozen? ⟨r.ng,i * 10+j,none⟩=false:=fun j=>h7.froz _
     have z0:w1.frozen? ⟨r.ng,i * 10,none⟩=false:=h7.froz (i * 10)
     have z1:=z 1;have z2:=z 2;have z3:=z 3;have z4:=z 4;have z5:=z 5;have z6:=z 6;have z7:=z 7;have z8:=z 8;have z9:=z 9
     have H7:=Hid.mk (And.intro h7 (And.intro hil7 hw1))
     clear z h7 hil7 hat7 hw1
     go_region
     all_goals
      go_wp2_with fail
      go_roundw
      case rel =>
       obtain⟨u1,u2,u3⟩:=H7.out
       have hq:n.over=⟨0,0,0,0,0,0,none,0,[],7,n.tries,0⟩:=by unfold NdM.over overSt;rw [if_neg (fun h=>h.elim HQ.out.1 HQ.out.2)]
       obtain⟨k1,k2⟩:=u1.setAll (w':=w1.setCells (r.endTo st i).ng (i * 10) (knV n.over)) u2 n.over ⟨rfl,rfl,rfl⟩ rfl
       have hs:=RnM.endTo_succ (st:=st) HT.out.2.2.1
       rw [hn] at hs
       rw [onNd_onNd _ _ _ _ HT.out.2.2.2,<-hs] at k1
       rw [hq] at k1 k2
       have k0:RnF w w1 r.b r.ng:=by rw [u3];exact HR.out.2.trans (RnF.setG wr r.b r.ng _ _)
       exact⟨i+1,by go_num,by omega,k1.drew,(k0.trans k2).drew⟩
      case measure=>simp [intOf];omega
  ·have e:i=m:=by omega
   have HE:=Hid.mk e
   have i1:¬(i:Int)<(m:Int):=by omega
   clear e h1
   go_wp2_with fail
   go_end0
   have h1:=HR.out.1
   rw [HE.out,HM.out,r.endTo_all] at h1
   exact⟨rfl,h1,HR.out.2⟩
def rnAt (rs:List RnM)(i:Nat):RnM:=rs.getD i .z
structure KnAt (w:World)(P B:Nat)(ka:Option Addr)(kc:Nat)(rs:List RnM):Prop where
 c:w.cell? ⟨P,4,none⟩=some (.slice ka rs.length kc)
 fz:∀o,w.frozen? ⟨P,o,none⟩=false
 row:RowAt w B 173 1 rnP ka kc rs
 runs:∀i,i<rs.length->RnAt w B (rnAt rs i)
 bA:∀i j,i<rs.length->j<rs.length->(rnAt rs i).b=(rnAt rs j).b->i=j
 gA:∀i j,i<rs.length->j<rs.length->(rnAt rs i).ng=(rnAt rs j).ng->i=j
 pb:P<B
 bs:B<=w.heap.size
 few:rs.length<=6
theorem KnAt.keepT {w w':World}{P B:Nat}{ka:Option Addr}{kc:Nat}{rs:List RnM}(h:KnAt w P B ka kc rs)(hs:w.heap.size<=w'.heap.size)(hc:w'.cell? ⟨P,4,none⟩=w.cell? ⟨P,4,none⟩)(hf:∀o,w'.frozen? ⟨P,o,none⟩=w.frozen? ⟨P,o,none⟩)
  (hb:∀k cs t fr,B<=k->w.heap[k]? =some (.cells cs t fr)->(t=173\/t=178\/t=189\/t=3)->w'.heap[k]? =w.heap[k]?):KnAt w' P B ka kc rs:=by
 refine⟨hc.trans h.c,fun o=>(hf o).trans (h.fz o),?_,fun i hi=>(h.runs i hi).keepT (fun k cs t fr h1 h2 h3=>hb k cs t fr h1 h2 (Or.inr h3)),h.bA,h.gA,h.pb,Nat.le_trans h.bs hs,h.few⟩
 refine⟨h.row.1,?_⟩
 rcases h.row.2 with h2 | ⟨g,cap,cur,h2,hg,hh,hr⟩
 ·exact Or.inl h2
 ·exact Or.inr ⟨g,cap,cur,h2,hg,(hb g cur _ (0,0) hg hh (Or.inl rfl)).trans hh,hr⟩
theorem KnAt.below {w w':World}{P B:Nat}{ka:Option Addr}{kc:Nat}{rs:List RnM}(h:KnAt w P B ka kc rs)(hb:Below w.heap.size w w'):KnAt w' P B ka kc rs:=by
 have hP:P<w.heap.size:=Nat.lt_of_lt_of_le h.pb h.bs
 exact h.keepT hb.size (World.cell?_of_block (a:=⟨P,4,none⟩) (hb.block P hP)) (fun o=>World.frozen?_of_block (a:=⟨P,o,none⟩) (hb.block P hP)) (fun k _ _ _ _ e _=>hb.block k (Zaa e))
theorem KnAt.ptr {w:World}{P B:Nat}{ka:Option Addr}{kc:Nat}{rs:List RnM}(h:KnAt w P B ka kc rs)(hn:0<rs.length):∃g,ka=some ⟨g,0,none⟩/\rs.length<=kc/\kc<=maxLen/\B<=g/\g<w.heap.size/\∀i,i<rs.length->w.cell? ⟨g,i,none⟩=some (.pointer (some ⟨(rnAt rs i).b,0,none⟩)):=by
 obtain⟨g,cur,hg,h1,h2,h3,h4,hh⟩:=Zdl h.row hn
 subst hg
 refine⟨g,rfl,h3,h4,h1,h2,fun i hi=> ?_⟩
 have:=row_cell (z:=RnM.z) h.row rnP_len (i:=i) (j:=0) hi (by omega)
 rw [Nat.mul_one,Nat.add_zero] at this
 exact this
theorem KnAt.onRun {w w':World}{P B:Nat}{ka:Option Addr}{kc:Nat}{rs:List RnM}(h:KnAt w P B ka kc rs){i:Nat}(hi:i<rs.length){r':RnM}(hr:RnAt w' B r')(hb:r'.b=(rnAt rs i).b)(hg:r'.ng=(rnAt rs i).ng)(hf:RnF w w' (rnAt rs i).b (rnAt rs i).ng):KnAt w' P B ka kc (rs.set i r'):=by
 have hP:P<w.heap.size:=Nat.lt_of_lt_of_le h.pb h.bs
 obtain⟨cg,hgh,_,_,hgB,_⟩:=(h.runs i hi).rowBlk
 have htop:=(h.runs i hi).top
 have hPb:P≠(rnAt rs i).b:=by have:=(h.runs i hi).bb;have:=h.pb;omega
 have hPg:P≠(rnAt rs i).ng:=by have:=h.pb;omega
 have hPe:=hf.block P hP hPb hPg
 have hat:∀j,j<rs.length->rnAt (rs.set i r') j=if i=j then r' else rnAt rs j:=by
  intro j hj
  unfold rnAt
  rw [List.getD_eq_getElem?_getD,List.getD_eq_getElem?_getD,List.getElem?_set]
  by_cases e:i=j
  ·subst e;rw [if_pos rfl,if_pos hi,if_pos rfl];rfl
  ·rw [if_neg e,if_neg e]
 have hbl:∀j,j<rs.length->(rnAt (rs.set i r') j).b=(rnAt rs j).b/\(rnAt (rs.set i r') j).ng=(rnAt rs j).ng:=by
  intro j hj
  rw [hat j hj]
  split
  ·rename_i e;subst e;exact⟨hb,hg⟩
  ·exact⟨rfl,rfl⟩
 refine⟨?_,fun o=>(World.frozen?_of_block (a:=⟨P,o,none⟩) hPe).trans (h.fz o),?_,?_,?_,?_,h.pb,Nat.le_trans h.bs hf.size,by rw [List.length_set];exact h.few⟩
 ·rw [List.length_set];exact (World.cell?_of_block (a:=⟨P,4,none⟩) hPe).trans h.c
 ·have e1:(rs.set i r').flatMap rnP=rs.flatMap rnP:=by
   rw [List.flatMap_def,List.flatMap_def]
   congr 1
   apply List.ext_getElem (by simp)
   intro j h1 h2
   simp only [List.getElem_map,List.getElem_set]
   split
   ·rename_i e
    subst e
    unfold rnP
    rw [hb]
    have:rnAt rs i=rs[i]:=by unfold rnAt;rw [List.getD_eq_getElem?_getD,List.getElem?_eq_getElem hi];rfl
    rw [this]
   ·rfl
  unfold RowAt
  rw [e1,List.length_set]
  refine⟨h.row.1,?_⟩
  rcases h.row.2 with h2 | ⟨g,cap,cur,h2,hgg,hh,hrr⟩
  ·exact Or.inl h2
  ·exact Or.inr ⟨g,cap,cur,h2,hgg,(hf.block g (Zaa hh) (Zak hh htop (by decide)) (Zak hh hgh (by decide))).trans hh,hrr⟩
 ·intro j hj
  rw [List.length_set] at hj
  rw [hat j hj]
  by_cases e:i=j
  ·subst e;rw [if_pos rfl];exact hr
  ·rw [if_neg e]
   have hj':=h.runs j hj
   obtain⟨cj,hjh,_,_,_,_⟩:=hj'.rowBlk
   refine⟨(hf.block _ hj'.lt (fun x=>e (h.bA i j hi hj x.symm)) (Zak hj'.top hgh (by decide))).trans hj'.top,hj'.bb,?_,fun k hk=> ?_,hj'.some_,hj'.few⟩
   ·refine⟨hj'.row.1,?_⟩
    rcases hj'.row.2 with h2 | ⟨g,cap,cur,h2,hgg,hh,hrr⟩
    ·exact Or.inl h2
    ·refine Or.inr ⟨g,cap,cur,h2,hgg,(hf.block g (Zaa hh) (Zak hh htop (by decide)) (fun x=> ?_)).trans hh,hrr⟩
     obtain rfl:(rnAt rs j).ng=g:=by simpa using congrArg (fun v=>match v with | Value.slice (some a) _ _=>a.block | _=>0) h2
     exact e (h.gA i j hi hj x.symm)
   ·have ha:=hj'.aft k hk
    refine⟨ha.1,?_⟩
    rcases ha.2 with h2 | ⟨g,cap,cur,h2,hgg,hh,hrr⟩
    ·exact Or.inl h2
    ·exact Or.inr ⟨g,cap,cur,h2,hgg,(hf.block g (Zaa hh) (Zak hh htop (by decide)) (Zak hh hgh (by decide))).trans hh,hrr⟩
 ·intro x y hx hy hxy
  rw [List.length_set] at hx hy
  rw [(hbl x hx).1,(hbl y hy).1] at hxy
  exact h.bA x y hx hy hxy
 ·intro x y hx hy hxy
  rw [List.length_set] at hx hy
  rw [(hbl x hx).2,(hbl y hy).2] at hxy
  exact h.gA x y hx hy hxy
def findR (rs:List RnM)(id:Int):Option Nat:=rs.findIdx? (fun r=>r.id == id)
def ptrR (rs:List RnM):Option Nat->Value
 | none=> .pointer none
 | some i=> .pointer (some ⟨(rnAt rs i).b,0,none⟩)
theorem rnAt_eq {rs:List RnM}{i:Nat}(hi:i<rs.length):rnAt rs i=rs[i]:=by unfold rnAt;rw [List.getD_eq_getElem?_getD,List.getElem?_eq_getElem hi];rfl
theorem findR_some {rs:List RnM}{id:Int}{i:Nat}(hi:i<rs.length)(h:(rnAt rs i).id=id)(hn:∀j,j<i->(rnAt rs j).id≠id):findR rs id=some i:=by
 unfold findR
 rw [List.findIdx?_eq_some_iff_getElem]
 refine⟨hi,by rw [<-rnAt_eq hi];simpa using h,fun j hj=> ?_⟩
 rw [<-rnAt_eq (by omega)]
 simpa using hn j hj
theorem findR_none {rs:List RnM}{id:Int}(hn:∀j,j<rs.length->(rnAt rs j).id≠id):findR rs id=none:=by
 unfold findR
 rw [List.findIdx?_eq_none_iff]
 intro x hx
 obtain⟨j,hj,rfl⟩:=List.getElem_of_mem hx
 have:=hn j hj
 rw [rnAt_eq hj] at this
 simpa using this
set_option maxHeartbeats 4000000 in
theorem find_any (w:World)(P B kc:Nat)(ka:Option Addr)(rs:List RnM)(id:Int)(h:KnAt w P B ka kc rs) :
  Calls Tryz.prog 94 #[.pointer (some ⟨P,4,none⟩), .int .u64 id] w fun e w'=>e= .returned (ptrR rs (findR rs id))/\w'=w:=by
 have H:=Hid.mk h
 have c:=h.c
 have hfew:=h.few
 obtain⟨m,hm⟩:∃m,m=rs.length:=⟨_,rfl⟩
 rw [<-hm] at c hfew
 have HM:=Hid.mk hm
 clear h hm
 go_enter Tryz.func94,Tryz.ntmps94
 go_wp2_with fail
 go_loopw [12] (fun iv wr=>∃i:Nat,iv= .int .i64 i/\i<=m/\wr=w/\∀j,j<i->(rnAt rs j).id≠id) (fun iv _=>m - (intOf iv).toNat)
 case atStart=>exact⟨0,rfl,by omega,rfl,by omega⟩
 case round =>
  obtain⟨i,rfl,hi,hww,hno⟩:=hrel
  have HNO:=Hid.mk hno
  have HWW:=Hid.mk hww
  rw [hww]
  clear hno hww
  by_cases h1:i<m
  ·obtain⟨g,rfl,h2,h3,_,h5,h6⟩:=H.out.ptr (by have:=HM.out;omega)
   have p0:=h6 i (by have:=HM.out;omega)
   have hR:=H.out.runs i (by have:=HM.out;omega)
   obtain⟨⟨t0,_,_⟩,_⟩:=hR.topC
   rw [<-HM.out] at h2
   obtain⟨r,hr⟩:∃r,r=rnAt rs i:=⟨_,rfl⟩
   rw [<-hr] at p0 t0
   have HR:=Hid.mk hr
   have i1:(i:Int)<(m:Int):=by omega
   clear h3 h5 h6 hR hr
   by_cases e:r.id=id
   ·have g1:(r.id == id)=true:=by simpa using e
    have g1':decide (r.id=id)=true:=decide_eq_true e
    have HE:=Hid.mk e
    go_wp2_with fail
    go_ret
    rw [findR_some (by have:=HM.out;omega) (by rw [<-HR.out];exact HE.out) HNO.out]
    exact⟨by show _=Ending.returned (.pointer (some ⟨(rnAt rs i).b,0,none⟩));rw [<-HR.out];rfl,rfl⟩
   ·have g1:(r.id == id)=false:=by simpa using e
    have g1':decide (r.id=id)=false:=decide_eq_false e
    have HE:=Hid.mk e
    go_wp2_with fail
    go_roundw
    case rel=>exact⟨i+1,by go_num,by omega,by first | rfl | trivial,fun j hj=>by
     by_cases q:j=i
     ·subst q;rw [<-HR.out];exact HE.out
     ·exact HNO.out j (by omega)⟩
    case measure=>simp [intOf];omega
  ·have i1:¬(i:Int)<(m:Int):=by omega
   have HJ:=Hid.mk h1
   clear h1
   go_wp2_with fail
   go_ret
   rw [findR_none (fun j hj=>HNO.out j (by have:=HJ.out;have:=HM.out;omega))]
   exact⟨rfl,rfl⟩
def NdM.works (n:NdM)(tok:Int):Prop:=n.st=3/\n.tok=tok
inductive WorkIs (rs:List RnM) (tok:Int):Option (Nat×Nat)->Prop
 | no:(∀i k,i<rs.length->k<(rnAt rs i).ns.length->¬((rnAt rs i).at_ k).works tok)->WorkIs rs tok none
 | at_ (i k:Nat):i<rs.length->k<(rnAt rs i).ns.length->((rnAt rs i).at_ k).works tok->(∀j,j<k->¬((rnAt rs i).at_ j).works tok)->(∀j m,j<i->m<(rnAt rs j).ns.length->¬((rnAt rs j).at_ m).works tok)->WorkIs rs tok (some (i,k))
def workV (rs:List RnM):Option (Nat×Nat)->Value
 | none=> .tuple #[.pointer none, .int .i64 0, .bool false]
 | some (i,k)=> .tuple #[.pointer (some ⟨(rnAt rs i).b,0,none⟩), .int .i64 k, .bool true]
set_option maxHeartbeats 8000000 in
theorem working_any (w:World)(P B kc:Nat)(ka:Option Addr)(rs:List RnM)(tok:Int)(h:KnAt w P B ka kc rs) :
  Calls Tryz.prog 142 #[.pointer (some ⟨P,4,none⟩), .int .u64 tok] w fun e w'=>∃o,e= .returned (workV rs o)/\WorkIs rs tok o/\Below w.heap.size w w':=by
 have H:=Hid.mk h
 have HB:=Hid.mk (Below.refl w.heap.size w)
 have c:=h.c
 have hfew:=h.few
 obtain⟨m,hm⟩:∃m,m=rs.length:=⟨_,rfl⟩
 rw [<-hm] at c hfew
 have HM:=Hid.mk hm
 clear h hm
 go_enter Tryz.func142,Tryz.ntmps142
 go_wp2_with fail
 clear c
 go_loopw [16] (fun iv wr=>∃i:Nat,iv= .int .i64 i/\i<=m/\Below w.heap.size w wr/\∀j k,j<i->k<(rnAt rs j).ns.length->¬((rnAt rs j).at_ k).works tok) (fun iv _=>m - (intOf iv).toNat)
 case atStart=>exact⟨0,rfl,by omega,HB.out,by omega⟩
 case round =>
  obtain⟨i,rfl,hi,hbl,hno⟩:=hrel
  have HNO:=Hid.mk hno
  have HBL:=Hid.mk hbl
  clear hno hbl
  by_cases h1:i<m
  ·have hK:=H.out.below HBL.out
   obtain⟨g,rfl,h2,h3,_,h5,h6⟩:=hK.ptr (by have:=HM.out;omega)
   have p0:=h6 i (by have:=HM.out;omega)
   have hR:=hK.runs i (by have:=HM.out;omega)
   obtain⟨⟨t0,_,t2⟩,_⟩:=hR.topC
   obtain⟨_,_,hnc,_,_,_⟩:=hR.rowBlk
   have h12:=hR.few
   rw [<-HM.out] at h2
   obtain⟨r,hr⟩:∃r,r=rnAt rs i:=⟨_,rfl⟩
   rw [<-hr] at p0 t0 t2 hR hnc h12
   have HR:=Hid.mk (And.intro hr hR)
   obtain⟨n,hn⟩:∃n,n=r.ns.length:=⟨_,rfl⟩
   rw [<-hn] at t2 hnc h12
   have HN:=Hid.mk hn
   have i1:(i:Int)<(m:Int):=by omega
   clear h3 h5 h6 hR hr hK hn t0
   go_wp2_with fail
   clear p0 t2
   go_loopw [25] (fun kv wx=>∃k:Nat,kv= .int .i64 k/\k<=n/\Below wr.heap.size wr wx/\∀j,j<k->¬(r.at_ j).works tok) (fun kv _=>n - (intOf kv).toNat)
   case atStart=>exact⟨0,rfl,by omega,Below.refl _ _,by omega⟩
   case round =>
    obtain⟨k,rfl,hk,hbx,hnk⟩:=hrel
    rename World=>wx
    have HBX:=Hid.mk hbx
    have HNK:=Hid.mk hnk
    clear hnk hbx
    by_cases h6:k<n
    ·have hnd:=(HR.out.2.below HBX.out).nd (k:=k) (by have:=HN.out;omega)
     obtain⟨y0,y1,y2,y3,y4,y5,y6,y7,y8,y9⟩:=hnd
     obtain⟨s,hs⟩:∃s,s=r.at_ k:=⟨_,rfl⟩
     rw [<-hs] at y0 y1 y2 y3 y4 y5 y6 y7 y8 y9
     have HS:=Hid.mk hs
     have k1:(k:Int)<(n:Int):=by omega
     have hal:=((Below.refl wx.heap.size wx).alloc (Nat.le_refl _) (.cells #[.int .i64 s.bu, .int .i64 s.cl, .int .i64 s.be, .int .i64 s.ba, .int .i64 s.ca, .int .i64 s.ji, .slice s.aa s.af.length s.ac, .int .i64 s.st, .int .i64 s.tries, .int .u64 s.tok] 189))
     have HAL:=Hid.mk hal
     clear hal hs
     by_cases q1:s.st=3
     ·have hal3:=HAL.out
      rw [q1] at hal3
      have HAL3:=Hid.mk hal3
      have HQ1:=Hid.mk q1
      rw [q1] at y7
      clear q1 hal3
      by_cases q2:s.tok=tok
      ·have g2:(s.tok == tok)=true:=by simpa using q2
       have g2':decide (s.tok=tok)=true:=by simpa using q2
       have HQ2:=Hid.mk q2
       clear q2
       go_wp2_with fail
       (try simp only [Exit.inBlock,Exit.then])
       refine bodyPost_ret (results_tmp3 rfl _ _ _) rfl ?_
       refine⟨some (i,k),?_, .at_ i k (by have:=HM.out;omega) (by rw [<-HR.out.1];have:=HN.out;omega) (by rw [<-HR.out.1,<-HS.out];exact⟨HQ1.out,HQ2.out⟩) (fun j hj=>by rw [<-HR.out.1];exact HNK.out j hj) (fun j t hj ht=>HNO.out j t hj ht),?_⟩
       ·show _=Ending.returned (.tuple #[.pointer (some ⟨(rnAt rs i).b,0,none⟩), .int .i64 k, .bool true])
        rw [<-HR.out.1]
        rfl
       ·first | exact (HBL.out.trans' HBX.out).trans' HAL3.out | exact (HBL.out.trans' HBX.out).trans' HAL.out
      ·have g2:(s.tok == tok)=false:=by simpa using q2
       have g2':decide (s.tok=tok)=false:=by simpa using q2
       have HQ2:=Hid.mk q2
       clear q2
       go_wp2_with fail
       go_roundw
       case rel=>exact⟨k+1,by go_num,by omega,by first | exact HBX.out.trans' HAL3.out | exact HBX.out.trans' HAL.out,fun j hj=>by
        by_cases e:j=k
        ·subst e;rw [<-HS.out];exact fun hh=>HQ2.out hh.2
        ·exact HNK.out j (by omega)⟩
       case measure=>simp [intOf];omega
     ·have g1:(s.st == 3)=false:=by simpa using q1
      have g1':decide (s.st=3)=false:=by simpa using q1
      have HQ:=Hid.mk q1
      clear q1
      go_wp2_with fail
      go_roundw
      case rel=>exact⟨k+1,by go_num,by omega,HBX.out.trans' HAL.out,fun j hj=>by
       by_cases e:j=k
       ·subst e;rw [<-HS.out];exact fun hh=>HQ.out hh.1
       ·exact HNK.out j (by omega)⟩
      case measure=>simp [intOf];omega
    ·have k1:¬(k:Int)<(n:Int):=by omega
     have HK:=Hid.mk h6
     clear h6
     go_wp2_with fail
     go_roundw
     case rel=>exact⟨i+1,by go_num,by omega,HBL.out.trans' HBX.out,fun j t hj ht=>by
      by_cases e:j=i
      ·subst e;rw [<-HR.out.1] at ht ⊢;exact HNK.out t (by have:=HK.out;have:=HN.out;omega)
      ·exact HNO.out j t (by omega) ht⟩
     case measure=>simp [intOf];omega
  ·have i1:¬(i:Int)<(m:Int):=by omega
   have HJ:=Hid.mk h1
   clear h1
   go_wp2_with fail
   (try simp only [Exit.inBlock,Exit.then])
   refine bodyPost_ret (results_tmp3 rfl _ _ _) rfl ?_
   exact⟨none,rfl, .no (fun j k hj hk=>HNO.out j k (by have:=HJ.out;have:=HM.out;omega) hk),HBL.out⟩
def RnM.free (r:RnM)(k:Nat):Bool:=(r.at_ k).st == 1&&(r.at_ k).af.all (fun a=>(r.at_ a.toNat).st == 5)
def RnM.freeL (r:RnM)(i:Nat):List Nat:=(List.range i).filter r.free
def RnM.awake (r:RnM):List Nat:=r.freeL r.ns.length
theorem RnM.freeL_succ (r:RnM)(i:Nat):r.freeL (i+1)=r.freeL i++(if r.free i then [i] else []):=by
 unfold RnM.freeL
 rw [List.range_succ,List.filter_append]
 congr 1
 cases h:r.free i<;>simp [h]
theorem RnM.freeL_len (r:RnM)(i:Nat):(r.freeL i).length<=i:=Nat.le_trans (List.length_filter_le _ _) (by simp)
def natV (l:List Nat):List Value:=l.map (fun (k:Nat)=> .int .i64 (k:Int))
def RnM.within (r:RnM):Prop:=∀k,k<r.ns.length->(r.at_ k).af.length<=1000/\∀a∈(r.at_ k).af,0<=a/\a<r.ns.length
theorem infoKI:(Tryz.prog.info? 3).map (fun i=>(i.zero,i.size,i.bytes))=some (some (.int .i64 0),1,8):=by kernel_rfl
theorem AfAt.cell {w:World}{B:Nat}{n:NdM}(h:AfAt w B n){j:Nat}(hj:j<n.af.length):∃g,n.aa=some ⟨g,0,none⟩/\w.cell? ⟨g,j,none⟩=some (.int .i64 (n.af.getD j 0))/\n.af.length<=n.ac/\g<w.heap.size:=by
 have h':w.ownsRow B 3 1 (.slice n.aa n.af.length n.ac) n.af.length (afV n.af):=h
 rcases h'.2 with⟨_,h2⟩ | ⟨g,cap,cur,h2,hg,hh,h3,h4,h5,h6⟩
 ·omega
 ·obtain⟨h7,_,h8⟩:n.aa=some ⟨g,0,none⟩/\n.af.length=n.af.length/\n.ac=cap:=by simpa using h2
  rw [h7] at h'
  refine⟨g,h7,?_,by omega,(Array.getElem?_eq_some_iff.1 hh).1⟩
  rw [h'.cellAt j (by omega)]
  unfold afV
  rw [List.getElem?_map,List.getElem?_eq_getElem hj,List.getD_eq_getElem?_getD,List.getElem?_eq_getElem hj];rfl
theorem getD_in {l:List Int}{j:Nat}(hj:j<l.length):l.getD j 0∈l:=by
 rw [List.getD_eq_getElem?_getD,List.getElem?_eq_getElem hj];exact List.getElem_mem hj
theorem free_true {r:RnM}{k:Nat}(h1:(r.at_ k).st=1)(h:∀j,j<(r.at_ k).af.length->(r.at_ ((r.at_ k).af.getD j 0).toNat).st=5):r.free k=true:=by
 unfold RnM.free
 rw [Bool.and_eq_true,List.all_eq_true]
 refine⟨by simpa using h1,fun a ha=> ?_⟩
 obtain⟨j,hj,rfl⟩:=List.getElem_of_mem ha
 have:=h j hj
 rw [List.getD_eq_getElem?_getD,List.getElem?_eq_getElem hj] at this
 simpa using this
theorem free_false {r:RnM}{k j:Nat}(hj:j<(r.at_ k).af.length)(h:(r.at_ ((r.at_ k).af.getD j 0).toNat).st≠5):r.free k=false:=by
 unfold RnM.free
 have:(r.at_ k).af.all (fun a=>(r.at_ a.toNat).st == 5)=false:=by
  rw [List.all_eq_false]
  exact⟨_,getD_in hj,by simpa using h⟩
 rw [this,Bool.and_false]
theorem free_not1 {r:RnM}{k:Nat}(h:(r.at_ k).st≠1):r.free k=false:=by
 unfold RnM.free
 have:((r.at_ k).st == 1)=false:=by simpa using h
 rw [this,Bool.false_and]
theorem news1K (W:World)(N:Nat)(x:Value)(t:TypeId)(hN:N=W.heap.size)(j:Nat)(u:Value)(h:[x][j]? =some u):(W.alloc (.cells #[x] t)).cell? ((⟨N,0,none⟩:Addr).add j)=some u:=by
 subst hN
 cases j with
 | zero=>simp at h;subst h;simp [Addr.add,World.cell?_alloc_at]
 | succ j=>simp at h
set_option maxHeartbeats 8000000 in
theorem awake_any (w:World)(B:Nat)(r:RnM)(h:RnAt w B r)(hin:r.within) :
  Calls Tryz.prog 89 #[.pointer (some ⟨r.b,0,none⟩)] w fun e w'=>∃a c,e= .returned (.slice a r.awake.length c)/\w'.ownsRow w.heap.size 3 1 (.slice a r.awake.length c) r.awake.length (natV r.awake)/\Below w.heap.size w w':=by
 have H:=Hid.mk h
 have HIN:=Hid.mk hin
 have HB:=Hid.mk (Below.refl w.heap.size w)
 obtain⟨⟨c0,c1,c2⟩,_⟩:=h.topC
 obtain⟨_,_,hnc,hcm,_,_⟩:=h.rowBlk
 have h12:=h.few
 obtain⟨m,hm⟩:∃m,m=r.ns.length:=⟨_,rfl⟩
 rw [<-hm] at c2 hnc h12
 have HM:=Hid.mk hm
 obtain⟨i3,hi3,hz0,hz1,hz2⟩:=info_parts infoKI
 have HI:=Hid.mk (And.intro hi3 (And.intro hz0 (And.intro hz1 hz2)))
 clear h hin hm c0 c1 hcm hi3 hz0 hz1 hz2
 go_enter Tryz.func89,Tryz.ntmps89
 go_wp2_with fail
 go_step3
 go_wp2_with fail
 go_step3
 go_wp2_with fail
 go_loopg [3,13] m (fun gk sv iv wr=>∃(i:Nat) (xa:Option Addr) (xc:Nat),gk=m - i/\iv= .int .i64 i/\sv= .slice xa (r.freeL i).length xc/\i<=m/\wr.ownsRow w.heap.size 3 1 (.slice xa (r.freeL i).length xc) (r.freeL i).length (natV (r.freeL i))/\Below w.heap.size w wr)
 case atStart=>exact⟨0,none,0,rfl,rfl,rfl,by omega,World.ownsRow_nil _ _ _ _,HB.out⟩
 case round =>
  obtain⟨i,xa,xc,rfl,rfl,rfl,hi,hown,hbl⟩:=hrel
  have HOW:=Hid.mk (And.intro hown hbl)
  obtain⟨q,hq⟩:∃q,q=(r.freeL i).length:=⟨_,rfl⟩
  have hqi:q<=i:=by rw [hq];exact r.freeL_len i
  have HQ:=Hid.mk hq
  rw [<-hq]
  clear hown hbl hq
  by_cases h1:i<m
  ·have hil:i<r.ns.length:=by have:=HM.out;omega
   have hR:=H.out.below HOW.out.2
   have hnd:=hR.nd hil
   obtain⟨t0,t1,t2,t3,t4,t5,t6,t7,t8,t9⟩:=hnd
   have HAF:=Hid.mk (H.out.aft i hil)
   have HWI:=Hid.mk (HIN.out i hil)
   have hl1:=(HIN.out i hil).1
   obtain⟨n,hn⟩:∃n,n=r.at_ i:=⟨_,rfl⟩
   have HN:=Hid.mk hn
   rw [<-hn] at t0 t1 t2 t3 t4 t5 t6 t7 t8 t9 HAF HWI hl1
   obtain⟨z,hz⟩:∃z,z=n.af.length:=⟨_,rfl⟩
   have HZ:=Hid.mk hz
   rw [<-hz] at t6 hl1
   have i1:(i:Int)<(m:Int):=by omega
   clear hn hz hR hil
   by_cases q1:n.st=1
   ·have HQ1:=Hid.mk q1
    rw [q1] at t7
    obtain⟨A,hA⟩:∃A,A=n.aa:=⟨_,rfl⟩
    rw [<-hA] at t6
    have HAA:=Hid.mk hA
    have hA2:A=none\/∃g,A=some ⟨g,0,none⟩:=by
     have h':w.ownsRow B 3 1 (.slice n.aa n.af.length n.ac) n.af.length (afV n.af):=HAF.out
     rcases h'.2 with⟨h2,_⟩ | ⟨g,cap,cur,h2,_⟩
     ·exact Or.inl (by rw [hA];simpa using congrArg (fun v=>match v with | Value.slice x _ _=>x | _=>none) h2)
     ·exact Or.inr ⟨g,by rw [hA];simpa using congrArg (fun v=>match v with | Value.slice x _ _=>x | _=>none) h2⟩
    clear q1 hA
    rcases hA2 with rfl | ⟨g,rfl⟩
    all_goals
     go_wp2_with fail
     go_loopg [25] z (fun gj jv wy=>∃j:Nat,gj=z - j/\jv= .int .i64 j/\j<=z/\Below wr.heap.size wr wy/\∀t,t<j->(r.at_ (n.af.getD t 0).toNat).st=5)
     case atStart=>exact⟨0,rfl,rfl,by omega,(Below.refl _ _).alloc (Nat.le_refl _) _,fun t ht=>by omega⟩
     case round =>
      obtain⟨j,rfl,rfl,hj,hby,hdone⟩:=hrel
      rename World=>wy
      have HBY:=Hid.mk hby
      have HD:=Hid.mk hdone
      clear hdone hby
      by_cases h2:j<z
      ·obtain⟨g2,haa,hcell,hac,hgl⟩:=HAF.out.cell (j:=j) (by have:=HZ.out;omega)
       rw [<-HAA.out] at haa
       cases haa
       all_goals
        obtain⟨ha0,ha1⟩:=HWI.out.2 _ (getD_in (j:=j) (by have:=HZ.out;omega))
        obtain⟨an,han⟩:∃an:Nat,n.af.getD j 0=(an:Int):=⟨(n.af.getD j 0).toNat,by omega⟩
        rw [han] at hcell ha1
        have hbw:Below w.heap.size w wy:=HOW.out.2.trans' HBY.out
        have y0:=(World.cell?_of_block (a:=⟨g,j,none⟩) (hbw.block g hgl)).trans hcell
        have hRy:=H.out.below hbw
        obtain⟨⟨d0,d1,d2⟩,_⟩:=hRy.topC
        rw [<-HM.out] at d2
        have hal:an<r.ns.length:=by omega
        have s7:=(hRy.nd hal).c7
        have HY:=Hid.mk (And.intro hbw han)
        obtain⟨sv,hsv⟩:∃sv,sv=(r.at_ an).st:=⟨_,rfl⟩
        rw [<-hsv] at s7
        have HSV:=Hid.mk hsv
        have j1:(j:Int)<(z:Int):=by omega
        have a1:(an:Int)<(m:Int):=by have:=HM.out;omega
        have hac':z<=n.ac:=by have:=HZ.out;omega
        clear hcell hgl ha0 ha1 hRy hal hbw han hsv hac d0 d1
        by_cases q5:sv=5
        ·subst q5
         go_wp2_with fail
         go_roundg (z - (j+1))
         case rel=>exact⟨j+1,rfl,by go_num,by omega,HBY.out,fun t ht=>by
          by_cases e:t=j
          ·subst e;rw [HY.out.2,Int.toNat_natCast];exact HSV.out.symm
          ·exact HD.out t (by omega)⟩
         case measure=>omega
        ·have g5:(sv != 5)=true:=by simpa using q5
         have HQ5:=Hid.mk q5
         go_wp2_with fail
         go_roundg (m - (i+1))
         case rel =>
          have hf:r.free i=false:=free_false (j:=j) (by rw [<-HN.out,<-HZ.out];exact h2) (by rw [<-HN.out,HY.out.2,Int.toNat_natCast,<-HSV.out];exact HQ5.out)
          have hs:=r.freeL_succ i
          rw [hf] at hs
          simp only [Bool.false_eq_true,if_false,List.append_nil] at hs
          refine⟨i+1,xa,xc,rfl,by go_num,by rw [hs,<-HQ.out],by omega,by rw [hs];exact Zah HOW.out.1 HBY.out,HY.out.1⟩
         case measure=>omega
      ·have e:j=z:=by omega
       have HE:=Hid.mk e
       have j1:¬(j:Int)<(z:Int):=by omega
       have hfr:r.free i=true:=free_true (by rw [<-HN.out];exact HQ1.out) (fun t ht=>by rw [<-HN.out] at ht ⊢;exact HD.out t (by have:=HE.out;have:=HZ.out;omega))
       have hs:=r.freeL_succ i
       rw [hfr] at hs
       simp only [if_true] at hs
       have HS:=Hid.mk hs
       have HO2:=Hid.mk (Zah HOW.out.1 HBY.out)
       rw [<-HQ.out] at HO2
       have hws:w.heap.size<=wy.heap.size:=(HOW.out.2.trans' HBY.out).size
       clear e h2 hs hfr
       go_wp2_with (at_builtin;refine wpList_append_own _ rfl (.tmp 39) (.tmp 41) 22 rfl w.heap.size 3 i3 (.int .i64 0) 1 8 Tryz.underlying22 HI.out.1 HI.out.2.1 HI.out.2.2.1 HI.out.2.2.2 rfl (by decide) (.slice xa q xc) q (natV (r.freeL i)) rfl (HO2.out.alloc _) ⟨wy.heap.size,0,none⟩ 1 1 [.int .i64 i] rfl rfl (news1K _ _ _ _ rfl) (by intro u hu;simp only [List.mem_singleton] at hu;subst hu;rfl) (by unfold maxLen;omega) (by omega) (by simp;omega) ?_;intro v5' w4 hown4 hgrow4 hiff;clear hiff;obtain⟨xb,xd,rfl⟩:=Za3 hown4;have HO4:=Hid.mk (And.intro hown4 hgrow4);clear hown4 hgrow4)
       go_roundg (m - (i+1))
       case rel =>
        have h4:=HO4.out.1
        have hsz:wy.heap.size+1=(wy.alloc (.cells #[.int .i64 i] 3)).heap.size:=by simp
        have hb4:Below w.heap.size w w4:=by
         refine (((HOW.out.2.trans' HBY.out).alloc hws _).grown HO4.out.2 (by rw [<-hsz];omega) (fun k hk=> ?_))
         exact (HO2.out.lt k hk).1
        refine⟨i+1,xb,xd,rfl,by go_num,by rw [HS.out,List.length_append,<-HQ.out];rfl,by omega,?_,hb4⟩
        rw [HS.out,List.length_append,<-HQ.out]
        unfold natV
        rw [List.map_append]
        exact h4
       case measure=>omega
   ·have g1:(n.st != 1)=true:=by simpa using q1
    have g1':(n.st == 1)=false:=by simpa using q1
    have HQ1:=Hid.mk q1
    go_wp2_with fail
    go_roundg (m - (i+1))
    case rel =>
     have hf:r.free i=false:=free_not1 (by rw [<-HN.out];exact HQ1.out)
     have hs:=r.freeL_succ i
     rw [hf] at hs
     simp only [Bool.false_eq_true,if_false,List.append_nil] at hs
     have hba:Below wr.heap.size wr (wr.alloc (.cells #[.int .i64 n.bu, .int .i64 n.cl, .int .i64 n.be, .int .i64 n.ba, .int .i64 n.ca, .int .i64 n.ji, .slice n.aa z n.ac, .int .i64 n.st, .int .i64 n.tries, .int .u64 n.tok] 189)):=(Below.refl _ _).alloc (Nat.le_refl _) _
     refine⟨i+1,xa,xc,rfl,by go_num,by rw [hs,<-HQ.out],by omega,by rw [hs];exact Zah HOW.out.1 hba,HOW.out.2.trans' hba⟩
    case measure=>omega
  ·have e:i=m:=by omega
   have HE:=Hid.mk e
   have i1:¬(i:Int)<(m:Int):=by omega
   clear e h1
   go_wp2_with fail
   try rw [Exit.noGoto_ret]
   go_ret
   have ha:r.awake=r.freeL i:=by unfold RnM.awake;rw [<-HM.out,HE.out]
   rw [ha]
   exact⟨xa,xc,by rw [<-HQ.out];rfl,HOW.out.1,HOW.out.2⟩
end Go.Proofs.YtgdcjccbdmcebabGreatDoor
