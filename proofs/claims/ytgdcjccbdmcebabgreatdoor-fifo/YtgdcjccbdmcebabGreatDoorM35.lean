import Derived.Test.YtgdcjccbdmcebabGreatDoorM34
set_option linter.unusedSimpArgs false
set_option linter.unusedVariables false
namespace Go.Proofs.YtgdcjccbdmcebabGreatDoor
open Go.RowKit
set_option maxRecDepth 100000
attribute [local go_sem ↓] Go.wp_at_zero Go.wp_at_succ
def TimN (e:EngD)(i k:Nat)(l:List Tm):Prop:=Rising l/\(∀t,t∈l->EngT e t)/\∀t,EngT e t->¬OwnT (e.at_ i).id k t->t∈l
theorem TimR.toN {e:EngD}{l:List Tm}(h:TimR e l)(i k:Nat):TimN e i k l:=by
 rw [Zbe] at h
 exact⟨h.1,fun t ht=>(h.2 t).1 ht,fun t ht _=>(h.2 t).2 ht⟩
theorem TimN.stopped {e:EngD}(wk:EngWk e){i k:Nat}(hi:i<e.runs.length)(hk:k<(e.at_ i).steps.length)(h3:((e.at_ i).at_ k).st=3){l l1:List Tm}(ha:Apart l)(h:TimN e i k l)(hs:StopR l (keyQ (e.at_ i).id k [1,2]) l1):Rising l1/\Apart l1/\l1.length<=l.length/\∀t,t∈l1↔EngT e t/\¬OwnT (e.at_ i).id k t:=by
 obtain⟨s1,s2,s3,s4⟩:=hs.all ha
 refine⟨s3 h.1,s1,s2,fun t=> ?_⟩
 rw [s4]
 simp only [keyQ,List.map_cons,List.map_nil,List.mem_cons,List.not_mem_nil,or_false,not_or]
 constructor
 ·rintro⟨a,b,c⟩
  refine⟨h.2.1 t a,fun ho=> ?_⟩
  rcases ((h.2.1 t a).node wk hi hk ho).2 with⟨_,g⟩ | ⟨g,_⟩ | ⟨_,_,g⟩
  ·exact b (by rw [g])
  ·rw [h3] at g;cases g
  ·exact c (by rw [g])
 ·rintro⟨a,b⟩
  exact⟨h.2.2 t a b,fun x=>b ⟨1,by decide,by decide,x⟩,fun x=>b ⟨2,by decide,by decide,x⟩⟩
theorem SkR.runT {a b:RunD}(h:SkR a b)(t:Tm):RunT b t↔RunT a t:=by
 induction h with
 | refl=>exact Iff.rfl
 | step r r2 k hk hl _ ih =>
  rw [ih]
  have hw:=lost_one hl
  unfold RunT
  have e1:(r.onStep k skp).st=r.st/\(r.onStep k skp).id=r.id/\(r.onStep k skp).till=r.till/\(r.onStep k skp).tillAt=r.tillAt:=⟨rfl,rfl,rfl,rfl⟩
  rw [e1.1,e1.2.1,e1.2.2.1,e1.2.2.2,Zal]
  have e2:∀m,m<r.steps.length->(NodeT r.id m ((r.onStep k skp).at_ m) t↔NodeT r.id m (r.at_ m) t):=by
   intro m hm
   rw [Zdu _ _ _ _ hm]
   by_cases c:k=m
   ·subst c
    rw [if_pos rfl]
    constructor
    ·rintro (⟨g,_⟩ | ⟨g,_⟩ | ⟨g,_⟩)<;>cases g
    ·rintro (⟨g,_⟩ | ⟨g,_⟩ | ⟨g,_⟩)<;>(rw [hw] at g;cases g)
   ·rw [if_neg c]
  constructor
  ·rintro⟨a,b | ⟨m,hm,c⟩⟩
   ·exact⟨a,Or.inl b⟩
   ·exact⟨a,Or.inr ⟨m,hm,(e2 m hm).1 c⟩⟩
  ·rintro⟨a,b | ⟨m,hm,c⟩⟩
   ·exact⟨a,Or.inl b⟩
   ·exact⟨a,Or.inr ⟨m,hm,(e2 m hm).2 c⟩⟩
theorem engT_onRun {e:EngD}{i:Nat}{d2:RunD}(hi:i<e.runs.length)(h:SkR (e.at_ i) d2)(t:Tm):EngT (e.onRun i (fun _=>d2)) t↔EngT e t:=by
 constructor
 ·rintro⟨j,hj,g⟩
  rw [Zbh] at hj
  rw [Zb1 e i j _ hj] at g
  by_cases c:i=j
  ·subst c;rw [if_pos rfl] at g;exact⟨i,hj,(h.runT t).1 g⟩
  ·rw [if_neg c] at g;exact⟨j,hj,g⟩
 ·rintro⟨j,hj,g⟩
  refine⟨j,by rw [Zbh];exact hj,?_⟩
  rw [Zb1 e i j _ hj]
  by_cases c:i=j
  ·subst c;rw [if_pos rfl];exact (h.runT t).2 g
  ·rw [if_neg c];exact g
set_option maxHeartbeats 8000000 in
theorem kfail_any (w:World)(P B:Nat)(ob:Option Nat)(e:EngD)(rs:List RnM)(l:List Tm)(i k:Nat)(h:KpX w P B ob e rs l)(wk:EngWk e)(hi:i<e.runs.length)(hk:k<(e.at_ i).steps.length)(h3:((e.at_ i).at_ k).st=3)(hT:TimN e i k l)(hlr:e.lastRun<18446744073709551616)(hsd:0<=e.seed/\e.seed<18446744073709551616) :
  Calls Tryz.prog 101 #[.pointer (some ⟨P,4,none⟩), .pointer (some ⟨(rnAt rs i).b,0,none⟩), .int .i64 k] w fun x w'=>x= .returned (.tuple #[])/\∃rs' l' ob',KpX w' P B ob' (e.fails i k) rs' l'/\SameB rs rs'/\TimR (e.fails i k) l'/\KF w w' P B ob/\ObTo w ob ob':=by
 obtain⟨el,now,hM,htm,hel⟩:=h.ex
 obtain⟨ka,kc,hkn⟩:=hM.kn
 have hil:i<rs.length:=by rw [h.len];exact hi
 have hRn:=hkn.runs i hil
 have hRI:=h.runs i hi
 have h1:=wk.runs_of hi hk (by omega)
 have hrun:=wk.runs i hi
 obtain⟨r,hr⟩:∃r,r=rnAt rs i:=⟨_,rfl⟩
 rw [<-hr] at hRn hRI ⊢
 have hpb:=hM.pb
 have hkr:k<r.ns.length:=by rw [hRI.len];exact hk
 obtain⟨nd,hnd⟩:∃nd,nd=r.at_ k:=⟨_,rfl⟩
 obtain⟨⟨t0,_,t2⟩,_⟩:=hRn.topC
 obtain⟨_,_,hnc,_,hgB,_⟩:=hRn.rowBlk
 have h12:=hRn.few
 obtain⟨n,hn⟩:∃n,n=r.ns.length:=⟨_,rfl⟩
 rw [<-hn] at t2 hnc h12 hkr
 have hid:r.id=(e.at_ i).id:=hRI.id
 rw [hid] at t0
 obtain⟨id,hidd⟩:∃id,id=(e.at_ i).id:=⟨_,rfl⟩
 rw [<-hidd] at t0
 have k1:(k:Int)<(n:Int):=by omega
 have HH:=Hid.mk (And.intro h (And.intro wk (And.intro hi (And.intro hk (And.intro h3 (And.intro hT (And.intro hsd (And.intro hlr (And.intro hM (And.intro htm (And.intro hel (And.intro hil (And.intro hRn (And.intro hRI (And.intro h1 (And.intro hr (And.intro hnd (And.intro hn (And.intro hidd (And.intro hrun (And.intro hpb hgB)))))))))))))))))))))
 obtain⟨b,hb⟩:∃b,b=r.b:=⟨_,rfl⟩
 obtain⟨ng,hng⟩:∃ng,ng=r.ng:=⟨_,rfl⟩
 rw [<-hb] at t0 t2 ⊢
 rw [<-hng] at t2
 have HBN:=Hid.mk (And.intro hb hng)
 generalize r.nc=nc at *
 clear h wk hi hk h3 hT hsd hlr hM htm hel hil hRn hRI h1 hr hnd hn hid hidd hrun hpb hgB hkn hb hng
 go_enter Tryz.func101,Tryz.ntmps101
 go_upto_region 0 with fail
 have t0a:=cell_later ((Below.refl w.heap.size w).alloc (Nat.le_refl _) (.cells #[.int .u64 0, .int .i64 0] 180)) t0
 have t2a:=cell_later ((Below.refl w.heap.size w).alloc (Nat.le_refl _) (.cells #[.int .u64 0, .int .i64 0] 180)) t2
 have t0b:=cell_later ((Below.refl w.heap.size w).alloc (Nat.le_refl _) (.cells #[.int .u64 id, .int .i64 k] 180)) t0
 have t2b:=cell_later ((Below.refl w.heap.size w).alloc (Nat.le_refl _) (.cells #[.int .u64 id, .int .i64 k] 180)) t2
 go_region
 all_goals
  go_upto_region 1 with fail
  clear t0 t2 t0a t0b t2a t2b
  obtain⟨w1,hw1⟩:∃w1,w1=(w.alloc (.cells #[.int .u64 id, .int .i64 k] 180)).drew:=⟨_,rfl⟩
  obtain⟨sb,hsb⟩:∃sb,sb=w.heap.size:=⟨_,rfl⟩
  rw [<-hw1,<-hsb]
  have hb1:Below w.heap.size w w1:=by rw [hw1];exact ((Below.refl _ _).alloc (Nat.le_refl _) _).drew
  have hs1:SpotAt w1 sb id k:=by rw [hw1,hsb];exact heap_alloc_new w _
  obtain⟨z0,z1⟩:=hs1.cells
  have HW1:=Hid.mk (And.intro hb1 (And.intro hs1 hsb))
  have HST:=Hid.mk (by
   obtain⟨h,wk,hi,hk,h3,hT,hsd,hlr,hM,htm,hel,hil,hRn,hRI,h1,hr,hnd,hn,hid,hrun,hpb,hgB⟩:=HH.out
   exact stop_any (w1.alloc (.cells #[.int .i64 1, .int .i64 2] 181)) P B now w1.heap.size l id k [1,2] ((hM.wh.keep hb1).keep ((Below.refl _ _).alloc (Nat.le_refl _) _)) (fun q hq=>by
    have hq2:0<=q/\q<4:=by simp only [List.mem_cons,List.not_mem_nil,or_false] at hq;rcases hq with rfl | rfl<;>decide
    have:=wk.id1 i hi
    have:=wk.idB i hi
    exact keyOk (by omega) (by omega) (by omega) (by omega) hq2.1 hq2.2) (kinds_new w1 [1,2]) (by have:=hb1.size;omega) (by decide))
  clear hb1 hs1 hw1 hsb
  go_wp2_with (go_at_call 99;refine HST.out.mono ?_;rintro _ w2 ⟨rfl,l1,hs2,hw2,hf2⟩;have HS2:=Hid.mk (And.intro hs2 (And.intro hw2 hf2));clear hs2 hw2 hf2)
  have HMID:=Hid.mk (show KpM w2 P B ob rs el e.queue now l1 e.lastRun e.lastTok e.seed/\RnAt w2 B r/\SpotAt w2 sb id k/\KF w w2 P B ob/\(Rising l1/\Apart l1/\l1.length<=l.length/\∀t,t∈l1↔EngT e t/\¬OwnT (e.at_ i).id k t) by
   obtain⟨h,wk,hi,hk,h3,hT,hsd,hlr,hM,htm,hel,hil,hRn,hRI,h1,hr,hnd,hn,hid,hrun,hpb,hgB⟩:=HH.out
   obtain⟨q1,q2,q3⟩:=HS2.out
   have hba:Below w1.heap.size w1 (w1.alloc (.cells #[.int .i64 1, .int .i64 2] 181)):=(Below.refl _ _).alloc (Nat.le_refl _) _
   have hb:=HW1.out.1.trans' hba
   have hR2:RnAt w2 B r:=(hRn.below hb).keepT (fun k cs t fr hk e ht=>q3.other e (by rcases ht with rfl | rfl | rfl<;>decide) (by omega))
   refine⟨(hM.below hb).wheel q3 q2,hR2,?_,(KF.of_below P B ob hb).trans (KF.of_pf q3 ob) (ObTo.refl _ _),?_⟩
   ·have hs:=HW1.out.2.1
    have hs':SpotAt (w1.alloc (.cells #[.int .i64 1, .int .i64 2] 181)) sb id k:=(hba.block sb (Zaa hs)).trans hs
    exact (q3.other hs' (by decide) (by have:=HW1.out.2.2;omega)).trans hs'
   ·rw [hid] at q1
    exact hT.stopped wk hi hk h3 hM.wh.apart q1)
  obtain⟨y0,y1,y2,y3,y4,y5,y6,y7,y8,y9⟩:=(show NdC w2 ng (k * 10) nd by
   obtain⟨h,wk,hi,hk,h3,hT,hsd,hlr,hM,htm,hel,hil,hRn,hRI,h1,hr,hnd,hn,hid,hrun,hpb,hgB⟩:=HH.out
   have:=HMID.out.2.1.nd (k:=k) (by omega)
   rw [<-hnd,<-HBN.out.2] at this
   exact this)
  have hfz:∀j,w2.frozen? ⟨ng,j,none⟩=false:=fun j=>by rw [HBN.out.2];exact HMID.out.2.1.froz j
  have f7:=hfz (k * 10+7)
  have hND:NdIs (e.at_ i).fl k ((e.at_ i).at_ k) nd/\nd.st=3/\nd.tries=((e.at_ i).at_ k).tries:=by
   obtain⟨h,wk,hi,hk,h3,hT,hsd,hlr,hM,htm,hel,hil,hRn,hRI,h1,hr,hnd,hn,hid,hrun,hpb,hgB⟩:=HH.out
   have q1:=hRI.live h1 k hk
   have q2:=hRI.nd k hk
   rw [<-hnd] at q1 q2
   exact⟨q1,q2.1.trans h3,q2.2⟩
  have HND:=Hid.mk hND
  clear z0 z1 hfz hND
  by_cases htr:nd.tries<nd.bu
  ·have HTR:=Hid.mk htr
   go_region
   go_upto_region 4 with fail
   obtain⟨w3,hw3⟩:∃w3,w3=(w2.setCell ⟨ng,k * 10+7,none⟩ (.int .i64 4)).drew:=⟨_,rfl⟩
   rw [<-hw3]
   have h3:RnAt w3 B (r.onNd k (fun n=>{ n with st:=4 }))/\KpM w3 P B ob (rs.set i (r.onNd k (fun n=>{ n with st:=4 }))) el e.queue now l1 e.lastRun e.lastTok e.seed/\KF w w3 P B ob/\SpotAt w3 sb id k:=by
    obtain⟨h,wk,hi,hk,h3,hT,hsd,hlr,hM,htm,hel,hil,hRn,hRI,h1,hr,hnd,hn,hid,hrun,hpb,hgB⟩:=HH.out
    obtain⟨m1,m2,m3,m4,m5⟩:=HMID.out
    have hset:=m2.setNd (k:=k) (j:=7) (f:=fun n=>{ n with st:=4 }) (v:= .int .i64 4) (by omega) (by omega) rfl ⟨rfl,rfl,rfl⟩
    have hf:=RnF.setG w2 r.b r.ng (k * 10+7) (.int .i64 4)
    rw [<-HBN.out.2] at hset hf
    have hset:=hset.drew
    have hfr:=hf.drew
    rw [<-hw3] at hset hfr
    refine⟨hset,m1.run hil hset (by rw [<-hr];rfl) (by rw [<-hr];rfl) (by rw [<-hr,<-HBN.out.2];exact hfr),(m4.trans (KF.of_rn m2 (by rw [<-HBN.out.2];exact hfr) hpb.1) (ObTo.refl _ _)),?_⟩
    obtain⟨cg,hgh,_⟩:=m2.rowBlk
    exact (hfr.block sb (Zaa m3) (Zak m3 m2.top (by decide)) (by rw [HBN.out.2];exact Zak m3 hgh (by decide))).trans m3
   have H3:=Hid.mk h3
   obtain⟨x0,x1,x2,x3,x4,x5,x6,x7,x8,x9⟩:=(show NdC w3 ng (k * 10) { nd with st:=4 } by
    obtain⟨h,wk,hi,hk,h3,hT,hsd,hlr,hM,htm,hel,hil,hRn,hRI,h1,hr,hnd,hn,hid,hrun,hpb,hgB⟩:=HH.out
    have:=H3.out.1.nd (k:=k) (by rw [RnM.onNd_len];omega)
    rw [RnM.onNd_at _ _ _ _ (by omega),if_pos rfl,<-hnd] at this
    have e2:(r.onNd k (fun n=>{ n with st:=4 })).ng=ng:=HBN.out.2.symm
    rw [e2] at this
    exact this)
   obtain⟨v0,v1⟩:=h3.2.2.2.cells
   have sd:=h3.2.1.sd
   have hRest:∀w4,Below w3.heap.size w3 w4->Calls Tryz.prog 106 #[ndV nd.bu nd.cl nd.be nd.ba nd.ca nd.ji (.slice nd.aa nd.af.length nd.ac), .int .i64 nd.tries, .int .u64 e.seed] w4 fun x w'=>x= .returned (.int .i64 (Zdt nd.ba nd.ca nd.ji nd.tries e.seed))/\Below w4.heap.size w4 w':=by
    obtain⟨h,wk,hi,hk,h3,hT,hsd,hlr,hM,htm,hel,hil,hRn,hRI,h1,hr,hnd,hn,hid,hrun,hpb,hgB⟩:=HH.out
    obtain⟨n1,n2,n3⟩:=HND.out
    have hok:=hrun.fl.node k (by rw [<-hrun.len];exact hk)
    have hst:=hrun.steps k hk
    have:=hst.trB
    have:=hst.tr0
    have:=hok.bu2
    intro w4 _
    exact rest_any nd.bu nd.cl nd.be nd.ba nd.ca nd.ji nd.tries e.seed _ w4 (by rw [n1.ba];exact hok.ba1) (by rw [n1.ba];exact hok.ba2) (by rw [n1.ba,n1.ca];exact hok.ca1) (by rw [n1.ca];exact hok.ca2) (by rw [n1.ji];exact hok.ji1) (by rw [n1.ji];exact hok.ji2) (by omega) (by omega) hsd.1 (by omega)
   have HRest:=Hid.mk hRest
   have hSet:∀w4,Below w3.heap.size w3 w4->Calls Tryz.prog 87 #[.pointer (some ⟨P,4,none⟩), .agg #[.int .u64 id, .int .i64 k, .int .i64 3], .int .i64 (Zdt nd.ba nd.ca nd.ji nd.tries e.seed)] w4 fun x w'=>x= .returned (.tuple #[])/\∃y l2,CanIs l1 (keyI id k 3) y l2/\WhAt w' P B noK now (l2++[⟨keyI id k 3,Za0 now (now+Zdt nd.ba nd.ca nd.ji nd.tries e.seed),e.timers+1⟩])/\PF w4 w' P B noK:=by
    obtain⟨h,wk,hi,hk,h3,hT,hsd,hlr,hM,htm,hel,hil,hRn,hRI,h1,hr,hnd,hn,hid,hrun,hpb,hgB⟩:=HH.out
    obtain⟨n1,n2,n3⟩:=HND.out
    have hok:=hrun.fl.node k (by rw [<-hrun.len];exact hk)
    have hbd:=restI_bd hok nd.tries e.seed
    rw [<-n1.ba,<-n1.ca,<-n1.ji] at hbd
    have:=wk.id1 i hi
    have:=wk.idB i hi
    have hfew:=HS2.out.2.1.few
    have hlen:=EngT.few hT.1 hT.2.1 wk
    intro w4 hb4
    exact kset_any w4 P B now l1 (keyI id k 3) id k 3 _ e.timers (H3.out.2.1.wh.keep hb4) (keyOk (by omega) (by omega) (by omega) (by omega) (by decide) (by decide)) (by omega) (by omega) (by have:=HMID.out.2.2.2.2.2.2.1;omega)
   have HSet:=Hid.mk hSet
   have hFar:∀w4 w5,Below w3.heap.size w3 w4->PF w4 w5 P B noK->((((((((((w5.cell? ⟨sb,0,none⟩=some (.int .u64 id)/\w5.cell? ⟨sb,1,none⟩=some (.int .i64 k))/\w5.cell? ⟨ng,k * 10,none⟩=some (.int .i64 nd.bu))/\w5.cell? ⟨ng,k * 10+1,none⟩=some (.int .i64 nd.cl))/\w5.cell? ⟨ng,k * 10+2,none⟩=some (.int .i64 nd.be))/\w5.cell? ⟨ng,k * 10+3,none⟩=some (.int .i64 nd.ba))/\w5.cell? ⟨ng,k * 10+4,none⟩=some (.int .i64 nd.ca))/\w5.cell? ⟨ng,k * 10+5,none⟩=some (.int .i64 nd.ji))/\w5.cell? ⟨ng,k * 10+6,none⟩=some (.slice nd.aa nd.af.length nd.ac))/\w5.cell? ⟨ng,k * 10+8,none⟩=some (.int .i64 nd.tries))/\w5.cell? ⟨P,730,none⟩=some (.int .u64 e.seed)):=by
    obtain⟨h,wk,hi,hk,h3,hT,hsd,hlr,hM,htm,hel,hil,hRn,hRI,h1,hr,hnd,hn,hid,hrun,hpb,hgB⟩:=HH.out
    intro w4 w5 hb4 hf5
    have e1:(r.onNd k (fun n=>{ n with st:=4 })).ng=ng:=HBN.out.2.symm
    have hR5:=(H3.out.1.below hb4).keepT (w':=w5) (fun k cs t fr hk e ht=>hf5.other e (by rcases ht with rfl | rfl | rfl<;>decide) (by omega))
    have hs5:SpotAt w5 sb id k:=by
     have hs4:SpotAt w4 sb id k:=(hb4.block sb (Zaa H3.out.2.2.2)).trans H3.out.2.2.2
     exact (hf5.other hs4 (by decide) (by have:=HW1.out.2.2;omega)).trans hs4
    have hn5:=hR5.nd (k:=k) (by rw [RnM.onNd_len];omega)
    rw [RnM.onNd_at _ _ _ _ (by omega),if_pos rfl,<-hnd,e1] at hn5
    have hP4:P<w4.heap.size:=by have:=hb4.size;have:=H3.out.2.1.pl;omega
    exact⟨⟨⟨⟨⟨⟨⟨⟨⟨⟨hs5.cells.1,hs5.cells.2⟩,hn5.c0⟩,hn5.c1⟩,hn5.c2⟩,hn5.c3⟩,hn5.c4⟩,hn5.c5⟩,hn5.c6⟩,hn5.c8⟩,(hf5.off hP4 730 (Or.inr (by decide))).trans (H3.out.2.1.below hb4).sd⟩
   have HFar:=Hid.mk hFar
   clear h3 hRest hSet hFar y0 y1 y2 y3 y4 y5 y6 y7 y8 y9 f7 hw3
   go_region_held3 (fun w'=>((((((((((w'.cell? ⟨sb,0,none⟩=some (.int .u64 id)/\w'.cell? ⟨sb,1,none⟩=some (.int .i64 k))/\w'.cell? ⟨ng,k * 10,none⟩=some (.int .i64 nd.bu))/\w'.cell? ⟨ng,k * 10+1,none⟩=some (.int .i64 nd.cl))/\w'.cell? ⟨ng,k * 10+2,none⟩=some (.int .i64 nd.be))/\w'.cell? ⟨ng,k * 10+3,none⟩=some (.int .i64 nd.ba))/\w'.cell? ⟨ng,k * 10+4,none⟩=some (.int .i64 nd.ca))/\w'.cell? ⟨ng,k * 10+5,none⟩=some (.int .i64 nd.ji))/\w'.cell? ⟨ng,k * 10+6,none⟩=some (.slice nd.aa nd.af.length nd.ac))/\w'.cell? ⟨ng,k * 10+8,none⟩=some (.int .i64 nd.tries))/\w'.cell? ⟨P,730,none⟩=some (.int .u64 e.seed))) (go_keep) ((first
    | (go_at_call 106;refine (HRest.out _ ((Below.refl _ _).drew)).mono ?_;rintro _ w4 ⟨rfl,hb4⟩;have hb4:Below w3.heap.size w3 w4:=Below.trans' ((Below.refl w3.heap.size w3).drew) hb4;have HB4:=Hid.mk hb4;have v0:=cell_later hb4 v0;have v1:=cell_later hb4 v1;have x0:=cell_later hb4 x0;have x1:=cell_later hb4 x1;have x2:=cell_later hb4 x2;have x3:=cell_later hb4 x3;have x4:=cell_later hb4 x4;have x5:=cell_later hb4 x5;have x6:=cell_later hb4 x6;have x8:=cell_later hb4 x8;have sd:=cell_later hb4 sd;clear hb4)
    | (go_at_call 87;refine (HSet.out _ HB4.out).mono ?_;rintro _ w5 ⟨rfl,hs5⟩;have HS5:=Hid.mk hs5;obtain⟨⟨⟨⟨⟨⟨⟨⟨⟨⟨p0,p1⟩,p2⟩,p3⟩,p4⟩,p5⟩,p6⟩,p7⟩,p8⟩,p9⟩,p10⟩:=HFar.out _ _ HB4.out hs5.choose_spec.choose_spec.2.2;clear hs5)))
   all_goals
    go_wp2_with fail
    (try simp only [Exit.inBlock,Exit.then])
    refine bodyPost_ret (results_none rfl _ _ _) rfl ?_
    obtain⟨h,wk,hi,hk,h3,hT,hsd,hlr,hM,htm,hel,hil,hRn,hRI,h1,hr,hnd,hn,hid,hrun,hpb,hgB⟩:=HH.out
    obtain⟨n1,n2,n3⟩:=HND.out
    obtain⟨y,l2,c1,c2,c3⟩:=HS5.out
    obtain⟨m1,m2,m3,m4,m5⟩:=HMID.out
    obtain⟨g1,g2,g3,g4⟩:=m5
    have htr:((e.at_ i).at_ k).tries<(e.at_ i).fl.bu k:=by have:=HTR.out;rw [n3,n1.bu] at this;exact this
    have hfr:=fails_rest (e:=e) (i:=i) (k:=k) htr
    have hruns:(e.fails i k).runs=(e.onStep i k (fun s=>{ s with st:=4,fin:=Zas e.time (Zdt ((e.at_ i).fl.ba k) ((e.at_ i).fl.ca k) ((e.at_ i).fl.ji k) s.tries e.seed),finAt:=e.timers+1 })).runs:=by rw [hfr];rfl
    have hstep:=hRI.step h1 hk (f:=fun n=>{ n with st:=4 }) (g:=fun s=>{ s with st:=4,fin:=Zas e.time (Zdt ((e.at_ i).fl.ba k) ((e.at_ i).fl.ca k) ((e.at_ i).fl.ji k) s.tries e.seed),finAt:=e.timers+1 }) rfl (hRI.nd k hk).2 (by have:=hRI.live h1 k hk;exact⟨this.tok,this.bu,this.cl,this.be,this.ba,this.ca,this.ji,this.af⟩)
    have hset:=runs_set (e:=e) (e':=e.fails i k) h.len h.runs hi hruns hstep
    have hq:(e.fails i k).queue=e.queue/\(e.fails i k).lastRun=e.lastRun/\(e.fails i k).lastTok=e.lastTok/\(e.fails i k).seed=e.seed/\(e.fails i k).time=e.time:=by rw [hfr];exact⟨rfl,rfl,rfl,rfl,rfl⟩
    refine⟨rfl,rs.set i (r.onNd k (fun n=>{ n with st:=4 })),l2++[⟨keyI id k 3,Za0 now (now+Zdt nd.ba nd.ca nd.ji nd.tries e.seed),e.timers+1⟩],ob,⟨⟨el,now,?_,by rw [hq.2.2.2.2];exact htm,?_⟩,hset.1,hset.2⟩,?_,?_,?_,ObTo.refl _ _⟩
    ·rw [hq.1,hq.2.1,hq.2.2.1,hq.2.2.2.1]
     exact (H3.out.2.1.below HB4.out).wheel c3 c2
    ·exact hel.same (Zbf hruns) (fun j hj=>by have:=Za6 hruns hj;exact⟨this.1,this.2.2.2.2.2⟩)
    ·refine⟨by rw [List.length_set],fun x hx=> ?_⟩
     rw [Zc8 hil hx]
     split
     ·rename_i e2;subst e2;rw [hr];rfl
     ·rfl
    ·rw [Zbe]
     refine⟨rise_snoc (T:=e.timers) (c1.rising g1) (fun t ht=>((g4 t).1 ((c1.gone g2 t).1 ht).1).1.sq wk) (by show e.timers<e.timers+1;omega),fun t=> ?_⟩
     rw [List.mem_append,List.mem_singleton,c1.gone g2,g4,Zdv wk hi hk hruns]
     have hok:=hrun.fl.node k (by rw [<-hrun.len];exact hk)
     have hbd:=restI_bd hok ((e.at_ i).at_ k).tries e.seed
     have hcl:Za0 now (now+Zdt nd.ba nd.ca nd.ji nd.tries e.seed)=Zas e.time (Zdt ((e.at_ i).fl.ba k) ((e.at_ i).fl.ca k) ((e.at_ i).fl.ji k) ((e.at_ i).at_ k).tries e.seed):=by
      rw [n1.ba,n1.ca,n1.ji,n3,htm,Zdg hbd.1]
     rw [hcl,hid]
     constructor
     ·rintro (⟨⟨a,b⟩,c⟩ | rfl)
      ·exact Or.inl ⟨a,b⟩
      ·exact Or.inr ⟨h1,Or.inr (Or.inl ⟨rfl,rfl⟩)⟩
     ·rintro (⟨a,b⟩ | ⟨_,b⟩)
      ·exact Or.inl ⟨⟨a,b⟩,fun x=>b ⟨3,by decide,by decide,x⟩⟩
      ·right
       rcases b with⟨b,_⟩ | ⟨_,b⟩ | ⟨b,_⟩
       ·cases b
       ·exact b
       ·cases b
    ·exact (H3.out.2.2.1.trans (KF.of_below P B ob HB4.out) (ObTo.refl _ _)).trans (KF.of_pf c3 ob) (ObTo.refl _ _)
  ·have HTR:=Hid.mk htr
   go_region
   go_upto_region 6 with fail
   obtain⟨w3,hw3⟩:∃w3,w3=(w2.setCell ⟨ng,k * 10+7,none⟩ (.int .i64 6)).drew:=⟨_,rfl⟩
   rw [<-hw3]
   obtain⟨r3,hr3⟩:∃r3,r3=r.onNd k (fun n=>{ n with st:=6 }):=⟨_,rfl⟩
   obtain⟨e1,he1⟩:∃e1,e1=e.onStep i k (fun s=>{ s with st:=6 }):=⟨_,rfl⟩
   have h3:RnAt w3 B r3/\KpM w3 P B ob (rs.set i r3) el e.queue now l1 e.lastRun e.lastTok e.seed/\KF w w3 P B ob/\RnIs r3 (e1.at_ i)/\EngWk e1/\i<e1.runs.length/\(e1.at_ i).st=1/\r3.within/\r3.b=b:=by
    obtain⟨h,wk,hi,hk,h3,hT,hsd,hlr,hM,htm,hel,hil,hRn,hRI,h1,hr,hnd,hn,hid,hrun,hpb,hgB⟩:=HH.out
    obtain⟨m1,m2,m3,m4,m5⟩:=HMID.out
    obtain⟨n1,n2,n3⟩:=HND.out
    have hset:=m2.setNd (k:=k) (j:=7) (f:=fun n=>{ n with st:=6 }) (v:= .int .i64 6) (by omega) (by omega) rfl ⟨rfl,rfl,rfl⟩
    have hf:=RnF.setG w2 r.b r.ng (k * 10+7) (.int .i64 6)
    rw [<-HBN.out.2] at hset hf
    have hset:=hset.drew
    have hfr:=hf.drew
    rw [<-hw3] at hset hfr
    rw [<-hr3] at hset
    have hRI3:=hRI.setSt h1 hk 6
    have hr0:e1.runs=(e.onStep i k (fun s=>{ s with st:=6 })).runs:=by rw [he1]
    have hat:=Zbr hr0 hi
    rw [if_pos rfl] at hat
    have hsm:=Za6 hr0 hi
    have hwk1:EngWk e1:=by
     rw [he1]
     refine wk.over hi hk 6 (by omega) (by omega) (fun _=> ?_)
     have htr:=HTR.out
     have:=(hrun.steps k hk).trB
     rw [n3,n1.bu] at htr
     omega
    have h11:(e1.at_ i).st=1:=by rw [hsm.2.2.1];exact h1
    have hi1:i<e1.runs.length:=by rw [Zbf hr0];exact hi
    have hRI4:RnIs r3 (e1.at_ i):=by rw [hat,hr3];exact hRI3
    have hrun1:=hwk1.runs i hi1
    refine⟨hset,m1.run hil hset (by rw [hr3,<-hr];rfl) (by rw [hr3,<-hr];rfl) (by rw [<-hr,<-HBN.out.2];exact hfr),(m4.trans (KF.of_rn m2 (by rw [<-HBN.out.2];exact hfr) hpb.1) (ObTo.refl _ _)),hRI4,hwk1,hi1,h11,hRI4.within h11 hrun1.fl hrun1.len,by rw [hr3];exact HBN.out.1.symm⟩
   have H3:=Hid.mk h3
   have hSkip:=skip_any w3 B r3 h3.1 h3.2.2.2.2.2.2.2.1
   rw [h3.2.2.2.2.2.2.2.2] at hSkip
   have HSkip:=Hid.mk hSkip
   have hSet:∀w4 r4,SkM r3 r4->r4.shut->RnAt w4 B r4->RnF w3 w4 b r3.ng->Calls Tryz.prog 100 #[.pointer (some ⟨P,4,none⟩), .pointer (some ⟨b,0,none⟩)] w4 fun x w'=>x= .returned (.tuple #[])/\∃rs' l' ob',KpX w' P B ob' (e.fails i k) rs' l'/\SameB rs rs'/\TimR (e.fails i k) l'/\KF w w' P B ob/\ObTo w ob ob':=by
    intro w4 r4 hsk hsh hr4 hf4
    obtain⟨h,wk,hi,hk,h3,hT,hsd,hlr,hM,htm,hel,hil,hRn,hRI,h1,hr,hnd,hn,hid,hrun,hpb,hgB⟩:=HH.out
    obtain⟨q1,q2,q3,q4,q5,q6,q7,q8,q9⟩:=H3.out
    obtain⟨m1,m2,m3,m4,m5⟩:=HMID.out
    obtain⟨n1,n2,n3⟩:=HND.out
    have htr:¬((e.at_ i).at_ k).tries<(e.at_ i).fl.bu k:=by have:=HTR.out;rw [n3,n1.bu] at this;exact this
    have hr0:e1.runs=(e.onStep i k (fun s=>{ s with st:=6 })).runs:=by rw [he1]
    have hrun1:=q5.runs i q6
    obtain⟨d2,hd,hI4⟩:=hsk.is q4 q7 hrun1.fl hrun1.len
    have hsm:=hd.same
    have hshut:Shut d2:=hsh.is hI4 (by rw [hsm.2.2.1];exact q7) (by rw [hsm.2.1];exact hrun1.fl) (by rw [hd.len,hsm.2.1];exact hrun1.len)
    obtain⟨s1,s2⟩:=skipN_shut (e1.at_ i)
    have hd2:d2=RunD.skipN (e1.at_ i).steps.length (e1.at_ i):=hd.uniq s1 hshut s2
    have hfd:=fails_dead (e:=e) (i:=i) (k:=k) hi htr
    rw [<-he1] at hfd
    have hlen:(e.at_ i).steps.length=(e1.at_ i).steps.length:=(Zb0 hr0 hi).symm
    rw [hlen,<-hd2] at hfd
    have hb4:=hsk.same
    have hwk2:EngWk (e1.onRun i (fun _=>d2)):=hd.wk q5 q6 rfl
    have hi2:i<(e1.onRun i (fun _=>d2)).runs.length:=by rw [Zbh];exact q6
    have hat2:(e1.onRun i (fun _=>d2)).at_ i=d2:=by rw [Zb1 e1 i i _ q6,if_pos rfl]
    have hil3:i<(rs.set i r3).length:=by rw [List.length_set];exact hil
    have hr3at:rnAt (rs.set i r3) i=r3:=by rw [Zc8 hil hil,if_pos rfl]
    have hset3:=runs_set (r:=r3) (e:=e) (e':=e1) (f:=fun d=>d.onStep k (fun s=>{ s with st:=6 })) h.len h.runs hi (by rw [he1];rfl) (by rw [hr3];exact hRI.setSt h1 hk 6)
    have hset4:=runs_set (e:=e1) (e':=e1.onRun i (fun _=>d2)) (f:=fun _=>d2) hset3.1 hset3.2 q6 rfl hI4
    have hM4:=q2.run hil3 (r':=r4) hr4 (by rw [hr3at];exact hb4.1) (by rw [hr3at];exact hb4.2.2.2.1) (by rw [hr3at,q9];exact hf4)
    have hX4:KpX w4 P B ob (e1.onRun i (fun _=>d2)) ((rs.set i r3).set i r4) l1:=by
     refine⟨⟨el,now,?_,?_,?_⟩,hset4.1,hset4.2⟩
     ·rw [he1];exact hM4
     ·rw [he1];exact htm
     ·refine (hel.same (e':=e1) (Zbf hr0) (fun j hj=>by have:=Za6 hr0 hj;exact⟨this.1,this.2.2.2.2.2⟩)).same (Zbh e1 i _) (fun j hj=> ?_)
      rw [Zb1 e1 i j _ hj]
      by_cases c:i=j
      ·subst c;rw [if_pos rfl];exact⟨hsm.1,hsm.2.2.2.2.2⟩
      ·rw [if_neg c];exact⟨rfl,rfl⟩
    have hT4:TimR (e1.onRun i (fun _=>d2)) l1:=by
     rw [Zbe]
     refine⟨m5.1,fun t=> ?_⟩
     rw [engT_onRun q6 hd,m5.2.2.2,Zdv wk hi hk hr0]
     constructor
     ·exact fun g=>Or.inl g
     ·rintro (g | ⟨_,⟨g,_⟩ | ⟨g,_⟩ | ⟨g,_⟩⟩)
      ·exact g
      ·cases g
      ·cases g
      ·cases g
    have hbq:(rnAt ((rs.set i r3).set i r4) i).b=b:=by
     rw [Zc8 hil3 hil3,if_pos rfl,hb4.1,q9]
    have hc:=ksettle_any w4 P B ob (e1.onRun i (fun _=>d2)) ((rs.set i r3).set i r4) l1 i hX4 hwk2 hi2 (by rw [hat2,hsm.2.2.1];exact q7) hT4 (by rw [he1];exact hlr)
    rw [hbq,<-hfd] at hc
    refine hc.mono ?_
    rintro x w5 ⟨rfl,rs',l',ob',p1,p2,p3,p4,p5⟩
    have hsame:SameB rs ((rs.set i r3).set i r4):=by
     refine⟨by rw [List.length_set,List.length_set],fun j hj=> ?_⟩
     rw [Zc8 hil3 (by rw [List.length_set];exact hj),Zc8 hil hj]
     by_cases c:i=j
     ·subst c;rw [if_pos rfl,hb4.1,q9,<-hr];exact HBN.out.1
     ·rw [if_neg c,if_neg c]
    have hkf4:KF w3 w4 P B ob:=KF.of_rn (r:=r3) q1 (by rw [q9];exact hf4) hpb.1
    refine⟨rfl,rs',l',ob',p1,hsame.trans p2,p3,((q3.trans hkf4 (ObTo.refl _ _)).trans p4 (ObTo.refl _ _)),fun z hz=> ?_⟩
    rcases p5 z hz with g | g
    ·exact Or.inl g
    ·right;have:=q3.size;have:=hkf4.size;omega
   have HSet:=Hid.mk hSet
   clear h3 hSkip hSet y0 y1 y2 y3 y4 y5 y6 y7 y8 y9 f7 hw3 htr
   go_wp2_with (first
    | (go_at_call 144;refine HSkip.out.mono ?_;rintro _ w4 ⟨rfl,hx⟩;have HX:=Hid.mk hx;clear hx)
    | (go_at_call 100;refine (HSet.out w4 HX.out.choose HX.out.choose_spec.1 HX.out.choose_spec.2.1 HX.out.choose_spec.2.2.1 HX.out.choose_spec.2.2.2).mono ?_;rintro _ w5 ⟨rfl,hy⟩;have HY:=Hid.mk hy;clear hy))
   go_end0
   exact⟨rfl,HY.out⟩
def TimD (e:EngD)(d:TmD)(l:List Tm):Prop:=Rising l/\∀t,t∈l↔EngT e t/\t.id≠(e.tmOf d).id
theorem TimD.toE {e:EngD}{d:TmD}{l:List Tm}(h:TimD e d l)(hn:d.k=none):TimE e d.i l:=by
 refine⟨h.1,fun t ht=>((h.2 t).1 ht).1,fun t ht ho=>(h.2 t).2 ⟨ht,fun e2=>ho ⟨-1,0,by omega,by omega,?_⟩⟩⟩
 rw [e2]
 unfold EngD.tmOf EngD.kindOf nodeI
 rw [hn]
theorem TimD.toW {e:EngD}(wk:EngWk e){d:TmD}{l:List Tm}(h:TimD e d l){k:Nat}(hn:d.k=some k)(hi:d.i<e.runs.length)(hk:k<(e.at_ d.i).steps.length)(h4:((e.at_ d.i).at_ k).st=4)(hsg:d.sign=false):TimW e d.i [k] l:=by
 have hid:(e.tmOf d).id=keyI (e.at_ d.i).id k 3:=by
  unfold EngD.tmOf EngD.kindOf nodeI
  rw [hn]
  simp [h4,hsg]
 refine⟨h.1,fun t=> ?_⟩
 rw [h.2,hid]
 constructor
 ·rintro⟨h1,h2⟩
  refine⟨h1,fun m hm ho=> ?_⟩
  rw [List.mem_singleton] at hm
  subst hm
  rcases (h1.node wk hi hk ho).2 with⟨g,_⟩ | ⟨_,g⟩ | ⟨g,_⟩
  ·omega
  ·exact h2 (by rw [g])
  ·omega
 ·rintro⟨h1,h2⟩
  exact⟨h1,fun e2=>h2 k (List.mem_singleton.2 rfl) ⟨3,by omega,by omega,e2⟩⟩
theorem TimD.toN {e:EngD}{d:TmD}{l:List Tm}(h:TimD e d l){k:Nat}(hn:d.k=some k)(h3:((e.at_ d.i).at_ k).st=3):TimN e d.i k l:=by
 refine⟨h.1,fun t ht=>((h.2 t).1 ht).1,fun t ht ho=>(h.2 t).2 ⟨ht,fun e2=>ho ?_⟩⟩
 have:(e.tmOf d).id=keyI (e.at_ d.i).id k (if d.sign then 2 else 1):=by
  unfold EngD.tmOf EngD.kindOf nodeI
  rw [hn]
  simp [h3]
 rw [this] at e2
 exact⟨if d.sign then 2 else 1,by split<;>omega,by split<;>omega,e2⟩
theorem key_of_due {e:EngD}(wk:EngWk e){d:TmD}(hd:DueE e d){r nd q:Int}(hk:KeyOk r nd q (e.tmOf d).id):r=(e.at_ d.i).id/\nd=nodeI d.k/\q=e.kindOf d:=by
 obtain⟨hi,h1,h2⟩:=hd
 have h12:=wk.n12 hi
 have hn: -1<=nodeI d.k/\nodeI d.k<15:=by
  cases h:d.k with
  | none=>exact⟨by decide,by decide⟩
  | some k =>
   rw [h] at h2
   have:=h2.1
   show -1<=(k:Int)/\(k:Int)<15
   omega
 have hq:0<=e.kindOf d/\e.kindOf d<4:=by
  unfold EngD.kindOf
  split
  ·exact⟨by decide,by decide⟩
  ·split
   ·exact⟨by decide,by decide⟩
   ·split<;>exact⟨by decide,by decide⟩
 have:=keyI_inj (hk.e.symm.trans rfl) ⟨hk.n0,hk.n1⟩ hn ⟨hk.q0,hk.q1⟩ hq
 exact this
theorem find_run {rs:List RnM}{e:EngD}(wk:EngWk e)(hl:rs.length=e.runs.length)(hi:∀i,i<e.runs.length->RnIs (rnAt rs i) (e.at_ i)){i:Nat}(h:i<e.runs.length):findR rs (e.at_ i).id=some i :=
 findR_some (by omega) (hi i h).id (fun j hj x=>by
  have:=wk.id_inj (by omega) h ((hi j (by omega)).id.symm.trans x)
  omega)
theorem happens_none {e:EngD}{d:TmD}(ht:e.time=d.tm)(hn:d.k=none):e.happens d=e.end_ d.i 5:=by
 have:({ e with time:=max e.time d.tm }:EngD)=e:=by rw [<-ht,Int.max_self]
 unfold EngD.happens
 simp only
 rw [this,hn]
theorem happens_some {e:EngD}{d:TmD}(ht:e.time=d.tm){k:Nat}(hn:d.k=some k):e.happens d=if ((e.at_ d.i).at_ k).st=4 then e.ready d.i k else e.fails d.i k:=by
 have:({ e with time:=max e.time d.tm }:EngD)=e:=by rw [<-ht,Int.max_self]
 unfold EngD.happens
 simp only
 rw [this,hn]
set_option maxHeartbeats 8000000 in
theorem khappen_any (w:World)(P B:Nat)(ob:Option Nat)(e:EngD)(rs:List RnM)(l:List Tm)(d:TmD)(r nd q at_:Int)(h:KpX w P B ob e rs l)(wk:EngWk e)(hd:DueE e d)(ht:e.time=d.tm)(hT:TimD e d l)(hk:KeyOk r nd q (e.tmOf d).id)(hlr:e.lastRun<18446744073709551616)(hsd:0<=e.seed/\e.seed<18446744073709551616) :
  Calls Tryz.prog 104 #[.pointer (some ⟨P,4,none⟩), .agg #[.int .u64 r, .int .i64 nd, .int .i64 q], .int .u64 at_] w fun x w'=>x= .returned (.tuple #[])/\∃rs' l' ob',KpX w' P B ob' (e.happens d) rs' l'/\SameB rs rs'/\TimR (e.happens d) l'/\KF w w' P B ob/\ObTo w ob ob':=by
 obtain⟨kr,kn,kq⟩:=key_of_due wk hd hk
 have hd0:=hd
 obtain⟨hi,h1,h2⟩:=hd
 obtain⟨w0,hw0⟩:∃w0,w0=w.alloc (.cells #[.int .u64 r, .int .i64 nd, .int .i64 q] 183):=⟨_,rfl⟩
 obtain⟨bx,hbx⟩:∃bx,bx=w.heap.size:=⟨_,rfl⟩
 have HBX:=Hid.mk (show KBox w0 bx r nd q by rw [hw0,hbx];exact box_new w r nd q)
 have hB0:Below w.heap.size w w0:=by rw [hw0];exact (Below.refl _ _).alloc (Nat.le_refl _) _
 have HX0:=Hid.mk (h.below hB0)
 have HB0:=Hid.mk hB0
 obtain⟨el,now,hM,htm,hel⟩:=HX0.out.ex
 obtain⟨ka,kc,hkn⟩:=hM.kn
 have hfind:=find_any w0 P B kc ka rs r hkn
 rw [kr,find_run wk h.len h.runs hi] at hfind
 have hfind2:Calls Tryz.prog 94 #[.pointer (some ⟨P,4,none⟩), .int .u64 r] w0 fun e w'=>e= .returned (.pointer (some ⟨(rnAt rs d.i).b,0,none⟩))/\w'=w0:=by
  rw [kr];exact hfind
 have HFI:=Hid.mk hfind2
 have hkF:∀(w':World) (ob':Option Nat),KF w0 w' P B ob->ObTo w0 ob ob'->KF w w' P B ob/\ObTo w ob ob':=fun w' ob' g1 g2=>⟨(KF.of_below P B ob HB0.out).trans g1 (ObTo.refl _ _),fun z hz=>by
  rcases g2 z hz with h | h
  ·exact Or.inl h
  ·right;have:=HB0.out.size;omega⟩
 have HKF:=Hid.mk hkF
 have HW0:=Hid.mk (And.intro hbx hw0)
 clear hkF hfind hfind2 hkn hM htm hel h hbx hw0 hB0
 obtain⟨⟨z0,z1⟩,z2⟩:=HBX.out
 cases hdk:d.k with
 | none =>
  have HH:=Hid.mk (happens_none ht hdk)
  obtain rfl:q=0:=by rw [kq];unfold EngD.kindOf;rw [hdk]
  have HE:=Hid.mk (kfin_any w0 P B ob e rs l d.i 5 HX0.out wk hi h1 (by omega) (hT.toE hdk) hlr)
  clear ht hdk kr kn kq hd0 h2 hi h1 hT hk
  go_enter Tryz.func104,Tryz.ntmps104
  go_upto_region 1 with fail
  rw [<-HW0.out.1,<-HW0.out.2]
  go_wp2_with (first
   | (go_at_call 94;refine HFI.out.mono ?_;rintro _ w1 ⟨rfl,hw1⟩;rw [hw1])
   | (go_at_call 102;refine HE.out.mono ?_;rintro _ w2 ⟨rfl,hx⟩;have HX:=Hid.mk hx;clear hx))
  go_end0
  obtain⟨rs',l',ob',q1,q2,q3,q4,q5⟩:=HX.out
  rw [HH.out]
  exact⟨rfl,rs',l',ob',q1,q2,q3,HKF.out _ _ q4 q5⟩
 | some k =>
  rw [hdk] at h2
  obtain⟨hkl,h2⟩:=h2
  have hnd:nd=(k:Int):=by rw [kn,hdk];rfl
  have hk12:=wk.n12 hi
  by_cases h4:((e.at_ d.i).at_ k).st=4
  ·have HH:=Hid.mk (show e.happens d=e.ready d.i k by rw [happens_some ht hdk,if_pos h4])
   have hsg:d.sign=false:=by
    unfold StD.due at h2
    split at h2
    ·omega
    ·rename_i c;simpa using c
   obtain rfl:q=3:=by rw [kq];unfold EngD.kindOf;rw [hdk];simp [h4,hsg]
   have HR:=Hid.mk (fun (w1:World) (g c:Nat) (hb:Below w0.heap.size w0 w1) (hc:1<=c) (hg:g≠P) (hh:w1.heap[g]? =some (.cells #[.int .i64 (k:Int)] 3 (0,0))) =>
    kready_any w1 P B ob e rs l d.i c (some ⟨g,0,none⟩) [k] (HX0.out.below hb) wk hi h1 ⟨by simp,fun m hm=>by rw [List.mem_singleton] at hm;subst hm;exact⟨hkl,Or.inr h4⟩⟩ (hT.toW wk hdk hi hkl h4 hsg) (Or.inr ⟨g,_,rfl,hg,hc,hh,fun j hj=>by
     obtain rfl:j=0:=by simpa using hj
     rfl⟩))
   have HPB:=Hid.mk (show P<w0.heap.size by obtain⟨_,_,hM,_⟩:=HX0.out.ex;exact hM.pl)
   clear ht hdk kr kn kq hd0 h2 hi h1 hT hk hkl h4 hsg hk12
   subst hnd
   go_enter Tryz.func104,Tryz.ntmps104
   go_upto_region 1 with fail
   rw [<-HW0.out.1,<-HW0.out.2]
   go_wp2_with (first
    | (go_at_call 94;refine HFI.out.mono ?_;rintro _ w1 ⟨rfl,hw1⟩;rw [hw1])
    | (go_at_call 88;refine (HR.out _ w0.heap.size 1 ((Below.refl _ _).alloc (Nat.le_refl _) _) (Nat.le_refl _) (by have:=HPB.out;omega) (heap_alloc_new w0 _)).mono ?_;rintro _ w2 ⟨rfl,hx⟩;have HX:=Hid.mk hx;clear hx))
   go_end0
   obtain⟨rs',q1,q2,q3,q4,q5,q6⟩:=HX.out
   rw [HH.out]
   exact⟨rfl,rs',l,ob,q1,q2,q3,HKF.out _ _ ((KF.of_below P B ob ((Below.refl _ _).alloc (Nat.le_refl _) _)).trans q6 (ObTo.refl _ _)) (ObTo.refl _ _)⟩
  ·have HH:=Hid.mk (show e.happens d=e.fails d.i k by rw [happens_some ht hdk,if_neg h4])
   have h3:((e.at_ d.i).at_ k).st=3:=by
    unfold StD.due at h2
    split at h2
    ·exact h2.1
    ·exact h2.1.resolve_right h4
   have HF:=Hid.mk (kfail_any w0 P B ob e rs l d.i k HX0.out wk hi hkl h3 (hT.toN hdk h3) hlr hsd)
   have hq:q=1\/q=2:=by
    rw [kq];unfold EngD.kindOf;rw [hdk];simp only
    split
    ·exact Or.inr rfl
    ·first | exact Or.inl rfl | (rw [if_neg h4];exact Or.inl rfl)
   clear ht hdk kr kn kq hd0 h2 hi h1 hT hk hkl h4 hk12 h3
   subst hnd
   rcases hq with rfl | rfl
   all_goals
    go_enter Tryz.func104,Tryz.ntmps104
    go_upto_region 1 with fail
    rw [<-HW0.out.1,<-HW0.out.2]
    go_wp2_with (first
     | (go_at_call 94;refine HFI.out.mono ?_;rintro _ w1 ⟨rfl,hw1⟩;rw [hw1])
     | (go_at_call 101;refine HF.out.mono ?_;rintro _ w2 ⟨rfl,hx⟩;have HX:=Hid.mk hx;clear hx))
    go_end0
    obtain⟨rs',l',ob',q1,q2,q3,q4,q5⟩:=HX.out
    rw [HH.out]
    exact⟨rfl,rs',l',ob',q1,q2,q3,HKF.out _ _ q4 q5⟩
end Go.Proofs.YtgdcjccbdmcebabGreatDoor
namespace Go.Proofs.YtgdcjccbdmcebabGreatDoor
open Go.RowKit
theorem ctzFrom_bits:∀(f x:Nat),0<x->x<2 ^ f->Lib.ctzFrom f x<f/\x.testBit (Lib.ctzFrom f x)=true/\∀j,j<Lib.ctzFrom f x->x.testBit j=false
 | 0,x,h0,h=>by simp at h;omega
 | f+1,x,h0,h=>by
  unfold Lib.ctzFrom
  by_cases e:x % 2=1
  ·rw [if_pos e]
   exact⟨by omega,by simp [Nat.testBit_zero,e],fun j hj=>by omega⟩
  ·rw [if_neg e]
   have hp:2 ^ (f+1)=2 * 2 ^ f:=by rw [Nat.pow_succ];omega
   obtain⟨h1,h2,h3⟩:=ctzFrom_bits f (x / 2) (by omega) (by omega)
   refine⟨by omega,by rw [Nat.add_comm,Nat.testBit_succ];exact h2,fun j hj=> ?_⟩
   cases j with
   | zero=>simp [Nat.testBit_zero,e]
   | succ j=>rw [Nat.testBit_succ];exact h3 j (by omega)
theorem ctz_bits (x:Nat)(h0:x≠0)(h:x<18446744073709551616):Lib.ctz 64 x<64/\x.testBit (Lib.ctz 64 x)=true/\∀j,j<Lib.ctz 64 x->x.testBit j=false:=by
 unfold Lib.ctz
 rw [if_neg h0]
 exact ctzFrom_bits 64 x (by omega) (by omega)
theorem fst_of {wd:Nat->Nat}{n L s:Nat}{l:List Tm}(hw:Words wd (Zaf n l))(h:FstW wd L s true):L<11/\s<64/\Fst n l (L * 64+s):=by
 rcases h with⟨h,_⟩ | ⟨_,hL,hz,hne,rfl⟩
 ·cases h
 ·obtain⟨h1,h2⟩:=hw L hL
  obtain⟨c1,c2,c3⟩:=ctz_bits (wd L) hne h1
  refine⟨hL,c1,fun j hj=> ?_,(h2 _ c1).1 c2⟩
  by_cases e:j / 64=L
  ·have hb:=(h2 (j % 64) (by omega))
   rw [show L * 64+j % 64=j by omega] at hb
   have:=c3 (j % 64) (by omega)
   rw [this] at hb
   by_cases e2:Zaf n l j=[]
   ·exact e2
   ·exact absurd (hb.2 e2) (by simp)
  ·have hb:=((hw (j / 64) (by omega)).2 (j % 64) (by omega))
   rw [show j / 64 * 64+j % 64=j by omega,hz (j / 64) (by omega)] at hb
   by_cases e2:Zaf n l j=[]
   ·exact e2
   ·exact absurd (hb.2 e2) (by simp)
theorem none_of {wd:Nat->Nat}{n L s:Nat}{l:List Tm}(hw:Words wd (Zaf n l))(hL:Later n l)(hn:n<=4611686018427387904)(h:FstW wd L s false):l=[]:=by
 rcases h with⟨_,_,_,hz⟩ | ⟨h,_⟩
 ·refine no_fst hL hn (fun j hj=> ?_)
  have hb:=((hw (j / 64) (by omega)).2 (j % 64) (by omega))
  rw [show j / 64 * 64+j % 64=j by omega,hz (j / 64) (by omega)] at hb
  by_cases e2:Zaf n l j=[]
  ·exact e2
  ·exact absurd (hb.2 e2) (by simp)
 ·cases h
def memb (n:Nat)(l:List Tm)(k:Nat):List Tm:=l.filter (fun t=>pl n t.tm.toNat == k)
theorem placed_memb (n:Nat)(l:List Tm)(k:Nat):Zaf n l k=(memb n l k).map (·.id):=rfl
theorem memb_at {n:Nat}{l:List Tm}{k i:Nat}(hi:i<(memb n l k).length):∃j,j<l.length/\l.getD j .z=(memb n l k).getD i .z/\pl n ((memb n l k).getD i .z).tm.toNat=k:=by
 have h:=Zb4 hi
 obtain⟨h1,h2⟩:=List.mem_filter.1 h
 obtain⟨j,hj,e⟩:=mem_at h1
 exact⟨j,hj,e,by simpa using h2⟩
theorem HapR.onward {tt t:Int}{e e2:EngD}(h:HapR tt { e with time:=t } e2)(h0:e.time<=t)(hd:∀d,DueE e d->t<=d.tm):HapR tt e e2:=by
 obtain⟨e',he'⟩:∃e',e'=({ e with time:=t }:EngD):=⟨_,rfl⟩
 rw [<-he'] at h
 cases h with
 | none _ hn=>subst he';exact .none e hn
 | step _ _ b hb hle hr =>
  subst he'
  refine .step e e2 b hb hle ?_
  have h1:=hd _ (best_min (e:=e) hb).1
  have:({ e with time:=t }:EngD).happens (e.dues.getD b .z)=e.happens (e.dues.getD b .z):=by
   unfold EngD.happens
   have:max t (e.dues.getD b .z).tm=max e.time (e.dues.getD b .z).tm:=by omega
   simp only
   rw [this]
   rfl
  rw [<-this]
  exact hr
theorem happens_nums (e:EngD)(d:TmD):(e.happens d).time=max e.time d.tm/\(e.happens d).lastRun=e.lastRun/\(e.happens d).seed=e.seed:=by
 unfold EngD.happens
 split
 ·exact⟨rfl,rfl,rfl⟩
 ·split
  ·exact⟨rfl,rfl,rfl⟩
  ·unfold EngD.fails
   simp only
   split
   ·exact⟨rfl,rfl,rfl⟩
   ·unfold EngD.settle
    split
    ·exact⟨rfl,rfl,rfl⟩
    ·exact⟨rfl,rfl,rfl⟩
theorem todo_bd {n:Nat}(hn:n<=4611686018427387904):∀l:List Tm,Later n l->todo n l<=l.length * 704
 | [],_=>by simp [todo]
 | t::r,h=>by
  have h1:=todo_bd hn r (fun x hx=>h x (by simp [hx]))
  have h2:=(h t (by simp))
  have h3:=pl_lt n t.tm.toNat hn (by omega)
  simp only [todo,List.length_cons,Nat.add_mul]
  omega
theorem KpX.time {w:World}{P B:Nat}{ob:Option Nat}{e:EngD}{rs:List RnM}{l:List Tm}(h:KpX w P B ob e rs l):∃now:Nat,e.time=(now:Int)/\WhAt w P B noK now l:=by
 obtain⟨el,now,h1,h2,_⟩:=h.ex
 exact⟨now,h2,h1.wh⟩
theorem EngD.setTime_id (e:EngD){t:Int}(h:e.time=t):({ e with time:=t }:EngD)=e:=by rw [<-h]
theorem KpX.wheel {w w':World}{P B:Nat}{ob:Option Nat}{e:EngD}{rs:List RnM}{l:List Tm}(h:KpX w P B ob e rs l)(hf:PF w w' P B noK){m:Nat}{l':List Tm}(hw:WhAt w' P B noK m l'):KpX w' P B ob { e with time:=(m:Nat) } rs l':=by
 obtain⟨el,now,h1,h2,is,h3,h4,h5⟩:=h.ex
 exact⟨⟨el,m,h1.wheel hf hw,rfl,is,h3,h4,h5⟩,h.len,h.runs⟩
theorem WhAt.setNow {w:World}{P B n m:Nat}{K:Nat->Prop}{l:List Tm}(h:WhAt w P B K n l)(hp:∀t∈l,pl m t.tm.toNat=pl n t.tm.toNat)(hL:Later m l)(hm:m<=4611686018427387904):WhAt (w.setCell ⟨P,11,none⟩ (.int .u64 m)) P B K m l:=by
 obtain⟨dm,rw_,wd,h1,hdue,hw⟩:=h.mem
 have e:Zaf m l=Zaf n l:=by funext j;exact placed_congr hp j
 refine⟨⟨dm,rw_,wd,by rw [e];exact h1.setNow m,hdue.kept (fun k es c hk _=>Below.heap_setCell w ⟨P,11,none⟩ _ k (by simp;have:=h1.pb;omega)),by rw [e];exact hw⟩,hm,h.few,hL,h.ids,h.apart⟩
theorem TimR.at_least {e:EngD}{l:List Tm}(h:TimR e l){t:Int}(ht:∀x∈l,t<=x.tm):∀d,DueE e d->t<=d.tm:=fun d hd=>ht _ (h.all d (Zaq.2 hd))
theorem TimR.drop_ {e:EngD}{l:List Tm}(h:TimR e l)(ha:Apart l){b:Nat}(hb:b<l.length){d:TmD}(hd:e.tmOf d=l.getD b .z):TimD e d (l.take b++l.drop (b+1)):=by
 rw [Zbe] at h
 refine⟨h.1.cut hb,fun t=> ?_⟩
 rw [cut_mem hb ha,h.2,hd]
end Go.Proofs.YtgdcjccbdmcebabGreatDoor
