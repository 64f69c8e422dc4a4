import Derived.Test.YtgdcjccbdmcebabGreatDoorM36
set_option linter.unusedSimpArgs false
set_option linter.unusedVariables false
namespace Go.Proofs.YtgdcjccbdmcebabGreatDoor
open Go.RowKit
set_option maxRecDepth 100000
attribute [local go_sem ↓] Go.wp_at_zero Go.wp_at_succ
variable {Kp:Int->World->Prop}
theorem KpX.wheelN {w w':World}{P B:Nat}{ob:Option Nat}{e:EngD}{rs:List RnM}{l:List Tm}(h:KpX w P B ob e rs l)(hf:PF w w' P B noK){m:Nat}{l':List Tm}(hw:WhAt w' P B noK m l')(hm:e.time=(m:Int)):KpX w' P B ob e rs l':=by
 have:=h.wheel hf hw
 rw [e.setTime_id hm] at this
 exact this
theorem KpX.onNd {w w':World}{P B:Nat}{ob:Option Nat}{e e':EngD}{rs:List RnM}{l:List Tm}(h:KpX w P B ob e rs l){i k:Nat}(hi:i<e.runs.length)(h1:(e.at_ i).st=1)(hk:k<(e.at_ i).steps.length){f:NdM->NdM}{g:StD->StD}
  (hs:(f ((rnAt rs i).at_ k)).st=(g ((e.at_ i).at_ k)).st) (ht:(f ((rnAt rs i).at_ k)).tries=(g ((e.at_ i).at_ k)).tries) (hn:NdIs (e.at_ i).fl k (g ((e.at_ i).at_ k)) (f ((rnAt rs i).at_ k)))
  (hr:RnAt w' B ((rnAt rs i).onNd k f)) (hf:RnF w w' (rnAt rs i).b (rnAt rs i).ng) (he:e'.runs=(e.onStep i k g).runs) (h2:e'.queue=e.queue) (h3:e'.time=e.time) (h4:e'.lastRun=e.lastRun) (h5:e'.lastTok=e.lastTok) (h6:e'.seed=e.seed) :
  KpX w' P B ob e' (rs.set i ((rnAt rs i).onNd k f)) l/\SameB rs (rs.set i ((rnAt rs i).onNd k f))/\KF w w' P B ob:=by
 obtain⟨el,now,hM,htm,hel⟩:=h.ex
 have hil:i<rs.length:=by rw [h.len];exact hi
 have hM2:=hM.run hil hr rfl rfl hf
 have hset:=runs_set (e:=e) (e':=e') (f:=fun d=>d.onStep k g) h.len h.runs hi he ((h.runs i hi).step h1 hk hs ht hn)
 obtain⟨ka,kc,hkn⟩:=hM.kn
 refine⟨⟨⟨el,now,by rw [h2,h4,h5,h6];exact hM2,h3.trans htm,hel.same (Zbf he) (fun x hx=> ?_)⟩,hset.1,hset.2⟩,⟨by rw [List.length_set],fun x hx=> ?_⟩,KF.of_rn (hkn.runs i hil) hf hM.pb.1⟩
 ·have:=Za6 (e:=e) (e':=e') (i:=i) (k:=k) (f:=g) he hx
  exact⟨this.1,this.2.2.2.2.2⟩
 ·rw [Zc8 hil hx]
  split
  ·rename_i c;subst c;rfl
  ·rfl
theorem tim_over {e e':EngD}(wk:EngWk e){i k:Nat}(hi:i<e.runs.length)(hk:k<(e.at_ i).steps.length){f:StD->StD}(hr:e'.runs=(e.onStep i k f).runs)(hst:(f ((e.at_ i).at_ k)).st≠3/\(f ((e.at_ i).at_ k)).st≠4){l1:List Tm}(h1:Rising l1)(h2:∀t,t∈l1↔EngT e t/\¬OwnT (e.at_ i).id k t):TimR e' l1:=by
 rw [Zbe]
 refine⟨h1,fun t=> ?_⟩
 rw [h2,Zdv wk hi hk hr]
 constructor
 ·exact fun h=>Or.inl h
 ·rintro (h | ⟨_,h⟩)
  ·exact h
  ·rcases h with⟨h,_⟩ | ⟨h,_⟩ | ⟨h,_⟩
   ·exact absurd h hst.1
   ·exact absurd h hst.2
   ·exact absurd h hst.1
theorem awake_ok {e:EngD}{i:Nat}:((List.range (e.at_ i).steps.length).filter (e.at_ i).free).Nodup/\∀k∈(List.range (e.at_ i).steps.length).filter (e.at_ i).free,k<(e.at_ i).steps.length/\((e.at_ i).at_ k).st=1:=by
 refine⟨List.nodup_range.filter _,fun k hk=> ?_⟩
 obtain⟨h1,h2⟩:=List.mem_filter.1 hk
 exact⟨List.mem_range.1 h1,free_one h2⟩
theorem readyL_wake {e:EngD}{i:Nat}(hi:i<e.runs.length):Zdb e i ((List.range (e.at_ i).steps.length).filter (e.at_ i).free)=e.wake i:=(wake_eq e i hi).symm
theorem awake_k {w:World}{P B:Nat}{ob:Option Nat}{e:EngD}{rs:List RnM}{l:List Tm}{i:Nat}(h:KpX w P B ob e rs l)(wk:EngWk e)(hi:i<e.runs.length)(h1:(e.at_ i).st=1)(hT:TimR e l) :
  Calls Tryz.prog 89 #[.pointer (some ⟨(rnAt rs i).b,0,none⟩)] w fun x w1=>∃a n c,x= .returned (.slice a n c)/\Below w.heap.size w w1/\Calls Tryz.prog 88 #[.pointer (some ⟨P,4,none⟩), .pointer (some ⟨(rnAt rs i).b,0,none⟩), .slice a n c] w1 fun x w'=>x= .returned (.tuple #[])/\∃rs',KpX w' P B ob (e.wake i) rs' l/\SameB rs rs'/\TimR (e.wake i) l/\EngWk (e.wake i)/\Kin e (e.wake i) i/\KF w w' P B ob:=by
 obtain⟨el,now,hM,htm,hel⟩:=h.ex
 obtain⟨ka,kc,hkn⟩:=hM.kn
 have hil:i<rs.length:=by rw [h.len];exact hi
 have hRI:=h.runs i hi
 have hrun:=wk.runs i hi
 have haw:=hRI.awake h1 hrun.fl hrun.len
 refine (awake_any w B (rnAt rs i) (hkn.runs i hil) (hRI.within h1 hrun.fl hrun.len)).mono ?_
 rintro x w1 ⟨a,c,rfl,hown,hb⟩
 refine⟨a,_,c,rfl,hb,?_⟩
 have hok:=awake_ok (e:=e) (i:=i)
 rw [haw] at hown ⊢
 have hP:P<w.heap.size:=hM.pl
 have:=kready_any w1 P B ob e rs l i c a _ (h.below hb) wk hi h1 ⟨hok.1,fun k hk=>⟨(hok.2 k hk).1,Or.inl (hok.2 k hk).2⟩⟩ (hT.toW wk hi hok.2) (NodesAtK.of_own hP hown)
 refine this.mono ?_
 rintro x w' ⟨rfl,rs',q1,q2,q3,q4,q5,q6⟩
 rw [readyL_wake hi] at q1 q3 q4 q5
 exact⟨rfl,rs',q1,q2,q3,q4,q5,(KF.of_below P B ob hb).trans q6 (ObTo.refl _ _)⟩
set_option maxHeartbeats 8000000 in
theorem kcomplete_any (w:World)(P B:Nat)(ob:Option Nat)(e:EngD)(tok:Int)(fn:Nat)(cs:Array Value)(h:KpAt w P B ob e)(wk:EngWk e)(hk:KeepC w P B fn cs Kp)(hlr:e.lastRun<18446744073709551616) :
  Calls Tryz.prog 58 #[.pointer (some ⟨P,4,none⟩), .int .u64 tok, .func (.func fn) #[] cs] w fun x w'=>(e.complete tok=none/\x= .returned (errV 7)/\Below w.heap.size w w')\/∃v e2,e.complete tok=some e2/\x= .returned (errV v)/\KOut P B ob Kp e e2 v w':=by
 obtain⟨rs,l,hx,ht⟩:=h
 cases htk:e.task tok with
 | none =>
  have hf:e.complete tok=none:=by unfold EngD.complete;rw [htk]
  have HT:=Hid.mk (ktask_none w P B ob e rs l tok fn cs hx wk htk)
  clear htk hx ht hk
  go_enter Tryz.func58,Tryz.ntmps58
  go_wp2_with (go_at_call 98;refine HT.out.mono ?_;rintro _ w1 ⟨rfl,hb⟩;have HB:=Hid.mk hb;clear hb;rw [Zap (by decide)])
  go_ret
  exact Or.inl ⟨hf,rfl,HB.out⟩
 | some ik =>
  obtain⟨i,k⟩:=ik
  have hf:e.complete tok=some (((e.onStep i k (fun s=>{ s with st:=5 })).wake i).settle i):=by unfold EngD.complete;rw [htk]
  have HT:=Hid.mk (ktask_some w P B ob e rs l tok i k fn cs hx wk htk hk)
  have HTI:=Hid.mk ht
  obtain⟨b,hb⟩:∃b,b=(rnAt rs i).b:=⟨_,rfl⟩
  rw [<-hb] at HT
  have HBN:=Hid.mk hb
  clear htk hx ht hk hb
  go_enter Tryz.func58,Tryz.ntmps58
  go_upto_region 2 with (go_at_call 98;refine HT.out.mono ?_;rintro _ w1 ⟨v,rfl,hw,hx,hkp⟩;have HX:=Hid.mk (And.intro hw (And.intro hx hkp));clear hw hx hkp)
  by_cases hv:v=0
  ·subst hv
   rw [Zay]
   obtain⟨⟨hi,hkl,h3⟩,hX,hkp⟩:=HX.out
   obtain⟨el,now,hM,htm,hel⟩:=hX.ex
   obtain⟨ka,kc,hkn⟩:=hM.kn
   have hil:i<rs.length:=by rw [hX.len];exact hi
   have hRn:=hkn.runs i hil
   have hRI:=hX.runs i hi
   have h1:=wk.runs_of hi hkl (by omega)
   obtain⟨⟨t0,_,t2⟩,_⟩:=hRn.topC
   obtain⟨_,_,hnc,_,hgB,_⟩:=hRn.rowBlk
   have h12:=hRn.few
   obtain⟨n,hn⟩:∃n,n=(rnAt rs i).ns.length:=⟨_,rfl⟩
   have hkr:k<(rnAt rs i).ns.length:=by rw [hRI.len];exact hkl
   obtain⟨id,hid⟩:∃id,id=(rnAt rs i).id:=⟨_,rfl⟩
   obtain⟨ng,hng⟩:∃ng,ng=(rnAt rs i).ng:=⟨_,rfl⟩
   have hide:id=(e.at_ i).id:=by rw [hid];exact hRI.id
   rw [<-HBN.out,<-hid] at t0
   rw [<-HBN.out,<-hn,<-hng] at t2
   rw [<-hn] at hnc h12
   have hST:=stop_any (w1.alloc (.cells #[.int .i64 1, .int .i64 2] 181)) P B now w1.heap.size l id k [1,2] (hM.wh.keep ((Below.refl _ _).alloc (Nat.le_refl _) _)) (fun q hq=>by
    have hq2:0<=q/\q<4:=by simp only [List.mem_cons,List.not_mem_nil,or_false] at hq;rcases hq with rfl | rfl<;>decide
    have:=wk.id1 i hi
    have:=wk.idB i hi
    exact keyOk (by omega) (by omega) (by omega) (by omega) hq2.1 hq2.2) (kinds_new w1 [1,2]) (by have:=hM.pl;omega) (by decide)
   have HST:=Hid.mk hST
   have hkn':(k:Int)<(n:Int):=by omega
   have HH:=Hid.mk (And.intro hi (And.intro hkl (And.intro h3 (And.intro hX (And.intro hkp (And.intro hM (And.intro htm (And.intro hRn (And.intro hRI (And.intro h1 (And.intro hn (And.intro hid (And.intro hng (And.intro hide (And.intro hkr hgB)))))))))))))))
   generalize (rnAt rs i).nc=nc at *
   clear hi hkl h3 hX hkp hM htm hel hkn hil hRn hRI h1 hn hid hng hide hST hkr hgB
   go_upto_region 5 with (go_at_call 99;refine HST.out.mono ?_;rintro _ w2 ⟨rfl,l1,hs2,hw2,hf2⟩;have HS2:=Hid.mk (And.intro hs2 (And.intro hw2 hf2));clear hs2 hw2 hf2)
   have HMID:=Hid.mk (show KpX w2 P B ob e rs l1/\RnAt w2 B (rnAt rs i)/\KF w1 w2 P B ob/\(Rising l1/\Apart l1/\l1.length<=l.length/\∀t,t∈l1↔EngT e t/\¬OwnT (e.at_ i).id k t) by
    obtain⟨hi,hkl,h3,hX,hkp,hM,htm,hRn,hRI,h1,hn,hid,hng,hide,hkr,hgB⟩:=HH.out
    obtain⟨q1,q2,q3⟩:=HS2.out
    have hba:Below w1.heap.size w1 (w1.alloc (.cells #[.int .i64 1, .int .i64 2] 181)):=(Below.refl _ _).alloc (Nat.le_refl _) _
    have hpb:=hM.pb
    refine⟨(hX.below hba).wheelN q3 q2 htm,(hRn.below hba).keepT (fun k cs t fr hk e ht=>q3.other e (by rcases ht with rfl | rfl | rfl<;>decide) (by omega)),(KF.of_below P B ob hba).trans (KF.of_pf q3 ob) (ObTo.refl _ _),?_⟩
    rw [hide] at q1
    exact (HTI.out.toN i k).stopped wk hi hkl h3 hM.wh.apart q1)
   clear t0 t2
   obtain⟨⟨_,_,t2⟩,_⟩:=HMID.out.2.1.topC
   have t7:=(HMID.out.2.1.nd (k:=k) (by have:=HH.out;omega)).c7
   have f7:=HMID.out.2.1.froz (k * 10+7)
   rw [<-HBN.out,<-HH.out.2.2.2.2.2.2.2.2.2.2.1,<-HH.out.2.2.2.2.2.2.2.2.2.2.2.2.1] at t2
   rw [<-HH.out.2.2.2.2.2.2.2.2.2.2.2.2.1] at t7 f7
   go_upto_region 6 with fail
   obtain⟨w3,hw3⟩:∃w3,w3=w2.setCell ⟨ng,k * 10+7,none⟩ (.int .i64 5):=⟨_,rfl⟩
   rw [<-hw3]
   obtain⟨e1,he1⟩:∃e1,e1=e.onStep i k (fun s=>{ s with st:=5 }):=⟨_,rfl⟩
   have H3:=Hid.mk (show (∃r1,KpX w3 P B ob e1 r1 l1/\SameB rs r1/\KF w1 w3 P B ob)/\TimR e1 l1/\EngWk e1/\i<e1.runs.length/\(e1.at_ i).st=1 by
    obtain⟨hi,hkl,h3,hX,hkp,hM,htm,hRn,hRI,h1,hn,hid,hng,hide,hkr,hgB⟩:=HH.out
    obtain⟨m1,m2,m3,m4⟩:=HMID.out
    have hset:=m2.setNd (k:=k) (j:=7) (f:=fun n=>{ n with st:=5 }) (v:= .int .i64 5) hkr (by omega) rfl ⟨rfl,rfl,rfl⟩
    have hf:=RnF.setG w2 (rnAt rs i).b (rnAt rs i).ng (k * 10+7) (.int .i64 5)
    rw [<-hng,<-hw3] at hset hf
    have hx:=m1.onNd (e':=e1) hi h1 hkl (f:=fun n=>{ n with st:=5 }) (g:=fun s=>{ s with st:=5 }) rfl (hRI.nd k hkl).2 ((hRI.live h1 k hkl).st 5 5) hset (by rw [<-hng];exact hf) (by rw [he1]) (by rw [he1];rfl) (by rw [he1];rfl) (by rw [he1];rfl) (by rw [he1];rfl) (by rw [he1];rfl)
    have kin:Kin e e1 i:=by rw [he1];exact Kin.onStep e k (fun s=>{ s with st:=5 }) e.queue hi
    refine⟨⟨_,hx.1,hx.2.1,m3.trans hx.2.2 (ObTo.refl _ _)⟩,tim_over wk hi hkl (f:=fun s=>{ s with st:=5 }) (by rw [he1]) ⟨by simp,by simp⟩ m4.1 m4.2.2.2,?_,by rw [kin.len];exact hi,by rw [kin.st];exact h1⟩
    rw [he1]
    exact wk.over hi hkl 5 (Or.inl rfl) (by omega) (by omega))
   obtain⟨⟨r1,x1,x2,x3⟩,x4,x5,x6,x7⟩:=H3.out
   have hAW:=awake_k x1 x5 x6 x7 x4
   have hbb:(rnAt r1 i).b=b:=by rw [HBN.out];exact x2.2 i (by rw [HX.out.2.1.len];exact HX.out.1.1)
   rw [hbb] at hAW
   have HAW:=Hid.mk hAW
   have HX1:=Hid.mk (And.intro x1 (And.intro x2 (And.intro x3 (And.intro x4 (And.intro x5 (And.intro x6 (And.intro x7 hbb)))))))
   have HE1:=Hid.mk he1
   clear t2 t7 f7 hw3 he1 x1 x2 x3 x4 x5 x6 x7 hbb hAW
   go_upto_region 7 with (first
    | (go_at_call 89;refine HAW.out.mono ?_;rintro _ w4 ⟨a,nn,c,rfl,hb4,hrd⟩;have HRD:=Hid.mk hrd;clear hb4 hrd)
    | (go_at_call 88;refine HRD.out.mono ?_;rintro _ w5 ⟨rfl,r2,y1,y2,y3,y4,y5,y6⟩;have HY:=Hid.mk (And.intro y1 (And.intro y2 (And.intro y3 (And.intro y4 (And.intro y5 y6)))));clear y1 y2 y3 y4 y5 y6))
   have hSE:=(by
    obtain⟨y1,y2,y3,y4,y5,y6⟩:=HY.out
    obtain⟨x1,x2,x3,x4,x5,x6,x7,hbb⟩:=HX1.out
    have:=ksettle_any w5 P B ob (e1.wake i) r2 l1 i y1 y4 (by rw [y5.len];exact x6) (by rw [y5.st];exact x7) y3 (by rw [y5.lastRun,HE1.out];exact hlr)
    rw [y2.2 i (by rw [x1.len];exact x6),hbb] at this
    exact this)
   have HSE:=Hid.mk hSE
   clear hSE
   go_wp2_with (go_at_call 100;refine HSE.out.mono ?_;rintro _ w6 ⟨rfl,hx⟩;have HX6:=Hid.mk hx;clear hx)
   go_ret
   obtain⟨r6,l6,o6,z1,z2,z3,z4,z5⟩:=HX6.out
   obtain⟨y1,y2,y3,y4,y5,y6⟩:=HY.out
   obtain⟨x1,x2,x3,x4,x5,x6,x7,hbb⟩:=HX1.out
   rw [HE1.out] at z1 z3
   refine Or.inr ⟨0,_,hf,rfl,KOut.ok HX.out.2.2 z1 z3 ((x3.trans y6 (ObTo.refl _ _)).trans z4 (ObTo.refl _ _)) (fun z hz=> ?_)⟩
   rcases z5 z hz with h | h
   ·exact Or.inl h
   ·right;have:=(x3.trans y6 (ObTo.refl _ _)).size;omega
  ·rw [Zap hv]
   have HV:=Hid.mk hv
   clear hv
   go_wp2_with fail
   go_ret
   exact Or.inr ⟨v,_,hf,by rw [Zap HV.out];rfl,KOut.err HV.out HX.out.2.2 HX.out.2.1 HTI.out⟩
theorem find_in {e:EngD}{id:Int}{i:Nat}(h:e.find id=some i):i<e.runs.length:=by
 unfold EngD.find at h
 rw [List.findIdx?_eq_some_iff_getElem] at h
 exact h.1
theorem RnIs.times {r:RnM}{d:RunD}(h:RnIs r d)(k:Nat){g:StD->StD}(hg:∀s,(g s).st=s.st/\(g s).tries=s.tries/\(g s).tok=s.tok):RnIs r (d.onStep k g):=by
 refine⟨h.id,h.st,by rw [Zal];exact h.len,fun m hm=> ?_,fun h1 m hm=> ?_,fun h1 m hm=> ?_⟩
 ·rw [Zal] at hm
  rw [Zdu _ _ _ _ hm]
  split
  ·rw [(hg _).1,(hg _).2.1];exact h.nd m hm
  ·exact h.nd m hm
 ·rw [Zal] at hm
  rw [Zdu _ _ _ _ hm,onStep_fl]
  have:=h.live h1 m hm
  split
  ·exact⟨by rw [(hg _).2.2];exact this.tok,this.bu,this.cl,this.be,this.ba,this.ca,this.ji,this.af⟩
  ·exact this
 ·rw [Zal] at hm
  exact h.over h1 m hm
theorem KpX.times {w:World}{P B:Nat}{ob:Option Nat}{e e':EngD}{rs:List RnM}{l:List Tm}(h:KpX w P B ob e rs l){i k:Nat}(hi:i<e.runs.length){g:StD->StD}(hg:∀s,(g s).st=s.st/\(g s).tries=s.tries/\(g s).tok=s.tok)(he:e'.runs=(e.onStep i k g).runs)(h2:e'.queue=e.queue)(h3:e'.time=e.time)(h4:e'.lastRun=e.lastRun)(h5:e'.lastTok=e.lastTok)(h6:e'.seed=e.seed):KpX w P B ob e' rs l:=by
 obtain⟨el,now,hM,htm,hel⟩:=h.ex
 have hl:=Zbf he
 refine⟨⟨el,now,by rw [h2,h4,h5,h6];exact hM,h3.trans htm,hel.same hl (fun x hx=> ?_)⟩,by rw [hl];exact h.len,fun j hj=> ?_⟩
 ·have:=Za6 (e:=e) (e':=e') (i:=i) (k:=k) (f:=g) he hx
  exact⟨this.1,this.2.2.2.2.2⟩
 ·rw [hl] at hj
  rw [Zbr he hj]
  split
  ·rename_i c;subst c;exact (h.runs i hj).times k hg
  ·exact h.runs j hj
end Go.Proofs.YtgdcjccbdmcebabGreatDoor
namespace Go.Proofs.YtgdcjccbdmcebabGreatDoor
open Go.RowKit
def pollF (e:EngD)(i k:Nat)(s:StD):StD:={ s with st:=3,tries:=((e.at_ i).at_ k).tries+1,tok:=e.lastTok+1,fin:=Zas e.time ((e.at_ i).fl.cl k),finAt:=e.timers+1,sign:=if (e.at_ i).fl.be k > 0 then Zas e.time ((e.at_ i).fl.be k) else 0,signAt:=if (e.at_ i).fl.be k > 0 then e.timers+2 else s.signAt }
def pollE (e:EngD)(q:List PlD)(i k:Nat):EngD:={ e with queue:=q,lastTok:=e.lastTok+1,timers:=e.timers+1+(if (e.at_ i).fl.be k > 0 then 1 else 0) }.onStep i k (pollF e i k)
theorem poll_empty {e:EngD}(h:e.queue=[]):e.poll=none:=by unfold EngD.poll;rw [h]
theorem find_nth {l:List RunD}{id:Int}{i:Nat}(hi:i<l.length)(h:(l.getD i .z).id=id)(hn:∀j,j<i->(l.getD j .z).id≠id):l.findIdx? (fun r=>r.id == id)=some i:=by
 rw [List.findIdx?_eq_some_iff_getElem]
 have e:∀j (hj:j<l.length),l.getD j .z=l[j]:=fun j hj=>by rw [List.getD_eq_getElem?_getD,List.getElem?_eq_getElem hj];rfl
 refine⟨hi,by rw [<-e i hi];simpa using h,fun j hj=> ?_⟩
 rw [<-e j (by omega)]
 simpa using hn j hj
theorem poll_head {e:EngD}(wk:EngWk e){p:PlD}{q:List PlD}(h:e.queue=p::q):∃i,i<e.runs.length/\p.node<(e.at_ i).steps.length/\p.run=(e.at_ i).id/\((e.at_ i).at_ p.node).st=2/\e.find p.run=some i/\e.poll=some (p,((e.at_ i).at_ p.node).tries+1,e.lastTok+1,pollE e q i p.node):=by
 obtain⟨i,q1,q2,q3,q4⟩:=(wk.qm p).1 (by rw [h];exact List.mem_cons_self ..)
 have hf:e.find p.run=some i:=by
  unfold EngD.find
  refine find_nth q1 q2 (fun j hj x=> ?_)
  have:=wk.id_inj (i:=j) (j:=i) (by omega) q1 (by unfold EngD.at_;rw [x,<-q2];rfl)
  omega
 refine⟨i,q1,q3,q2.symm,q4,hf,?_⟩
 unfold EngD.poll
 rw [h]
 simp only
 rw [hf]
 rfl
theorem RnM.onNd_onNd (r:RnM)(k:Nat)(f g:NdM->NdM):(r.onNd k f).onNd k g=r.onNd k (fun n=>g (f n)):=by
 unfold RnM.onNd
 simp only [RnM.mk.injEq,true_and]
 apply List.ext_getElem?
 intro j
 simp only [List.getElem?_modify]
 by_cases e:k=j
 ·subst e;simp only [if_true];cases r.ns[k]? <;>rfl
 ·simp only [if_neg e];cases r.ns[j]? <;>rfl
theorem tim_poll {e:EngD}(wk:EngWk e){i k:Nat}{q:List PlD}(hi:i<e.runs.length)(hk:k<(e.at_ i).steps.length)(h2:((e.at_ i).at_ k).st=2){l l1 l3:List Tm}(hT:TimR e l)(ha:Apart l){x:Int}(hc:CanIs l (keyI (e.at_ i).id k 1) x l1)
  (ha2:Apart (l1++[⟨keyI (e.at_ i).id k 1,Zas e.time ((e.at_ i).fl.cl k),e.timers+1⟩])) (h3:((e.at_ i).fl.be k=0/\l3=l1++[⟨keyI (e.at_ i).id k 1,Zas e.time ((e.at_ i).fl.cl k),e.timers+1⟩])\/(0<(e.at_ i).fl.be k/\∃y l2,CanIs (l1++[⟨keyI (e.at_ i).id k 1,Zas e.time ((e.at_ i).fl.cl k),e.timers+1⟩]) (keyI (e.at_ i).id k 2) y l2/\l3=l2++[⟨keyI (e.at_ i).id k 2,Zas e.time ((e.at_ i).fl.be k),e.timers+2⟩])):TimR (pollE e q i k) l3:=by
 have hT':=Zbe.1 hT
 have hg:=hc.gone ha
 have h12:=wk.n12 hi
 have h1:=wk.runs_of hi hk (by omega)
 have hno:∀t,EngT e t->¬OwnT (e.at_ i).id k t:=fun t ht ho=>by
  rcases (ht.node wk hi hk ho).2 with⟨g,_⟩ | ⟨g,_⟩ | ⟨g,_⟩<;>omega
 have hne:∀t,EngT e t->∀v:Int,1<=v->v<=3->t.id≠keyI (e.at_ i).id k v:=fun t ht v v1 v2 e2=>hno t ht ⟨v,v1,v2,e2⟩
 have hm1:∀t,t∈l1↔EngT e t:=fun t=>by
  rw [hg,hT'.2]
  exact⟨fun h=>h.1,fun h=>⟨h,hne t h 1 (by omega) (by omega)⟩⟩
 have hr1:Rising (l1++[⟨keyI (e.at_ i).id k 1,Zas e.time ((e.at_ i).fl.cl k),e.timers+1⟩]):=rise_snoc (hc.rising hT'.1) (T:=e.timers) (fun t ht=>((hm1 t).1 ht).sq wk) (by show e.timers<e.timers+1;omega)
 have hla:=laterI_bd wk.t0 wk.tB (span:=(e.at_ i).fl.be k)
 rw [Zbe]
 rcases h3 with⟨b0,rfl⟩ | ⟨b0,y,l2,hc2,rfl⟩
 ·refine⟨hr1,fun t=> ?_⟩
  rw [List.mem_append,List.mem_singleton,hm1,Zdv wk hi hk (f:=pollF e i k) (e':=pollE e q i k) rfl]
  constructor
  ·rintro (h | rfl)
   ·exact Or.inl ⟨h,hno t h⟩
   ·exact Or.inr ⟨h1,Or.inl ⟨rfl,rfl⟩⟩
  ·rintro (h | ⟨_,h⟩)
   ·exact Or.inl h.1
   ·rcases h with⟨_,g⟩ | ⟨g,_⟩ | ⟨_,g,_⟩
    ·exact Or.inr g
    ·cases g
    ·simp only [pollF] at g
     rw [if_neg (by omega)] at g
     omega
 ·have hg2:=hc2.gone ha2
  have hm2:∀t,t∈l2↔EngT e t\/t=⟨keyI (e.at_ i).id k 1,Zas e.time ((e.at_ i).fl.cl k),e.timers+1⟩:=fun t=>by
   rw [hg2,List.mem_append,List.mem_singleton,hm1]
   refine⟨fun h=>h.1,fun h=>⟨h,fun e2=> ?_⟩⟩
   rcases h with h | rfl
   ·exact hne t h 2 (by omega) (by omega) e2
   ·have:=(keyI_inj e2 (by omega) (by omega) (by omega) (by omega)).2.2
    omega
  refine⟨rise_snoc (hc2.rising hr1) (T:=e.timers+1) (fun t ht=> ?_) (by show e.timers+1<e.timers+2;omega),fun t=> ?_⟩
  ·rcases (hm2 t).1 ht with h | rfl
   ·have:=h.sq wk;omega
   ·exact Int.le_refl _
  ·rw [List.mem_append,List.mem_singleton,hm2,Zdv wk hi hk (f:=pollF e i k) (e':=pollE e q i k) rfl]
   constructor
   ·rintro ((h | rfl) | rfl)
    ·exact Or.inl ⟨h,hno t h⟩
    ·exact Or.inr ⟨h1,Or.inl ⟨rfl,rfl⟩⟩
    ·refine Or.inr ⟨h1,Or.inr (Or.inr ⟨rfl,?_,?_⟩)⟩
     ·simp only [pollF];rw [if_pos b0];have:=(hla (by omega)).2.1;omega
     ·simp only [pollF];rw [if_pos b0,if_pos b0]
   ·rintro (h | ⟨_,h⟩)
    ·exact Or.inl (Or.inl h.1)
    ·rcases h with⟨_,g⟩ | ⟨g,_⟩ | ⟨_,_,g⟩
     ·exact Or.inl (Or.inr g)
     ·cases g
     ·simp only [pollF] at g
      rw [if_pos b0,if_pos b0] at g
      exact Or.inr g
end Go.Proofs.YtgdcjccbdmcebabGreatDoor
