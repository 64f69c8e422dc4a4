import Derived.Test.YtgdcjccbdmcebabGreatDoorM35
set_option linter.unusedSimpArgs false
set_option linter.unusedVariables false
namespace Go.Proofs.YtgdcjccbdmcebabGreatDoor
open Go.RowKit
set_option maxRecDepth 100000
attribute [local go_sem ↓] Go.wp_at_zero Go.wp_at_succ
structure AdvK (w:World)(P B:Nat)(ob:Option Nat)(e:EngD)(rs:List RnM)(tt n:Nat)(ej:EngD)(rj:List RnM)(lj:List Tm)(oj:Option Nat)(wr:World):Prop where
 x:KpX wr P B oj ej rj lj
 tim:TimR ej lj
 ok:EngOk ej
 now:ej.time=(n:Int)
 le:n<=tt
 goes:∀e2,HapR tt ej e2->HapR tt e e2
 sb:SameB rs rj
 kf:KF w wr P B ob
 obt:ObTo w ob oj
 tab:TabIn wr
 lr:ej.lastRun=e.lastRun
 sd:ej.seed=e.seed
theorem TabIn.at_ {w w':World}(h:TabIn w)(hf:w'.heap[2]? =w.heap[2]?):TabIn w':=fun j hj=>(World.cell?_of_block (a:=⟨2,j,none⟩) hf).trans (h j hj)
theorem TabIn.kf {w w':World}{P B:Nat}{ob:Option Nat}(h:TabIn w)(hf:KF w w' P B ob)(h1:2<B)(h2:2≠P):TabIn w' :=
 h.at_ (hf.block _ (World.block_lt_of_cell? _ _ (h 0 (by decide))) h2 (Or.inl h1))
theorem AdvK.wheel {w wr w':World}{P B:Nat}{ob oj:Option Nat}{e ej:EngD}{rs rj:List RnM}{tt n m:Nat}{lj:List Tm}(h:AdvK w P B ob e rs tt n ej rj lj oj wr)(hf:PF wr w' P B noK)(hw:WhAt w' P B noK m lj)(h1:n<=m)(h2:m<=tt)(h3:m<=4611686018427387904)(hd:∀x∈lj,(m:Int)<=x.tm)(hG:2<B)(hGP:2≠P):AdvK w P B ob e rs tt m { ej with time:=(m:Nat) } rj lj oj w':=by
 have hdue:=h.tim.at_least hd
 have hkf:=KF.of_pf hf oj
 exact⟨h.x.wheel hf hw,h.tim.same rfl,h.ok.at_time (by rw [h.now];omega) (by omega) hdue,rfl,h2,fun e2 he=>h.goes e2 (he.onward (by rw [h.now];omega) hdue),h.sb,h.kf.trans hkf h.obt,h.obt,h.tab.kf hkf hG hGP,h.lr,h.sd⟩
set_option maxHeartbeats 16000000 in
theorem kadvance_any (w:World)(P B:Nat)(ob:Option Nat)(e:EngD)(rs:List RnM)(l:List Tm)(ticks:Int)(h:KpX w P B ob e rs l)(hT:TimR e l)(ok:EngOk e)(hTab:TabIn w)(hG:2<B)(hGP:2≠P)(h0:0<=ticks)(h1:ticks<18446744073709551616)(hlr:e.lastRun<18446744073709551616)(hsd:0<=e.seed/\e.seed<18446744073709551616) :
  Calls Tryz.prog 103 #[.pointer (some ⟨P,11,none⟩), .int .u64 ticks, .func (.func 104) #[.pointer (some ⟨P,4,none⟩)] #[]] w fun x w'=>x= .returned (.tuple #[])/\∃e2 rs' l' ob',TickR e ticks e2/\KpX w' P B ob' e2 rs' l'/\SameB rs rs'/\TimR e2 l'/\KF w w' P B ob/\ObTo w ob ob':=by
 obtain⟨now,hnow,hwh⟩:=h.time
 obtain⟨tt,htt⟩:∃tt:Nat,e.upTo ticks=(tt:Int):=⟨(e.upTo ticks).toNat,by have:=hwh.now_;unfold EngD.upTo;split<;>omega⟩
 have hntt:now<=tt:=by have:=hwh.now_;unfold EngD.upTo at htt;split at htt<;>omega
 have htm:tt<=4611686018427387904:=by have:=hwh.now_;unfold EngD.upTo at htt;split at htt<;>omega
 have e1:IntKind.u64.wrap (4611686018427387904 - (now:Int))=4611686018427387904 - (now:Int):=by have:=hwh.now_;rw [IntKind.wrap_u64];omega
 have e2:IntKind.u64.wrap ((now:Int)+min ticks (4611686018427387904 - (now:Int)))=(tt:Int):=by
  have:=hwh.now_
  rw [IntKind.wrap_u64,<-htt]
  unfold EngD.upTo
  rw [hnow]
  split<;>omega
 have c0:=hwh.now0
 have HIN0:=Hid.mk (show AdvK w P B ob e rs tt now e rs l ob w from⟨h,hT,ok,hnow,hntt,fun _ h=>h,SameB.refl _,KF.refl _ _ _ _,ObTo.refl _ _,hTab,rfl,rfl⟩)
 have HTT:=Hid.mk htt
 clear h hT ok hTab hwh hnow htt
 go_enter Tryz.func103,Tryz.ntmps103
 go_wp2_with fail
 go_region
 all_goals
  have HIN:Hid (AdvK w P B ob e rs tt now e rs l ob w.drew):=Hid.mk (by
   have hI:=HIN0.out
   have hb:Below w.heap.size w w.drew:=(Below.refl _ _).drew
   exact { hI with x:=hI.x.below hb,kf:=KF.of_below P B ob hb,tab:=fun j hj=>hI.tab j hj })
  clear c0 e1 e2
  go_wp2_with fail
  go_loopg [7] (e.load * 200000+todo now l) (fun gk _ wr=>∃(n:Nat) (ej:EngD) (rj:List RnM) (lj:List Tm) (oj:Option Nat),gk=ej.load * 200000+todo n lj/\AdvK w P B ob e rs tt n ej rj lj oj wr)
  case atStart=>exact⟨now,e,rs,l,ob,rfl,HIN.out⟩
  case round =>
   obtain⟨n,ej,rj,lj,oj,rfl,hrel⟩:=hrel
   have HR:=Hid.mk hrel
   clear hrel
   have hwh:WhAt wr P B noK n lj:=by
    obtain⟨n',q1,q2⟩:=HR.out.x.time
    obtain rfl:n=n':=by have:=HR.out.now;omega
    exact q2
   have HWH:=Hid.mk hwh
   obtain⟨dm2,rw2,wd2,hp2,hdue2,hw2⟩:=hwh.mem
   have hfst:=first_any wr P B noK n dm2 rw2 (Zaf n lj) wd2 hp2 (fun j hj=>(hw2 j hj).1) HR.out.tab
   have HF:=Hid.mk hfst
   have HM2:=Hid.mk (And.intro hp2 (And.intro hdue2 hw2))
   have hnn:=hwh.now_
   have hntt2:=HR.out.le
   clear hwh hp2 hdue2 hw2 hfst
   go_upto_region 2 with (go_at_call 149;refine HF.out.mono ?_;rintro e w1 ⟨L,s,ok,rfl,hfw,hw1⟩;rw [hw1])
   have HFW:=Hid.mk hfw
   have c0:=HM2.out.1.c0
   have f0:=HM2.out.1.fz 11
   cases ok with
   | false =>
    have hl0:=Hid.mk (none_of HM2.out.2.2 HWH.out.later hnn hfw)
    clear hfw
    go_wp2_with fail
    refine bodyPost_ret (results_none rfl _ _ _) rfl ?_
    have hl:=hl0.out
    subst hl
    have hR:=HR.out.wheel (PF.setP wr P B noK 11 (.int .u64 tt) (by omega)) (HWH.out.setNow (m:=tt) (fun t ht=>by cases ht) (fun t ht=>by cases ht) htm) hntt2 (Nat.le_refl _) htm (fun x hx=>by cases hx) hG hGP
    refine⟨rfl,{ ej with time:=(tt:Nat) },rj,[],oj,?_,hR.x,hR.sb,hR.tim,hR.kf,hR.obt⟩
    unfold TickR
    rw [HTT.out]
    refine hR.goes _ (.none _ (fun b hb=> ?_))
    have:=hR.tim.none rfl
    rw [this] at hb
    cases hb
   | true =>
    obtain⟨hL11,hs64,hfs⟩:=fst_of HM2.out.2.2 hfw
    obtain⟨k,hk⟩:∃k,k=L * 64+s:=⟨_,rfl⟩
    obtain⟨st,hst⟩:∃st,st=start n k:=⟨_,rfl⟩
    rw [<-hk] at hfs
    obtain⟨b1,b2,b3⟩:=fst_start HWH.out.later hfs
    rw [<-hst] at b1 b2 b3
    have hstart:∀wx:World,wx.cell? ⟨P,11,none⟩=some (.int .u64 n)->Calls Tryz.prog 150 #[.pointer (some ⟨P,11,none⟩), .int .i64 L, .int .i64 s] wx fun e w'=>e= .returned (.int .u64 (start n (L * 64+s)))/\∃q,w'=wx.drewN q:=fun wx cx=>start_any wx P n L s cx (by omega) (by omega) hs64 (by rw [<-hk,<-hst];omega)
    rw [<-hk,<-hst] at hstart
    have HST:=Hid.mk hstart
    have HS:=Hid.mk (And.intro hfs (And.intro b3 (And.intro hk hst)))
    clear hfw hfs b3 hk hst hstart
    by_cases h2:tt<st
    ·go_wp2_with (go_at_call 150;refine (HST.out wr c0).mono ?_;rintro e w2 ⟨rfl,q,rfl⟩)
     refine bodyPost_ret (results_none rfl _ _ _) rfl ?_
     have hS:=HS.out
     have hbq:Below wr.heap.size wr (wr.drewN q):=below_drewN wr q
     have hwq:WhAt (wr.drewN q) P B noK n lj:=HWH.out.keep hbq
     have hR:=HR.out.wheel ((PF.of_below hbq).trans (PF.setP _ P B noK 11 (.int .u64 tt) (by omega))) (hwq.setNow (m:=tt) (fun t ht=>wait_stay hS.1 hntt2 (by rw [<-hS.2.2.2];exact h2) ht) (fun t ht=>⟨by have:=hS.2.1 t ht;omega,(HWH.out.later t ht).2⟩) htm) hntt2 (Nat.le_refl _) htm (fun x hx=>by have:=hS.2.1 x hx;omega) hG hGP
     refine⟨rfl,{ ej with time:=(tt:Nat) },rj,lj,oj,?_,hR.x,hR.sb,hR.tim,hR.kf,hR.obt⟩
     unfold TickR
     rw [HTT.out]
     refine hR.goes _ (.none _ (fun b hb=> ?_))
     have:=hR.tim.at_least (t:=st) hS.2.1 _ (best_min hb).1
     omega
    ·have g1:decide ((tt:Int)<(st:Int))=false:=decide_eq_false (by omega)
     go_upto_region 4 with (go_at_call 150;refine (HST.out wr c0).mono ?_;rintro e w2 ⟨rfl,q,rfl⟩)
     have hbq:Below wr.heap.size wr (wr.drewN q):=below_drewN wr q
     go_upto_region 5 with (go_at_call 150;refine (HST.out (wr.drewN q) c0).mono ?_;rintro e w3 ⟨rfl,q2,rfl⟩)
     have hbq3:Below wr.heap.size wr (wr.drewN (q+q2)):=below_drewN wr _
     have HP5:=Hid.mk ((HM2.out.1.keep hbq3).setNow st)
     have HD5:Hid (DueAt ((wr.drewN (q+q2)).setCell ⟨P,11,none⟩ (.int .u64 st)) B dm2 lj):=Hid.mk (HM2.out.2.1.kept (fun k es c hk e=>(Below.heap_setCell (wr.drewN (q+q2)) ⟨P,11,none⟩ _ k (by simp;have:=HM2.out.1.pb;omega)).trans rfl))
     have HF5:Hid (PF wr ((wr.drewN (q+q2)).setCell ⟨P,11,none⟩ (.int .u64 st)) P B noK):=Hid.mk ((PF.of_below hbq3).trans (PF.setP _ P B noK 11 _ (by omega)))
     clear hbq hbq3 c0 f0
     generalize (wr.drewN (q+q2)).setCell ⟨P,11,none⟩ (.int .u64 st)=w5 at *
     have hk704:k<704:=by have:=HS.out.2.2.1;omega
     rcases HD5.out with⟨_,hl0⟩ | ⟨bm,D,rfl,hbm,hm,hD⟩
     ·exfalso
      exact HS.out.1.2 (by rw [hl0];rfl)
     have HMD:=Hid.mk (And.intro hm hD)
     have hap:=HWH.out.apart
     have hids:=HWH.out.ids
     have hlat:=HWH.out.later
     have hfew:=HWH.out.few
     clear hm hD
     by_cases hL0:L=0
     ·obtain⟨b,hb,hbest,htb,hplb,r0,hplc,_⟩:=fst_low hlat HS.out.1 (by have:=HS.out.2.2.1;omega)
      rw [<-HS.out.2.2.2] at htb
      have hst2:Zaf st lj=Zaf n lj:=by
       funext j
       exact placed_congr (fun t ht=>by rw [HS.out.2.2.2];exact low_stay HS.out.1 (by have:=HS.out.2.2.1;omega) ht) j
      obtain⟨id,hid⟩:∃x,x=(lj.getD b .z).id:=⟨_,rfl⟩
      obtain⟨r,nd,qk,hko⟩:∃r nd qk,KeyOk r nd qk id:=⟨_,_,_,KeyOk.of (by rw [hid];exact hids b hb)⟩
      obtain⟨i,hi,hi2,hi3,hcut⟩:=placed_cut_all (n:=st) (tn:=st) hb hap (by omega)
      rw [<-hid] at hi2 hi3 hplc
      have hp5:=HP5.out
      rw [<-hst2] at hp5
      have hwh5:WhAt w5 P B noK st lj:=⟨⟨_,rw2,wd2,hp5,Or.inr ⟨bm,D,rfl,hbm,HMD.out⟩,by rw [hst2];exact HM2.out.2.2⟩,b2,hfew,fun t ht=>⟨HS.out.2.1 t ht,(hlat t ht).2⟩,hids,hap⟩
      have HWH5:=Hid.mk hwh5
      obtain⟨a,c,hv⟩:=Za3 (HP5.out.own k hk704)
      have m1:=HP5.out.at_ (L:=L) (s:=s) HS.out.2.2.1.symm hk704
      obtain⟨nn,hnn2⟩:∃nn,nn=(Zaf n lj k).length:=⟨_,rfl⟩
      have hnn3:0<nn:=by rw [hnn2,hplc];simp
      rw [<-hnn2] at hv
      rw [hv] at m1
      have hown:=HP5.out.own k hk704
      rw [hv,<-hnn2] at hown
      have hcell:∃g,a=some ⟨g,0,none⟩/\(w5.cell? ⟨g,0,none⟩=some (.int .u64 r)/\w5.cell? ⟨g,1,none⟩=some (.int .i64 nd))/\w5.cell? ⟨g,2,none⟩=some (.int .i64 qk):=by
       rcases hown.2 with⟨_,e2⟩ | ⟨g,cap,cur,e2,_⟩
       ·omega
       ·obtain⟨e1,_,e3⟩:a=some ⟨g,0,none⟩/\nn=nn/\c=cap:=by simpa using e2
        subst e1
        have e4:0<(Zaf n lj k).length:=by omega
        have e3:(Zaf n lj k).getD 0 0=id:=by rw [hplc];rfl
        refine⟨g,rfl,⟨?_,?_⟩,?_⟩
        ·have:=hown.cellAt (0 * 3+0) (by omega)
         rw [idsL_at _ e4 (by omega),e3,Zcw hko] at this;exact this
        ·have:=hown.cellAt (0 * 3+1) (by omega)
         rw [idsL_at _ e4 (by omega),e3,Zcw hko] at this;exact this
        ·have:=hown.cellAt (0 * 3+2) (by omega)
         rw [idsL_at _ e4 (by omega),e3,Zcw hko] at this;exact this
      obtain⟨g,rfl,⟨x0,x1⟩,x2⟩:=hcell
      have g2:(L:Int)<11:=by omega
      have g3:(s:Int)<64:=by omega
      have g4:decide (0<L)=false:=decide_eq_false (by omega)
      have g5:(0:Int)<(nn:Int):=by omega
      have HB:=Hid.mk (And.intro hb (And.intro hbest (And.intro htb (And.intro hst2 (And.intro hid (And.intro hi (And.intro hcut (And.intro hko (And.intro hi2 hi3)))))))))
      have HL0:=Hid.mk hL0
      have HGS:Hid (g<w5.heap.size):=Hid.mk (hown.lt g rfl).2
      clear hb hbest htb hplb hplc hst2 hid hi hi2 hi3 hcut hp5 hv hown hnn2 hL0 hwh5 hko
      go_upto_region 8 with fail
      obtain⟨w6,hw6⟩:∃w6,w6=w5.alloc (.cells #[.int .u64 r, .int .i64 nd, .int .i64 qk] 183):=⟨_,rfl⟩
      obtain⟨bx,hbx⟩:∃bx,bx=w5.heap.size:=⟨_,rfl⟩
      have HBX:=Hid.mk (show KBox w6 bx r nd qk by rw [hw6,hbx];exact box_new w5 r nd qk)
      have hblk:w6.heap[bx]? =some (.cells #[.int .u64 r, .int .i64 nd, .int .i64 qk] 183 (0,0)):=by rw [hw6,hbx];exact heap_alloc_new w5 _
      have HB6:Hid (Below w5.heap.size w5 w6):=Hid.mk (by rw [hw6];exact (Below.refl _ _).alloc (Nat.le_refl _) _)
      have HW6:=Hid.mk (HWH5.out.boxes (K:=fun z=>z=bx) HB6.out (fun z hz=>by subst hz;exact⟨by omega,_,_,hblk⟩))
      have HBK:=Hid.mk hblk
      rw [<-hw6,<-hbx]
      have HBXE:=Hid.mk hbx
      obtain⟨⟨z0,z1⟩,z2⟩:=HBX.out
      clear hw6 hbx hblk x0 x1 x2 m1
      obtain⟨dm6,rw6,wd6,hp6,hdue6,hww6⟩:=HW6.out.mem
      rcases hdue6 with⟨_,hl0⟩ | ⟨bm6,D6,rfl,hbm6,hm6,hD6⟩
      ·exfalso
       have:=HB.out.1
       rw [hl0] at this
       simp at this
      have HP6:=Hid.mk hp6
      have HMD6:=Hid.mk (And.intro hm6 hD6)
      have HWW6:=Hid.mk hww6
      have hdrop:=drop_any w6 P B (fun z=>z=bx) st st rw6 (Zaf st lj) wd6 bm6 i D6 id r nd qk hp6 hm6 hbm6 HB.out.2.2.2.2.2.2.2.1 (by rw [HB.out.2.2.2.2.1,<-HB.out.2.2.1];exact hD6.tm b HB.out.1) b2 b2 (fun j hj=>(hww6 j hj).1) (by have:=Zct st lj (pl st st);omega) HB.out.2.2.2.2.2.1 HB.out.2.2.2.2.2.2.2.2.1 HB.out.2.2.2.2.2.2.2.2.2
      have HDROP:=Hid.mk hdrop
      clear hp6 hm6 hD6 hww6 hdrop
      go_upto_region 9 with (go_at_call 152;refine HDROP.out.mono ?_;rintro e w7 ⟨rfl,v',x',hp',hx,hm',hf'⟩;have HN:=Hid.mk (And.intro hp' (And.intro hx (And.intro hm' hf')));clear hp' hx hm' hf')
      have hPb:P≠bx:=by have:=HP5.out.pb;have:=HP5.out.bs;have:=HBXE.out;omega
      have HBX7:=Hid.mk (HBX.out.at_ (HN.out.2.2.2.block bx HBX.out.lt (Ne.symm hPb) (Or.inl (Or.inr rfl))))
      obtain⟨⟨y0,y1⟩,y2⟩:=HBX7.out
      have c07:=HN.out.1.c0
      clear z0 z1 z2
      obtain⟨hb,hbest,htb,hst2,hid,hi,hcut,hko,hi2,hi3⟩:=HB.out
      obtain⟨cd,hc1,hc2⟩:=HR.out.tim.best hbest
      obtain⟨d,hdd⟩:∃d,d=ej.dues.getD cd .z:=⟨_,rfl⟩
      have hdue:=best_min hc1
      rw [<-hdd] at hc2 hdue
      have htm2:d.tm=(st:Int):=by rw [<-htb,<-hc2];rfl
      obtain⟨e5,he5⟩:∃e5,e5=({ ej with time:=(st:Nat) }:EngD):=⟨_,rfl⟩
      have hwh7:WhAt w7 P B (fun z=>z=bx) st (lj.take b++lj.drop (b+1)):=wh_drop hb (tn:=st) (by omega) b2 hfew HW6.out.later hids hap HMD6.out.2 (HMD6.out.1.tidy lawK) hbm6 HWW6.out hi hcut HN.out.1 HN.out.2.1 (by rw [<-hid];exact HN.out.2.2.1)
      have hpf7:PF wr w7 P B noK:=(HF5.out.trans (PF.of_below HB6.out)).trans HN.out.2.2.2.weak
      have hX7:KpX w7 P B oj e5 rj (lj.take b++lj.drop (b+1)):=by rw [he5];exact HR.out.x.wheel hpf7 hwh7.weak
      have hR5:=HR.out.wheel HF5.out HWH5.out b1 (by omega) b2 HS.out.2.1 hG hGP
      rw [<-he5] at hR5
      have hd5:DueE e5 d:=by rw [he5];exact hdue.1
      have hT5:TimD e5 d (lj.take b++lj.drop (b+1)):=hR5.tim.drop_ hap hb (by rw [<-hc2,he5];rfl)
      have hkey:KeyOk r nd qk (e5.tmOf d).id:=by
       have:(e5.tmOf d).id=id:=by rw [hid,<-hc2,he5];rfl
       rw [this];exact hko
      have HHAP:=Hid.mk (fun (wx:World) (hb:Below w7.heap.size w7 wx)=>khappen_any wx P B oj e5 rj _ d r nd qk st (hX7.below hb) hR5.ok.wk hd5 (by rw [he5,htm2]) hT5 hkey (by rw [hR5.lr];exact hlr) (by rw [hR5.sd];exact hsd))
      have HD:=Hid.mk (And.intro hpf7 (And.intro hR5 (And.intro hd5 (And.intro he5 (And.intro hc1 (And.intro hdd (And.intro htm2 hdue.2)))))))
      clear hb hbest htb hst2 hid hi hcut hko hi2 hi3 hc1 hc2 hdd hdue htm2 he5 hwh7 hpf7 hX7 hR5 hd5 hT5 hkey
      go_region_with (go_at_call 104;refine (HHAP.out _ ((Below.refl _ _).drew)).mono ?_;rintro _ w8 ⟨rfl,hx⟩;have HX8:=Hid.mk hx;clear hx)
      all_goals go_wp2_with fail
      all_goals
       obtain⟨r8,l8,o8,hx8,hsb8,ht8,hkf8,hot8⟩:=HX8.out
       obtain⟨hpf7,hR5,hd5,he5,hc1,hdd,htm2,hmin⟩:=HD.out
       have hc5:bestT e5.dues e5.dues.length=some cd:=by rw [he5];exact hc1
       have hd5e:d=e5.dues.getD cd .z:=by rw [hdd,he5];rfl
       have hmin5:∀x,DueE e5 x->d.tm<=x.tm:=fun x hx=>hmin x (by rw [he5] at hx;exact hx)
       have hnum:=happens_nums e5 d
       have hld:=load_happens hR5.ok hd5 hmin5
       have hle5:e5.load=ej.load:=by rw [he5];rfl
       have hkf7:=(KF.of_pf hpf7 oj).trans (KF.of_below P B oj ((Below.refl w7.heap.size w7).drew)) (ObTo.refl _ _)
       have hok8:=hR5.ok.happens hd5 hmin5
       have hn8:(e5.happens d).time=(st:Int):=by rw [hnum.1,hR5.now,htm2];exact Int.max_self _
       have HREL:Hid (AdvK w P B ob e rs tt st (e5.happens d) r8 l8 o8 w8):=Hid.mk (by
        refine⟨hx8,ht8,hok8,hn8,by omega,fun e2 he2=>hR5.goes e2 (.step e5 e2 cd hc5 (by rw [<-hd5e];omega) (by rw [<-hd5e];exact he2)),HR.out.sb.trans hsb8,(HR.out.kf.trans hkf7 HR.out.obt).trans hkf8 HR.out.obt,HR.out.obt.trans hot8 ?_,(HR.out.tab.kf hkf7 hG hGP).kf hkf8 hG hGP,by rw [hnum.2.1,hR5.lr],by rw [hnum.2.2,hR5.sd]⟩
        exact (HR.out.kf.trans hkf7 HR.out.obt).size)
       have HME:Hid ((e5.happens d).load * 200000+todo st l8<ej.load * 200000+todo n lj):=Hid.mk (by
        have hw8:WhAt w8 P B noK st l8:=by
         obtain⟨n',q1,q2⟩:=hx8.time
         obtain rfl:st=n':=by omega
         exact q2
        have:=todo_bd b2 l8 hw8.later
        have:=ht8.few hok8.wk
        have:=hld.1
        omega)
       clear hx8 hsb8 ht8 hkf8 hot8 hpf7 hR5 hd5 he5 hc1 hdd htm2 hmin hc5 hd5e hmin5 hnum hld hle5 hkf7 hok8 hn8
       go_roundg ((e5.happens d).load * 200000+todo st l8)
       case rel=>exact⟨st,_,_,_,_,rfl,HREL.out⟩
       case measure=>exact HME.out
     ·have g4:decide (0<L)=true:=decide_eq_true (by omega)
      have HL0:=Hid.mk hL0
      clear hL0
      have hk64:64<=k:=by have:=HS.out.2.2.1;have:=HL0.out;omega
      obtain⟨nn,hnn2⟩:∃nn,nn=(memb n lj k).length:=⟨_,rfl⟩
      have hnn3:nn<=200:=by
       have:=Zct n lj k
       have e:(Zaf n lj k).length=nn:=by rw [placed_memb,hnn2];simp
       omega
      have hsp:=spread_any w5 P B noK st L s nn rw2 (Zaf n lj) wd2 bm D (memb n lj k) HP5.out HMD.out.1 hbm hL11 hs64 HM2.out.2.2 (by rw [<-HS.out.2.2.1];rfl) hnn2
       (fun i hi=>by obtain⟨j,hj,e,_⟩:=memb_at (n:=n) (l:=lj) (k:=k) (i:=i) (by omega);rw [<-e];exact hids j hj)
       (fun i hi=>by obtain⟨j,hj,e,_⟩:=memb_at (n:=n) (l:=lj) (k:=k) (i:=i) (by omega);rw [<-e];exact HMD.out.2.tm j hj)
       (fun i hi=>by obtain⟨j,hj,e,_⟩:=memb_at (n:=n) (l:=lj) (k:=k) (i:=i) (by omega);rw [<-e];have:=hlat _ (Zb4 hj);omega)
       b2 (fun j=>by have:=Zct n lj j;omega)
      have HSP:=Hid.mk hsp
      clear hsp hnn2
      go_wp2_with (go_at_call 151;refine HSP.out.mono ?_;rintro e w6 ⟨rfl,rw6,ls6,wd6,hp6,hm6,hf6,hw6,hls6⟩;have HN:=Hid.mk (And.intro hp6 (And.intro hm6 (And.intro hf6 (And.intro hw6 hls6))));clear hp6 hm6 hf6 hw6 hls6)
      obtain⟨hp6,hm6,hf6,hw6,hls6⟩:=HN.out
      have els:ls6=Zaf st lj:=by
       funext j
       rw [hls6 j,HS.out.2.2.2,high_placed HS.out.1 hk64 j,<-HS.out.2.2.1]
       rfl
      subst els
      have hwh6:WhAt w6 P B noK st lj:=⟨⟨_,rw6,wd6,hp6,Or.inr ⟨bm,D,rfl,hbm,hm6,HMD.out.2⟩,hw6⟩,b2,hfew,fun t ht=>⟨HS.out.2.1 t ht,(hlat t ht).2⟩,hids,hap⟩
      have HREL:=Hid.mk (HR.out.wheel (HF5.out.trans hf6) hwh6 b1 (by omega) b2 HS.out.2.1 hG hGP)
      have HME:Hid (ej.load * 200000+todo st lj<ej.load * 200000+todo n lj):=Hid.mk (by
       have:=todo_fall HS.out.1 hk64
       rw [<-HS.out.2.2.2] at this
       omega)
      clear hp6 hm6 hf6 hw6 hls6 hwh6
      go_roundg (ej.load * 200000+todo st lj)
      case rel=>exact⟨st,{ ej with time:=(st:Nat) },_,_,_,rfl,HREL.out⟩
      case measure=>exact HME.out
def KTy (t:TypeId):Prop:=t=183\/t=180\/t=173\/t=178\/t=189\/t=3\/t=39\/t=34\/t=31\/t=43
structure NF (w w':World)(P B:Nat):Prop where
 size:w.heap.size<=w'.heap.size
 cell:∀o,4<=o->w'.cell? ⟨P,o,none⟩=w.cell? ⟨P,o,none⟩
 froz:∀o,w'.frozen? ⟨P,o,none⟩=w.frozen? ⟨P,o,none⟩
 block:∀k cs t fr,B<=k->w.heap[k]? =some (.cells cs t fr)->KTy t->w'.heap[k]? =w.heap[k]?
 map:∀k es c,B<=k->w.heap[k]? =some (.map es c)->w'.heap[k]? =w.heap[k]?
theorem NF.gf {w w':World}{P B:Nat}(h:NF w w' P B):GF w { w' with heap:=w'.heap } P (fun o=>o<4) (fun k=>w'.heap[k]? ≠w.heap[k]?) :=
 ⟨h.size,fun k _ _ hS=>by simpa using hS,fun o ho=>h.cell o (by omega),h.froz⟩
theorem KpM.side {w w':World}{P B:Nat}{ob:Option Nat}{rs:List RnM}{el:List Int}{qu:List PlD}{now:Nat}{l:List Tm}{lr lt sd:Int}(h:KpM w P B ob rs el qu now l lr lt sd)(hn:NF w w' P B):KpM w' P B ob rs el qu now l lr lt sd:=by
 have g:=hn.gf
 obtain⟨ka,kc,h1⟩:=h.kn
 obtain⟨a,n,c,f,ys,h2,h2b⟩:=h.en
 obtain⟨a',n',c',f',ys',h3⟩:=h.qu
 refine⟨⟨ka,kc,h1.gf g (by omega) (fun k cs t fr hB e ht hS=>hS (hn.block k cs t fr hB e ?_))⟩,
  ⟨a,n,c,f,ys,h2.gf g (fun o _ _=>by omega) (fun k cs t fr hB e ht _ hS=>hS (hn.block k cs t fr hB e ?_)),h2b⟩,
  ⟨a',n',c',f',ys',h3.gf g (fun o _ _=>by omega) (fun k cs t fr hB e ht hS=>hS (hn.block k cs t fr hB e ?_))⟩,
  h.wh.gf g (fun o _ _=>by omega) (fun k cs t fr hB e ht hS=>hS (hn.block k cs t fr hB e ?_)) (fun k es c hB e hS=>hS (hn.map k es c hB e)),(hn.cell 728 (by omega)).trans h.lr,(hn.cell 729 (by omega)).trans h.lt,(hn.cell 730 (by omega)).trans h.sd,fun o=>(hn.froz o).trans (h.fz o)⟩
 ·unfold KTy;rcases ht with rfl | rfl | rfl | rfl<;>simp
 ·unfold KTy;subst ht;simp
 ·unfold KTy;subst ht;simp
 ·unfold KTy;subst ht;simp
theorem KpX.side {w w':World}{P B:Nat}{ob:Option Nat}{e:EngD}{rs:List RnM}{l:List Tm}(h:KpX w P B ob e rs l)(hn:NF w w' P B):KpX w' P B ob e rs l:=by
 obtain⟨el,now,h1,h2,h3⟩:=h.ex
 exact⟨⟨el,now,h1.side hn,h2,h3⟩,h.len,h.runs⟩
def KeepC (w:World)(P B fn:Nat)(cs:Array Value)(Kp:Int->World->Prop):Prop :=
 (∀wx,(callFunc fn cs).run Tryz.prog wx= .ok (.enter fn cs) wx)/\∀wx,Below w.heap.size w wx->Calls Tryz.prog fn cs wx fun x w'=>∃v,x= .returned (errV v)/\NF wx w' P B/\Kp v w'
def KOut (P B:Nat)(ob:Option Nat)(Kp:Int->World->Prop)(e e':EngD)(v:Int)(w':World):Prop:=∃w1 ob',Kp v w1/\KpAt w' P B ob' (if v=0 then e' else e)/\KF w1 w' P B ob/\ObTo w1 ob ob'
theorem Zay:errV 0= .nilIface:=rfl
theorem Zap {v:Int}(h:v≠0):errV v= .iface 36 (.int .i64 v):=if_neg h
theorem KOut.err {P B:Nat}{ob:Option Nat}{Kp:Int->World->Prop}{e e':EngD}{v:Int}{w':World}{rs:List RnM}{l:List Tm}(hv:v≠0)(hk:Kp v w')(hx:KpX w' P B ob e rs l)(ht:TimR e l):KOut P B ob Kp e e' v w':=⟨w',ob,hk,by rw [if_neg hv];exact⟨rs,l,hx,ht⟩,KF.refl _ _ _ _,ObTo.refl _ _⟩
theorem KOut.ok {P B:Nat}{ob ob':Option Nat}{Kp:Int->World->Prop}{e e':EngD}{w1 w':World}{rs:List RnM}{l:List Tm}(hk:Kp 0 w1)(hx:KpX w' P B ob' e' rs l)(ht:TimR e' l)(hf:KF w1 w' P B ob)(ho:ObTo w1 ob ob'):KOut P B ob Kp e e' 0 w':=⟨w1,ob',hk,⟨rs,l,hx,ht⟩,hf,ho⟩
set_option maxHeartbeats 8000000 in
theorem ktick_any (w:World)(P B:Nat)(ob:Option Nat)(e:EngD)(ticks:Int)(fn:Nat)(cs:Array Value)(Kp:Int->World->Prop)(h:KpAt w P B ob e)(ok:EngOk e)(hk:KeepC w P B fn cs Kp)(hTab:∀w',Kp 0 w'->TabIn w')(hG:2<B)(hGP:2≠P)(h0:0<=ticks)(h1:ticks<18446744073709551616)(hlr:e.lastRun<18446744073709551616)(hsd:0<=e.seed/\e.seed<18446744073709551616) :
  Calls Tryz.prog 61 #[.pointer (some ⟨P,4,none⟩), .int .u64 ticks, .func (.func fn) #[] cs] w fun x w'=>∃v e2,x= .returned (errV v)/\(v=0->TickR e ticks e2)/\KOut P B ob Kp e e2 v w':=by
 obtain⟨rs,l,hx,ht⟩:=h
 have H:=Hid.mk (And.intro hx ht)
 have HK:=Hid.mk hk.2
 have hcf:=hk.1 w
 clear hx ht hk
 go_enter Tryz.func61,Tryz.ntmps61
 go_upto_region 2 with (refine (HK.out w (Below.refl _ _)).mono ?_;rintro _ w1 ⟨v,rfl,hn,hkp⟩;have HN:=Hid.mk (And.intro hn hkp);clear hn hkp)
 have hX1:=H.out.1.side HN.out.1
 by_cases hv:v=0
 ·subst hv
  rw [Zay]
  have HX1:=Hid.mk hX1
  have HA:=Hid.mk (kadvance_any w1 P B ob e rs l ticks hX1 H.out.2 ok (hTab w1 HN.out.2) hG hGP h0 h1 hlr hsd)
  clear hX1 hcf
  go_wp2_with (go_at_call 103;refine HA.out.mono ?_;rintro _ w2 ⟨rfl,hx⟩;have HX:=Hid.mk hx;clear hx)
  go_ret
  obtain⟨e2,rs',l',ob',q1,q2,_,q4,q5,q6⟩:=HX.out
  exact⟨0,e2,rfl,fun _=>q1,KOut.ok HN.out.2 q2 q4 q5 q6⟩
 ·rw [Zap hv]
  have HV:=Hid.mk hv
  have HX1:=Hid.mk hX1
  clear hv hX1 hcf
  go_wp2_with fail
  go_ret
  exact⟨v,e,by rw [Zap HV.out];rfl,fun hv=>absurd hv HV.out,KOut.err HV.out HN.out.2 HX1.out H.out.2⟩
end Go.Proofs.YtgdcjccbdmcebabGreatDoor
namespace Go.Proofs.YtgdcjccbdmcebabGreatDoor
open Go.RowKit
set_option maxRecDepth 100000
attribute [local go_sem ↓] Go.wp_at_zero Go.wp_at_succ
variable {Kp:Int->World->Prop}
theorem work_of {rs:List RnM}{tok:Int}{i k:Nat}{e:EngD}(h:WorkIs rs tok (some (i,k)))(hl:rs.length=e.runs.length)(hi:∀i,i<e.runs.length->RnIs (rnAt rs i) (e.at_ i)):i<e.runs.length/\k<(e.at_ i).steps.length/\((e.at_ i).at_ k).st=3:=by
 cases h with
 | at_ _ _ h1 h2 h3 _ _ =>
  have h1':i<e.runs.length:=by omega
  have hr:=hi i h1'
  have h2':k<(e.at_ i).steps.length:=by rw [<-hr.len];exact h2
  exact⟨h1',h2',by rw [<-(hr.nd k h2').1];exact h3.1⟩
set_option maxHeartbeats 8000000 in
theorem ktask_none (w:World)(P B:Nat)(ob:Option Nat)(e:EngD)(rs:List RnM)(l:List Tm)(tok:Int)(fn:Nat)(cs:Array Value)(h:KpX w P B ob e rs l)(wk:EngWk e)(hn:e.task tok=none) :
  Calls Tryz.prog 98 #[.pointer (some ⟨P,4,none⟩), .int .u64 tok, .func (.func fn) #[] cs] w fun x w'=>x= .returned (.tuple #[.pointer none, .int .i64 0,errV 7])/\Below w.heap.size w w':=by
 obtain⟨el,now,hM,htm,hel⟩:=h.ex
 obtain⟨ka,kc,hkn⟩:=hM.kn
 have HW:Hid (Calls Tryz.prog 142 #[.pointer (some ⟨P,4,none⟩), .int .u64 tok] w fun e w'=>e= .returned (.tuple #[.pointer none, .int .i64 0, .bool false])/\Below w.heap.size w w'):=Hid.mk ((working_any w P B kc ka rs tok hkn).mono (by
  rintro x w' ⟨o,rfl,ho,hb⟩
  have:=ho.task h.len h.runs wk
  rw [hn] at this
  subst this
  exact⟨rfl,hb⟩))
 clear h wk hn hM htm hel hkn
 go_enter Tryz.func98,Tryz.ntmps98
 go_wp2_with (go_at_call 142;refine HW.out.mono ?_;rintro _ w1 ⟨rfl,hb⟩;have HB:=Hid.mk hb;clear hb)
 go_ret3
 exact⟨rfl,HB.out⟩
set_option maxHeartbeats 8000000 in
theorem ktask_some (w:World)(P B:Nat)(ob:Option Nat)(e:EngD)(rs:List RnM)(l:List Tm)(tok:Int)(i k fn:Nat)(cs:Array Value)(h:KpX w P B ob e rs l)(wk:EngWk e)(hn:e.task tok=some (i,k))(hk:KeepC w P B fn cs Kp) :
  Calls Tryz.prog 98 #[.pointer (some ⟨P,4,none⟩), .int .u64 tok, .func (.func fn) #[] cs] w fun x w'=>∃v,x= .returned (.tuple #[.pointer (some ⟨(rnAt rs i).b,0,none⟩), .int .i64 k,errV v])/\(i<e.runs.length/\k<(e.at_ i).steps.length/\((e.at_ i).at_ k).st=3)/\KpX w' P B ob e rs l/\Kp v w':=by
 obtain⟨el,now,hM,htm,hel⟩:=h.ex
 obtain⟨ka,kc,hkn⟩:=hM.kn
 have HW:Hid (Calls Tryz.prog 142 #[.pointer (some ⟨P,4,none⟩), .int .u64 tok] w fun x w'=>x= .returned (.tuple #[.pointer (some ⟨(rnAt rs i).b,0,none⟩), .int .i64 k, .bool true])/\(i<e.runs.length/\k<(e.at_ i).steps.length/\((e.at_ i).at_ k).st=3)/\Below w.heap.size w w'):=Hid.mk ((working_any w P B kc ka rs tok hkn).mono (by
  rintro x w' ⟨o,rfl,ho,hb⟩
  have:=ho.task h.len h.runs wk
  rw [hn] at this
  subst this
  exact⟨rfl,work_of ho h.len h.runs,hb⟩))
 have H:=Hid.mk h
 have HK:=Hid.mk hk.2
 have hcf0:=hk.1
 clear h wk hn hM htm hel hkn hk
 go_enter Tryz.func98,Tryz.ntmps98
 go_wp2_with (first
  | (go_at_call 142;refine HW.out.mono ?_;rintro _ w1 ⟨rfl,hw,hb⟩;have HB:=Hid.mk (And.intro hw hb);clear hw hb;have hcf:=hcf0 w1)
  | (refine (HK.out w1 HB.out.2).mono ?_;rintro _ w2 ⟨v,rfl,hn,hkp⟩;have HN:=Hid.mk (And.intro hn hkp);clear hn hkp))
 go_ret3
 exact⟨v,rfl,HB.out.1,(H.out.below HB.out.2).side HN.out.1,HN.out.2⟩
set_option maxHeartbeats 8000000 in
theorem kcfail_any (w:World)(P B:Nat)(ob:Option Nat)(e:EngD)(tok:Int)(fn:Nat)(cs:Array Value)(h:KpAt w P B ob e)(wk:EngWk e)(hk:KeepC w P B fn cs Kp)(hlr:e.lastRun<18446744073709551616)(hsd:0<=e.seed/\e.seed<18446744073709551616) :
  Calls Tryz.prog 59 #[.pointer (some ⟨P,4,none⟩), .int .u64 tok, .func (.func fn) #[] cs] w fun x w'=>(e.fail tok=none/\x= .returned (errV 7)/\Below w.heap.size w w')\/∃v e2,e.fail tok=some e2/\x= .returned (errV v)/\KOut P B ob Kp e e2 v w':=by
 obtain⟨rs,l,hx,ht⟩:=h
 cases htk:e.task tok with
 | none =>
  have hf:e.fail tok=none:=by unfold EngD.fail;rw [htk]
  have HT:=Hid.mk (ktask_none w P B ob e rs l tok fn cs hx wk htk)
  clear htk hx ht hk
  go_enter Tryz.func59,Tryz.ntmps59
  go_wp2_with (go_at_call 98;refine HT.out.mono ?_;rintro _ w1 ⟨rfl,hb⟩;have HB:=Hid.mk hb;clear hb;rw [Zap (by decide)])
  go_ret
  exact Or.inl ⟨hf,rfl,HB.out⟩
 | some ik =>
  obtain⟨i,k⟩:=ik
  have hf:e.fail tok=some (e.fails i k):=by unfold EngD.fail;rw [htk]
  have HT:=Hid.mk (ktask_some w P B ob e rs l tok i k fn cs hx wk htk hk)
  have HTI:=Hid.mk ht
  clear htk hx ht hk
  go_enter Tryz.func59,Tryz.ntmps59
  go_upto_region 2 with (go_at_call 98;refine HT.out.mono ?_;rintro _ w1 ⟨v,rfl,hw,hx,hkp⟩;have HX:=Hid.mk (And.intro hw (And.intro hx hkp));clear hw hx hkp)
  by_cases hv:v=0
  ·subst hv
   rw [Zay]
   have HF:=Hid.mk (kfail_any w1 P B ob e rs l i k HX.out.2.1 wk HX.out.1.1 HX.out.1.2.1 HX.out.1.2.2 (HTI.out.toN i k) hlr hsd)
   go_wp2_with (go_at_call 101;refine HF.out.mono ?_;rintro _ w2 ⟨rfl,hx⟩;have HX2:=Hid.mk hx;clear hx)
   go_ret
   obtain⟨rs',l',ob',q1,_,q3,q4,q5⟩:=HX2.out
   exact Or.inr ⟨0,_,hf,rfl,KOut.ok HX.out.2.2 q1 q3 q4 q5⟩
  ·rw [Zap hv]
   have HV:=Hid.mk hv
   clear hv
   go_wp2_with fail
   go_ret
   exact Or.inr ⟨v,_,hf,by rw [Zap HV.out];rfl,KOut.err HV.out HX.out.2.2 HX.out.2.1 HTI.out⟩
end Go.Proofs.YtgdcjccbdmcebabGreatDoor
