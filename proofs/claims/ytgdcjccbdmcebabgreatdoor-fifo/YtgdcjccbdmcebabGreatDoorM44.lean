import Derived.Test.YtgdcjccbdmcebabGreatDoorM43
set_option linter.unusedSimpArgs false
set_option linter.unusedVariables false
namespace Go.Proofs.YtgdcjccbdmcebabGreatDoor
open Go.RowKit
set_option maxRecDepth 100000
attribute [local go_sem ↓] Go.wp_at_zero Go.wp_at_succ
variable {Kp:Int->World->Prop}
theorem infoRp:(Tryz.prog.info? 173).map (fun i=>(i.zero,i.size,i.bytes))=some (some (.pointer none),1,8):=by kernel_rfl
theorem el_none {e:EngD}{el:List Int}(h:ElIs el e)(ho:Zc3 e.runs e.runs.length=none):el=[]:=by
 obtain⟨is,rfl,h2,_⟩:=h
 cases is with
 | nil=>rfl
 | cons a is =>
  obtain⟨q1,q2⟩:=(h2 a).1 (List.mem_cons_self ..)
  exact absurd q2 (oldest_none ho a q1)
structure Sub4 (w1 w4:World)(P B:Nat)(ob:Option Nat)(e e4:EngD)(rs4:List RnM)(l:List Tm)(F:FlowD)(a:Option Addr)(c fb:Nat)(Na:Nat->Option Addr)(Nc:Nat->Nat):Prop where
 x:KpX w4 P B ob e4 rs4 l
 ok:EngOk e4
 tim:TimR e4 l
 few:e4.runs.length<6
 kf:KF w1 w4 P B ob
 cp:CopyAt B w4 F (.slice a F.n c) F.n Na Nc
 fb:w4.heap[fb]? =some (.cells #[.int .i64 F.dl, .slice a F.n c] 31 (0,0))
 is:e.submit F=some (e4.begin F)
 lr:e4.lastRun=e.lastRun
theorem submit_room {e:EngD}{F:FlowD}(h:e.runs.length<6):e.submit F=some (e.begin F):=by unfold EngD.submit;rw [if_neg (by omega)]
theorem submit_full {e:EngD}{F:FlowD}{o:Nat}(h:e.runs.length=6)(ho:Zc3 e.runs e.runs.length=some o):e.submit F=some ((e.cut o).begin F):=by unfold EngD.submit;rw [if_pos h,ho];rfl
theorem submit_many {e:EngD}{F:FlowD}(h:e.runs.length=6)(ho:Zc3 e.runs e.runs.length=none):e.submit F=none:=by unfold EngD.submit;rw [if_pos h,ho]
theorem kf_flow {w w':World}{P B fb:Nat}{ob:Option Nat}{cs:Array Value}{fr:Nat×Nat}(hf:KF w w' P B ob)(h:w.heap[fb]? =some (.cells cs 31 fr))(hP:fb≠P):w'.heap[fb]? =w.heap[fb]? :=hf.block fb (Zaa h) hP (Or.inr ⟨_,_,_,h,by decide,by decide,by decide,by decide,by decide,fun x=>absurd x (by decide)⟩)
set_option maxHeartbeats 16000000 in
theorem ksubmit_any (w:World)(P B:Nat)(ob:Option Nat)(e:EngD)(F:FlowD)(a:Option Addr)(c:Nat)(Na:Nat->Option Addr)(Nc:Nat->Nat)(fn:Nat)(cs:Array Value)(h:KpAt w P B ob e)(ok:EngOk e)(hF:FlOk F)(hcp:CopyAt B w F (.slice a F.n c) F.n Na Nc)(hk:KeepC w P B fn cs Kp)(hlr:e.lastRun<18446744073709551615) :
  Calls Tryz.prog 53 #[.pointer (some ⟨P,4,none⟩), .agg #[.int .i64 F.dl, .slice a F.n c], .func (.func fn) #[] cs] w fun x w'=>(e.submit F=none/\x= .returned (.tuple #[.int .u64 0,errV 5])/\Below w.heap.size w w')\/∃v e2,e.submit F=some e2/\x= .returned (.tuple #[.int .u64 (if v=0 then e.lastRun+1 else 0),errV v])/\KOut P B ob Kp e e2 v w':=by
 obtain⟨rs,l,hx,ht⟩:=h
 obtain⟨w0,hw0⟩:∃w0,w0=w.alloc (.cells #[.int .i64 F.dl, .slice a F.n c] 31):=⟨_,rfl⟩
 obtain⟨fb,hfb⟩:∃fb,fb=w.heap.size:=⟨_,rfl⟩
 have hB0:Below w.heap.size w w0:=by rw [hw0];exact (Below.refl _ _).alloc (Nat.le_refl _) _
 have hblk:w0.heap[fb]? =some (.cells #[.int .i64 F.dl, .slice a F.n c] 31 (0,0)):=by rw [hw0,hfb];exact heap_alloc_new w _
 have hx0:=hx.below hB0
 obtain⟨el,now,hM,htm,hel⟩:=hx0.ex
 obtain⟨ka,kc,hkn⟩:=hM.kn
 obtain⟨ea,en,ec,ef,eys,hen,heb⟩:=hM.en
 have c4:=hkn.c
 have c7:=hen.c2
 have hPB:=hM.pb
 have hPf:fb≠P:=by have:=hx.ex;obtain⟨_,_,hM',_⟩:=this;have:=hM'.pl;omega
 obtain⟨n,hn⟩:∃n,n=rs.length:=⟨_,rfl⟩
 have hne:n=e.runs.length:=by rw [hn];exact hx.len
 rw [<-hn] at c4
 have h6:n<=6:=by rw [hne];exact ok.wk.six
 have hfbB:B<=fb:=by have:=hx.ex;obtain⟨_,_,hM',_⟩:=this;have:=hM'.pb;omega
 have HK:=Hid.mk (hk.2 w0 hB0)
 have hcf:=hk.1 w0
 have HX0:=Hid.mk (And.intro hx0 (And.intro (hcp.below hB0) (And.intro hblk (And.intro hPf (And.intro hfbB hel)))))
 have HW0:=Hid.mk (And.intro hfb (And.intro hw0 hB0))
 have HL:=Hid.mk hlr
 have HEl:=Hid.mk hel
 have HEM:=Hid.mk (emptyTU_any w0 P el.length c7)
 have HPB:=Hid.mk hPB
 have HT:=Hid.mk ht
 have HE:=Hid.mk hne
 clear hx hk hcp hx0 hM htm hel hkn hen heb hfb hw0 hB0 hblk hPf hfbB hlr c7 hPB ht hn
 by_cases hfull:n=6
 ·subst hfull
  cases ho:Zc3 e.runs e.runs.length with
  | none =>
   have hnil:=el_none HEl.out ho
   have hr:=submit_many (F:=F) HE.out.symm ho
   have HEM':Hid (Calls Tryz.prog 84 #[.pointer (some ⟨P,5,none⟩)] w0 fun x w'=>x= .returned (.bool true)/\w'=w0):=Hid.mk (by have:=HEM.out;rw [hnil] at this;exact this)
   have HR:=Hid.mk hr
   clear hr hnil ho hcf hne
   go_enter Tryz.func53,Tryz.ntmps53
   go_upto_region 1 with fail
   rw [<-HW0.out.1,<-HW0.out.2.1]
   go_wp2_with (go_at_call 84;refine HEM'.out.mono ?_;rintro _ w1 ⟨rfl,hw1⟩;rw [hw1])
   go_ret2
   exact Or.inl ⟨HR.out,by rw [Zap (by decide)];rfl,HW0.out.2.2⟩
  | some o =>
   obtain⟨el',hel',_⟩:=HEl.out.first ok.wk ho
   have HEM':Hid (Calls Tryz.prog 84 #[.pointer (some ⟨P,5,none⟩)] w0 fun x w'=>x= .returned (.bool false)/\w'=w0):=Hid.mk (by have:=HEM.out;rw [hel'] at this;exact this)
   have HR:=Hid.mk (submit_full (F:=F) HE.out.symm ho)
   have HO:=Hid.mk ho
   clear hel' ho hne
   go_enter Tryz.func53,Tryz.ntmps53
   go_upto_region 1 with fail
   rw [<-HW0.out.1,<-HW0.out.2.1]
   go_upto_region 5 with (first
    | (go_at_call 84;refine HEM'.out.mono ?_;rintro _ w1 ⟨rfl,hw1⟩;rw [hw1])
    | (refine HK.out.mono ?_;rintro _ w1 ⟨v,rfl,hn,hkp⟩;have HN:=Hid.mk (And.intro hn hkp);clear hn hkp))
   have hX1:=HX0.out.1.side HN.out.1
   by_cases hv:v=0
   ·subst hv
    rw [Zay]
    have HFG:=Hid.mk (kforget_any w1 P B ob e rs l o hX1 ok.wk HT.out HO.out)
    have HX1:=Hid.mk hX1
    clear hX1 hcf c4
    go_upto_region 9 with (go_at_call 85;refine HFG.out.mono ?_;rintro _ w4 ⟨rfl,hfg⟩;have HFG4:=Hid.mk hfg;clear hfg)
    obtain⟨e4,he4⟩:∃e4,e4=e.cut o:=⟨_,rfl⟩
    obtain⟨rs4,hrs4⟩:∃rs4,rs4=cutL rs o:=⟨_,rfl⟩
    have H4:=Hid.mk (show Sub4 w1 w4 P B ob e e4 rs4 l F a c fb Na Nc by
     obtain⟨q1,q2,q3⟩:=HFG4.out
     obtain⟨o1,o2,_⟩:=oldest_is HO.out
     have hst:(e.at_ o).st≠1:=fun x=>by have:=((ok.wk.runs o o1).goes).1 x;have o2:0<(e.at_ o).ended:=o2;omega
     have hcl:=Zd4 e o1
     have hb1:=(HN.out.1.block fb _ _ _ HX0.out.2.2.2.2.1 HX0.out.2.2.1 (by unfold KTy;simp)).trans HX0.out.2.2.1
     rw [he4,hrs4]
     exact⟨q1,ok.cut o1 hst,q2,by have:=HE.out;omega,q3,(HX0.out.2.1.side HN.out.1).kf q3 HPB.out.1,(kf_flow q3 hb1 HX0.out.2.2.2.1).trans hb1,HR.out,rfl⟩)
    clear he4 hrs4
    obtain⟨lr,hlr⟩:∃lr,lr=e4.lastRun:=⟨_,rfl⟩
    have hl0:0<=lr:=by rw [hlr];exact H4.out.ok.wk.lr0
    have hl1:lr<18446744073709551615:=by rw [hlr,H4.out.lr];exact HL.out
    obtain⟨d0,dz⟩:w4.cell? ⟨P,728,none⟩=some (.int .u64 lr)/\w4.frozen? ⟨P,728,none⟩=false:=by
     obtain⟨_,_,hM,_,_⟩:=H4.out.x.ex
     rw [hlr]
     exact⟨hM.lr,hM.fz 728⟩
    have ew:IntKind.u64.wrap (lr+1)=lr+1:=by rw [IntKind.wrap_u64];omega
    have HLR:=Hid.mk hlr
    clear hlr
    go_upto_region 10 with fail
    obtain⟨id,hid⟩:∃id,id=lr+1:=⟨_,rfl⟩
    rw [<-hid]
    obtain⟨w5,hw5⟩:∃w5,w5=w4.setCell ⟨P,728,none⟩ (.int .u64 id):=⟨_,rfl⟩
    rw [<-hw5]
    have H5:=Hid.mk (show KpX w5 P B ob { e4 with lastRun:=id } rs4 l/\CopyAt B w5 F (.slice a F.n c) F.n Na Nc/\w5.heap[fb]? =some (.cells #[.int .i64 F.dl, .slice a F.n c] 31 (0,0))/\KF w1 w5 P B ob by
     obtain⟨el',now',hM',m2,m3⟩:=H4.out.x.ex
     have hM5:=hM'.num 728 id id e4.lastTok e4.seed (Or.inl ⟨rfl,rfl,rfl,rfl⟩)
     have hkf:=KF.setP w4 P B 728 ob (.int .u64 id) (by omega)
     rw [<-hw5] at hM5 hkf
     exact⟨⟨⟨el',now',hM5,m2,m3.same rfl (fun _ _=>⟨rfl,rfl⟩)⟩,H4.out.x.len,H4.out.x.runs⟩,H4.out.cp.kf hkf HPB.out.1,(kf_flow hkf H4.out.fb HX0.out.2.2.2.1).trans H4.out.fb,H4.out.kf.trans hkf (ObTo.refl _ _)⟩)
    have HID:=Hid.mk hid
    clear d0 dz ew hw5 hid
    have v728:w5.cell? ⟨P,728,none⟩=some (.int .u64 id):=by obtain⟨_,_,hM,_,_⟩:=H5.out.1.ex;exact hM.lr
    have f0:w5.cell? ⟨fb,0,none⟩=some (.int .i64 F.dl):=by unfold World.cell?;rw [H5.out.2.2.1];rfl
    have f1:w5.cell? ⟨fb,1,none⟩=some (.slice a F.n c):=by unfold World.cell?;rw [H5.out.2.2.1];rfl
    have HNR:=Hid.mk (fun (wx:World) (hb:Below w5.heap.size w5 wx)=>newrun_any wx B id F a c Na Nc (H5.out.2.1.below hb) hF.top.n1 hF.top.n2 (by obtain⟨_,_,hM,_,_⟩:=H5.out.1.ex;exact Nat.le_trans hM.pb.2 hb.size))
    go_region_held3 (fun w'=>(w'.cell? ⟨P,728,none⟩=some (.int .u64 id)/\w'.cell? ⟨fb,0,none⟩=some (.int .i64 F.dl))/\w'.cell? ⟨fb,1,none⟩=some (.slice a F.n c)) (go_keep) ((go_at_call 86;refine (HNR.out w5.drew ((Below.refl _ _).drew)).mono ?_;rintro _ w6 ⟨r,rfl,r1,r2,r3,r4,r5,r6,r7⟩;have HRN:=Hid.mk (And.intro r1 (And.intro r2 (And.intro r3 (And.intro r4 (And.intro r5 (And.intro r6 r7))))));have y0:=cell_later r7 v728;have y1:=cell_later r7 f0;have y2:=cell_later r7 f1;clear r1 r2 r3 r4 r5 r6 r7))
    go_upto_region 11 with fail
    obtain⟨ka6,kc6,hkn6⟩:∃ka kc,KnAt w6 P B ka kc rs4:=by
     obtain⟨_,_,hM,_,_⟩:=(H5.out.1.below (((Below.refl w5.heap.size w5).drew).trans' HRN.out.2.2.2.2.2.2)).ex
     exact hM.kn
    obtain⟨n4,hn4⟩:∃n4,n4=rs4.length:=⟨_,rfl⟩
    obtain⟨rb,hrb⟩:∃rb,rb=r.b:=⟨_,rfl⟩
    have hn45:n4<6:=by rw [hn4,H4.out.x.len];exact H4.out.few
    have m1:=hkn6.c
    rw [<-hn4] at m1
    have m2:=hkn6.fz 4
    have hP6:P<w6.heap.size:=Nat.lt_of_lt_of_le hkn6.pb hkn6.bs
    have hbs6:=hkn6.bs
    have HO:=Hid.mk (show w6.ownsRow B 173 1 (.slice ka6 n4 kc6) n4 (rs4.flatMap rnP) by rw [hn4];exact hkn6.row)
    have hMq:some P≠(Value.slice ka6 n4 kc6).ownBlock:=fun e=>by have:=(HO.out.lt P e.symm).1;have:=hkn6.pb;omega
    have HK6:=Hid.mk (And.intro hkn6 (And.intro hn4 hrb))
    obtain⟨ir,hi,hz0,hz1,hz2⟩:=info_parts infoRp
    have HI:=Hid.mk (And.intro hi (And.intro hz0 (And.intro hz1 hz2)))
    have m1a:=cell_later (((Below.refl w6.heap.size w6).alloc (Nat.le_refl _) (.cells #[.pointer (some ⟨rb,0,none⟩)] 173)).drew) m1
    have m1b:=cell_later ((Below.refl w6.heap.size w6).alloc (Nat.le_refl _) (.cells #[.pointer (some ⟨rb,0,none⟩)] 173)) m1
    rw [<-hrb]
    clear hkn6 hn4 hrb hi hz0 hz1 hz2 y0 y1 y2 v728 f0 f1
    go_upto_region 12 with (at_builtin;refine wpList_append_lies _ rfl (.tmp 50) (.tmp 52) 126 rfl B 173 ir _ 1 8 Tryz.underlying126 HI.out.1 HI.out.2.1 HI.out.2.2.1 HI.out.2.2.2 rfl (by omega) (.slice ka6 n4 kc6) n4 (rs4.flatMap rnP) rfl (HO.out.alloc _) ⟨w6.heap.size,0,none⟩ 1 1 [.pointer (some ⟨rb,0,none⟩)] rfl rfl (World.news_of_block (cs:=#[.pointer (some ⟨rb,0,none⟩)]) (t:=173) (fr:=(0,0)) (heap_alloc_new w6 _)) (by simp [Value.oneCell']) (by omega) (by unfold maxLen;omega) (by omega) (by simp;omega) (w6.heap.size+1) (by simp) ?_;intro gg gcap w7 hown7 hgrow hat hlt;have s1:=(hgrow.cell_far ⟨P,4,none⟩ (by simp;omega) hMq).trans m1b;have sz:=(hgrow.frozen_far ⟨P,4,none⟩ (by simp;omega) hMq).trans ((((Below.refl w6.heap.size w6).alloc (Nat.le_refl _) (.cells #[.pointer (some ⟨rb,0,none⟩)] 173)).frozen (p:=⟨P,4,none⟩) (by simp only [];omega)).trans m2))
    have HG7:=Hid.mk (And.intro hown7 hgrow)
    obtain⟨w8,hw8⟩:∃w8,w8=w7.setCell ⟨P,4,none⟩ (.slice (some ⟨gg,0,none⟩) (n4+1) gcap):=⟨_,rfl⟩
    rw [<-hw8]
    have H8:=Hid.mk (show KpX w8 P B ob (e4.more F) (rs4++[r]) l/\KF w1 w8 P B ob/\w8.heap[fb]? =some (.cells #[.int .i64 F.dl, .slice a F.n c] 31 (0,0))/\RnAt w8 B r/\rnAt (rs4++[r]) e4.runs.length=r by
     obtain⟨r1,r2,r3,r4,r5,r6,r7⟩:=HRN.out
     obtain⟨k1,k2,k3⟩:=HK6.out
     obtain⟨g1,g2⟩:=HG7.out
     have bl6:Below w5.heap.size w5 w6:=((Below.refl w5.heap.size w5).drew).trans' r7
     have blA:Below w6.heap.size w6 (w6.alloc (.cells #[.pointer (some ⟨rb,0,none⟩)] 173)):=(Below.refl _ _).alloc (Nat.le_refl _) _
     obtain⟨el',now',hM6,m2,m3⟩:=(H5.out.1.below bl6).ex
     obtain⟨_,_,hM5,_,_⟩:=H5.out.1.ex
     obtain⟨ka5,kc5,hkn5⟩:=hM5.kn
     have hlen:=H4.out.x.len
     have hrow:RowAt w7 B 173 1 rnP (some ⟨gg,0,none⟩) gcap (rs4++[r]):=by
      unfold RowAt
      rw [List.length_append,List.length_singleton,<-k2,List.flatMap_append,List.flatMap_singleton]
      have:rnP r=[.pointer (some ⟨rb,0,none⟩)]:=by rw [k3];rfl
      rw [this]
      exact g1
     rw [k2] at g2 hw8
     have hsz5:w5.heap.size<=w5.drew.heap.size:=Nat.le_refl _
     obtain⟨s1,s2,s3,s4⟩:=(k1.below blA).snoc (r:=r) (by rw [<-k2];exact hn45) (r6.below blA) (fun i hi e=>by have:=(hkn5.runs i hi).lt;omega) (fun i hi e=>by obtain⟨_,_,_,_,_,q⟩:=(hkn5.runs i hi).rowBlk;omega) g2 hrow
     rw [<-hw8] at s1 s2
     have hM8:=(hM6.below blA).knownS s2 s3 ⟨_,_,s1⟩
     have hkn8:=s1.runs rs4.length (by rw [List.length_append,List.length_singleton];omega)
     have hrl:rnAt (rs4++[r]) e4.runs.length=r:=by rw [Zcf (by omega),if_neg (by omega)]
     have hkf:KF w5 w8 P B ob:=((KF.of_below P B ob bl6).trans (KF.of_below P B ob blA) (ObTo.refl _ _)).trans (KF.knownS (by rw [hw8];exact g2.os) (by rw [hw8];exact g2.tape) (by rw [hw8];exact g2.output) s2 (fun k hk=>⟨by
      rcases (k1.below blA).row.2 with⟨h2,_⟩ | ⟨g',cap,cur,h2,hg,hh,_⟩
      ·rw [h2] at hk;simp [Value.ownBlock] at hk
      ·rw [h2] at hk
       simp only [Value.ownBlock,Option.some.injEq] at hk
       subst hk
       exact hg,s3 k hk⟩) ob) (ObTo.refl _ _)
     have hlid:(e4.more F).lastRun=id:=by show e4.lastRun+1=id;rw [HID.out,HLR.out]
     refine⟨⟨⟨el',now',by rw [hlid];exact hM8,m2,(m3.same (e':=e4) rfl (fun _ _=>⟨rfl,rfl⟩)).more⟩,by rw [List.length_append,List.length_singleton,Za2,hlen],fun i hi=> ?_⟩,H5.out.2.2.2.trans hkf (ObTo.refl _ _),(kf_flow hkf H5.out.2.2.1 HX0.out.2.2.2.1).trans H5.out.2.2.1,?_,hrl⟩
     ·rw [Za2] at hi
      rw [Zcf (by omega)]
      split
      ·rename_i hc;rw [Zbv e4 F (by omega)];exact H4.out.x.runs i (by omega)
      ·rename_i hc
       have hie:i=e4.runs.length:=by omega
       subst hie
       rw [Za1]
       exact RnIs.fresh (by rw [r1,HID.out,HLR.out]) r2 r3
     ·rw [hlen,hrl] at hkn8;exact hkn8)
    have HRB:=Hid.mk (show r.b=rb from HK6.out.2.2.symm)
    have HRI:=Hid.mk HRN.out.1
    clear hw8 HG7 HRN HK6 hgrow hown7 hat hlt s1 sz m1 m2 m1a m1b hMq HO hP6 hbs6 HI HNR
    obtain⟨el8,now8,hM8,htm8,hel8⟩:=H8.out.1.ex
    have hSet:∀wx,Below w8.heap.size w8 wx->Calls Tryz.prog 87 #[.pointer (some ⟨P,4,none⟩), .agg #[.int .u64 id, .int .i64 (-1), .int .i64 0], .int .i64 F.dl] wx fun x w'=>x= .returned (.tuple #[])/\∃y l1,CanIs l (keyI id (-1) 0) y l1/\WhAt w' P B noK now8 (l1++[⟨keyI id (-1) 0,Za0 now8 (now8+F.dl),e4.timers+1⟩])/\PF wx w' P B noK:=fun wx hb=>by
     have:=hF.top.dl1
     have:=hF.top.dl2
     have:=HID.out
     exact kset_any wx P B now8 l (keyI id (-1) 0) id (-1) 0 F.dl e4.timers (hM8.wh.keep hb) (keyOk (by omega) (by omega) (by omega) (by omega) (by omega) (by omega)) (by omega) (by omega) (by have:=H4.out.tim.few H4.out.ok.wk;omega)
    have HSET:=Hid.mk hSet
    have hfar:∀wx w',Below w8.heap.size w8 wx->PF wx w' P B noK->w'.cell? ⟨rb,0,none⟩=some (.int .u64 id)/\w'.cell? ⟨fb,0,none⟩=some (.int .i64 F.dl):=fun wx w' hb hf=>by
     obtain⟨x1,x2,x3,x4,x5⟩:=H8.out
     have stay:∀k cs t fr,w8.heap[k]? =some (.cells cs t fr)->t≠183->k≠P->w'.heap[k]? =w8.heap[k]? :=fun k cs t fr e ht hk=>by
      have e1:=hb.block k (Zaa e)
      exact (hf.other (e1.trans e) ht hk).trans e1
     have t0:=x4.topC.1.1
     have h1:=stay r.b _ _ _ x4.top (by decide) (by have:=x4.bb;have:=HPB.out.1;omega)
     have h2:=stay fb _ _ _ x3 (by decide) HX0.out.2.2.2.1
     rw [HRB.out] at t0 h1
     rw [HRI.out] at t0
     exact⟨(World.cell?_of_block (a:=⟨rb,0,none⟩) h1).trans t0,by unfold World.cell?;rw [h2,x3];rfl⟩
    have HFAR:=Hid.mk hfar
    obtain⟨u0,u1⟩:=hfar w8 w8 (Below.refl _ _) (PF.refl _ _ _ _)
    have HM8:=Hid.mk (And.intro hM8 htm8)
    clear hSet hfar hM8 htm8 hel8
    go_region_held3 (fun w'=>w'.cell? ⟨rb,0,none⟩=some (.int .u64 id)/\w'.cell? ⟨fb,0,none⟩=some (.int .i64 F.dl)) (go_keep) ((go_at_call 87;refine (HSET.out w8.drew ((Below.refl _ _).drew)).mono ?_;rintro _ w9 ⟨rfl,y,l1,hc1,hw9,hf9⟩;have HN9:=Hid.mk (And.intro hc1 (And.intro hw9 hf9));have y:=HFAR.out w8.drew w9 ((Below.refl _ _).drew) hf9;have y0:=y.1;have y1:=y.2;clear hc1 hw9 hf9 y))
    go_upto_region 13 with fail
    have H9:=Hid.mk (show KpX w9 P B ob (e4.more F) (rs4++[r]) (l1++[⟨keyI id (-1) 0,Za0 now8 (now8+F.dl),e4.timers+1⟩])/\TimR (e4.more F) (l1++[⟨keyI id (-1) 0,Za0 now8 (now8+F.dl),e4.timers+1⟩])/\KF w1 w9 P B ob/\EngWk (e4.more F) by
     obtain⟨q1,q2,q3⟩:=HN9.out
     obtain⟨x1,x2,x3,x4,x5⟩:=H8.out
     have hbd:Below w8.heap.size w8 w8.drew:=(Below.refl _ _).drew
     have hi:id=e4.lastRun+1:=by rw [HID.out,HLR.out]
     have hcl:Za0 now8 (now8+F.dl)=Zas e4.time F.dl:=by
      have:e4.time=(now8:Int):=HM8.out.2
      rw [this];exact Zdg hF.top.dl1
     refine⟨(x1.below hbd).wheelN q3 q2 HM8.out.2,?_,(x2.trans (KF.of_below P B ob hbd) (ObTo.refl _ _)).trans (KF.of_pf q3 ob) (ObTo.refl _ _),H4.out.ok.wk.more H4.out.few hF⟩
     rw [hcl,hi]
     rw [hi] at q1
     exact tim_more H4.out.ok.wk hF.top.dl1 H4.out.tim HM8.out.1.wh.apart q1)
    have hAW:=awake_k (i:=e4.runs.length) H9.out.1 H9.out.2.2.2 (by rw [Za2];omega) (by rw [Za1];rfl) H9.out.2.1
    rw [H8.out.2.2.2.2,HRB.out] at hAW
    have HAW:=Hid.mk hAW
    clear hAW u0 u1 y0 y1
    go_upto_region 14 with (first
     | (go_at_call 89;refine HAW.out.mono ?_;rintro _ w10 ⟨aa,nn,cc,rfl,hb10,hrd⟩;have HRD:=Hid.mk hrd;clear hb10 hrd)
     | (go_at_call 88;refine HRD.out.mono ?_;rintro _ w11 ⟨rfl,rs5,z1,z2,z3,z4,z5,z6⟩;have HZ:=Hid.mk (And.intro z1 (And.intro z2 (And.intro z3 (And.intro z4 (And.intro z5 z6)))));clear z1 z2 z3 z4 z5 z6))
    have t0:w11.cell? ⟨rb,0,none⟩=some (.int .u64 id):=by
     obtain⟨z1,z2,z3,z4,z5,z6⟩:=HZ.out
     obtain⟨_,_,hM,_,_⟩:=z1.ex
     obtain⟨ka',kc',hkn⟩:=hM.kn
     have hil:e4.runs.length<(e4.more F).runs.length:=by rw [Za2];omega
     have hl2:(rs4++[r]).length=(e4.more F).runs.length:=H9.out.1.len
     have hb:=z2.2 e4.runs.length (by omega)
     rw [H8.out.2.2.2.2,HRB.out] at hb
     have:=(hkn.runs e4.runs.length (by have:=z2.1;omega)).topC.1.1
     rw [hb,(z1.runs e4.runs.length (by rw [z5.len];exact hil)).id,z5.id,Za1] at this
     rw [this,HID.out,HLR.out]
     rfl
    clear HAW HRD
    go_wp2_with fail
    go_ret2
    obtain⟨z1,z2,z3,z4,z5,z6⟩:=HZ.out
    refine Or.inr ⟨0,_,H4.out.is,?_,?_⟩
    ·rw [if_pos rfl,HID.out,HLR.out,H4.out.lr];rfl
    ·rw [Zc2]
     exact KOut.ok HN.out.2 z1 z3 (H9.out.2.2.1.trans z6 (ObTo.refl _ _)) (ObTo.refl _ _)
   ·rw [Zap hv]
    have HV:=Hid.mk hv
    have HX1:=Hid.mk hX1
    clear hv hX1 hcf c4
    go_wp2_with fail
    go_ret2
    exact Or.inr ⟨v,_,HR.out,by rw [Zap HV.out,if_neg HV.out];rfl,KOut.err HV.out HN.out.2 HX1.out HT.out⟩
 ·have g6:¬(6:Int)<=(n:Int):=by omega
  have h5:e.runs.length<6:=by omega
  have HR:=Hid.mk (submit_room (F:=F) h5)
  have H5:=Hid.mk h5
  clear hne h5
  go_enter Tryz.func53,Tryz.ntmps53
  go_upto_region 1 with fail
  rw [<-HW0.out.1,<-HW0.out.2.1]
  go_upto_region 5 with (refine HK.out.mono ?_;rintro _ w1 ⟨v,rfl,hn,hkp⟩;have HN:=Hid.mk (And.intro hn hkp);clear hn hkp)
  have hX1:=HX0.out.1.side HN.out.1
  by_cases hv:v=0
  ·subst hv
   rw [Zay]
   have HX1:=Hid.mk hX1
   clear hX1 hcf c4
   go_upto_region 9 with fail
   obtain⟨w4,hw4⟩:∃w4,w4=w1:=⟨_,rfl⟩
   obtain⟨e4,he4⟩:∃e4,e4=e:=⟨_,rfl⟩
   obtain⟨rs4,hrs4⟩:∃rs4,rs4=rs:=⟨_,rfl⟩
   have H4:=Hid.mk (show Sub4 w1 w4 P B ob e e4 rs4 l F a c fb Na Nc by
    have hb1:=(HN.out.1.block fb _ _ _ HX0.out.2.2.2.2.1 HX0.out.2.2.1 (by unfold KTy;simp)).trans HX0.out.2.2.1
    rw [he4,hrs4,hw4]
    exact⟨HX1.out,ok,HT.out,H5.out,KF.refl _ _ _ _,HX0.out.2.1.side HN.out.1,hb1,HR.out,rfl⟩)
   clear he4 hrs4
   have HNK:=Hid.mk HN.out.2
   rw [<-hw4]
   have HN0:=HN
   clear HX1 HN
   have HN:Hid (NF w0 w1 P B/\Kp 0 w1):=HN0
   clear HN0 HNK hw4
   obtain⟨lr,hlr⟩:∃lr,lr=e4.lastRun:=⟨_,rfl⟩
   have hl0:0<=lr:=by rw [hlr];exact H4.out.ok.wk.lr0
   have hl1:lr<18446744073709551615:=by rw [hlr,H4.out.lr];exact HL.out
   obtain⟨d0,dz⟩:w4.cell? ⟨P,728,none⟩=some (.int .u64 lr)/\w4.frozen? ⟨P,728,none⟩=false:=by
    obtain⟨_,_,hM,_,_⟩:=H4.out.x.ex
    rw [hlr]
    exact⟨hM.lr,hM.fz 728⟩
   have ew:IntKind.u64.wrap (lr+1)=lr+1:=by rw [IntKind.wrap_u64];omega
   have HLR:=Hid.mk hlr
   clear hlr
   go_upto_region 10 with fail
   obtain⟨id,hid⟩:∃id,id=lr+1:=⟨_,rfl⟩
   rw [<-hid]
   obtain⟨w5,hw5⟩:∃w5,w5=w4.setCell ⟨P,728,none⟩ (.int .u64 id):=⟨_,rfl⟩
   rw [<-hw5]
   have H5:=Hid.mk (show KpX w5 P B ob { e4 with lastRun:=id } rs4 l/\CopyAt B w5 F (.slice a F.n c) F.n Na Nc/\w5.heap[fb]? =some (.cells #[.int .i64 F.dl, .slice a F.n c] 31 (0,0))/\KF w1 w5 P B ob by
    obtain⟨el',now',hM',m2,m3⟩:=H4.out.x.ex
    have hM5:=hM'.num 728 id id e4.lastTok e4.seed (Or.inl ⟨rfl,rfl,rfl,rfl⟩)
    have hkf:=KF.setP w4 P B 728 ob (.int .u64 id) (by omega)
    rw [<-hw5] at hM5 hkf
    exact⟨⟨⟨el',now',hM5,m2,m3.same rfl (fun _ _=>⟨rfl,rfl⟩)⟩,H4.out.x.len,H4.out.x.runs⟩,H4.out.cp.kf hkf HPB.out.1,(kf_flow hkf H4.out.fb HX0.out.2.2.2.1).trans H4.out.fb,H4.out.kf.trans hkf (ObTo.refl _ _)⟩)
   have HID:=Hid.mk hid
   clear d0 dz ew hw5 hid
   have v728:w5.cell? ⟨P,728,none⟩=some (.int .u64 id):=by obtain⟨_,_,hM,_,_⟩:=H5.out.1.ex;exact hM.lr
   have f0:w5.cell? ⟨fb,0,none⟩=some (.int .i64 F.dl):=by unfold World.cell?;rw [H5.out.2.2.1];rfl
   have f1:w5.cell? ⟨fb,1,none⟩=some (.slice a F.n c):=by unfold World.cell?;rw [H5.out.2.2.1];rfl
   have HNR:=Hid.mk (fun (wx:World) (hb:Below w5.heap.size w5 wx)=>newrun_any wx B id F a c Na Nc (H5.out.2.1.below hb) hF.top.n1 hF.top.n2 (by obtain⟨_,_,hM,_,_⟩:=H5.out.1.ex;exact Nat.le_trans hM.pb.2 hb.size))
   go_region_held3 (fun w'=>(w'.cell? ⟨P,728,none⟩=some (.int .u64 id)/\w'.cell? ⟨fb,0,none⟩=some (.int .i64 F.dl))/\w'.cell? ⟨fb,1,none⟩=some (.slice a F.n c)) (go_keep) ((go_at_call 86;refine (HNR.out w5.drew ((Below.refl _ _).drew)).mono ?_;rintro _ w6 ⟨r,rfl,r1,r2,r3,r4,r5,r6,r7⟩;have HRN:=Hid.mk (And.intro r1 (And.intro r2 (And.intro r3 (And.intro r4 (And.intro r5 (And.intro r6 r7))))));have y0:=cell_later r7 v728;have y1:=cell_later r7 f0;have y2:=cell_later r7 f1;clear r1 r2 r3 r4 r5 r6 r7))
   go_upto_region 11 with fail
   obtain⟨ka6,kc6,hkn6⟩:∃ka kc,KnAt w6 P B ka kc rs4:=by
    obtain⟨_,_,hM,_,_⟩:=(H5.out.1.below (((Below.refl w5.heap.size w5).drew).trans' HRN.out.2.2.2.2.2.2)).ex
    exact hM.kn
   obtain⟨n4,hn4⟩:∃n4,n4=rs4.length:=⟨_,rfl⟩
   obtain⟨rb,hrb⟩:∃rb,rb=r.b:=⟨_,rfl⟩
   have hn45:n4<6:=by rw [hn4,H4.out.x.len];exact H4.out.few
   have m1:=hkn6.c
   rw [<-hn4] at m1
   have m2:=hkn6.fz 4
   have hP6:P<w6.heap.size:=Nat.lt_of_lt_of_le hkn6.pb hkn6.bs
   have hbs6:=hkn6.bs
   have HO:=Hid.mk (show w6.ownsRow B 173 1 (.slice ka6 n4 kc6) n4 (rs4.flatMap rnP) by rw [hn4];exact hkn6.row)
   have hMq:some P≠(Value.slice ka6 n4 kc6).ownBlock:=fun e=>by have:=(HO.out.lt P e.symm).1;have:=hkn6.pb;omega
   have HK6:=Hid.mk (And.intro hkn6 (And.intro hn4 hrb))
   obtain⟨ir,hi,hz0,hz1,hz2⟩:=info_parts infoRp
   have HI:=Hid.mk (And.intro hi (And.intro hz0 (And.intro hz1 hz2)))
   have m1a:=cell_later (((Below.refl w6.heap.size w6).alloc (Nat.le_refl _) (.cells #[.pointer (some ⟨rb,0,none⟩)] 173)).drew) m1
   have m1b:=cell_later ((Below.refl w6.heap.size w6).alloc (Nat.le_refl _) (.cells #[.pointer (some ⟨rb,0,none⟩)] 173)) m1
   rw [<-hrb]
   clear hkn6 hn4 hrb hi hz0 hz1 hz2 y0 y1 y2 v728 f0 f1
   go_upto_region 12 with (at_builtin;refine wpList_append_lies _ rfl (.tmp 50) (.tmp 52) 126 rfl B 173 ir _ 1 8 Tryz.underlying126 HI.out.1 HI.out.2.1 HI.out.2.2.1 HI.out.2.2.2 rfl (by omega) (.slice ka6 n4 kc6) n4 (rs4.flatMap rnP) rfl (HO.out.alloc _) ⟨w6.heap.size,0,none⟩ 1 1 [.pointer (some ⟨rb,0,none⟩)] rfl rfl (World.news_of_block (cs:=#[.pointer (some ⟨rb,0,none⟩)]) (t:=173) (fr:=(0,0)) (heap_alloc_new w6 _)) (by simp [Value.oneCell']) (by omega) (by unfold maxLen;omega) (by omega) (by simp;omega) (w6.heap.size+1) (by simp) ?_;intro gg gcap w7 hown7 hgrow hat hlt;have s1:=(hgrow.cell_far ⟨P,4,none⟩ (by simp;omega) hMq).trans m1b;have sz:=(hgrow.frozen_far ⟨P,4,none⟩ (by simp;omega) hMq).trans ((((Below.refl w6.heap.size w6).alloc (Nat.le_refl _) (.cells #[.pointer (some ⟨rb,0,none⟩)] 173)).frozen (p:=⟨P,4,none⟩) (by simp only [];omega)).trans m2))
   have HG7:=Hid.mk (And.intro hown7 hgrow)
   obtain⟨w8,hw8⟩:∃w8,w8=w7.setCell ⟨P,4,none⟩ (.slice (some ⟨gg,0,none⟩) (n4+1) gcap):=⟨_,rfl⟩
   rw [<-hw8]
   have H8:=Hid.mk (show KpX w8 P B ob (e4.more F) (rs4++[r]) l/\KF w1 w8 P B ob/\w8.heap[fb]? =some (.cells #[.int .i64 F.dl, .slice a F.n c] 31 (0,0))/\RnAt w8 B r/\rnAt (rs4++[r]) e4.runs.length=r by
    obtain⟨r1,r2,r3,r4,r5,r6,r7⟩:=HRN.out
    obtain⟨k1,k2,k3⟩:=HK6.out
    obtain⟨g1,g2⟩:=HG7.out
    have bl6:Below w5.heap.size w5 w6:=((Below.refl w5.heap.size w5).drew).trans' r7
    have blA:Below w6.heap.size w6 (w6.alloc (.cells #[.pointer (some ⟨rb,0,none⟩)] 173)):=(Below.refl _ _).alloc (Nat.le_refl _) _
    obtain⟨el',now',hM6,m2,m3⟩:=(H5.out.1.below bl6).ex
    obtain⟨_,_,hM5,_,_⟩:=H5.out.1.ex
    obtain⟨ka5,kc5,hkn5⟩:=hM5.kn
    have hlen:=H4.out.x.len
    have hrow:RowAt w7 B 173 1 rnP (some ⟨gg,0,none⟩) gcap (rs4++[r]):=by
     unfold RowAt
     rw [List.length_append,List.length_singleton,<-k2,List.flatMap_append,List.flatMap_singleton]
     have:rnP r=[.pointer (some ⟨rb,0,none⟩)]:=by rw [k3];rfl
     rw [this]
     exact g1
    rw [k2] at g2 hw8
    have hsz5:w5.heap.size<=w5.drew.heap.size:=Nat.le_refl _
    obtain⟨s1,s2,s3,s4⟩:=(k1.below blA).snoc (r:=r) (by rw [<-k2];exact hn45) (r6.below blA) (fun i hi e=>by have:=(hkn5.runs i hi).lt;omega) (fun i hi e=>by obtain⟨_,_,_,_,_,q⟩:=(hkn5.runs i hi).rowBlk;omega) g2 hrow
    rw [<-hw8] at s1 s2
    have hM8:=(hM6.below blA).knownS s2 s3 ⟨_,_,s1⟩
    have hkn8:=s1.runs rs4.length (by rw [List.length_append,List.length_singleton];omega)
    have hrl:rnAt (rs4++[r]) e4.runs.length=r:=by rw [Zcf (by omega),if_neg (by omega)]
    have hkf:KF w5 w8 P B ob:=((KF.of_below P B ob bl6).trans (KF.of_below P B ob blA) (ObTo.refl _ _)).trans (KF.knownS (by rw [hw8];exact g2.os) (by rw [hw8];exact g2.tape) (by rw [hw8];exact g2.output) s2 (fun k hk=>⟨by
     rcases (k1.below blA).row.2 with⟨h2,_⟩ | ⟨g',cap,cur,h2,hg,hh,_⟩
     ·rw [h2] at hk;simp [Value.ownBlock] at hk
     ·rw [h2] at hk
      simp only [Value.ownBlock,Option.some.injEq] at hk
      subst hk
      exact hg,s3 k hk⟩) ob) (ObTo.refl _ _)
    have hlid:(e4.more F).lastRun=id:=by show e4.lastRun+1=id;rw [HID.out,HLR.out]
    refine⟨⟨⟨el',now',by rw [hlid];exact hM8,m2,(m3.same (e':=e4) rfl (fun _ _=>⟨rfl,rfl⟩)).more⟩,by rw [List.length_append,List.length_singleton,Za2,hlen],fun i hi=> ?_⟩,H5.out.2.2.2.trans hkf (ObTo.refl _ _),(kf_flow hkf H5.out.2.2.1 HX0.out.2.2.2.1).trans H5.out.2.2.1,?_,hrl⟩
    ·rw [Za2] at hi
     rw [Zcf (by omega)]
     split
     ·rename_i hc;rw [Zbv e4 F (by omega)];exact H4.out.x.runs i (by omega)
     ·rename_i hc
      have hie:i=e4.runs.length:=by omega
      subst hie
      rw [Za1]
      exact RnIs.fresh (by rw [r1,HID.out,HLR.out]) r2 r3
    ·rw [hlen,hrl] at hkn8;exact hkn8)
   have HRB:=Hid.mk (show r.b=rb from HK6.out.2.2.symm)
   have HRI:=Hid.mk HRN.out.1
   clear hw8 HG7 HRN HK6 hgrow hown7 hat hlt s1 sz m1 m2 m1a m1b hMq HO hP6 hbs6 HI HNR
   obtain⟨el8,now8,hM8,htm8,hel8⟩:=H8.out.1.ex
   have hSet:∀wx,Below w8.heap.size w8 wx->Calls Tryz.prog 87 #[.pointer (some ⟨P,4,none⟩), .agg #[.int .u64 id, .int .i64 (-1), .int .i64 0], .int .i64 F.dl] wx fun x w'=>x= .returned (.tuple #[])/\∃y l1,CanIs l (keyI id (-1) 0) y l1/\WhAt w' P B noK now8 (l1++[⟨keyI id (-1) 0,Za0 now8 (now8+F.dl),e4.timers+1⟩])/\PF wx w' P B noK:=fun wx hb=>by
    have:=hF.top.dl1
    have:=hF.top.dl2
    have:=HID.out
    exact kset_any wx P B now8 l (keyI id (-1) 0) id (-1) 0 F.dl e4.timers (hM8.wh.keep hb) (keyOk (by omega) (by omega) (by omega) (by omega) (by omega) (by omega)) (by omega) (by omega) (by have:=H4.out.tim.few H4.out.ok.wk;omega)
   have HSET:=Hid.mk hSet
   have hfar:∀wx w',Below w8.heap.size w8 wx->PF wx w' P B noK->w'.cell? ⟨rb,0,none⟩=some (.int .u64 id)/\w'.cell? ⟨fb,0,none⟩=some (.int .i64 F.dl):=fun wx w' hb hf=>by
    obtain⟨x1,x2,x3,x4,x5⟩:=H8.out
    have stay:∀k cs t fr,w8.heap[k]? =some (.cells cs t fr)->t≠183->k≠P->w'.heap[k]? =w8.heap[k]? :=fun k cs t fr e ht hk=>by
     have e1:=hb.block k (Zaa e)
     exact (hf.other (e1.trans e) ht hk).trans e1
    have t0:=x4.topC.1.1
    have h1:=stay r.b _ _ _ x4.top (by decide) (by have:=x4.bb;have:=HPB.out.1;omega)
    have h2:=stay fb _ _ _ x3 (by decide) HX0.out.2.2.2.1
    rw [HRB.out] at t0 h1
    rw [HRI.out] at t0
    exact⟨(World.cell?_of_block (a:=⟨rb,0,none⟩) h1).trans t0,by unfold World.cell?;rw [h2,x3];rfl⟩
   have HFAR:=Hid.mk hfar
   obtain⟨u0,u1⟩:=hfar w8 w8 (Below.refl _ _) (PF.refl _ _ _ _)
   have HM8:=Hid.mk (And.intro hM8 htm8)
   clear hSet hfar hM8 htm8 hel8
   go_region_held3 (fun w'=>w'.cell? ⟨rb,0,none⟩=some (.int .u64 id)/\w'.cell? ⟨fb,0,none⟩=some (.int .i64 F.dl)) (go_keep) ((go_at_call 87;refine (HSET.out w8.drew ((Below.refl _ _).drew)).mono ?_;rintro _ w9 ⟨rfl,y,l1,hc1,hw9,hf9⟩;have HN9:=Hid.mk (And.intro hc1 (And.intro hw9 hf9));have y:=HFAR.out w8.drew w9 ((Below.refl _ _).drew) hf9;have y0:=y.1;have y1:=y.2;clear hc1 hw9 hf9 y))
   go_upto_region 13 with fail
   have H9:=Hid.mk (show KpX w9 P B ob (e4.more F) (rs4++[r]) (l1++[⟨keyI id (-1) 0,Za0 now8 (now8+F.dl),e4.timers+1⟩])/\TimR (e4.more F) (l1++[⟨keyI id (-1) 0,Za0 now8 (now8+F.dl),e4.timers+1⟩])/\KF w1 w9 P B ob/\EngWk (e4.more F) by
    obtain⟨q1,q2,q3⟩:=HN9.out
    obtain⟨x1,x2,x3,x4,x5⟩:=H8.out
    have hbd:Below w8.heap.size w8 w8.drew:=(Below.refl _ _).drew
    have hi:id=e4.lastRun+1:=by rw [HID.out,HLR.out]
    have hcl:Za0 now8 (now8+F.dl)=Zas e4.time F.dl:=by
     have:e4.time=(now8:Int):=HM8.out.2
     rw [this];exact Zdg hF.top.dl1
    refine⟨(x1.below hbd).wheelN q3 q2 HM8.out.2,?_,(x2.trans (KF.of_below P B ob hbd) (ObTo.refl _ _)).trans (KF.of_pf q3 ob) (ObTo.refl _ _),H4.out.ok.wk.more H4.out.few hF⟩
    rw [hcl,hi]
    rw [hi] at q1
    exact tim_more H4.out.ok.wk hF.top.dl1 H4.out.tim HM8.out.1.wh.apart q1)
   have hAW:=awake_k (i:=e4.runs.length) H9.out.1 H9.out.2.2.2 (by rw [Za2];omega) (by rw [Za1];rfl) H9.out.2.1
   rw [H8.out.2.2.2.2,HRB.out] at hAW
   have HAW:=Hid.mk hAW
   clear hAW u0 u1 y0 y1
   go_upto_region 14 with (first
    | (go_at_call 89;refine HAW.out.mono ?_;rintro _ w10 ⟨aa,nn,cc,rfl,hb10,hrd⟩;have HRD:=Hid.mk hrd;clear hb10 hrd)
    | (go_at_call 88;refine HRD.out.mono ?_;rintro _ w11 ⟨rfl,rs5,z1,z2,z3,z4,z5,z6⟩;have HZ:=Hid.mk (And.intro z1 (And.intro z2 (And.intro z3 (And.intro z4 (And.intro z5 z6)))));clear z1 z2 z3 z4 z5 z6))
   have t0:w11.cell? ⟨rb,0,none⟩=some (.int .u64 id):=by
    obtain⟨z1,z2,z3,z4,z5,z6⟩:=HZ.out
    obtain⟨_,_,hM,_,_⟩:=z1.ex
    obtain⟨ka',kc',hkn⟩:=hM.kn
    have hil:e4.runs.length<(e4.more F).runs.length:=by rw [Za2];omega
    have hl2:(rs4++[r]).length=(e4.more F).runs.length:=H9.out.1.len
    have hb:=z2.2 e4.runs.length (by omega)
    rw [H8.out.2.2.2.2,HRB.out] at hb
    have:=(hkn.runs e4.runs.length (by have:=z2.1;omega)).topC.1.1
    rw [hb,(z1.runs e4.runs.length (by rw [z5.len];exact hil)).id,z5.id,Za1] at this
    rw [this,HID.out,HLR.out]
    rfl
   clear HAW HRD
   go_wp2_with fail
   go_ret2
   obtain⟨z1,z2,z3,z4,z5,z6⟩:=HZ.out
   refine Or.inr ⟨0,_,H4.out.is,?_,?_⟩
   ·rw [if_pos rfl,HID.out,HLR.out,H4.out.lr];rfl
   ·rw [Zc2]
    exact KOut.ok HN.out.2 z1 z3 (H9.out.2.2.1.trans z6 (ObTo.refl _ _)) (ObTo.refl _ _)
  ·rw [Zap hv]
   have HV:=Hid.mk hv
   have HX1:=Hid.mk hX1
   clear hv hX1 hcf c4
   go_wp2_with fail
   go_ret2
   exact Or.inr ⟨v,_,HR.out,by rw [Zap HV.out,if_neg HV.out];rfl,KOut.err HV.out HN.out.2 HX1.out HT.out⟩
end Go.Proofs.YtgdcjccbdmcebabGreatDoor
