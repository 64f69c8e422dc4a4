import Derived.Test.YtgdcjccbdmcebabGreatDoorM51
set_option linter.unusedSimpArgs false
set_option linter.unusedVariables false
namespace Go.Proofs.YtgdcjccbdmcebabGreatDoor
open Go.RowKit
set_option maxRecDepth 100000
attribute [local go_sem ↓] Go.wp_at_zero Go.wp_at_succ
set_option maxHeartbeats 1000000 in
theorem hqueue_any (w:World)(hb P B R D bd bn N:Nat)(ob:Option Nat)(e:EngD)(h:HostAt w hb P B R D bd bn ob N e)(wk:EngWk e) :
  Calls Tryz.prog 10 #[.pointer (some ⟨hb,0,none⟩)] w fun x w'=>∃a c,x= .returned (.slice a e.queue.length c)/\(e.queue=[]->a=none)/\w'.ownsRow w.heap.size 43 4 (.slice a e.queue.length c) e.queue.length (e.queue.flatMap e.qtask)/\Below w.heap.size w w':=by
 obtain⟨g,d,h1,ws⟩:=h.ex
 have HQ:=Hid.mk (equeue_any w P B R D bd bn ob g d e h1 wk)
 have z4:=h.host.cells.2
 obtain⟨n,hn⟩:∃n,n=e.queue.length:=⟨_,rfl⟩
 rw [<-hn] at HQ ⊢
 clear h h1 ws hn
 go_enter Tryz.func10,Tryz.ntmps10
 go_wp2_with (go_at_call 31;refine HQ.out.mono ?_;rintro _ w2 ⟨a,c,rfl,h1,h2,h3⟩;have H2:=Hid.mk (And.intro h1 (And.intro h2 h3));clear h1 h2 h3)
 go_ret
 exact⟨a,c,rfl,H2.out⟩
set_option maxHeartbeats 1000000 in
theorem frameLen_nil (w:World):Calls Tryz.prog 213 #[.slice none 0 0] w fun x w'=>x= .returned (.int .i64 6)/\w'=w:=by
 go_enter Tryz.func213,Tryz.ntmps213
 go_wp2_with fail
 go_loopw [12,3] (fun iv rv wr=>iv= .int .i64 0/\rv= .int .i64 6/\wr=w) (fun _ _ _=>0)
 case atStart=>exact⟨rfl,rfl,rfl⟩
 case round =>
  obtain⟨rfl,rfl,rfl⟩:=hrel
  have h0:¬(0:Int)<max (min 2 0) 0:=by decide
  go_wp2_with fail
  go_ret
  exact⟨rfl,rfl⟩
set_option maxHeartbeats 1000000 in
theorem cutFrame_nil (w:World):Calls Tryz.prog 174 #[.slice none 0 0] w fun x w'=>x= .returned (.tuple #[.slice none 0 0, .int .i64 6, .bool false])/\w'=w:=by
 go_enter Tryz.func174,Tryz.ntmps174
 go_wp2_with (go_at_call 213;refine (frameLen_nil w).mono ?_;rintro _ w2 ⟨rfl,rfl⟩)
 go_ret3
 exact⟨rfl,rfl⟩
set_option maxHeartbeats 1000000 in
theorem tellAll_nil (w:World)(v:Value):Calls Tryz.prog 116 #[.slice none 0 0,v] w fun x w'=>x= .returned (.int .i64 0)/\w'=w:=by
 go_enter Tryz.func116,Tryz.ntmps116
 go_wp2_with fail
 go_loopw [0] (fun iv wr=>iv= .slice none 0 0/\wr=w) (fun _ _=>0)
 case atStart=>exact⟨rfl,rfl⟩
 case round =>
  obtain⟨rfl,rfl⟩:=hrel
  go_wp2_with fail
  go_ret
  exact⟨rfl,rfl⟩
theorem dread_none (w:World)(R D bd bn:Nat)(d:DkD)(i:Nat)(h:DkAt w R D bd bn d)(hd:d.down=false)(hi:i<3)(hn:d.now i=none):Calls Tryz.prog 251 #[.pointer (some ⟨D,0,none⟩), .string (nmB i)] w fun x w'=>x= .returned (.tuple #[.slice none 0 0,errV 9])/\Below w.heap.size w w':=by
 obtain⟨pa,pc,q1,q2⟩:=h.c
 obtain⟨v,hv⟩:=h.look hi
 have hv0:(Instr.lookup 98 (.map (some bn)) (.string (nmB i)) true).run Tryz.prog w= .ok (.tuple #[v, .bool false]) w:=by
  have:=hv 0
  rw [hn] at this
  exact this
 have t1:=q1.cells.1.1.1.1.2
 have t5:=q1.cells.2
 rw [hd] at t5
 have HE:=Hid.mk (show errV 9= .iface 36 (.int .i64 9) from Zap (by decide))
 obtain⟨nm,hnm⟩:∃nm,nm=nmB i:=⟨_,rfl⟩
 rw [<-hnm] at hv0 ⊢
 clear h q1 q2 hv hn hd hi hnm
 go_enter Tryz.func251,Tryz.ntmps251
 go_wp2_with fail
 go_ret2
 exact⟨by rw [HE.out];rfl,Below.refl _ _⟩
set_option maxHeartbeats 2000000 in
theorem lread_none (w:World)(R D bd bn:Nat)(d:DkD)(i:Nat)(h:DkAt w R D bd bn d)(hd:d.down=false)(hi:i<3)(hn:d.now i=none):Calls Tryz.prog 173 #[dkI D, .string (nmB i)] w fun x w'=>x= .returned (.tuple #[.slice none 0 0, .nilIface])/\Below w.heap.size w w':=by
 have HRD:=Hid.mk (dread_none w R D bd bn d i h hd hi hn)
 rw [show errV 9= .iface 36 (.int .i64 9) from Zap (by decide)] at HRD
 obtain⟨nm,hnm⟩:∃nm,nm=nmB i:=⟨_,rfl⟩
 have hm:=m_read
 unfold dkI
 rw [<-hnm] at HRD ⊢
 clear h hn hd hi hnm
 go_enter Tryz.func173,Tryz.ntmps173
 go_wp2_with (first
  | (go_at_call 251;refine HRD.out.mono ?_;rintro _ w1 ⟨rfl,hb1⟩;have HB:=Hid.mk hb1;clear hb1)
  | (go_at_call 50;refine (is_number 9 _).mono ?_;rintro _ w2 ⟨rfl,rfl⟩))
 go_ret2
 exact⟨rfl,HB.out⟩
def noFileV:Value:= .agg #[.int .i64 0, .slice none 0 0, .slice none 0 0]
theorem file_res {w:World}{rb:Nat}(h:w.heap[rb]? =some (.cells #[.int .i64 0, .slice none 0 0, .slice none 0 0] 218 (0,0))):(loadVar 218 ⟨rb,0,none⟩).run Tryz.prog w= .ok noFileV w:=by
 have z0:=Zai h 0
 have z1:=Zai h 1
 have z2:=Zai h 2
 unfold noFileV
 go_simp
set_option maxHeartbeats 4000000 in
theorem readLast_none (w:World)(R D bd bn:Nat)(d:DkD)(h:DkAt w R D bd bn d)(hd:d.down=false)(hn:∀i,i<3->d.now i=none)(hnm:Zbi w):Calls Tryz.prog 115 #[dkI D] w fun x w'=>x= .returned (.tuple #[noFileV, .nilIface])/\Below w.heap.size w w':=by
 have HRD:=Hid.mk (show ∀i w2,i<3->Below w.heap.size w w2->Calls Tryz.prog 173 #[dkI D, .string (nmB i)] w2 fun x w'=>x= .returned (.tuple #[.slice none 0 0, .nilIface])/\Below w2.heap.size w2 w' from fun i w2 hi hb=>lread_none w2 R D bd bn d i (h.below hb) hd hi (hn i hi))
 obtain⟨n0,hn0⟩:∃s,s=nmB 0:=⟨_,rfl⟩
 obtain⟨n1,hn1⟩:∃s,s=nmB 1:=⟨_,rfl⟩
 obtain⟨n2,hn2⟩:∃s,s=nmB 2:=⟨_,rfl⟩
 have HNM:=Hid.mk (show ∀w2,Below w.heap.size w w2->(w2.cell? ⟨1,0,none⟩=some (.string n0)/\w2.cell? ⟨1,1,none⟩=some (.string n1))/\w2.cell? ⟨1,2,none⟩=some (.string n2) from fun w2 hb=>by
  rw [hn0,hn1,hn2]
  exact⟨⟨cell_later hb (hnm 0 (by decide)),cell_later hb (hnm 1 (by decide))⟩,cell_later hb (hnm 2 (by decide))⟩)
 have H0:=Hid.mk (show ∀w2,Below w.heap.size w w2->Calls Tryz.prog 173 #[dkI D, .string n0] w2 fun x w'=>x= .returned (.tuple #[.slice none 0 0, .nilIface])/\Below w2.heap.size w2 w' from fun w2 hb=>by rw [hn0];exact HRD.out 0 w2 (by decide) hb)
 have H1:=Hid.mk (show ∀w2,Below w.heap.size w w2->Calls Tryz.prog 173 #[dkI D, .string n1] w2 fun x w'=>x= .returned (.tuple #[.slice none 0 0, .nilIface])/\Below w2.heap.size w2 w' from fun w2 hb=>by rw [hn1];exact HRD.out 1 w2 (by decide) hb)
 have H2:=Hid.mk (show ∀w2,Below w.heap.size w w2->Calls Tryz.prog 173 #[dkI D, .string n2] w2 fun x w'=>x= .returned (.tuple #[.slice none 0 0, .nilIface])/\Below w2.heap.size w2 w' from fun w2 hb=>by rw [hn2];exact HRD.out 2 w2 (by decide) hb)
 obtain⟨w1,hw1⟩:∃w1,w1=w.alloc (.cells #[.int .i64 0, .slice none 0 0, .slice none 0 0] 218):=⟨_,rfl⟩
 have HB1:=Hid.mk (show Below w.heap.size w w1 from by rw [hw1];exact (Below.refl _ _).alloc (Nat.le_refl _) _)
 have HW:=Hid.mk hw1
 obtain⟨dv,hdv⟩:∃dv,dv=dkI D:=⟨_,rfl⟩
 rw [<-hdv] at H0 H1 H2 ⊢
 clear h hd hn hnm hn0 hn1 hn2 HRD hw1 hdv
 go_enter Tryz.func115,Tryz.ntmps115
 go_wp2_with fail
 go_loopw [4] (fun iv wr=>(iv= .int .i64 2\/iv= .int .i64 1\/iv= .int .i64 0)/\Below w.heap.size w wr/\wr.heap[w.heap.size]? =some (.cells #[.int .i64 0, .slice none 0 0, .slice none 0 0] 218 (0,0))) (fun iv _=>(intOf iv).toNat)
 case atStart=>exact⟨Or.inl rfl,by rw [<-HW.out];exact HB1.out,heap_alloc_new w _⟩
 case round =>
  obtain⟨hi,hb,hf⟩:=hrel
  rcases hi with rfl | rfl | rfl
  ·obtain⟨⟨q0,q1⟩,q2⟩:=HNM.out wr hb
   have HF:=Hid.mk (And.intro hb hf)
   clear hb hf
   go_wp2_with (first
    | (go_at_call 173;refine (H2.out wr HF.out.1).mono ?_;rintro _ w3 ⟨rfl,hb3⟩;have HB3:=Hid.mk hb3;clear hb3)
    | (go_at_call 174;refine (cutFrame_nil _).mono ?_;rintro _ w4 ⟨rfl,rfl⟩))
   go_roundw
   case rel=>exact⟨by simp,HF.out.1.trans (HB3.out.mono HF.out.1.size),(HB3.out.block _ (Zaa HF.out.2)).trans HF.out.2⟩
   case measure=>decide
  ·obtain⟨⟨q0,q1⟩,q2⟩:=HNM.out wr hb
   have HF:=Hid.mk (And.intro hb hf)
   clear hb hf
   go_wp2_with (first
    | (go_at_call 173;refine (H1.out wr HF.out.1).mono ?_;rintro _ w3 ⟨rfl,hb3⟩;have HB3:=Hid.mk hb3;clear hb3)
    | (go_at_call 174;refine (cutFrame_nil _).mono ?_;rintro _ w4 ⟨rfl,rfl⟩))
   go_roundw
   case rel=>exact⟨by simp,HF.out.1.trans (HB3.out.mono HF.out.1.size),(HB3.out.block _ (Zaa HF.out.2)).trans HF.out.2⟩
   case measure=>decide
  ·obtain⟨⟨q0,q1⟩,q2⟩:=HNM.out wr hb
   have HF:=Hid.mk (And.intro hb hf)
   clear hb hf
   go_wp2_with (go_at_call 173;refine (H0.out wr HF.out.1).mono ?_;rintro _ w3 ⟨rfl,hb3⟩;have hf3:=(hb3.block _ (Zaa HF.out.2)).trans HF.out.2;have HB3:=Hid.mk (And.intro hb3 hf3);have y0:=Zai hf3 0;have y1:=Zai hf3 1;have y2:=Zai hf3 2;have f0:w3.frozen? ⟨w.heap.size,0,none⟩=false:=(by simp [World.frozen?,hf3]);have f1:w3.frozen? ⟨w.heap.size,1,none⟩=false:=(by simp [World.frozen?,hf3]);have f2:w3.frozen? ⟨w.heap.size,2,none⟩=false:=(by simp [World.frozen?,hf3]);clear hb3 hf3)
   have hset:(((w3.setCell ⟨w.heap.size,0,none⟩ (.int .i64 0)).setCell ⟨w.heap.size,1,none⟩ (.slice none 0 0)).setCell ⟨w.heap.size,2,none⟩ (.slice none 0 0)).heap[w.heap.size]? =some (.cells #[.int .i64 0, .slice none 0 0, .slice none 0 0] 218 (0,0)):=by
    rw [Zac (Zac (Zac HB3.out.2 _) _) _];rfl
   have hres:=file_res hset
   refine bodyPost_ret (v:= .tuple #[noFileV, .nilIface]) (by rw [results_cell_tmp rfl];simp [Result.andThen,asAddr,hres]) rfl ⟨rfl,?_⟩
   have hb3:Below w.heap.size w w3:=HF.out.1.trans (HB3.out.1.mono HF.out.1.size)
   exact ((hb3.setCell (p:=⟨w.heap.size,0,none⟩) (Nat.le_refl _) _).setCell (p:=⟨w.heap.size,1,none⟩) (Nat.le_refl _) _).setCell (p:=⟨w.heap.size,2,none⟩) (Nat.le_refl _) _
def logV (D:Nat):Value:= .agg #[dkI D, .int .i64 0, .int .i64 0, .nilIface]
theorem log_res {w:World}{rb D:Nat}(h:w.heap[rb]? =some (.cells #[dkI D, .int .i64 0, .int .i64 0, .nilIface] 125 (0,0))):(loadVar 125 ⟨rb,0,none⟩).run Tryz.prog w= .ok (logV D) w:=by
 have z0:=Zai h 0
 have z1:=Zai h 1
 have z2:=Zai h 2
 have z3:=Zai h 3
 unfold logV
 go_simp
set_option maxHeartbeats 8000000 in
theorem lopen_none (w:World)(R D bd bn M:Nat)(d:DkD)(v1 v2:Value)(h:DkAt w R D bd bn d)(hw:d.wErr=0)(hdn:d.synced.down=false)(hn:∀i,i<3->d.synced.now i=none)(hs:SzF d.dur M)(hs2:∀o∈d.pend,o.data.length<=M)(hM:M<=1099511627776)(hnm:Zbi w)(hgl:4<D/\4<bd/\4<bn/\4<R) :
  Calls Tryz.prog 71 #[dkI D,v1,v2] w fun x w'=>x= .returned (.tuple #[logV D, .nilIface])/\DkAt w' R D bd bn d.synced/\DF w w' R D bd bn/\w'.cell? ⟨D,2,none⟩=some (.slice none 0 0):=by
 obtain⟨rb,hrb⟩:∃rb,rb=w.heap.size:=⟨_,rfl⟩
 obtain⟨w1,hw1⟩:∃w1,w1=w.alloc (.cells #[.nilIface, .int .i64 0, .int .i64 0, .nilIface] 125):=⟨_,rfl⟩
 have hb1:Below w.heap.size w w1:=by rw [hw1];exact (Below.refl _ _).alloc (Nat.le_refl _) _
 have hr1:w1.heap[rb]? =some (.cells #[.nilIface, .int .i64 0, .int .i64 0, .nilIface] 125 (0,0)):=by rw [hw1,hrb];exact heap_alloc_new w _
 have h1:=h.below hb1
 obtain⟨pa,pc,dk,_⟩:=h.c
 obtain⟨Dd,f3⟩:=h.fd
 obtain⟨Dn,f4⟩:=h.fn
 have hDl:=Zaa dk.blk
 have hdl:=f3.lt
 have hnl:=f4.lt
 have HSY:=Hid.mk (show Calls Tryz.prog 253 #[.pointer (some ⟨D,0,none⟩)] w1 fun x w'=>x= .returned .nilIface/\DkAt w' R D bd bn d.synced/\DF w1 w' R D bd bn/\w'.heap[rb]? =some (.cells #[.nilIface, .int .i64 0, .int .i64 0, .nilIface] 125 (0,0))/\Zbi w'/\w'.cell? ⟨D,2,none⟩=some (.slice none 0 0) from by
  refine (dsync_all w1 R D bd bn M d h1 hs hs2 hM).mono ?_
  rintro x w' ⟨rfl,q1,q2,q9⟩
  rw [hw,Zay]
  refine⟨rfl,q1,q2,(q2.block rb (Zaa hr1) (by omega) (by omega) (by omega) (Or.inr fun cs' fr' e'=>by rw [hr1] at e';simp only [Option.some.injEq,Obj.cells.injEq] at e';exact absurd e'.2.1 (by decide))).trans hr1,fun i hi=> ?_,q9 hw⟩
  have hz:=cell_later hb1 (hnm i hi)
  have hbz:1<w1.heap.size:=World.block_lt_of_cell? _ _ hz
  exact (World.cell?_of_block (a:=⟨1,i,none⟩) (q2.block 1 hbz (by omega) (by omega) (by omega) (Or.inl (by omega)))).trans hz)
 have HRL:=Hid.mk (show ∀w2,DkAt w2 R D bd bn d.synced->Zbi w2->Calls Tryz.prog 115 #[dkI D] w2 fun x w'=>x= .returned (.tuple #[noFileV, .nilIface])/\Below w2.heap.size w2 w' from fun w2 hx hy=>readLast_none w2 R D bd bn d.synced hx hdn hn hy)
 have HR:=Hid.mk (And.intro hw1 (And.intro hrb hb1))
 have hm:=m_sync
 unfold noFileV dkI at HRL
 unfold dkI
 clear h hw hdn hn hs hs2 hM hnm hgl hrb hw1 hb1 hr1 h1 dk f3 f4 hDl hdl hnl
 go_enter Tryz.func71,Tryz.ntmps71
 go_upto_region 1 with fail
 rw [<-HR.out.1,<-HR.out.2.1]
 go_upto_region 9 with (first
  | (go_at_call 253;refine HSY.out.mono ?_;rintro _ w2 ⟨rfl,q1,q2,q3,q4,q5⟩;have H2:=Hid.mk (And.intro q1 (And.intro q2 (And.intro q3 (And.intro q4 q5))));clear q1 q2 q3 q4 q5)
  | (go_at_call 115;refine (HRL.out w2 H2.out.1 H2.out.2.2.2.1).mono ?_;rintro _ w3 ⟨rfl,hb3⟩;have hf3:=(hb3.block rb (Zaa H2.out.2.2.1)).trans H2.out.2.2.1;have H3:=Hid.mk (And.intro hb3 hf3);clear hb3 hf3))
 obtain⟨fb,hfb⟩:∃fb,fb=w3.heap.size:=⟨_,rfl⟩
 obtain⟨w4,hw4⟩:∃w4,w4=w3.alloc (.cells #[.int .i64 0, .slice none 0 0, .slice none 0 0] 218):=⟨_,rfl⟩
 rw [<-hw4,<-hfb]
 have hb4:Below w3.heap.size w3 w4:=by rw [hw4];exact (Below.refl _ _).alloc (Nat.le_refl _) _
 have hr4:=(hb4.block rb (Zaa H3.out.2)).trans H3.out.2
 have hf4:w4.heap[fb]? =some (.cells #[.int .i64 0, .slice none 0 0, .slice none 0 0] 218 (0,0)):=by rw [hw4,hfb];exact heap_alloc_new w3 _
 have z0:=Zai hf4 0
 have z2:=Zai hf4 2
 have y0:=Zai hr4 0
 have y1:=Zai hr4 1
 have y2:=Zai hr4 2
 have y3:=Zai hr4 3
 have f0:w4.frozen? ⟨rb,0,none⟩=false:=by simp [World.frozen?,hr4]
 have f1:w4.frozen? ⟨rb,1,none⟩=false:=by simp [World.frozen?,hr4]
 have f2:w4.frozen? ⟨rb,2,none⟩=false:=by simp [World.frozen?,hr4]
 have f3:w4.frozen? ⟨rb,3,none⟩=false:=by simp [World.frozen?,hr4]
 have HFIN:=Hid.mk (show (loadVar 125 ⟨rb,0,none⟩).run Tryz.prog ((((w4.setCell ⟨rb,0,none⟩ (dkI D)).setCell ⟨rb,1,none⟩ (.int .i64 0)).setCell ⟨rb,2,none⟩ (.int .i64 0)).setCell ⟨rb,3,none⟩ .nilIface).drew= .ok (logV D) ((((w4.setCell ⟨rb,0,none⟩ (dkI D)).setCell ⟨rb,1,none⟩ (.int .i64 0)).setCell ⟨rb,2,none⟩ (.int .i64 0)).setCell ⟨rb,3,none⟩ .nilIface).drew/\DkAt ((((w4.setCell ⟨rb,0,none⟩ (dkI D)).setCell ⟨rb,1,none⟩ (.int .i64 0)).setCell ⟨rb,2,none⟩ (.int .i64 0)).setCell ⟨rb,3,none⟩ .nilIface).drew R D bd bn d.synced/\DF w ((((w4.setCell ⟨rb,0,none⟩ (dkI D)).setCell ⟨rb,1,none⟩ (.int .i64 0)).setCell ⟨rb,2,none⟩ (.int .i64 0)).setCell ⟨rb,3,none⟩ .nilIface).drew R D bd bn/\((((w4.setCell ⟨rb,0,none⟩ (dkI D)).setCell ⟨rb,1,none⟩ (.int .i64 0)).setCell ⟨rb,2,none⟩ (.int .i64 0)).setCell ⟨rb,3,none⟩ .nilIface).drew.cell? ⟨D,2,none⟩=some (.slice none 0 0) from by
  have hset:(((w4.setCell ⟨rb,0,none⟩ (dkI D)).setCell ⟨rb,1,none⟩ (.int .i64 0)).setCell ⟨rb,2,none⟩ (.int .i64 0)).setCell ⟨rb,3,none⟩ .nilIface |>.drew.heap[rb]? =some (.cells #[dkI D, .int .i64 0, .int .i64 0, .nilIface] 125 (0,0)):=by
   show ((((w4.setCell ⟨rb,0,none⟩ (dkI D)).setCell ⟨rb,1,none⟩ (.int .i64 0)).setCell ⟨rb,2,none⟩ (.int .i64 0)).setCell ⟨rb,3,none⟩ .nilIface).heap[rb]? =_
   rw [Zac (Zac (Zac (Zac hr4 _) _) _) _];rfl
  have ho:OneF w4 ((((w4.setCell ⟨rb,0,none⟩ (dkI D)).setCell ⟨rb,1,none⟩ (.int .i64 0)).setCell ⟨rb,2,none⟩ (.int .i64 0)).setCell ⟨rb,3,none⟩ .nilIface).drew rb:=(OneF.set4 w4 rb _ _ _ _).drew
  have hk4:DkAt w4 R D bd bn d.synced:=(H2.out.1.below H3.out.1).below hb4
  obtain⟨pa,pc,dk,_⟩:=hk4.c
  obtain⟨Dd,f3⟩:=hk4.fd
  obtain⟨Dn,f4⟩:=hk4.fn
  have hm:∀bm f Dx,FilAt w4 bm f Dx->bm≠rb:=fun bm f Dx hx e2=>by
   obtain⟨es,c,e3,_⟩:=hx.own
   rw [e2,hr4] at e3;cases e3
  refine⟨log_res hset,hk4.keep ho.size (ho.block D (Zaa dk.blk) (Zak dk.blk hr4 (by decide))) (ho.block bd f3.lt (hm _ _ _ f3)) (ho.block bn f4.lt (hm _ _ _ f4)) (fun k cs t fr e ht=>ho.block k (Zaa e) (Zak e hr4 (by rcases ht with rfl | rfl<;>decide))),?_,(World.cell?_of_block (a:=⟨D,2,none⟩) (ho.block D (Zaa dk.blk) (Zak dk.blk hr4 (by decide)))).trans (cell_later hb4 (cell_later H3.out.1 H2.out.2.2.2.2))⟩
  have hd0:DF w w4 R D bd bn:=(((DF.of_below R D bd bn HR.out.2.2).trans H2.out.2.1).trans (DF.of_below R D bd bn H3.out.1)).trans (DF.of_below R D bd bn hb4)
  have hrr:=HR.out.2.1
  exact⟨ho.os.trans hd0.os,ho.tape.trans hd0.tape,ho.output.trans hd0.output,Nat.le_trans hd0.size ho.size,fun k hk a1 a2 a3 a4=>(ho.block k (Nat.lt_of_lt_of_le hk hd0.size) (by omega)).trans (hd0.block k hk a1 a2 a3 a4)⟩)
 unfold dkI at HFIN
 clear hb4 hr4 hf4 hw4 hfb
 go_region_with (go_at_call 116;refine (tellAll_nil _ v2).mono ?_;rintro _ w5 ⟨rfl,hw5⟩;rw [hw5];clear hw5)
 all_goals go_wp2_with fail
 all_goals
  refine bodyPost_ret (v:= .tuple #[logV D, .nilIface]) (by rw [results_cell_tmp rfl];simp [Result.andThen,asAddr,HFIN.out.1,Act.put]) rfl ⟨rfl,HFIN.out.2⟩
end Go.Proofs.YtgdcjccbdmcebabGreatDoor
namespace Go.Proofs.YtgdcjccbdmcebabGreatDoor
open Go.RowKit
set_option maxRecDepth 100000
def engH:List Value:=[.slice none 0 0, .slice none 0 0, .int .i64 0, .int .i64 0, .slice none 0 0, .int .i64 0, .int .i64 0, .int .u64 0, .map none]
def engZ:List Value:=engH++(List.replicate 704 (.slice none 0 0)++(List.replicate 11 (.int .u64 0)++List.replicate 3 (.int .u64 0)))
theorem engZ_slot {k:Nat}(hk:k<704):engZ[9+k]? =some (.slice none 0 0):=by
 unfold engZ
 rw [List.getElem?_append_right (show engH.length<=9+k by show 9<=9+k;omega),show 9+k - engH.length=k by show 9+k - 9=k;omega,List.getElem?_append_left (by simpa using hk),List.getElem?_replicate,if_pos hk]
theorem engZ_word {k:Nat}(hk:k<11):engZ[713+k]? =some (.int .u64 0):=by
 unfold engZ
 rw [List.getElem?_append_right (show engH.length<=713+k by show 9<=713+k;omega),show 713+k - engH.length=704+k by show 713+k - 9=704+k;omega,List.getElem?_append_right (by simp),List.length_replicate,show 704+k - 704=k by omega,List.getElem?_append_left (by simpa using hk),List.getElem?_replicate,if_pos hk]
theorem engZ_tail {k:Nat}(hk:k<3):engZ[724+k]? =some (.int .u64 0):=by
 unfold engZ
 rw [List.getElem?_append_right (show engH.length<=724+k by show 9<=724+k;omega),show 724+k - engH.length=715+k by show 724+k - 9=715+k;omega,List.getElem?_append_right (by simp;omega),List.length_replicate,show 715+k - 704=11+k by omega,List.getElem?_append_right (by simp),List.length_replicate,show 11+k - 11=k by omega,List.getElem?_replicate,if_pos hk]
theorem kp_new {w:World}{P B:Nat}(hc:∀j v,engZ[j]? =some v->w.cell? ⟨P,4+j,none⟩=some v)(hf:∀o,w.frozen? ⟨P,o,none⟩=false)(hP:P<B)(hB:B<=w.heap.size):KpAt w P B none Za5:=by
 have hz:∀j v,engZ[j]? =some v->w.cell? ⟨P,4+j,none⟩=some v:=hc
 have nil:∀(t:TypeId) (s:Nat),w.ownsRow B t s (.slice none 0 0) 0 []:=fun t s=>World.ownsRow_nil _ _ _ _
 have hp:PwAt w P B noK 0 (.map none) (fun _=> .slice none 0 0) (fun _=>[]) (fun _=>0):=by
  refine⟨hc 7 _ rfl,hc 8 _ rfl,fun k hk=> ?_,fun k hk=> ?_,hf,fun k _=>World.ownsRow_nil _ _ _ _,fun j k _ _ _ z hz=>by simp [Value.ownBlock] at hz,hP,hB,fun k _ z hz=>by simp [Value.ownBlock] at hz,fun z hz=>by cases hz⟩
  ·have:=hc (9+k) _ (engZ_slot hk)
   rwa [show 4+(9+k)=13+k by omega] at this
  ·have:=hc (713+k) _ (engZ_word hk)
   rwa [show 4+(713+k)=717+k by omega] at this
 have e:Zaf 0 []=fun _=>[]:=by funext j;rfl
 have hw:WhAt w P B noK 0 []:=by
  refine⟨⟨_,_,fun _=>0,by rw [e];exact hp,Or.inl ⟨rfl,rfl⟩,?_⟩,by omega,by simp,(fun t ht=>by cases ht),(fun i hi=>by simp at hi),(fun i j _ hj=>by simp at hj)⟩
  intro L _
  refine⟨by show 0<_;decide,fun s _=> ?_⟩
  rw [e]
  simp
 refine⟨[],[],⟨⟨[],0,⟨⟨none,0,⟨hc 0 _ rfl,hf,?_,fun i hi=>by simp at hi,fun i j hi=>by simp at hi,fun i j hi=>by simp at hi,hP,hB,by simp⟩⟩,⟨none,0,0,0,[],⟨hc 1 _ rfl,hc 2 _ rfl,hc 3 _ rfl,hf,nil _ _,rfl,RingIs.nil,by omega,hP,hB⟩,rfl⟩,⟨none,0,0,0,[],⟨hc 4 _ rfl,hc 5 _ rfl,hc 6 _ rfl,hf,nil _ _,rfl,RingIs.nil,by omega,hP,hB⟩⟩,hw,hc 724 _ (engZ_tail (k:=0) (by decide)),hc 725 _ (engZ_tail (k:=1) (by decide)),hc 726 _ (engZ_tail (k:=2) (by decide)),hf⟩,rfl,⟨[],rfl,fun i=>by simp [Za5],List.Pairwise.nil⟩⟩,rfl,fun i hi=>by simp [Za5] at hi⟩,?_⟩
 ·exact nil _ _
 ·exact⟨fun i j hi hj=>by simp at hj,fun d hd=>by simp [Za5,EngD.dues] at hd,fun t ht=>by cases ht⟩
end Go.Proofs.YtgdcjccbdmcebabGreatDoor
