import Derived.Test.YtgdcjccbdmcebabGreatDoorM50
import Derived.Test.YtgdcjccbdmcebabGreatDoorM52
set_option linter.unusedSimpArgs false
set_option linter.unusedVariables false
namespace Go.Proofs.YtgdcjccbdmcebabGreatDoor
open Go.RowKit
set_option maxRecDepth 100000
attribute [local go_sem ↓] Go.wp_at_zero Go.wp_at_succ
theorem ez_list:Tryz.zeroCells142=([Value.nilIface,Value.int .i64 0,Value.int .i64 0,Value.nilIface]++engZ).toArray:=by kernel_rfl
theorem ez_size:Tryz.zeroCells142.size=731:=by kernel_rfl
theorem cell_at2 {w:World}{b:Nat}{cs:Array Value}{t:TypeId}{fr:Nat×Nat}(h:w.heap[b]? =some (.cells cs t fr)){j:Nat}{v:Value}(hj:cs[j]? =some v):w.cell? ⟨b,j,none⟩=some v:=by simp [World.cell?,h,hj]
theorem ez_at {w:World}{b:Nat}{t:TypeId}{fr:Nat×Nat}(h:w.heap[b]? =some (.cells Tryz.zeroCells142 t fr)){j:Nat}{v:Value}(hj:([Value.nilIface,Value.int .i64 0,Value.int .i64 0,Value.nilIface]++engZ)[j]? =some v):w.cell? ⟨b,j,none⟩=some v:=cell_at2 h (by rw [ez_list];simpa using hj)
structure OpR (w wc:World)(P R D bd bn lb:Nat)(d:DkD):Prop where
 lg:wc.heap[lb]? =some (.cells #[dkI D, .int .i64 0, .int .i64 0, .nilIface] 125 (0,0))
 p:wc.heap[P]? =some (.cells Tryz.zeroCells142 142 (0,0))
 dk:DkAt wc R D bd bn d
 df:DF w wc R D bd bn
 nil:wc.cell? ⟨D,2,none⟩=some (.slice none 0 0)
theorem OpR.new {w w3:World}{P R D bd bn:Nat}{d:DkD}(p:w3.heap[P]? =some (.cells Tryz.zeroCells142 142 (0,0)))(dk:DkAt w3 R D bd bn d)(df:DF w w3 R D bd bn)(nil:w3.cell? ⟨D,2,none⟩=some (.slice none 0 0)):OpR w (w3.alloc (.cells #[dkI D, .int .i64 0, .int .i64 0, .nilIface] 125)) P R D bd bn w3.heap.size d:=by
 have hb:Below w3.heap.size w3 (w3.alloc (.cells #[dkI D, .int .i64 0, .int .i64 0, .nilIface] 125)):=(Below.refl _ _).alloc (Nat.le_refl _) _
 exact⟨heap_alloc_new _ _,(hb.block P (Zaa p)).trans p,dk.below hb,df.trans (DF.of_below R D bd bn hb),cell_later hb nil⟩
theorem OneF.fit {w w':World}{R D bd bn rb:Nat}{d:DkD}{cs:Array Value}{t:TypeId}{fr:Nat×Nat}(ho:OneF w w' rb)(hr:w.heap[rb]? =some (.cells cs t fr))(ht:t≠9/\t≠147/\t≠101)(dk:DkAt w R D bd bn d):DkAt w' R D bd bn d:=by
 obtain⟨pa,pc,q,_⟩:=dk.c
 obtain⟨Dd,f3⟩:=dk.fd
 obtain⟨Dn,f4⟩:=dk.fn
 have hm:∀bm f Dx,FilAt w bm f Dx->bm≠rb:=fun bm f Dx hx e2=>by
  obtain⟨es,c,e3,_⟩:=hx.own
  rw [e2,hr] at e3;cases e3
 exact dk.keep ho.size (ho.block D (Zaa q.blk) (Zak q.blk hr (Ne.symm ht.2.2))) (ho.block bd f3.lt (hm _ _ _ f3)) (ho.block bn f4.lt (hm _ _ _ f4)) (fun k cs t' fr e h'=>ho.block k (Zaa e) (Zak e hr (by rcases h' with rfl | rfl;exact Ne.symm ht.1;exact Ne.symm ht.2.1)))
theorem DF.far {w w1 w':World}{R D bd bn rb:Nat}(h:DF w w1 R D bd bn)(ho:OneF w1 w' rb)(hr:w.heap.size<=rb):DF w w' R D bd bn :=
 ⟨ho.os.trans h.os,ho.tape.trans h.tape,ho.output.trans h.output,Nat.le_trans h.size ho.size,fun k hk a1 a2 a3 a4=>(ho.block k (Nat.lt_of_lt_of_le hk h.size) (by omega)).trans (h.block k hk a1 a2 a3 a4)⟩
theorem OpR.old {w w3:World}{P R D bd bn lb:Nat}{d:DkD}(p:w3.heap[P]? =some (.cells Tryz.zeroCells142 142 (0,0)))(dk:DkAt w3 R D bd bn d)(df:DF w w3 R D bd bn)(hl:w3.heap[lb]? =some (.cells #[.nilIface, .int .i64 0, .int .i64 0, .nilIface] 125 (0,0)))(hlb:w.heap.size<=lb)(nil:w3.cell? ⟨D,2,none⟩=some (.slice none 0 0))(hDlb:D≠lb):OpR w ((((w3.setCell ⟨lb,0,none⟩ (dkI D)).setCell ⟨lb,1,none⟩ (.int .i64 0)).setCell ⟨lb,2,none⟩ (.int .i64 0)).setCell ⟨lb,3,none⟩ .nilIface) P R D bd bn lb d:=by
 have ho:=OneF.set4 w3 lb (dkI D) (.int .i64 0) (.int .i64 0) .nilIface
 exact⟨by rw [Zac (Zac (Zac (Zac hl _) _) _) _];rfl,(ho.block P (Zaa p) (Zak p hl (by decide))).trans p,ho.fit hl (by decide) dk,df.far ho hlb,(World.cell?_of_block (a:=⟨D,2,none⟩) (ho.block D (World.block_lt_of_cell? _ _ nil) hDlb)).trans nil⟩
set_option maxHeartbeats 2000000 in
theorem eopen_none (w:World)(R D bd bn M:Nat)(d:DkD)(h:DkAt w R D bd bn d)(hw:d.wErr=0)(hdn:d.synced.down=false)(hn:∀i,i<3->d.synced.now i=none)(hs:SzF d.dur M)(hs2:∀o∈d.pend,o.data.length<=M)(hM:M<=1099511627776)(hnm:Zbi w)(hgl:4<D/\4<bd/\4<bn/\4<R) :
  Calls Tryz.prog 46 #[dkI D] w fun x w'=>∃P,x= .returned (.tuple #[.pointer (some ⟨P,0,none⟩), .nilIface])/\w.heap.size<=P/\P<w'.heap.size/\LogAt w' P D ⟨0,0,0⟩/\(∀j v,engZ[j]? =some v->w'.cell? ⟨P,4+j,none⟩=some v)/\DkAt w' R D bd bn d.synced/\DF w w' R D bd bn/\w'.cell? ⟨D,2,none⟩=some (.slice none 0 0):=by
 obtain⟨P,hP⟩:∃P,P=w.heap.size:=⟨_,rfl⟩
 obtain⟨w1,hw1⟩:∃w1,w1=w.alloc (.cells Tryz.zeroCells142 142):=⟨_,rfl⟩
 have hb1:Below w.heap.size w w1:=by rw [hw1];exact (Below.refl _ _).alloc (Nat.le_refl _) _
 have hp1:w1.heap[P]? =some (.cells Tryz.zeroCells142 142 (0,0)):=by rw [hw1,hP];exact heap_alloc_new w _
 obtain⟨pa,pc,dk,_⟩:=h.c
 obtain⟨Dd,f3⟩:=h.fd
 obtain⟨Dn,f4⟩:=h.fn
 have hDl:=Zaa dk.blk
 have hdl:=f3.lt
 have hnl:=f4.lt
 have HOP:=Hid.mk (show ∀wx v1 v2,Below w1.heap.size w1 wx->Calls Tryz.prog 71 #[dkI D,v1,v2] wx fun x w'=>x= .returned (.tuple #[logV D, .nilIface])/\DkAt w' R D bd bn d.synced/\DF w w' R D bd bn/\w'.cell? ⟨D,2,none⟩=some (.slice none 0 0)/\w'.heap[P]? =some (.cells Tryz.zeroCells142 142 (0,0))/\∀k cs,w.heap.size<=k->wx.heap[k]? =some (.cells cs 125 (0,0))->w'.heap[k]? =some (.cells cs 125 (0,0)) from fun wx v1 v2 hbx=>by
  have hbw:Below w.heap.size w wx:=hb1.trans (hbx.mono hb1.size)
  refine (lopen_none wx R D bd bn M d v1 v2 (h.below hbw) hw hdn hn hs hs2 hM (fun i hi=>cell_later hbw (hnm i hi)) hgl).mono ?_
  rintro x w' ⟨rfl,q1,q2,q9⟩
  have hpx:=(hbx.block P (Zaa hp1)).trans hp1
  refine⟨rfl,q1,(DF.of_below R D bd bn hbw).trans q2,q9,(q2.block P (Zaa hpx) (by omega) (by omega) (by omega) (Or.inr fun cs' fr' e'=>by rw [hpx] at e';simp only [Option.some.injEq,Obj.cells.injEq] at e';exact absurd e'.2.1 (by decide))).trans hpx,fun k cs hk hkx=>(q2.block k (Zaa hkx) (by omega) (by omega) (by omega) (Or.inr fun cs' fr' e'=>by rw [hkx] at e';simp only [Option.some.injEq,Obj.cells.injEq] at e';exact absurd e'.2.1 (by decide))).trans hkx⟩)
 have HR:=Hid.mk (And.intro hw1 (And.intro hP hb1))
 have HDL:=Hid.mk hDl
 have hmf:∀(fn:Fn) (first cap:Array Value) (w:World),(Instr.makeFunc fn first cap).run Tryz.prog w= .ok (.func fn first cap) w:=fun _ _ _ _=>rfl
 unfold logV at HOP
 unfold dkI at HOP
 unfold dkI
 clear h hw hdn hn hs hs2 hM hnm hgl hP hw1 hb1 hp1 dk f3 f4 hDl hdl hnl
 go_enter Tryz.func46,Tryz.ntmps46
 go_upto_region 3 with fail
 go_upto_region 4 with fail
 rw [<-HR.out.1,<-HR.out.2.1]
 go_cut [5,6] from 12 to 24 (fun lv ev wc=>∃lb,lv= .pointer (some ⟨lb,0,none⟩)/\ev= .nilIface/\OpR w wc P R D bd bn lb d.synced)
 case first =>
  go_region_with (go_at_call 71;first
   | (refine (HOP.out w1.drew _ _ ((Below.refl _ _).drew)).mono ?_;rintro _ w3 ⟨rfl,q1,q2,q9,q3,q4⟩;have H3:=Hid.mk (And.intro q1 (And.intro q2 (And.intro q3 q9)));clear q1 q2 q9 q3 q4)
   | (refine (HOP.out _ _ _ (((Below.refl _ _).alloc (Nat.le_refl _) _).drew)).mono ?_;rintro _ w3 ⟨rfl,q1,q2,q9,q3,q4⟩;have q5:=q4 w1.heap.size _ HR.out.2.2.size (heap_alloc_new w1 _);have q6:∀o,w3.frozen? ⟨w1.heap.size,o,none⟩=false:=(fun o=>by simp [World.frozen?,q5]);have e0:=Zai q5 0;have e1:=Zai q5 1;have e2:=Zai q5 2;have e3:=Zai q5 3;have g0:=q6 0;have g1:=q6 1;have g2:=q6 2;have g3:=q6 3;have H3:=Hid.mk (And.intro q1 (And.intro q2 (And.intro q3 (And.intro q5 q9))));clear q1 q2 q9 q3 q4 q5 q6))
  all_goals go_wp2_with fail
  all_goals go_meet
  all_goals first
   | exact⟨_,rfl,rfl,OpR.new H3.out.2.2.1 H3.out.1 H3.out.2.1 H3.out.2.2.2⟩
   | exact⟨_,rfl,rfl,OpR.old H3.out.2.2.1 H3.out.1 H3.out.2.1 H3.out.2.2.2.1 HR.out.2.2.size H3.out.2.2.2.2 (by have:=HDL.out;have:=HR.out.2.2.size;omega)⟩
 case rest =>
  obtain⟨lb,rfl,rfl,hop⟩:=hcut
  have hlg:=hop.lg
  unfold dkI at hlg
  have e0:=Zai hlg 0
  have e1:=Zai hlg 1
  have e2:=Zai hlg 2
  have e3:=Zai hlg 3
  have z0:=ez_at hop.p (j:=0) rfl
  have z1:=ez_at hop.p (j:=1) rfl
  have z2:=ez_at hop.p (j:=2) rfl
  have z3:=ez_at hop.p (j:=3) rfl
  have g0:wc.frozen? ⟨P,0,none⟩=false:=by simp [World.frozen?,hop.p]
  have g1:wc.frozen? ⟨P,1,none⟩=false:=by simp [World.frozen?,hop.p]
  have g2:wc.frozen? ⟨P,2,none⟩=false:=by simp [World.frozen?,hop.p]
  have g3:wc.frozen? ⟨P,3,none⟩=false:=by simp [World.frozen?,hop.p]
  have HP:=Hid.mk hop
  clear hop hlg
  go_wp2_with fail
  go_ret2
  have hp:=HP.out.p
  have ho:=OneF.set4 wc P (dkI D) (.int .i64 0) (.int .i64 0) .nilIface
  have hset:((((wc.setCell ⟨P,0,none⟩ (dkI D)).setCell ⟨P,1,none⟩ (.int .i64 0)).setCell ⟨P,2,none⟩ (.int .i64 0)).setCell ⟨P,3,none⟩ .nilIface).heap[P]? =some (.cells ((((Tryz.zeroCells142.setIfInBounds 0 (dkI D)).setIfInBounds 1 (.int .i64 0)).setIfInBounds 2 (.int .i64 0)).setIfInBounds 3 .nilIface) 142 (0,0)):=by
   rw [Zac (Zac (Zac (Zac hp _) _) _) _]
  have hfz:∀o,((((wc.setCell ⟨P,0,none⟩ (dkI D)).setCell ⟨P,1,none⟩ (.int .i64 0)).setCell ⟨P,2,none⟩ (.int .i64 0)).setCell ⟨P,3,none⟩ .nilIface).frozen? ⟨P,o,none⟩=false:=fun o=>by simp only [World.frozen?,hset];simp
  have hsz:=ez_size
  refine⟨P,rfl,Nat.le_of_eq HR.out.2.1.symm,Zaa hset,⟨?_,?_,?_,?_,hfz⟩,fun j v hj=> ?_,ho.fit hp (by decide) HP.out.dk,HP.out.df.far ho (Nat.le_of_eq HR.out.2.1.symm),(World.cell?_of_block (a:=⟨D,2,none⟩) (ho.block D (World.block_lt_of_cell? _ _ HP.out.nil) (by have:=HDL.out;have:=HR.out.2.1;omega))).trans HP.out.nil⟩
  ·exact cell_at2 hset (by rw [Array.getElem?_setIfInBounds_ne (by decide),Array.getElem?_setIfInBounds_ne (by decide),Array.getElem?_setIfInBounds_ne (by decide),Array.getElem?_setIfInBounds_self_of_lt (by rw [hsz];decide)])
  ·exact cell_at2 hset (by rw [Array.getElem?_setIfInBounds_ne (by decide),Array.getElem?_setIfInBounds_ne (by decide),Array.getElem?_setIfInBounds_self_of_lt (by simp [hsz])];rfl)
  ·exact cell_at2 hset (by rw [Array.getElem?_setIfInBounds_ne (by decide),Array.getElem?_setIfInBounds_self_of_lt (by simp [hsz])];rfl)
  ·exact cell_at2 hset (by rw [Array.getElem?_setIfInBounds_self_of_lt (by simp [hsz])];rfl)
  ·refine cell_at2 hset ?_
   rw [Array.getElem?_setIfInBounds_ne (by omega),Array.getElem?_setIfInBounds_ne (by omega),Array.getElem?_setIfInBounds_ne (by omega),Array.getElem?_setIfInBounds_ne (by omega),ez_list]
   rw [List.getElem?_toArray,List.getElem?_append_right (by simp)]
   simpa using hj
structure HF (w w':World)(hb D bd bn:Nat):Prop where
 os:w'.os=w.os
 tape:w'.tape=w.tape
 output:w'.output=w.output
 size:w.heap.size<=w'.heap.size
 block:∀k,k<w.heap.size->k≠hb->k≠D->k≠bd->k≠bn->w'.heap[k]? =w.heap[k]?
structure OpnR (w w':World)(fb hb P D bd bn:Nat):Prop where
 pw:w.heap.size<=P
 pl:P<w'.heap.size
 log:LogAt w' P D ⟨0,0,0⟩
 cells:∀j v,engZ[j]? =some v->w'.cell? ⟨P,4+j,none⟩=some v
 dk:∃R,DkAt w' R D bd bn (DkD.synced ⟨noFil,noFil,[],-1,-1,false⟩)
 nil:w'.cell? ⟨D,2,none⟩=some (.slice none 0 0)
 host:HostC w' hb D (.pointer none)
 fall:w'.heap[fb]? =some (.cells #[.int .i64 (-1), .int .i64 (-1), .int .i64 0, .int .i64 0] 26 (0,0))
 hf:HF w w' hb D bd bn
def dkNew:DkD:=⟨noFil,noFil,[],-1,-1,false⟩
theorem dkNew_s:dkNew.synced=⟨noFil,noFil,[],-2,-2,false⟩:=by
 simp [DkD.synced,dkNew,DkD.wErr,DkD.wrote,wI]
theorem well_new {N:Nat}(hN:2000000<=N):WellS ⟨0,0,0⟩ (DkD.calm dkNew.synced) N Za5:=by
 rw [dkNew_s]
 exact⟨rfl,rfl,rfl,rfl,rfl,rfl,rfl,fun i s h=>(by cases h),fun i s h=>(by cases h),hN,[], .nil _,filR_nil.symm,filR_nil.symm⟩
set_option maxHeartbeats 8000000 in
theorem hopen_none (w:World)(hb D bd bn N:Nat)(h:HostN w hb D bd bn)(he:ErrTypeIn w)(hnm:Zbi w)(ht:TabIn w)(hgl:4<hb/\4<D/\4<bd/\4<bn)(hne:hb≠D/\hb≠bd/\hb≠bn)(hN:2000000<=N) :
  Calls Tryz.prog 22 #[.pointer (some ⟨hb,0,none⟩),Zbq (-1) (-1) 0 0] w fun x w'=>x= .returned (.int .i64 0)/\∃P B,HostAt w' hb P B B D bd bn none N Za5/\w.heap.size<=P/\w.heap.size<=B/\HF w w' hb D bd bn:=by
 obtain⟨fb,hfb⟩:∃fb,fb=w.heap.size:=⟨_,rfl⟩
 obtain⟨w1,hw1⟩:∃w1,w1=w.alloc (.cells #[.int .i64 (-1), .int .i64 (-1), .int .i64 0, .int .i64 0] 26):=⟨_,rfl⟩
 have hb1:Below w.heap.size w w1:=by rw [hw1];exact (Below.refl _ _).alloc (Nat.le_refl _) _
 have hfk:w1.heap[fb]? =some (.cells #[.int .i64 (-1), .int .i64 (-1), .int .i64 0, .int .i64 0] 26 (0,0)):=by rw [hw1,hfb];exact heap_alloc_new w _
 have hhl:=Zaa h.host.blk
 have hDl:=Zaa h.dk.blk
 obtain⟨Dd,hfd⟩:=h.fd
 obtain⟨Dn,hfn⟩:=h.fn
 have hdl:=hfd.lt
 have hnl:=hfn.lt
 have hbe:0<w.heap.size:=World.block_lt_of_cell? _ _ he
 have hh1:=h.host.at_ (hb1.block hb hhl)
 have hd1:=h.dk.at_ (hb1.block D hDl)
 have hns:∀k s,StrAt w1 k s->k≠D:=fun k s e y=>by
  unfold StrAt at e
  rw [y,hd1.blk] at e
  simp only [Option.some.injEq,Obj.cells.injEq] at e
  exact absurd e.2.1 (by decide)
 have hmD:bd≠D/\bn≠D:=⟨fun e=>(by
  obtain⟨es,c,e3,_⟩:=hfd.own
  rw [e,h.dk.blk] at e3;cases e3),fun e=>(by
  obtain⟨es,c,e3,_⟩:=hfn.own
  rw [e,h.dk.blk] at e3;cases e3)⟩
 have HBEF:=Hid.mk (show Calls Tryz.prog 28 #[.pointer (some ⟨hb,0,none⟩),Zbq (-1) (-1) 0 0] w1 fun x w'=>x= .returned (.tuple #[])/\HostC w' hb D (.pointer none)/\DkAt w' w1.heap.size D bd bn dkNew/\OneF w1 w' D from by
  refine (before_any w1 hb D bd bn _ _ _ _ false (-1) (-1) 0 0 hh1 hd1).mono ?_
  rintro x w' ⟨rfl,q1,q2⟩
  refine⟨rfl,hh1.at_ (q2.block hb (by have:=hb1.size;omega) hne.1),⟨q2.size,⟨none,0,q1,World.ownsRow_nil _ _ _ _⟩,⟨Dd,(hfd.below hb1).keepS (q2.block bd (by have:=hb1.size;omega) hmD.1) (fun k s e=>q2.block k (Zaa e) (hns k s e))⟩,⟨Dn,(hfn.below hb1).keepS (q2.block bn (by have:=hb1.size;omega) hmD.2) (fun k s e=>q2.block k (Zaa e) (hns k s e))⟩,h.ne,Nat.zero_le _,fun o ho=>by cases ho⟩,q2⟩)
 have HR:=Hid.mk (And.intro hw1 (And.intro hfb (And.intro hb1 hfk)))
 have HL:=Hid.mk (And.intro hhl (And.intro hDl (And.intro hdl (And.intro hnl hbe))))
 have HE:=Hid.mk (And.intro he (And.intro hnm (And.intro ht (And.intro hgl hne))))
 have c0:w1.cell? ⟨hb,0,none⟩=some (.pointer (some ⟨D,0,none⟩)):=hh1.cells.1
 have z0:w1.cell? ⟨fb,0,none⟩=some (.int .i64 (-1)):=by unfold World.cell?;rw [hfk];rfl
 have z1:w1.cell? ⟨fb,1,none⟩=some (.int .i64 (-1)):=by unfold World.cell?;rw [hfk];rfl
 have z2:w1.cell? ⟨fb,2,none⟩=some (.int .i64 0):=by unfold World.cell?;rw [hfk];rfl
 have z3:w1.cell? ⟨fb,3,none⟩=some (.int .i64 0):=by unfold World.cell?;rw [hfk];rfl
 unfold Zbq at HBEF ⊢
 clear h he hnm ht hgl hne hfb hw1 hb1 hfk hhl hDl hfd hfn hdl hnl hbe hh1 hd1 hns hmD
 go_enter Tryz.func22,Tryz.ntmps22
 go_upto_region 1 with fail
 rw [<-HR.out.2.1,<-HR.out.1]
 go_upto_region 2 with (go_at_call 28;refine HBEF.out.mono ?_;rintro _ w2 ⟨rfl,q1,q2,q3⟩;have H2:=Hid.mk (And.intro q1 (And.intro q2 q3));clear q1 q2 q3)
 have HOP:=Hid.mk (show Calls Tryz.prog 46 #[dkI D] w2 fun x w'=>∃P,x= .returned (.tuple #[.pointer (some ⟨P,0,none⟩), .nilIface])/\OpnR w w' fb hb P D bd bn from by
  obtain⟨g1,g2,g3,g4⟩:=HE.out.2.2.2.1
  obtain⟨l1,l2,l3,l4,l5⟩:=HL.out
  obtain⟨r1,r2,r3,r4⟩:=HR.out
  obtain⟨a1,a2,a3⟩:=H2.out
  have hs:=r3.size
  have hnm2:Zbi w2:=fun i hi=>by
   have hz:=cell_later r3 (HE.out.2.1 i hi)
   exact (World.cell?_of_block (a:=⟨1,i,none⟩) (a3.block 1 (World.block_lt_of_cell? _ _ hz) (by omega))).trans hz
  refine (eopen_none w2 w1.heap.size D bd bn 0 dkNew a2 (by simp [DkD.wErr,dkNew]) (by rw [dkNew_s]) (fun i _=>by rw [dkNew_s];rfl) (fun i s h=>by cases h) (fun o h=>by cases h) (by omega) hnm2 ⟨g2,g3,g4,by omega⟩).mono ?_
  rintro x w' ⟨P,rfl,b1,b2,b3,b4,b5,b6,b7⟩
  have e2:=a3.size
  have hfb2:w2.heap[fb]? =some (.cells #[.int .i64 (-1), .int .i64 (-1), .int .i64 0, .int .i64 0] 26 (0,0)):=(a3.block fb (Zaa r4) (by omega)).trans r4
  have stay:∀k,k<w.heap.size->k≠D->k≠bd->k≠bn->w'.heap[k]? =w.heap[k]? :=fun k hk k1 k2 k3=>by
   rw [b6.block k (by omega) k1 k2 k3 (Or.inl (by omega)),a3.block k (by omega) k1,r3.block k hk]
  refine⟨P,rfl,by omega,b2,b3,b4,⟨_,b5⟩,b7,a1.at_ (b6.block hb (by omega) HE.out.2.2.2.2.1 HE.out.2.2.2.2.2.1 HE.out.2.2.2.2.2.2 (Or.inl (by omega))),(b6.block fb (Zaa hfb2) (by omega) (by omega) (by omega) (Or.inr fun cs' fr' e'=>by rw [hfb2] at e';simp only [Option.some.injEq,Obj.cells.injEq] at e';exact absurd e'.2.1 (by decide))).trans hfb2,⟨b6.os.trans (a3.os.trans r3.os),b6.tape.trans (a3.tape.trans r3.tape),b6.output.trans (a3.output.trans r3.output),by have:=b6.size;omega,fun k hk _ k1 k2 k3=>stay k hk k1 k2 k3⟩⟩)
 obtain⟨a0,_⟩:=H2.out.1.cells
 have a1:w2.cell? ⟨hb,0,none⟩=some (.pointer (some ⟨D,0,none⟩)):=a0
 unfold dkI at HOP
 clear a0 z0 z1 z2 z3 c0
 go_upto_region 3 with (go_at_call 46;refine HOP.out.mono ?_;rintro _ w3 ⟨P,rfl,hop⟩;have HP:=Hid.mk hop;clear hop)
 have hh3:=HP.out.host
 have b1:=hh3.cells.2
 have f1:w3.frozen? ⟨hb,1,none⟩=false:=hh3.froz 1
 clear a1
 go_upto_region 4 with fail
 obtain⟨w4,hw4⟩:∃w4,w4=w3.setCell ⟨hb,1,none⟩ (.pointer (some ⟨P,0,none⟩)):=⟨_,rfl⟩
 rw [<-hw4]
 have ho:OneF w3 w4 hb:=by rw [hw4];exact (OneF.refl w3 hb).set 1 _
 have hh4:HostC w4 hb D (.pointer (some ⟨P,0,none⟩)):=by rw [hw4];exact hh3.set _
 have HW4:=Hid.mk (And.intro hw4 (And.intro ho hh4))
 obtain⟨g1,g2,g3,g4⟩:=HE.out.2.2.2.1
 obtain⟨n1,n2,n3⟩:=HE.out.2.2.2.2
 obtain⟨l1,l2,l3,l4,l5⟩:=HL.out
 obtain⟨r1,r2,r3,r4⟩:=HR.out
 have hrs:=r3.size
 have hop:=HP.out
 have hPw:=hop.pw
 have hs3:=hop.hf.size
 have hsz:=ho.size
 have hPl:=hop.pl
 have hcell:∀o v,w3.cell? ⟨P,o,none⟩=some v->w4.cell? ⟨P,o,none⟩=some v:=fun o v e=>(World.cell?_of_block (a:=⟨P,o,none⟩) (ho.block P hPl (by omega))).trans e
 have hfz:∀o,w4.frozen? ⟨P,o,none⟩=false:=fun o=>(World.frozen?_of_block (a:=⟨P,o,none⟩) (ho.block P hPl (by omega))).trans (hop.log.fz o)
 have hold:∀k,k<w.heap.size->k≠hb->k≠D->k≠bd->k≠bn->w4.heap[k]? =w.heap[k]? :=fun k hk k0 k1 k2 k3=>(ho.block k (by omega) k0).trans (hop.hf.block k hk k0 k1 k2 k3)
 have hgn:1<w.heap.size:=World.block_lt_of_cell? _ _ (HE.out.2.1 0 (by omega))
 have hgt:2<w.heap.size:=World.block_lt_of_cell? _ _ (HE.out.2.2.1 0 (by omega))
 have hE4:EngAt w4 P w3.heap.size w3.heap.size D bd bn none ⟨0,0,0⟩ dkNew.synced Za5:=by
  refine⟨kp_new (fun j v hj=>hcell _ _ (hop.cells j v hj)) hfz hPl hsz,⟨hcell _ _ hop.log.c0,hcell _ _ hop.log.c1,hcell _ _ hop.log.c2,hcell _ _ hop.log.c3,hfz⟩,?_,fun i hi=> ?_,?_,⟨⟨by omega,by omega,by omega,hPl,by omega,by omega,by omega,by omega⟩,hPl,by omega,by omega,by omega⟩⟩
  ·obtain⟨R0,hdk⟩:=hop.dk
   refine DkAt.raise (R:=R0) (ho.fit hh3.blk (by decide) hdk) (by rw [dkNew_s]) ?_ hsz
   exact (World.cell?_of_block (a:=⟨D,2,none⟩) (ho.block D (by omega) (by omega))).trans hop.nil
  ·exact (World.cell?_of_block (a:=⟨1,i,none⟩) (hold 1 hgn (by omega) (by omega) (by omega) (by omega))).trans (HE.out.2.1 i hi)
  ·exact HE.out.2.2.1.at_ (hold 2 hgt (by omega) (by omega) (by omega) (by omega))
 have hfb4:w4.heap[fb]? =some (.cells #[.int .i64 (-1), .int .i64 (-1), .int .i64 0, .int .i64 0] 26 (0,0)):=(ho.block fb (Zaa hop.fall) (by omega)).trans hop.fall
 have he4:ErrTypeIn w4:=(World.cell?_of_block (a:=⟨0,0,none⟩) (hold 0 l5 (by omega) (by omega) (by omega) (by omega))).trans HE.out.1
 have HAFT:=Hid.mk (show Calls Tryz.prog 30 #[.pointer (some ⟨hb,0,none⟩),Zbq (-1) (-1) 0 0] w4 fun x w'=>x= .returned (.tuple #[])/\EngAt w' P w3.heap.size w3.heap.size D bd bn none ⟨0,0,0⟩ dkNew.synced.calm Za5/\OneF w4 w' D/\HostC w' hb D (.pointer (some ⟨P,0,none⟩))/\ErrTypeIn w' from by
  refine (Zda w4 hb P _ _ D bd bn none _ _ _ _ _ _ 0 0 hE4 (by rw [dkNew_s]) hh4).mono ?_
  rintro x w' ⟨rfl,q1,q2⟩
  exact⟨rfl,q1,q2,hh4.at_ (q2.block hb (Zaa hh4.blk) n1),(World.cell?_of_block (a:=⟨0,0,none⟩) (q2.block 0 (World.block_lt_of_cell? _ _ he4) (by omega))).trans he4⟩)
 have y0:w4.cell? ⟨fb,0,none⟩=some (.int .i64 (-1)):=by unfold World.cell?;rw [hfb4];rfl
 have y1:w4.cell? ⟨fb,1,none⟩=some (.int .i64 (-1)):=by unfold World.cell?;rw [hfb4];rfl
 have y2:w4.cell? ⟨fb,2,none⟩=some (.int .i64 0):=by unfold World.cell?;rw [hfb4];rfl
 have y3:w4.cell? ⟨fb,3,none⟩=some (.int .i64 0):=by unfold World.cell?;rw [hfb4];rfl
 have HK:=Hid.mk (And.intro hold (And.intro hsz (And.intro hs3 (And.intro hPw hPl))))
 unfold Zbq at HAFT
 clear hh3 b1 f1 hw4 ho hh4 g1 g2 g3 g4 n1 n2 n3 l1 l2 l3 l4 l5 r1 r2 r3 r4 hrs hop hPw hs3 hsz hPl hcell hfz hold hgn hgt hE4 hfb4 he4
 go_wp2_with (first
  | (go_at_call 30;refine HAFT.out.mono ?_;rintro _ w5 ⟨rfl,q1,q2,q3,q4⟩;have H5:=Hid.mk (And.intro q1 (And.intro q2 (And.intro q3 q4)));clear q1 q2 q3 q4)
  | (go_at_call 33;refine (Zcx 0 _ H5.out.2.2.2).mono ?_;rintro _ w6 ⟨rfl,hb6⟩;have H6:=Hid.mk hb6;clear hb6))
 go_ret
 obtain⟨hold,hsz,hs3,hPw,hPl⟩:=HK.out
 obtain⟨q1,q2,q3,q4⟩:=H5.out
 have hb6:=H6.out
 have hs5:=q2.size
 have hfr:HF w w6 hb D bd bn:=by
  have ho:=HW4.out.2.1
  have hf:=HP.out.hf
  exact⟨hb6.os.trans (q2.os.trans (ho.os.trans hf.os)),hb6.tape.trans (q2.tape.trans (ho.tape.trans hf.tape)),hb6.output.trans (q2.output.trans (ho.output.trans hf.output)),by have:=hb6.size;omega,fun k hk k0 k1 k2 k3=>(hb6.block k (by omega)).trans ((q2.block k (by omega) k1).trans (hold k hk k0 k1 k2 k3))⟩
 refine⟨rfl,P,w3.heap.size,⟨⟨_,_,q1.below hb6,well_new hN⟩,q3.at_ (hb6.block hb (Zaa q3.blk)),q4.keep hb6,?_⟩,hPw,hs3,hfr⟩
 obtain⟨l1,l2,l3,l4,l5⟩:=HL.out
 obtain⟨n1,n2,n3⟩:=HE.out.2.2.2.2
 exact⟨by omega,by omega,by omega,n1,n2,n3,HE.out.2.2.2.1.1⟩
end Go.Proofs.YtgdcjccbdmcebabGreatDoor
namespace Go.Proofs.YtgdcjccbdmcebabGreatDoor
open Go.RowKit
set_option maxRecDepth 100000
attribute [local go_sem ↓] Go.wp_at_zero Go.wp_at_succ
structure OW (w wx:World)(hb P B R D bd bn:Nat)(ob:Option Nat)(N:Nat)(e:EngD):Prop where
 host:HostAt wx hb P B R D bd bn ob N e
 bel:Below w.heap.size w wx
 far:(w.heap.size<=hb/\w.heap.size<=P/\w.heap.size<=D/\w.heap.size<=bd/\w.heap.size<=bn)/\w.heap.size<=B/\w.heap.size<=R
theorem OW.below {w wx wy:World}{hb P B R D bd bn N:Nat}{ob:Option Nat}{e:EngD}(h:OW w wx hb P B R D bd bn ob N e)(hb1:Below wx.heap.size wx wy):OW w wy hb P B R D bd bn ob N e :=
 ⟨h.host.below hb1,h.bel.trans (hb1.mono h.bel.size),h.far⟩
theorem OW.call {w wx wy:World}{hb P B R D bd bn N N':Nat}{ob ob':Option Nat}{e e':EngD}(h:OW w wx hb P B R D bd bn ob N e)(h2:HostAt wy hb P B R D bd bn ob' N' e')(hf:EF wx wy P B R D bd bn ob):OW w wy hb P B R D bd bn ob' N' e':=by
 refine⟨h2,?_,h.far⟩
 obtain⟨⟨f1,f2,f3,f4,f5⟩,f6,f7⟩:=h.far
 have hs:=h.bel.size
 exact⟨hf.os.trans h.bel.os,hf.tape.trans h.bel.tape,hf.output.trans h.bel.output,Nat.le_trans h.bel.size hf.size,fun k hk=>(hf.block k (by omega) (by omega) (by omega) (by omega) (by omega) (Or.inl (by omega)) (Or.inl (by omega))).trans (h.bel.block k hk)⟩
theorem HostAt.box {w w':World}{hb P B R D bd bn N k:Nat}{ob:Option Nat}{e:EngD}{cs:Array Value}{t:TypeId}{fr:Nat×Nat}(h:HostAt w hb P B R D bd bn ob N e)(hf:EF w w' P B R D bd bn ob)(hk:w.heap[k]? =some (.cells cs t fr))(h0:∃q x,cs[0]? =some (.int q x))(ht:t≠147/\t≠183/\t≠180/\t≠173/\t≠178/\t≠189/\t≠39)(hd:t≠101):w'.heap[k]? =some (.cells cs t fr):=by
 obtain⟨g,d,h1,_⟩:=h.ex
 obtain⟨pa,pc,dk,_⟩:=h1.dk.c
 obtain⟨Dd,f3⟩:=h1.dk.fd
 obtain⟨Dn,f4⟩:=h1.dk.fn
 have hm:∀bm f Dx,FilAt w bm f Dx->k≠bm:=fun bm f Dx hx e2=>by
  obtain⟨es,c,e3,_⟩:=hx.own
  rw [<-e2,hk] at e3;cases e3
 refine hf.keepT hk ⟨fun x=> ?_,Zak hk dk.blk hd,hm _ _ _ f3,hm _ _ _ f4⟩ ht
 subst x
 have c0:=h1.log.c0
 rw [Zam hk 0] at c0
 obtain⟨q,x,hx⟩:=h0
 rw [hx] at c0
 unfold dkI at c0
 cases c0
theorem PollW.some_ {e e' e2:EngD}{a b c f t tk:Int}{y:Bool}{p:PlD}(h:PollW e a b c f y e')(he:e.poll=some (p,t,tk,e2)):a=p.run/\b=p.node/\c=t/\f=tk/\y=true/\e'=e2:=by
 rcases h with⟨h,_⟩ | ⟨p',t',tk',h,rfl,rfl,rfl,rfl,rfl⟩
 ·rw [he] at h;cases h
 ·rw [he] at h
  simp only [Option.some.injEq,Prod.mk.injEq] at h
  obtain⟨rfl,rfl,rfl,rfl⟩:=h
  exact⟨rfl,rfl,rfl,rfl,rfl,rfl⟩
theorem PollW.none_ {e e':EngD}{a b c f:Int}{y:Bool}(h:PollW e a b c f y e')(he:e.poll=none):a=0/\b=0/\c=0/\f=0/\y=false/\e'=e:=by
 rcases h with⟨_,h⟩ | ⟨p',t',tk',h,_⟩
 ·exact h
 ·rw [he] at h;cases h
set_option maxHeartbeats 400000 in
theorem pwell_any (w:World):Calls Tryz.prog 6 #[] w fun x w'=>x= .returned (Zbq (-1) (-1) 0 0)/\Below w.heap.size w w':=by
 unfold Zbq
 go_enter Tryz.func6,Tryz.ntmps6
 go_wp2_with fail
 refine bodyPost_ret (results_cell_row rfl _ _ w.heap.size 26 #[.int .i64 (-1), .int .i64 (-1), .int .i64 0, .int .i64 0] (0,0) _ rfl (heap_alloc_new w _) Tryz.underlying26 rfl rfl) rfl ⟨rfl,(Below.refl _ _).alloc (Nat.le_refl _) _⟩
theorem fl2_flowIn {w:World}{nb ab:Nat}(hT:TabIn w)(hg:2<w.heap.size)
  (hn:w.heap[nb]? =some (.cells #[.int .i64 2, .int .i64 9, .int .i64 0, .int .i64 3, .int .i64 9, .int .i64 0, .slice none 0 0, .int .i64 1, .int .i64 9, .int .i64 0, .int .i64 1, .int .i64 1, .int .i64 0, .slice (some ⟨ab,0,none⟩) 1 1] 34 (0,0)))
  (ha:w.heap[ab]? =some (.cells #[.int .i64 0] 3 (0,0))):FlowIn w fl2 (some ⟨nb,0,none⟩) 2 (fun i=>if i=0 then none else some ⟨ab,0,none⟩) (fun i=>if i=0 then 0 else 1):=by
 have h01:∀j,j<fl2.n->j=0\/j=1:=fun j hj=>by
  have:fl2.n=2:=rfl
  omega
 have hc:=fun j=>Zam hn j
 have ha0:=Zam ha 0
 refine⟨Or.inr ⟨nb,0,rfl,Nat.le_refl _,by decide,Zaa hn,fun i hi=> ?_⟩,by decide,by decide,fun i hi h=> ?_,fun i hi=> ?_,hT,hg⟩
 ·rcases h01 i hi with rfl | rfl
  ·exact⟨hc 0,hc 1,hc 2,hc 3,hc 4,hc 5,hc 6,Or.inl rfl⟩
  ·refine⟨hc 7,hc 8,hc 9,hc 10,hc 11,hc 12,hc 13,Or.inr ⟨ab,0,rfl,Nat.le_refl _,by decide,Zaa ha,fun k hk=> ?_⟩⟩
   obtain rfl:k=0:=by replace hk:k<1:=hk;omega
   exact ha0
 ·rcases h01 i hi with rfl | rfl
  ·rfl
  ·simp at h
 ·rcases h01 i hi with rfl | rfl<;>decide
structure OX (w wx:World)(hb P B R D bd bn wb:Nat)(ob:Option Nat)(N:Nat)(e:EngD):Prop where
 ow:OW w wx hb P B R D bd bn ob N e
 wb:wx.heap[wb]? =some (.cells #[.int .i64 (-1), .int .i64 (-1), .int .i64 0, .int .i64 0] 26 (0,0))
theorem OX.below {w wx wy:World}{hb P B R D bd bn wb N:Nat}{ob:Option Nat}{e:EngD}(h:OX w wx hb P B R D bd bn wb ob N e)(hb1:Below wx.heap.size wx wy):OX w wy hb P B R D bd bn wb ob N e :=
 ⟨h.ow.below hb1,(hb1.block wb (Zaa h.wb)).trans h.wb⟩
theorem OX.call {w wx wy:World}{hb P B R D bd bn wb N N':Nat}{ob ob':Option Nat}{e e':EngD}(h:OX w wx hb P B R D bd bn wb ob N e)(h2:HostAt wy hb P B R D bd bn ob' N' e')(hf:EF wx wy P B R D bd bn ob):OX w wy hb P B R D bd bn wb ob' N' e' :=
 ⟨h.ow.call h2 hf,h.ow.host.box hf h.wb ⟨_,_,rfl⟩ (by decide) (by decide)⟩
theorem OX.cells {w wx:World}{hb P B R D bd bn wb N:Nat}{ob:Option Nat}{e:EngD}(h:OX w wx hb P B R D bd bn wb ob N e):((wx.cell? ⟨wb,0,none⟩=some (.int .i64 (-1))/\wx.cell? ⟨wb,1,none⟩=some (.int .i64 (-1)))/\wx.cell? ⟨wb,2,none⟩=some (.int .i64 0))/\wx.cell? ⟨wb,3,none⟩=some (.int .i64 0):=by
 refine⟨⟨⟨?_,?_⟩,?_⟩,?_⟩<;>(rw [Zam h.wb];rfl)
theorem TkC.call {w wx wy:World}{hb P B R D bd bn wb N tb:Nat}{ob:Option Nat}{e:EngD}{a b c f:Int}(t:TkC wx tb a b c f)(h:OX w wx hb P B R D bd bn wb ob N e)(hf:EF wx wy P B R D bd bn ob):TkC wy tb a b c f :=
 ⟨h.ow.host.box hf t.blk ⟨_,_,rfl⟩ (by decide) (by decide)⟩
theorem TkC.belowC {wx wy:World}{tb:Nat}{a b c f:Int}(t:TkC wx tb a b c f)(hb:Below wx.heap.size wx wy):TkC wy tb a b c f:=⟨(hb.block tb (Zaa t.blk)).trans t.blk⟩
theorem lim_of {e:EngD}(h1:e.lastRun<=100)(h2:e.lastTok<=1000000)(h3:e.seed=0):EngLim e:=⟨Int.lt_of_le_of_lt h1 (by decide),Int.lt_of_le_of_lt h2 (by decide),by rw [h3];decide,by rw [h3];decide⟩
theorem ox_poll {w wx:World}{hb P B R D bd bn wb N:Nat}{ob:Option Nat}{e e2:EngD}{pr pn t tk:Int}{p:PlD}(h:OX w wx hb P B R D bd bn wb ob N e)(ok:EngOk e)(lim:EngLim e)(hN:N<=1000000000000)(he:e.poll=some (p,t,tk,e2))(hr:p.run=pr)(hn:(p.node:Int)=pn) :
  Calls Tryz.prog 12 #[.pointer (some ⟨hb,0,none⟩), .agg #[.int .i64 (-1), .int .i64 (-1), .int .i64 0, .int .i64 0]] wx fun x w'=>x= .returned (.tuple #[.agg #[.int .u64 pr, .int .i64 pn, .int .i64 t, .int .u64 tk], .bool true, .int .i64 0])/\∃ob',OX w w' hb P B R D bd bn wb ob' (N+1000000) e2/\EF wx w' P B R D bd bn ob:=by
 refine (hpoll_any wx hb P B R D bd bn N ob e h.ow.host ok lim hN).mono ?_
 rintro x w' ⟨ob',a,b,c,f,y,e',rfl,q1,q2,q3,q4⟩
 obtain⟨rfl,rfl,rfl,rfl,rfl,rfl⟩:=q1.some_ he
 subst hr hn
 exact⟨rfl,ob',h.call q2 q4,q4⟩
theorem ox_pollN {w wx:World}{hb P B R D bd bn wb N:Nat}{ob:Option Nat}{e:EngD}(h:OX w wx hb P B R D bd bn wb ob N e)(ok:EngOk e)(lim:EngLim e)(hN:N<=1000000000000)(he:e.poll=none) :
  Calls Tryz.prog 12 #[.pointer (some ⟨hb,0,none⟩), .agg #[.int .i64 (-1), .int .i64 (-1), .int .i64 0, .int .i64 0]] wx fun x w'=>x= .returned (.tuple #[.agg #[.int .u64 0, .int .i64 0, .int .i64 0, .int .u64 0], .bool false, .int .i64 0])/\∃ob',OX w w' hb P B R D bd bn wb ob' (N+1000000) e/\EF wx w' P B R D bd bn ob:=by
 refine (hpoll_any wx hb P B R D bd bn N ob e h.ow.host ok lim hN).mono ?_
 rintro x w' ⟨ob',a,b,c,f,y,e',rfl,q1,q2,q3,q4⟩
 obtain⟨rfl,rfl,rfl,rfl,rfl,rfl⟩:=q1.none_ he
 exact⟨rfl,ob',h.call q2 q4,q4⟩
theorem ox_complete {w wx:World}{hb P B R D bd bn wb N:Nat}{ob:Option Nat}{e e2:EngD}{n:Nat}{m:Int}(h:OX w wx hb P B R D bd bn wb ob N e)(ok:EngOk e)(lim:EngLim e)(hN:N<=1000000000000)(hn:n<18446744073709551616)(hm:(n:Int)=m)(he:e.complete m=some e2) :
  Calls Tryz.prog 13 #[.pointer (some ⟨hb,0,none⟩), .int .i64 4, .int .u64 m, .agg #[.int .i64 (-1), .int .i64 (-1), .int .i64 0, .int .i64 0]] wx fun x w'=>x= .returned (.int .i64 0)/\∃ob',OX w w' hb P B R D bd bn wb ob' (N+1000000) e2/\EF wx w' P B R D bd bn ob:=by
 subst hm
 have:=hdo4_any wx hb P B R D bd bn N ob e n h.ow.host ok lim hN hn
 rw [he] at this
 refine this.mono ?_
 rintro x w' ⟨ob',rfl,q2,q3,q4⟩
 exact⟨rfl,ob',h.call q2 q4,q4⟩
theorem ox_fail {w wx:World}{hb P B R D bd bn wb N:Nat}{ob:Option Nat}{e e2:EngD}{n:Nat}{m:Int}(h:OX w wx hb P B R D bd bn wb ob N e)(ok:EngOk e)(lim:EngLim e)(hN:N<=1000000000000)(hn:n<18446744073709551616)(hm:(n:Int)=m)(he:e.fail m=some e2) :
  Calls Tryz.prog 13 #[.pointer (some ⟨hb,0,none⟩), .int .i64 5, .int .u64 m, .agg #[.int .i64 (-1), .int .i64 (-1), .int .i64 0, .int .i64 0]] wx fun x w'=>x= .returned (.int .i64 0)/\∃ob',OX w w' hb P B R D bd bn wb ob' (N+1000000) e2/\EF wx w' P B R D bd bn ob:=by
 subst hm
 have:=hdo5_any wx hb P B R D bd bn N ob e n h.ow.host ok lim hN hn
 rw [he] at this
 refine this.mono ?_
 rintro x w' ⟨ob',rfl,q2,q3,q4⟩
 exact⟨rfl,ob',h.call q2 q4,q4⟩
theorem ox_tick {w wx:World}{hb P B R D bd bn wb N:Nat}{ob:Option Nat}{e:EngD}{n:Nat}{m:Int}(h:OX w wx hb P B R D bd bn wb ob N e)(ok:EngOk e)(lim:EngLim e)(hN:N<=1000000000000)(hn:n<18446744073709551616)(hm:(n:Int)=m) :
  Calls Tryz.prog 13 #[.pointer (some ⟨hb,0,none⟩), .int .i64 7, .int .u64 m, .agg #[.int .i64 (-1), .int .i64 (-1), .int .i64 0, .int .i64 0]] wx fun x w'=>x= .returned (.int .i64 0)/\∃ob' e2,TickR e m e2/\OX w w' hb P B R D bd bn wb ob' (N+1000000) e2/\EF wx w' P B R D bd bn ob:=by
 subst hm
 refine (hdo7_any wx hb P B R D bd bn N ob e n h.ow.host ok lim hN hn).mono ?_
 rintro x w' ⟨ob',e2,rfl,q1,q2,q3,q4⟩
 exact⟨rfl,ob',e2,q1,h.call q2 q4,q4⟩
theorem ox_submit {w wx:World}{hb P B R D bd bn wb N B0 bg c:Nat}{ob:Option Nat}{e:EngD}{F:FlowD}{L:Nat}(h:OX w wx hb P B R D bd bn wb ob N e)(ok:EngOk e)(lim:EngLim e)(hN:N<=1000000000000)(hF:FlOk F)(hL:L=(Zat F).length)(hr:ByteRow B0 wx (.slice (some ⟨bg,0,none⟩) L c) (Zat F)) :
  Calls Tryz.prog 9 #[.pointer (some ⟨hb,0,none⟩), .slice (some ⟨bg,0,none⟩) L c, .agg #[.int .i64 (-1), .int .i64 (-1), .int .i64 0, .int .i64 0]] wx fun x w'=>∃G n er e2 ob',x= .returned (.tuple #[.int .u64 n, .int .i64 er, .int .i64 (-1)])/\(FlOk G/\G.dl=F.dl/\G.n=F.n/\SameTo F G F.n)/\er=resV 5 (e.submit G)/\n=(if er=0 then e.lastRun+1 else 0)/\e2=(e.submit G).getD e/\OX w w' hb P B R D bd bn wb ob' (N+1000000) e2/\EF wx w' P B R D bd bn ob:=by
 have h9:1<=(Zat F).length:=by have:=flowB_nine (F:=F) hF.top.n1;omega
 have h4:=flowB_len hF.top hF.nat
 subst hL
 refine (hsubmit_any wx hb P B R D bd bn N B0 bg c ob e (Zat F) h.ow.host ok lim hN hr (flowB_byte F) h9 (by omega)).mono ?_
 rintro x w' ⟨ob',n,er,at_,e',rfl,q1,q2,q3,q4⟩
 rcases q1 with⟨h1,h2,_⟩ | ⟨y,h1,rfl,rfl,rfl,rfl⟩
 ·exact absurd (dec_fl hF h2).1 h1
 ·obtain⟨_,r2,r3,r4,r5,r6⟩:=dec_fl hF h1
  exact⟨_,_,_,_,ob',rfl,⟨r3,r4,r5,r6⟩,rfl,rfl,rfl,h.call q2 q4,q4⟩
theorem o1_lim (f:FlowD):EngLim (o1 f):=lim_of (by show (1:Int)<=100;decide) (by show (0:Int)<=1000000;decide) rfl
theorem o2_lim (f:FlowD):EngLim (o2 f):=lim_of (by show (1:Int)<=100;decide) (by show (1:Int)<=1000000;decide) rfl
theorem o3_lim (f:FlowD):EngLim (o3 f):=lim_of (by show (1:Int)<=100;decide) (by show (1:Int)<=1000000;decide) rfl
theorem o4_lim (f:FlowD):EngLim (o4 f):=lim_of (by show (1:Int)<=100;decide) (by show (1:Int)<=1000000;decide) rfl
theorem o5_lim (f:FlowD):EngLim (o5 f):=lim_of (by show (1:Int)<=100;decide) (by show (2:Int)<=1000000;decide) rfl
theorem o6_lim (f:FlowD):EngLim (o6 f):=lim_of (by show (1:Int)<=100;decide) (by show (2:Int)<=1000000;decide) rfl
theorem o7_lim (f:FlowD):EngLim (o7 f):=lim_of (by show (1:Int)<=100;decide) (by show (3:Int)<=1000000;decide) rfl
theorem lim_new:EngLim Za5:=lim_of (by show (0:Int)<=100;decide) (by show (0:Int)<=1000000;decide) rfl
theorem open_enc {w4 wx:World}{nb ab:Nat}(hT:TabIn w4)(hE:ErrTypeIn w4)(hg:2<w4.heap.size)(hb:Below w4.heap.size w4 wx)
  (hn:wx.heap[nb]? =some (.cells #[.int .i64 2, .int .i64 9, .int .i64 0, .int .i64 3, .int .i64 9, .int .i64 0, .slice none 0 0, .int .i64 1, .int .i64 9, .int .i64 0, .int .i64 1, .int .i64 1, .int .i64 0, .slice (some ⟨ab,0,none⟩) 1 1] 34 (0,0))) (ha:wx.heap[ab]? =some (.cells #[.int .i64 0] 3 (0,0))) :
  Calls Tryz.prog 8 #[.agg #[.int .i64 100, .slice (some ⟨nb,0,none⟩) 2 2]] wx fun x w'=>∃bg c,x= .returned (.tuple #[.slice (some ⟨bg,0,none⟩) (Zat fl2).length c, .int .i64 0, .int .i64 (-1)])/\ByteRow wx.heap.size w' (.slice (some ⟨bg,0,none⟩) (Zat fl2).length c) (Zat fl2)/\Below w4.heap.size w4 w':=by
 refine (pencode_any fl2 (some ⟨nb,0,none⟩) 2 _ _ wx (fl2_flowIn (hT.keep hg hb) (Nat.lt_of_lt_of_le hg hb.size) hn ha) (hE.keep hb)).mono ?_
 rintro e w2 ⟨⟨v,x,y,l,rfl,hchk,hrow,hl0,hl1⟩,hb2⟩
 obtain⟨rfl,rfl⟩:=hchk.one fl2_ok.chk
 obtain rfl:=hl0 rfl
 have h9:1<=(Zat fl2).length:=by have:=flowB_nine (F:=fl2) (by decide);omega
 rcases hrow.2 with⟨_,x2⟩ | ⟨g,cap,cur,rfl,_⟩
 ·omega
 ·exact⟨g,cap,rfl,hrow,hb.trans (hb2.mono hb.size)⟩
theorem open_open {w w1 w3:World}{hb D bd bn wb:Nat}(h:HostN w1 hb D bd bn)(hb1:Below w.heap.size w w1)(hl:w.heap.size<=hb/\w.heap.size<=D/\w.heap.size<=bd/\w.heap.size<=bn)(hne:hb≠D/\hb≠bd/\hb≠bn)(hb3:Below w1.heap.size w1 w3)(hw:w1.heap.size<=wb)(hwb:w3.heap[wb]? =some (.cells #[.int .i64 (-1), .int .i64 (-1), .int .i64 0, .int .i64 0] 26 (0,0)))(he:ErrTypeIn w)(hnm:Zbi w)(ht:TabIn w)(hg:4<w.heap.size)(hgt:2<w.heap.size)(hge:0<w.heap.size) :
  Calls Tryz.prog 22 #[.pointer (some ⟨hb,0,none⟩), .agg #[.int .i64 (-1), .int .i64 (-1), .int .i64 0, .int .i64 0]] w3 fun x w'=>x= .returned (.int .i64 0)/\∃P B,OX w w' hb P B B D bd bn wb none 2000000 Za5:=by
 have hw3:=hb1.trans (hb3.mono hb1.size)
 obtain⟨Dd,hfd⟩:=h.fd
 obtain⟨Dn,hfn⟩:=h.fn
 have l1:=Zaa h.host.blk
 have l2:=Zaa h.dk.blk
 have l3:=hfd.lt
 have l4:=hfn.lt
 have h3:HostN w3 hb D bd bn:=⟨h.host.at_ (hb3.block hb l1),h.dk.at_ (hb3.block D l2),⟨Dd,hfd.below hb3⟩,⟨Dn,hfn.below hb3⟩,h.ne⟩
 have hs3:=hb3.size
 refine (hopen_none w3 hb D bd bn 2000000 h3 (he.keep hw3) (fun i hi=>cell_later hw3 (hnm i hi)) (ht.keep hgt hw3) ⟨by omega,by omega,by omega,by omega⟩ hne (Nat.le_refl _)).mono ?_
 rintro x w' ⟨rfl,P,B,q1,q2,q3,q4⟩
 have hs1:=hb1.size
 refine⟨rfl,P,B,⟨q1,⟨q4.os.trans hw3.os,q4.tape.trans hw3.tape,q4.output.trans hw3.output,Nat.le_trans hw3.size q4.size,fun k hk=>(q4.block k (by omega) (by omega) (by omega) (by omega) (by omega)).trans (hw3.block k hk)⟩,⟨by omega,by omega,by omega,by omega,by omega⟩,by omega,by omega⟩,(q4.block wb (Zaa hwb) (by omega) (by omega) (by omega) (by omega)).trans hwb⟩
theorem o8_query {w:World}{hb P B R D bd bn N:Nat}{ob:Option Nat}{f:FlowD}(h:HostAt w hb P B R D bd bn ob N (o8 f)) :
  Calls Tryz.prog 14 #[.pointer (some ⟨hb,0,none⟩), .int .u64 1] w fun x w'=>∃a1 n1 c1 a2 n2 c2,x= .returned (.tuple #[.agg #[.int .u64 1, .int .i64 2, .slice a1 n1 c1, .slice a2 n2 c2], .int .i64 0])/\Below w.heap.size w w':=by
 have hf:(o8 f).find 1=some 0:=rfl
 refine (hquery_any w hb P B R D bd bn N ob (o8 f) 1 h).mono ?_
 rintro x w' ⟨v,er,rfl,q,hb⟩
 rcases q with⟨q,_⟩ | ⟨i,a1,a2,c1,c2,q1,rfl,rfl,_⟩
 ·rw [hf] at q;cases q
 ·rw [hf] at q1
  cases q1
  exact⟨_,_,_,_,_,_,rfl,hb⟩
set_option maxHeartbeats 16000000 in
theorem opened_any (w:World)(he:ErrTypeIn w)(hnm:Zbi w)(ht:TabIn w)(hg:4<w.heap.size)(hgt:2<w.heap.size)(hge:0<w.heap.size) :
  Calls Tryz.prog 5 #[] w fun x w'=>∃hb P B R D bd bn ob f,x= .returned (.pointer (some ⟨hb,0,none⟩))/\OW w w' hb P B R D bd bn ob 11000000 (o8 f)/\OpChain f:=by
 have HE:=Hid.mk (And.intro he (And.intro hnm (And.intro ht (And.intro hg (And.intro hgt hge)))))
 have HW:=Hid.mk (fun wx=>pwell_any wx)
 unfold Zbq at HW
 clear he hnm ht hg hgt hge
 go_enter Tryz.func5,Tryz.ntmps5
 go_upto_region 2 with (go_at_call 23;go_loud (refine (newhost_any w).mono ?_;rintro _ w1 ⟨hb,D,bd,bn,rfl,h1,h2,h3,h4,h5,h6⟩;have H1:=Hid.mk (And.intro h1 (And.intro h2 (And.intro (And.intro h3 (And.intro h4 h5)) h6)));clear h1 h2 h3 h4 h5 h6))
 go_upto_region 3 with (go_at_call 6;refine (HW.out w1).mono ?_;rintro _ w2 ⟨rfl,hb2⟩;have H2:=Hid.mk hb2;clear hb2)
 obtain⟨wb,hwb⟩:∃wb,wb=w2.heap.size:=⟨_,rfl⟩
 obtain⟨w3,hw3⟩:∃w3,w3=w2.alloc (.cells #[.int .i64 (-1), .int .i64 (-1), .int .i64 0, .int .i64 0] 26):=⟨_,rfl⟩
 rw [<-hw3,<-hwb]
 have hb3:Below w1.heap.size w1 w3:=by rw [hw3];exact H2.out.alloc H2.out.size _
 have hwk:w3.heap[wb]? =some (.cells #[.int .i64 (-1), .int .i64 (-1), .int .i64 0, .int .i64 0] 26 (0,0)):=by rw [hw3,hwb];exact heap_alloc_new w2 _
 have hwl:w1.heap.size<=wb:=by rw [hwb];exact H2.out.size
 have HOP:=Hid.mk (open_open H1.out.1 H1.out.2.2.2 H1.out.2.1 H1.out.2.2.1 hb3 hwl hwk HE.out.1 HE.out.2.1 HE.out.2.2.1 HE.out.2.2.2.1 HE.out.2.2.2.2.1 HE.out.2.2.2.2.2)
 have z0:w3.cell? ⟨wb,0,none⟩=some (.int .i64 (-1)):=Zam hwk 0
 have z1:w3.cell? ⟨wb,1,none⟩=some (.int .i64 (-1)):=Zam hwk 1
 have z2:w3.cell? ⟨wb,2,none⟩=some (.int .i64 0):=Zam hwk 2
 have z3:w3.cell? ⟨wb,3,none⟩=some (.int .i64 0):=Zam hwk 3
 clear hb3 hwk hwl hw3 hwb
 go_upto_region 4 with (go_at_call 22;refine HOP.out.mono ?_;rintro _ w4 ⟨rfl,P,B,q⟩;have X4:=Hid.mk q;clear q)
 have HEN:=Hid.mk (fun (wx:World) (nb ab:Nat)=>open_enc (w4:=w4) (wx:=wx) (nb:=nb) (ab:=ab) (HE.out.2.2.1.keep HE.out.2.2.2.2.1 X4.out.ow.bel) X4.out.ow.host.err (Nat.lt_of_lt_of_le HE.out.2.2.2.2.1 X4.out.ow.bel.size))
 obtain⟨L,hL⟩:∃L,L=(Zat fl2).length:=⟨_,rfl⟩
 rw [<-hL] at HEN
 have HL:=Hid.mk hL
 clear z0 z1 z2 z3 hL
 go_upto_region 5 with (go_at_call 8;refine (HEN.out _ (w4.heap.size+1) w4.heap.size (((Below.refl _ _).alloc (Nat.le_refl _) _).alloc (by simp) _) (Zbd _ _ _ _ (by simp)) (by rw [Zaj _ _ _ (by simp)];exact heap_alloc_new _ _)).mono ?_;rintro _ w5 ⟨bg,c,rfl,q1,q2⟩;have X5:=Hid.mk (And.intro (X4.out.below q2) q1);clear q1 q2)
 have z:=X5.out.1.cells
 obtain⟨⟨⟨z0,z1⟩,z2⟩,z3⟩:=z
 have HSU:=Hid.mk (ox_submit X5.out.1 engNew_ok lim_new (by omega) fl2_ok HL.out X5.out.2)
 clear HEN
 go_upto_region 6 with (go_at_call 9;refine HSU.out.mono ?_;rintro _ w6 ⟨f,n,er,e2,ob6,rfl,hf,h1,h2,h3,h4,h5⟩;have X6:=Hid.mk (And.intro hf (And.intro h1 (And.intro h2 (And.intro h3 h4))));clear hf h1 h2 h3 h4 h5)
 obtain⟨⟨hf1,hf2,hf3,hf4⟩,h1,h2,h3,h4⟩:=X6.out
 have hF:=f2_is hf2 hf3 hf4
 have hC:=opChain hF hf1
 rw [o1_is hF] at h1 h3
 replace h1:er=0:=h1
 replace h3:e2=o1 f:=h3
 subst h1 h3
 replace h2:n=1:=h2
 subst h2
 have HF:=Hid.mk (And.intro hF hC)
 have X6':=Hid.mk h4
 obtain⟨⟨⟨z0,z1⟩,z2⟩,z3⟩:=h4.cells
 clear hf1 hf2 hf3 hf4 h4 hF hC X5 HSU HOP
 have HP1:=Hid.mk (ox_poll X6'.out HF.out.2.k1 (o1_lim f) (by omega) (o2_is HF.out.1) rfl rfl)
 go_upto_region 7 with (go_at_call 12;refine HP1.out.mono ?_;rintro _ w7 ⟨rfl,ob7,q1,q2⟩;have X7:=Hid.mk q1;clear q1 q2)
 obtain⟨ta,hta⟩:∃ta,ta=w7.heap.size:=⟨_,rfl⟩
 obtain⟨y7,hy7⟩:∃y7,y7=w7.alloc (.cells #[.int .u64 1, .int .i64 0, .int .i64 1, .int .u64 1] 43):=⟨_,rfl⟩
 rw [<-hy7,<-hta]
 have hx:=X7.out.below (show Below w7.heap.size w7 y7 from by rw [hy7];exact (Below.refl _ _).alloc (Nat.le_refl _) _)
 have ht:TkC y7 ta 1 0 1 1:=⟨by rw [hy7,hta];exact heap_alloc_new _ _⟩
 have Y7:=Hid.mk (And.intro hx ht)
 obtain⟨⟨⟨z0,z1⟩,z2⟩,z3⟩:=hx.cells
 clear hx ht hy7 hta X7 HP1 X6
 have HP2:=Hid.mk (ox_pollN Y7.out.1 HF.out.2.k2 (o2_lim f) (by omega) (o2_poll f))
 go_upto_region 8 with (go_at_call 12;refine HP2.out.mono ?_;rintro _ w8 ⟨rfl,ob8,q1,q2⟩;have X8:=Hid.mk (And.intro q1 (Y7.out.2.call Y7.out.1 q2));clear q1 q2)
 obtain⟨y8,hy8⟩:∃y8,y8=w8.alloc (.cells #[.int .u64 0, .int .i64 0, .int .i64 0, .int .u64 0] 43):=⟨_,rfl⟩
 obtain⟨tx,htx⟩:∃tx,tx=w8.heap.size:=⟨_,rfl⟩
 rw [<-hy8,<-htx]
 have hb8:Below w8.heap.size w8 y8:=by rw [hy8];exact (Below.refl _ _).alloc (Nat.le_refl _) _
 have hx:=X8.out.1.below hb8
 have ht:=X8.out.2.belowC hb8
 have Y8:=Hid.mk (And.intro hx ht)
 obtain⟨⟨⟨z0,z1⟩,z2⟩,z3⟩:=hx.cells
 obtain⟨⟨⟨_,_⟩,_⟩,k3⟩:=ht.cells
 clear hx ht hy8 htx hb8 X8 HP2 Y7
 have HP3:=Hid.mk (ox_fail (n:=1) (m:=1) Y8.out.1 HF.out.2.k2 (o2_lim f) (by omega) (by omega) rfl (o3_is HF.out.1))
 go_upto_region 9 with (go_at_call 13;refine HP3.out.mono ?_;rintro _ w9 ⟨rfl,ob9,q1,q2⟩;have X9:=Hid.mk (And.intro q1 (Y8.out.2.call Y8.out.1 q2));clear q1 q2)
 obtain⟨⟨⟨z0,z1⟩,z2⟩,z3⟩:=X9.out.1.cells
 clear k3 Y8 HP3
 have HP4:=Hid.mk (ox_tick (n:=3) (m:=3) X9.out.1 HF.out.2.k3 (o3_lim f) (by omega) (by omega) rfl)
 go_upto_region 10 with (go_at_call 13;refine HP4.out.mono ?_;rintro _ w10 ⟨rfl,ob10,e4,q0,q1,q2⟩;have X10:=Hid.mk (And.intro q0 (And.intro q1 (X9.out.2.call X9.out.1 q2)));clear q0 q1 q2)
 obtain⟨q0,q1,q2⟩:=X10.out
 obtain rfl:=o4_uniq q0
 have Y10:=Hid.mk (And.intro q1 q2)
 obtain⟨⟨⟨z0,z1⟩,z2⟩,z3⟩:=q1.cells
 clear q0 q1 q2 X9 HP4 X10
 have HP5:=Hid.mk (ox_poll Y10.out.1 HF.out.2.k4 (o4_lim f) (by omega) (o5_is HF.out.1) rfl rfl)
 go_upto_region 11 with (go_at_call 12;refine HP5.out.mono ?_;rintro _ w11 ⟨rfl,ob11,q1,q2⟩;have X11:=Hid.mk (And.intro q1 (Y10.out.2.call Y10.out.1 q2));clear q1 q2)
 obtain⟨y11,hy11⟩:∃y,y=w11.alloc (.cells #[.int .u64 1, .int .i64 0, .int .i64 2, .int .u64 2] 43):=⟨_,rfl⟩
 obtain⟨tb,htb⟩:∃tb,tb=w11.heap.size:=⟨_,rfl⟩
 rw [<-hy11,<-htb]
 have hb11:Below w11.heap.size w11 y11:=by rw [hy11];exact (Below.refl _ _).alloc (Nat.le_refl _) _
 have hx:=X11.out.1.below hb11
 have ht:=X11.out.2.belowC hb11
 have ht2:TkC y11 tb 1 0 2 2:=⟨by rw [hy11,htb];exact heap_alloc_new _ _⟩
 have Y11:=Hid.mk (And.intro hx (And.intro ht ht2))
 obtain⟨⟨⟨z0,z1⟩,z2⟩,z3⟩:=hx.cells
 obtain⟨⟨⟨_,_⟩,_⟩,k3⟩:=ht2.cells
 clear hx ht ht2 hy11 htb hb11 X11 HP5 Y10
 have HP6:=Hid.mk (ox_complete (n:=2) (m:=2) Y11.out.1 HF.out.2.k5 (o5_lim f) (by omega) (by omega) rfl (o6_is HF.out.1))
 go_upto_region 12 with (go_at_call 13;refine HP6.out.mono ?_;rintro _ w12 ⟨rfl,ob12,q1,q2⟩;have X12:=Hid.mk (And.intro q1 (And.intro (Y11.out.2.1.call Y11.out.1 q2) (Y11.out.2.2.call Y11.out.1 q2)));clear q1 q2)
 obtain⟨⟨⟨z0,z1⟩,z2⟩,z3⟩:=X12.out.1.cells
 clear k3 Y11 HP6
 have HP7:=Hid.mk (ox_poll X12.out.1 HF.out.2.k6 (o6_lim f) (by omega) (o7_is HF.out.1) rfl rfl)
 go_upto_region 13 with (go_at_call 12;refine HP7.out.mono ?_;rintro _ w13 ⟨rfl,ob13,q1,q2⟩;have X13:=Hid.mk (And.intro q1 (And.intro (X12.out.2.1.call X12.out.1 q2) (X12.out.2.2.call X12.out.1 q2)));clear q1 q2)
 obtain⟨y13,hy13⟩:∃y,y=w13.alloc (.cells #[.int .u64 1, .int .i64 1, .int .i64 1, .int .u64 3] 43):=⟨_,rfl⟩
 obtain⟨tc,htc⟩:∃tc,tc=w13.heap.size:=⟨_,rfl⟩
 rw [<-hy13,<-htc]
 have hb13:Below w13.heap.size w13 y13:=by rw [hy13];exact (Below.refl _ _).alloc (Nat.le_refl _) _
 have hx:=X13.out.1.below hb13
 have ht:=X13.out.2.1.belowC hb13
 have ht2:=X13.out.2.2.belowC hb13
 have ht3:TkC y13 tc 1 1 1 3:=⟨by rw [hy13,htc];exact heap_alloc_new _ _⟩
 have Y13:=Hid.mk (And.intro hx (And.intro ht (And.intro ht2 ht3)))
 obtain⟨⟨⟨z0,z1⟩,z2⟩,z3⟩:=hx.cells
 obtain⟨⟨⟨_,_⟩,_⟩,k3⟩:=ht3.cells
 clear hx ht ht2 ht3 hy13 htc hb13 X12 X13 HP7
 have HP8:=Hid.mk (ox_complete (n:=3) (m:=3) Y13.out.1 HF.out.2.k7 (o7_lim f) (by omega) (by omega) rfl (o8_is HF.out.1))
 go_upto_region 14 with (go_at_call 13;refine HP8.out.mono ?_;rintro _ w14 ⟨rfl,ob14,q1,q2⟩;have X14:=Hid.mk (And.intro q1 (And.intro (Y13.out.2.1.call Y13.out.1 q2) (And.intro (Y13.out.2.2.1.call Y13.out.1 q2) (Y13.out.2.2.2.call Y13.out.1 q2))));clear q1 q2)
 clear k3 z0 z1 z2 z3 Y13 HP8
 have HQ:=Hid.mk (o8_query X14.out.1.ow.host)
 go_upto_region 15 with (go_at_call 14;refine HQ.out.mono ?_;rintro _ w15 ⟨u1,u2,u3,u4,u5,u6,rfl,hb⟩;have hx:=X14.out.1.below hb;have h1:=X14.out.2.1.belowC hb;have h2:=X14.out.2.2.1.belowC hb;have h3:=X14.out.2.2.2.belowC hb;have X15:=Hid.mk (And.intro hx (And.intro h1 (And.intro h2 h3)));clear hx h1 h2 h3 hb)
 obtain⟨y15,hy15⟩:∃y,y=w15.alloc (.cells #[.int .u64 1, .int .i64 2, .slice u1 u2 u3, .slice u4 u5 u6] 50):=⟨_,rfl⟩
 obtain⟨ti,hti⟩:∃ti,ti=w15.heap.size:=⟨_,rfl⟩
 rw [<-hy15,<-hti]
 have hb15:Below w15.heap.size w15 y15:=by rw [hy15];exact (Below.refl _ _).alloc (Nat.le_refl _) _
 have hx:=X15.out.1.below hb15
 obtain⟨⟨⟨_,a1⟩,a2⟩,a3⟩:=(X15.out.2.1.belowC hb15).cells
 obtain⟨⟨⟨_,b1⟩,b2⟩,b3⟩:=(X15.out.2.2.1.belowC hb15).cells
 obtain⟨⟨⟨_,c1⟩,_⟩,_⟩:=(X15.out.2.2.2.belowC hb15).cells
 have i1:y15.cell? ⟨ti,1,none⟩=some (.int .i64 2):=by rw [hy15,hti,Zam (heap_alloc_new _ _)];rfl
 have Y15:=Hid.mk hx
 clear hx hy15 hti hb15 HQ X14 X15
 go_wp2_with fail
 go_ret
 exact⟨hb,P,B,B,D,bd,bn,_,f,rfl,Y15.out.ow,HF.out.2⟩
theorem task_held:Tryz.prog.stoodInHeld 43=false:=by kernel_rfl
theorem task_fields:Tryz.prog.underlying 43=some (.struct (Tryz.prog.fieldsOf 43)):=by kernel_rfl
theorem neq_task (w:World)(a b c d:Int):(binOp .neq 43 (.agg #[.int .u64 a, .int .i64 b, .int .i64 c, .int .u64 d]) (.agg #[.int .u64 a, .int .i64 b, .int .i64 c, .int .u64 d])).run Tryz.prog w= .ok (.bool false) w:=by
 rw [run_neq_struct,show (10000:Nat)=9999+1 from rfl,run_equalIn_agg _ _ _ _ _ task_fields task_held]
 have h1:=Tryz.underlying43
 have h2:=Tryz.underlying39
 have h3:=Tryz.underlying3
 go_simp
def wtV (p:PlD):List Value:=[.int .u64 p.run, .int .i64 p.node, .int .i64 1, .int .u64 0]
theorem wtV_len (p:PlD):(wtV p).length=4:=rfl
theorem OX.want {w wx wy:World}{hb P B R D bd bn wb N:Nat}{ob:Option Nat}{e:EngD}{row:Option Nat}(h:OX w wx hb P B R D bd bn wb ob N e)(hg:wx.grownBy wy row)(hr:∀g,row=some g->(∃cur,wx.heap[g]? =some (.cells cur 43 (0,0)))/\hb<g/\P<g/\4<g)(hrow:∀g,row=some g->w.heap.size<=g):OX w wy hb P B R D bd bn wb ob N e:=by
 have hwb:wy.heap[wb]? =wx.heap[wb]? :=hg.block wb (Zaa h.wb) fun x=>by
  obtain⟨⟨cur,hc⟩,_⟩:=hr wb x.symm
  rw [h.wb] at hc
  simp only [Option.some.injEq,Obj.cells.injEq] at hc
  exact absurd hc.2.1 (by decide)
 obtain⟨g,d,h1,ws⟩:=h.ow.host.ex
 have hbe:0<wx.heap.size:=World.block_lt_of_cell? _ _ h.ow.host.err
 have hgl:=h1.ne.l.gl
 have hE:EngAt wy P B R D bd bn ob g d e:=by
  cases row with
  | none=>exact h1.below ⟨hg.os,hg.tape,hg.output,hg.size,fun k hk=>hg.block k hk (by simp)⟩
  | some rg =>
   obtain⟨⟨cur,hc⟩,r1,r2,r3⟩:=hr rg rfl
   exact h1.one ⟨hg.os,hg.tape,hg.output,hg.size,fun k hk hne=>hg.block k hk (fun x=>hne (Option.some.inj x))⟩ (by omega) ⟨cur,(0,0),hc⟩ r3
 have hne:∀k,k<=hb\/k<=P\/k<=4->some k≠row:=fun k hk x=>by
  obtain⟨_,r1,r2,r3⟩:=hr k x.symm
  omega
 refine⟨⟨⟨⟨g,d,hE,ws⟩,h.ow.host.host.at_ (hg.block hb (Zaa h.ow.host.host.blk) (hne hb (Or.inl (Nat.le_refl _)))),(World.cell?_of_block (a:=⟨0,0,none⟩) (hg.block 0 hbe (hne _ (Or.inr (Or.inr (by omega)))))).trans h.ow.host.err,h.ow.host.ne⟩,?_,h.ow.far⟩,hwb.trans h.wb⟩
 exact⟨hg.os.trans h.ow.bel.os,hg.tape.trans h.ow.bel.tape,hg.output.trans h.ow.bel.output,Nat.le_trans h.ow.bel.size hg.size,fun k hk=>(hg.block k (Nat.lt_of_lt_of_le hk h.ow.bel.size) (fun x=>by have:=hrow k x.symm;omega)).trans (h.ow.bel.block k hk)⟩
theorem wRow.call {w wx wy:World}{hb P B R D bd bn wb N Bw n:Nat}{ob:Option Nat}{e:EngD}{v:Value}{xs:List Value}(t:wRow wx Bw 43 4 v n xs)(h:OX w wx hb P B R D bd bn wb ob N e)(hf:EF wx wy P B R D bd bn ob)(hB:P<Bw/\D<Bw/\bd<Bw/\bn<Bw):wRow wy Bw 43 4 v n xs :=
 t.kept fun g cur hg hc _=>(hf.keepT hc ⟨by omega,by omega,by omega,by omega⟩ (by decide)).trans hc.symm
theorem fi_qtask {e:EngD}{r:Nat}{q:List PlD}{T:Int}(h:FI e r q T):e.queue.flatMap e.qtask=q.flatMap wtV/\e.queue.length=q.length:=by
 have hq:=h.q
 refine⟨?_,by rw [hq]⟩
 rw [hq]
 have:∀p∈q,e.qtask p=wtV p:=fun p hp=>by
  obtain⟨i,q1,q2,q3,q4⟩:=(h.ok.wk.qm p).1 (by rw [hq];exact hp)
  have hst1:=h.ok.wk.runs_of q1 q3 (by omega)
  have hi1:1<=i:=by
   rcases Nat.eq_zero_or_pos i with c | c
   ·subst c;exact absurd hst1 h.old
   ·exact c
  have hR:=h.ok.wk.runs i q1
  have hff:=h.ff i hi1 q1
  have hs:=hR.steps p.node q3
  have htr:((e.at_ i).at_ p.node).tries=0:=by
   have:=hs.more (Or.inl q4)
   rw [hff.bu p.node (by rw [<-hR.len];exact q3)] at this
   have:=hs.tr0
   omega
  have hfd:e.find p.run=some i:=by rw [<-q2];exact h.ok.wk.find_at q1
  unfold EngD.qtask tkC wtV EngD.tryOf
  rw [hfd]
  simp [htr]
 have key:∀l:List PlD,(∀p∈l,e.qtask p=wtV p)->l.flatMap e.qtask=l.flatMap wtV:=fun l=>by
  induction l with
  | nil=>intro _;rfl
  | cons p l ih=>intro hl;rw [List.flatMap_cons,List.flatMap_cons,hl p (List.mem_cons_self ..),ih (fun x hx=>hl x (List.mem_cons_of_mem _ hx))]
 exact key q this
end Go.Proofs.YtgdcjccbdmcebabGreatDoor
namespace Go.Proofs.YtgdcjccbdmcebabGreatDoor
open Go.RowKit
set_option maxRecDepth 100000
def FE (w wx:World)(hb P B R D bd bn wb r K Z:Nat)(q:List PlD):Prop:=∃ob N e,OX w wx hb P B R D bd bn wb ob N e/\FI e r q (3+(K:Int))/\N<=Z
structure FC (w:World)(hb P D bd bn Bw:Nat):Prop where
 hb:hb<Bw
 p:P<Bw
 d:D<Bw
 md:bd<Bw
 mn:bn<Bw
 ws:w.heap.size<=Bw
 gl:4<w.heap.size
def Stay (wx wy:World)(Bw:Nat):Prop:=wx.heap.size<=wy.heap.size/\∀v n xs,wRow wx Bw 43 4 v n xs->wRow wy Bw 43 4 v n xs
theorem FE.below {w wx wy:World}{hb P B R D bd bn wb r K Z:Nat}{q:List PlD}(h:FE w wx hb P B R D bd bn wb r K Z q)(hb1:Below wx.heap.size wx wy):FE w wy hb P B R D bd bn wb r K Z q:=by
 obtain⟨ob,N,e,h1,h2,h3⟩:=h
 exact⟨ob,N,e,h1.below hb1,h2,h3⟩
theorem FE.mono {w wx:World}{hb P B R D bd bn wb r K Z K' Z':Nat}{q:List PlD}(h:FE w wx hb P B R D bd bn wb r K Z q)(hK:K<=K')(hZ:Z<=Z'):FE w wx hb P B R D bd bn wb r K' Z' q:=by
 obtain⟨ob,N,e,h1,h2,h3⟩:=h
 exact⟨ob,N,e,h1,{ h2 with tok:=by have:=h2.tok;omega },by omega⟩
theorem FE.bel {w wx:World}{hb P B R D bd bn wb r K Z:Nat}{q:List PlD}(h:FE w wx hb P B R D bd bn wb r K Z q):Below w.heap.size w wx:=by
 obtain⟨ob,N,e,h1,_⟩:=h
 exact h1.ow.bel
theorem FE.err {w wx:World}{hb P B R D bd bn wb r K Z:Nat}{q:List PlD}(h:FE w wx hb P B R D bd bn wb r K Z q):ErrTypeIn wx:=by
 obtain⟨ob,N,e,h1,_⟩:=h
 exact h1.ow.host.err
theorem FE.cells {w wx:World}{hb P B R D bd bn wb r K Z:Nat}{q:List PlD}(h:FE w wx hb P B R D bd bn wb r K Z q):((wx.cell? ⟨wb,0,none⟩=some (.int .i64 (-1))/\wx.cell? ⟨wb,1,none⟩=some (.int .i64 (-1)))/\wx.cell? ⟨wb,2,none⟩=some (.int .i64 0))/\wx.cell? ⟨wb,3,none⟩=some (.int .i64 0):=by
 obtain⟨ob,N,e,h1,_⟩:=h
 exact h1.cells
theorem FI.lim {e:EngD}{r:Nat}{q:List PlD}{K:Nat}(h:FI e r q (3+(K:Int)))(hr:r<=6)(hK:K<=1000):EngLim e :=
 lim_of (by rw [h.lr];omega) (by have:=h.tok;omega) h.sd
theorem FE.want {w wx wy:World}{hb P B R D bd bn wb r K Z Bw:Nat}{q:List PlD}(h:FE w wx hb P B R D bd bn wb r K Z q)(c:FC w hb P D bd bn Bw){v:Value}{n:Nat}{xs:List Value}(t:wRow wx Bw 43 4 v n xs)(hg:wx.grownBy wy v.ownBlock):FE w wy hb P B R D bd bn wb r K Z q:=by
 obtain⟨ob,N,e,h1,h2,h3⟩:=h
 have hc1:=c.hb;have hc2:=c.p;have hc3:=c.ws;have hc4:=c.gl
 refine⟨ob,N,e,h1.want hg (fun g hgv=> ?_) (fun g hgv=>by have:=(t.lt g hgv).1;omega),h2,h3⟩
 have hlt:=(t.lt g hgv).1
 rcases t.2 with⟨rfl,_⟩ | ⟨g',o,cap,cur,rfl,_,hh,_⟩
 ·simp [Value.ownBlock] at hgv
 ·simp [Value.ownBlock] at hgv
  subst hgv
  exact⟨⟨cur,hh⟩,by omega,by omega,by omega⟩
theorem fe_submit {w wx:World}{hb P B R D bd bn wb r K Z Bw B0 bg c n L:Nat}{q:List PlD}(h:FE w wx hb P B R D bd bn wb r K Z q)(fc:FC w hb P D bd bn Bw)(hr:r<5)(hK:K<=1000)(hZ:Z<=1000000000)(h1:1<=n)(h2:n<=12)(hL:L=(Zat (flF n)).length)(hrow:ByteRow B0 wx (.slice (some ⟨bg,0,none⟩) L c) (Zat (flF n))) :
  Calls Tryz.prog 9 #[.pointer (some ⟨hb,0,none⟩), .slice (some ⟨bg,0,none⟩) L c, .agg #[.int .i64 (-1), .int .i64 (-1), .int .i64 0, .int .i64 0]] wx fun x w'=>∃run,x= .returned (.tuple #[.int .u64 run, .int .i64 0, .int .i64 (-1)])/\FE w w' hb P B R D bd bn wb (r+1) K (Z+1000000) (q++Zcp run n)/\Stay wx w' Bw:=by
 obtain⟨ob,N,e,x1,x2,x3⟩:=h
 refine (ox_submit x1 x2.ok (x2.lim (by omega) hK) (by omega) (flF_ok h1 h2) hL hrow).mono ?_
 rintro x w' ⟨G,m,er,e2,ob',rfl,⟨g1,g2,g3,g4⟩,rfl,rfl,rfl,hx,hf⟩
 obtain⟨e',s1,s2⟩:=fi_submit x2 hr (ff_is (n:=n) g1 g3 g4)
 rw [s1] at hx ⊢
 have hGn:G.n=n:=g3
 rw [hGn] at s2
 exact⟨e.lastRun+1,rfl,⟨ob',_,e',hx,s2,by omega⟩,hf.size,fun v k xs t=>t.call x1 hf ⟨fc.p,fc.d,fc.md,fc.mn⟩⟩
theorem fe_queue {w wx:World}{hb P B R D bd bn wb r K Z:Nat}{q:List PlD}(h:FE w wx hb P B R D bd bn wb r K Z q) :
  Calls Tryz.prog 10 #[.pointer (some ⟨hb,0,none⟩)] wx fun x w'=>∃a c,x= .returned (.slice a q.length c)/\w'.ownsRow wx.heap.size 43 4 (.slice a q.length c) q.length (q.flatMap wtV)/\Below wx.heap.size wx w':=by
 obtain⟨ob,N,e,x1,x2,x3⟩:=h
 obtain⟨y1,y2⟩:=fi_qtask x2
 have:=hqueue_any wx hb P B R D bd bn N ob e x1.ow.host x2.ok.wk
 rw [y1,y2] at this
 refine this.mono ?_
 rintro x w' ⟨a,c,rfl,_,z2,z3⟩
 exact⟨a,c,rfl,z2,z3⟩
def FP (w wx:World)(hb P B R D bd bn wb r K Z:Nat)(p:PlD)(q:List PlD)(tok:Int)(m:Nat):Prop:=∃ob N e1 e2 i,OX w wx hb P B R D bd bn wb ob N e1/\EngOk e1/\EngLim e1/\e1.complete tok=some e2/\0<=tok/\tok<=2000/\FI e2 r (q++moreL p m) (3+((K+1:Nat):Int))/\e2.find p.run=some i/\(e2.at_ i).steps.length=m/\p.node<m/\m<=12/\N<=Z
theorem FP.below {w wx wy:World}{hb P B R D bd bn wb r K Z:Nat}{p:PlD}{q:List PlD}{tok:Int}{m:Nat}(h:FP w wx hb P B R D bd bn wb r K Z p q tok m)(hb1:Below wx.heap.size wx wy):FP w wy hb P B R D bd bn wb r K Z p q tok m:=by
 obtain⟨ob,N,e1,e2,i,h1,h2⟩:=h
 exact⟨ob,N,e1,e2,i,h1.below hb1,h2⟩
theorem FP.cells {w wx:World}{hb P B R D bd bn wb r K Z:Nat}{p:PlD}{q:List PlD}{tok:Int}{m:Nat}(h:FP w wx hb P B R D bd bn wb r K Z p q tok m):((wx.cell? ⟨wb,0,none⟩=some (.int .i64 (-1))/\wx.cell? ⟨wb,1,none⟩=some (.int .i64 (-1)))/\wx.cell? ⟨wb,2,none⟩=some (.int .i64 0))/\wx.cell? ⟨wb,3,none⟩=some (.int .i64 0):=by
 obtain⟨ob,N,e1,e2,i,h1,_⟩:=h
 exact h1.cells
theorem FP.small {w wx:World}{hb P B R D bd bn wb r K Z:Nat}{p:PlD}{q:List PlD}{tok:Int}{m:Nat}(h:FP w wx hb P B R D bd bn wb r K Z p q tok m):p.node<m/\m<=12:=by
 obtain⟨ob,N,e1,e2,i,_,_,_,_,_,_,_,_,_,h1,h2,_⟩:=h
 exact⟨h1,h2⟩
theorem fe_poll {w wx:World}{hb P B R D bd bn wb r K Z Bw:Nat}{p:PlD}{q:List PlD}(h:FE w wx hb P B R D bd bn wb r K Z (p::q))(fc:FC w hb P D bd bn Bw)(hr:r<=5)(hK:K<=1000)(hZ:Z<=1000000000) :
  Calls Tryz.prog 12 #[.pointer (some ⟨hb,0,none⟩), .agg #[.int .i64 (-1), .int .i64 (-1), .int .i64 0, .int .i64 0]] wx fun x w'=>∃tok m,x= .returned (.tuple #[.agg #[.int .u64 p.run, .int .i64 p.node, .int .i64 1, .int .u64 tok], .bool true, .int .i64 0])/\FP w w' hb P B R D bd bn wb r K (Z+1000000) p q tok m/\Stay wx w' Bw:=by
 obtain⟨ob,N,e,x1,x2,x3⟩:=h
 obtain⟨e1,e2,i,s1,s2,s3,s4,s5,s6,s7,s8,s9,s10,s11,s12,s13⟩:=fi_step x2
 have htk:=x2.tok
 have hl:=x2.lr
 refine (ox_poll x1 x2.ok (x2.lim (by omega) hK) (by omega) s1 rfl rfl).mono ?_
 rintro x w' ⟨rfl,ob',hx,hf⟩
 refine⟨e.lastTok+1,_,rfl,⟨ob',_,e1,e2,i,hx,s3,lim_of (by rw [s6,hl];omega) (by rw [s5];omega) s4,s2,by omega,by omega,?_,s8,rfl,s10,s11,by omega⟩,hf.size,fun v k xs t=>t.call x1 hf ⟨fc.p,fc.d,fc.md,fc.mn⟩⟩
 exact { s13 with tok:=by have:=s13.tok;push_cast;omega }
theorem fe_pollN {w wx:World}{hb P B R D bd bn wb r K Z Bw:Nat}(h:FE w wx hb P B R D bd bn wb r K Z [])(fc:FC w hb P D bd bn Bw)(hr:r<=5)(hK:K<=1000)(hZ:Z<=1000000000) :
  Calls Tryz.prog 12 #[.pointer (some ⟨hb,0,none⟩), .agg #[.int .i64 (-1), .int .i64 (-1), .int .i64 0, .int .i64 0]] wx fun x w'=>x= .returned (.tuple #[.agg #[.int .u64 0, .int .i64 0, .int .i64 0, .int .u64 0], .bool false, .int .i64 0])/\FE w w' hb P B R D bd bn wb r K (Z+1000000) []/\Stay wx w' Bw:=by
 obtain⟨ob,N,e,x1,x2,x3⟩:=h
 refine (ox_pollN x1 x2.ok (x2.lim (by omega) hK) (by omega) (by unfold EngD.poll;rw [x2.q])).mono ?_
 rintro x w' ⟨rfl,ob',hx,hf⟩
 exact⟨rfl,⟨ob',_,e,hx,x2,by omega⟩,hf.size,fun v k xs t=>t.call x1 hf ⟨fc.p,fc.d,fc.md,fc.mn⟩⟩
def FQ (w wx:World)(hb P B R D bd bn wb r K Z:Nat)(p:PlD)(q:List PlD)(m:Nat):Prop:=∃ob N e2 i,OX w wx hb P B R D bd bn wb ob N e2/\FI e2 r (q++moreL p m) (3+((K+1:Nat):Int))/\e2.find p.run=some i/\(e2.at_ i).steps.length=m/\N<=Z
theorem FQ.fe {w wx:World}{hb P B R D bd bn wb r K Z:Nat}{p:PlD}{q:List PlD}{m:Nat}(h:FQ w wx hb P B R D bd bn wb r K Z p q m):FE w wx hb P B R D bd bn wb r (K+1) Z (q++moreL p m):=by
 obtain⟨ob,N,e2,i,h1,h2,h3,h4,h5⟩:=h
 exact⟨ob,N,e2,h1,h2,h5⟩
theorem fp_complete {w wx:World}{hb P B R D bd bn wb r K Z Bw:Nat}{p:PlD}{q:List PlD}{tok:Int}{m:Nat}(h:FP w wx hb P B R D bd bn wb r K Z p q tok m)(fc:FC w hb P D bd bn Bw)(hZ:Z<=1000000000) :
  Calls Tryz.prog 13 #[.pointer (some ⟨hb,0,none⟩), .int .i64 4, .int .u64 tok, .agg #[.int .i64 (-1), .int .i64 (-1), .int .i64 0, .int .i64 0]] wx fun x w'=>x= .returned (.int .i64 0)/\FQ w w' hb P B R D bd bn wb r K (Z+1000000) p q m/\Stay wx w' Bw/\∀tb a b c f,TkC wx tb a b c f->TkC w' tb a b c f:=by
 obtain⟨ob,N,e1,e2,i,x1,x2,x3,x4,x5,x6,x7,x8,x9,x10,x11,x12⟩:=h
 refine (ox_complete (n:=tok.toNat) x1 x2 x3 (by omega) (by omega) (by omega) x4).mono ?_
 rintro x w' ⟨rfl,ob',hx,hf⟩
 exact⟨rfl,⟨ob',_,e2,i,hx,x7,x8,x9,by omega⟩,⟨hf.size,fun v k xs t=>t.call x1 hf ⟨fc.p,fc.d,fc.md,fc.mn⟩⟩,fun tb a b c f t=>t.call x1 hf⟩
theorem fq_query {w wx:World}{hb P B R D bd bn wb r K Z:Nat}{p:PlD}{q:List PlD}{m:Nat}(h:FQ w wx hb P B R D bd bn wb r K Z p q m) :
  Calls Tryz.prog 14 #[.pointer (some ⟨hb,0,none⟩), .int .u64 p.run] wx fun x w'=>∃st a1 c1 a2 c2,x= .returned (.tuple #[.agg #[.int .u64 p.run, .int .i64 st, .slice a1 m c1, .slice a2 m c2], .int .i64 0])/\Below wx.heap.size wx w':=by
 obtain⟨ob,N,e2,i,x1,x2,x3,x4,x5⟩:=h
 refine (hquery_any wx hb P B R D bd bn N ob e2 p.run x1.ow.host).mono ?_
 rintro x w' ⟨v,er,rfl,q1,hb1⟩
 rcases q1 with⟨q1,_⟩ | ⟨i',a1,a2,c1,c2,q1,rfl,rfl,_⟩
 ·rw [x3] at q1;cases q1
 ·rw [x3] at q1
  cases q1
  rw [x4]
  exact⟨_,a1,c1,a2,c2,rfl,hb1⟩
end Go.Proofs.YtgdcjccbdmcebabGreatDoor
