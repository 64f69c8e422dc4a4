import Derived.Test.YtgdcjccbdmcebabGreatDoorM50
import Derived.Test.YtgdcjccbdmcebabGreatDoorM52
set_option linter.unusedSimpArgs false
set_option linter.unusedVariables false
namespace Go.Proofs.YtgdcjccbdmcebabGreatDoor
open Go.RowKit
set_option maxRecDepth 100000
attribute [local go_sem ↓] Go.wp_at_zero Go.wp_at_succ
theorem ez_list:Tryz.zeroCells142=([Value.nilIface,Value.int .i64 0,Value.int .i64 0,Value.nilIface]++engZ).toArray:=by kernel_rfl
theorem ez_size:Tryz.zeroCells142.size=731:=by kernel_rfl
theorem cell_at2 {w:World}{b:Nat}{cs:Array Value}{t:TypeId}{fr:Nat×Nat}(h:w.heap[b]? =some (.cells cs t fr)){j:Nat}{v:Value}(hj:cs[j]? =some v):w.cell? ⟨b,j,none⟩=some v:=by simp [World.cell?,h,hj]
theorem ez_at {w:World}{b:Nat}{t:TypeId}{fr:Nat×Nat}(h:w.heap[b]? =some (.cells Tryz.zeroCells142 t fr)){j:Nat}{v:Value}(hj:([Value.nilIface,Value.int .i64 0,Value.int .i64 0,Value.nilIface]++engZ)[j]? =some v):w.cell? ⟨b,j,none⟩=some v:=cell_at2 h (by rw [ez_list];simpa using hj)
structure OpR (w wc:World)(P R D bd bn lb:Nat)(d:DkD):Prop where
 lg:wc.heap[lb]? =some (.cells #[dkI D, .int .i64 0, .int .i64 0, .nilIface] 125 (0,0))
 p:wc.heap[P]? =some (.cells Tryz.zeroCells142 142 (0,0))
 dk:DkAt wc R D bd bn d
 df:DF w wc R D bd bn
 nil:wc.cell? ⟨D,2,none⟩=some (.slice none 0 0)
theorem OpR.new {w w3:World}{P R D bd bn:Nat}{d:DkD}(p:w3.heap[P]? =some (.cells Tryz.zeroCells142 142 (0,0)))(dk:DkAt w3 R D bd bn d)(df:DF w w3 R D bd bn)(nil:w3.cell? ⟨D,2,none⟩=some (.slice none 0 0)):OpR w (w3.alloc (.cells #[dkI D, .int .i64 0, .int .i64 0, .nilIface] 125)) P R D bd bn w3.heap.size d:=by
 have hb:Below w3.heap.size w3 (w3.alloc (.cells #[dkI D, .int .i64 0, .int .i64 0, .nilIface] 125)):=(Below.refl _ _).alloc (Nat.le_refl _) _
 exact⟨heap_alloc_new _ _,(hb.block P (Zaa p)).trans p,dk.below hb,df.trans (DF.of_below R D bd bn hb),cell_later hb nil⟩
theorem OneF.fit {w w':World}{R D bd bn rb:Nat}{d:DkD}{cs:Array Value}{t:TypeId}{fr:Nat×Nat}(ho:OneF w w' rb)(hr:w.heap[rb]? =some (.cells cs t fr))(ht:t≠9/\t≠147/\t≠101)(dk:DkAt w R D bd bn d):DkAt w' R D bd bn d:=by
 obtain⟨pa,pc,q,_⟩:=dk.c
 obtain⟨Dd,f3⟩:=dk.fd
 obtain⟨Dn,f4⟩:=dk.fn
 have hm:∀bm f Dx,FilAt w bm f Dx->bm≠rb:=fun bm f Dx hx e2=>by
  obtain⟨es,c,e3,_⟩:=hx.own
  rw [e2,hr] at e3;cases e3
 exact dk.keep ho.size (ho.block D (Zaa q.blk) (Zak q.blk hr (Ne.symm ht.2.2))) (ho.block bd f3.lt (hm _ _ _ f3)) (ho.block bn f4.lt (hm _ _ _ f4)) (fun k cs t' fr e h'=>ho.block k (Zaa e) (Zak e hr (by rcases h' with rfl | rfl;exact Ne.symm ht.1;exact Ne.symm ht.2.1)))
theorem DF.far {w w1 w':World}{R D bd bn rb:Nat}(h:DF w w1 R D bd bn)(ho:OneF w1 w' rb)(hr:w.heap.size<=rb):DF w w' R D bd bn :=
 ⟨ho.os.trans h.os,ho.tape.trans h.tape,ho.output.trans h.output,Nat.le_trans h.size ho.size,fun k hk a1 a2 a3 a4=>(ho.block k (Nat.lt_of_lt_of_le hk h.size) (by omega)).trans (h.block k hk a1 a2 a3 a4)⟩
theorem OpR.old {w w3:World}{P R D bd bn lb:Nat}{d:DkD}(p:w3.heap[P]? =some (.cells Tryz.zeroCells142 142 (0,0)))(dk:DkAt w3 R D bd bn d)(df:DF w w3 R D bd bn)(hl:w3.heap[lb]? =some (.cells #[.nilIface, .int .i64 0, .int .i64 0, .nilIface] 125 (0,0)))(hlb:w.heap.size<=lb)(nil:w3.cell? ⟨D,2,none⟩=some (.slice none 0 0))(hDlb:D≠lb):OpR w ((((w3.setCell ⟨lb,0,none⟩ (dkI D)).setCell ⟨lb,1,none⟩ (.int .i64 0)).setCell ⟨lb,2,none⟩ (.int .i64 0)).setCell ⟨lb,3,none⟩ .nilIface) P R D bd bn lb d:=by
 have ho:=OneF.set4 w3 lb (dkI D) (.int .i64 0) (.int .i64 0) .nilIface
 exact⟨by rw [Zac (Zac (Zac (Zac hl _) _) _) _];rfl,(ho.block P (Zaa p) (Zak p hl (by decide))).trans p,ho.fit hl (by decide) dk,df.far ho hlb,(World.cell?_of_block (a:=⟨D,2,none⟩) (ho.block D (World.block_lt_of_cell? _ _ nil) hDlb)).trans nil⟩
set_option maxHeartbeats 2000000 in
theorem eopen_none (w:World)(R D bd bn M:Nat)(d:DkD)(h:DkAt w R D bd bn d)(hw:d.wErr=0)(hdn:d.synced.down=false)(hn:∀i,i<3->d.synced.now i=none)(hs:SzF d.dur M)(hs2:∀o∈d.pend,o.data.length<=M)(hM:M<=1099511627776)(hnm:Zbi w)(hgl:4<D/\4<bd/\4<bn/\4<R) :
  Calls Tryz.prog 46 #[dkI D] w fun x w'=>∃P,x= .returned (.tuple #[.pointer (some ⟨P,0,none⟩), .nilIface])/\w.heap.size<=P/\P<w'.heap.size/\LogAt w' P D ⟨0,0,0⟩/\(∀j v,engZ[j]? =some v->w'.cell? ⟨P,4+j,none⟩=some v)/\DkAt w' R D bd bn d.synced/\DF w w' R D bd bn/\w'.cell? ⟨D,2,none⟩=some (.slice none 0 0):=by
 obtain⟨P,hP⟩:∃P,P=w.heap.size:=⟨_,rfl⟩
 obtain⟨w1,hw1⟩:∃w1,w1=w.alloc (.cells Tryz.zeroCells142 142):=⟨_,rfl⟩
 have hb1:Below w.heap.size w w1:=by rw [hw1];exact (Below.refl _ _).alloc (Nat.le_refl _) _
 have hp1:w1.heap[P]? =some (.cells Tryz.zeroCells142 142 (0,0)):=by rw [hw1,hP];exact heap_alloc_new w _
 obtain⟨pa,pc,dk,_⟩:=h.c
 obtain⟨Dd,f3⟩:=h.fd
 obtain⟨Dn,f4⟩:=h.fn
 have hDl:=Zaa dk.blk
 have hdl:=f3.lt
 have hnl:=f4.lt
 have HOP:=Hid.mk (show ∀wx v1 v2,Below w1.heap.size w1 wx->Calls Tryz.prog 71 #[dkI D,v1,v2] wx fun x w'=>x= .returned (.tuple #[logV D, .nilIface])/\DkAt w' R D bd bn d.synced/\DF w w' R D bd bn/\w'.cell? ⟨D,2,none⟩=some (.slice none 0 0)/\w'.heap[P]? =some (.cells Tryz.zeroCells142 142 (0,0))/\∀k cs,w.heap.size<=k->wx.heap[k]? =some (.cells cs 125 (0,0))->w'.heap[k]? =some (.cells cs 125 (0,0)) from fun wx v1 v2 hbx=>by
  have hbw:Below w.heap.size w wx:=hb1.trans (hbx.mono hb1.size)
  refine (lopen_none wx R D bd bn M d v1 v2 (h.below hbw) hw hdn hn hs hs2 hM (fun i hi=>cell_later hbw (hnm i hi)) hgl).mono ?_
  rintro x w' ⟨rfl,q1,q2,q9⟩
  have hpx:=(hbx.block P (Zaa hp1)).trans hp1
  refine⟨rfl,q1,(DF.of_below R D bd bn hbw).trans q2,q9,(q2.block P (Zaa hpx) (by omega) (by omega) (by omega) (Or.inr fun cs' fr' e'=>by rw [hpx] at e';simp only [Option.some.injEq,Obj.cells.injEq] at e';exact absurd e'.2.1 (by decide))).trans hpx,fun k cs hk hkx=>(q2.block k (Zaa hkx) (by omega) (by omega) (by omega) (Or.inr fun cs' fr' e'=>by rw [hkx] at e';simp only [Option.some.injEq,Obj.cells.injEq] at e';exact absurd e'.2.1 (by decide))).trans hkx⟩)
 have HR:=Hid.mk (And.intro hw1 (And.intro hP hb1))
 have HDL:=Hid.mk hDl
 have hmf:∀(fn:Fn) (first cap:Array Value) (w:World),(Instr.makeFunc fn first cap).run Tryz.prog w= .ok (.func fn first cap) w:=fun _ _ _ _=>rfl
 unfold logV at HOP
 unfold dkI at HOP
 unfold dkI
 clear h hw hdn hn hs hs2 hM hnm hgl hP hw1 hb1 hp1 dk f3 f4 hDl hdl hnl
 go_enter Tryz.func46,Tryz.ntmps46
 go_upto_region 3 with fail
 go_upto_region 4 with fail
 rw [<-HR.out.1,<-HR.out.2.1]
 go_cut [5,6] from 12 to 24 (fun lv ev wc=>∃lb,lv= .pointer (some ⟨lb,0,none⟩)/\ev= .nilIface/\OpR w wc P R D bd bn lb d.synced)
 case first =>
  go_region_with (go_at_call 71;first
   | (refine (HOP.out w1.drew _ _ ((Below.refl _ _).drew)).mono ?_;rintro _ w3 ⟨rfl,q1,q2,q9,q3,q4⟩;have H3:=Hid.mk (And.intro q1 (And.intro q2 (And.intro q3 q9)));clear q1 q2 q9 q3 q4)
   | (refine (HOP.out _ _ _ (((Below.refl _ _).alloc (Nat.le_refl _) _).drew)).mono ?_;rintro _ w3 ⟨rfl,q1,q2,q9,q3,q4⟩;have q5:=q4 w1.heap.size _ HR.out.2.2.size (heap_alloc_new w1 _);have q6:∀o,w3.frozen? ⟨w1.heap.size,o,none⟩=false:=(fun o=>by simp [World.frozen?,q5]);have e0:=Zai q5 0;have e1:=Zai q5 1;have e2:=Zai q5 2;have e3:=Zai q5 3;have g0:=q6 0;have g1:=q6 1;have g2:=q6 2;have g3:=q6 3;have H3:=Hid.mk (And.intro q1 (And.intro q2 (And.intro q3 (And.intro q5 q9))));clear q1 q2 q9 q3 q4 q5 q6))
  all_goals go_wp2_with fail
  all_goals go_meet
  all_goals first
   | exact⟨_,rfl,rfl,OpR.new H3.out.2.2.1 H3.out.1 H3.out.2.1 H3.out.2.2.2⟩
   | exact⟨_,rfl,rfl,OpR.old H3.out.2.2.1 H3.out.1 H3.out.2.1 H3.out.2.2.2.1 HR.out.2.2.size H3.out.2.2.2.2 (by have:=HDL.out;have:=HR.out.2.2.size;omega)⟩
 case rest =>
  obtain⟨lb,rfl,rfl,hop⟩:=hcut
  have hlg:=hop.lg
  unfold dkI at hlg
  have e0:=Zai hlg 0
  have e1:=Zai hlg 1
  have e2:=Zai hlg 2
  have e3:=Zai hlg 3
  have z0:=ez_at hop.p (j:=0) rfl
  have z1:=ez_at hop.p (j:=1) rfl
  have z2:=ez_at hop.p (j:=2) rfl
  have z3:=ez_at hop.p (j:=3) rfl
  have g0:wc.frozen? ⟨P,0,none⟩=false:=by simp [World.frozen?,hop.p]
  have g1:wc.frozen? ⟨P,1,none⟩=false:=by simp [World.frozen?,hop.p]
  have g2:wc.frozen? ⟨P,2,none⟩=false:=by simp [World.frozen?,hop.p]
  have g3:wc.frozen? ⟨P,3,none⟩=false:=by simp [World.frozen?,hop.p]
  have HP:=Hid.mk hop
  clear hop hlg
  go_wp2_with fail
  go_ret2
  have hp:=HP.out.p
  have ho:=OneF.set4 wc P (dkI D) (.int .i64 0) (.int .i64 0) .nilIface
  have hset:((((wc.setCell ⟨P,0,none⟩ (dkI D)).setCell ⟨P,1,none⟩ (.int .i64 0)).setCell ⟨P,2,none⟩ (.int .i64 0)).setCell ⟨P,3,none⟩ .nilIface).heap[P]? =some (.cells ((((Tryz.zeroCells142.setIfInBounds 0 (dkI D)).setIfInBounds 1 (.int .i64 0)).setIfInBounds 2 (.int .i64 0)).setIfInBounds 3 .nilIface) 142 (0,0)):=by
   rw [Zac (Zac (Zac (Zac hp _) _) _) _]
  have hfz:∀o,((((wc.setCell ⟨P,0,none⟩ (dkI D)).setCell ⟨P,1,none⟩ (.int .i64 0)).setCell ⟨P,2,none⟩ (.int .i64 0)).setCell ⟨P,3,none⟩ .nilIface).frozen? ⟨P,o,none⟩=false:=fun o=>by simp only [World.frozen?,hset];simp
  have hsz:=ez_size
  refine⟨P,rfl,Nat.le_of_eq HR.out.2.1.symm,Zaa hset,⟨?_,?_,?_,?_,hfz⟩,fun j v hj=> ?_,ho.fit hp (by decide) HP.out.dk,HP.out.df.far ho (Nat.le_of_eq HR.out.2.1.symm),(World.cell?_of_block (a:=⟨D,2,none⟩) (ho.block D (World.block_lt_of_cell? _ _ HP.out.nil) (by have:=HDL.out;have:=HR.out.2.1;omega))).trans HP.out.nil⟩
  ·exact cell_at2 hset (by rw [Array.getElem?_setIfInBounds_ne (by decide),Array.getElem?_setIfInBounds_ne (by decide),Array.getElem?_setIfInBounds_ne (by decide),Array.getElem?_setIfInBounds_self_of_lt (by rw [hsz];decide)])
  ·exact cell_at2 hset (by rw [Array.getElem?_setIfInBounds_ne (by decide),Array.getElem?_setIfInBounds_ne (by decide),Array.getElem?_setIfInBounds_self_of_lt (by simp [hsz])];rfl)
  ·exact cell_at2 hset (by rw [Array.getElem?_setIfInBounds_ne (by decide),Array.getElem?_setIfInBounds_self_of_lt (by simp [hsz])];rfl)
  ·exact cell_at2 hset (by rw [Array.getElem?_setIfInBounds_self_of_lt (by simp [hsz])];rfl)
  ·refine cell_at2 hset ?_
   rw [Array.getElem?_setIfInBounds_ne (by omega),Array.getElem?_setIfInBounds_ne (by omega),Array.getElem?_setIfInBounds_ne (by omega),Array.getElem?_setIfInBounds_ne (by omega),ez_list]
   rw [List.getElem?_toArray,List.getElem?_append_right (by simp)]
   simpa using hj
structure HF (w w':World)(hb D bd bn:Nat):Prop where
 os:w'.os=w.os
 tape:w'.tape=w.tape
 output:w'.output=w.output
 size:w.heap.size<=w'.heap.size
 block:∀k,k<w.heap.size->k≠hb->k≠D->k≠bd->k≠bn->w'.heap[k]? =w.heap[k]?
structure OpnR (w w':World)(fb hb P D bd bn:Nat):Prop where
 pw:w.heap.size<=P
 pl:P<w'.heap.size
 log:LogAt w' P D ⟨0,0,0⟩
 cells:∀j v,engZ[j]? =some v->w'.cell? ⟨P,4+j,none⟩=some v
 dk:∃R,DkAt w' R D bd bn (DkD.synced ⟨noFil,noFil,[],-1,-1,false⟩)
 nil:w'.cell? ⟨D,2,none⟩=some (.slice none 0 0)
 host:HostC w' hb D (.pointer none)
 fall:w'.heap[fb]? =some (.cells #[.int .i64 (-1), .int .i64 (-1), .int .i64 0, .int .i64 0] 26 (0,0))
 hf:HF w w' hb D bd bn
def dkNew:DkD:=⟨noFil,noFil,[],-1,-1,false⟩
theorem dkNew_s:dkNew.synced=⟨noFil,noFil,[],-2,-2,false⟩:=by
 simp [DkD.synced,dkNew,DkD.wErr,DkD.wrote,wI]
theorem well_new {N:Nat}(hN:2000000<=N):WellS ⟨0,0,0⟩ (DkD.calm dkNew.synced) N Za5:=by
 rw [dkNew_s]
 exact⟨rfl,rfl,rfl,rfl,rfl,rfl,rfl,fun i s h=>(by cases h),fun i s h=>(by cases h),hN,[], .nil _,filR_nil.symm,filR_nil.symm⟩
set_option maxHeartbeats 8000000 in
theorem hopen_none (w:World)(hb D bd bn N:Nat)(h:HostN w hb D bd bn)(he:ErrTypeIn w)(hnm:Zbi w)(ht:TabIn w)(hgl:4<hb/\4<D/\4<bd/\4<bn)(hne:hb≠D/\hb≠bd/\hb≠bn)(hN:2000000<=N) :
  Calls Tryz.prog 22 #[.pointer (some ⟨hb,0,none⟩),Zbq (-1) (-1) 0 0] w fun x w'=>x= .returned (.int .i64 0)/\∃P B,HostAt w' hb P B B D bd bn none N Za5/\w.heap.size<=P/\w.heap.size<=B/\HF w w' hb D bd bn:=by
 obtain⟨fb,hfb⟩:∃fb,fb=w.heap.size:=⟨_,rfl⟩
 obtain⟨w1,hw1⟩:∃w1,w1=w.alloc (.cells #[.int .i64 (-1), .int .i64 (-1), .int .i64 0, .int .i64 0] 26):=⟨_,rfl⟩
 have hb1:Below w.heap.size w w1:=by rw [hw1];exact (Below.refl _ _).alloc (Nat.le_refl _) _
 have hfk:w1.heap[fb]? =some (.cells #[.int .i64 (-1), .int .i64 (-1), .int .i64 0, .int .i64 0] 26 (0,0)):=by rw [hw1,hfb];exact heap_alloc_new w _
 have hhl:=Zaa h.host.blk
 have hDl:=Zaa h.dk.blk
 obtain⟨Dd,hfd⟩:=h.fd
 obtain⟨Dn,hfn⟩:=h.fn
 have hdl:=hfd.lt
 have hnl:=hfn.lt
 have hbe:0<w.heap.size:=World.block_lt_of_cell? _ _ he
 have hh1:=h.host.at_ (hb1.block hb hhl)
 have hd1:=h.dk.at_ (hb1.block D hDl)
 have hns:∀k s,StrAt w1 k s->k≠D:=fun k s e y=>by
  unfold StrAt at e
  rw [y,hd1.blk] at e
  simp only [Option.some.injEq,Obj.cells.injEq] at e
  exact absurd e.2.1 (by decide)
 have hmD:bd≠D/\bn≠D:=⟨fun e=>(by
  obtain⟨es,c,e3,_⟩:=hfd.own
  rw [e,h.dk.blk] at e3;cases e3),fun e=>(by
  obtain⟨es,c,e3,_⟩:=hfn.own
  rw [e,h.dk.blk] at e3;cases e3)⟩
 have HBEF:=Hid.mk (show Calls Tryz.prog 28 #[.pointer (some ⟨hb,0,none⟩),Zbq (-1) (-1) 0 0] w1 fun x w'=>x= .returned (.tuple #[])/\HostC w' hb D (.pointer none)/\DkAt w' w1.heap.size D bd bn dkNew/\OneF w1 w' D from by
  refine (before_any w1 hb D bd bn _ _ _ _ false (-1) (-1) 0 0 hh1 hd1).mono ?_
  rintro x w' ⟨rfl,q1,q2⟩
  refine⟨rfl,hh1.at_ (q2.block hb (by have:=hb1.size;omega) hne.1),⟨q2.size,⟨none,0,q1,World.ownsRow_nil _ _ _ _⟩,⟨Dd,(hfd.below hb1).keepS (q2.block bd (by have:=hb1.size;omega) hmD.1) (fun k s e=>q2.block k (Zaa e) (hns k s e))⟩,⟨Dn,(hfn.below hb1).keepS (q2.block bn (by have:=hb1.size;omega) hmD.2) (fun k s e=>q2.block k (Zaa e) (hns k s e))⟩,h.ne,Nat.zero_le _,fun o ho=>by cases ho⟩,q2⟩)
 have HR:=Hid.mk (And.intro hw1 (And.intro hfb (And.intro hb1 hfk)))
 have HL:=Hid.mk (And.intro hhl (And.intro hDl (And.intro hdl (And.intro hnl hbe))))
 have HE:=Hid.mk (And.intro he (And.intro hnm (And.intro ht (And.intro hgl hne))))
 have c0:w1.cell? ⟨hb,0,none⟩=some (.pointer (some ⟨D,0,none⟩)):=hh1.cells.1
 have z0:w1.cell? ⟨fb,0,none⟩=some (.int .i64 (-1)):=by unfold World.cell?;rw [hfk];rfl
 have z1:w1.cell? ⟨fb,1,none⟩=some (.int .i64 (-1)):=by unfold World.cell?;rw [hfk];rfl
 have z2:w1.cell? ⟨fb,2,none⟩=some (.int .i64 0):=by unfold World.cell?;rw [hfk];rfl
 have z3:w1.cell? ⟨fb,3,none⟩=some (.int .i64 0):=by unfold World.cell?;rw [hfk];rfl
 unfold Zbq at HBEF ⊢
 clear h he hnm ht hgl hne hfb hw1 hb1 hfk hhl hDl hfd hfn hdl hnl hbe hh1 hd1 hns hmD
 go_enter Tryz.func22,Tryz.ntmps22
 go_upto_region 1 with fail
 rw [<-HR.out.2.1,<-HR.out.1]
 go_upto_region 2 with (go_at_call 28;refine HBEF.out.mono ?_;rintro _ w2 ⟨rfl,q1,q2,q3⟩;have H2:=Hid.mk (And.intro q1 (And.intro q2 q3));clear q1 q2 q3)
 have HOP:=Hid.mk (show Calls Tryz.prog 46 #[dkI D] w2 fun x w'=>∃P,x= .returned (.tuple #[.pointer (some ⟨P,0,none⟩), .nilIface])/\OpnR w w' fb hb P D bd bn from by
  obtain⟨g1,g2,g3,g4⟩:=HE.out.2.2.2.1
  obtain⟨l1,l2,l3,l4,l5⟩:=HL.out
  obtain⟨r1,r2,r3,r4⟩:=HR.out
  obtain⟨a1,a2,a3⟩:=H2.out
  have hs:=r3.size
  have hnm2:Zbi w2:=fun i hi=>by
   have hz:=cell_later r3 (HE.out.2.1 i hi)
   exact (World.cell?_of_block (a:=⟨1,i,none⟩) (a3.block 1 (World.block_lt_of_cell? _ _ hz) (by omega))).trans hz
  refine (eopen_none w2 w1.heap.size D bd bn 0 dkNew a2 (by simp [DkD.wErr,dkNew]) (by rw [dkNew_s]) (fun i _=>by rw [dkNew_s];rfl) (fun i s h=>by cases h) (fun o h=>by cases h) (by omega) hnm2 ⟨g2,g3,g4,by omega⟩).mono ?_
  rintro x w' ⟨P,rfl,b1,b2,b3,b4,b5,b6,b7⟩
  have e2:=a3.size
  have hfb2:w2.heap[fb]? =some (.cells #[.int .i64 (-1), .int .i64 (-1), .int .i64 0, .int .i64 0] 26 (0,0)):=(a3.block fb (Zaa r4) (by omega)).trans r4
  have stay:∀k,k<w.heap.size->k≠D->k≠bd->k≠bn->w'.heap[k]? =w.heap[k]? :=fun k hk k1 k2 k3=>by
   rw [b6.block k (by omega) k1 k2 k3 (Or.inl (by omega)),a3.block k (by omega) k1,r3.block k hk]
  refine⟨P,rfl,by omega,b2,b3,b4,⟨_,b5⟩,b7,a1.at_ (b6.block hb (by omega) HE.out.2.2.2.2.1 HE.out.2.2.2.2.2.1 HE.out.2.2.2.2.2.2 (Or.inl (by omega))),(b6.block fb (Zaa hfb2) (by omega) (by omega) (by omega) (Or.inr fun cs' fr' e'=>by rw [hfb2] at e';simp only [Option.some.injEq,Obj.cells.injEq] at e';exact absurd e'.2.1 (by decide))).trans hfb2,⟨b6.os.trans (a3.os.trans r3.os),b6.tape.trans (a3.tape.trans r3.tape),b6.output.trans (a3.output.trans r3.output),by have:=b6.size;omega,fun k hk _ k1 k2 k3=>stay k hk k1 k2 k3⟩⟩)
 obtain⟨a0,_⟩:=H2.out.1.cells
 have a1:w2.cell? ⟨hb,0,none⟩=some (.pointer (some ⟨D,0,none⟩)):=a0
 unfold dkI at HOP
 clear a0 z0 z1 z2 z3 c0
 go_upto_region 3 with (go_at_call 46;refine HOP.out.mono ?_;rintro _ w3 ⟨P,rfl,hop⟩;have HP:=Hid.mk hop;clear hop)
 have hh3:=HP.out.host
 have b1:=hh3.cells.2
 have f1:w3.frozen? ⟨hb,1,none⟩=false:=hh3.froz 1
 clear a1
 go_upto_region 4 with fail
 obtain⟨w4,hw4⟩:∃w4,w4=w3.setCell ⟨hb,1,none⟩ (.pointer (some ⟨P,0,none⟩)):=⟨_,rfl⟩
 rw [<-hw4]
 have ho:OneF w3 w4 hb:=by rw [hw4];exact (OneF.refl w3 hb).set 1 _
 have hh4:HostC w4 hb D (.pointer (some ⟨P,0,none⟩)):=by rw [hw4];exact hh3.set _
 have HW4:=Hid.mk (And.intro hw4 (And.intro ho hh4))
 obtain⟨g1,g2,g3,g4⟩:=HE.out.2.2.2.1
 obtain⟨n1,n2,n3⟩:=HE.out.2.2.2.2
 obtain⟨l1,l2,l3,l4,l5⟩:=HL.out
 obtain⟨r1,r2,r3,r4⟩:=HR.out
 have hrs:=r3.size
 have hop:=HP.out
 have hPw:=hop.pw
 have hs3:=hop.hf.size
 have hsz:=ho.size
 have hPl:=hop.pl
 have hcell:∀o v,w3.cell? ⟨P,o,none⟩=some v->w4.cell? ⟨P,o,none⟩=some v:=fun o v e=>(World.cell?_of_block (a:=⟨P,o,none⟩) (ho.block P hPl (by omega))).trans e
 have hfz:∀o,w4.frozen? ⟨P,o,none⟩=false:=fun o=>(World.frozen?_of_block (a:=⟨P,o,none⟩) (ho.block P hPl (by omega))).trans (hop.log.fz o)
 have hold:∀k,k<w.heap.size->k≠hb->k≠D->k≠bd->k≠bn->w4.heap[k]? =w.heap[k]? :=fun k hk k0 k1 k2 k3=>(ho.block k (by omega) k0).trans (hop.hf.block k hk k0 k1 k2 k3)
 have hgn:1<w.heap.size:=World.block_lt_of_cell? _ _ (HE.out.2.1 0 (by omega))
 have hgt:2<w.heap.size:=World.block_lt_of_cell? _ _ (HE.out.2.2.1 0 (by omega))
 have hE4:EngAt w4 P w3.heap.size w3.heap.size D bd bn none ⟨0,0,0⟩ dkNew.synced Za5:=by
  refine⟨kp_new (fun j v hj=>hcell _ _ (hop.cells j v hj)) hfz hPl hsz,⟨hcell _ _ hop.log.c0,hcell _ _ hop.log.c1,hcell _ _ hop.log.c2,hcell _ _ hop.log.c3,hfz⟩,?_,fun i hi=> ?_,?_,⟨⟨by omega,by omega,by omega,hPl,by omega,by omega,by omega,by omega⟩,hPl,by omega,by omega,by omega⟩⟩
  ·obtain⟨R0,hdk⟩:=hop.dk
   refine DkAt.raise (R:=R0) (ho.fit hh3.blk (by decide) hdk) (by rw [dkNew_s]) ?_ hsz
   exact (World.cell?_of_block (a:=⟨D,2,none⟩) (ho.block D (by omega) (by omega))).trans hop.nil
  ·exact (World.cell?_of_block (a:=⟨1,i,none⟩) (hold 1 hgn (by omega) (by omega) (by omega) (by omega))).trans (HE.out.2.1 i hi)
  ·exact HE.out.2.2.1.at_ (hold 2 hgt (by omega) (by omega) (by omega) (by omega))
 have hfb4:w4.heap[fb]? =some (.cells #[.int .i64 (-1), .int .i64 (-1), .int .i64 0, .int .i64 0] 26 (0,0)):=(ho.block fb (Zaa hop.fall) (by omega)).trans hop.fall
 have he4:ErrTypeIn w4:=(World.cell?_of_block (a:=⟨0,0,none⟩) (hold 0 l5 (by omega) (by omega) (by omega) (by omega))).trans HE.out.1
 have HAFT:=Hid.mk (show Calls Tryz.prog 30 #[.pointer (some ⟨hb,0,none⟩),Zbq (-1) (-1) 0 0] w4 fun x w'=>x= .returned (.tuple #[])/\EngAt w' P w3.heap.size w3.heap.size D bd bn none ⟨0,0,0⟩ dkNew.synced.calm Za5/\OneF w4 w' D/\HostC w' hb D (.pointer (some ⟨P,0,none⟩))/\ErrTypeIn w' from by
  refine (Zda w4 hb P _ _ D bd bn none _ _ _ _ _ _ 0 0 hE4 (by rw [dkNew_s]) hh4).mono ?_
  rintro x w' ⟨rfl,q1,q2⟩
  exact⟨rfl,q1,q2,hh4.at_ (q2.block hb (Zaa hh4.blk) n1),(World.cell?_of_block (a:=⟨0,0,none⟩) (q2.block 0 (World.block_lt_of_cell? _ _ he4) (by omega))).trans he4⟩)
 have y0:w4.cell? ⟨fb,0,none⟩=some (.int .i64 (-1)):=by unfold World.cell?;rw [hfb4];rfl
 have y1:w4.cell? ⟨fb,1,none⟩=some (.int .i64 (-1)):=by unfold World.cell?;rw [hfb4];rfl
 have y2:w4.cell? ⟨fb,2,none⟩=some (.int .i64 0):=by unfold World.cell?;rw [hfb4];rfl
 have y3:w4.cell? ⟨fb,3,none⟩=some (.int .i64 0):=by unfold World.cell?;rw [hfb4];rfl
 have HK:=Hid.mk (And.intro hold (And.intro hsz (And.intro hs3 (And.intro hPw hPl))))
 unfold Zbq at HAFT
 clear hh3 b1 f1 hw4 ho hh4 g1 g2 g3 g4 n1 n2 n3 l1 l2 l3 l4 l5 r1 r2 r3 r4 hrs hop hPw hs3 hsz hPl hcell hfz hold hgn hgt hE4 hfb4 he4
 go_wp2_with (first
  | (go_at_call 30;refine HAFT.out.mono ?_;rintro _ w5 ⟨rfl,q1,q2,q3,q4⟩;have H5:=Hid.mk (And.intro q1 (And.intro q2 (And.intro q3 q4)));clear q1 q2 q3 q4)
  | (go_at_call 33;refine (Zcx 0 _ H5.out.2.2.2).mono ?_;rintro _ w6 ⟨rfl,hb6⟩;have H6:=Hid.mk hb6;clear hb6))
 go_ret
 obtain⟨hold,hsz,hs3,hPw,hPl⟩:=HK.out
 obtain⟨q1,q2,q3,q4⟩:=H5.out
 have hb6:=H6.out
 have hs5:=q2.size
 have hfr:HF w w6 hb D bd bn:=by
  have ho:=HW4.out.2.1
  have hf:=HP.out.hf
  exact⟨hb6.os.trans (q2.os.trans (ho.os.trans hf.os)),hb6.tape.trans (q2.tape.trans (ho.tape.trans hf.tape)),hb6.output.trans (q2.output.trans (ho.output.trans hf.output)),by have:=hb6.size;omega,fun k hk k0 k1 k2 k3=>(hb6.block k (by omega)).trans ((q2.block k (by omega) k1).trans (hold k hk k0 k1 k2 k3))⟩
 refine⟨rfl,P,w3.heap.size,⟨⟨_,_,q1.below hb6,well_new hN⟩,q3.at_ (hb6.block hb (Zaa q3.blk)),q4.keep hb6,?_⟩,hPw,hs3,hfr⟩
 obtain⟨l1,l2,l3,l4,l5⟩:=HL.out
 obtain⟨n1,n2,n3⟩:=HE.out.2.2.2.2
 exact⟨by omega,by omega,by omega,n1,n2,n3,HE.out.2.2.2.1.1⟩
end Go.Proofs.YtgdcjccbdmcebabGreatDoor
