import Derived.Test.YtgdcjccbdmcebabGreatDoorM53
import Derived.Test.YtgdcjccbdmcebabGreatDoorCards
import Derived.Test.YtgdcjccbdmcebabGreatDoorTie
import Derived.OpenShut
import Derived.Lib.SmallJoins
import Derived.Deep.Slices
import Derived.SizedLaws
import Derived.Deep.DeepHandedRow
set_option linter.unusedSimpArgs false
set_option linter.unusedVariables false
namespace Go.Proofs.YtgdcjccbdmcebabGreatDoor
open Go.RowKit
set_option maxRecDepth 100000
attribute [local go_sem ↓] Go.wp_at_zero Go.wp_at_succ
theorem KxI.alloc {w2 x:World}{g:Nat->Value}(h:KxI w2 x g)(o:Obj):KxI w2 (x.alloc o) g :=
 ⟨h.os,h.tape,h.output,by have:=h.size;simp;omega,fun k hk=>(Zaj _ _ _ (by have:=h.size;omega)).trans (h.block k hk),h.nd.block (Zaj _ _ _ h.size)⟩
theorem tmod7 (v:Int): -7<v.tmod 7/\v.tmod 7<7:=by
 have h1:=Int.tmod_lt_of_pos v (b:=7) (by omega)
 have h2:=Int.tmod_lt_of_pos (-v) (b:=7) (by omega)
 rw [Int.neg_tmod] at h2
 omega
set_option maxHeartbeats 16000000 in
theorem fifo_any (w:World)(ac ad:Option Addr)(nc cc nd cd:Nat)(fc fd:Nat->Int)(hc:IntsIn w ac nc cc fc)(hd:IntsIn w ad nd cd fd)(he:ErrTypeIn w)(hnm:Zbi w)(ht:TabIn w)(hg:4<w.heap.size)(hgt:2<w.heap.size)(hge:0<w.heap.size) :
  Calls Tryz.prog 3 #[.slice ac nc cc, .slice ad nd cd] w fun x w'=>x= .returned (.bool true)/\Below w.heap.size w w':=by
 have HC:=Hid.mk (And.intro hc hd)
 have HT:=Hid.mk (And.intro ht (And.intro hgt hg))
 have HOP:=Hid.mk (opened_any w he hnm ht hg hgt hge)
 have HW:=Hid.mk (fun wx=>pwell_any wx)
 unfold Zbq at HW
 obtain⟨i27,hi27,hz270,hz271,hz272⟩:=info_parts info27
 have HI27:=Hid.mk (And.intro hi27 (And.intro hz270 (And.intro hz271 hz272)))
 obtain⟨it,hit,hzt0,hzt1,hzt2⟩:=info_parts infoTk
 have HIT:=Hid.mk (And.intro hit (And.intro hzt0 (And.intro hzt1 hzt2)))
 clear hc hd he hnm ht hg hgt hge hi27 hz270 hz271 hz272 hit hzt0 hzt1 hzt2
 go_enter Tryz.func3,Tryz.ntmps3
 go_upto_region 2 with (go_at_call 5;refine HOP.out.mono ?_;rintro _ w1 ⟨hb,P,B,R,D,bd,bn,ob,f,rfl,q1,q2⟩;have H1:=Hid.mk (And.intro q1 q2);clear q1 q2)
 go_upto_region 3 with (go_at_call 6;refine (HW.out w1).mono ?_;rintro _ w2 ⟨rfl,hb2⟩;have H2:=Hid.mk hb2;clear hb2)
 obtain⟨wb,hwb⟩:∃wb,wb=w2.heap.size:=⟨_,rfl⟩
 obtain⟨w3,hw3⟩:∃w3,w3=w2.alloc (.cells #[.int .i64 (-1), .int .i64 (-1), .int .i64 0, .int .i64 0] 26):=⟨_,rfl⟩
 rw [<-hw3,<-hwb]
 have hb3:Below w1.heap.size w1 w3:=by rw [hw3];exact H2.out.alloc H2.out.size _
 obtain⟨Bw,hBw⟩:∃Bw,Bw=w3.heap.size:=⟨_,rfl⟩
 have hX3:FE w w3 hb P B R D bd bn wb 0 0 12000000 []:=⟨ob,_,_,⟨H1.out.1.below hb3,by rw [hw3,hwb];exact heap_alloc_new w2 _⟩,fi_opened H1.out.2,by omega⟩
 have hFC:FC w hb P D bd bn Bw:=by
  have hx:=H1.out.1
  obtain⟨g,d,h1,_⟩:=hx.host.ex
  have hn:=h1.ne
  have hpl:=h1.pl
  have hhb:=hx.host.ne.b
  have hbel:=hx.bel.size
  have hs3:=hb3.size
  have:=hn.p;have:=hn.d;have:=hn.md;have:=hn.mn
  exact⟨by omega,by omega,by omega,by omega,by omega,by omega,HT.out.2.2⟩
 have X3:=Hid.mk (And.intro hX3 hFC)
 have HB:=Hid.mk hBw
 clear hX3 hFC hb3 hw3 hwb hBw HW HOP
 go_wp2_with fail
 go_loopw [8,7] (fun rv wv wr=>∃(r K:Nat) (q:List PlD) (a:Option Addr) (c:Nat),rv= .int .i64 r/\r<=5/\r<=nc/\wv= .slice a q.length c/\FE w wr hb P B R D bd bn wb r K (12000000+20000000 * r) q/\K<=6 * r/\q.length<=12 * r/\wRow wr Bw 43 4 (.slice a q.length c) q.length (q.flatMap wtV)/\Bw<=wr.heap.size) (fun rv _ _=>5 - (intOf rv).toNat)
 case atStart=>exact⟨0,0,[],none,0,rfl,by omega,by omega,rfl,X3.out.1,by omega,by simp,wRow.nil _ _ _ _,Nat.le_of_eq HB.out⟩
 case round =>
  obtain⟨r,K,q,a,c,rfl,hr,hrn,rfl,hE,hK,hq,hrow,hBs⟩:=hrel
  rename World=>wr
  have HE:=Hid.mk (And.intro hE (And.intro hrow (And.intro hK (And.intro hq (And.intro hBs hrn)))))
  clear hE hrow hK hq hBs hrn
  obtain⟨lq,hlq⟩:∃lq,lq=q.length:=⟨_,rfl⟩
  rw [<-hlq]
  have HLQ:=Hid.mk hlq
  clear hlq
  by_cases h1:r<nc
  case neg =>
   have i1:¬(r:Int)<(nc:Int):=by omega
   go_wp2_with fail
   go_ret
   exact⟨rfl,HE.out.1.bel⟩
  case pos =>
   have i1:(r:Int)<(nc:Int):=by omega
   by_cases h2:r<5
   case neg =>
    have i2:¬(r:Int)<5:=by omega
    go_wp2_with fail
    go_ret
    exact⟨rfl,HE.out.1.bel⟩
   case pos =>
    have i2:(r:Int)<5:=by omega
    go_upto_region 9 with fail
    have hcl:=HC.out.1
    obtain⟨m,hm,hm11⟩:∃m:Nat,pickI (fc r) 12=(m:Int)/\m<=11:=⟨(pickI (fc r) 12).toNat,by have:=pickI_lo (fc r) 12 (by omega);omega,by have:=pickI_hi (fc r) 12 (by omega);omega⟩
    have HPK:=Hid.mk (fun (wx:World)=>kpick_any (fc r) 12 wx (hcl.lo r h1) (hcl.hi r h1) (by omega) (by omega))
    rw [hm] at HPK
    obtain⟨cb,co,hca,hcc,hcm,hcb,hcell⟩:=hcl.at'.resolve_left (by omega)
    have hcr:=hcell r h1
    subst hca
    have b5:Below wr.heap.size wr (wr.alloc (.cells #[.int .i64 100, .slice none 0 0] 31)):=(Below.refl _ _).alloc (Nat.le_refl _) _
    have k0:=cell_later (HE.out.1.bel.trans (b5.mono HE.out.1.bel.size)) hcr
    unfold maxLen at hcm
    clear hm hcell hcr b5 hcl
    go_upto_region 11 with (go_at_call 7;refine (HPK.out _).mono ?_;rintro _ w5 ⟨rfl,rfl⟩)
    clear k0
    have HFB:=Hid.mk (heap_alloc_new wr (.cells #[.int .i64 100, .slice none 0 0] 31))
    obtain⟨fb,hfb⟩:∃fb,fb=wr.heap.size:=⟨_,rfl⟩
    go_wp2_with fail
    rw [<-hfb]
    have HFE:=Hid.mk hfb
    clear hfb
    go_loopw [11] (fun iv wx=>∃(i:Nat) (la:Option Addr) (lc:Nat) (Na:Nat->Option Addr) (Nc:Nat->Nat),iv= .int .i64 i/\i<=m+1/\Below wr.heap.size wr wx/\wx.heap[fb]? =some (.cells #[.int .i64 100, .slice la i lc] 31 (0,0))/\CopyAt (fb+1) wx (flF (m+1)) (.slice la i lc) i Na Nc) (fun iv _=>m+1 - (intOf iv).toNat)
    case atStart=>exact⟨0,none,0,fun _=>none,fun _=>0,rfl,by omega,(Below.refl _ _).alloc (Nat.le_refl _) _,by rw [HFE.out];exact HFB.out,World.ownsRow_nil _ _ _ _,fun i hi=>by omega⟩
    case round =>
     obtain⟨i,la,lc,Na,Nc,rfl,hi,hbx,hfx,hcp⟩:=hrel
     rename World=>wx
     have HX:=Hid.mk (And.intro hbx (And.intro hfx hcp))
     have hfl:=Zaa hfx
     clear hbx hfx hcp HFB
     by_cases h3:i<m+1
     case pos =>
      have i3:(i:Int)<1+(m:Int):=by omega
      go_upto_region 15 with fail
      have HX0:=Hid.mk (KxI.start wx 1 50 0 1 1 0)
      obtain⟨wy,hwy⟩:∃wy,wy=wx.alloc (.cells #[.int .i64 1, .int .i64 50, .int .i64 0, .int .i64 1, .int .i64 1, .int .i64 0, .slice none 0 0] 34):=⟨_,rfl⟩
      rw [<-hwy] at HX0 ⊢
      have n6:wy.cell? ⟨wx.heap.size,6,none⟩=some (.slice none 0 0):=(HX0.out.nd 6 (by omega)).1
      have z6:wy.frozen? ⟨wx.heap.size,6,none⟩=false:=(HX0.out.nd 6 (by omega)).2
      clear hwy
      go_upto_if 58 with fail
      go_cut [] from 59 to 62 (fun wz=>∃(xa:Option Addr) (xc:Nat),KxI wx wz (gg 1 50 0 1 1 0 (.slice xa ((flF (m+1)).an i) xc))/\wz.ownsRow (fb+1) 3 1 (.slice xa ((flF (m+1)).an i) xc) ((flF (m+1)).an i) (Zc5 ((flF (m+1)).an i) ((flF (m+1)).af i)))
      case first =>
       by_cases h4:i % 3=2
       ·have e3:(i:Int).tmod 3=2:=by rw [Int.tmod_eq_emod_of_nonneg (by omega)];omega
        have HAN:=Hid.mk (show (flF (m+1)).an i=1 from if_pos h4)
        have n6o:∀o,(wy.alloc o).cell? ⟨wx.heap.size,6,none⟩=some (.slice none 0 0):=fun o=>((HX0.out.alloc o).nd 6 (by omega)).1
        have z6o:∀o,(wy.alloc o).frozen? ⟨wx.heap.size,6,none⟩=false:=fun o=>((HX0.out.alloc o).nd 6 (by omega)).2
        go_wp2_with fail
        go_meet
        rw [HAN.out]
        have hsz:=HX0.out.size
        refine⟨_,_,(HX0.out.alloc _).set6 _,Zcu (o:=6) ⟨rfl, .inr ⟨wy.heap.size,1,_,rfl,by have:=HX.out.1.size;have:=HFE.out;omega,heap_alloc_new wy _,Nat.le_refl _,by decide,rfl,?_⟩⟩ (by omega) _⟩
        rfl
       ·have e3:¬(i:Int).tmod 3=2:=by rw [Int.tmod_eq_emod_of_nonneg (by omega)];omega
        have HAN:=Hid.mk (show (flF (m+1)).an i=0 from if_neg h4)
        go_wp2_with fail
        go_meet
        rw [HAN.out]
        exact⟨_,_,HX0.out,World.ownsRow_nil _ _ _ _⟩
      case rest =>
       obtain⟨xa,xc,hx,hxr⟩:=hcut
       rename World=>wz
       have HX1:=Hid.mk (And.intro hx hxr)
       obtain⟨an,han⟩:∃an,an=(flF (m+1)).an i:=⟨_,rfl⟩
       rw [<-han] at hx
       have HAN:=Hid.mk han
       have hfz:=(hx.block fb hfl).trans HX.out.2.1
       have f1:wz.cell? ⟨fb,1,none⟩=some (.slice la i lc):=Zam hfz 1
       have n0:wz.cell? ⟨wx.heap.size,0,none⟩=some (.int .i64 1):=(hx.nd 0 (by omega)).1
       have n1:wz.cell? ⟨wx.heap.size,1,none⟩=some (.int .i64 50):=(hx.nd 1 (by omega)).1
       have n2:wz.cell? ⟨wx.heap.size,2,none⟩=some (.int .i64 0):=(hx.nd 2 (by omega)).1
       have n3:wz.cell? ⟨wx.heap.size,3,none⟩=some (.int .i64 1):=(hx.nd 3 (by omega)).1
       have n4:wz.cell? ⟨wx.heap.size,4,none⟩=some (.int .i64 1):=(hx.nd 4 (by omega)).1
       have n5:wz.cell? ⟨wx.heap.size,5,none⟩=some (.int .i64 0):=(hx.nd 5 (by omega)).1
       have n6:wz.cell? ⟨wx.heap.size,6,none⟩=some (.slice xa an xc):=(hx.nd 6 (by omega)).1
       have hwz:=hx.size
       have HF:=Hid.mk hfz
       have HCP4:Hid (CopyAt (fb+1) wz (flF (m+1)) (.slice la i lc) i Na Nc):=Hid.mk ⟨own_spare HX.out.2.2.own fun z _ h2=>hx.block z h2,fun j hj=>own_spare (HX.out.2.2.aft j hj) fun z _ h2=>hx.block z h2⟩
       have hla:Hid (∀z,(Value.slice la i lc).ownBlock=some z->fb+1<=z):=Hid.mk fun z hz=>(HX.out.2.2.own.lt z hz).1
       have hones:Hid (∀u∈[Value.int .i64 1, .int .i64 50, .int .i64 0, .int .i64 1, .int .i64 1, .int .i64 0, .slice xa an xc],u.oneCell'=true):=Hid.mk (by intro u hu;simp only [List.mem_cons,List.not_mem_nil,or_false] at hu;rcases hu with rfl | rfl | rfl | rfl | rfl | rfl | rfl<;>rfl)
       clear hx hxr han hfz
       go_wp2_with (at_builtin;go_loud (refine wpList_append_own _ rfl (.tmp 64) (.tmp 66) 29 rfl (fb+1) 34 i27 (.agg #[.int .i64 0, .int .i64 0, .int .i64 0, .int .i64 0, .int .i64 0, .int .i64 0, .slice none 0 0]) 7 72 Tryz.underlying29 HI27.out.1 HI27.out.2.1 HI27.out.2.2.1 HI27.out.2.2.2 rfl (by decide) (.slice la i lc) i (Zca (flF (m+1)) Na Nc i) rfl (HCP4.out.own.alloc _) ⟨wz.heap.size,0,none⟩ 1 1 [.int .i64 1, .int .i64 50, .int .i64 0, .int .i64 1, .int .i64 1, .int .i64 0, .slice xa an xc] rfl rfl (news7 _ _ _ _ rfl) hones.out (by unfold maxLen;omega) (by omega) (by simp;omega) ?_;intro v5' w4 hown4 hgrow4 hiff;clear hiff;obtain⟨xb,xd,rfl⟩:=Za3 hown4;have hf4:=(grown_block hgrow4 (b:=fb) (by omega) (fun e=>by have:=hla.out fb e.symm;omega)).trans HF.out;have HO4:=Hid.mk (And.intro hown4 (And.intro hgrow4 hf4));have q4:w4.cell? ⟨fb,1,none⟩=some (.slice la i lc):=Zam hf4 1;have z4:w4.frozen? ⟨fb,1,none⟩=false:=Zdr hf4 1;clear hown4 hgrow4 hf4))
       go_roundw
       case rel =>
        have hnode:[Value.int .i64 1, .int .i64 50, .int .i64 0, .int .i64 1, .int .i64 1, .int .i64 0, .slice xa an xc]=nodeL (flF (m+1)) i xa xc:=by rw [HAN.out];rfl
        have hown4:=HO4.out.1
        rw [hnode] at hown4
        have hcp:=HCP4.out.more (HX1.out.2.alloc (.cells #[.int .i64 1, .int .i64 50, .int .i64 0, .int .i64 1, .int .i64 1, .int .i64 0, .slice xa an xc] 34)) ((Below.refl _ _).alloc (Nat.le_refl _) _) hown4 HO4.out.2.1
        have hfb':=HFE.out
        have hbz:Below wr.heap.size wr wz:=⟨HX1.out.1.os.trans HX.out.1.os,HX1.out.1.tape.trans HX.out.1.tape,HX1.out.1.output.trans HX.out.1.output,by have:=HX.out.1.size;omega,fun k hk=>(HX1.out.1.block k (by have:=HX.out.1.size;omega)).trans (HX.out.1.block k hk)⟩
        refine⟨i+1,xb,xd,_,_,by go_num,by omega,?_,?_,ownsRow_setCell_below hcp.own (by simp) _,fun j hj=>ownsRow_setCell_below (hcp.aft j hj) (by simp) _⟩
        ·exact ((hbz.alloc hbz.size _).grown HO4.out.2.1 (by have:=hbz.size;simp;omega) (fun z hz=>by have:=hla.out z hz;omega)).setCell (by simp;omega) _
        ·rw [Zac HO4.out.2.2];rfl
       case measure=>simp [intOf];omega
     case neg =>
      have i3:¬(i:Int)<1+(m:Int):=by omega
      obtain rfl:i=m+1:=by omega
      obtain⟨hbx,hfx,hcp⟩:=HX.out
      have f0:wx.cell? ⟨fb,0,none⟩=some (.int .i64 100):=Zam hfx 0
      have f1:wx.cell? ⟨fb,1,none⟩=some (.slice la (m+1) lc):=Zam hfx 1
      have hwb:=HE.out.1.bel.trans (hbx.mono HE.out.1.bel.size)
      have hgx:=Nat.lt_of_lt_of_le HT.out.2.1 hwb.size
      have hfok:=flF_ok (n:=m+1) (by omega) (by omega)
      have hfi:FlowIn wx (flF (m+1)) la lc Na Nc:=hcp.flowIn (by show m+1<=2097151;omega) (fun j hj=>by have:(flF (m+1)).an j<=1:=(by show (if j % 3=2 then 1 else 0)<=1;split<;>omega);omega) (HT.out.1.keep HT.out.2.1 hwb) hgx
      have HENC:=Hid.mk (show Calls Tryz.prog 8 #[.agg #[.int .i64 100, .slice la (m+1) lc]] wx fun x w'=>∃bg c L,x= .returned (.tuple #[.slice (some ⟨bg,0,none⟩) L c, .int .i64 0, .int .i64 (-1)])/\L=(Zat (flF (m+1))).length/\ByteRow wx.heap.size w' (.slice (some ⟨bg,0,none⟩) L c) (Zat (flF (m+1)))/\Below wx.heap.size wx w' from by
       refine (pencode_any (flF (m+1)) la lc Na Nc wx hfi (HE.out.1.err.keep hbx)).mono ?_
       rintro e w2 ⟨⟨v,x,y,l,rfl,hchk,hrow,hl0,hl1⟩,hb2⟩
       obtain⟨rfl,rfl⟩:=hchk.one hfok.chk
       obtain rfl:=hl0 rfl
       have h9:1<=(Zat (flF (m+1))).length:=by have:=flowB_nine (F:=flF (m+1)) (by show 1<=m+1;omega);omega
       rcases hrow.2 with⟨_,x2⟩ | ⟨g,cap,cur,rfl,_⟩
       ·omega
       ·exact⟨g,cap,_,rfl,rfl,hrow,hb2⟩)
      have HBX:=Hid.mk hbx
      clear hbx hfx hcp hwb hgx hfok hfi
      go_upto_region 19 with (go_at_call 8;refine HENC.out.mono ?_;rintro _ w6 ⟨bg,bc,L,rfl,hL,hbr,hb6⟩;have H6:=Hid.mk (And.intro hL (And.intro hbr hb6));clear hL hbr hb6)
      have hb06:Below wr.heap.size wr w6:=HBX.out.trans (H6.out.2.2.mono HBX.out.size)
      have hE6:=HE.out.1.below hb06
      obtain⟨⟨⟨z0,z1⟩,z2⟩,z3⟩:=hE6.cells
      have HSUB:=Hid.mk (fe_submit hE6 X3.out.2 h2 (by have:=HE.out.2.2.1;omega) (by omega) (by omega) (by omega) H6.out.1 H6.out.2.1)
      have HB6:=Hid.mk hb06
      clear f0 f1 hE6 hb06
      go_upto_region 22 with (go_at_call 9;refine HSUB.out.mono ?_;rintro _ w7 ⟨run,rfl,q1,q2⟩;have H7:=Hid.mk (And.intro q1 q2);clear q1 q2)
      have HS7:=Hid.mk (show Bw<=w7.heap.size/\wRow w7 Bw 43 4 (.slice a lq c) lq (q.flatMap wtV) from by
       have hb6:=HB6.out
       have h6:=hb6.size
       have h7:=H7.out.2.1
       have h8:=HE.out.2.2.2.2.1
       refine⟨by omega,?_⟩
       rw [HLQ.out]
       exact H7.out.2.2 _ _ _ (HE.out.2.1.below hb6))
      clear z0 z1 z2 z3 HSUB HENC
      go_wp2_with fail
      go_loopw [19,7] (fun iv wv wx=>∃(j:Nat) (a':Option Addr) (c' l':Nat),iv= .int .i64 j/\j<=m+1/\wv= .slice a' l' c'/\l'=(q++Zcp run j).length/\wRow wx Bw 43 4 (.slice a' l' c') l' ((q++Zcp run j).flatMap wtV)/\FE w wx hb P B R D bd bn wb (r+1) K (12000000+20000000 * r+1000000) (q++Zcp run (m+1))/\Bw<=wx.heap.size) (fun iv _ _=>m+1 - (intOf iv).toNat)
      case atStart=>exact⟨0,a,c,lq,rfl,by omega,rfl,by rw [HLQ.out];simp [Zcp],by simpa [Zcp] using HS7.out.2,H7.out.1,HS7.out.1⟩
      case round =>
       obtain⟨j,a',c',l',rfl,hj,rfl,hl',hrow,hE3,hBx⟩:=hrel
       rename World=>wx3
       have HX3:=Hid.mk (And.intro hl' (And.intro hrow (And.intro hE3 hBx)))
       clear hl' hrow hE3
       by_cases h5:j<m+1
       case pos =>
        have i5:(j:Int)<1+(m:Int):=by omega
        by_cases h6:j % 3=2
        ·have e3:(j:Int).tmod 3=2:=by rw [Int.tmod_eq_emod_of_nonneg (by omega)];omega
         have e4:Zcp run (j+1)=Zcp run j:=by simp [Zcp,List.range_succ,List.filter_append,h6]
         have HE4:=Hid.mk e4
         clear e4
         go_wp2_with fail
         go_roundw
         case rel=>exact⟨j+1,a',c',l',by go_num,by omega,rfl,by rw [HE4.out];exact HX3.out.1,by rw [HE4.out];exact HX3.out.2.1,HX3.out.2.2.1,HX3.out.2.2.2⟩
         case measure=>simp [intOf];omega
        ·have e3:¬(j:Int).tmod 3=2:=by rw [Int.tmod_eq_emod_of_nonneg (by omega)];omega
         have e4:Zcp run (j+1)=Zcp run j++[⟨run,j⟩]:=by simp [Zcp,List.range_succ,List.filter_append,h6]
         have HE4:=Hid.mk e4
         have hll:l'<=100:=by
          have h1:=HX3.out.1
          have h2:=HE.out.2.2.2.1
          have h3:(Zcp run j).length<=j:=by unfold Zcp;rw [List.length_map];exact Nat.le_trans (List.length_filter_le _ _) (by simp)
          rw [List.length_append] at h1
          omega
         have hrow':=HX3.out.2.1.below (w':=wx3.alloc (.cells #[.int .u64 run, .int .i64 j, .int .i64 1, .int .u64 0] 43)) ((Below.refl _ _).alloc (Nat.le_refl _) _)
         have HRW:=Hid.mk hrow'
         have hones:Hid (∀u∈[Value.int .u64 run, .int .i64 j, .int .i64 1, .int .u64 0],u.oneCell'=true):=Hid.mk (by intro u hu;simp only [List.mem_cons,List.not_mem_nil,or_false] at hu;rcases hu with rfl | rfl | rfl | rfl<;>rfl)
         clear e4 hrow'
         go_wp2_with (at_builtin;go_loud (refine Zdj _ rfl (.tmp 97) (.tmp 101) 28 rfl Bw 43 it (.agg #[.int .u64 0, .int .i64 0, .int .i64 0, .int .u64 0]) 4 32 Tryz.underlying28 HIT.out.1 HIT.out.2.1 HIT.out.2.2.1 HIT.out.2.2.2 rfl (by decide) (.slice a' l' c') l' _ rfl HRW.out ⟨wx3.heap.size,0,none⟩ 1 1 [.int .u64 run, .int .i64 j, .int .i64 1, .int .u64 0] rfl rfl (news7 _ _ _ _ rfl) hones.out (by omega) (by unfold maxLen;omega) (by omega) (by simp;omega) ?_;intro g5 o5 c5 w8 hown5 hgrow5;have HO5:=Hid.mk (And.intro hown5 hgrow5);clear hown5 hgrow5))
         go_roundw
         case rel =>
          have hE4:=HE4.out
          have hB4:Below wx3.heap.size wx3 (wx3.alloc (.cells #[.int .u64 run, .int .i64 j, .int .i64 1, .int .u64 0] 43)):=(Below.refl _ _).alloc (Nat.le_refl _) _
          refine⟨j+1,some ⟨g5,o5,none⟩,c5,l'+1,by go_num,by omega,rfl,?_,?_,(HX3.out.2.2.1.below hB4).want X3.out.2 HRW.out HO5.out.2,?_⟩
          ·rw [hE4,<-List.append_assoc,List.length_append,<-HX3.out.1];rfl
          ·rw [hE4,<-List.append_assoc,List.flatMap_append]
           exact HO5.out.1
          ·have:=HO5.out.2.size
           have:=hB4.size
           omega
         case measure=>simp [intOf];omega
       case neg =>
        have i5:¬(j:Int)<1+(m:Int):=by omega
        obtain rfl:j=m+1:=by omega
        obtain⟨q2,hq2⟩:∃q2,q2=q++Zcp run (m+1):=⟨_,rfl⟩
        rw [<-hq2] at HX3
        have HQ2:=Hid.mk hq2
        have HQU:=Hid.mk (fe_queue HX3.out.2.2.1)
        rw [<-HX3.out.1] at HQU
        clear hq2
        go_upto_region 28 with (go_at_call 10;refine HQU.out.mono ?_;rintro _ w8 ⟨a2,c2,rfl,q1,q2'⟩;have H8:=Hid.mk (And.intro q1 q2');clear q1 q2')
        go_wp2_with fail
        go_loopw [21] (fun iv wx=>∃k:Nat,iv= .int .i64 k/\k<=l'/\Below w8.heap.size w8 wx) (fun iv _=>l' - (intOf iv).toNat)
        case atStart=>exact⟨0,rfl,Nat.zero_le _,Below.refl _ _⟩
        case round =>
         obtain⟨k,rfl,hk,hb⟩:=hrel
         rename World=>wx4
         have HB4:=Hid.mk hb
         by_cases h6:k<l'
         case pos =>
          have i6:(k:Int)<(l':Int):=by omega
          have hown:=Zah H8.out.1 hb
          have hrow4:=(HX3.out.2.1.below H8.out.2).below hb
          have hl2:=HX3.out.1
          obtain⟨g2,ca2,e1,_,hg2⟩:=hown.form (by omega)
          simp only [Value.slice.injEq] at e1
          obtain⟨rfl,_,rfl⟩:=e1
          obtain⟨gw,ow,rfl⟩:∃gw ow,a'=some ⟨gw,ow,none⟩:=by
           rcases hrow4.2 with⟨x,x2⟩ | ⟨g,o,cap,cur,x,_⟩
           ·omega
           ·simp only [Value.slice.injEq] at x
            exact⟨g,o,x.1⟩
          obtain⟨p,hp⟩:∃p,p=q2.getD k .z:=⟨_,rfl⟩
          have hx:∀j,j<4->(q2.flatMap wtV)[k * 4+j]? =(wtV p)[j]? :=fun j hj=>by rw [hp];exact flat_at (z:=PlD.z) wtV_len q2 (by omega) hj
          have hq:∀j,j<4->wx4.cell? ⟨g2,k * 4+j,none⟩=(wtV p)[j]? :=fun j hj=>by rw [hown.cellAt (k * 4+j) (by omega)];exact hx j hj
          have hw:∀j,j<4->wx4.cell? ⟨gw,ow+(k * 4+j),none⟩=(wtV p)[j]? :=fun j hj=>by rw [hrow4.cell (by omega)];exact hx j hj
          have x0:wx4.cell? ⟨g2,k * 4,none⟩=some (.int .u64 p.run):=hq 0 (by omega)
          have x1:wx4.cell? ⟨g2,k * 4+1,none⟩=some (.int .i64 p.node):=hq 1 (by omega)
          have x2:wx4.cell? ⟨g2,k * 4+2,none⟩=some (.int .i64 1):=hq 2 (by omega)
          have x3:wx4.cell? ⟨g2,k * 4+3,none⟩=some (.int .u64 0):=hq 3 (by omega)
          have y0:wx4.cell? ⟨gw,ow+k * 4,none⟩=some (.int .u64 p.run):=hw 0 (by omega)
          have y1:wx4.cell? ⟨gw,ow+k * 4+1,none⟩=some (.int .i64 p.node):=by rw [Nat.add_assoc];exact hw 1 (by omega)
          have y2:wx4.cell? ⟨gw,ow+k * 4+2,none⟩=some (.int .i64 1):=by rw [Nat.add_assoc];exact hw 2 (by omega)
          have y3:wx4.cell? ⟨gw,ow+k * 4+3,none⟩=some (.int .u64 0):=by rw [Nat.add_assoc];exact hw 3 (by omega)
          obtain⟨hc1,hc2⟩:=hrow4.caps
          have hcc:=hown.2
          have hca:l'<=c2/\c2<=maxLen:=by
           rcases hown.2 with⟨x,x2⟩ | ⟨g,cap,cur,x,_,_,x1,x2,_⟩
           ·omega
           ·simp only [Value.slice.injEq] at x
            omega
          unfold maxLen at hca hc2
          have hne:=fun w'=>neq_task w' p.run p.node 1 0
          clear hb hown hrow4 hl2 hx hq hw hp hcc
          go_upto_region 33 with fail
          go_region
          go_wp2_with fail
          go_roundw
          case rel=>exact⟨k+1,by go_num,by omega,HB4.out.drew⟩
          case measure=>simp [intOf];omega
         case neg =>
          have i6:¬(k:Int)<(l':Int):=by omega
          have HE5:=Hid.mk ((HX3.out.2.2.1.below H8.out.2).below hb)
          have HW5:=Hid.mk ((HX3.out.2.1.below H8.out.2).below hb)
          have HB5:=Hid.mk (show Bw<=wx4.heap.size from by have h1:=HX3.out.2.2.2;have h2:=H8.out.2.size;have h3:=hb.size;omega)
          have HL5:=Hid.mk (show q2.length<=12 * r+12 from by
           rw [HQ2.out,List.length_append]
           have h1:=HE.out.2.2.2.1
           have h3:(Zcp run (m+1)).length<=m+1:=by unfold Zcp;rw [List.length_map];exact Nat.le_trans (List.length_filter_le _ _) (by simp)
           omega)
          have HLQ3:=Hid.mk HX3.out.1
          clear hb
          go_wp2_with fail
          go_loopw [22,7] (fun kv wv wx=>∃(k K':Nat) (q':List PlD) (a':Option Addr) (l' c':Nat),kv= .int .i64 k/\k<=6/\K'=K+k/\wv= .slice a' l' c'/\l'=q'.length/\wRow wx Bw 43 4 (.slice a' l' c') l' (q'.flatMap wtV)/\FE w wx hb P B R D bd bn wb (r+1) K' (12000000+20000000 * r+1000000+2000000 * k) q'/\q'.length<=12 * r+12/\Bw<=wx.heap.size) (fun kv _ _=>7 - (intOf kv).toNat)
          case atStart=>exact⟨0,K,q2,_,l',c',rfl,by omega,by omega,rfl,HLQ3.out,HW5.out,HE5.out,HL5.out,HB5.out⟩
          case round =>
           obtain⟨k',K',q',a5,l5,c5,rfl,hk',hK',rfl,hl5,hw5,he5,hq5,hB5⟩:=hrel
           rename World=>wx5
           have HX5:=Hid.mk (And.intro hl5 (And.intro hw5 (And.intro he5 (And.intro hq5 hB5))))
           have hin:=HC.out.2.keep he5.bel
           have hnl:=nthI_lo hin r
           have HNT:=Hid.mk (fun wz hz=>knth_any wz ad nd cd fd r (by omega) hz)
           obtain⟨v,hv⟩:∃v,v=nthI nd fd r:=⟨_,rfl⟩
           rw [<-hv] at hnl HNT
           have ht7: -7<v.tmod 7/\v.tmod 7<7:=tmod7 v
           clear hl5 hw5 he5 hq5 hB5 hv
           by_cases h7:(k':Int)<v.tmod 7
           case neg =>
            go_wp2_with (go_at_call 11;refine (HNT.out wx5 hin).mono ?_;rintro _ w9 ⟨rfl,rfl⟩;clear hin)
            go_roundw
            case rel =>
             obtain⟨hl5,hw5,he5,hq5,hB5⟩:=HX5.out
             refine⟨r+1,K',q',a5,c5,by go_num,by omega,by omega,by rw [hl5],he5.mono (Nat.le_refl _) (by omega),by have:=HE.out.2.2.1;omega,by omega,by rw [<-hl5];exact hw5,hB5⟩
            case measure=>simp [intOf];omega
           case pos =>
            have hk5:k'<=5:=by omega
            have hKK:K'<=36:=by have:=HE.out.2.2.1;omega
            have hZZ:12000000+20000000 * r+1000000+2000000 * k'<=900000000:=by omega
            obtain⟨ZZ,hzz⟩:∃ZZ,ZZ=12000000+20000000 * r+1000000+2000000 * k':=⟨_,rfl⟩
            have HZZ:=Hid.mk hzz
            rw [<-hzz] at hZZ
            have hE5:=HX5.out.2.2.1
            rw [<-hzz] at hE5
            have HZE:=Hid.mk hzz
            clear hzz
            obtain⟨⟨⟨z0,z1⟩,z2⟩,z3⟩:=hE5.cells
            cases q' with
            | nil =>
             have HPO:=Hid.mk (fe_pollN hE5 X3.out.2 (by omega) (by omega) (by omega))
             obtain rfl:l5=0:=HX5.out.1
             clear hE5
             go_upto_region 38 with (go_at_call 11;refine (HNT.out wx5 hin).mono ?_;rintro _ w9 ⟨rfl,rfl⟩;clear hin)
             go_upto_region 39 with (go_at_call 12;refine HPO.out.mono ?_;rintro _ w10 ⟨rfl,q1,q2⟩;have H10:=Hid.mk (And.intro q1 q2);clear q1 q2)
             go_wp2_with fail
             go_roundw
             case rel =>
              have hB10:Below w10.heap.size w10 (w10.alloc (.cells #[.int .u64 0, .int .i64 0, .int .i64 0, .int .u64 0] 43)):=(Below.refl _ _).alloc (Nat.le_refl _) _
              have hE10:=H10.out.1.below hB10
              have hW10:=(H10.out.2.2 _ _ _ HX5.out.2.1).below hB10
              have hS10:=H10.out.2.1
              have hS11:=hB10.size
              have hzz:=HZE.out
              refine⟨r+1,K',[],a5,c5,by go_num,by omega,by omega,rfl,hE10.mono (Nat.le_refl _) (by omega),by have:=HE.out.2.2.1;omega,by simp,hW10,by have:=HX5.out.2.2.2.2;omega⟩
             case measure=>simp [intOf];omega
            | cons p q' =>
             have HPO:=Hid.mk (fe_poll hE5 X3.out.2 (by omega) (by omega) (by omega))
             obtain⟨lt,hlt⟩:∃lt,lt=q'.length:=⟨_,rfl⟩
             obtain rfl:l5=lt+1:=by rw [hlt];exact HX5.out.1
             clear hE5
             go_upto_region 38 with (go_at_call 11;refine (HNT.out wx5 hin).mono ?_;rintro _ w9 ⟨rfl,rfl⟩;clear hin)
             go_upto_region 39 with (go_at_call 12;refine HPO.out.mono ?_;rintro _ w10 ⟨tok,m2,rfl,q1,q2⟩;have H10:=Hid.mk (And.intro q1 q2);clear q1 q2)
             obtain⟨w11,hw11⟩:∃w11,w11=w10.alloc (.cells #[.int .u64 p.run, .int .i64 p.node, .int .i64 1, .int .u64 tok] 43):=⟨_,rfl⟩
             obtain⟨tb,htb⟩:∃tb,tb=w10.heap.size:=⟨_,rfl⟩
             rw [<-hw11,<-htb]
             have hB11:Below w10.heap.size w10 w11:=by rw [hw11];exact (Below.refl _ _).alloc (Nat.le_refl _) _
             have hT11:TkC w11 tb p.run p.node 1 tok:=⟨by rw [hw11,htb];exact heap_alloc_new _ _⟩
             have hw5:=((H10.out.2.2 _ _ _ HX5.out.2.1).below hB11)
             obtain⟨gw,ow,rfl⟩:∃gw ow,a5=some ⟨gw,ow,none⟩:=by
              rcases hw5.2 with⟨x,x2⟩ | ⟨g,o,cap,cur,x,_⟩
              ·omega
              ·simp only [Value.slice.injEq] at x
               exact⟨g,o,x.1⟩
             have hw:∀j,j<4->w11.cell? ⟨gw,ow+j,none⟩=(wtV p)[j]? :=fun j hj=>by
              rw [hw5.cell (by omega),List.flatMap_cons,List.getElem?_append_left (by rw [wtV_len];exact hj)]
             have y0:w11.cell? ⟨gw,ow,none⟩=some (.int .u64 p.run):=hw 0 (by omega)
             have y1:w11.cell? ⟨gw,ow+1,none⟩=some (.int .i64 p.node):=hw 1 (by omega)
             have y2:w11.cell? ⟨gw,ow+2,none⟩=some (.int .i64 1):=hw 2 (by omega)
             have y3:w11.cell? ⟨gw,ow+3,none⟩=some (.int .u64 0):=hw 3 (by omega)
             have hca:=hw5.caps
             have h11:=Hid.mk (And.intro hB11 (And.intro hT11 hw5))
             unfold maxLen at hca
             clear hw11 htb hB11 hT11 hw hw5 z0 z1 z2 z3
             have i0:(0:Int)<(((lt+1:Nat)):Int):=by omega
             go_upto_region 43 with fail
             obtain⟨w12,hw12⟩:∃w12,w12=w11.alloc (.cells #[.int .u64 p.run, .int .i64 p.node, .int .i64 1, .int .u64 0] 43):=⟨_,rfl⟩
             obtain⟨pb,hpb⟩:∃pb,pb=w11.heap.size:=⟨_,rfl⟩
             rw [<-hw12,<-hpb]
             have hB12:Below w11.heap.size w11 w12:=by rw [hw12];exact (Below.refl _ _).alloc (Nat.le_refl _) _
             have hP12:TkC w12 pb p.run p.node 1 0:=⟨by rw [hw12,hpb];exact heap_alloc_new _ _⟩
             have hT12:TkC w12 tb p.run p.node 1 tok:=h11.out.2.1.belowC hB12
             obtain⟨⟨⟨t0,t1⟩,t2⟩,t3⟩:=hT12.cells
             obtain⟨⟨⟨s0,s1⟩,s2⟩,s3⟩:=hP12.cells
             have hF12:=(H10.out.1.below h11.out.1).below hB12
             obtain⟨⟨⟨z0,z1⟩,z2⟩,z3⟩:=hF12.cells
             have h12:=Hid.mk (And.intro hB12 (And.intro hT12 hF12))
             clear hw12 hpb hB12 hP12 hT12 hF12 y0 y1 y2 y3
             go_upto_region 44 with fail
             obtain⟨a6,ha6⟩:∃a6,a6=(if c5=1 then some (⟨gw,ow,none⟩:Addr) else some ⟨gw,ow+4,none⟩):=⟨_,rfl⟩
             obtain⟨c6,hc6⟩:∃c6,c6=c5 - 1:=⟨_,rfl⟩
             obtain⟨lt2,hlt2⟩:∃lt2,lt2=q'.length:=⟨_,rfl⟩
             have hw12:wRow w12 Bw 43 4 (.slice a6 lt2 c6) lt2 (q'.flatMap wtV):=by
              have h1:=(h11.out.2.2.below h12.out.1).tail
              rw [List.flatMap_cons,List.drop_append_of_le_length (by rw [wtV_len];omega),List.drop_eq_nil_of_le (by rw [wtV_len];omega),List.nil_append,<-ha6,<-hc6,hlt,<-hlt2] at h1
              exact h1
             rw [<-ha6,<-hc6,<-hlt2]
             have HW12:=Hid.mk (And.intro hw12 (And.intro hlt2 hlt))
             have HDO:=Hid.mk (fp_complete h12.out.2.2 X3.out.2 (by omega))
             clear hw12 ha6 hc6 hlt2 hlt hca
             go_upto_region 47 with (go_at_call 13;refine HDO.out.mono ?_;rintro _ w13 ⟨rfl,q1,q2,q3⟩;have H13:=Hid.mk (And.intro q1 (And.intro q2 q3));have hT13:=q3 _ _ _ _ _ h12.out.2.1;clear q1 q2 q3)
             obtain⟨⟨⟨t0,t1⟩,t2⟩,t3⟩:=hT13.cells
             have HQY:=Hid.mk (fq_query H13.out.1)
             go_upto_region 48 with (go_at_call 14;refine HQY.out.mono ?_;rintro _ w14 ⟨st,a7,c7,a8,c8,rfl,hb14⟩;have H14:=Hid.mk hb14;have hT14:=hT13.belowC hb14;clear hb14)
             obtain⟨w15,hw15⟩:∃w15,w15=w14.alloc (.cells #[.int .u64 p.run, .int .i64 st, .slice a7 m2 c7, .slice a8 m2 c8] 50):=⟨_,rfl⟩
             obtain⟨rb,hrb⟩:∃rb,rb=w14.heap.size:=⟨_,rfl⟩
             rw [<-hw15,<-hrb]
             have hB15:Below w14.heap.size w14 w15:=by rw [hw15];exact (Below.refl _ _).alloc (Nat.le_refl _) _
             have hr15:w15.heap[rb]? =some (.cells #[.int .u64 p.run, .int .i64 st, .slice a7 m2 c7, .slice a8 m2 c8] 50 (0,0)):=by rw [hw15,hrb];exact heap_alloc_new _ _
             have r2:w15.cell? ⟨rb,2,none⟩=some (.slice a7 m2 c7):=Zam hr15 2
             obtain⟨⟨⟨t0,t1⟩,t2⟩,t3⟩:=(hT14.belowC hB15).cells
             have hE15:=(H13.out.1.fe.below H14.out).below hB15
             have hW15:=(((H13.out.2.1.2 _ _ _ HW12.out.1).below H14.out).below hB15)
             have hS15:Bw<=w15.heap.size:=by
              have:=H10.out.2.1;have:=h11.out.1.size;have:=h12.out.1.size;have:=H13.out.2.1.1;have:=H14.out.size;have:=hB15.size;have:=HX5.out.2.2.2.2;omega
             have H15:=Hid.mk (And.intro hE15 (And.intro hW15 hS15))
             clear hw15 hrb hB15 hr15 hE15 hW15 hS15 hT14 hT13
             have hp2:=H10.out.1.small
             have hk1:∀x:Nat,(moreL p m2).length=x->lt2+x<=12 * r+12->(q'++moreL p m2).length<=12 * r+12:=fun x hx hl=>by
              rw [List.length_append,hx,<-HW12.out.2.1];exact hl
             have hL7:lt2+1<=12 * r+12:=by
              have h1:=HX5.out.2.2.2.1
              rw [List.length_cons,<-HW12.out.2.1] at h1
              exact h1
             have HK1:=Hid.mk (And.intro hk1 hL7)
             clear hk1
             by_cases h8:p.node % 3=1/\p.node+1<m2
             case neg =>
              have hmo:moreL p m2=[]:=if_neg h8
              have HREL:Hid (∃(k:Nat) (K'':Nat) (q'':List PlD) (a':Option Addr) (l' c':Nat),Value.int .i64 ((k':Int)+1)= .int .i64 k/\k<=6/\K''=K+k/\Value.slice a6 lt2 c6= .slice a' l' c'/\l'=q''.length/\wRow w15 Bw 43 4 (.slice a' l' c') l' (q''.flatMap wtV)/\FE w w15 hb P B R D bd bn wb (r+1) K'' (12000000+20000000 * r+1000000+2000000 * k) q''/\q''.length<=12 * r+12/\Bw<=w15.heap.size):=Hid.mk (by
               obtain⟨h1,h2,h3⟩:=H15.out
               have h4:=HK1.out.1 0 (by rw [hmo];rfl) (by omega)
               rw [hmo,List.append_nil] at h1 h4
               have hzz:=HZE.out
               exact⟨k'+1,K'+1,q',a6,lt2,c6,by push_cast;rfl,by omega,by omega,rfl,HW12.out.2.1,h2,h1.mono (Nat.le_refl _) (by omega),h4,h3⟩)
              clear hmo
              by_cases h9:p.node % 3=1
              ·have e9:(p.node:Int).tmod 3=1:=by rw [Int.tmod_eq_emod_of_nonneg (by omega)];omega
               have e10:¬(p.node:Int)+1<(m2:Int):=by omega
               go_wp2_with fail
               go_roundw
               case rel=>exact HREL.out
               case measure=>simp [intOf];omega
              ·have e9:¬(p.node:Int).tmod 3=1:=by rw [Int.tmod_eq_emod_of_nonneg (by omega)];omega
               go_wp2_with fail
               go_roundw
               case rel=>exact HREL.out
               case measure=>simp [intOf];omega
             case pos =>
              have hmo:=Hid.mk (show moreL p m2=[⟨p.run,p.node+1⟩] from if_pos h8)
              have e9:(p.node:Int).tmod 3=1:=by rw [Int.tmod_eq_emod_of_nonneg (by omega)];omega
              have e10:(p.node:Int)+1<(m2:Int):=by omega
              have hB16:Below w15.heap.size w15 (w15.alloc (.cells #[.int .u64 p.run, .int .i64 ((p.node:Int)+1), .int .i64 1, .int .u64 0] 43)):=(Below.refl _ _).alloc (Nat.le_refl _) _
              have HB16:=Hid.mk hB16
              have HRW:=Hid.mk (H15.out.2.1.below hB16)
              have hones:Hid (∀u∈[Value.int .u64 p.run, .int .i64 ((p.node:Int)+1), .int .i64 1, .int .u64 0],u.oneCell'=true):=Hid.mk (by intro u hu;simp only [List.mem_cons,List.not_mem_nil,or_false] at hu;rcases hu with rfl | rfl | rfl | rfl<;>rfl)
              clear hB16
              go_wp2_with (at_builtin;go_loud (refine Zdj _ rfl (.tmp 200) (.tmp 207) 28 rfl Bw 43 it (.agg #[.int .u64 0, .int .i64 0, .int .i64 0, .int .u64 0]) 4 32 Tryz.underlying28 HIT.out.1 HIT.out.2.1 HIT.out.2.2.1 HIT.out.2.2.2 rfl (by decide) (.slice a6 lt2 c6) lt2 _ rfl HRW.out ⟨w15.heap.size,0,none⟩ 1 1 [.int .u64 p.run, .int .i64 ((p.node:Int)+1), .int .i64 1, .int .u64 0] rfl rfl (news7 _ _ _ _ rfl) hones.out (by omega) (by unfold maxLen;omega) (by omega) (by have:=H15.out.2.2;simp;omega) ?_;intro g5 o5 c9 w16 hown5 hgrow5;have HO5:=Hid.mk (And.intro hown5 hgrow5);clear hown5 hgrow5))
              go_roundw
              case rel =>
               have hmm:=hmo.out
               obtain⟨h1,h2,h3⟩:=H15.out
               have h4:=HK1.out.1 1 (by rw [hmm];rfl) (by omega)
               have hzz:=HZE.out
               have hfe:=(h1.below HB16.out).want X3.out.2 HRW.out HO5.out.2
               refine⟨k'+1,K'+1,q'++moreL p m2,some ⟨g5,o5,none⟩,lt2+1,c9,by push_cast;rfl,by omega,by omega,rfl,?_,?_,hfe.mono (Nat.le_refl _) (by omega),h4,?_⟩
               ·rw [hmm,List.length_append,HW12.out.2.1];rfl
               ·rw [hmm,List.flatMap_append]
                exact HO5.out.1
               ·have:=HO5.out.2.size
                have:=HB16.out.size
                omega
              case measure=>simp [intOf];omega
end Go.Proofs.YtgdcjccbdmcebabGreatDoor
namespace Go.Proofs.YtgdcjccbdmcebabGreatDoor.Fif
open Go.RowKit Go.ChangeShapes Go.WideShapes Go.ChangeAt Go.Joins Go.Deep Go.Proofs.YtgdcjccbdmcebabGreatDoor
set_option maxRecDepth 100000
theorem own:ownKnob Tryz.prog.godebug=none:=by kernel_rfl
theorem laidOut:laidOutB Tryz.prog=true:=by kernel_rfl
theorem cells3:Tryz.prog.cellsOf 3=1:=by kernel_rfl
theorem table {W:World}(h:laidMetH Tryz.prog Rows.fifoRow.laid W):TabIn W:=Laid.tab_of (laidMetH.filter (fun x=>x.1 == "math/bits.deBruijn64tab") h)
theorem errs {W:World}(h:laidMetH Tryz.prog Rows.fifoRow.laid W):ErrTypeIn W:=Laid.err_of (laidMetH.filter (fun x=>x.1 == "errors.errorType") h)
theorem nams {W:World}(h:laidMetH Tryz.prog Rows.fifoRow.laid W):Zbi W:=Laid.names_of (laidMetH.filter (fun x=>x.1 == "flowkeeper/logs.names") h)
theorem open_list {H:Type}{enc:TypeId×Value->H}{W:World}{base:Nat}{v:Value}{d:DataW H}{p:List MemPlace}(hval:Value.okWide Tryz.prog W .any base 22 v)
  (h:DataW.Trod enc Tryz.prog W 0 (fun _=>true) true 22 v d p):∃(a:Option Addr) (n c:Nat) (f:Nat->Int),v= .slice a n c/\IntsIn W a n c f:=by
 obtain⟨a0,len,cap,rfl⟩:=okWide_slice Tryz.underlying22 hval
 obtain⟨fuel,hf⟩:=h
 rcases open_ints Tryz.underlying22 Tryz.underlying3 cells3 hf with⟨e,_⟩ | ⟨a,n,c,zs,e,_,hl,hm,hz,_,hcell,hwf⟩
 ·simp only [Value.cells,List.cons.injEq,Value.slice.injEq,and_true] at e
  obtain⟨rfl,rfl,rfl⟩:=e
  exact⟨none,0,0,fun _=>0,rfl,Or.inl rfl,fun k hk=>by omega,fun k hk=>by omega,Nat.zero_le _⟩
 ·simp only [Value.cells,List.cons.injEq,Value.slice.injEq,and_true] at e
  obtain⟨rfl,rfl,rfl⟩:=e
  simp only [if_true] at hz
  have hb:∀k,k<len-> -9223372036854775808<=zs.getD k 0/\zs.getD k 0<=9223372036854775807:=fun k hk=>by
   refine bounds_i64 (hwf _ ?_)
   rw [List.getD_eq_getElem?_getD,List.getElem?_eq_getElem (by omega)]
   exact List.getElem_mem _
  refine⟨some a,len,cap,fun k=>zs.getD k 0,rfl,?_,fun k hk=>(hb k hk).1,fun k hk=>(hb k hk).2,by omega⟩
  by_cases h0:len=0
  ·exact Or.inl h0
  ·obtain⟨b,off,rfl,hc⟩:=ints_at hcell (by omega)
   exact Or.inr ⟨b,off,rfl,hl,hm,World.block_lt_of_cell? _ _ (hc 0 (by omega)),fun k hk=>hc k (by omega)⟩
theorem contract (H:Type)(enc:TypeId×Value->H)(W:World)(base:Nat)(args:Array Value)(ds gs:List (DataW H))(before:List MemPlace)
  (hval:∀(j:Nat) t v,Tryz.f3.params[j]? =some t->args[j]? =some v->Value.okWide Tryz.prog W .any base t v)
  (hW:DataW.Whole enc Tryz.prog Tryz.f3.params.toList Rows.fifoSpec.vars false W args.toList ds gs before)
  (hL:laidMetH Tryz.prog Rows.fifoRow.laid W) (hS:W.ShapedOpen Tryz.prog) :
  Calls Tryz.prog 3 args W fun e W'=>∃v,e= .returned v/\Rows.fifoSpec.post enc Tryz.prog Tryz.f3 false true false false W args v W':=by
 have hW':=hW
 obtain⟨p,q,hA0,hV,rfl,hfz,hnd⟩:=hW
 have hA:DataW.TrodAll enc Tryz.prog W 0 (fun _=>true) true Tryz.f3.params.toList args.toList ds p:=hA0
 rw [Tryz.params3] at hA hval
 obtain⟨v0,vs0,d0,ds0,p0,q0,hargs,rfl,rfl,h0,r0⟩:=trodAll_cons hA
 obtain⟨v1,vs1,d1,ds1,p1,q1,rfl,rfl,rfl,h1,r1⟩:=trodAll_cons r0
 obtain⟨rfl,rfl,rfl⟩:=trodAll_nil r1
 obtain rfl:args=#[v0,v1]:=by cases args;simp_all
 obtain⟨rfl,rfl⟩:=trodVars_none hV
 clear hA0 hA r0 r1
 simp only [List.append_nil] at hW'
 have hlt:∀x∈p0++p1,x.block<W.heap.size:=fun x hx=>by simpa using hW'.lt x hx
 have harg0:∀W':World,Below W.heap.size W W'->DataW.Trod enc Tryz.prog W' 0 (fun b=>decide (b<W.heap.size)) true 22 v0 d0 p0 :=
  fun W' hb=>Below.trod laidOut (by kernel_rfl) (of_decide_eq_true (by kernel_rfl)) h0 hb fun x hx=>hlt x (List.mem_append_left _ hx)
 have harg1:∀W':World,Below W.heap.size W W'->DataW.Trod enc Tryz.prog W' 0 (fun b=>decide (b<W.heap.size)) true 22 v1 d1 p1 :=
  fun W' hb=>Below.trod laidOut (by kernel_rfl) (of_decide_eq_true (by kernel_rfl)) h1 hb fun x hx=>hlt x (List.mem_append_right _ hx)
 obtain⟨a0,n0,c0,f0,rfl,hin0⟩:=open_list (hval 0 22 v0 rfl rfl) h0
 obtain⟨a1,n1,c1,f1,rfl,hin1⟩:=open_list (hval 1 22 v1 rfl rfl) h1
 refine (fifo_any W a0 a1 n0 c0 n1 c1 f0 f1 hin0 hin1 (errs hL) (nams hL) (table hL) (Laid.shape_lt hS) (Laid.tab_lt (table hL)) (Laid.err_lt (errs hL))).mono fun e W' ⟨he,hb⟩=> ?_
 subst he
 refine⟨_,rfl,_,_,_,[]++[],p0++(p1++[]),[],hW',?_,?_,rfl,hb.frame _,fun h=>by cases h⟩
 ·exact trodAll_cons_mk (shut_bool Tryz.underlying4 true) trodAll_mk0
 ·exact trodAll_cons_mk (harg0 _ hb) (trodAll_cons_mk (harg1 _ hb) trodAll_mk0)
def wargs:Array Value:=#[.slice none 0 0, .slice none 0 0]
theorem laid_met (os:Os):laidMetH Tryz.prog Rows.fifoRow.laid ((Laid.namWorld os).forCall (fun _ _=>0) ⟨#[],wargs,[]⟩).memory :=
 laidMetH_of_parts (laidMet_of_run' 8 (by kernel_rfl) (by kernel_rfl)) (by kernel_rfl)
theorem reads (os:Os){H:Type}(enc:TypeId×Value->H):∃places,DataW.whole enc Tryz.prog ((Laid.namWorld os).forCall (fun _ _=>0) ⟨#[],wargs,[]⟩).memory Tryz.f3.params.toList Rows.fifoSpec.vars false wargs.toList 8=some ([.nil, .nil],[],places) :=
 ⟨[],by kernel_rfl⟩
theorem lifted (os:Os)(started:os.Started)(H:Type)(enc:TypeId×Value->H)(F:Stop.Interp) :
  ReturnsInHanded {} Tryz.checked os 3 .any ((OpenSpec.ofChange Rows.fifoSpec).preRow enc Tryz.prog Tryz.f3 Rows.fifoRow.domain false Rows.fifoRow.laid) (((OpenSpec.ofChange Rows.fifoSpec).at F).post enc Tryz.prog Tryz.f3 false true false false):=by
 obtain⟨places,hx⟩:=reads os enc
 refine returnsInHanded_of_row (C:=Tryz.checked) (s:=OpenSpec.ofChange Rows.fifoSpec) own started (by kernel_rfl) Tryz.func3
  (witness_row_at (enc:=enc) (C:=Tryz.checked) false (Laid.namWorld os) wargs rfl (by kernel_rfl) (by kernel_rfl) (by kernel_rfl)
   (OpenSpec.preRow_of_cond 8 hx (by kernel_rfl) (fun k hk=>by cases hk) (by kernel_rfl) (laid_met os))) ?_
 intro W base args ds gs before hval hW _ _ _ hL hS _
 exact contract H enc W base args ds gs before hval hW hL hS
theorem said:Rows.FifoSaid :=
 OpenClaim.holds_of_cond 3 Tryz.f3 rfl rfl rfl rfl rfl rfl rfl ⟨rfl,rfl,rfl,rfl,rfl⟩ rfl rfl rfl rfl rfl (by kernel_rfl) Tryz.func3 (by kernel_rfl)
  (of_decide_eq_true (by kernel_rfl)) (by unfold Func.isWrapper;first | (rw [if_pos (by decide +kernel)];kernel_rfl) | (rw [if_neg (by decide +kernel)];exact⟨rfl,rfl⟩))
  (fun os started H enc _ F=>by rw [OpenClaim.pre_eq_preRow];exact lifted os started H enc F)
theorem plain (f:FuncId)(fn:Func)(hf:Tryz.pinned.checked.prog.funcNamed "flowkeeper/flowkeeperkeep.Fifo"=some f)(hfn:Tryz.pinned.checked.prog.funcs[f]? =some fn) :
  true=Tryz.pinned.checked.prog.looks []/\∀(j:Nat) t,fn.params[j]? =some t->Tryz.pinned.checked.prog.wantsStandIn t=false:=by
 obtain rfl:f=3:=Option.some.inj ((show Tryz.prog.funcNamed "flowkeeper/flowkeeperkeep.Fifo"=some 3 by kernel_rfl).symm.trans hf) |>.symm
 obtain rfl:fn=Tryz.f3:=(Option.some.inj (Tryz.func3.symm.trans hfn)).symm
 refine⟨by kernel_rfl,fun j t ht=> ?_⟩
 rw [Tryz.params3] at ht
 have hm:=Array.mem_of_getElem? ht
 have h25:Tryz.prog.wantsStandIn 22=false:=by kernel_rfl
 simp only [Array.mem_def,List.mem_cons,List.not_mem_nil,or_false] at hm
 rcases hm with rfl | rfl
 ·exact h25
 ·exact h25
theorem card:Rows.FifoCardSaid :=
 Claim7.holds_tied_plain_at .later [] _ _ _ _ said (fun _ h=>by cases h) (by kernel_rfl) (fun _ h=>by cases h) fifo_row_tie rfl ⟨rfl,rfl⟩ (by kernel_rfl) rfl plain (by kernel_rfl)
end Go.Proofs.YtgdcjccbdmcebabGreatDoor.Fif
namespace Go.Proofs.YtgdcjccbdmcebabGreatDoor
theorem fifo_card:Rows.FifoCardSaid:=Fif.card
end Go.Proofs.YtgdcjccbdmcebabGreatDoor
