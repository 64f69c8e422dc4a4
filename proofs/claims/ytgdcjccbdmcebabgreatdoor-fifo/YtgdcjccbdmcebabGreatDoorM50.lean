import Derived.Test.YtgdcjccbdmcebabGreatDoorM49
import Derived.Maps.RangeWalk
import Derived.Maps.Ext
import Derived.Deep.AppendSrc
import Derived.Maps.AppendAt
import Derived.Test.YtgdcjccbdmcebabGreatDoorRows
import Derived.ProofKit
import Derived.LaidHandle
import Derived.Lib.LaidTab
set_option linter.unusedSimpArgs false
set_option linter.unusedVariables false
namespace Go.Proofs.YtgdcjccbdmcebabGreatDoor
open Go.RowKit
open Go.Maps (Agree agree_start agree_step agree_end)
set_option maxRecDepth 100000
attribute [local go_sem ↓] Go.wp_at_zero Go.wp_at_succ
theorem keyOf_str_inv {key:Value}{kl:Lit}(h:keyOf Tryz.prog 9 key=some kl):∃x,key= .string x:=by
 have hk:=Tryz.underlying9
 cases key<;>simp [keyOf,hk,mapKey] at h
 exact⟨_,rfl⟩
theorem strR_inv {v:Value}{y:DataW Unit×List MemPlace}(h:strR v=some y):∃c:Option Addr,v= .pointer c:=by
 unfold strR at h
 split at h
 ·exact⟨_,rfl⟩
 ·exact⟨_,rfl⟩
 ·cases h
theorem FilAt.copied {w w':World}{bm bm':Nat}{f:FilD}{D:DataW Unit}(h:FilAt w bm f D)(hown:w'.ownsMap Tryz.prog 9 strR bm' 3 D)(hs:∀k s,StrAt w k s->w'.heap[k]? =w.heap[k]?):FilAt w' bm' f D :=
 ⟨hown,h.size,h.has,fun i s hi e=>by obtain⟨b,h1,h2⟩:=h.at_ i s hi e;exact⟨b,h1,(hs b _ h2).trans h2⟩⟩
theorem OneF.of_grown {w w':World}{D:Nat}{row:Option Nat}(h:w.grownBy w' row)(hr:∀j,row=some j->w.heap.size<=j):OneF w w' D :=
 ⟨h.os,h.tape,h.output,h.size,fun k hk _=>h.block k hk (fun e=>by have:=hr k e.symm;omega)⟩
theorem OneF.grownL {w w1 w':World}{D:Nat}{row:Option Nat}(ho:OneF w w1 D)(h:w1.grownBy w' row)(hr:∀j,row=some j->w.heap.size<=j):OneF w w' D :=
 ⟨h.os.trans ho.os,h.tape.trans ho.tape,h.output.trans ho.output,Nat.le_trans ho.size h.size,fun k hk hD=>(h.block k (Nat.lt_of_lt_of_le hk ho.size) (fun e=>by have:=hr k e.symm;omega)).trans (ho.block k hk hD)⟩
set_option maxHeartbeats 4000000 in
theorem up_any (w:World)(D bd:Nat)(nv pv:Value)(l0 f0:Int)(dn:Bool)(f:FilD)(Dd:DataW Unit)(hd:w.heap[D]? =some (.cells #[.map (some bd),nv,pv, .int .i64 l0, .int .i64 f0, .bool dn] 101 (0,0)))(hf:FilAt w bd f Dd) :
  Calls Tryz.prog 47 #[.pointer (some ⟨D,0,none⟩)] w fun x w'=>x= .returned (.tuple #[])/\∃bn',w.heap.size<=bn'/\bn'<w'.heap.size/\DkC w' D bd bn' (.slice none 0 0) l0 f0 false/\FilAt w' bd f Dd/\FilAt w' bn' f Dd/\OneF w w' D:=by
 have hmm:=@run_makeMap Tryz.prog
 have hDl:=Zaa hd
 have hbl:=hf.own.lt
 have hbD:bd≠D:=fun e=>by
  obtain⟨es,c,e3,_⟩:=hf.own
  rw [e,hd] at e3;cases e3
 obtain⟨nb,hnb⟩:∃nb,nb=w.heap.size:=⟨_,rfl⟩
 obtain⟨w1,hw1⟩:∃w1,w1=(w.alloc (.map #[] 0)).setCell ⟨D,1,none⟩ (.map (some nb)):=⟨_,rfl⟩
 have hb0:Below w.heap.size w (w.alloc (.map #[] 0)):=(Below.refl _ _).alloc (Nat.le_refl _) _
 have hd0:=(hb0.block D hDl).trans hd
 have hd1:DkC w1 D bd nb pv l0 f0 dn:=by rw [hw1];exact⟨by rw [Zac hd0];rfl⟩
 have hown1:w1.ownsMap Tryz.prog 9 strR bd 3 Dd:=by rw [hw1];exact (hf.own.alloc _).setCell hbD _
 have hnew1:w1.ownsMap Tryz.prog 9 strR nb 0 (.map []:DataW Unit):=by rw [hw1,hnb];exact (World.ownsMap_made _ _ _ _).setCell (by show w.heap.size≠D;omega) _
 have ho1:OneF w w1 D:=by
  have h0:=OneF.of_grown (D:=D) (World.grownBy_alloc w (.map #[] 0) none) (fun j h=>by cases h)
  rw [hw1]
  exact h0.set 1 _
 have hs1:w1.heap.size=nb+1:=by rw [hw1,hnb];simp
 have d1:(w.alloc (.map #[] 0)).cell? ⟨D,1,none⟩=some nv:=by unfold World.cell?;rw [hd0];rfl
 have g1:(w.alloc (.map #[] 0)).frozen? ⟨D,1,none⟩=false:=by simp [World.frozen?,hd0]
 have hlt:D<nb:=by omega
 have hlt2:bd<nb:=by omega
 have hcnt:=cntF_le f
 have hsz:=hf.size
 have hns:∀k s,StrAt w k s->k≠D:=fun k s e y=>by
  unfold StrAt at e
  rw [y,hd] at e
  simp only [Option.some.injEq,Obj.cells.injEq] at e
  exact absurd e.2.1 (by decide)
 have HR:=Hid.mk (And.intro hw1 (And.intro hnb (And.intro hf (And.intro hs1 (And.intro hnew1 ho1)))))
 have HN:=Hid.mk hns
 clear hns hd hf hbl hb0 hd0 hw1 hnb ho1 hDl
 go_enter Tryz.func47,Tryz.ntmps47
 go_upto_region 1 with fail
 rw [<-HR.out.2.1,<-HR.out.1]
 have e0:=hd1.cells.1.1.1.1.1
 clear d1 g1
 go_wp2_with (at_range;refine wpList_range_own _ rfl _ 98 rfl 9 102 keyedS Tryz.underlying98 strR bd 3 Dd rfl hown1 ?_;intro w0 hrg0 hg0 hs0)
 go_frame
 have HA:=Hid.mk (show DkC w0 D bd nb pv l0 f0 dn/\OneF w w0 D/\w0.ownsMap Tryz.prog 9 strR nb 0 (.map []:DataW Unit) from⟨hd1.at_ (hg0.block D (by omega) (by simp)),HR.out.2.2.2.2.2.grownL hg0 (fun j h=>by cases h),HR.out.2.2.2.2.1.kept hg0 (by simp)⟩)
 rw [hs1] at hrg0 hs0 ⊢
 clear e0 hd1 hown1 hnew1 hg0 hs1
 go_loopw [2,3] (fun _ _ wr=>∃(left:Lit->Bool) (cnt:Nat) (Dout:DataW Unit),wr.ranges Tryz.prog 9 strR bd (nb+1) 3 Dd left cnt/\cnt<=Maps.size Dd /\
   wr.ownsMap Tryz.prog 9 strR nb (Maps.size Dd - cnt) Dout/\Agree Dout Dd left/\DkC wr D bd nb pv l0 f0 dn/\OneF w wr D)
  (fun _ _ wr=>wr.rangeLeft bd (nb+1))
 case atStart =>
  exact⟨_,_, .map [],hrg0,Nat.le_refl _,HA.out.2.2.mono (Nat.zero_le _),agree_start Dd,HA.out.1,HA.out.2.1⟩
 case round =>
  obtain⟨left,cnt,Dout,hrg,hcs,hout,hA,hdr,hor⟩:=hrel
  have HO:=Hid.mk (And.intro hdr hor)
  have e1:=hdr.cells.1.1.1.1.2
  have e2:=hdr.cells.1.1.1.2
  have e5:=hdr.cells.2
  have g2:=hdr.froz 2
  have g5:=hdr.froz 5
  clear hdr hor
  go_wp2_with (at_next;refine wpList_next_ranges _ rfl _ rfl 9 keyedS strR Value.string Value.pointer (fun key kl h=>keyOf_str_inv h) (fun v y h=>strR_inv h) bd (nb+1) 3 _ _ _ rfl hrg ?_ ?_)
  ·intro hc0 hl0
   go_wp2_with fail
   go_end0
   subst hc0
   obtain⟨hdr,hor⟩:=HO.out
   have e:=agree_end hA hl0 (hout.canon keyedS) (HR.out.2.2.1.own.canon keyedS)
   subst e
   have hos:OneF w ((wr.setCell ⟨D,2,none⟩ (.slice none 0 0)).setCell ⟨D,5,none⟩ (.bool false)) D:=(hor.set 2 _).set 5 _
   have hst:∀k s,StrAt w k s->((wr.setCell ⟨D,2,none⟩ (.slice none 0 0)).setCell ⟨D,5,none⟩ (.bool false)).heap[k]? =w.heap[k]? :=fun k s e2=>hos.block k (Zaa e2) (HN.out k s e2)
   refine⟨rfl,nb,Nat.le_of_eq HR.out.2.1.symm,?_,(hdr.setP (.slice none 0 0)).setD false,?_,?_,hos⟩
   ·have:=hout.lt
    simpa using this
   ·exact HR.out.2.2.1.copied ((hrg.owns.setCell hbD _).setCell hbD _) hst
   ·refine HR.out.2.2.1.copied ((((by simpa using hout:wr.ownsMap Tryz.prog 9 strR nb (Maps.size Dout) Dout).mono (by omega)).setCell (by show nb≠D;omega) _).setCell (by show nb≠D;omega) _) hst
  ·intro x c kl yd yp w2 cnt1 hkey hlk hv hat hrg1 hlt1 hg1 hs1 hen
   have hout1:=hout.kept hg1 (by simp)
   have hdr1:DkC w2 D bd nb pv l0 f0 dn:=HO.out.1.at_ (hg1.block D (Zaa HO.out.1.blk) (by simp;omega))
   have e1':=hdr1.cells.1.1.1.1.2
   clear e1 e2 e5 g2 g5
   go_wp2_with (at_mapUpdate;refine wpList_mapUpdate_own _ rfl _ _ _ 98 rfl 9 102 keyedS Tryz.underlying98 strR nb _ _ rfl hout1 (by unfold maxLen;omega) _ _ kl rfl rfl hkey yd yp hv ?_;intro w3 hout2 hg2;go_frame)
   have hrg2:=hrg1.kept hg2 (fun e=>by have:=Option.some.inj e;omega) (fun e=>by have:=Option.some.inj e;omega)
   go_roundw
   case rel =>
    refine⟨_,cnt1,_,hrg2,by omega,hout2.mono (by omega),agree_step hA hout.isMap (keyedS.key hkey) hat,hdr1.at_ (hg2.block D (Zaa hdr1.blk) (by simp;omega)),(HO.out.2.grownL hg1 (fun j h=>by have:=HR.out.2.1;cases h;omega)).grownL hg2 (fun j h=>by have:=HR.out.2.1;cases h;omega)⟩
   case measure=>rw [hrg2.left_eq,hrg.left_eq];exact hlt1
end Go.Proofs.YtgdcjccbdmcebabGreatDoor
namespace Go.Proofs.YtgdcjccbdmcebabGreatDoor
open Go.RowKit
set_option maxRecDepth 100000
attribute [local go_sem ↓] Go.wp_at_zero Go.wp_at_succ
structure HostN (w:World)(hb D bd bn:Nat):Prop where
 host:HostC w hb D (.pointer none)
 dk:DkC w D bd bn (.slice none 0 0) (-1) (-1) false
 fd:∃Dd,FilAt w bd noFil Dd
 fn:∃Dn,FilAt w bn noFil Dn
 ne:bd≠bn
set_option maxHeartbeats 4000000 in
theorem newhost_any (w:World):Calls Tryz.prog 23 #[] w fun x w'=>∃hb D bd bn,x= .returned (.pointer (some ⟨hb,0,none⟩))/\HostN w' hb D bd bn/\(w.heap.size<=hb/\w.heap.size<=D/\w.heap.size<=bd/\w.heap.size<=bn)/\hb≠D/\hb≠bd/\hb≠bn/\Below w.heap.size w w':=by
 have hmm:=@run_makeMap Tryz.prog
 obtain⟨m,hm⟩:∃m,m=w.heap.size:=⟨_,rfl⟩
 obtain⟨w3,hw3⟩:∃w3,w3=((w.alloc (.map #[] 0)).alloc (.cells #[.map (some m), .map none, .slice none 0 0, .int .i64 (-1), .int .i64 (-1), .bool false] 101)).alloc (.cells #[.pointer (some ⟨m+1,0,none⟩), .pointer none] 83):=⟨_,rfl⟩
 have hb3:Below w.heap.size w w3:=by rw [hw3];exact (((Below.refl _ _).alloc (Nat.le_refl _) _).alloc (by simp) _).alloc (by simp;omega) _
 have hD:w3.heap[m+1]? =some (.cells #[.map (some m), .map none, .slice none 0 0, .int .i64 (-1), .int .i64 (-1), .bool false] 101 (0,0)):=by
  rw [hw3,Zaj _ _ _ (by simp;omega)]
  exact Zbd _ _ _ _ (by simp;omega)
 have hH:w3.heap[m+1+1]? =some (.cells #[.pointer (some ⟨m+1,0,none⟩), .pointer none] 83 (0,0)):=by
  rw [hw3]
  exact Zbd _ _ _ _ (by simp;omega)
 have hf:FilAt w3 m noFil (.map []):=by
  rw [hw3,hm]
  have h0:=filAt_new w
  have hb:Below (w.alloc (.map #[] 0)).heap.size (w.alloc (.map #[] 0)) w3:=by rw [hw3,hm];exact ((Below.refl _ _).alloc (Nat.le_refl _) _).alloc (by simp) _
  have:=h0.below hb
  rw [hw3,hm] at this
  exact this
 have HUP:=Hid.mk (up_any w3 (m+1) m _ _ _ _ _ noFil _ hD hf)
 have HR:=Hid.mk (And.intro hw3 (And.intro hm (And.intro hb3 hH)))
 have c0:w3.cell? ⟨m+1+1,0,none⟩=some (.pointer (some ⟨m+1,0,none⟩)):=by unfold World.cell?;rw [hH];rfl
 have hlt:=Zaa hH
 clear hm hw3 hb3 hD hH hf
 go_enter Tryz.func23,Tryz.ntmps23
 go_upto_region 2 with fail
 rw [<-HR.out.2.1,<-HR.out.1]
 go_wp2_with (go_at_call 47;refine HUP.out.mono ?_;rintro _ w4 ⟨rfl,bn,q1,q2,q3,q4,q5,q6⟩;have H4:=Hid.mk (And.intro q1 (And.intro q2 (And.intro q3 (And.intro q4 (And.intro q5 q6)))));clear q1 q2 q3 q4 q5 q6)
 go_ret
 obtain⟨q1,q2,q3,q4,q5,q6⟩:=H4.out
 obtain⟨h1,h2,h3,h4⟩:=HR.out
 refine⟨m+1+1,m+1,m,bn,rfl,⟨⟨(q6.block _ hlt (by omega)).trans h4⟩,q3,⟨_,q4⟩,⟨_,q5⟩,by omega⟩,⟨by omega,by omega,by omega,by omega⟩,by omega,by omega,by omega,?_⟩
 exact⟨q6.os.trans h3.os,q6.tape.trans h3.tape,q6.output.trans h3.output,Nat.le_trans h3.size q6.size,fun k hk=>(q6.block k (Nat.lt_of_lt_of_le hk h3.size) (by omega)).trans (h3.block k hk)⟩
end Go.Proofs.YtgdcjccbdmcebabGreatDoor
namespace Go.Proofs.YtgdcjccbdmcebabGreatDoor
open Go.RowKit
theorem nodeN_length (F:FlowD)(i:Nat):(nodeN F i).length=7+F.an i:=by simp [nodeN];omega
theorem nodesN_pre (F:FlowD)(i n:Nat)(h:i<=n):∃r,Zc7 F n=Zc7 F i++r:=by
 induction n with
 | zero=>obtain rfl:i=0:=by omega
         exact⟨[],by simp⟩
 | succ n ih =>
  by_cases e:i=n+1
  ·subst e;exact⟨[],by simp⟩
  ·obtain⟨r,hr⟩:=ih (by omega)
   exact⟨r++nodeN F n,by simp only [Zc7,hr,List.append_assoc]⟩
def idxN (F:FlowD)(i:Nat):Nat:=2+(Zc7 F i).length
theorem idxN_succ (F:FlowD)(i:Nat):idxN F (i+1)=idxN F i+(7+F.an i):=by
 unfold idxN
 simp only [Zc7,List.length_append,nodeN_length]
 omega
theorem flowN_at (F:FlowD)(i j:Nat)(hi:i<F.n)(hj:j<7+F.an i):(flowN F)[idxN F i+j]? =(nodeN F i)[j]? :=by
 obtain⟨r,hr⟩:=nodesN_pre F (i+1) F.n hi
 unfold flowN idxN
 rw [hr,show 2+(Zc7 F i).length+j=([F.dl.toNat,F.n]:List Nat).length+((Zc7 F i).length+j) by simp;omega,List.getElem?_append_right (by omega),Nat.add_sub_cancel_left]
 simp only [Zc7,List.append_assoc]
 rw [List.getElem?_append_right (by omega),Nat.add_sub_cancel_left,List.getElem?_append_left (by rw [nodeN_length];exact hj)]
theorem flowN_le {F:FlowD}(ht:OkTop F)(h:∀i,i<F.n->NatNode F i):∀v∈flowN F,v<=2097151:=by
 have h1:∀k,k<=F.n->∀v∈Zc7 F k,v<=2097151:=by
  intro k
  induction k with
  | zero=>intro _ v hv;cases hv
  | succ k ih =>
   intro hk v hv
   simp only [Zc7] at hv
   rcases List.mem_append.1 hv with hv | hv
   ·exact ih (by omega) v hv
   ·have hn:=h k (by omega)
    obtain⟨x1,x2,x3,x4,x5,x6,x7,x8⟩:=hn
    simp only [nodeN,List.mem_append,List.mem_cons,List.not_mem_nil,or_false,List.mem_map,List.mem_range] at hv
    rcases hv with (rfl | rfl | rfl | rfl | rfl | rfl | rfl) | ⟨j,hj,rfl⟩
    all_goals first | omega | (have:=x8 j hj;omega)
 intro v hv
 simp only [flowN,List.mem_append,List.mem_cons,List.not_mem_nil,or_false] at hv
 have t1:=ht.dl2
 have t2:=ht.n2
 rcases hv with (rfl | rfl) | hv
 ·omega
 ·omega
 ·exact h1 F.n (Nat.le_refl _) v hv
section
variable {F:FlowD}
theorem val_at (ht:OkTop F)(h:∀i,i<F.n->NatNode F i)(k v:Nat)(hk:(flowN F)[k]? =some v):nxV (Zat F).length (byF (Zat F)) (nxN (Zat F).length (byF (Zat F)) k (.good 0 0))=v:=by
 rw [flowB_cat]
 obtain⟨hlt,e⟩:=List.getElem?_eq_some_iff.1 hk
 rw [nxV_cat (flowN F) (flowN_le ht h) k hlt,e]
theorem st_at (ht:OkTop F)(h:∀i,i<F.n->NatNode F i):∀i,i<=F.n->st (Zat F).length (byF (Zat F)) i=nxN (Zat F).length (byF (Zat F)) (idxN F i) (.good 0 0):=by
 intro i
 induction i with
 | zero=>intro _;rfl
 | succ i ih =>
  intro hi
  have h1:=ih (by omega)
  have h2:st (Zat F).length (byF (Zat F)) (i+1)=ndS (Zat F).length (byF (Zat F)) (st (Zat F).length (byF (Zat F)) i):=rfl
  rw [h2,h1]
  have h3:=val_at ht h (idxN F i+6) (F.an i) (by rw [flowN_at F i 6 (by omega) (by omega)];rfl)
  rw [nxN_add] at h3
  unfold ndS
  rw [h3,<-nxN_add,idxN_succ]
theorem nd_at (ht:OkTop F)(h:∀i,i<F.n->NatNode F i)(i j v:Nat)(hi:i<F.n)(hj:j<7+F.an i)(hv:(nodeN F i)[j]? =some v):nxV (Zat F).length (byF (Zat F)) (nxN (Zat F).length (byF (Zat F)) j (st (Zat F).length (byF (Zat F)) i))=v:=by
 rw [st_at ht h i (by omega),<-nxN_add]
 exact val_at ht h _ v (by rw [flowN_at F i j hi hj];exact hv)
theorem back (ht:OkTop F)(h:∀i,i<F.n->NatNode F i) :
  (∃s,stE (Zat F).length (byF (Zat F))= .good (Zat F).length s)/\(Zag (Zat F).length (byF (Zat F))).dl=F.dl/\(Zag (Zat F).length (byF (Zat F))).n=F.n/\SameTo F (Zag (Zat F).length (byF (Zat F))) F.n:=by
 have hn:(Zag (Zat F).length (byF (Zat F))).n=F.n:=val_at ht h 1 F.n rfl
 have hd:(Zag (Zat F).length (byF (Zat F))).dl=F.dl:=by
  show ((nxV (Zat F).length (byF (Zat F)) (nxN (Zat F).length (byF (Zat F)) 0 (.good 0 0)):Nat):Int)=_
  rw [val_at ht h 0 F.dl.toNat rfl,Int.toNat_of_nonneg (by have:=ht.dl1;omega)]
 refine⟨?_,hd,hn,?_⟩
 ·unfold stE
  rw [hn,st_at ht h F.n (Nat.le_refl _)]
  have hl:idxN F F.n=(flowN F).length:=by simp [idxN,flowN];omega
  obtain⟨s,hs⟩:=nxN_cat (flowN F) (flowN_le ht h) (idxN F F.n) (by omega)
  rw [hl,List.take_length] at hs
  rw [hl,flowB_cat]
  exact⟨s,hs⟩
 ·have key:∀(i j:Nat) (x:Int),i<F.n->j<7+F.an i->x=(x.toNat:Int)->(nodeN F i)[j]? =some x.toNat->x=((nxV (Zat F).length (byF (Zat F)) (nxN (Zat F).length (byF (Zat F)) j (st (Zat F).length (byF (Zat F)) i)):Nat):Int):=fun i j x hi hj hx hv=>by
   rw [nd_at ht h i j x.toNat hi hj hv]
   exact hx
  constructor
  ·intro i hi;exact key i 0 (F.bu i) hi (by omega) (h i hi).bu.1 rfl
  ·intro i hi;exact key i 1 (F.cl i) hi (by omega) (h i hi).cl.1 rfl
  ·intro i hi;exact key i 2 (F.be i) hi (by omega) (h i hi).be.1 rfl
  ·intro i hi;exact key i 3 (F.ba i) hi (by omega) (h i hi).ba.1 rfl
  ·intro i hi;exact key i 4 (F.ca i) hi (by omega) (h i hi).ca.1 rfl
  ·intro i hi;exact key i 5 (F.ji i) hi (by omega) (h i hi).ji.1 rfl
  ·intro i hi;exact (nd_at ht h i 6 (F.an i) hi (by omega) rfl).symm
  ·intro i hi j hj
   refine key i (7+j) (F.af i j) hi (by omega) ((h i hi).af j hj).1 ?_
   unfold nodeN
   rw [List.getElem?_append_right (by simp)]
   simp [hj]
end
end Go.Proofs.YtgdcjccbdmcebabGreatDoor
namespace Go.Proofs.YtgdcjccbdmcebabGreatDoor
open Go.RowKit
theorem catL_len (vs:List Nat):vs.length<=(catL vs).length:=by
 induction vs with
 | nil=>exact Nat.zero_le _
 | cons v r ih=>have:=numL_pos v;simp only [catL,List.length_cons,List.length_append];omega
theorem flowB_nine {F:FlowD}(h1:1<=F.n):9<=(Zat F).length:=by
 rw [flowB_cat]
 have h2:=catL_len (flowN F)
 have h3:9<=(flowN F).length:=by
  obtain⟨r,hr⟩:=nodesN_pre F 1 F.n h1
  have h4:(Zc7 F 1).length=7+F.an 0:=by simp [Zc7,nodeN_length]
  simp only [flowN,List.length_append,List.length_cons,List.length_nil,hr]
  omega
 omega
end Go.Proofs.YtgdcjccbdmcebabGreatDoor
namespace Go.Proofs.YtgdcjccbdmcebabGreatDoor
set_option maxRecDepth 100000
structure OpChain (f:FlowD):Prop where
 k1:EngOk (o1 f)
 k2:EngOk (o2 f)
 k3:EngOk (o3 f)
 k4:EngOk (o4 f)
 k5:EngOk (o5 f)
 k6:EngOk (o6 f)
 k7:EngOk (o7 f)
 k8:EngOk (o8 f)
 u8:EngUp (o8 f)
theorem opChain {f:FlowD}(h:F2Is f)(hf:FlOk f):OpChain f:=by
 have k1:=(engNew_ok.submit hf (o1_is h)).1
 have k2:=k1.poll (o2_is h)
 have k3:=k2.fail (o3_is h)
 have k4:=(o4_is.ok k3 (by decide)).1
 have k5:=k4.poll (o5_is h)
 have k6:=k5.complete (o6_is h)
 have k7:=k6.poll (o7_is h)
 have u1:=engNew_up.submit engNew_ok hf (o1_is h)
 have u2:=u1.poll k1 (o2_is h)
 have u3:=u2.fail k2 (o3_is h)
 have u4:=(o4_is (f:=f)).engUp u3 k3 (by decide)
 have u5:=u4.poll k4 (o5_is h)
 have u6:=u5.complete k5 (o6_is h)
 have u7:=u6.poll k6 (o7_is h)
 exact⟨k1,k2,k3,k4,k5,k6,k7,k7.complete (o8_is h),u7.complete k7 (o8_is h)⟩
theorem fi_opened {f:FlowD}(h:OpChain f):FI (o8 f) 0 [] 3 :=
 ⟨h.k8,h.u8,rfl,rfl,rfl,rfl,by show (3:Int)<=3;decide,fun i h1 h2=>by simp [o8] at h2;omega,fun i k h1 h2=>by simp [o8] at h2;omega,by show (2:Int)≠1;decide⟩
theorem FlOk.same {F G:FlowD}(h:FlOk F)(hd:G.dl=F.dl)(hn:G.n=F.n)(hs:SameTo F G F.n):FlOk G:=by
 have hnode:∀j,j<G.n->OkNode G j:=fun j hj=>by
  have hj:j<F.n:=by omega
  obtain⟨a1,a2,a3,a4,a5,a6,a7,a8,a9,a10,a11,a12⟩:=h.node j hj
  have b:=hs.bu j hj;have c:=hs.cl j hj;have d:=hs.be j hj;have e:=hs.ba j hj;have f:=hs.ca j hj;have g:=hs.ji j hj
  constructor<;>omega
 have hedge:∀j,j<G.n->OkEdges G j:=fun j hj=>by
  have hj:j<F.n:=by omega
  intro k hk
  have hk:k<F.an j:=by rw [hs.an j hj];exact hk
  have:=h.edge j hj k hk
  unfold OkEdge at this ⊢
  rw [<-hs.af j hj k hk,hn]
  refine⟨this.1,this.2.1,fun h0=> ?_⟩
  rw [<-hs.af j hj (k - 1) (by omega)]
  exact this.2.2 h0
 refine⟨⟨by rw [hd];exact h.top.dl1,by rw [hd];exact h.top.dl2,by rw [hn];exact h.top.n1,by rw [hn];exact h.top.n2⟩,hnode,hedge,fun j hj=> ?_⟩
 have hj:j<F.n:=by omega
 have key:∀i,Gone F i->i<F.n->Gone G i:=fun i hg=>by
  induction hg with
  | mk i _ ih =>
   intro hi
   refine .mk i fun k hk=> ?_
   have hk:k<F.an i:=by rw [hs.an i hi];exact hk
   rw [<-hs.af i hi k hk]
   refine ih k hk ?_
   have:=h.edge i hi k hk
   unfold OkEdge at this
   omega
 exact key j (h.gone j hj) hj
theorem FlOk.chk {F:FlowD}(h:FlOk F):ChkIs F 0 (-1):=Or.inr (Or.inr (Or.inr (Or.inr ⟨rfl,rfl,h.top,fun j hj=>⟨h.node j hj,h.edge j hj⟩,h.gone⟩)))
theorem FlOk.nat {F:FlowD}(h:FlOk F):∀i,i<F.n->NatNode F i:=fun i hi=>natNode h.top (h.node i hi) (h.edge i hi)
theorem dec_fl {F:FlowD}(h:FlOk F){x y:Int}{G:FlowD}(hd:DecIs (Zat F).length (byF (Zat F)) x y G):x=0/\G=Zag (Zat F).length (byF (Zat F))/\FlOk G/\G.dl=F.dl/\G.n=F.n/\SameTo F G F.n:=by
 obtain⟨⟨s,hs⟩,b1,b2,b3⟩:=back h.top h.nat
 have hG:=h.same b1 b2 b3
 have hc:=hG.chk
 rcases hd with⟨s',hs',_⟩ | ⟨p,s',hs',hp,_⟩ | ⟨p,s',hs',hp,hc',h0,h3⟩
 ·rw [hs] at hs';cases hs'
 ·rw [hs] at hs';cases hs';omega
 ·obtain⟨rfl,rfl⟩:=hc'.one hc
  rw [h0 rfl]
  exact⟨rfl,rfl,hG,b1,b2,b3⟩
def fl2:FlowD:=⟨100,2,fun i=>if i=0 then 2 else 1,fun _=>9,fun _=>0,fun i=>if i=0 then 3 else 1,fun i=>if i=0 then 9 else 1,fun _=>0,fun i=>if i=0 then 0 else 1,fun _ _=>0⟩
theorem gone_rise {F:FlowD}(h:∀i,i<F.n->∀k,k<F.an i->(F.af i k).toNat<i):∀i,i<F.n->Gone F i:=by
 intro i
 induction i using Nat.strongRecOn with
 | _ i ih=>exact fun hi=> .mk i fun k hk=>ih _ (h i hi k hk) (by have:=h i hi k hk;omega)
theorem fl2_ok:FlOk fl2:=by
 have h01:∀j,j<fl2.n->j=0\/j=1:=fun j hj=>by
  have:fl2.n=2:=rfl
  omega
 refine⟨⟨by decide,by decide,by decide,by decide⟩,fun j hj=> ?_,fun j hj=> ?_,gone_rise fun j hj k hk=> ?_⟩
 ·rcases h01 j hj with rfl | rfl<;>(constructor<;>decide)
 ·rcases h01 j hj with rfl | rfl
  ·intro k hk;exact absurd hk (by show ¬k<0;omega)
  ·intro k hk
   obtain rfl:k=0:=by replace hk:k<1:=hk;omega
   exact⟨by decide,by decide,fun h=>absurd h (by decide)⟩
 ·rcases h01 j hj with rfl | rfl
  ·exact absurd hk (by show ¬k<0;omega)
  ·show (0:Int).toNat<1;decide
theorem f2_is {G:FlowD}(hd:G.dl=fl2.dl)(hn:G.n=fl2.n)(hs:SameTo fl2 G fl2.n):F2Is G :=
 ⟨hn,hd,(hs.bu 0 (by decide)).symm,(hs.cl 0 (by decide)).symm,(hs.cl 1 (by decide)).symm,(hs.be 0 (by decide)).symm,(hs.be 1 (by decide)).symm,(hs.ba 0 (by decide)).symm,(hs.ca 0 (by decide)).symm,(hs.ji 0 (by decide)).symm,(hs.an 0 (by decide)).symm,(hs.an 1 (by decide)).symm,(hs.af 1 (by decide) 0 (by decide)).symm⟩
def flF (n:Nat):FlowD:=⟨100,n,fun _=>1,fun _=>50,fun _=>0,fun _=>1,fun _=>1,fun _=>0,fun i=>if i % 3=2 then 1 else 0,fun i _=>(i:Int) - 1⟩
theorem flF_ok {n:Nat}(h1:1<=n)(h2:n<=12):FlOk (flF n):=by
 have han:∀j k,k<(flF n).an j->j % 3=2/\k=0:=fun j k hk=>by
  replace hk:k<if j % 3=2 then 1 else 0:=hk
  split at hk
  ·exact⟨by assumption,by omega⟩
  ·omega
 refine⟨⟨by show (1:Int)<=100;decide,by show (100:Int)<=1048576;decide,h1,h2⟩,fun j _=> ?_,fun j hj k hk=> ?_,gone_rise fun j hj k hk=> ?_⟩
 ·constructor<;>simp [flF]
 ·obtain⟨e,rfl⟩:=han j k hk
  replace hj:j<n:=hj
  exact⟨by show (0:Int)<=(j:Int) - 1;omega,by show (j:Int) - 1<(n:Int);omega,fun h=>absurd h (by decide)⟩
 ·obtain⟨e,rfl⟩:=han j k hk
  show ((j:Int) - 1).toNat<j
  omega
theorem ff_is {n:Nat}{G:FlowD}(hG:FlOk G)(hn:G.n=n)(hs:SameTo (flF n) G n):FfIs G:=by
 refine⟨hG,fun k hk=>(hs.bu k (by omega)).symm,fun k hk=>(hs.an k (by omega)).symm,fun k hk h3=> ?_⟩
 rw [<-hs.af k (by omega) 0 (by show 0<if k % 3=2 then 1 else 0;rw [if_pos h3];decide)]
 show ((k:Int) - 1).toNat=k - 1
 omega
end Go.Proofs.YtgdcjccbdmcebabGreatDoor
namespace Go.Proofs.YtgdcjccbdmcebabGreatDoor
open Go.RowKit
set_option maxRecDepth 100000
def wRow (w:World)(B:Nat)(e:TypeId)(size:Nat)(v:Value)(n:Nat)(xs:List Value):Prop :=
 xs.length=n * size/\((v= .slice none 0 0/\n=0)\/∃g o cap cur,v= .slice (some ⟨g,o,none⟩) n cap/\B<=g/\w.heap[g]? =some (.cells cur e (0,0))/\n<=cap/\cap<=maxLen/\o+cap * size<=cur.size/\(cur.toList.drop o).take (n * size)=xs)
theorem wRow.nil (w:World)(B:Nat)(e:TypeId)(size:Nat):wRow w B e size (.slice none 0 0) 0 []:=⟨by simp, .inl ⟨rfl,rfl⟩⟩
theorem wRow.of_own {w:World}{B:Nat}{e:TypeId}{size:Nat}{v:Value}{n:Nat}{xs:List Value}(h:w.ownsRow B e size v n xs):wRow w B e size v n xs:=by
 refine⟨h.1,?_⟩
 rcases h.2 with x | ⟨g,cap,cur,rfl,hb,hg,h1,h2,h3,h4⟩
 ·exact .inl x
 ·exact .inr ⟨g,0,cap,cur,rfl,hb,hg,h1,h2,by omega,by rw [List.drop_zero];exact h4⟩
theorem wRow.kept {w w':World}{B:Nat}{e:TypeId}{size:Nat}{v:Value}{n:Nat}{xs:List Value}(h:wRow w B e size v n xs)(hk:∀g cur,B<=g->w.heap[g]? =some (.cells cur e (0,0))->v.ownBlock=some g->w'.heap[g]? =w.heap[g]?):wRow w' B e size v n xs:=by
 refine⟨h.1,?_⟩
 rcases h.2 with x | ⟨g,o,cap,cur,rfl,hb,hg,r⟩
 ·exact .inl x
 ·exact .inr ⟨g,o,cap,cur,rfl,hb,(hk g cur hb hg rfl).trans hg,r⟩
theorem wRow.below {w w':World}{B:Nat}{e:TypeId}{size:Nat}{v:Value}{n:Nat}{xs:List Value}(h:wRow w B e size v n xs)(hb:Below w.heap.size w w'):wRow w' B e size v n xs :=
 h.kept fun g cur _ hg _=>hb.block g (Array.getElem?_eq_some_iff.1 hg).1
theorem wRow.lt {w:World}{B:Nat}{e:TypeId}{size:Nat}{v:Value}{n:Nat}{xs:List Value}(h:wRow w B e size v n xs):∀k,v.ownBlock=some k->B<=k/\k<w.heap.size:=by
 intro k hk
 rcases h.2 with⟨rfl,_⟩ | ⟨g,o,cap,cur,rfl,hb,hg,_⟩
 ·simp [Value.ownBlock] at hk
 ·simp [Value.ownBlock] at hk
  subst hk
  exact⟨hb,(Array.getElem?_eq_some_iff.1 hg).1⟩
theorem wRow.cell {w:World}{B:Nat}{e:TypeId}{size:Nat}{g o c:Nat}{n:Nat}{xs:List Value}(h:wRow w B e size (.slice (some ⟨g,o,none⟩) n c) n xs){j:Nat}(hj:j<n * size):w.cell? ⟨g,o+j,none⟩=xs[j]? :=by
 rcases h.2 with⟨x,_⟩ | ⟨g',o',cap,cur,hv,hb,hg,h1,h2,h3,h4⟩
 ·simp at x
 ·simp only [Value.slice.injEq,Option.some.injEq,Addr.mk.injEq] at hv
  obtain⟨⟨rfl,rfl,_⟩,_,rfl⟩:=hv
  rw [cell_of_row w g (o+j) cur e (0,0) hg,<-h4,List.getElem?_take,if_pos hj,List.getElem?_drop]
  simp
theorem wRow.caps {w:World}{B:Nat}{e:TypeId}{size:Nat}{a:Option Addr}{c:Nat}{n:Nat}{xs:List Value}(h:wRow w B e size (.slice a n c) n xs):n<=c/\c<=maxLen:=by
 rcases h.2 with⟨x,rfl⟩ | ⟨g',o',cap,cur,hv,hb,hg,h1,h2,_⟩
 ·simp only [Value.slice.injEq] at x
  obtain⟨_,_,rfl⟩:=x
  exact⟨Nat.zero_le _,Nat.zero_le _⟩
 ·simp only [Value.slice.injEq] at hv
  obtain⟨_,_,rfl⟩:=hv
  exact⟨h1,h2⟩
theorem wRow.tail {w:World}{B:Nat}{e:TypeId}{size:Nat}{g o c:Nat}{n:Nat}{xs:List Value}(h:wRow w B e size (.slice (some ⟨g,o,none⟩) (n+1) c) (n+1) xs):wRow w B e size (.slice (if c=1 then some ⟨g,o,none⟩ else some ⟨g,o+size,none⟩) n (c - 1)) n (xs.drop size):=by
 rcases h.2 with⟨x,_⟩ | ⟨g',o',cap,cur,hv,hb,hg,h1,h2,h3,h4⟩
 ·simp at x
 ·simp only [Value.slice.injEq,Option.some.injEq,Addr.mk.injEq] at hv
  obtain⟨⟨rfl,rfl,_⟩,_,rfl⟩:=hv
  have hlen:=h.1
  refine⟨by rw [List.length_drop,hlen,Nat.add_mul];omega, .inr ?_⟩
  by_cases hc:c=1
  ·subst hc
   obtain rfl:n=0:=by omega
   rw [if_pos rfl]
   refine⟨g,o,0,cur,rfl,hb,hg,Nat.le_refl _,by omega,by omega,?_⟩
   rw [Nat.zero_mul,List.take_zero]
   symm
   apply List.eq_nil_of_length_eq_zero
   rw [List.length_drop,hlen];simp
  ·rw [if_neg hc]
   refine⟨g,o+size,c - 1,cur,rfl,hb,hg,by omega,by omega,?_,?_⟩
   ·have:c * size=(c - 1) * size+size:=by
     have h5:c=(c - 1)+1:=by omega
     rw [h5,Nat.add_mul];simp
    omega
   ·rw [<-h4,List.drop_take,List.drop_drop]
    congr 1
    rw [Nat.add_mul];omega
theorem run_append_wrow {P:Program}{w:World}(base:Nat)(t ty e:TypeId)(i:TypeInfo)(z:Value)(size bytes:Nat)(ht:P.underlying t=some (.slice e))(hi:P.info? e=some i)(hz:i.zero=some z)
  (hsize:i.size=size) (hby:i.bytes=bytes) (hzs:z.cells.size=size) (hsz:0<size) (v:Value) (n:Nat) (xs:List Value) (hown:wRow w base e size v n xs)
  (a:Addr) (m c:Nat) (news:List Value) (hl:news.length=m * size) (hnews:∀j u,news[j]? =some u->w.cell? (a.add j)=some u) (h1:∀u∈news,u.oneCell'=true) (hm:0<m)
  (h63:n+m<=maxLen) (hbytes:(n+m) * bytes<=140737488355328) (hbase:base<=w.heap.size) :
  ∃v' w',(Builtin.append_ #[t,t] ty #[v, .slice (some a) m c]).run P w= .ok v' w'/\wRow w' base e size v' (n+m) (xs++news)/\w.grownBy w' v.ownBlock/\(∃g o cap,v'= .slice (some ⟨g,o,none⟩) (n+m) cap):=by
 rcases hown.2 with⟨rfl,rfl⟩ | ⟨g,o,cap,cur,rfl,hbg,hg,hnc,hcm,hcs,htake⟩
 ·have hx:xs=[]:=List.eq_nil_of_length_eq_zero (by simpa using hown.1)
  subst hx
  obtain⟨v',w',hr,h2,h3,_⟩:=run_append_own_at (P:=P) w base t ty e i z size bytes ht hi hz hsize hby hzs hsz (.slice none 0 0) 0 [] (World.ownsRow_nil _ _ _ _) a m c news hl hnews h1 h63 hbytes hbase
  refine⟨v',w',hr,wRow.of_own h2,h3,?_⟩
  rcases h2.2 with⟨_,h0⟩ | ⟨g,cap,cur,hv,_⟩
  ·omega
  ·exact⟨g,0,cap,hv⟩
 ·subst hsize hby
  have hsmall:n+m<=9223372036854775807:=by simp only [maxLen] at h63;omega
  have hlen:(xs++news).length=(n+m) * i.size:=by rw [List.length_append,hown.1,hl,Nat.add_mul]
  have hs:Src P i.size t (.slice (some a) m c) m news w:=Src.ofSlice w ht a m c news hl hnews h1
  by_cases hroom:n+m<=cap
  ·have hmul:(n+m) * i.size<=cap * i.size:=Nat.mul_le_mul_right _ hroom
   have hsum:(n+m) * i.size=n * i.size+m * i.size:=Nat.add_mul _ _ _
   have hfit:o+n * i.size+news.length<=cur.size:=by rw [hl];omega
   have hr:=run_append_room_src (P:=P) w t t ty e i ht hi g o n cap (.slice (some a) m c) m news hs hroom
    (fun j hj=>by rw [cell_of_row w g _ cur e (0,0) hg,Array.getElem?_eq_getElem (by omega)];rfl) (fun j hj=>by simp [World.frozen?,hg])
   obtain⟨cur',hc',hsz',hli⟩:=heap_setsG g e news (o+n * i.size) w cur hg hfit
   have hk:=setsG_keep w g (o+n * i.size) news
   refine⟨_,_,hr,⟨hlen, .inr ⟨g,o,cap,cur',rfl,hbg,hc',hroom,hcm,by omega,?_⟩⟩,⟨hk.2.1,hk.2.2.1,hk.2.2.2,Nat.le_of_eq hk.1.symm,fun k _ hne=>setsG_ne g k (fun e=>hne (by simp [Value.ownBlock,e])) news (o+n * i.size) w⟩,⟨g,o,cap,rfl⟩⟩
   have hL:o+n * i.size<=cur.toList.length:=by rw [Array.length_toList];omega
   rw [hli,List.append_assoc,List.drop_append_of_le_length (by rw [List.length_take];omega),List.drop_take,show o+n * i.size - o=n * i.size by omega,htake,<-List.append_assoc,<-hlen]
   exact List.take_left
  ·have holds:∀j u,xs[j]? =some u->w.cell? ((⟨g,o,none⟩:Addr).add j)=some u:=fun j u hu=>by
    have hj:j<n * i.size:=by rw [<-hown.1];exact (List.getElem?_eq_some_iff.1 hu).1
    rw [show (⟨g,o,none⟩:Addr).add j=⟨g,o+j,none⟩ from by unfold Addr.add;split<;>simp_all]
    rw [wRow.cell hown hj,hu]
   have hr:=run_append_grow (P:=P) w t ty e i z ht hi hz ⟨g,o,none⟩ n cap xs hown.1 holds a m c news hl hnews (by omega) (by omega) (growslice_fits (by omega) hbytes)
   have hge:=grownCap_ge w (n+m) cap e
   have hcm':grownCap w (n+m) cap e<=maxLen:=grownCap_le_maxLen w (n+m) cap e h63
   refine⟨_,_,hr,wRow.of_own ⟨hlen, .inr ⟨w.heap.size,_,_,rfl,hbase,heap_alloc_new w.drew _,hge,hcm',?_,?_⟩⟩,⟨rfl,rfl,rfl,by simp,fun k hk _=>(World.grownBy_alloc w.drew _ none).block k hk (by simp)⟩,⟨_,_,_,rfl⟩⟩
   ·simp only [Array.size_append,List.size_toArray,size_zeroCells,hzs,hown.1,hl,<-Nat.add_mul]
    congr 1
    omega
   ·simp only [Array.toList_append,List.append_assoc]
    rw [<-List.append_assoc,<-hlen]
    exact List.take_left
theorem Zdj {P:Program}(w:World){ops:Array Oper}{rest:List Oper}{o:Oper}{a:Act}{Q:Exit->Act->World->Prop}(hgd:o.guard=none)(s x:Operand)(t:TypeId)
  (ho:o.op= .call { callee:= .builtin .append,args:=#[s,x],argTypes:=#[t,t] }) (base:Nat) (e:TypeId) (i:TypeInfo) (z:Value) (size bytes:Nat) (ht:P.underlying t=some (.slice e)) (hi:P.info? e=some i) (hz:i.zero=some z)
  (hsize:i.size=size) (hby:i.bytes=bytes) (hzs:z.cells.size=size) (hsz:0<size) (v:Value) (n:Nat) (xs:List Value) (hs:a.eval s=v) (hown:wRow w base e size v n xs)
  (ad:Addr) (m c:Nat) (news:List Value) (hx:a.eval x= .slice (some ad) m c) (hl:news.length=m * size) (hnews:∀j u,news[j]? =some u->w.cell? (ad.add j)=some u) (h1:∀u∈news,u.oneCell'=true) (hm:0<m)
  (h63:n+m<=maxLen) (hbytes:(n+m) * bytes<=140737488355328) (hbase:base<=w.heap.size)
  (h:∀g o' cap w',wRow w' base e size (.slice (some ⟨g,o',none⟩) (n+m) cap) (n+m) (xs++news)->w.grownBy w' v.ownBlock->wpList P ops Q rest (a.put o.dst (.slice (some ⟨g,o',none⟩) (n+m) cap)) w'):wpList P ops Q (o::rest) a w:=by
 refine wpList_plain hgd fun K hK'=> ?_
 obtain⟨v',w',hr,h2,h3,g,o',cap,rfl⟩:=run_append_wrow (P:=P) base t o.type e i z size bytes ht hi hz hsize hby hzs hsz v n xs hown ad m c news hl hnews h1 hm h63 hbytes hbase
 unfold Oper.wp
 simp [execOp,ho,resolve,invoke,builtin,hs,hx,hr,Result.andThen]
 exact hK' _ _ (h g o' cap w' h2 h3)
end Go.Proofs.YtgdcjccbdmcebabGreatDoor
namespace Go.Proofs.YtgdcjccbdmcebabGreatDoor.Laid
open Go.RowKit Go.ChangeShapes Go.WideShapes Go.Proofs.YtgdcjccbdmcebabGreatDoor
set_option maxRecDepth 100000
theorem gTab:Tryz.prog.globalNamed "math/bits.deBruijn64tab"=some 2:=by kernel_rfl
theorem gTabType:(Tryz.prog.globals[2]?).map (·.type)=some 334:=by kernel_rfl
theorem cells64:Tryz.prog.cellsOf 334=64:=by kernel_rfl
theorem cells5:Tryz.prog.cellsOf 5=1:=by kernel_rfl
def zs64:List Int:=Lib.deBruijn64tab.map Int.ofNat
theorem zs64_at:∀j,j<64->zs64.getD j 0=((Lib.deBruijn64tab.getD j 0:Nat):Int):=by decide
theorem tab_of {W:World}(h2:laidMetH Tryz.prog [("math/bits.deBruijn64tab",Lib.tabData .u8 zs64)] W):TabIn W:=by
 have h3:Lib.TabIs Tryz.prog W "math/bits.deBruijn64tab" .u8 zs64:=Lib.tabIs_of_head (rest:=[]) gTab gTabType Tryz.underlying334 Tryz.underlying5 cells5 cells64 h2
 intro j hj
 rw [<-zs64_at j hj]
 exact h3.cell gTab j (by have:zs64.length=64:=by decide
                          omega)
theorem et:Tryz.prog.globalNamed "errors.errorType"=some 0:=by kernel_rfl
theorem rt:(Tryz.prog.cutTypes.find? (·.1 == "internal/reflectlite.rtype")).map (·.2)=some 236:=by kernel_rfl
theorem oneRow:((List.range 413).filter fun t=>Tryz.prog.rowNamed t [101,114,114,111,114])=[74]:=by kernel_rfl
theorem size:Tryz.prog.types.size=413:=by kernel_rfl
theorem err_of {W:World}(h:laidMetH Tryz.prog [("errors.errorType",Rows.laid_errors_errorType)] W):ErrTypeIn W:=by
 have h':laidMet Tryz.prog [] W/\handlesMet Tryz.prog [("errors.errorType",Rows.laid_errors_errorType)] W:=h
 obtain⟨name,u,ty,e1,e2,e3,e4,e5⟩:=h'.2 _ (List.mem_singleton.2 rfl)
 have en:name=[101,114,114,111,114]:=(Option.some.inj e1).symm
 subst en
 obtain rfl:=Option.some.inj (rt.symm.trans e2)
 have hm:ty∈(List.range 413).filter fun t=>Tryz.prog.rowNamed t [101,114,114,111,114]:=List.mem_filter.2 ⟨List.mem_range.2 (by rw [<-size];exact e3),e4⟩
 rw [oneRow] at hm
 obtain rfl:=List.mem_singleton.1 hm
 have hh:typeHandle Tryz.prog 74= .pointer (some ⟨4,74,none⟩):=by kernel_rfl
 rw [hh] at e5
 have:=World.var?_cell et e5 0
 exact this
def lay32:Obj->Obj
 | .cells _ t frozen=> .cells (Lib.deBruijn32tab.map fun n=>Value.int .u8 (Int.ofNat n)).toArray t frozen
 | o=>o
def lay64:Obj->Obj
 | .cells _ t frozen=> .cells (Lib.deBruijn64tab.map fun n=>Value.int .u8 (Int.ofNat n)).toArray t frozen
 | o=>o
def layErr:Obj->Obj
 | .cells _ t frozen=> .cells #[.iface 236 (.agg #[.pointer (some ⟨4,74,none⟩)])] t frozen
 | o=>o
end Go.Proofs.YtgdcjccbdmcebabGreatDoor.Laid
namespace Go.Proofs.YtgdcjccbdmcebabGreatDoor.Laid
open Go.RowKit Go.ChangeShapes Go.WideShapes Go.Proofs.YtgdcjccbdmcebabGreatDoor
set_option maxRecDepth 100000
def strData {H:Type}(zs:List ByteArray):DataW H:= .agg (zs.map fun s=> .lit (.string s.data.toList))
theorem cells_of_strs {H:Type}{enc:TypeId×Value->H}{P:Program}{w:World}{base:Nat}{sp:Nat->Bool}{held:Bool}{fuel:Nat}{t e:TypeId}{n:Nat}{cs:List Value}{zs:List ByteArray}{p:List MemPlace}
  (ht:P.underlying t=some (.array n e)) (he:P.underlying e=some .string) (hce:P.cellsOf e=1) (hct:P.cellsOf t=n)
  (h:DataW.trod enc P w base sp held fuel t cs=some (strData zs,p)):cs=zs.map fun s=>Value.string s:=by
 cases fuel with
 | zero=>simp [DataW.trod] at h
 | succ fuel =>
  simp only [DataW.trod,ht,hce,hct,Nat.mul_one] at h
  split at h
  ·rename_i hl
   obtain⟨xs,hm,hx⟩:=Option.map_eq_some_iff.1 h
   have hxs:xs.map (·.1)=zs.map fun s=>(DataW.lit (.string s.data.toList):DataW H):=by
    have:=congrArg Prod.fst hx
    simpa [strData] using this
   have hxl:xs.length=n:=by simpa using Lib.mapM_length hm
   have hzl:zs.length=n:=by
    have:=congrArg List.length hxs
    simp at this
    omega
   apply List.ext_getElem?
   intro i
   by_cases hi:i<n
   ·obtain⟨b,hb,hf⟩:=Lib.mapM_at hm i i (by simp [hi])
    obtain⟨s,hc,rfl,_⟩:=DataW.trod_string he hf
    have h1:cs[i]? =some (.string s):=by
     have:=congrArg (·[0]?) hc
     simpa [List.getElem?_take,List.getElem?_drop] using this
    have h2:(xs.map (·.1))[i]? =some (DataW.lit (.string s.data.toList):DataW H):=by simp [hb]
    rw [hxs] at h2
    simp only [List.getElem?_map,Option.map_eq_some_iff,DataW.lit.injEq,Lit.string.injEq] at h2
    obtain⟨z',hz',h3⟩:=h2
    obtain rfl:z'=s:=by
     cases z';cases s
     simp only [ByteArray.mk.injEq]
     exact Array.toList_inj.1 h3
    simp [h1,hz']
   ·rw [List.getElem?_eq_none (by omega),List.getElem?_eq_none (by simp;omega)]
  ·cases h
theorem gNam:Tryz.prog.globalNamed "flowkeeper/logs.names"=some 1:=by kernel_rfl
theorem gNamType:(Tryz.prog.globals[1]?).map (·.type)=some 208:=by kernel_rfl
theorem cells3s:Tryz.prog.cellsOf 208=3:=by kernel_rfl
theorem cells1s:Tryz.prog.cellsOf 9=1:=by kernel_rfl
theorem names_of {W:World}(h2:laidMetH Tryz.prog [("flowkeeper/logs.names",Rows.laid_flowkeeper_logs_names)] W):Zbi W:=by
 have h:laidMet Tryz.prog [("flowkeeper/logs.names",strData [nmB 0,nmB 1,nmB 2])] W:=h2
 obtain⟨ps,⟨g',t',cs,fuel,p,q,hg',ht',hvar,hd,_,_⟩,_⟩:=h
 obtain rfl:=Option.some.inj (gNam.symm.trans hg')
 obtain rfl:=Option.some.inj (gNamType.symm.trans ht')
 have hcs:=cells_of_strs Tryz.underlying208 Tryz.underlying9 cells1s cells3s hd
 intro i hi
 have:=World.var?_cell gNam hvar i
 rw [this]
 have h3:cs.toList=_:=hcs
 rw [<-Array.getElem?_toList,h3]
 match i,hi with
 | 0,_=>rfl
 | 1,_=>rfl
 | 2,_=>rfl
theorem shape_lt {W:World}(h:W.ShapedOpen Tryz.prog):4<W.heap.size:=by
 obtain⟨o,o0,h1,_⟩:=h.2 4 (by decide) (of_decide_eq_true (by kernel_rfl))
 exact (Array.getElem?_eq_some_iff.1 h1).1
theorem tab_lt {W:World}(h:TabIn W):2<W.heap.size:=World.block_lt_of_cell? _ _ (h 0 (by omega))
theorem err_lt {W:World}(h:ErrTypeIn W):0<W.heap.size:=World.block_lt_of_cell? _ _ h
def layNam:Obj->Obj
 | .cells _ t frozen=> .cells #[.string (nmB 0), .string (nmB 1), .string (nmB 2)] t frozen
 | o=>o
noncomputable def namWorld (os:Os):World :=
 { World.holding Tryz.prog os ⟨#[],#[],[]⟩ with heap:=((((World.holding Tryz.prog os ⟨#[],#[],[]⟩).heap.modify 3 lay32).modify 2 lay64).modify 0 layErr).modify 1 layNam }
end Go.Proofs.YtgdcjccbdmcebabGreatDoor.Laid
