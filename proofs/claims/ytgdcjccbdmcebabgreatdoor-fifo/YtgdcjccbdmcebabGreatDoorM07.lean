import Derived.Test.YtgdcjccbdmcebabGreatDoorM06
set_option linter.unusedSimpArgs false
set_option linter.unusedVariables false
namespace Go.Proofs.YtgdcjccbdmcebabGreatDoor
open Go.RowKit
set_option maxRecDepth 100000
def CheckEnds (F:FlowD)(w w':World)(e:Ending):Prop :=
 (e= .returned .nilIface/\ChkIs F 0 (-1))\/(∃(x y:Int) (q:Nat),e= .returned (.iface 105 (.pointer (some ⟨q,0,none⟩)))/\x≠0/\ChkIs F x y/\w.heap.size<=q/\q<w'.heap.size/\FaultAt w' q x y)
set_option maxHeartbeats 1000000 in
theorem check_top (F:FlowD)(a:Option Addr)(cap:Nat)(w:World)(hn:F.n<=maxLen)(h:¬OkTop F) :
  Calls Tryz.prog 74 #[flV F.dl (.slice a F.n cap)] w fun e w'=>CheckEnds F w w' e/\Below w.heap.size w w':=by
 unfold maxLen at hn
 have hc:ChkIs F 2 (-1):=Or.inl ⟨rfl,rfl,h⟩
 have hcs:Zax F.dl 1 1048576=false\/(Zax F.dl 1 1048576=true/\Zax F.n 1 12=false):=by
  apply Classical.byContradiction
  intro hno
  apply h
  unfold Zax at hno
  simp only [decide_eq_true_eq,decide_eq_false_iff_not] at hno
  constructor<;>omega
 have H:=Hid.mk hc
 clear hc h
 rcases hcs with s0 | ⟨s0,s1⟩
 all_goals
  go_enter Tryz.func74,Tryz.ntmps74
  go_wp2_with (first | (go_at_call 121;refine (within_b _ _ _ _).mono ?_;rintro e w' ⟨rfl,rfl⟩) | (go_at_call 122;refine (fault_any _ _ _).mono ?_;rintro e w' ⟨q,rfl,hq1,hq2,hf,hbq⟩))
  go_ret
  exact⟨Or.inr ⟨_,_,q,rfl,by omega,H.out,by simp at hq1;omega,hq2,hf⟩,((Below.refl _ _).alloc (Nat.le_refl _) _).trans (hbq.mono (by simp))⟩
set_option maxHeartbeats 4000000 in
theorem check_ok (F:FlowD)(b o cap:Nat)(Aa:Nat->Option Addr)(Ac:Nat->Nat)(w:World)(ht:OkTop F)(hb:b<w.heap.size)(hT:TabIn w)(hg:2<w.heap.size)
  (hc:∀i,i<F.n->NodeAt w F i b (o+i * 7) (Aa i) (Ac i)) :
  Calls Tryz.prog 74 #[flV F.dl (.slice (some ⟨b,o,none⟩) F.n cap)] w fun e w'=>CheckEnds F w w' e/\Below w.heap.size w w':=by
 obtain⟨t1,t2,t3,t4⟩:=ht
 have s0:=Zce t1 t2
 have s1:Zax F.n 1 12=true:=Zce (by omega) (by omega)
 have HC:=Hid.mk hc
 have HTT:=Hid.mk hT
 clear hc hT
 go_enter Tryz.func74,Tryz.ntmps74
 go_wp2_with (go_at_call 121;refine (within_b _ _ _ _).mono ?_;rintro e w' ⟨rfl,rfl⟩)
 go_loopw [22] (fun i wr=>∃k:Nat,k<=F.n/\i= .int .i64 k/\(∀j,j<k->OkNode F j/\OkEdges F j)/\Own2 w wr F (some ⟨b,o,none⟩) cap) (fun i _=>F.n - (intOf i).toNat)
 case atStart=>exact⟨0,by omega,rfl,fun j hj=>by omega,Own2.start _ _ _ _ _⟩
 case round =>
  obtain⟨k,hk,rfl,hpre,hown⟩:=hrel
  rename World=>w1
  obtain⟨c0,c1,hsz,hbl⟩:=hown
  have HP:=Hid.mk hpre
  clear hpre
  by_cases h1:k<F.n
  ·obtain⟨n0,n1,n2,n3,n4,n5,n6,ni⟩:=(HC.out k h1).keep hb hbl
   have hkb:Hid (∀o,Below w1.heap.size w1 (w1.alloc o)):=Hid.mk fun o=>(Below.refl _ _).alloc (Nat.le_refl _) _
   by_cases hok:OkNode F k
   ·have s2:=okNodeB_t hok
    by_cases hed:OkEdges F k
    ·have s3:=okEdgesB_t hed
     have H6:Hid (∀j,j<k+1->OkNode F j/\OkEdges F j):=Hid.mk fun j hj=>by
      by_cases hj2:j<k
      ·exact HP.out j hj2
      ·obtain rfl:j=k:=by omega
       exact⟨hok,hed⟩
     clear hok hed
     go_wp2_with fail
     refine (bounded_any F k _ _).mono ?_
     rintro e w4 ⟨rfl,hb4⟩
     have hb14:Below w1.heap.size w1 w4:=(hkb.out _).trans (hb4.mono (by simp))
     have m6:w4.cell? ⟨w1.heap.size,6,none⟩=some (.slice (Aa k) (F.an k) (Ac k)):=(hb4.cell (p:=⟨w1.heap.size,6,none⟩) (by simp)).trans (by simp)
     have m1:w4.cell? ⟨w.heap.size,1,none⟩=some (.slice (some ⟨b,o,none⟩) F.n cap):=(hb14.cell (p:=⟨w.heap.size,1,none⟩) hsz).trans c1
     have hown4:=Hid.mk (Own2.keep ⟨c0,c1,hsz,hbl⟩ hb14)
     have ni4:=ni.keep hb14
     clear hb4 hb14 n0 n1 n2 n3 n4 n5 n6 ni c0 c1
     go_wp2_with fail
     refine (rising_any F k _ _ _ ni4 t4).mono ?_
     rintro e w' ⟨rfl,rfl⟩
     go_wp2_with fail
     go_roundw
     case rel=>exact⟨k+1,by omega,by go_num,H6.out,hown4.out⟩
     case measure=>simp [intOf];omega
    ·have s3:=okEdgesB_f hed
     have H6:Hid (ChkIs F 3 k):=Hid.mk (Or.inr (Or.inr (Or.inl ⟨rfl,⟨t1,t2,t3,t4⟩,k,h1,rfl,HP.out,hok,hed⟩)))
     clear hok hed
     go_wp2_with fail
     refine (bounded_any F k _ _).mono ?_
     rintro e w4 ⟨rfl,hb4⟩
     have hb14:Below w1.heap.size w1 w4:=(hkb.out _).trans (hb4.mono (by simp))
     have m6:w4.cell? ⟨w1.heap.size,6,none⟩=some (.slice (Aa k) (F.an k) (Ac k)):=(hb4.cell (p:=⟨w1.heap.size,6,none⟩) (by simp)).trans (by simp)
     have m1:w4.cell? ⟨w.heap.size,1,none⟩=some (.slice (some ⟨b,o,none⟩) F.n cap):=(hb14.cell (p:=⟨w.heap.size,1,none⟩) hsz).trans c1
     have hown4:=Hid.mk (Own2.keep ⟨c0,c1,hsz,hbl⟩ hb14)
     have ni4:=ni.keep hb14
     clear hb4 hb14 n0 n1 n2 n3 n4 n5 n6 ni c0 c1
     go_wp2_with fail
     refine (rising_any F k _ _ _ ni4 t4).mono ?_
     rintro e w' ⟨rfl,rfl⟩
     go_wp2_with fail
     refine (fault_any _ _ _).mono ?_
     rintro e w5 ⟨q,rfl,hq1,hq2,hf,hbq⟩
     go_wp2_with fail
     go_ret
     exact⟨Or.inr ⟨_,_,q,rfl,by omega,H6.out,by have:=hown4.out.sz;omega,hq2,hf⟩,hown4.out.bl.trans (hbq.mono (by have:=hown4.out.sz;omega))⟩
   ·have s2:=okNodeB_f hok
    have H6:Hid (ChkIs F 2 k):=Hid.mk (Or.inr (Or.inl ⟨rfl,⟨t1,t2,t3,t4⟩,k,h1,rfl,HP.out,hok⟩))
    clear hok
    go_wp2_with fail
    refine (bounded_any F k _ _).mono ?_
    rintro e w4 ⟨rfl,hb4⟩
    have hb14:Below w1.heap.size w1 w4:=(hkb.out _).trans (hb4.mono (by simp))
    have hown4:=Hid.mk (Own2.keep ⟨c0,c1,hsz,hbl⟩ hb14)
    clear hb4 hb14 n0 n1 n2 n3 n4 n5 n6 ni c0 c1
    go_wp2_with fail
    refine (fault_any _ _ _).mono ?_
    rintro e w5 ⟨q,rfl,hq1,hq2,hf,hbq⟩
    go_wp2_with fail
    go_ret
    exact⟨Or.inr ⟨_,_,q,rfl,by omega,H6.out,by have:=hown4.out.sz;omega,hq2,hf⟩,hown4.out.bl.trans (hbq.mono (by have:=hown4.out.sz;omega))⟩
  ·obtain rfl:k=F.n:=by omega
   go_wp2_with fail
   refine (circling_any F b o cap Aa Ac _ t3 t4 (by omega) (HTT.out.keep hg hbl) (by omega) (fun j hj=>(HP.out j hj).2) (fun i hi=>(HC.out i hi).keep hb hbl)).mono ?_
   rintro e w4 ⟨hcase,hb4⟩
   rcases hcase with⟨j,rfl,hj1,hj2,hj3⟩ | ⟨j,rfl,hj1⟩
   ·have H6:Hid (ChkIs F 4 j):=Hid.mk (Or.inr (Or.inr (Or.inr (Or.inl ⟨rfl,⟨t1,t2,t3,t4⟩,HP.out,j,hj1,rfl,hj2,hj3⟩))))
    have hown4:=Hid.mk (Own2.keep ⟨c0,c1,hsz,hbl⟩ hb4)
    clear hj2 hj3 hb4 c0 c1
    go_wp2_with fail
    refine (fault_any _ _ _).mono ?_
    rintro e w5 ⟨q,rfl,hq1,hq2,hf,hbq⟩
    go_wp2_with fail
    go_ret
    exact⟨Or.inr ⟨_,_,q,rfl,by omega,H6.out,by have:=hown4.out.sz;omega,hq2,hf⟩,hown4.out.bl.trans (hbq.mono (by have:=hown4.out.sz;omega))⟩
   ·have H6:Hid (ChkIs F 0 (-1)):=Hid.mk (Or.inr (Or.inr (Or.inr (Or.inr ⟨rfl,rfl,⟨t1,t2,t3,t4⟩,HP.out,hj1⟩))))
    have hown4:=Hid.mk (Own2.keep ⟨c0,c1,hsz,hbl⟩ hb4)
    clear hj1 hb4 c0 c1
    go_wp2_with fail
    go_ret
    exact⟨Or.inl ⟨rfl,H6.out⟩,hown4.out.bl⟩
theorem ChkIs.good {F:FlowD}{a:Int}(h:ChkIs F 0 a):∀j,j<F.n->OkNode F j/\OkEdges F j:=by
 rcases h with⟨h,_⟩ | ⟨h,_⟩ | ⟨h,_⟩ | ⟨h,_⟩ | ⟨_,_,_,h,_⟩
 ·cases h
 ·cases h
 ·cases h
 ·cases h
 ·exact h
theorem info3:(Tryz.prog.info? 3).map (fun i=>(i.zero,i.size,i.bytes))=some (some (.int .i64 0),1,8):=by kernel_rfl
theorem info27:(Tryz.prog.info? 34).map (fun i=>(i.zero,i.size,i.bytes))=some (some (.agg #[.int .i64 0, .int .i64 0, .int .i64 0, .int .i64 0, .int .i64 0, .int .i64 0, .slice none 0 0]),7,72):=by kernel_rfl
theorem news7 (W:World)(N:Nat)(l:List Value)(t:TypeId)(hN:N=W.heap.size)(j:Nat)(u:Value)(h:l[j]? =some u):(W.alloc (.cells l.toArray t)).cell? ((⟨N,0,none⟩:Addr).add j)=some u:=by
 subst hN
 have:=Zai (heap_alloc_new W (.cells l.toArray t)) (0+j)
 rw [Zb5,this,<-h,Nat.zero_add]
 simp
theorem ones7 (F:FlowD)(k:Nat)(a:Option Addr)(c:Nat):∀u∈nodeL F k a c,u.oneCell'=true:=by
 intro u hu
 simp only [nodeL,List.mem_cons,List.not_mem_nil,or_false] at hu
 rcases hu with rfl | rfl | rfl | rfl | rfl | rfl | rfl<;>rfl
set_option maxHeartbeats 1000000 in
theorem copied_none (F:FlowD)(a:Option Addr)(cap:Nat)(w:World)(hn:F.n=0) :
  Calls Tryz.prog 24 #[flV F.dl (.slice a F.n cap)] w fun e w'=>e= .returned (flV F.dl (.slice none 0 0))/\Below w.heap.size w w':=by
 rw [hn]
 clear hn
 go_enter Tryz.func24,Tryz.ntmps24
 go_wp2_with fail
 go_loop [3,9] (fun l k=>l= .slice none 0 0/\k= .int .i64 0) (fun _ _=>0)
 case atStart=>exact⟨rfl,rfl⟩
 case round =>
  obtain⟨rfl,rfl⟩:=hrel
  go_wp2_with fail
  exact bodyPost_ret (v:= .agg #[.int .i64 F.dl, .slice none 0 0]) (by simp [results,Tryz.results24,go_sem]) rfl ⟨rfl,((Below.refl _ _).alloc (Nat.le_refl _) _).alloc (by simp) _⟩
set_option maxHeartbeats 4000000 in
theorem copied_some (F:FlowD)(b o cap:Nat)(Aa:Nat->Option Addr)(Ac:Nat->Nat)(w:World)(hb:b<w.heap.size)(hsz:F.n * 72<=140737488355328)
  (hnil:∀i,i<F.n->Aa i=none->Ac i=0) (hsz2:∀i,i<F.n->F.an i * 8<=140737488355328) (hc:∀i,i<F.n->NodeAt w F i b (o+i * 7) (Aa i) (Ac i)) :
  Calls Tryz.prog 24 #[flV F.dl (.slice (some ⟨b,o,none⟩) F.n cap)] w fun e w'=>∃(lv:Value) (Na:Nat->Option Addr) (Nc:Nat->Nat),e= .returned (flV F.dl lv)/\CopyAt (w.heap.size+2) w' F lv F.n Na Nc/\Below w.heap.size w w':=by
 obtain⟨i3,hi3,hz30,hz31,hz32⟩:=info_parts info3
 obtain⟨i27,hi27,hz270,hz271,hz272⟩:=info_parts info27
 have HC:=Hid.mk hc
 have HN:=Hid.mk hnil
 have HS2:=Hid.mk hsz2
 have HI3:=Hid.mk (And.intro hi3 (And.intro hz30 (And.intro hz31 hz32)))
 have HI27:=Hid.mk (And.intro hi27 (And.intro hz270 (And.intro hz271 hz272)))
 clear hc hnil hsz2 hi3 hz30 hz31 hz32 hi27 hz270 hz271 hz272
 go_enter Tryz.func24,Tryz.ntmps24
 go_wp2_with fail
 go_loopw [3,9] (fun lv iv wx=>∃(k:Nat) (la:Option Addr) (lc:Nat) (Na:Nat->Option Addr) (Nc:Nat->Nat),k<=F.n/\iv= .int .i64 k/\lv= .slice la k lc/\CopyAt (w.heap.size+2) wx F (.slice la k lc) k Na Nc/\Own4 w wx F (some ⟨b,o,none⟩) cap) (fun _ iv _=>F.n - (intOf iv).toNat)
 case atStart=>exact⟨0,none,0,fun _=>none,fun _=>0,by omega,rfl,rfl,⟨World.ownsRow_nil _ _ _ _,fun i hi=>by omega⟩,Own4.start _ _ _ _⟩
 case round =>
  obtain⟨k,la,lc,Na,Nc,hk,rfl,rfl,hcopy,hown⟩:=hrel
  rename World=>w1
  have HCOPY:=Hid.mk hcopy
  have HOWN:=Hid.mk hown
  have hszz:=hown.sz
  by_cases h1:k<F.n
  ·obtain⟨n0,n1,n2,n3,n4,n5,n6,ni⟩:=(HC.out k h1).keep hb hown.bl
   have hs2:=HS2.out k h1
   have hmx:F.an k<=9223372036854775807:=by omega
   clear hcopy hown
   cases ha:Aa k with
   | none =>
    have h0:F.an k=0:=by
     rcases ni with h0 | ⟨ab,ao,hA,_⟩
     ·exact h0
     ·rw [ha] at hA;cases hA
    have hc0:=HN.out k h1 ha
    rw [ha,h0,hc0] at n6
    have hO1:Hid (∀o1 o2,((w1.alloc o1).alloc o2).ownsRow (w.heap.size+2) 34 7 (.slice la k lc) k (Zca F Na Nc k)):=Hid.mk fun o1 o2=>(HCOPY.out.own.alloc _).alloc _
    have hO2:Hid (∀o1 o2,((w1.alloc o1).alloc o2).ownsRow (w.heap.size+2) 3 1 (.slice none (F.an k) 0) (F.an k) (Zc5 (F.an k) (F.af k))):=Hid.mk fun o1 o2=>by
     rw [h0]
     exact World.ownsRow_nil _ _ _ _
    have hO3:Hid (∀o1 o2,Below w1.heap.size w1 ((w1.alloc o1).alloc o2)):=Hid.mk fun o1 o2=>((Below.refl _ _).alloc (Nat.le_refl _) _).alloc (by simp) _
    have hN0:Hid (nodeL F k none 0=[.int .i64 (F.bu k), .int .i64 (F.cl k), .int .i64 (F.be k), .int .i64 (F.ba k), .int .i64 (F.ca k), .int .i64 (F.ji k), .slice none 0 0]):=Hid.mk (by simp [nodeL,h0])
    have hones:Hid (∀u∈[.int .i64 (F.bu k), .int .i64 (F.cl k), .int .i64 (F.be k), .int .i64 (F.ba k), .int .i64 (F.ca k), .int .i64 (F.ji k),Value.slice none 0 0],u.oneCell'=true):=Hid.mk (by rw [<-hN0.out];exact ones7 _ _ _ _)
    clear ni ha h0 hc0
    go_wp2_with (first
     | (at_builtin;refine wpList_append_own_none rfl (.const (.slice none 0 0)) (.tmp 14) 22 rfl (w.heap.size+2) 3 i3 1 Tryz.underlying22 HI3.out.1 (.slice none 0 0) 0 [] rfl (World.ownsRow_nil _ _ _ _) rfl ?_)
     | (at_builtin;refine wpList_append_own _ rfl (.tmp 17) (.tmp 19) 29 rfl (w.heap.size+2) 34 i27 (.agg #[.int .i64 0, .int .i64 0, .int .i64 0, .int .i64 0, .int .i64 0, .int .i64 0, .slice none 0 0]) 7 72 Tryz.underlying29 HI27.out.1 HI27.out.2.1 HI27.out.2.2.1 HI27.out.2.2.2 rfl (by decide) (.slice la k lc) k (Zca F Na Nc k) rfl (hO1.out _ _) ⟨w1.heap.size+1,0,none⟩ 1 1 [.int .i64 (F.bu k), .int .i64 (F.cl k), .int .i64 (F.be k), .int .i64 (F.ba k), .int .i64 (F.ca k), .int .i64 (F.ji k), .slice none 0 0] rfl rfl (news7 _ _ _ _ (by simp)) hones.out (by unfold maxLen;omega) (by omega) (by simp;omega) ?_;intro v2 w3 hown2 hgrow2 hiff;clear hiff;rw [<-hN0.out] at hown2;obtain⟨la',lc',Na',Nc',rfl,hC,hO⟩:=copy_step2 HCOPY.out HOWN.out (hO2.out _ _) (hO3.out _ _) hown2 hgrow2;have HC':=Hid.mk hC;have HO':=Hid.mk hO;clear hC hO hown2 hgrow2 n0 n1 n2 n3 n4 n5 n6))
    go_roundw
    case rel=>exact⟨k+1,la',lc',Na',Nc',by omega,by go_num,rfl,HC'.out,HO'.out⟩
    case measure=>simp [intOf];omega
   | some ad =>
    rw [ha] at n6 ni
    have hnews:Hid (∀(ob:Obj) (j:Nat) (u:Value),(Zc5 (F.an k) (F.af k))[j]? =some u->(w1.alloc ob).cell? (ad.add j)=some u):=Hid.mk fun ob j u hj=>by
     have hjl:j<F.an k:=by
      have:=(List.getElem?_eq_some_iff.1 hj).1
      rwa [intsL_length] at this
     rcases ni with h0 | ⟨ab,ao,hA,_,_,hab,hcell⟩
     ·omega
     ·obtain rfl:ad=⟨ab,ao,none⟩:=by simpa using hA
      rw [intsL_at _ _ _ hjl] at hj
      rw [<-hj]
      rw [Zb5]
      exact cell_later ((Below.refl _ _).alloc (Nat.le_refl _) _) (hcell j hjl)
    have hones:Hid (∀u∈Zc5 (F.an k) (F.af k),u.oneCell'=true):=Hid.mk fun u hu=>by
     simp only [Zc5,List.mem_map] at hu
     obtain⟨x,_,rfl⟩:=hu
     rfl
    clear ni ha
    go_wp2_with (first
     | (at_builtin;refine wpList_append_own _ rfl (.const (.slice none 0 0)) (.tmp 14) 22 rfl (w.heap.size+2) 3 i3 (.int .i64 0) 1 8 Tryz.underlying22 HI3.out.1 HI3.out.2.1 HI3.out.2.2.1 HI3.out.2.2.2 rfl (by decide) (.slice none 0 0) 0 [] rfl (World.ownsRow_nil _ _ _ _) ad (F.an k) (Ac k) (Zc5 (F.an k) (F.af k)) rfl (by rw [intsL_length];omega) (hnews.out _) hones.out (by unfold maxLen;omega) (by omega) (by simp;omega) ?_;intro v1 w2 hown1 hgrow1 hiff;clear hiff;obtain⟨na,nc,rfl,hs12,hblk,hO1,hO2,hO3⟩:=copy_step1 HCOPY.out hown1 hgrow1;have m0:=Zai hblk 0;have m1:=Zai hblk 1;have m2:=Zai hblk 2;have m3:=Zai hblk 3;have m4:=Zai hblk 4;have m5:=Zai hblk 5;have m6:=Zai hblk 6;have f6:=Zdr hblk 6;have HO1:=Hid.mk hO1;have HO2:=Hid.mk hO2;have HO3:=Hid.mk hO3;clear hO1 hO2 hO3 hown1 hgrow1 hblk n0 n1 n2 n3 n4 n5 n6)
     | (at_builtin;refine wpList_append_own _ rfl (.tmp 17) (.tmp 19) 29 rfl (w.heap.size+2) 34 i27 (.agg #[.int .i64 0, .int .i64 0, .int .i64 0, .int .i64 0, .int .i64 0, .int .i64 0, .slice none 0 0]) 7 72 Tryz.underlying29 HI27.out.1 HI27.out.2.1 HI27.out.2.2.1 HI27.out.2.2.2 rfl (by decide) (.slice la k lc) k (Zca F Na Nc k) rfl (HO1.out _ _) ⟨w2.heap.size,0,none⟩ 1 1 (nodeL F k na nc) rfl rfl (news7 _ _ _ _ (by simp [World.setCell])) (ones7 _ _ _ _) (by unfold maxLen;omega) (by omega) (by simp [World.setCell];omega) ?_;intro v2 w3 hown2 hgrow2 hiff;clear hiff;obtain⟨la',lc',Na',Nc',rfl,hC,hO⟩:=copy_step2 HCOPY.out HOWN.out (HO2.out _ _) (HO3.out _ _) hown2 hgrow2;have HC':=Hid.mk hC;have HO':=Hid.mk hO;clear hC hO hown2 hgrow2 m0 m1 m2 m3 m4 m5 m6 f6))
    go_roundw
    case rel=>exact⟨k+1,la',lc',Na',Nc',by omega,by go_num,rfl,HC'.out,HO'.out⟩
    case measure=>simp [intOf];omega
  ·obtain rfl:k=F.n:=by omega
   have a0:=Zai hown.bA 0
   have a1:=Zai hown.bA 1
   have fa1:=Zdr hown.bA 1
   have r0:=Zai hown.bB 0
   have r1:=Zai hown.bB 1
   have fr0:=Zdr hown.bB 0
   have fr1:=Zdr hown.bB 1
   clear hcopy hown
   go_wp2_with fail
   have hsz4:=HOWN.out.sz
   have hC3:CopyAt (w.heap.size+2) (((w1.setCell ⟨w.heap.size,1,none⟩ (.slice la F.n lc)).setCell ⟨w.heap.size+1,0,none⟩ (.int .i64 F.dl)).setCell ⟨w.heap.size+1,1,none⟩ (.slice la F.n lc)) F (.slice la F.n lc) F.n Na Nc :=
    ⟨ownsRow_setCell_below (ownsRow_setCell_below (ownsRow_setCell_below HCOPY.out.own (by simp) _) (by simp) _) (by simp) _,
     fun i hi=>ownsRow_setCell_below (ownsRow_setCell_below (ownsRow_setCell_below (HCOPY.out.aft i hi) (by simp) _) (by simp) _) (by simp) _⟩
   exact bodyPost_ret (v:= .agg #[.int .i64 F.dl, .slice la F.n lc]) (by simp [results,Tryz.results24,go_sem,r0,r1]) rfl ⟨_,_,_,rfl,hC3,((HOWN.out.bl.setCell (by simp) _).setCell (by simp) _).setCell (by simp) _⟩
end Go.Proofs.YtgdcjccbdmcebabGreatDoor
