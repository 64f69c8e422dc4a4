import Derived.Test.YtgdcjccbdmcebabGreatDoorM11
set_option linter.unusedSimpArgs false
set_option linter.unusedVariables false
namespace Go.Proofs.YtgdcjccbdmcebabGreatDoor
open Go.RowKit
set_option maxRecDepth 100000
attribute [local go_sem ↓] Go.wp_at_zero Go.wp_at_succ
def RnM.fell (r:RnM)(a:Nat):Bool:=(r.at_ a).st == 6||(r.at_ a).st == 7
structure BoxAt (w:World)(bx rb:Nat):Prop where
 b:w.cell? ⟨bx,0,none⟩=some (.pointer (some ⟨rb,0,none⟩))
 bl:bx<w.heap.size
theorem BoxAt.below {w w':World}{bx rb:Nat}(h:BoxAt w bx rb)(hb:Below w.heap.size w w'):BoxAt w' bx rb:=⟨(World.cell?_of_block (a:=⟨bx,0,none⟩) (hb.block bx h.bl)).trans h.b,Nat.lt_of_lt_of_le h.bl hb.size⟩
set_option maxHeartbeats 1000000 in
theorem lost_any (w:World)(B bx:Nat)(r:RnM)(k:Nat)(h:RnAt w B r)(hx:BoxAt w bx r.b)(hk:k<r.ns.length) :
  Calls Tryz.prog 192 #[.int .i64 k, .pointer (some ⟨bx,0,none⟩)] w fun e w'=>e= .returned (.bool (r.fell k))/\Below w.heap.size w w':=by
 obtain⟨⟨c0,c1,c2⟩,_⟩:=h.topC
 obtain⟨_,_,hnc,hcm,_,_⟩:=h.rowBlk
 have t7:=(h.nd hk).c7
 have b0:=hx.b
 have hk2:(k:Int)<(r.ns.length:Int):=by omega
 have h12:=h.few
 obtain⟨m,hm⟩:∃m,m=r.ns.length:=⟨_,rfl⟩
 rw [<-hm] at c2 hnc hk2 h12 hk
 obtain⟨s,hs⟩:∃s,s=(r.at_ k).st:=⟨_,rfl⟩
 rw [<-hs] at t7
 have e:r.fell k=(s == 6||s == 7):=by unfold RnM.fell;rw [<-hs]
 rw [e]
 clear e h hx c0 c1 hcm hs hm
 by_cases q6:s=6
 ·subst q6
  go_enter Tryz.func192,Tryz.ntmps192
  go_wp2_with fail
  go_ret
  exact⟨rfl,Below.refl _ _⟩
 ·have g6:(s == 6)=false:=by simpa using q6
  have g6':decide (s=6)=false:=by simpa using q6
  by_cases q7:s=7
  ·subst q7
   go_enter Tryz.func192,Tryz.ntmps192
   go_wp2_with fail
   go_ret
   exact⟨rfl,Below.refl _ _⟩
  ·have g7:(s == 7)=false:=by simpa using q7
   have g7':decide (s=7)=false:=by simpa using q7
   have HG:=Hid.mk (And.intro g6 g7)
   go_enter Tryz.func192,Tryz.ntmps192
   go_wp2_with fail
   go_ret
   exact⟨by rw [HG.out.1,HG.out.2];rfl,Below.refl _ _⟩
set_option maxHeartbeats 4000000 in
theorem idxK_any (w:World)(B bx:Nat)(r:RnM)(n:NdM)(h:RnAt w B r)(hx:BoxAt w bx r.b)(ha:AfAt w B n)(hin:n.af.length<=1000/\∀a∈n.af,0<=a/\a<r.ns.length) :
  Calls Tryz.prog 216 #[.slice n.aa n.af.length n.ac, .func (.func 192) #[] #[.pointer (some ⟨bx,0,none⟩)]] w fun e w'=>(∃x:Int,e= .returned (.int .i64 x)/\(0<=x↔n.af.any (fun a=>r.fell a.toNat)=true))/\Below w.heap.size w w':=by
 obtain⟨z,hz⟩:∃z,z=n.af.length:=⟨_,rfl⟩
 have hz1:=hin.1
 rw [<-hz] at hz1
 have H:=Hid.mk (And.intro h (And.intro hx (And.intro ha (And.intro hin hz))))
 have HB:=Hid.mk (Below.refl w.heap.size w)
 rw [<-hz]
 clear h hx hin hz
 obtain⟨A,hA⟩:∃A,A=n.aa:=⟨_,rfl⟩
 have hA2:A=none\/∃g,A=some ⟨g,0,none⟩:=by
  have h':w.ownsRow B 3 1 (.slice n.aa n.af.length n.ac) n.af.length (afV n.af):=ha
  rcases h'.2 with⟨h2,_⟩ | ⟨g,cap,cur,h2,_⟩
  ·exact Or.inl (by rw [hA];simpa using congrArg (fun v=>match v with | Value.slice x _ _=>x | _=>none) h2)
  ·exact Or.inr ⟨g,by rw [hA];simpa using congrArg (fun v=>match v with | Value.slice x _ _=>x | _=>none) h2⟩
 rw [<-hA]
 have HAA:=Hid.mk hA
 clear hA ha
 rcases hA2 with rfl | ⟨g,rfl⟩
 all_goals
  go_enter Tryz.func216,Tryz.ntmps216
  go_wp2_with fail
  go_loopw [8] (fun iv wr=>∃i:Nat,iv= .int .i64 i/\i<=z/\Below w.heap.size w wr/\∀j,j<i->r.fell (n.af.getD j 0).toNat=false) (fun iv _=>z - (intOf iv).toNat)
  case atStart=>exact⟨0,rfl,by omega,HB.out,by omega⟩
  case round =>
   obtain⟨j,rfl,hj,hbl,hno⟩:=hrel
   have HBL:=Hid.mk hbl
   have HNO:=Hid.mk hno
   clear hno hbl
   by_cases h1:j<z
   ·obtain⟨g2,haa,hcell,hac,hgl⟩:=H.out.2.2.1.cell (j:=j) (by have:=H.out.2.2.2.2;omega)
    rw [<-HAA.out] at haa
    obtain⟨ha0,ha1⟩:=H.out.2.2.2.1.2 _ (getD_in (j:=j) (by have:=H.out.2.2.2.2;omega))
    obtain⟨an,han⟩:∃an:Nat,n.af.getD j 0=(an:Int):=⟨(n.af.getD j 0).toNat,by omega⟩
    rw [han] at hcell ha1
    have hac':z<=n.ac:=by have:=H.out.2.2.2.2;omega
    cases haa
    all_goals
     have y0:=(World.cell?_of_block (a:=⟨g,j,none⟩) (HBL.out.block g hgl)).trans hcell
     have HL:=Hid.mk (lost_any wr B bx r an (H.out.1.below HBL.out) (H.out.2.1.below HBL.out) (by omega))
     have HAN:=Hid.mk han
     have j1:(j:Int)<(z:Int):=by omega
     clear hcell hac hgl ha0 ha1 han
     cases hf:r.fell an with
     | true =>
      rw [hf] at HL
      have HF:=Hid.mk hf
      clear hf
      go_wp2_with (go_at_call 192;refine HL.out.mono ?_;rintro e w3 ⟨rfl,hb3⟩;have HB3:=Hid.mk hb3;clear hb3)
      go_ret
      refine⟨⟨j,rfl,⟨fun _=> ?_,fun _=>by omega⟩⟩,HBL.out.trans' HB3.out⟩
      rw [List.any_eq_true]
      exact⟨_,getD_in (j:=j) (by have:=H.out.2.2.2.2;omega),by rw [HAN.out,Int.toNat_natCast];exact HF.out⟩
     | false =>
      rw [hf] at HL
      have HF:=Hid.mk hf
      clear hf
      go_wp2_with (go_at_call 192;refine HL.out.mono ?_;rintro e w3 ⟨rfl,hb3⟩;have HB3:=Hid.mk hb3;clear hb3)
      go_roundw
      case rel=>exact⟨j+1,by go_num,by omega,HBL.out.trans' HB3.out,fun t ht=>by
       by_cases e:t=j
       ·subst e;rw [HAN.out,Int.toNat_natCast];exact HF.out
       ·exact HNO.out t (by omega)⟩
      case measure=>simp [intOf];omega
   ·have j1:¬(j:Int)<(z:Int):=by omega
    have HJ:=Hid.mk h1
    clear h1
    go_wp2_with fail
    go_ret
    refine⟨⟨-1,rfl,⟨fun h=>absurd h (by decide),fun h=> ?_⟩⟩,HBL.out⟩
    try rw [List.any_eq_true] at h
    obtain⟨a,ha,hfa⟩:=h
    obtain⟨t,ht,rfl⟩:=List.getElem_of_mem ha
    have:=HNO.out t (by have:=HJ.out;have:=H.out.2.2.2.2;omega)
    rw [List.getD_eq_getElem?_getD,List.getElem?_eq_getElem ht] at this
    simp only [Option.getD_some] at this
    rw [this] at hfa
    cases hfa
set_option maxHeartbeats 1000000 in
theorem anyK_any (w:World)(B bx:Nat)(r:RnM)(n:NdM)(h:RnAt w B r)(hx:BoxAt w bx r.b)(ha:AfAt w B n)(hin:n.af.length<=1000/\∀a∈n.af,0<=a/\a<r.ns.length) :
  Calls Tryz.prog 182 #[.slice n.aa n.af.length n.ac, .func (.func 192) #[] #[.pointer (some ⟨bx,0,none⟩)]] w fun e w'=>e= .returned (.bool (n.af.any (fun a=>r.fell a.toNat)))/\Below w.heap.size w w':=by
 have HX:=Hid.mk (idxK_any w B bx r n h hx ha hin)
 clear h hx ha hin
 generalize n.af.length=z at *
 go_enter Tryz.func182,Tryz.ntmps182
 go_wp2_with (go_at_call 216;refine HX.out.mono ?_;rintro e w3 ⟨⟨x,rfl,hx⟩,hb3⟩;have HB3:=Hid.mk (And.intro hx hb3);clear hx hb3)
 go_ret
 refine⟨?_,HB3.out.2⟩
 have h1:=HB3.out.1
 cases hq:n.af.any (fun a=>r.fell a.toNat) with
 | true=>have:=h1.2 hq;simp [this]
 | false =>
  have:¬0<=x:=fun h=>by rw [h1.1 h] at hq;cases hq
  simp [this]
def RnM.lost (r:RnM)(k:Nat):Bool:=(r.at_ k).st == 1&&(r.at_ k).af.any (fun a=>r.fell a.toNat)
def skM (n:NdM):NdM:={ n with st:=7 }
inductive SkM:RnM->RnM->Prop
 | refl (r:RnM):SkM r r
 | step (r r2:RnM) (k:Nat):SkM r r2->k<r2.ns.length->r2.lost k=true->SkM r (r2.onNd k skM)
def RnM.shut (r:RnM):Prop:=∀k,k<r.ns.length->r.lost k=false
theorem SkM.same {a b:RnM}(h:SkM a b):b.b=a.b/\b.id=a.id/\b.st=a.st/\b.ng=a.ng/\b.nc=a.nc/\b.ns.length=a.ns.length/\∀k,k<a.ns.length->(b.at_ k).aa=(a.at_ k).aa/\(b.at_ k).ac=(a.at_ k).ac/\(b.at_ k).af=(a.at_ k).af:=by
 induction h with
 | refl=>exact⟨rfl,rfl,rfl,rfl,rfl,rfl,fun _ _=>⟨rfl,rfl,rfl⟩⟩
 | step r2 k h1 h2 h3 ih =>
  obtain⟨i1,i2,i3,i4,i5,i6,i7⟩:=ih
  refine⟨i1,i2,i3,i4,i5,by rw [RnM.onNd_len];exact i6,fun m hm=> ?_⟩
  rw [RnM.onNd_at _ _ _ _ (by omega)]
  split
  ·exact i7 m hm
  ·exact i7 m hm
theorem SkM.within {a b:RnM}(h:SkM a b)(ha:a.within):b.within:=by
 obtain⟨_,_,_,_,_,h6,h7⟩:=h.same
 intro k hk
 rw [h6] at hk ⊢
 rw [(h7 k hk).2.2]
 exact ha k hk
def RnM.waits (r:RnM):Nat:=r.ns.countP (fun n=>n.st == 1)
theorem countP_mod {p:NdM->Bool}{f:NdM->NdM}:∀(l:List NdM) (k:Nat),k<l.length->p (l.getD k .z)=true->p (f (l.getD k .z))=false->(l.modify k f).countP p+1=l.countP p
 | [],k,h,_,_=>by simp at h
 | s::l,0,_,h1,h2=>by
  simp only [List.getD_cons_zero] at h1 h2
  rw [List.modify_zero_cons,List.countP_cons_of_neg (by simp [h2]),List.countP_cons_of_pos (by simp [h1])]
 | s::l,k+1,h,h1,h2=>by
  simp only [List.getD_cons_succ] at h1 h2
  have:=countP_mod l k (by simpa using h) h1 h2
  rw [List.modify_succ_cons,List.countP_cons,List.countP_cons]
  omega
theorem RnM.waits_less {r:RnM}{k:Nat}(hk:k<r.ns.length)(h:r.lost k=true):(r.onNd k skM).waits<r.waits:=by
 have h1:(r.at_ k).st=1:=by
  unfold RnM.lost at h
  simp only [Bool.and_eq_true,beq_iff_eq] at h
  exact h.1
 have:=countP_mod (p:=fun n=>n.st == 1) (f:=skM) r.ns k hk (by show (r.at_ k).st == 1;rw [h1];rfl) rfl
 unfold RnM.waits RnM.onNd
 show (r.ns.modify k skM).countP _<_
 omega
structure AtAgain (w w':World)(B:Nat)(r r2:RnM)(n:Nat):Prop where
 sk:SkM r r2
 at_:RnAt w' B r2
 fr:RnF w w' r.b r.ng
 box:BoxAt w' w.heap.size r.b
 n_:n=r2.waits
def JumpK (w:World)(B:Nat)(r:RnM)(n:Nat)(a':Act)(w':World):Prop :=
 ∃(r2:RnM) (u3 u4 u5 u6 u7 u8 u9 u10 u11 u12 u13 u14 u15 u16 u17 u18 u19 u20 u21 u22 u23 u24 u25 u26 u27 u28 u29 u30 u31 u32 u33:Value),AtAgain w w' B r r2 n /\
  a'={ tmps:=#[.pointer (some ⟨r.b,0,none⟩), .pointer (some ⟨w.heap.size,0,none⟩), .func (.func 192) #[] #[.pointer (some ⟨w.heap.size,0,none⟩)],u3,u4,u5,u6,u7,u8,u9,u10,u11,u12,u13,u14,u15,u16,u17,u18,u19,u20,u21,u22,u23,u24,u25,u26,u27,u28,u29,u30,u31,u32,u33],defers:=[] }
set_option maxHeartbeats 8000000 in
theorem skip_any (w:World)(B:Nat)(r:RnM)(h:RnAt w B r)(hin:r.within) :
  Calls Tryz.prog 144 #[.pointer (some ⟨r.b,0,none⟩)] w fun e w'=>e= .returned (.tuple #[])/\∃r2,SkM r r2/\r2.shut/\RnAt w' B r2/\RnF w w' r.b r.ng:=by
 have hmf:∀(fn:Fn) (first cap:Array Value) (w:World),(Instr.makeFunc fn first cap).run Tryz.prog w= .ok (.func fn first cap) w:=fun _ _ _ _=>rfl
 have H:=Hid.mk h
 have HIN:=Hid.mk hin
 have h12:=h.few
 clear h hin
 go_enter Tryz.func144,Tryz.ntmps144
 go_wp2
 refine scope_jumps_ghost 0 (JumpK w B r) rfl ?_ ?_
 ·intro R HR
  have HH:=Hid.mk HR
  clear HR
  go_wp2
  go_step3
  rename_i K hK
  refine hK _ _ (HH.out r.waits _ _ ?_)
  refine⟨r,_,_,_,_,_,_,_,_,_,_,_,_,_,_,_,_,_,_,_,_,_,_,_,_,_,_,_,_,_,_,_,⟨.refl r,?_,?_,?_,rfl⟩,rfl⟩
  ·exact H.out.below ((Below.refl _ _).alloc (Nat.le_refl _) _)
  ·exact RnF.of_below _ _ ((Below.refl _ _).alloc (Nat.le_refl _) _)
  ·exact⟨by rw [World.cell?_alloc_at (hn:=rfl)];rfl,by simp⟩
 ·rintro gn a' w' ⟨r2,u3,u4,u5,u6,u7,u8,u9,u10,u11,u12,u13,u14,u15,u16,u17,u18,u19,u20,u21,u22,u23,u24,u25,u26,u27,u28,u29,u30,u31,u32,u33,hat,rfl⟩
  obtain⟨hsk,hra,hrf,hbox,rfl⟩:=hat
  have HA:=Hid.mk (And.intro hsk (And.intro hra (And.intro hrf hbox)))
  obtain⟨s1,s2,s3,s4,s5,s6,s7⟩:=hsk.same
  have b0:=hbox.b
  obtain⟨⟨c0,c1,c2⟩,_⟩:=hra.topC
  obtain⟨_,_,hnc,hcm,_,_⟩:=hra.rowBlk
  obtain⟨m,hm⟩:∃m,m=r2.ns.length:=⟨_,rfl⟩
  rw [<-hm] at c2 hnc
  rw [s1,s4] at c2
  have HM:=Hid.mk (And.intro hm s6)
  have hm12:m<=12:=by omega
  have HW2:=Hid.mk (hsk.within HIN.out)
  have HS:=Hid.mk (And.intro s1 s4)
  clear hsk hra hrf hbox s1 s2 s3 s4 s5 s6 s7 c0 c1 hcm hm
  go_wp2_with fail
  go_loopw [11] (fun iv wx=>∃i:Nat,iv= .int .i64 i/\i<=m/\RnAt wx B r2/\RnF w wx r.b r.ng/\BoxAt wx w.heap.size r.b/\∀j,j<i->r2.lost j=false) (fun iv _=>m - (intOf iv).toNat)
  case atStart=>exact⟨0,rfl,by omega,HA.out.2.1,HA.out.2.2.1,HA.out.2.2.2,fun j hj=>by omega⟩
  case round =>
   obtain⟨i,rfl,hi,hra,hrf,hbox,hno⟩:=hrel
   rename World=>wx
   have HR:=Hid.mk (And.intro hra (And.intro hrf (And.intro hbox hno)))
   clear b0 c2
   by_cases h1:i<m
   ·have hil:i<r2.ns.length:=by have:=HM.out.1;omega
    have hnd:=hra.nd hil
    rw [HS.out.2] at hnd
    obtain⟨t0,t1,t2,t3,t4,t5,t6,t7,t8,t9⟩:=hnd
    have HAF:=Hid.mk (hra.aft i hil)
    have HWI:=Hid.mk (HW2.out i hil)
    have hset:=hra.setNd (k:=i) (j:=7) (f:=skM) (v:= .int .i64 7) hil (by omega) rfl ⟨rfl,rfl,rfl⟩
    rw [HS.out.2] at hset
    have HSET:=Hid.mk hset
    obtain⟨n,hn⟩:∃n,n=r2.at_ i:=⟨_,rfl⟩
    have HN:=Hid.mk hn
    rw [<-hn] at t0 t1 t2 t3 t4 t5 t6 t7 t8 t9 HAF HWI
    have i1:(i:Int)<(m:Int):=by omega
    obtain⟨wa,hwa⟩:∃wa,wa=wx.alloc (.cells #[.int .i64 n.bu, .int .i64 n.cl, .int .i64 n.be, .int .i64 n.ba, .int .i64 n.ca, .int .i64 n.ji, .slice n.aa n.af.length n.ac, .int .i64 n.st, .int .i64 n.tries, .int .u64 n.tok] 189):=⟨_,rfl⟩
    have hba:Below wx.heap.size wx wa:=by rw [hwa];exact (Below.refl _ _).alloc (Nat.le_refl _) _
    have HWA:=Hid.mk (And.intro hwa hba)
    have hC:=anyK_any wa B w.heap.size r2 n (hra.below hba) (by rw [HS.out.1];exact hbox.below hba) (Zah HAF.out hba) HWI.out
    obtain⟨bb,hbb⟩:∃bb,bb=n.af.any (fun a=>r2.fell a.toNat):=⟨_,rfl⟩
    rw [<-hbb] at hC
    have HC:=Hid.mk hC
    have HBB:=Hid.mk hbb
    obtain⟨z,hz⟩:∃z,z=n.af.length:=⟨_,rfl⟩
    rw [<-hz] at t6 HC
    rw [<-hz] at hwa
    have hlx:=hra.below hba
    have hlost:r2.lost i=(n.st == 1&&bb):=by unfold RnM.lost;rw [<-hn,hbb]
    have HLO:=Hid.mk hlost
    clear hn hil hra hrf hbox hno hset hba hC hbb hz hlx hlost
    by_cases q1:n.st=1
    ·have HQ:=Hid.mk q1
     rw [q1] at t7 hwa
     clear q1
     cases bb with
     | false =>
      go_wp2_with (go_at_call 182;rw [<-hwa];refine HC.out.mono ?_;rintro e w3 ⟨rfl,hb3⟩;have HB3:=Hid.mk hb3;clear hb3)
      go_roundw
      case rel =>
       obtain⟨u1,u2,u3,u4⟩:=HR.out
       have hb:Below wx.heap.size wx w3:=HWA.out.2.trans' HB3.out
       exact⟨i+1,by go_num,by omega,u1.below hb,u2.trans (RnF.of_below _ _ hb),u3.below hb,fun j hj=>by
        by_cases e:j=i
        ·subst e;rw [HLO.out,Bool.and_false]
        ·exact u4 j (by omega)⟩
      case measure=>simp [intOf];omega
     | true =>
      go_wp2_with (go_at_call 182;rw [<-hwa];refine HC.out.mono ?_;rintro e w3 ⟨rfl,hb3⟩;have hb:=HWA.out.2.trans' hb3;have hr3:=HR.out.1.below hb;have b0:=(HR.out.2.2.1.below hb).b;have c2:=hr3.topC.1.2.2;have y7:=(hr3.nd (k:=i) (by have:=HM.out.1;omega)).c7;have f7:=hr3.froz (i * 10+7);rw [HS.out.2] at y7 f7 c2;rw [HS.out.1,<-HM.out.1] at c2;have HB3:=Hid.mk (And.intro hb hr3);clear hb3 hb hr3)
      go_step3
      have hil:i<r2.ns.length:=by have:=HM.out.1;omega
      have hlo:r2.lost i=true:=by rw [HLO.out,HQ.out];rfl
      have hset:=HB3.out.2.setNd (k:=i) (j:=7) (f:=skM) (v:= .int .i64 7) hil (by omega) rfl ⟨rfl,rfl,rfl⟩
      rw [HS.out.2] at hset
      refine⟨rfl,_,r2.waits_less hil hlo,r2.onNd i skM,_,_,_,_,_,_,_,_,_,_,_,_,_,_,_,_,_,_,_,_,_,_,_,_,_,_,_,_,_,_,_,⟨.step r r2 i HA.out.1 hil hlo,hset,?_,?_,rfl⟩,rfl⟩
      ·exact (HR.out.2.1.trans (RnF.of_below _ _ HB3.out.1)).trans (RnF.setG w3 r.b r.ng _ _)
      ·refine⟨?_,?_⟩
       ·rw [World.cell?_of_block (a:=⟨w.heap.size,0,none⟩) (Below.heap_setCell w3 _ _ _ ?_)]
        ·exact b0
        ·intro e
         have:=HA.out.2.2.2.bl
         obtain⟨cur,q1,_,_,_,q5⟩:=H.out.rowBlk
         have:w.heap.size=r.ng:=e
         omega
       ·have:=HB3.out.1.size;have:=HR.out.2.2.1.bl;simp only [World.setCell,Array.size_modify];omega
    ·have g1:(n.st == 1)=false:=by simpa using q1
     have g1':decide (n.st=1)=false:=decide_eq_false q1
     have HQ:=Hid.mk q1
     go_wp2_with fail
     go_roundw
     case rel =>
      obtain⟨u1,u2,u3,u4⟩:=HR.out
      have hb:=HWA.out.2
      rw [hwa] at hb
      exact⟨i+1,by go_num,by omega,u1.below hb,u2.trans (RnF.of_below _ _ hb),u3.below hb,fun j hj=>by
       by_cases e:j=i
       ·subst e;rw [HLO.out];simp [HQ.out]
       ·exact u4 j (by omega)⟩
     case measure=>simp [intOf];omega
   ·have e:i=m:=by omega
    have HE:=Hid.mk e
    have i1:¬(i:Int)<(m:Int):=by omega
    clear e h1
    go_wp2_with fail
    simp only [Exit.jump]
    go_end0
    obtain⟨u1,u2,u3,u4⟩:=HR.out
    exact⟨rfl,r2,HA.out.1,fun k hk=>u4 k (by have:=HE.out;have:=HM.out.1;omega),u1,u2⟩
end Go.Proofs.YtgdcjccbdmcebabGreatDoor
