import Derived.Test.YtgdcjccbdmcebabGreatDoorM04
import Derived.Recover
set_option linter.unusedSimpArgs false
set_option linter.unusedVariables false
namespace Go.Proofs.YtgdcjccbdmcebabGreatDoor
open Go.RowKit
set_option maxRecDepth 100000
def Zax (n lo hi:Int):Bool:=decide (lo<=n/\n<=hi)
theorem Zce {n lo hi:Int}(h:lo<=n)(h2:n<=hi):Zax n lo hi=true:=decide_eq_true ⟨h,h2⟩
theorem withinB_f {n lo hi:Int}(h:n<lo\/hi<n):Zax n lo hi=false:=decide_eq_false (by omega)
theorem within_b (n lo hi:Int)(w:World) :
  Calls Tryz.prog 121 #[.int .i64 n, .int .i64 lo, .int .i64 hi] w fun e w'=>e= .returned (.bool (Zax n lo hi))/\w'=w:=within_any n lo hi w
open Classical in
noncomputable def okNodeB (F:FlowD)(i:Nat):Bool:=decide (OkNode F i)
open Classical in
noncomputable def okEdgesB (F:FlowD)(i:Nat):Bool:=decide (OkEdges F i)
theorem okNodeB_t {F:FlowD}{i:Nat}(h:OkNode F i):okNodeB F i=true:=by unfold okNodeB;exact @decide_eq_true _ (Classical.propDecidable _) h
theorem okNodeB_f {F:FlowD}{i:Nat}(h:¬OkNode F i):okNodeB F i=false:=by unfold okNodeB;exact @decide_eq_false _ (Classical.propDecidable _) h
theorem okEdgesB_t {F:FlowD}{i:Nat}(h:OkEdges F i):okEdgesB F i=true:=by unfold okEdgesB;exact @decide_eq_true _ (Classical.propDecidable _) h
theorem okEdgesB_f {F:FlowD}{i:Nat}(h:¬OkEdges F i):okEdgesB F i=false:=by unfold okEdgesB;exact @decide_eq_false _ (Classical.propDecidable _) h
set_option maxHeartbeats 2000000 in
theorem bounded_any (F:FlowD)(i:Nat)(af:Value)(w:World) :
  Calls Tryz.prog 123 #[ndV (F.bu i) (F.cl i) (F.be i) (F.ba i) (F.ca i) (F.ji i) af] w fun e w'=>e= .returned (.bool (okNodeB F i))/\Below w.heap.size w w':=by
 by_cases hok:OkNode F i
 ·obtain⟨a1,a2,b1,b2,d1,d2,e1,e2,f1,f2,g1,g2⟩:=hok
  have s0:=Zce a1 a2
  have s1:=Zce b1 b2
  have s2:=Zce d1 d2
  have s3:=Zce e1 e2
  have s4:=Zce f1 f2
  have s5:=Zce g1 g2
  have H:=Hid.mk (show OkNode F i from⟨a1,a2,b1,b2,d1,d2,e1,e2,f1,f2,g1,g2⟩)
  go_enter Tryz.func123,Tryz.ntmps123
  go_wp2_with (go_at_call 121;refine (within_b _ _ _ _).mono ?_;rintro e w' ⟨rfl,rfl⟩)
  go_ret
  exact⟨rb (okNodeB_t H.out).symm,(Below.refl _ _).alloc (Nat.le_refl _) _⟩
 ·have hcs:(Zax (F.bu i) 1 5=false)\/(Zax (F.bu i) 1 5=true/\Zax (F.cl i) 1 1048576=false)\/(Zax (F.bu i) 1 5=true/\Zax (F.cl i) 1 1048576=true/\Zax (F.be i) 0 1048576=false)
     \/ (Zax (F.bu i) 1 5=true/\Zax (F.cl i) 1 1048576=true/\Zax (F.be i) 0 1048576=true/\Zax (F.ba i) 1 1048576=false)
     \/ (Zax (F.bu i) 1 5=true/\Zax (F.cl i) 1 1048576=true/\Zax (F.be i) 0 1048576=true/\Zax (F.ba i) 1 1048576=true/\Zax (F.ca i) (F.ba i) 1048576=false)
     \/ (Zax (F.bu i) 1 5=true/\Zax (F.cl i) 1 1048576=true/\Zax (F.be i) 0 1048576=true/\Zax (F.ba i) 1 1048576=true/\Zax (F.ca i) (F.ba i) 1048576=true/\Zax (F.ji i) 0 1048576=false):=by
   apply Classical.byContradiction
   intro hno
   apply hok
   unfold Zax at hno
   simp only [decide_eq_true_eq,decide_eq_false_iff_not] at hno
   constructor<;>omega
  have H:=Hid.mk hok
  clear hok
  rcases hcs with q1 | ⟨q1,q2⟩ | ⟨q1,q2,q3⟩ | ⟨q1,q2,q3,q4⟩ | ⟨q1,q2,q3,q4,q5⟩ | ⟨q1,q2,q3,q4,q5,q6⟩
  all_goals
   go_enter Tryz.func123,Tryz.ntmps123
   go_wp2_with (go_at_call 121;refine (within_b _ _ _ _).mono ?_;rintro e w' ⟨rfl,rfl⟩)
   go_ret
   exact⟨rb (okNodeB_f H.out).symm,(Below.refl _ _).alloc (Nat.le_refl _) _⟩
set_option maxHeartbeats 2000000 in
theorem rising_any (F:FlowD)(i:Nat)(a:Option Addr)(c:Nat)(w:World)(hi:IntsAt w a (F.an i) c (F.af i))(hn:F.n<=12) :
  Calls Tryz.prog 124 #[.slice a (F.an i) c, .int .i64 F.n] w fun e w'=>e= .returned (.bool (okEdgesB F i))/\w'=w:=by
 rcases hi with h0 | ⟨ab,ao,rfl,hcap,hcap2,hab,hcell⟩
 ·have H:Hid (OkEdges F i):=Hid.mk fun k hk=>by omega
  have h0':((F.an i:Nat):Int)<=0:=by omega
  clear h0
  go_enter Tryz.func124,Tryz.ntmps124
  go_wp2_with fail
  go_loop [5,10] (fun l k=>k= .int .i64 0/\l= .int .i64 (-1)) (fun _ _=>0)
  case atStart=>exact⟨rfl,rfl⟩
  case round =>
   obtain⟨rfl,rfl⟩:=hrel
   go_wp2_with fail
   go_ret
   exact⟨rb (okEdgesB_t H.out).symm,rfl⟩
 ·unfold maxLen at hcap2
  go_enter Tryz.func124,Tryz.ntmps124
  go_wp2_with fail
  go_loop [5,10] (fun l k=>∃(m:Nat) (x:Int),m<=F.an i/\k= .int .i64 m/\l= .int .i64 x/\(∀j,j<m->OkEdge F i j)/\ -1<=x/\x<F.n/\(m=0->x= -1)/\(∀p,m=p+1->x=F.af i p)) (fun _ k=>F.an i - (intOf k).toNat)
  case atStart=>exact⟨0,-1,by omega,rfl,rfl,fun j hj=>by omega,by omega,by omega,fun _=>rfl,fun p hp=>by omega⟩
  case round =>
   obtain⟨m,x,hm,rfl,rfl,hpre,hx1,hx2,hx3,hx4⟩:=hrel
   have HP:=Hid.mk hpre
   have H3:=Hid.mk hx3
   have H4:=Hid.mk hx4
   clear hpre hx3 hx4
   by_cases hlt:m<F.an i
   ·have y0:=hcell m hlt
    by_cases hok:OkEdge F i m
    ·have hb:x+1<=F.af i m/\F.af i m<=(F.n:Int) - 1:=by
      obtain⟨q1,q2,q3⟩:=hok
      refine⟨?_,by omega⟩
      cases m with
      | zero=>have:=H3.out rfl;omega
      | succ p=>have:=H4.out p rfl;have:=q3 (by omega);simp at this;omega
     have s0:=Zce hb.1 hb.2
     have H5:Hid (∀j,j<m+1->OkEdge F i j):=Hid.mk fun j hj=>by
      by_cases hj2:j<m
      ·exact HP.out j hj2
      ·obtain rfl:j=m:=by omega
       exact hok
     have hb1:0<=F.af i m:=hok.1
     have hb2:F.af i m<F.n:=hok.2.1
     clear hb hok
     go_wp2_with (go_at_call 121;refine (within_b _ _ _ _).mono ?_;rintro e w' ⟨rfl,rfl⟩)
     go_round
     case rel=>exact⟨m+1,F.af i m,by omega,by go_num,rfl,H5.out,by omega,by omega,by omega,fun p hp=>(congrArg (F.af i) (show m=p by omega))⟩
     case measure=>simp [intOf];omega
    ·have hb:F.af i m<x+1\/(F.n:Int) - 1<F.af i m:=by
      apply Classical.byContradiction
      intro hno
      apply hok
      refine⟨by omega,by omega,fun hp=> ?_⟩
      obtain⟨p,rfl⟩:∃p,m=p+1:=⟨m - 1,by omega⟩
      have:=H4.out p rfl
      simp
      omega
     have s0:=withinB_f hb
     have H5:Hid (¬OkEdges F i):=Hid.mk fun h=>hok (h m hlt)
     clear hb hok
     go_wp2_with (go_at_call 121;refine (within_b _ _ _ _).mono ?_;rintro e w' ⟨rfl,rfl⟩)
     go_ret
     exact⟨rb (okEdgesB_f H5.out).symm,rfl⟩
   ·have H5:Hid (OkEdges F i):=Hid.mk fun j hj=>HP.out j (by omega)
    go_wp2_with fail
    go_ret
    exact⟨rb (okEdgesB_t H5.out).symm,rfl⟩
def FaultAt (w:World)(q:Nat)(x y:Int):Prop:=w.cell? ⟨q,0,none⟩=some (.int .i64 x)/\w.cell? ⟨q,1,none⟩=some (.int .i64 y)
theorem faultAt_new (w:World)(x y:Int)(t:TypeId):FaultAt (w.alloc (.cells #[.int .i64 x, .int .i64 y] t)) w.heap.size x y:=⟨by simp,by simp⟩
theorem FaultAt.keep {w w':World}{q:Nat}{x y:Int}(h:FaultAt w q x y)(hq:q<w.heap.size)(hb:Below w.heap.size w w'):FaultAt w' q x y :=
 ⟨(hb.cell (p:=⟨q,0,none⟩) hq).trans h.1,(hb.cell (p:=⟨q,1,none⟩) hq).trans h.2⟩
set_option maxHeartbeats 400000 in
theorem fault_any (x y:Int)(w:World) :
  Calls Tryz.prog 122 #[.int .i64 x, .int .i64 y] w fun r w'=>∃q:Nat,r= .returned (.iface 105 (.pointer (some ⟨q,0,none⟩)))/\w.heap.size<=q/\q<w'.heap.size/\FaultAt w' q x y/\Below w.heap.size w w':=by
 go_enter Tryz.func122,Tryz.ntmps122
 go_wp2
 go_ret
 exact⟨_,rfl,Nat.le_refl _,by simp,faultAt_new _ _ _ _,(Below.refl _ _).alloc (Nat.le_refl _) _⟩
end Go.Proofs.YtgdcjccbdmcebabGreatDoor
namespace Go.Proofs.YtgdcjccbdmcebabGreatDoor
open Go.RowKit
set_option maxRecDepth 100000
def Zd2 (p i:Nat):Bool:= !p.testBit i
theorem leftB_eq (p i:Nat)(hp:p<4096):(bits BinOp.and IntKind.u64 ((p:Int) / 2 ^ i) 1 == 0)=Zd2 p i:=by
 have e1:((p:Int) / 2 ^ i)=((p / 2 ^ i:Nat):Int):=by simp
 have h2:p / 2 ^ i<18446744073709551616:=by have:=Nat.div_le_self p (2 ^ i);omega
 rw [e1,show (1:Int)=((1:Nat):Int) from rfl,bits_and_u64_nat _ _ h2 (by decide),Nat.and_one_is_mod]
 unfold Zd2
 rw [Nat.testBit_eq_decide_div_mod_eq]
 have h3:p / 2 ^ i % 2=0\/p / 2 ^ i % 2=1:=by omega
 rcases h3 with h3 | h3<;>simp [h3]
set_option maxHeartbeats 400000 in
theorem left_any (p:Nat)(i:Int)(pb:Nat)(w:World)(hi0:0<=i)(hi:i<12)(hp:p<4096)(hc:w.cell? ⟨pb,0,none⟩=some (.int .u64 p)) :
  Calls Tryz.prog 187 #[.int .i64 i, .pointer (some ⟨pb,0,none⟩)] w fun e w'=>e= .returned (.bool (Zd2 p i.toNat))/\w'=w:=by
 obtain⟨j,rfl⟩:=Int.eq_ofNat_of_zero_le hi0
 go_enter Tryz.func187,Tryz.ntmps187
 go_wp2
 go_ret
 exact⟨rb (leftB_eq p j hp),rfl⟩
noncomputable def anyB (p n:Nat)(f:Nat->Int):Bool:=@decide (∃k,k<n/\Zd2 p (f k).toNat=true) (Classical.propDecidable _)
theorem anyB_t {p n:Nat}{f:Nat->Int}(k:Nat)(hk:k<n)(h:Zd2 p (f k).toNat=true):anyB p n f=true:=@decide_eq_true (∃k,k<n/\Zd2 p (f k).toNat=true) (Classical.propDecidable _) ⟨k,hk,h⟩
theorem anyB_f {p n:Nat}{f:Nat->Int}(h:∀k,k<n->Zd2 p (f k).toNat=false):anyB p n f=false :=
 @decide_eq_false (∃k,k<n/\Zd2 p (f k).toNat=true) (Classical.propDecidable _) (fun ⟨k,hk,h2⟩=>by rw [h k hk] at h2;cases h2)
theorem anyB_inv {p n:Nat}{f:Nat->Int}(h:anyB p n f=false):∀k,k<n->Zd2 p (f k).toNat=false:=by
 intro k hk
 cases hl:Zd2 p (f k).toNat with
 | false=>rfl
 | true=>rw [anyB_t k hk hl] at h;cases h
set_option maxHeartbeats 400000 in
theorem index_any (p pb n cap:Nat)(a:Option Addr)(f:Nat->Int)(w:World)(hp:p<4096)(hc:w.cell? ⟨pb,0,none⟩=some (.int .u64 p))(hi:IntsAt w a n cap f)(hf:∀k,k<n->0<=f k/\f k<12) :
  Calls Tryz.prog 216 #[.slice a n cap, .func (.func 187) #[] #[.pointer (some ⟨pb,0,none⟩)]] w fun e w'=>∃r:Int,e= .returned (.int .i64 r)/\((0<=r/\anyB p n f=true)\/(r<0/\anyB p n f=false))/\w'=w:=by
 rcases hi with h0 | ⟨ab,ao,rfl,hcap,hcap2,hab,hcell⟩
 ·subst h0
  have H:Hid (anyB p 0 f=false):=Hid.mk (anyB_f fun k hk=>by omega)
  go_enter Tryz.func216,Tryz.ntmps216
  go_wp2_with fail
  go_loop [8] (fun k=>k= .int .i64 0) (fun _=>0)
  case atStart=>rfl
  case round =>
   obtain rfl:=hrel
   go_wp2_with fail
   go_ret
   exact⟨-1,rfl,Or.inr ⟨by omega,H.out⟩,rfl⟩
 ·unfold maxLen at hcap2
  go_enter Tryz.func216,Tryz.ntmps216
  go_wp2_with fail
  go_loop [8] (fun k=>∃m:Nat,m<=n/\k= .int .i64 m/\(∀j,j<m->Zd2 p (f j).toNat=false)) (fun k=>n - (intOf k).toNat)
  case atStart=>exact⟨0,by omega,rfl,fun j hj=>by omega⟩
  case round =>
   obtain⟨m,hm,rfl,hpre⟩:=hrel
   have HP:=Hid.mk hpre
   clear hpre
   by_cases hlt:m<n
   ·have y0:=hcell m hlt
    obtain⟨y1,y2⟩:=hf m hlt
    cases hl:Zd2 p (f m).toNat with
    | true =>
     have H:Hid (anyB p n f=true):=Hid.mk (anyB_t m hlt hl)
     go_wp2_with (go_at_call 187;refine (left_any p _ pb _ (by assumption) (by assumption) hp hc).mono ?_;rintro e w' ⟨rfl,rfl⟩)
     go_ret
     exact⟨m,rfl,Or.inl ⟨by omega,H.out⟩,rfl⟩
    | false =>
     have H:Hid (∀j,j<m+1->Zd2 p (f j).toNat=false):=Hid.mk fun j hj=>by
      by_cases hj2:j<m
      ·exact HP.out j hj2
      ·obtain rfl:j=m:=by omega
       exact hl
     go_wp2_with (go_at_call 187;refine (left_any p _ pb _ (by assumption) (by assumption) hp hc).mono ?_;rintro e w' ⟨rfl,rfl⟩)
     go_round
     case rel=>exact⟨m+1,by omega,by go_num,H.out⟩
     case measure=>simp [intOf];omega
   ·have H:Hid (anyB p n f=false):=Hid.mk (anyB_f fun k hk=>HP.out k (by omega))
    go_wp2_with fail
    go_ret
    exact⟨-1,rfl,Or.inr ⟨by omega,H.out⟩,rfl⟩
set_option maxHeartbeats 400000 in
theorem contains_any (p pb n cap:Nat)(a:Option Addr)(f:Nat->Int)(w:World)(hp:p<4096)(hc:w.cell? ⟨pb,0,none⟩=some (.int .u64 p))(hi:IntsAt w a n cap f)(hf:∀k,k<n->0<=f k/\f k<12) :
  Calls Tryz.prog 182 #[.slice a n cap, .func (.func 187) #[] #[.pointer (some ⟨pb,0,none⟩)]] w fun e w'=>e= .returned (.bool (anyB p n f))/\w'=w:=by
 go_enter Tryz.func182,Tryz.ntmps182
 go_wp2_with fail
 refine (index_any p pb n cap a f w hp hc hi hf).mono ?_
 rintro e w' ⟨r,rfl,hr,rfl⟩
 rcases hr with⟨h1,h2⟩ | ⟨h1,h2⟩
 ·have H:=Hid.mk h2
  clear h2
  go_wp2_with fail
  go_ret
  exact⟨rb H.out.symm,rfl⟩
 ·have H:=Hid.mk h2
  clear h2
  go_wp2_with fail
  go_ret
  exact⟨rb (by rw [H.out];exact decide_eq_false (by omega)),rfl⟩
end Go.Proofs.YtgdcjccbdmcebabGreatDoor
