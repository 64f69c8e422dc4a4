import Derived.Test.YtgdcjccbdmcebabGreatDoorM01
import Derived.Laws.Bits64b
import Derived.Shelf.Small.Bits
import Derived.Deep.Upon
import Derived.Lib.ItoaNum
set_option linter.unusedSimpArgs false
set_option linter.unusedVariables false
namespace Go.Proofs.YtgdcjccbdmcebabGreatDoor
open Go.RowKit Go.Shelf
set_option maxRecDepth 100000
def BytesAt (w:World)(a:Option Addr)(n cap:Nat)(f:Nat->Nat):Prop :=
 n=0\/(∃b o,a=some ⟨b,o,none⟩/\n<=cap/\cap<=maxLen/\b<w.heap.size/\∀k,k<n->w.cell? ⟨b,o+k,none⟩=some (.int .u8 (f k))/\f k<256)
def bl8 (x:Nat):Nat:=if x=0 then 0 else Nat.log2 x+1
theorem bl8_le (x k:Nat):bl8 x<=k↔x<2 ^ k:=by
 unfold bl8
 split
 ·rename_i h;subst h;exact⟨fun _=>Nat.two_pow_pos _,fun _=>Nat.zero_le _⟩
 ·rename_i h;exact Nat.log2_lt h
def valN (f:Nat->Nat):Nat->Nat
 | 0=>0
 | i+1=>valN f i+f i % 128 * 2 ^ (7 * i)
theorem valN_lt (f:Nat->Nat)(i:Nat):valN f i<2 ^ (7 * i):=by
 induction i with
 | zero=>simp [valN]
 | succ i ih =>
  have h1:f i % 128<128:=Nat.mod_lt _ (by decide)
  have h2:2 ^ (7 * (i+1))=128 * 2 ^ (7 * i):=by rw [Nat.mul_add,Nat.pow_add];omega
  have h3:f i % 128 * 2 ^ (7 * i)<=127 * 2 ^ (7 * i):=Nat.mul_le_mul_right _ (by omega)
  unfold valN
  omega
def EndsAt (f:Nat->Nat)(i:Nat):Prop:=(∀j,j<i->128<=f j)/\f i<128/\(i=0\/0<f i)/\7 * i+bl8 (f i)<=64
def ReadIs (f:Nat->Nat)(m:Nat)(x:Int)(k:Nat)(ok:Bool):Prop :=
 (∃i,i<m/\EndsAt f i/\x=(valN f (i+1):Int)/\k=i+1/\ok=true)\/((∀i,i<m->¬EndsAt f i)/\x=0/\k=0/\ok=false)
def lays_len8_ren:Go.Shelf.Ren:=⟨fun | 126=>220 | n=>n,fun | 3=>3 | 5=>5 | 9=>9 | n=>n,fun | n=>n⟩
theorem lays_len8:Go.Proofs.Lays.n126 Tryz.prog lays_len8_ren:={
 mixed:=by kernel_rfl
 f126:=Tryz.func220.trans (congrArg some (by kernel_rfl))
 t3:=Tryz.underlying3
 a3:=Tryz.isAgg3
 z3:=Tryz.sizeOf3
 v3:=Tryz.zeroValue3
 t5:=Tryz.underlying5
 a5:=Tryz.isAgg5
 z5:=Tryz.sizeOf5
 v5:=Tryz.zeroValue5
 t9:=Tryz.underlying9
 a9:=Tryz.isAgg9
 z9:=Tryz.sizeOf9
 v9:=Tryz.zeroValue9 }
theorem bitLen8_bl (x:Nat)(hx:x<256):Lib.bitLen x=bl8 x:=by
 by_cases h0:x=0
 ·subst h0;rfl
 ·obtain⟨h1,h2,h3⟩:=Lib.bitLenAux_bounds 64 x (by omega) h0
  have e:Lib.bitLen x=Lib.bitLenAux 64 x:=rfl
  rw [e]
  generalize Lib.bitLenAux 64 x=L at *
  apply Nat.le_antisymm
  ·rcases Nat.lt_or_ge (bl8 x) L with h4 | h4
   ·have h5:x<2 ^ (L - 1):=(bl8_le x (L - 1)).1 (by omega)
    omega
   ·exact h4
  ·exact (bl8_le x L).2 h3
theorem len8_any (x:Nat)(w:World)(hx:x<256) :
  Calls Tryz.prog 220 #[.int .u8 x] w fun e w'=>e= .returned (.int .i64 (bl8 x))/\w'=w:=by
 have h:=Any.bits_Len8 lays_len8 (x:Int) w (by omega) (by omega)
 refine h.mono ?_
 rintro e w' ⟨rfl,rfl⟩
 refine⟨?_,rfl⟩
 rw [Int.toNat_natCast,bitLen8_bl x hx]
set_option maxRecDepth 1000000 in
theorem and127r':∀x:Fin 256,bits .and .u8 (x.val:Int) 127=(x.val:Int) % 128:=by decide
theorem and127r (y:Nat)(h:y<256):bits .and .u8 (y:Int) 127=((y % 128:Nat):Int):=(and127r' ⟨y,h⟩).trans rfl
theorem or_val {v c i:Nat}(hv:v<2 ^ (7 * i))(hi:i<=9)(h9:i=9->c % 128<=1):bits .or .u64 (v:Int) (IntKind.u64.wrap ((c:Int) % 128 * 2 ^ (7 * i)))=((v+c % 128 * 2 ^ (7 * i):Nat):Int):=by
 have hp:i<=8->2 ^ (7 * i)<=72057594037927936:=fun h=>by
  have:2 ^ (7 * i)<=2 ^ 56:=Nat.pow_le_pow_right (by decide) (by omega)
  omega
 have h9':i=9->2 ^ (7 * i)=9223372036854775808:=by rintro rfl;rfl
 have hx:c % 128 * 2 ^ (7 * i)<18446744073709551616:=by
  by_cases e:i=9
  ·have h1:=h9 e
   have h2:=h9' e
   rw [h2];omega
  ·have h1:=hp (by omega)
   have h2:c % 128<128:=Nat.mod_lt _ (by decide)
   have h3:c % 128 * 2 ^ (7 * i)<=127 * 2 ^ (7 * i):=Nat.mul_le_mul_right _ (by omega)
   omega
 have hv':v<18446744073709551616:=by
  by_cases e:i=9
  ·have:=h9' e;omega
  ·have:=hp (by omega);omega
 have e1:(c:Int) % 128 * 2 ^ (7 * i)=((c % 128 * 2 ^ (7 * i):Nat):Int):=by norm_cast
 rw [e1,IntKind.wrap_u64]
 have e2:((c % 128 * 2 ^ (7 * i):Nat):Int) % 18446744073709551616=((c % 128 * 2 ^ (7 * i):Nat):Int):=by omega
 rw [e2,bits_or_u64_nat _ _ hv' hx]
 congr 1
 rw [Nat.or_comm,Nat.mul_comm (c % 128),<-Nat.two_pow_add_eq_or_of_lt hv]
 omega
theorem no_end {f:Nat->Nat}{i:Nat}(h:∀j,j<i->128<=f j)(h1:f i<128)(h2:¬EndsAt f i)(k:Nat):¬EndsAt f k:=by
 intro e
 rcases Nat.lt_trichotomy k i with g | rfl | g
 ·have:=h k g;have:=e.2.1;omega
 ·exact h2 e
 ·have:=e.1 i g;omega
set_option maxHeartbeats 4000000 in
theorem read_any (w:World)(a:Option Addr)(n cap most:Nat)(f:Nat->Nat)(hn:n<=maxLen)(hm:most<=10)(hb:BytesAt w a n cap f) :
  Calls Tryz.prog 189 #[.slice a n cap, .int .i64 most] w fun e w'=>∃x k ok,e= .returned (.tuple #[.int .u64 x, .int .i64 (k:Nat), .bool ok])/\ReadIs f (min n most) x k ok/\w'=w:=by
 obtain⟨m,hmm⟩:∃m,m=min n most:=⟨_,rfl⟩
 have HB:=Hid.mk hb
 have hmn:m<=cap:=by
  rcases hb with h | ⟨b,o,_,h,_⟩
  ·omega
  ·omega
 unfold maxLen at hn
 have hmn2:(m:Int)<=(cap:Int):=by omega
 have hm10:m<=10:=by omega
 by_cases hlt:most<n
 ·have HM:=Hid.mk (show m=min n most from hmm)
  obtain rfl:most=m:=by omega
  clear hb hmm
  go_enter Tryz.func189,Tryz.ntmps189
  go_wp2_with fail
  go_loopw [4,17] (fun vv iv wr=>∃(i:Nat) (v:Int),iv= .int .i64 i/\vv= .int .u64 v/\i<=most/\((∀j,j<i->128<=f j)/\(i<=9->v=(valN f i:Nat)))/\wr=w) (fun _ iv _=>most - (intOf iv).toNat)
  case atStart=>exact⟨0,0,rfl,rfl,by omega,⟨fun j hj=>by omega,fun _=>rfl⟩,rfl⟩
  case round =>
   obtain⟨i,v,rfl,rfl,hi,hv,rfl⟩:=hrel
   have HV:=Hid.mk hv
   clear hv
   by_cases h1:i<most
   ·rcases HB.out with h0 | ⟨ab,ao,rfl,hc1,hc2,hab,hcell⟩
    ·omega
    obtain⟨y0,z0⟩:=hcell i (by omega)
    have e0:=and127r (f i) z0
    have e2:IntKind.i64.wrap (7 * (i:Int))=((7 * i:Nat):Int):=by rw [IntKind.wrap_i64];omega
    have hlen:=len8_any (f i) wr z0
    have HL:=Hid.mk hlen
    obtain⟨c,hc⟩:∃c,c=f i:=⟨_,rfl⟩
    rw [<-hc] at y0 z0 e0
    have HC:=Hid.mk hc
    clear hcell hlen hc
    by_cases h2:127<c
    ·have g2:decide ((127:Int)<(c:Int))=true:=decide_eq_true (by omega)
     go_wp2_with fail
     go_roundw
     case rel =>
      refine⟨i+1,_,by go_num,rfl,by omega,⟨fun j hj=> ?_,fun h9=> ?_⟩,by trivial⟩
      ·by_cases ej:j=i
       ·subst ej;rw [<-HC.out];omega
       ·exact HV.out.1 j (by omega)
      ·rw [HV.out.2 (by omega),or_val (valN_lt f i) (by omega) (by omega),HC.out]
       rfl
     case measure=>simp [intOf];omega
    ·have g2:decide ((127:Int)<(c:Int))=false:=decide_eq_false (by omega)
     by_cases h3:c=0/\0<i
     ·have g3:((c:Int) == 0)=true:=by simp [h3.1]
      have g4:decide ((0:Int)<(i:Int))=true:=decide_eq_true (by omega)
      go_wp2_with fail
      go_ret3
      refine⟨0,0,false,rfl,Or.inr ⟨fun j _=>no_end HV.out.1 (by rw [<-HC.out];omega) (fun e=> ?_) j,rfl,rfl,rfl⟩,rfl⟩
      have:=e.2.2.1
      rw [<-HC.out] at this
      omega
     ·have hb8:bl8 c<=8:=(bl8_le c 8).2 z0
      have e3:IntKind.i64.wrap (((7 * i:Nat):Int)+((bl8 c:Nat):Int))=((7 * i+bl8 c:Nat):Int):=by rw [IntKind.wrap_i64];omega
      rw [<-HC.out] at HL
      have hi9:i<=9:=by omega
      have hv:=HV.out.2 hi9
      subst hv
      by_cases h4:7 * i+bl8 c<=64
      ·have g5:decide ((64:Int)<((7 * i+bl8 c:Nat):Int))=false:=decide_eq_false (by omega)
       have g5':decide ((64:Int)<7 * (i:Int)+(bl8 c:Int))=false:=decide_eq_false (by omega)
       have hor:=or_val (c:=c) (valN_lt f i) hi9 (fun e9=>by
        have:bl8 c<=1:=by omega
        have:=(bl8_le c 1).1 this
        omega)
       have HOR:=Hid.mk (show valN f i+c % 128 * 2 ^ (7 * i)=valN f (i+1) by rw [HC.out];rfl)
       rw [HOR.out] at hor
       have HE:=Hid.mk (show EndsAt f i from⟨HV.out.1,by rw [<-HC.out];omega,by rw [<-HC.out];omega,by rw [<-HC.out];exact h4⟩)
       clear HOR
       by_cases h5:c=0
       ·have h6:i=0:=by omega
        have g3:((c:Int) == 0)=true:=by simp [h5]
        have g4:decide ((0:Int)<(i:Int))=false:=decide_eq_false (by omega)
        have H6:=Hid.mk h6
        clear h5 h6
        go_wp2_with (go_at_call 220;refine HL.out.mono ?_;rintro e w5 ⟨rfl,hw5⟩;rw [hw5])
        go_ret3
        have h6:=H6.out
        subst h6
        exact⟨_,1,true,rfl,Or.inl ⟨0,by have:=HM.out;omega,HE.out,rfl,rfl,rfl⟩,rfl⟩
       ·have g3:((c:Int) == 0)=false:=by simpa using h5
        go_wp2_with (go_at_call 220;refine HL.out.mono ?_;rintro e w5 ⟨rfl,hw5⟩;rw [hw5])
        go_ret3
        exact⟨_,i+1,true,rfl,Or.inl ⟨i,by have:=HM.out;omega,HE.out,rfl,rfl,rfl⟩,rfl⟩
      ·have g5:decide ((64:Int)<((7 * i+bl8 c:Nat):Int))=true:=decide_eq_true (by omega)
       have g5':decide ((64:Int)<7 * (i:Int)+(bl8 c:Int))=true:=decide_eq_true (by omega)
       have h5:c≠0:=by rintro rfl;have:bl8 0=0:=rfl;omega
       have g3:((c:Int) == 0)=false:=by simpa using h5
       go_wp2_with (go_at_call 220;refine HL.out.mono ?_;rintro e w5 ⟨rfl,hw5⟩;rw [hw5])
       go_ret3
       refine⟨0,0,false,rfl,Or.inr ⟨fun j _=>no_end HV.out.1 (by rw [<-HC.out];omega) (fun e=> ?_) j,rfl,rfl,rfl⟩,rfl⟩
       have:=e.2.2.2
       rw [<-HC.out] at this
       omega
   ·obtain rfl:i=most:=by omega
    go_wp2_with fail
    go_ret3
    refine⟨0,0,false,rfl,Or.inr ⟨fun j hj e=> ?_,rfl,rfl,rfl⟩,rfl⟩
    have h5:=HV.out.1 j (by have:=HM.out;omega)
    have h6:=e.2.1
    omega
 ·have HM:=Hid.mk (show m=min n most from hmm)
  obtain rfl:n=m:=by omega
  clear hb hmm
  go_enter Tryz.func189,Tryz.ntmps189
  go_wp2_with fail
  go_loopw [4,17] (fun vv iv wr=>∃(i:Nat) (v:Int),iv= .int .i64 i/\vv= .int .u64 v/\i<=n/\((∀j,j<i->128<=f j)/\(i<=9->v=(valN f i:Nat)))/\wr=w) (fun _ iv _=>n - (intOf iv).toNat)
  case atStart=>exact⟨0,0,rfl,rfl,by omega,⟨fun j hj=>by omega,fun _=>rfl⟩,rfl⟩
  case round =>
   obtain⟨i,v,rfl,rfl,hi,hv,rfl⟩:=hrel
   have HV:=Hid.mk hv
   clear hv
   by_cases h1:i<n
   ·rcases HB.out with h0 | ⟨ab,ao,rfl,hc1,hc2,hab,hcell⟩
    ·omega
    obtain⟨y0,z0⟩:=hcell i (by omega)
    have e0:=and127r (f i) z0
    have e2:IntKind.i64.wrap (7 * (i:Int))=((7 * i:Nat):Int):=by rw [IntKind.wrap_i64];omega
    have hlen:=len8_any (f i) wr z0
    have HL:=Hid.mk hlen
    obtain⟨c,hc⟩:∃c,c=f i:=⟨_,rfl⟩
    rw [<-hc] at y0 z0 e0
    have HC:=Hid.mk hc
    clear hcell hlen hc
    by_cases h2:127<c
    ·have g2:decide ((127:Int)<(c:Int))=true:=decide_eq_true (by omega)
     go_wp2_with fail
     go_roundw
     case rel =>
      refine⟨i+1,_,by go_num,rfl,by omega,⟨fun j hj=> ?_,fun h9=> ?_⟩,by trivial⟩
      ·by_cases ej:j=i
       ·subst ej;rw [<-HC.out];omega
       ·exact HV.out.1 j (by omega)
      ·rw [HV.out.2 (by omega),or_val (valN_lt f i) (by omega) (by omega),HC.out]
       rfl
     case measure=>simp [intOf];omega
    ·have g2:decide ((127:Int)<(c:Int))=false:=decide_eq_false (by omega)
     by_cases h3:c=0/\0<i
     ·have g3:((c:Int) == 0)=true:=by simp [h3.1]
      have g4:decide ((0:Int)<(i:Int))=true:=decide_eq_true (by omega)
      go_wp2_with fail
      go_ret3
      refine⟨0,0,false,rfl,Or.inr ⟨fun j _=>no_end HV.out.1 (by rw [<-HC.out];omega) (fun e=> ?_) j,rfl,rfl,rfl⟩,rfl⟩
      have:=e.2.2.1
      rw [<-HC.out] at this
      omega
     ·have hb8:bl8 c<=8:=(bl8_le c 8).2 z0
      have e3:IntKind.i64.wrap (((7 * i:Nat):Int)+((bl8 c:Nat):Int))=((7 * i+bl8 c:Nat):Int):=by rw [IntKind.wrap_i64];omega
      rw [<-HC.out] at HL
      have hi9:i<=9:=by omega
      have hv:=HV.out.2 hi9
      subst hv
      by_cases h4:7 * i+bl8 c<=64
      ·have g5:decide ((64:Int)<((7 * i+bl8 c:Nat):Int))=false:=decide_eq_false (by omega)
       have g5':decide ((64:Int)<7 * (i:Int)+(bl8 c:Int))=false:=decide_eq_false (by omega)
       have hor:=or_val (c:=c) (valN_lt f i) hi9 (fun e9=>by
        have:bl8 c<=1:=by omega
        have:=(bl8_le c 1).1 this
        omega)
       have HOR:=Hid.mk (show valN f i+c % 128 * 2 ^ (7 * i)=valN f (i+1) by rw [HC.out];rfl)
       rw [HOR.out] at hor
       have HE:=Hid.mk (show EndsAt f i from⟨HV.out.1,by rw [<-HC.out];omega,by rw [<-HC.out];omega,by rw [<-HC.out];exact h4⟩)
       clear HOR
       by_cases h5:c=0
       ·have h6:i=0:=by omega
        have g3:((c:Int) == 0)=true:=by simp [h5]
        have g4:decide ((0:Int)<(i:Int))=false:=decide_eq_false (by omega)
        have H6:=Hid.mk h6
        clear h5 h6
        go_wp2_with (go_at_call 220;refine HL.out.mono ?_;rintro e w5 ⟨rfl,hw5⟩;rw [hw5])
        go_ret3
        have h6:=H6.out
        subst h6
        exact⟨_,1,true,rfl,Or.inl ⟨0,by have:=HM.out;omega,HE.out,rfl,rfl,rfl⟩,rfl⟩
       ·have g3:((c:Int) == 0)=false:=by simpa using h5
        go_wp2_with (go_at_call 220;refine HL.out.mono ?_;rintro e w5 ⟨rfl,hw5⟩;rw [hw5])
        go_ret3
        exact⟨_,i+1,true,rfl,Or.inl ⟨i,by have:=HM.out;omega,HE.out,rfl,rfl,rfl⟩,rfl⟩
      ·have g5:decide ((64:Int)<((7 * i+bl8 c:Nat):Int))=true:=decide_eq_true (by omega)
       have g5':decide ((64:Int)<7 * (i:Int)+(bl8 c:Int))=true:=decide_eq_true (by omega)
       have h5:c≠0:=by rintro rfl;have:bl8 0=0:=rfl;omega
       have g3:((c:Int) == 0)=false:=by simpa using h5
       go_wp2_with (go_at_call 220;refine HL.out.mono ?_;rintro e w5 ⟨rfl,hw5⟩;rw [hw5])
       go_ret3
       refine⟨0,0,false,rfl,Or.inr ⟨fun j _=>no_end HV.out.1 (by rw [<-HC.out];omega) (fun e=> ?_) j,rfl,rfl,rfl⟩,rfl⟩
       have:=e.2.2.2
       rw [<-HC.out] at this
       omega
   ·obtain rfl:i=n:=by omega
    go_wp2_with fail
    go_ret3
    refine⟨0,0,false,rfl,Or.inr ⟨fun j hj e=> ?_,rfl,rfl,rfl⟩,rfl⟩
    have h5:=HV.out.1 j (by have:=HM.out;omega)
    have h6:=e.2.1
    omega
theorem ReadIs.uniq {f:Nat->Nat}{m k k':Nat}{x x':Int}{ok ok':Bool}(h:ReadIs f m x k ok)(g:ReadIs f m x' k' ok'):x=x'/\k=k'/\ok=ok':=by
 rcases h with⟨i,hi,he,rfl,rfl,rfl⟩ | ⟨hn,rfl,rfl,rfl⟩
 ·rcases g with⟨j,hj,ge,rfl,rfl,rfl⟩ | ⟨gn,_⟩
  ·have:i=j:=by
    rcases Nat.lt_trichotomy i j with q | q | q
    ·have:=ge.1 i q;have:=he.2.1;omega
    ·exact q
    ·have:=he.1 j q;have:=ge.2.1;omega
   subst this
   exact⟨rfl,rfl,rfl⟩
  ·exact absurd he (gn i hi)
 ·rcases g with⟨j,hj,ge,_⟩ | ⟨_,rfl,rfl,rfl⟩
  ·exact absurd ge (hn j hj)
  ·exact⟨rfl,rfl,rfl⟩
theorem ReadIs.ex (f:Nat->Nat)(m:Nat):∃x k ok,ReadIs f m x k ok:=by
 by_cases h:∃i,i<m/\EndsAt f i
 ·obtain⟨i,hi,he⟩:=h
  exact⟨_,_,_,Or.inl ⟨i,hi,he,rfl,rfl,rfl⟩⟩
 ·exact⟨0,0,false,Or.inr ⟨fun i hi he=>h ⟨i,hi,he⟩,rfl,rfl,rfl⟩⟩
theorem read_the (w:World)(a:Option Addr)(n cap most:Nat)(f:Nat->Nat)(hn:n<=maxLen)(hm:most<=10)(hb:BytesAt w a n cap f){x:Int}{k:Nat}{ok:Bool}(h:ReadIs f (min n most) x k ok) :
  Calls Tryz.prog 189 #[.slice a n cap, .int .i64 most] w fun e w'=>e= .returned (.tuple #[.int .u64 x, .int .i64 (k:Nat), .bool ok])/\w'=w:=by
 refine (read_any w a n cap most f hn hm hb).mono ?_
 rintro e w' ⟨x',k',ok',rfl,h',rfl⟩
 obtain⟨rfl,rfl,rfl⟩:=h.uniq h'
 exact⟨rfl,rfl⟩
end Go.Proofs.YtgdcjccbdmcebabGreatDoor
