import Derived.Test.YtgdcjccbdmcebaaGreatDoorM04
import Derived.Test.YtgdcjccbdmcebaaGreatDoorM05
import Derived.Shelf.Strconv.Itoa0
import Derived.Lib.ItoaNum
import Derived.Deep.Upon
import Derived.Shelf.SlicesQ.Index
import Derived.Laws.StructEq
import Derived.Shelf.RegionOpenPlain
set_option linter.unusedSimpArgs false
set_option linter.unusedVariables false
set_option maxHeartbeats 8000000
set_option maxRecDepth 100000
namespace Go.Proofs.YtgdcjccbdmcebaaGreatDoor
open Tryz
open Go.RowKit Go.Shelf
variable {ls:Nat->List Int}{Bz:Nat->Value}{D:DataW Unit}{K:Nat->Prop}{wd:Nat->Nat}{w:World}{dm:Value}{B:Nat}{xs:List Value}{a:Option Addr}
def MM:Go.Shelf.Ren:=⟨fun | 129=>287 | n=>n,fun | 3=>3 | 4=>4 | 5=>5 | 9=>9 | 46=>71 | 53=>27 | n=>n,fun | n=>n⟩
theorem VB:Go.Proofs.Lays.n129 prog MM:={
 mixed:=by kernel_rfl
 f129:=Tryz.func287.trans (congrArg some (by kernel_rfl))
 t3:=underlying3
 a3:=Tryz.isAgg3
 z3:=Tryz.sizeOf3
 v3:=Tryz.zeroValue3
 t4:=underlying4
 a4:=Tryz.isAgg4
 z4:=Tryz.sizeOf4
 v4:=Tryz.zeroValue4
 t5:=underlying5
 a5:=Tryz.isAgg5
 z5:=Tryz.sizeOf5
 v5:=Tryz.zeroValue5
 t9:=underlying9
 a9:=Tryz.isAgg9
 z9:=Tryz.sizeOf9
 v9:=Tryz.zeroValue9
 t46:=underlying71
 a46:=Tryz.isAgg71
 z46:=Tryz.sizeOf71
 v46:=Tryz.zeroValue71
 t53:=underlying27
 a53:=Tryz.isAgg27
 z53:=Tryz.sizeOf27
 v53:=Tryz.zeroValue27 }
theorem St (x:Nat)(f:x<18446744073709551616):Lib.bitLen x=bl x:=by
 by_cases b:x=0
 ·subst b;rfl
 ·obtain⟨g,h,d⟩:=Lib.bitLenAux_bounds 64 x f b
  have e:Lib.bitLen x=Lib.bitLenAux 64 x:=rfl;rw[e]
  generalize Lib.bitLenAux 64 x=L at *
  apply Nat.le_antisymm
  ·rcases Nat.lt_or_ge (bl x) L with c | c
   ·have i:x<2 ^ (L - 1):=(Rs x (L - 1)).1 (by omega)
    omega
   ·exact c
  ·exact (Rs x L).2 d
theorem YK (x:Nat)(w:World)(b:x<18446744073709551616) :
  Calls prog 287 #[.int .u64 x] w fun e w'=>e= .returned (.int .i64 (bl x))/\w'=w:=by
 have h:=Any.bits_Len64 VB (x:Int) w (by omega) (by omega);refine h.mono ?_;rintro e w' ⟨rfl,rfl⟩;refine⟨?_,rfl⟩;rw[Int.toNat_natCast,St x b]
theorem bits_xor_u64_nat (a b:Nat)(e:a<18446744073709551616)(f:b<18446744073709551616) :
  bits .xor .u64 (a:Int) (b:Int)=((a ^^^ b:Nat):Int):=by
 have g:a ^^^ b<2 ^ 64:=Nat.xor_lt_two_pow (by omega) (by omega)
 have c:(BitVec.ofInt 64 (a:Int)).toNat=a:=by
  rw[BitVec.ofInt_natCast,BitVec.toNat_ofNat];exact Nat.mod_eq_of_lt (by omega)
 have d:(BitVec.ofInt 64 (b:Int)).toNat=b:=by
  rw[BitVec.ofInt_natCast,BitVec.toNat_ofNat];exact Nat.mod_eq_of_lt (by omega)
 show IntKind.u64.wrap ((BitVec.ofInt 64 (a:Int) ^^^ BitVec.ofInt 64 (b:Int)).toNat:Int)=_;rw[BitVec.toNat_xor,c,d,IntKind.wrap_u64];omega
theorem YL (b:Nat)(h:b<=64):wrap64 ((max (wrap64 ((b:Int) - 1)) 0).tdiv 6)=(((b - 1) / 6:Nat):Int):=by
 have c:wrap64 ((b:Int) - 1)=(b:Int) - 1:=by unfold wrap64;omega
 have d:max ((b:Int) - 1) 0=((b - 1:Nat):Int):=by omega
 rw[c,d];have e:((b - 1:Nat):Int).tdiv 6=(((b - 1) / 6:Nat):Int):=rfl;rw[e];unfold wrap64;omega
theorem LZ (w:World)(P now t:Nat)(c0:w.cell? ⟨P,11,none⟩=some (.int .u64 now))(hn:now<18446744073709551616)(k:t<18446744073709551616) :
  Calls prog 274 #[.pointer (some ⟨P,11,none⟩), .int .u64 t] w fun e w'=>e= .returned (.tuple #[.int .i64 (CD now t), .int .i64 (slt (CD now t) t)])/\∃q,w'=w.drewN q:=by
 have f:t ^^^ now<18446744073709551616:=by
  have:t ^^^ now<2 ^ 64:=Nat.xor_lt_two_pow (by omega) (by omega);omega
 have j:=bits_xor_u64_nat t now k hn
 go_enter func274,ntmps274
 go_wp2_with (go_at_call 287;refine (YK (t ^^^ now) w f).mono ?_;rintro e w' ⟨rfl,d⟩;rw[d])
 have b:bl (t ^^^ now)<=64:=(Rs _ _).2 f;rw[YL _ b];obtain⟨L,c⟩:∃L,L=CD now t:=⟨_,rfl⟩;have e0:(bl (t ^^^ now) - 1) / 6=L:=c.symm;have g:L<=10:=by omega
 have HL:=Zz c;rw[e0];clear j f b e0 c;have m:IntKind.i64.wrap ((L:Int) * 6)=(L:Int) * 6:=by rw[IntKind.wrap_i64];omega
 go_quiet (fail)
 have l:wrap64 (((t:Int) / 2 ^ (L * 6)).tmod 64)=(slt L t:Int):=by
  have h:((t:Int) / 2 ^ (L * 6))=((t / 2 ^ (L * 6):Nat):Int):=by norm_cast
  rw[h];have i:((t / 2 ^ (L * 6):Nat):Int).tmod 64=((t / 2 ^ (L * 6) % 64:Nat):Int):=rfl;rw[i,Nat.mul_comm L 6];have:=Zea L t;unfold slt at *;unfold wrap64;omega
 rw[l];go_wp2_with fail
 go_ret2
 exact⟨by rw[<-HL.o];rfl,nq,rfl⟩
theorem Xa (now L s:Nat)(b:s<64):start now (L * 64+s)=2 ^ (6 * (L+1)) * (now / 2 ^ (6 * (L+1)))+s * 2 ^ (6 * L):=by
 unfold start;rw[show (L * 64+s) / 64=L by omega,show (L * 64+s) % 64=s by omega,Nat.mul_comm (now / 2 ^ (6 * (L+1)))]
theorem TS (now L s:Nat)(hn:now<18446744073709551616)(j:L<=10)(c:s<64)(i:start now (L * 64+s)<18446744073709551616) :
  bits .or .u64 (IntKind.u64.wrap ((now:Int) / 2 ^ min (6 * (L+1)) 64 * 2 ^ min (6 * (L+1)) 64)) (IntKind.u64.wrap ((s:Int) * 2 ^ (L * 6)))=(start now (L * 64+s):Int):=by
 have f:=Xa now L s c;have g:s * 2 ^ (6 * L)<18446744073709551616:=by omega
 have d:IntKind.u64.wrap ((s:Int) * 2 ^ (L * 6))=((s * 2 ^ (6 * L):Nat):Int):=by
  have:(s:Int) * 2 ^ (L * 6)=((s * 2 ^ (6 * L):Nat):Int):=by rw[Nat.mul_comm 6 L];norm_cast
  rw[this,IntKind.wrap_u64];omega
 have b:s * 2 ^ (6 * L)<2 ^ (6 * (L+1)):=by
  rw[Ky];exact Nat.mul_lt_mul_of_lt_of_le c (Zx _) (Nat.two_pow_pos _)
 have e:IntKind.u64.wrap ((now:Int) / 2 ^ min (6 * (L+1)) 64 * 2 ^ min (6 * (L+1)) 64)=((2 ^ (6 * (L+1)) * (now / 2 ^ (6 * (L+1))):Nat):Int):=by
  by_cases h:L=10
  ·subst h
   have a1:(now:Int) / 2 ^ min (6 * (10+1)) 64=0:=by
    rw[show min (6 * (10+1)) 64=64 by decide];omega
   have a2:now / 2 ^ (6 * (10+1))=0:=Nat.div_eq_of_lt (by omega);rw[a1,a2]
   rfl
  ·rw[Nat.min_eq_left (by omega)]
   have:(now:Int) / 2 ^ (6 * (L+1)) * 2 ^ (6 * (L+1))=((2 ^ (6 * (L+1)) * (now / 2 ^ (6 * (L+1))):Nat):Int):=by
    generalize 6 * (L+1)=A
    rw[Nat.mul_comm (2 ^ A)];norm_cast
   rw[this,IntKind.wrap_u64];have:2 ^ (6 * (L+1)) * (now / 2 ^ (6 * (L+1)))<=now:=Nat.mul_div_le _ _;omega
 rw[d,e,bits_or_u64_nat _ _ (by omega) g,f]
 congr 1
 exact (Nat.two_pow_add_eq_or_of_lt b _).symm
theorem TR (w:World)(P now L s:Nat)(c0:w.cell? ⟨P,11,none⟩=some (.int .u64 now))(hn:now<18446744073709551616)(i:L<=10)(j:s<64)(b:start now (L * 64+s)<18446744073709551616) :
  Calls prog 232 #[.pointer (some ⟨P,11,none⟩), .int .i64 L, .int .i64 s] w fun e w'=>e= .returned (.int .u64 (start now (L * 64+s)))/\∃q,w'=w.drewN q:=by
 have g:IntKind.i64.wrap ((L:Int)+1)=(L:Int)+1:=by rw[IntKind.wrap_i64];omega
 have h:IntKind.i64.wrap (((L:Int)+1) * 6)=((L:Int)+1) * 6:=by rw[IntKind.wrap_i64];omega
 have k:IntKind.i64.wrap ((L:Int) * 6)=(L:Int) * 6:=by rw[IntKind.wrap_i64];omega
 have l:IntKind.u64.wrap (s:Int)=(s:Int):=by rw[IntKind.wrap_u64];omega
 go_enter func232,ntmps232
 go_wp2_with fail
 obtain⟨A,d⟩:∃A,A=6 * (L+1):=⟨_,rfl⟩;rw[show ((L:Int)+1) * 6=(A:Int) by omega];have f:=Zz d;clear d g h
 go_quiet (fail)
 have c:=TS now L s hn i j b;rw[<-f.o] at c;rw[c];clear c;go_wp2_with fail
 go_ret
 exact⟨rfl,nq,rfl⟩
open Go.RowKit
def Iu (wd:Nat->Nat):Value:= .agg #[.int .u64 (wd 0), .int .u64 (wd 1), .int .u64 (wd 2), .int .u64 (wd 3), .int .u64 (wd 4), .int .u64 (wd 5), .int .u64 (wd 6), .int .u64 (wd 7), .int .u64 (wd 8), .int .u64 (wd 9), .int .u64 (wd 10)]
theorem w11_0 (wd:Nat->Nat)(w:World):(Instr.index 159 (Iu wd) (.int .i64 0)).run prog w= .ok (.int .u64 (wd 0)) w:=by kernel_rfl
theorem w11_1 (wd:Nat->Nat)(w:World):(Instr.index 159 (Iu wd) (.int .i64 1)).run prog w= .ok (.int .u64 (wd 1)) w:=by kernel_rfl
theorem w11_2 (wd:Nat->Nat)(w:World):(Instr.index 159 (Iu wd) (.int .i64 2)).run prog w= .ok (.int .u64 (wd 2)) w:=by kernel_rfl
theorem w11_3 (wd:Nat->Nat)(w:World):(Instr.index 159 (Iu wd) (.int .i64 3)).run prog w= .ok (.int .u64 (wd 3)) w:=by kernel_rfl
theorem w11_4 (wd:Nat->Nat)(w:World):(Instr.index 159 (Iu wd) (.int .i64 4)).run prog w= .ok (.int .u64 (wd 4)) w:=by kernel_rfl
theorem w11_5 (wd:Nat->Nat)(w:World):(Instr.index 159 (Iu wd) (.int .i64 5)).run prog w= .ok (.int .u64 (wd 5)) w:=by kernel_rfl
theorem w11_6 (wd:Nat->Nat)(w:World):(Instr.index 159 (Iu wd) (.int .i64 6)).run prog w= .ok (.int .u64 (wd 6)) w:=by kernel_rfl
theorem w11_7 (wd:Nat->Nat)(w:World):(Instr.index 159 (Iu wd) (.int .i64 7)).run prog w= .ok (.int .u64 (wd 7)) w:=by kernel_rfl
theorem w11_8 (wd:Nat->Nat)(w:World):(Instr.index 159 (Iu wd) (.int .i64 8)).run prog w= .ok (.int .u64 (wd 8)) w:=by kernel_rfl
theorem w11_9 (wd:Nat->Nat)(w:World):(Instr.index 159 (Iu wd) (.int .i64 9)).run prog w= .ok (.int .u64 (wd 9)) w:=by kernel_rfl
theorem w11_10 (wd:Nat->Nat)(w:World):(Instr.index 159 (Iu wd) (.int .i64 10)).run prog w= .ok (.int .u64 (wd 10)) w:=by kernel_rfl
theorem Xt (wd:Nat->Nat)(w:World)(k:Nat)(b:k<11):(Instr.index 159 (Iu wd) (.int .i64 k)).run prog w= .ok (.int .u64 (wd k)) w:=by
 have:k=0\/k=1\/k=2\/k=3\/k=4\/k=5\/k=6\/k=7\/k=8\/k=9\/k=10:=by omega
 rcases this with rfl | rfl | rfl | rfl | rfl | rfl | rfl | rfl | rfl | rfl | rfl
 ·exact w11_0 wd w
 ·exact w11_1 wd w
 ·exact w11_2 wd w
 ·exact w11_3 wd w
 ·exact w11_4 wd w
 ·exact w11_5 wd w
 ·exact w11_6 wd w
 ·exact w11_7 wd w
 ·exact w11_8 wd w
 ·exact w11_9 wd w
 ·exact w11_10 wd w
def FstW (wd:Nat->Nat)(L s:Nat)(ok:Bool):Prop :=
 (ok=false/\L=0/\s=0/\∀j,j<11->wd j=0)\/(ok=true/\L<11/\(∀j,j<L->wd j=0)/\wd L≠0/\s=Lib.ctz 64 (wd L))
theorem SN (w:World)(P B:Nat)(K:Nat->Prop)(now:Nat)(dm:Value)(Bz:Nat->Value)(ls:Nat->List Int)(wd:Nat->Nat)(h:Bu w P B K now dm Bz ls wd)(hw:∀j,j<11->wd j<18446744073709551616)(t:AL w) :
  Calls prog 231 #[.pointer (some ⟨P,11,none⟩)] w fun e w'=>∃L s ok,e= .returned (.tuple #[.int .i64 (L:Nat), .int .i64 (s:Nat), .bool ok])/\FstW wd L s ok/\w'=w:=by
 have c0:=h.cw 0 (by decide);have c1:=h.cw 1 (by decide);have c2:=h.cw 2 (by decide);have c3:=h.cw 3 (by decide);have c4:=h.cw 4 (by decide);have c5:=h.cw 5 (by decide);have c6:=h.cw 6 (by decide);have c7:=h.cw 7 (by decide);have c8:=h.cw 8 (by decide);have c9:=h.cw 9 (by decide);have l:=h.cw 10 (by decide);have y:=Zz hw;have v:=Zz t;have b:=Xt wd w;have r:Hid (Iu wd= .agg #[.int .u64 (wd 0), .int .u64 (wd 1), .int .u64 (wd 2), .int .u64 (wd 3), .int .u64 (wd 4), .int .u64 (wd 5), .int .u64 (wd 6), .int .u64 (wd 7), .int .u64 (wd 8), .int .u64 (wd 9), .int .u64 (wd 10)]):=Zz rfl;have f:=Zz b;clear h hw t b
 go_enter func231,ntmps231
 go_wp2_with fail
 rw[<-r.o];clear r c0 c1 c2 c3 c4 c5 c6 c7 c8 c9 l
 generalize Iu wd=AV at *
 go_loopw [11] (fun q wr=>∃k:Nat,q= .int .i64 k/\k<=11/\(∀j,j<k->wd j=0)/\wr=w) (fun q _=>11 - (intOf q).toNat)
 case atStart=>exact⟨0,rfl,by omega,fun j z=>by omega,rfl⟩
 case round =>
  obtain⟨k,rfl,A,u,rfl⟩:=hrel;have i:=Zz u;clear u;by_cases m:k<11
  ·have b:=f.o k m
   have c:=y.o k m;obtain⟨x,p⟩:∃x,x=wd k:=⟨_,rfl⟩;rw[<-p] at b c;have g:=Zz p;clear p;by_cases d:x=0
   ·subst d
    go_wp2_with fail
    go_roundw
    case rel=>exact⟨k+1,by go_num,by omega,fun j z=>(by
     by_cases e:j=k
     ·subst e;exact g.o.symm
     ·exact i.o j (by omega)),(by trivial)⟩
    case measure=>simp[intOf];omega
   ·have g1:((x:Int) == 0)=false:=by simpa using d
    go_wp2_with (go_at_call 237;refine (Pv x c d _ v.o).mono ?_;rintro e w' ⟨rfl,n⟩;rw[n])
    go_ret3
    exact⟨k,_,true,rfl,Zj ⟨rfl,m,i.o,by rw[<-g.o];exact d,by rw[<-g.o]⟩,rfl⟩
  ·obtain rfl:k=11:=by omega
   go_wp2_with fail
   go_ret3
   exact⟨0,0,false,rfl,Zu ⟨rfl,rfl,rfl,i.o⟩,rfl⟩
open Go.RowKit Go.Shelf
def ML:Go.Shelf.Ren:=⟨fun | 6=>275 | n=>n,fun | 0=>0 | 3=>3 | 4=>4 | 22=>156 | 24=>288 | n=>n,fun | n=>n⟩
theorem VA:Go.Proofs.SlLaysQ.n6 prog ML:={
 mixed:=by kernel_rfl
 f6:=⟨Tryz.f275.name,by kernel_rfl,Tryz.func275.trans (congrArg some (by kernel_rfl))⟩
 t0:=underlying0
 a0:=Tryz.isAgg0
 z0:=Tryz.sizeOf0
 v0:=Tryz.zeroValue0
 t3:=underlying3
 a3:=Tryz.isAgg3
 z3:=Tryz.sizeOf3
 v3:=Tryz.zeroValue3
 t4:=underlying4
 a4:=Tryz.isAgg4
 z4:=Tryz.sizeOf4
 v4:=Tryz.zeroValue4
 t22:=underlying156
 a22:=Tryz.isAgg156
 z22:=Tryz.sizeOf156
 v22:=Tryz.zeroValue156 }
def JY (x y:Int):Bool:=x / 64 == y / 64&&x / 4 % 16 == y / 4 % 16&&x % 4 == y % 4
theorem LN {x y:Int}:JY x y=true↔x=y:=by
 unfold JY;simp only[Bool.and_eq_true,beq_iff_eq];constructor
 ·intro h;omega
 ·rintro rfl;simp
theorem eqK:EqlAt prog 288 (fun x=> .agg (Eg x).toArray) JY:=by
 refine⟨fun x y w=> ?_,GuardAt.agg _ (by kernel_rfl)⟩;have f:=underlying3;have a3:=Tryz.isAgg3;have z3:=Tryz.sizeOf3;have e:prog.underlying 288=some (.struct (prog.fieldsOf 288)):=by kernel_rfl
 have hp:prog.stoodInHeld 288=false:=by kernel_rfl
 simp only[Eg];rw[run_eql_struct,show (10000:Nat)=9999+1 from rfl,run_equalIn_agg w 9999 288 _ _ e hp];simp only[Program.fieldsOf,underlying288]
 go_simp
 unfold JY;by_cases b:x / 64=y / 64<;>by_cases c:x / 4 % 16=y / 4 % 16<;>by_cases d:x % 4=y % 4<;>simp[b,c,d]
theorem ZN:∀w,(Go.sizeOf 288).run prog w= .ok 3 w:=Tryz.sizeOf288
theorem YI (w:World)(B:Nat)(a:Option Addr)(n c:Nat)(l:List Int)(i:Nat)(id:Int)(h:w.ownsRow B 288 3 (.slice a n c) n (Cg l))(hn:l.length=n)(hi:i<n)(he:l.getD i 0=id)(k:∀j,j<i->l.getD j 0≠id) :
  Calls prog 275 #[.slice a n c, .agg (Eg id).toArray] w fun e w'=>e= .returned (.int .i64 i)/\∃q,w'=(w.alloc (.cells (Eg id).toArray 288)).drewN q:=by
 rcases h.2 with⟨o,x⟩ | ⟨g,cap,cur,o,hg,hh,y,s,z,A⟩
 ·omega
 ·obtain⟨rfl,_,rfl⟩:a=some ⟨g,0,none⟩/\n=n/\c=cap:=by simpa using o
  unfold maxLen at s
  have u:∀j,j<l.length->∀i v,(Eg l[j]!)[i]? =some v->w.cell? ⟨g,0+j * 3+i,none⟩=some v:=fun j f i v r=>by
   have d:i<3:=by have:=(List.getElem?_eq_some_iff.1 r).1;rw[Zd0] at this;exact this
   have e:=Ef l f d;have b:l.getD j 0=l[j]! :=by rw[ZQ,List.getElem!_eq_getElem?_getD];rfl
   rw[b,r] at e;rw[Nat.zero_add,h.cellAt (j * 3+i) (by omega),e]
  have:=AnyQ.slices_Index VA 3 Tryz.isAgg288 ZN Eg Zd0 JY eqK g 0 n c l id w (by omega) (by omega) u;refine this.mono ?_;rintro e w' ⟨rfl,m⟩;refine⟨?_,m⟩;have b:∀j,j<l.length->l.getD j 0=l[j]! :=fun j _=>by rw[ZQ,List.getElem!_eq_getElem?_getD];rfl
  rw[Lib.idxBy_hit JY l n i id hi (by omega) (by rw[<-b i (by omega),he];exact LN.2 rfl) (fun j f=>by
   have p:=k j f;rw[b j (by omega)] at p
   cases t:JY id l[j]!
   ·rfl
   ·exact absurd (LN.1 t).symm p)]
theorem zeroK (w:World):(zeroValue 288).run prog w= .ok (.agg #[.int .u64 0, .int .i64 0, .int .i64 0]) w:=by kernel_rfl
theorem infoK:(prog.info? 288).map (fun i=>(i.zero,i.size,i.bytes))=some (some (.agg #[.int .u64 0, .int .i64 0, .int .i64 0]),3,24):=by kernel_rfl
theorem Ln {P:Program}(w:World)(t e ty:TypeId)(z:Value)(h:P.underlying t=some (.slice e))(i:∀w,(zeroValue e).run P w= .ok z w)(d:List Value)(k:(Builtin.zeroCells z.cells 1).toList=d)(g:∀v∈d,v.oneCell'=true)(b o c:Nat)
  (hc:∀j,j<d.length->(w.cell? ⟨b,o+j,none⟩).isSome=true) (hf:∀j,j<d.length->w.frozen? ⟨b,o+j,none⟩=false) :
  (Builtin.clear_ #[t] ty #[.slice (some ⟨b,o,none⟩) 1 c]).run P w= .ok (.tuple #[]) (w.setCells b o d):=by
 have f:=run_storeCells_cells (P:=P) b o d 0 w (by simpa using hc) (by simpa using hf) g;simp only[Nat.add_zero] at f;simp[Builtin.clear_,run_underlying h,i,k,f]
theorem Zdd (g:Nat)(e:TypeId):∀(c:List Value) (o:Nat) (w:World) (cur:Array Value),w.heap[g]? =some (.cells cur e (0,0))->o+c.length<=cur.size->∃b,(w.setCells g o c).heap[g]? =some (.cells b e (0,0))/\b.size=cur.size/\b.toList.take (o+c.length)=cur.toList.take o++c
 | [],o,w,cur,h,_=>⟨cur,h,rfl,by simp⟩
 | v::r,o,w,cur,h,hl=>by
  have d:(w.setCell ⟨g,o,none⟩ v).heap[g]? =some (.cells (cur.setIfInBounds o v) e (0,0)):=by
   simp[World.setCell,Array.getElem?_modify,h]
  obtain⟨b,f,i,j⟩:=Zdd g e r (o+1) (w.setCell ⟨g,o,none⟩ v) (cur.setIfInBounds o v) d (by simp at hl ⊢;omega);refine⟨b,f,by simpa using i,?_⟩;simp only[List.length_cons] at hl ⊢;rw[show o+(r.length+1)=o+1+r.length by omega,j,Array.toList_setIfInBounds,List.take_set,List.take_add_one];have k:o<cur.toList.length:=by simp;omega
  rw[ZZ k,Option.toList_some,List.set_append_right _ _ (by simp;omega)];have:o - (List.take o cur.toList).length=0:=by simp;omega
  rw[this];simp
theorem Zbx:∀(b:List Value) (g o:Nat) (x:World),(x.setCells g o b).heap.size=x.heap.size
 | [],_,_,_=>rfl
 | v::r,g,o,x=>by rw[World.setCells,Zbx r];simp[World.setCell]
theorem Zcf:∀(b:List Value) (g o:Nat) (x:World),(x.setCells g o b).os=x.os/\(x.setCells g o b).tape=x.tape/\(x.setCells g o b).output=x.output
 | [],_,_,_=>⟨rfl,rfl,rfl⟩
 | v::r,g,o,x=>by rw[World.setCells];exact Zcf r _ _ _
theorem Tc (l:List Int)(i:Nat):(Cg l).take (i * 3)=Cg (l.take i):=by
 induction l generalizing i with
 | nil=>simp[Cg]
 | cons a l b =>
  cases i with
  | zero=>simp[Cg]
  | succ i =>
   have:=b i;unfold Cg at *;rw[List.flatMap_cons,List.take_succ_cons,List.flatMap_cons,List.take_append,Zd0,List.take_of_length_le (by rw[Zd0];omega),show (i+1) * 3 - 3=i * 3 by omega,this]
theorem Vn (l:List Int):∀u∈Cg l,u.oneCell'=true:=by
 intro u hu;obtain⟨x,_,b⟩:=List.mem_flatMap.1 hu;simp only[Eg,List.mem_cons,List.not_mem_nil,or_false] at b;rcases b with rfl | rfl | rfl<;>rfl
theorem zc1:(Builtin.zeroCells (Value.agg #[.int .u64 0, .int .i64 0, .int .i64 0]).cells 1).toList=[.int .u64 0, .int .i64 0, .int .i64 0]:=by kernel_rfl
theorem Yp (w:World)(B:Nat)(a:Option Addr)(n c:Nat)(l:List Int)(i:Nat)(h:w.ownsRow B 288 3 (.slice a n c) n (Cg l))(hn:l.length=n)(hi:i<n) :
  Calls prog 276 #[.slice a n c, .int .i64 i, .int .i64 (i+1:Nat)] w fun e w'=>e= .returned (.slice a (n - 1) c)/\w'.ownsRow B 288 3 (.slice a (n - 1) c) (n - 1) (Cg (l.take i++l.drop (i+1)))/\w.grownBy w' (Value.slice a n c).ownBlock/\w'.heap.size=w.heap.size:=by
 rcases h.2 with⟨O,h2⟩ | ⟨g,cap,cur,O,hg,hh,V,P,h5,Q⟩
 ·omega
 ·obtain⟨rfl,_,rfl⟩:a=some ⟨g,0,none⟩/\n=n/\c=cap:=by simpa using O
  have G:=P;unfold maxLen at G;have HO:=Zz h;obtain⟨news,d⟩:∃news,news=Cg (l.drop (i+1)):=⟨_,rfl⟩;have hlen:news.length=(n - (i+1)) * 3:=by rw[d,Zdl,List.length_drop,hn]
  obtain⟨i3,x,J,C,L⟩:=info_parts infoK;have N:=Zz (Zq x C);have HL:=Zz hlen;have T:=Zz d;have g1:(IntKind.i64.wrap ((i+1:Nat):Int))=((i+1:Nat):Int):=by rw[IntKind.wrap_i64];omega
  have g2:((i:Int) == ((i+1:Nat):Int))=false:=by simp;omega
  have f:∀t,t<n * 3->w.cell? ⟨g,t,none⟩=(Cg l)[t]? :=fun t E=>h.cellAt t E;have v:∀t,w.frozen? ⟨g,t,none⟩=false:=fun t=>h.frozenAt t
  obtain⟨A,hA,z⟩:∃A:Addr,(if c=i+1 then (some (⟨g,0,none⟩:Addr)) else some ⟨g,(i+1) * 3,none⟩)=some A/\Hid (∀t u,news[t]? =some u->w.drew.cell? (A.add t)=some u):=by
   by_cases s:c=i+1
   ·refine⟨⟨g,0,none⟩,by simp[s],fun t u hu=> ?_⟩
    have U:news.length=0:=by rw[hlen];omega
    rw[List.length_eq_zero_iff.1 U] at hu;simp at hu
   ·refine⟨⟨g,(i+1) * 3,none⟩,by simp[s],fun t u hu=> ?_⟩
    have E:t<(n - (i+1)) * 3:=by
     have:=(List.getElem?_eq_some_iff.1 hu).1
     rwa[hlen] at this
    rw[Zce];refine (f ((i+1) * 3+t) (by omega)).trans ?_;rw[<-hu,d];have F:Cg l=Cg (l.take (i+1))++Cg (l.drop (i+1)):=by rw[<-EP,List.take_append_drop]
    rw[F,List.getElem?_append_right (by rw[Zdl,List.length_take];omega),Zdl,List.length_take,Nat.min_eq_left (by omega),Nat.add_sub_cancel_left]
  have s2:Hid (∀u∈news,u.oneCell'=true):=by rw[d];exact Vn _
  have s3:Hid (∀t,t<news.length->(w.drew.cell? ⟨g,0+i * 3+t,none⟩).isSome=true/\w.drew.frozen? ⟨g,0+i * 3+t,none⟩=false):=by
   intro t E;rw[hlen] at E;refine⟨?_,v _⟩;show (w.cell? _).isSome=true;rw[f _ (by omega),ZZ (by rw[Zdl,hn];omega)]
   rfl
  have X:i<=c:=by omega
  have Z:i+1<=c:=by omega
  have ae:(0:Int)<=(i:Int)+1/\(i:Int)+1<=(n:Int):=⟨by omega,by omega⟩;have S:=Zz (Zq hh Q);clear h hh Q J C L x hlen d f v
  go_enter func276,ntmps276
  go_wp2_with fail
  go_region_law (refine step_append_room rfl (.tmp 22) (.tmp 25) 156 rfl 288 i3 3 underlying156 N.o.1 N.o.2 g 0 i c (by simp[Act.eval,Act.put]) A (n - (i+1)) (c - (i+1)) news (by simp[Act.eval,Act.put]) HL.o z.o s2.o (by omega) s3.o ?_)
  rw[show i+(n - (i+1))=n - 1 by omega]
  have q:Hid (∃b,(w.drew.setCells g (i * 3) news).heap[g]? =some (.cells b 288 (0,0))/\b.size=c * 3/\b.toList.take ((n - 1) * 3)=Cg (l.take i++l.drop (i+1))):=by
   obtain⟨k1,k2⟩:=S.o;have hl:=HL.o;obtain⟨b,q1,q2,M⟩:=Zdd g 288 news (i * 3) w.drew cur k1 (by omega);refine⟨b,q1,by omega,?_⟩
   have F:cur.toList.take (i * 3)=Cg (l.take i):=by
    have:cur.toList.take (i * 3)=(cur.toList.take (n * 3)).take (i * 3):=by rw[List.take_take,Nat.min_eq_left (by omega)]
    rw[this,k2,Tc]
   rw[show (n - 1) * 3=i * 3+news.length by omega,M,F,T.o,EP]
  obtain⟨m,p⟩:∃m,m=w.drew.setCells g (i * 3) news:=⟨_,rfl⟩;have I:Hid (m=w.drew.setCells g (i * 3) news):=p;rw[<-p] at q ⊢
  have W:∀ty,(Builtin.clear_ #[156] ty #[.slice (some ⟨g,(n - 1) * 3,none⟩) 1 (c - (n - 1))]).run prog m= .ok (.tuple #[]) (m.setCells g ((n - 1) * 3) [.int .u64 0, .int .i64 0, .int .i64 0]):=by
   intro ty;obtain⟨b,k1,k2,_⟩:=q.o;refine Ln m 156 288 ty (.agg #[.int .u64 0, .int .i64 0, .int .i64 0]) underlying156 zeroK _ zc1 (by simp[Value.oneCell']) g ((n - 1) * 3) (c - (n - 1)) (fun j Y=> ?_) (fun j _=> ?_)
   ·simp only[List.length_cons,List.length_nil] at Y
    rw[World.cell?,k1];simp;omega
   ·simp[World.frozen?,k1]
  have g5:n - (n - 1)=1:=by omega
  have g6:n - 1<=n:=by omega
  have g7:n<=c:=V;have g8:((n - 1:Nat):Int)<=(n:Int):=by omega
  have g9:¬(c=n - 1):=by omega
  clear p;go_wp2_with fail
  go_ret
  obtain⟨b,k1,k2,k3⟩:=q.o;obtain⟨r,q1,q2,M⟩:=Zdd g 288 [.int .u64 0, .int .i64 0, .int .i64 0] ((n - 1) * 3) m b k1 (by simp;omega);have e0:=I.o;refine⟨rfl,⟨by rw[Zdl];simp;omega,Zj ⟨g,c,r,rfl,hg,q1,by omega,P,by omega,?_⟩⟩,⟨?_,?_,?_,?_,?_⟩,?_⟩
  ·have:=congrArg (List.take ((n - 1) * 3)) M
   rw[List.take_take,Nat.min_eq_left (by omega),List.take_append_of_le_length (by rw[List.length_take,Array.length_toList];omega),List.take_take,Nat.min_self] at this;rw[this,k3]
  ·rw[(Zcf _ _ _ _).1,e0,(Zcf _ _ _ _).1];rfl
  ·rw[(Zcf _ _ _ _).2.1,e0,(Zcf _ _ _ _).2.1];rfl
  ·rw[(Zcf _ _ _ _).2.2,e0,(Zcf _ _ _ _).2.2];rfl
  ·rw[Zbx,e0,Zbx];exact Zx _
  ·intro k R H
   have y:k≠g:=fun e=>H (by rw[e];rfl)
   refine (World.heap_setCells_other m g _ _ (by rw[e0,Zbx];exact R) y).trans ?_;rw[e0];exact World.heap_setCells_other w.drew g _ _ R y
  ·rw[Zbx,e0,Zbx];rfl
open Go.RowKit
attribute [local go_sem ↓] Go.wp_at_zero Go.wp_at_succ
theorem Bu.at_ {P:Nat}{now:Nat}(h:Bu w P B K now dm Bz ls wd){L s k:Nat}(c:L * 64+s=k)(b:k<704):w.cell? ⟨P,13+L * 64+s,none⟩=some (Bz k):=by
 subst c;rw[Nat.add_assoc];exact h.cs _ b
theorem VR {c n':Nat}(h:Zbd D w c n'){e:TypeId}{size n:Nat}{v:Value}(g:w.ownsRow B e size v n xs):some c≠v.ownBlock:=by
 obtain⟨es,clock,d,_⟩:=h;intro b;rcases g.2 with⟨rfl,_⟩ | ⟨z,cap,cur,rfl,_,hh,_⟩
 ·simp[Value.ownBlock] at b
 ·simp only[Value.ownBlock,Option.some.injEq] at b
  subst b;rw[d] at hh
  cases hh
structure Near (w w':World)(P:Nat)(o v:Value):Prop where
 size:w.heap.size<=w'.heap.size
 at_:∀z,v.ownBlock=some z->o.ownBlock=some z\/w.heap.size<=z
 block:∀j,j<w.heap.size->j≠P->some j≠o.ownBlock->w'.heap[j]? =w.heap[j]?
theorem Bu.more {w7:World}{P:Nat}{now:Nat}(h:Bu w P B K now dm Bz ls wd){k n c gg b L s:Nat}(d:k<704)(A:k=L * 64+s)(r:Bz k= .slice a n c)(hn:n=(ls k).length){id:Int}{o:Obj}{q y:Nat}(hm:Zbd D w q y)(C:B<=q)
  (hown:w7.ownsRow B 288 3 (.slice (some ⟨gg,0,none⟩) (n+1) b) (n+1) (Cg (ls k)++Eg id)) (hg:(w.alloc o).drew.grownBy w7 (Value.slice a n c).ownBlock) (hat:(Value.slice a n c).ownBlock=some gg\/gg=w.heap.size+1) :
  Bu (w7.setCell ⟨P,13+L * 64+s,none⟩ (.slice (some ⟨gg,0,none⟩) (n+1) b)) P B K now dm (BJ Bz k (.slice (some ⟨gg,0,none⟩) (n+1) b)) (BJ ls k (ls k++[id])) wd/\Zbd D (w7.setCell ⟨P,13+L * 64+s,none⟩ (.slice (some ⟨gg,0,none⟩) (n+1) b)) q y/\PF w (w7.setCell ⟨P,13+L * 64+s,none⟩ (.slice (some ⟨gg,0,none⟩) (n+1) b)) P B K/\Near w (w7.setCell ⟨P,13+L * 64+s,none⟩ (.slice (some ⟨gg,0,none⟩) (n+1) b)) P (Bz k) (.slice (some ⟨gg,0,none⟩) (n+1) b):=by
 have p:w.heap.size<=w7.heap.size:=by have:=hg.size;simp at this;omega
 have x:=h.own k d;rw[r] at x;have m:=(x.alloc o).drew;have l:Zbd D (w.alloc o).drew q y:=World.ownsMap.alloc hm o
 have g:∀j,j<w.heap.size->some j≠(Bz k).ownBlock->w7.heap[j]? =w.heap[j]? :=fun j u i =>
   (hg.block j (by simp;omega) (by rw[<-r];exact i)).trans (Zao w o j u)
 have f:∀z,(Value.slice (some ⟨gg,0,none⟩) (n+1) b).ownBlock=some z->(Bz k).ownBlock=some z\/w.heap.size<=z:=fun z t=>by
   simp only[Value.ownBlock,Option.some.injEq] at t;subst t;rcases hat with e | e
   ·left;rw[r];exact e
   ·right;omega
 refine⟨?_,?_,?_,⟨by simpa[World.setCell] using p,f,fun j u v i=>(Zl w7 ⟨P,13+L * 64+s,none⟩ _ j (by simpa using v)).trans (g j u i)⟩⟩
 ·have:=h.slot (w7:=w7) (k:=k) d (v':= .slice (some ⟨gg,0,none⟩) (n+1) b) (xs:=ls k++[id]) (n':=n+1) (by rw[ZX,<-hn];rfl) p g (by rw[EP];simpa[Cg] using hown) f
  rwa[A,<-Nat.add_assoc,<-A] at this
 ·exact World.ownsMap.setCell (World.ownsMap.kept l hg (VR l m)) (by simp;have:=h.pb;omega) _
 ·have f1:PF w (w.alloc o).drew P B K:=PF.Ae (((Zk w.heap.size w).alloc (Zx _) o).drew)
  have f2:PF (w.alloc o).drew w7 P B K:=PF.EY hg (fun e=>by have:=(x.lt P e.symm).1;have:=h.pb;omega) (RQ m) (fun z t=>h.sp k d z (by rw[r];exact t));exact (f1.trans f2).trans (PF.Bt _ _ _ _ _ _ (by omega))
theorem Zg (x s:Nat)(d:x<18446744073709551616)(c:s<64):bits .or .u64 (x:Int) (IntKind.u64.wrap (2 ^ s))=((x ||| 2 ^ s:Nat):Int):=by
 have b:2 ^ s<18446744073709551616:=by
  have:2 ^ s<2 ^ 64:=Nat.pow_lt_pow_right (by decide) c;omega
 have e:IntKind.u64.wrap ((2:Int) ^ s)=((2 ^ s:Nat):Int):=by
  have:(2:Int) ^ s=((2 ^ s:Nat):Int):=by norm_cast
  rw[this,IntKind.wrap_u64]
  generalize 2 ^ s=y at *
  omega
 rw[e,bits_or_u64_nat _ _ d b]
theorem boxed (w:World)(r nd q:Int)(b:Nat)(c:b=w.heap.size):((w.alloc (.cells #[.int .u64 r, .int .i64 nd, .int .i64 q] 288)).cell? ⟨b,0,none⟩=some (.int .u64 r)/\(w.alloc (.cells #[.int .u64 r, .int .i64 nd, .int .i64 q] 288)).cell? ⟨b,1,none⟩=some (.int .i64 nd))/\(w.alloc (.cells #[.int .u64 r, .int .i64 nd, .int .i64 q] 288)).cell? ⟨b,2,none⟩=some (.int .i64 q):=by
 subst c;have h:=heap_alloc_new w (.cells #[.int .u64 r, .int .i64 nd, .int .i64 q] 288);refine⟨⟨?_,?_⟩,?_⟩<;>(unfold World.cell?;rw[h];rfl)
theorem Ni (w:World)(P B:Nat)(K:Nat->Prop)(now tn:Nat)(Bz:Nat->Value)(ls:Nat->List Int)(wd:Nat->Nat)(E:Nat)(D:DataW Unit)(id r nd q:Int)(h:Bu w P B K now (.map (some E)) Bz ls wd)(hd:Zbd D w E (Maps.size D))(bo:B<=E)(G:BM r nd q id)(S:D.atKey (Ch id) u0= .lit (.int .u64 tn))(Z:now<=4611686018427387904)(bw:tn<=4611686018427387904)(hw:∀j,j<11->wd j<18446744073709551616)(hlen:(ls (pl now tn)).length<1048576) :
  Calls prog 259 #[.pointer (some ⟨P,11,none⟩), .agg #[.int .u64 r, .int .i64 nd, .int .i64 q]] w fun e w'=>e= .returned (.tuple #[])/\∃v' x',Bu w' P B K now (.map (some E)) (BJ Bz (pl now tn) v') (BJ ls (pl now tn) (ls (pl now tn)++[id])) (BJ wd (CD now tn) x')/\x'=wd (CD now tn) ||| 2 ^ slt (CD now tn) tn/\Zbd D w' E (Maps.size D)/\PF w w' P B K/\Near w w' P (Bz (pl now tn)) v':=by
 have Y:Gj id= .agg #[.int .u64 r, .int .i64 nd, .int .i64 q]:=by unfold Gj;rw[Zc3 G]
 obtain⟨f,i⟩:∃f,f=w.alloc (.cells #[.int .u64 r, .int .i64 nd, .int .i64 q] 288):=⟨_,rfl⟩;obtain⟨M,x⟩:∃M,M=w.heap.size:=⟨_,rfl⟩;obtain⟨⟨x0,x1⟩,x2⟩:=boxed w r nd q M x;have N:Below w.heap.size w f:=by rw[i];exact (Zk _ _).alloc (Zx _) _
 have W:M<f.heap.size:=by rw[i,x];show w.heap.size<(w.heap.push _).size;rw[Array.size_push];omega
 have O:Zbd D f E (Maps.size D):=by rw[i];exact World.ownsMap.alloc hd _
 rw[<-i] at x0 x1 x2
 have l:∀m,(Instr.lookup 155 (.map (some E)) (.agg #[.int .u64 r, .int .i64 nd, .int .i64 q]) false).run prog (f.drewN m)= .ok (.int .u64 tn) (f.drewN m):=fun m=>by
  obtain⟨c,l,T,_⟩:=World.ownsMap.lookup_int (q:= .u64) (w:=f.drewN m) O Ih underlying155 underlying27 (Sj _) (Zdc G.ok)
  obtain rfl:c=(tn:Int):=by
   have:=T.symm.trans S;simpa using this
  rw[Y] at l;exact l
 have H:=Zz (h.Aj N);have u:=Zz N;have ay:=Zz (Zc3 G);have c0:=H.o.c0;have c1:=H.o.c1;clear h hd N G S Y
 go_enter func259,ntmps259
 go_upto_region 1 with fail
 rw[<-x,<-i];have cq:=Zz (Zq x i);clear x i
 go_quiet ((go_at_call 274;refine Calls.quiet_of (LZ _ P now tn (by rw[World.cell?_drewN];exact c0) (by omega) (by omega))))
 go_wp2_with fail
 obtain⟨L,hL⟩:∃L,L=CD now tn:=⟨_,rfl⟩;obtain⟨s,hs⟩:∃s,s=slt L tn:=⟨_,rfl⟩;obtain⟨k,R⟩:∃k,k=L * 64+s:=⟨_,rfl⟩;have Q:pl now tn=k:=by unfold pl;rw[R,hs,hL]
 have v:L<11:=by have:=Fq now tn Z bw;omega
 have ag:s<64:=by rw[hs];exact Zea _ _
 have d:k<704:=by omega
 rw[Q] at hlen;rw[<-hL,<-hs];have HQ:=Zz (Zq hL (Zq hs (Zq R Q)));have U:Below f.heap.size f (f.drewN nq):=⟨rfl,rfl,rfl,Zx _,fun _ _=>rfl⟩;have F:Below w.heap.size w (f.drewN nq):=⟨u.o.os,u.o.tape,u.o.output,u.o.size,fun k R=>u.o.block k R⟩;have g:=Zz (H.o.Aj U);have az:Hid (Zbd D (f.drewN nq) E (Maps.size D)):=Zz O;have av:=Zz (PF.Ae (P:=P) (B:=B) (K:=K) F);have C:Hid (w.heap.size<=(f.drewN nq).heap.size/\∀j,j<w.heap.size->(f.drewN nq).heap[j]? =w.heap[j]?):=Zz ⟨F.size,F.block⟩;have z0:(f.drewN nq).cell? ⟨M,0,none⟩=some (.int .u64 r):=x0;have z1:(f.drewN nq).cell? ⟨M,1,none⟩=some (.int .i64 nd):=x1;have z2:(f.drewN nq).cell? ⟨M,2,none⟩=some (.int .i64 q):=x2;have HW:=Zz hw;clear hL hs Q l c0 c1 O U F hw x0 x1 x2 W
 generalize f.drewN nq=w1 at *
 obtain⟨a,c,hv⟩:=Zaz (g.o.own k d);obtain⟨n,hn⟩:∃n,n=(ls k).length:=⟨_,rfl⟩;rw[<-hn] at hv hlen;have HV:=Zz (Zq hv hn);have m1:=g.o.at_ (L:=L) (s:=s) R.symm d;rw[hv] at m1;have m2:=g.o.fz (13+L * 64+s);have y:=g.o.own k d;rw[hv,<-hn] at y;have HO:=Zz y;have ct:=g.o.pb;have cr:=g.o.bs;have ae:Hid (some P≠(Value.slice a n c).ownBlock):=Zz fun e=>by have:=(HO.o.lt P e.symm).1;omega
 obtain⟨i3,hi,aj,al,ar⟩:=info_parts infoK;have HI:=Zz (Zq hi (Zq aj (Zq al ar)));clear hv hn y hi aj al ar R;have g1:(L:Int)<11:=by omega
 have g2:(s:Int)<64:=by omega
 have ck:=cell_later (((Zk w1.heap.size w1).alloc (Zx _) (.cells #[.int .u64 r, .int .i64 nd, .int .i64 q] 288)).drew) m1;have cm:=cell_later ((Zk w1.heap.size w1).alloc (Zx _) (.cells #[.int .u64 r, .int .i64 nd, .int .i64 q] 288)) m1
 go_region_law ((refine step_append_lies _ (by rfl) _ _ _ (by rfl) B 288 i3 _ 3 24 underlying156 HI.o.1 HI.o.2.1 HI.o.2.2.1 HI.o.2.2.2 rfl (by omega) (.slice a n c) n (Cg (ls k)) (by rfl) ((HO.o.alloc _).drew) ⟨w1.heap.size,0,none⟩ 1 1 [.int .u64 r, .int .i64 nd, .int .i64 q] (by rfl) (by rfl) (World.news_of_block (cs:=#[.int .u64 r, .int .i64 nd, .int .i64 q]) (t:=288) (fr:=(0,0)) (heap_alloc_new w1 _)) (by simp[Value.oneCell']) (by omega) (by unfold maxLen;omega) (by omega) (by simp;omega) (w1.heap.size+1) (by simp) ?_;intro gg I w7 A b J bp;have s1:=(b.cell_far ⟨P,13+L * 64+s,none⟩ (by simp;omega) ae.o).trans (cell_later (((Zk w1.heap.size w1).alloc (Zx _) _).drew) m1);have sz:=(b.frozen_far ⟨P,13+L * 64+s,none⟩ (by simp;omega) ae.o).trans (((((Zk w1.heap.size w1).alloc (Zx _) (.cells #[.int .u64 r, .int .i64 nd, .int .i64 q] 288)).drew).frozen (p:=⟨P,13+L * 64+s,none⟩) (by simp only[];omega)).trans m2)))
 all_goals
  obtain⟨k1,k2,k3,k4⟩:=g.o.more d HQ.o.2.2.1 HV.o.1 HV.o.2 az.o bo (by rw[ay.o];exact A) b J;have bh:=Zz k1;have b9:=Zz k2;have aw:=Zz (av.o.trans k3);have au:=Zz k4;have x1:=k1.cw L v;have x2:=k1.fz (717+L);clear k1 k2 k3 k4 A b J bp s1 sz m1 ck cm m2
  generalize w7.setCell ⟨P,13+L * 64+s,none⟩ (.slice (some ⟨gg,0,none⟩) (n+1) I)=w8 at *
  go_wp2_with fail
  go_region
  all_goals
   have V:=Zg (wd L) s (HW.o L v) ag;rw[V];have bj:=(bh.o.No L (wd L ||| 2 ^ s) v).Aj (((Zk _ _).drew));have bf:Zbd D ((w8.setCell ⟨P,717+L,none⟩ (.int .u64 ((wd L ||| 2 ^ s:Nat):Int))).drew) E (Maps.size D):=World.ownsMap.setCell b9.o (by simp;omega) _;have ax:=(aw.o.trans (PF.Bt w8 P B K (717+L) (.int .u64 ((wd L ||| 2 ^ s:Nat):Int)) (by omega))).trans (PF.Ae ((Zk _ _).drew));have hQ:=HQ.o;clear HQ;obtain⟨q1,q2,q3,q4⟩:=hQ
   go_end0
   refine⟨rfl, .slice (some ⟨gg,0,none⟩) (n+1) I,wd L ||| 2 ^ s,?_,by rw[<-q1,<-q2],bf,ax,?_⟩
   ·rw[q4,<-q1]
    exact bj
   ·rw[q4]
    have hE:=au.o;refine⟨Zv C.o.1 (by simpa[World.setCell] using hE.size),fun z hz=>(hE.at_ z hz).imp (fun e=>e) (fun e=>by have:=C.o.1;omega),fun j hj X br=> ?_⟩;exact (Zl w8 ⟨P,717+L,none⟩ _ j (by simpa using X)).trans ((hE.block j (by have:=C.o.1;omega) X br).trans (C.o.2 j hj))
end Go.Proofs.YtgdcjccbdmcebaaGreatDoor
