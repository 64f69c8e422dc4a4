import Derived.Test.YtgdcjccbdmcebaaGreatDoorM02
import Derived.Test.YtgdcjccbdmcebaaGreatDoorM03
import Derived.Shelf.Strconv.Itoa0
import Derived.Lib.ItoaNum
import Derived.Deep.Upon
import Derived.Deep.CutRange
import Derived.Shelf.SlicesQ.Index
import Derived.Laws.StructEq
import Derived.Shelf.RegionOpenPlain
set_option linter.all false
set_option maxHeartbeats 8000000
set_option maxRecDepth 100000
open BitVec renaming toNat_ofNat->QFh,getLsbD_ofNat->QFi,ofInt_natCast->QFj,ofInt->QFk,ofNat->QFl
open Go renaming heap_alloc_new->QFm,Shelf.Ren->QFn,bits_or_u64_nat->QFo,cell_later->QFa
open Go.Addr renaming mk.inj->QFp
open Go.Builtin renaming zeroCells->QAg,clear_->QAe
open Go.Instr renaming lookup->QFq,index->QFr
open Go.IntKind renaming wrap_i64->QFs,wrap_u64->QFt
open Go.Maps renaming size->QDq
open Go.Value renaming oneCell'->QFu,ownBlock->QCi,slice->QFv
open Go.World renaming cell?->QEk,setCells->QEi,cell?_drewN->QFw,ownsMap.drop->QFx,ownsMap.kept->QFy,ownsMap.lookup_int->QFz,heap_setCells_other->QGa,setCell->QDw,ownsMap.alloc->QGb,ownsMap.setCell->QGc,cell?_setCell_other->QGd
open List renaming take->QGe,length_cons->QAs,flatMap_cons->QDh,take_add_one->QEq,take_of_length_le->QCw,take_take->QGf,length_drop->QAx,getElem!_eq_getElem?_getD->QGg,length_take->QBf
open Nat renaming add_zero->QBl,testBit_or->QGh,mod_eq_of_lt->QCd,xor_lt_two_pow->QGi,mul_comm->QBt,add_assoc->QGj,testBit_two_pow->QGk,pow_lt_pow_right->QFd,min_eq_left->QEx
open Option renaming some.injEq->QCf
namespace Go.Proofs.YtgdcjccbdmcebaaGreatDoor
open Tryz
open Go.RowKit Go.Shelf
variable {ls:Nat->List Int}{wd:Nat->Nat}{D:DataW Unit}{K:Nat->Prop}{BF:Nat->Value}{dm:Value}{w:World}{a:Option Addr}{B bm P L s n nn i:Nat}{q:List Tm}{xs:List Value}
def ML:QFn:=⟨fun | 129=>287 | n=>n,fun | 3=>3 | 4=>4 | 5=>5 | 9=>9 | 46=>71 | 53=>27 | n=>n,fun | n=>n⟩
theorem Vu:Go.Proofs.Lays.n129 prog ML:={
 mixed:=by kernel_rfl
 f129:=Tryz.func287.trans (congrArg some (by kernel_rfl))
 t3:=underlying3
 a3:=Tryz.isAgg3
 z3:=Tryz.sizeOf3
 v3:=Tryz.zeroValue3
 t4:=underlying4
 a4:=Tryz.isAgg4
 z4:=Tryz.sizeOf4
 v4:=Tryz.zeroValue4
 t5:=underlying5
 a5:=Tryz.isAgg5
 z5:=Tryz.sizeOf5
 v5:=Tryz.zeroValue5
 t9:=underlying9
 a9:=Tryz.isAgg9
 z9:=Tryz.sizeOf9
 v9:=Tryz.zeroValue9
 t46:=underlying71
 a46:=Tryz.isAgg71
 z46:=Tryz.sizeOf71
 v46:=Tryz.zeroValue71
 t53:=underlying27
 a53:=Tryz.isAgg27
 z53:=Tryz.sizeOf27
 v53:=Tryz.zeroValue27 }
theorem Sk (x:Nat)(f:x<18446744073709551616):Lib.bitLen x=bl x:=by
 by_cases b:x=0
 .subst b;rfl
 .obtain⟨g,h,d⟩:=Lib.bitLenAux_bounds 64 x f b
  have e:Lib.bitLen x=Lib.bitLenAux 64 x:=rfl;rw[e]
  generalize Lib.bitLenAux 64 x=L at *
  apply Nat.le_antisymm
  .rcases Nat.lt_or_ge (bl x) L with c | c
   .have j:x<2 ^ (L - 1):=(Ri x (L - 1)).1 (by omega)
    omega
   .exact c
  .exact (Ri x L).2 d
theorem Yz (x:Nat)(w:World)(b:x<18446744073709551616) :
  Calls prog 287 #[.int .u64 x] w fun e w'=>e=.returned (.int .i64 (bl x))/\w'=w:=by
 have h:=Any.bits_Len64 Vu (x:Int) w (by omega) (by omega);refine h.mono ?_;rintro e w' ⟨rfl,rfl⟩;refine⟨?_,rfl⟩;rw[Int.toNat_natCast,Sk x b]
theorem bits_xor_u64_nat (a b:Nat)(e:a<18446744073709551616)(hb:b<18446744073709551616) :
  bits .xor .u64 (a:Int) (b:Int)=((a ^^^ b:Nat):Int):=by
 have f:a ^^^ b<2 ^ 64:=QGi (by omega) (by omega)
 have c:(QFk 64 (a:Int)).toNat=a:=by
  rw[QFj,QFh];exact QCd (by omega)
 have d:(QFk 64 (b:Int)).toNat=b:=by
  rw[QFj,QFh];exact QCd (by omega)
 show IntKind.u64.wrap ((QFk 64 (a:Int) ^^^ QFk 64 (b:Int)).toNat:Int)=_;rw[BitVec.toNat_xor,c,d,QFt];omega
theorem YA (b:Nat)(h:b<=64):wrap64 ((max (wrap64 ((b:Int) - 1)) 0).tdiv 6)=(((b - 1) / 6:Nat):Int):=by
 have c:wrap64 ((b:Int) - 1)=(b:Int) - 1:=by unfold wrap64;omega
 have d:max ((b:Int) - 1) 0=((b - 1:Nat):Int):=by omega
 rw[c,d];have e:((b - 1:Nat):Int).tdiv 6=(((b - 1) / 6:Nat):Int):=rfl;rw[e];unfold wrap64;omega
theorem Ma (w:World)(P now t:Nat)(c0:w.cell? ⟨P,11,none⟩=some (.int .u64 now))(hn:now<18446744073709551616)(l:t<18446744073709551616) :
  Calls prog 274 #[.pointer (some ⟨P,11,none⟩),.int .u64 t] w fun e w'=>e=.returned (.tuple #[.int .i64 (CE now t),.int .i64 (slt (CE now t) t)])/\∃q,w'=w.drewN q:=by
 have f:t ^^^ now<18446744073709551616:=by
  have:t ^^^ now<2 ^ 64:=QGi (by omega) (by omega);omega
 have hb:=bits_xor_u64_nat t now l hn
 go_enter func274,ntmps274
 go_wp2_with (go_at_call 287;refine (Yz (t ^^^ now) w f).mono ?_;rintro e w' ⟨rfl,d⟩;rw[d])
 have b:bl (t ^^^ now)<=64:=(Ri _ _).2 f;rw[YA _ b];obtain⟨L,c⟩:∃L,L=CE now t:=⟨_,rfl⟩;have e0:(bl (t ^^^ now) - 1) / 6=L:=c.symm;have g:L<=10:=by omega
 have HL:=Zz c;rw[e0];clear hb f b e0 c;have p:IntKind.i64.wrap ((L:Int) * 6)=(L:Int) * 6:=by rw[QFs];omega
 go_quiet (fail)
 have m:wrap64 (((t:Int) / 2 ^ (L * 6)).tmod 64)=(slt L t:Int):=by
  have j:((t:Int) / 2 ^ (L * 6))=((t / 2 ^ (L * 6):Nat):Int):=by norm_cast
  rw[j];have k:((t / 2 ^ (L * 6):Nat):Int).tmod 64=((t / 2 ^ (L * 6) % 64:Nat):Int):=rfl;rw[k,QBt L 6];have:=Zec L t;unfold slt at *;unfold wrap64;omega
 rw[m];go_wp2_with fail
 go_ret2
 exact⟨by rw[<-HL.o];rfl,nq,rfl⟩
theorem WQ (now L s:Nat)(b:s<64):start now (L * 64+s)=2 ^ (6 * (L+1)) * (now / 2 ^ (6 * (L+1)))+s * 2 ^ (6 * L):=by
 unfold start;rw[show (L * 64+s) / 64=L by omega,show (L * 64+s) % 64=s by omega,QBt (now / 2 ^ (6 * (L+1)))]
theorem TI (now L s:Nat)(hn:now<18446744073709551616)(j:L<=10)(c:s<64)(g:start now (L * 64+s)<18446744073709551616) :
  bits .or .u64 (IntKind.u64.wrap ((now:Int) / 2 ^ min (6 * (L+1)) 64 * 2 ^ min (6 * (L+1)) 64)) (IntKind.u64.wrap ((s:Int) * 2 ^ (L * 6)))=(start now (L * 64+s):Int):=by
 have f:=WQ now L s c;have hb:s * 2 ^ (6 * L)<18446744073709551616:=by omega
 have d:IntKind.u64.wrap ((s:Int) * 2 ^ (L * 6))=((s * 2 ^ (6 * L):Nat):Int):=by
  have:(s:Int) * 2 ^ (L * 6)=((s * 2 ^ (6 * L):Nat):Int):=by rw[QBt 6 L];norm_cast
  rw[this,QFt];omega
 have b:s * 2 ^ (6 * L)<2 ^ (6 * (L+1)):=by
  rw[Kx];exact Nat.mul_lt_mul_of_lt_of_le c ZU (Nat.two_pow_pos _)
 have e:IntKind.u64.wrap ((now:Int) / 2 ^ min (6 * (L+1)) 64 * 2 ^ min (6 * (L+1)) 64)=((2 ^ (6 * (L+1)) * (now / 2 ^ (6 * (L+1))):Nat):Int):=by
  by_cases h:L=10
  .subst h
   have a1:(now:Int) / 2 ^ min (6 * (10+1)) 64=0:=by
    rw[show min (6 * (10+1)) 64=64 by decide];omega
   have a2:now / 2 ^ (6 * (10+1))=0:=Nat.div_eq_of_lt (by omega);rw[a1,a2]
   rfl
  .rw[QEx (by omega)]
   have:(now:Int) / 2 ^ (6 * (L+1)) * 2 ^ (6 * (L+1))=((2 ^ (6 * (L+1)) * (now / 2 ^ (6 * (L+1))):Nat):Int):=by
    generalize 6 * (L+1)=A
    rw[QBt (2 ^ A)];norm_cast
   rw[this,QFt];have:2 ^ (6 * (L+1)) * (now / 2 ^ (6 * (L+1)))<=now:=Nat.mul_div_le _ _;omega
 rw[d,e,QFo _ _ (by omega) hb,f]
 congr 1
 exact (Nat.two_pow_add_eq_or_of_lt b _).symm
theorem TH (w:World)(P now L s:Nat)(c0:w.cell? ⟨P,11,none⟩=some (.int .u64 now))(hn:now<18446744073709551616)(k:L<=10)(l:s<64)(b:start now (L * 64+s)<18446744073709551616) :
  Calls prog 232 #[.pointer (some ⟨P,11,none⟩),.int .i64 L,.int .i64 s] w fun e w'=>e=.returned (.int .u64 (start now (L * 64+s)))/\∃q,w'=w.drewN q:=by
 have g:IntKind.i64.wrap ((L:Int)+1)=(L:Int)+1:=by rw[QFs];omega
 have j:IntKind.i64.wrap (((L:Int)+1) * 6)=((L:Int)+1) * 6:=by rw[QFs];omega
 have m:IntKind.i64.wrap ((L:Int) * 6)=(L:Int) * 6:=by rw[QFs];omega
 have p:IntKind.u64.wrap (s:Int)=(s:Int):=by rw[QFt];omega
 go_enter func232,ntmps232
 go_wp2_with fail
 obtain⟨A,d⟩:∃A,A=6 * (L+1):=⟨_,rfl⟩;rw[show ((L:Int)+1) * 6=(A:Int) by omega];have f:=Zz d;clear d g j
 go_quiet (fail)
 have c:=TI now L s hn k l b;rw[<-f.o] at c;rw[c];clear c;go_wp2_with fail
 go_ret
 exact⟨rfl,nq,rfl⟩
open Go.RowKit
def KT (wd:Nat->Nat):Value:=.agg #[.int .u64 (wd 0),.int .u64 (wd 1),.int .u64 (wd 2),.int .u64 (wd 3),.int .u64 (wd 4),.int .u64 (wd 5),.int .u64 (wd 6),.int .u64 (wd 7),.int .u64 (wd 8),.int .u64 (wd 9),.int .u64 (wd 10)]
theorem w11_0 (wd:Nat->Nat)(w:World):(QFr 159 (KT wd) (.int .i64 0)).run prog w=.ok (.int .u64 (wd 0)) w:=by kernel_rfl
theorem w11_1 (wd:Nat->Nat)(w:World):(QFr 159 (KT wd) (.int .i64 1)).run prog w=.ok (.int .u64 (wd 1)) w:=by kernel_rfl
theorem w11_2 (wd:Nat->Nat)(w:World):(QFr 159 (KT wd) (.int .i64 2)).run prog w=.ok (.int .u64 (wd 2)) w:=by kernel_rfl
theorem w11_3 (wd:Nat->Nat)(w:World):(QFr 159 (KT wd) (.int .i64 3)).run prog w=.ok (.int .u64 (wd 3)) w:=by kernel_rfl
theorem w11_4 (wd:Nat->Nat)(w:World):(QFr 159 (KT wd) (.int .i64 4)).run prog w=.ok (.int .u64 (wd 4)) w:=by kernel_rfl
theorem w11_5 (wd:Nat->Nat)(w:World):(QFr 159 (KT wd) (.int .i64 5)).run prog w=.ok (.int .u64 (wd 5)) w:=by kernel_rfl
theorem w11_6 (wd:Nat->Nat)(w:World):(QFr 159 (KT wd) (.int .i64 6)).run prog w=.ok (.int .u64 (wd 6)) w:=by kernel_rfl
theorem w11_7 (wd:Nat->Nat)(w:World):(QFr 159 (KT wd) (.int .i64 7)).run prog w=.ok (.int .u64 (wd 7)) w:=by kernel_rfl
theorem w11_8 (wd:Nat->Nat)(w:World):(QFr 159 (KT wd) (.int .i64 8)).run prog w=.ok (.int .u64 (wd 8)) w:=by kernel_rfl
theorem w11_9 (wd:Nat->Nat)(w:World):(QFr 159 (KT wd) (.int .i64 9)).run prog w=.ok (.int .u64 (wd 9)) w:=by kernel_rfl
theorem w11_10 (wd:Nat->Nat)(w:World):(QFr 159 (KT wd) (.int .i64 10)).run prog w=.ok (.int .u64 (wd 10)) w:=by kernel_rfl
theorem w11_at (wd:Nat->Nat)(w:World)(k:Nat)(hk:k<11):(QFr 159 (KT wd) (.int .i64 k)).run prog w=.ok (.int .u64 (wd k)) w:=by
 have:k=0\/k=1\/k=2\/k=3\/k=4\/k=5\/k=6\/k=7\/k=8\/k=9\/k=10:=by omega
 rcases this with rfl | rfl | rfl | rfl | rfl | rfl | rfl | rfl | rfl | rfl | rfl
 .exact w11_0 wd w
 .exact w11_1 wd w
 .exact w11_2 wd w
 .exact w11_3 wd w
 .exact w11_4 wd w
 .exact w11_5 wd w
 .exact w11_6 wd w
 .exact w11_7 wd w
 .exact w11_8 wd w
 .exact w11_9 wd w
 .exact w11_10 wd w
def FstW (wd:Nat->Nat)(L s:Nat)(ok:Bool):Prop :=
 (ok=false/\L=0/\s=0/\∀j,j<11->wd j=0)\/(ok=true/\L<11/\(∀j,j<L->wd j=0)/\wd L≠0/\s=Lib.ctz 64 (wd L))
theorem SF (w:World)(P B:Nat)(K:Nat->Prop)(now:Nat)(dm:Value)(BF:Nat->Value)(ls:Nat->List Int)(wd:Nat->Nat)(h:Bw w P B K now dm BF ls wd)(hw:∀j,j<11->wd j<18446744073709551616)(v:AP w) :
  Calls prog 231 #[.pointer (some ⟨P,11,none⟩)] w fun e w'=>∃L s ok,e=.returned (.tuple #[.int .i64 (L:Nat),.int .i64 (s:Nat),.bool ok])/\FstW wd L s ok/\w'=w:=by
 have c0:=h.cw 0 (by decide);have c1:=h.cw 1 (by decide);have c2:=h.cw 2 (by decide);have c3:=h.cw 3 (by decide);have c4:=h.cw 4 (by decide);have c5:=h.cw 5 (by decide);have c6:=h.cw 6 (by decide);have c7:=h.cw 7 (by decide);have c8:=h.cw 8 (by decide);have c9:=h.cw 9 (by decide);have c10:=h.cw 10 (by decide);have A:=Zz hw;have z:=Zz v;have b:=w11_at wd w;have u:Hid (KT wd=.agg #[.int .u64 (wd 0),.int .u64 (wd 1),.int .u64 (wd 2),.int .u64 (wd 3),.int .u64 (wd 4),.int .u64 (wd 5),.int .u64 (wd 6),.int .u64 (wd 7),.int .u64 (wd 8),.int .u64 (wd 9),.int .u64 (wd 10)]):=Zz rfl;have f:=Zz b;clear h hw v b
 go_enter func231,ntmps231
 go_wp2_with fail
 rw[<-u.o];clear u c0 c1 c2 c3 c4 c5 c6 c7 c8 c9 c10
 generalize KT wd=AV at *
 go_loopw [11] (fun t wr=>∃k:Nat,t=.int .i64 k/\k<=11/\(∀j,j<k->wd j=0)/\wr=w) (fun t _=>11 - (intOf t).toNat)
 case atStart=>exact⟨0,rfl,by omega,fun j C=>by omega,rfl⟩
 case round =>
  obtain⟨k,rfl,hk,y,rfl⟩:=hrel;have l:=Zz y;clear y;by_cases m:k<11
  .have b:=f.o k m
   have c:=A.o k m;obtain⟨x,r⟩:∃x,x=wd k:=⟨_,rfl⟩;rw[<-r] at b c;have g:=Zz r;clear r;by_cases d:x=0
   .subst d
    go_wp2_with fail
    go_roundw
    case rel=>exact⟨k+1,by go_num,by omega,fun j C=>(by
     by_cases e:j=k
     .subst e;exact g.o.symm
     .exact l.o j (by omega)),(by trivial)⟩
    case measure=>simp[intOf];omega
   .have g1:((x:Int) == 0)=false:=by simpa using d
    go_wp2_with (go_at_call 237;refine (Pj x c d _ z.o).mono ?_;rintro e w' ⟨rfl,p⟩;rw[p])
    go_ret3
    exact⟨k,_,true,rfl,Zj ⟨rfl,m,l.o,by rw[<-g.o];exact d,by rw[<-g.o]⟩,rfl⟩
  .obtain rfl:k=11:=by omega
   go_wp2_with fail
   go_ret3
   exact⟨0,0,false,rfl,Zu ⟨rfl,rfl,rfl,l.o⟩,rfl⟩
open Go.RowKit Go.Shelf
def MK:QFn:=⟨fun | 6=>275 | n=>n,fun | 0=>0 | 3=>3 | 4=>4 | 22=>156 | 24=>288 | n=>n,fun | n=>n⟩
theorem Vt:Go.Proofs.SlLaysQ.n6 prog MK:={
 mixed:=by kernel_rfl
 f6:=⟨Tryz.f275.name,by kernel_rfl,Tryz.func275.trans (congrArg some (by kernel_rfl))⟩
 t0:=underlying0
 a0:=Tryz.isAgg0
 z0:=Tryz.sizeOf0
 v0:=Tryz.zeroValue0
 t3:=underlying3
 a3:=Tryz.isAgg3
 z3:=Tryz.sizeOf3
 v3:=Tryz.zeroValue3
 t4:=underlying4
 a4:=Tryz.isAgg4
 z4:=Tryz.sizeOf4
 v4:=Tryz.zeroValue4
 t22:=underlying156
 a22:=Tryz.isAgg156
 z22:=Tryz.sizeOf156
 v22:=Tryz.zeroValue156 }
def JW (x y:Int):Bool:=x / 64 == y / 64&&x / 4 % 16 == y / 4 % 16&&x % 4 == y % 4
theorem LN {x y:Int}:JW x y=true↔x=y:=by
 unfold JW;simp only[Bool.and_eq_true,beq_iff_eq];constructor
 .intro h;omega
 .rintro rfl;simp
theorem eqK:EqlAt prog 288 (fun x=> .agg (Ei x).toArray) JW:=by
 refine⟨fun x y w=> ?_,GuardAt.agg _ (by kernel_rfl)⟩;have f:=underlying3;have a3:=Tryz.isAgg3;have z3:=Tryz.sizeOf3;have e:prog.underlying 288=some (.struct (prog.fieldsOf 288)):=by kernel_rfl
 have hp:prog.stoodInHeld 288=false:=by kernel_rfl
 simp only[Ei];rw[run_eql_struct,show (10000:Nat)=9999+1 from rfl,run_equalIn_agg w 9999 288 _ _ e hp];simp only[Program.fieldsOf,underlying288]
 go_simp
 unfold JW;by_cases b:x / 64=y / 64<;>by_cases c:x / 4 % 16=y / 4 % 16<;>by_cases d:x % 4=y % 4<;>simp[b,c,d]
theorem Zs:∀w,(Go.sizeOf 288).run prog w=.ok 3 w:=Tryz.sizeOf288
theorem Yx (w:World)(B:Nat)(a:Option Addr)(n c:Nat)(l:List Int)(i:Nat)(id:Int)(h:w.ownsRow B 288 3 (.slice a n c) n (Ce l))(hn:l.length=n)(hi:i<n)(he:l.getD i 0=id)(k:∀j,j<i->l.getD j 0≠id) :
  Calls prog 275 #[.slice a n c,.agg (Ei id).toArray] w fun e w'=>e=.returned (.int .i64 i)/\∃q,w'=(w.alloc (.cells (Ei id).toArray 288)).drewN q:=by
 rcases h.2 with⟨o,y⟩ | ⟨g,cap,cur,o,hg,hh,z,t,A,C⟩
 .omega
 .obtain⟨rfl,_,rfl⟩:a=some ⟨g,0,none⟩/\n=n/\c=cap:=by simpa using o
  unfold maxLen at t
  have x:∀j,j<l.length->∀i v,(Ei l[j]!)[i]? =some v->w.cell? ⟨g,0+j * 3+i,none⟩=some v:=fun j f i v r=>by
   have d:i<3:=by have:=(List.getElem?_eq_some_iff.1 r).1;rw[Zd4] at this;exact this
   have e:=Eh l f d;have b:l.getD j 0=l[j]! :=by rw[ZQ,QGg];rfl
   rw[b,r] at e;rw[Nat.zero_add,h.cellAt (j * 3+i) (by omega),e]
  have:=AnyQ.slices_Index Vt 3 Tryz.isAgg288 Zs Ei Zd4 JW eqK g 0 n c l id w (by omega) (by omega) x;refine this.mono ?_;rintro e w' ⟨rfl,m⟩;refine⟨?_,m⟩;have b:∀j,j<l.length->l.getD j 0=l[j]! :=fun j _=>by rw[ZQ,QGg];rfl
  rw[Lib.idxBy_hit JW l n i id hi (by omega) (by rw[<-b i (by omega),he];exact LN.2 rfl) (fun j f=>by
   have p:=k j f;rw[b j (by omega)] at p
   cases u:JW id l[j]!
   .rfl
   .exact absurd (LN.1 u).symm p)]
theorem zeroK (w:World):(zeroValue 288).run prog w=.ok (.agg #[.int .u64 0,.int .i64 0,.int .i64 0]) w:=by kernel_rfl
theorem infoK:(prog.info? 288).map (fun i=>(i.zero,i.size,i.bytes))=some (some (.agg #[.int .u64 0,.int .i64 0,.int .i64 0]),3,24):=by kernel_rfl
theorem Lo {P:Program}(w:World)(t e ty:TypeId)(z:Value)(h:P.underlying t=some (.slice e))(k:∀w,(zeroValue e).run P w=.ok z w)(d:List Value)(l:(QAg z.cells 1).toList=d)(g:∀v∈d,v.oneCell'=true)(b o c:Nat)
  (hc:∀j,j<d.length->(w.cell? ⟨b,o+j,none⟩).isSome=true) (hf:∀j,j<d.length->w.frozen? ⟨b,o+j,none⟩=false) :
  (QAe #[t] ty #[.slice (some ⟨b,o,none⟩) 1 c]).run P w=.ok (.tuple #[]) (w.setCells b o d):=by
 have f:=run_storeCells_cells (P:=P) b o d 0 w (by simpa using hc) (by simpa using hf) g;simp only[QBl] at f;simp[QAe,run_underlying h,k,l,f]
theorem Zdf (g:Nat)(e:TypeId):∀(c:List Value) (o:Nat) (w:World) (cur:Array Value),w.heap[g]? =some (.cells cur e (0,0))->o+c.length<=cur.size->∃b,(w.setCells g o c).heap[g]? =some (.cells b e (0,0))/\b.size=cur.size/\b.toList.take (o+c.length)=cur.toList.take o++c
 | [],o,w,cur,h,_=>⟨cur,h,rfl,by simp⟩
 | v::r,o,w,cur,h,hl=>by
  have d:(w.setCell ⟨g,o,none⟩ v).heap[g]? =some (.cells (cur.setIfInBounds o v) e (0,0)):=by
   simp[QDw,Array.getElem?_modify,h]
  obtain⟨b,f,j,k⟩:=Zdf g e r (o+1) (w.setCell ⟨g,o,none⟩ v) (cur.setIfInBounds o v) d (by simp at hl ⊢;omega);refine⟨b,f,by simpa using j,?_⟩;simp only[QAs] at hl ⊢;rw[show o+(r.length+1)=o+1+r.length by omega,k,Array.toList_setIfInBounds,List.take_set,QEq];have l:o<cur.toList.length:=by simp;omega
  rw[ZZ l,Option.toList_some,List.set_append_right _ _ (by simp;omega)];have:o - (QGe o cur.toList).length=0:=by simp;omega
  rw[this];simp
theorem Zb1:∀(b:List Value) (g o:Nat) (x:World),(x.setCells g o b).heap.size=x.heap.size
 | [],_,_,_=>rfl
 | v::r,g,o,x=>by rw[QEi,Zb1 r];simp[QDw]
theorem Zch:∀(b:List Value) (g o:Nat) (x:World),(x.setCells g o b).os=x.os/\(x.setCells g o b).tape=x.tape/\(x.setCells g o b).output=x.output
 | [],_,_,_=>⟨rfl,rfl,rfl⟩
 | v::r,g,o,x=>by rw[QEi];exact Zch r _ _ _
theorem SS (l:List Int)(i:Nat):(Ce l).take (i * 3)=Ce (l.take i):=by
 induction l generalizing i with
 | nil=>simp[Ce]
 | cons a l b =>
  cases i with
  | zero=>simp[Ce]
  | succ i =>
   have:=b i;unfold Ce at *;rw[QDh,List.take_succ_cons,QDh,List.take_append,Zd4,QCw (by rw[Zd4];omega),show (i+1) * 3 - 3=i * 3 by omega,this]
theorem Vg (l:List Int):∀u∈Ce l,u.oneCell'=true:=by
 intro u hu;obtain⟨x,_,b⟩:=List.mem_flatMap.1 hu;simp only[Ei,List.mem_cons,List.not_mem_nil,or_false] at b;rcases b with rfl | rfl | rfl<;>rfl
theorem zc1:(QAg (Value.agg #[.int .u64 0,.int .i64 0,.int .i64 0]).cells 1).toList=[.int .u64 0,.int .i64 0,.int .i64 0]:=by kernel_rfl
theorem Yf (w:World)(B:Nat)(a:Option Addr)(n c:Nat)(l:List Int)(i:Nat)(h:w.ownsRow B 288 3 (.slice a n c) n (Ce l))(hn:l.length=n)(hi:i<n) :
  Calls prog 276 #[.slice a n c,.int .i64 i,.int .i64 (i+1:Nat)] w fun e w'=>e=.returned (.slice a (n - 1) c)/\w'.ownsRow B 288 3 (.slice a (n - 1) c) (n - 1) (Ce (l.take i++l.drop (i+1)))/\w.grownBy w' (QFv a n c).ownBlock/\w'.heap.size=w.heap.size:=by
 rcases h.2 with⟨S,h2⟩ | ⟨g,cap,cur,S,hg,hh,Y,T,h5,U⟩
 .omega
 .obtain⟨rfl,_,rfl⟩:a=some ⟨g,0,none⟩/\n=n/\c=cap:=by simpa using S
  have I:=T;unfold maxLen at I;have HO:=Zz h;obtain⟨news,d⟩:∃news,news=Ce (l.drop (i+1)):=⟨_,rfl⟩;have hlen:news.length=(n - (i+1)) * 3:=by rw[d,Zdq,QAx,hn]
  obtain⟨i3,z,N,F,O⟩:=info_parts infoK;have R:=Zz (Zq z F);have HL:=Zz hlen;have W:=Zz d;have g1:(IntKind.i64.wrap ((i+1:Nat):Int))=((i+1:Nat):Int):=by rw[QFs];omega
  have g2:((i:Int) == ((i+1:Nat):Int))=false:=by simp;omega
  have f:∀t,t<n * 3->w.cell? ⟨g,t,none⟩=(Ce l)[t]? :=fun t G=>h.cellAt t G;have y:∀t,w.frozen? ⟨g,t,none⟩=false:=fun t=>h.frozenAt t
  obtain⟨A,hA,E⟩:∃A:Addr,(if c=i+1 then (some (⟨g,0,none⟩:Addr)) else some ⟨g,(i+1) * 3,none⟩)=some A/\Hid (∀t u,news[t]? =some u->w.drew.cell? (A.add t)=some u):=by
   by_cases x:c=i+1
   .refine⟨⟨g,0,none⟩,by simp[x],fun t u hu=> ?_⟩
    have X:news.length=0:=by rw[hlen];omega
    rw[List.length_eq_zero_iff.1 X] at hu;simp at hu
   .refine⟨⟨g,(i+1) * 3,none⟩,by simp[x],fun t u hu=> ?_⟩
    have G:t<(n - (i+1)) * 3:=by
     have:=(List.getElem?_eq_some_iff.1 hu).1
     rwa[hlen] at this
    rw[Zcg];refine (f ((i+1) * 3+t) (by omega)).trans ?_;rw[<-hu,d];have H:Ce l=Ce (l.take (i+1))++Ce (l.drop (i+1)):=by rw[<-EP,List.take_append_drop]
    rw[H,List.getElem?_append_right (by rw[Zdq,QBf];omega),Zdq,QBf,QEx (by omega),Nat.add_sub_cancel_left]
  have s2:Hid (∀u∈news,u.oneCell'=true):=by rw[d];exact Vg _
  have s3:Hid (∀t,t<news.length->(w.drew.cell? ⟨g,0+i * 3+t,none⟩).isSome=true/\w.drew.frozen? ⟨g,0+i * 3+t,none⟩=false):=by
   intro t G;rw[hlen] at G;refine⟨?_,y _⟩;show (w.cell? _).isSome=true;rw[f _ (by omega),ZZ (by rw[Zdq,hn];omega)]
   rfl
  have ae:i<=c:=by omega
  have ag:i+1<=c:=by omega
  have aj:(0:Int)<=(i:Int)+1/\(i:Int)+1<=(n:Int):=⟨by omega,by omega⟩;have V:=Zz (Zq hh U);clear h hh U N F O z hlen d f y
  go_enter func276,ntmps276
  go_wp2_with fail
  go_region_law (refine step_append_room rfl (.tmp 22) (.tmp 25) 156 rfl 288 i3 3 underlying156 R.o.1 R.o.2 g 0 i c (by simp[Act.eval,Act.put]) A (n - (i+1)) (c - (i+1)) news (by simp[Act.eval,Act.put]) HL.o E.o s2.o (by omega) s3.o ?_)
  rw[show i+(n - (i+1))=n - 1 by omega]
  have r:Hid (∃b,(w.drew.setCells g (i * 3) news).heap[g]? =some (.cells b 288 (0,0))/\b.size=c * 3/\b.toList.take ((n - 1) * 3)=Ce (l.take i++l.drop (i+1))):=by
   obtain⟨k1,k2⟩:=V.o;have hl:=HL.o;obtain⟨b,q1,q2,Q⟩:=Zdf g 288 news (i * 3) w.drew cur k1 (by omega);refine⟨b,q1,by omega,?_⟩
   have H:cur.toList.take (i * 3)=Ce (l.take i):=by
    have:cur.toList.take (i * 3)=(cur.toList.take (n * 3)).take (i * 3):=by rw[QGf,QEx (by omega)]
    rw[this,k2,SS]
   rw[show (n - 1) * 3=i * 3+news.length by omega,Q,H,W.o,EP]
  obtain⟨m,p⟩:∃m,m=w.drew.setCells g (i * 3) news:=⟨_,rfl⟩;have M:Hid (m=w.drew.setCells g (i * 3) news):=p;rw[<-p] at r ⊢
  have Z:∀ty,(QAe #[156] ty #[.slice (some ⟨g,(n - 1) * 3,none⟩) 1 (c - (n - 1))]).run prog m=.ok (.tuple #[]) (m.setCells g ((n - 1) * 3) [.int .u64 0,.int .i64 0,.int .i64 0]):=by
   intro ty;obtain⟨b,k1,k2,_⟩:=r.o;refine Lo m 156 288 ty (.agg #[.int .u64 0,.int .i64 0,.int .i64 0]) underlying156 zeroK _ zc1 (by simp[QFu]) g ((n - 1) * 3) (c - (n - 1)) (fun j hj=> ?_) (fun j _=> ?_)
   .simp only[QAs,List.length_nil] at hj
    rw[QEk,k1];simp;omega
   .simp[World.frozen?,k1]
  have g5:n - (n - 1)=1:=by omega
  have g6:n - 1<=n:=by omega
  have g7:n<=c:=Y;have g8:((n - 1:Nat):Int)<=(n:Int):=by omega
  have g9:¬(c=n - 1):=by omega
  clear p;go_wp2_with fail
  go_ret
  obtain⟨b,k1,k2,k3⟩:=r.o;obtain⟨v,q1,q2,Q⟩:=Zdf g 288 [.int .u64 0,.int .i64 0,.int .i64 0] ((n - 1) * 3) m b k1 (by simp;omega);have e0:=M.o;refine⟨rfl,⟨by rw[Zdq];simp;omega,Zj ⟨g,c,v,rfl,hg,q1,by omega,T,by omega,?_⟩⟩,⟨?_,?_,?_,?_,?_⟩,?_⟩
  .have:=congrArg (QGe ((n - 1) * 3)) Q
   rw[QGf,QEx (by omega),List.take_append_of_le_length (by rw[QBf,Array.length_toList];omega),QGf,Nat.min_self] at this;rw[this,k3]
  .rw[(Zch _ _ _ _).1,e0,(Zch _ _ _ _).1];rfl
  .rw[(Zch _ _ _ _).2.1,e0,(Zch _ _ _ _).2.1];rfl
  .rw[(Zch _ _ _ _).2.2,e0,(Zch _ _ _ _).2.2];rfl
  .rw[Zb1,e0,Zb1];exact Zx _
  .intro k hk J
   have C:k≠g:=fun e=>J (by rw[e];rfl)
   refine (QGa m g _ _ (by rw[e0,Zb1];exact hk) C).trans ?_;rw[e0];exact QGa w.drew g _ _ hk C
  .rw[Zb1,e0,Zb1];rfl
open Go.RowKit
attribute [local go_sem ↓] Go.wp_at_zero Go.wp_at_succ
theorem Bw.at_ {now:Nat}(h:Bw w P B K now dm BF ls wd){k:Nat}(hk:L * 64+s=k)(b:k<704):w.cell? ⟨P,13+L * 64+s,none⟩=some (BF k):=by
 subst hk;rw[QGj];exact h.cs _ b
theorem VK {n':Nat}(h:Zbe D w bm n'){e:TypeId}{size:Nat}{v:Value}(g:w.ownsRow B e size v n xs):some bm≠v.ownBlock:=by
 obtain⟨es,clock,hb,_⟩:=h;intro b;rcases g.2 with⟨rfl,_⟩ | ⟨z,cap,cur,rfl,_,hh,_⟩
 .simp[QCi] at b
 .simp only[QCi,QCf] at b
  subst b;rw[hb] at hh
  cases hh
structure Near (w w':World)(P:Nat)(o v:Value):Prop where
 size:w.heap.size<=w'.heap.size
 at_:∀z,v.ownBlock=some z->o.ownBlock=some z\/w.heap.size<=z
 block:∀j,j<w.heap.size->j≠P->some j≠o.ownBlock->w'.heap[j]? =w.heap[j]?
theorem Bw.more {w7:World}{now:Nat}(h:Bw w P B K now dm BF ls wd){k c gg b:Nat}(d:k<704)(hk:k=L * 64+s)(t:BF k=.slice a n c)(hn:n=(ls k).length){id:Int}{o:Obj}(hm:Zbe D w bm nn)(A:B<=bm)
  (hown:w7.ownsRow B 288 3 (.slice (some ⟨gg,0,none⟩) (n+1) b) (n+1) (Ce (ls k)++Ei id)) (hg:(w.alloc o).drew.grownBy w7 (QFv a n c).ownBlock) (hat:(QFv a n c).ownBlock=some gg\/gg=w.heap.size+1) :
  Bw (w7.setCell ⟨P,13+L * 64+s,none⟩ (.slice (some ⟨gg,0,none⟩) (n+1) b)) P B K now dm (BK BF k (.slice (some ⟨gg,0,none⟩) (n+1) b)) (BK ls k (ls k++[id])) wd/\Zbe D (w7.setCell ⟨P,13+L * 64+s,none⟩ (.slice (some ⟨gg,0,none⟩) (n+1) b)) bm nn/\PF w (w7.setCell ⟨P,13+L * 64+s,none⟩ (.slice (some ⟨gg,0,none⟩) (n+1) b)) P B K/\Near w (w7.setCell ⟨P,13+L * 64+s,none⟩ (.slice (some ⟨gg,0,none⟩) (n+1) b)) P (BF k) (.slice (some ⟨gg,0,none⟩) (n+1) b):=by
 have r:w.heap.size<=w7.heap.size:=by have:=hg.size;simp at this;omega
 have y:=h.own k d;rw[t] at y;have p:=(y.alloc o).drew;have m:Zbe D (w.alloc o).drew bm nn:=QGb hm o
 have g:∀j,j<w.heap.size->some j≠(BF k).ownBlock->w7.heap[j]? =w.heap[j]? :=fun j v l =>
   (hg.block j (by simp;omega) (by rw[<-t];exact l)).trans (Zam w o j v)
 have f:∀z,(QFv (some ⟨gg,0,none⟩) (n+1) b).ownBlock=some z->(BF k).ownBlock=some z\/w.heap.size<=z:=fun z u=>by
   simp only[QCi,QCf] at u;subst u;rcases hat with e | e
   .left;rw[t];exact e
   .right;omega
 refine⟨?_,?_,?_,⟨by simpa[QDw] using r,f,fun j v x l=>(Zl w7 ⟨P,13+L * 64+s,none⟩ _ j (by simpa using x)).trans (g j v l)⟩⟩
 .have:=h.slot (w7:=w7) (k:=k) d (v':=.slice (some ⟨gg,0,none⟩) (n+1) b) (xs:=ls k++[id]) (n':=n+1) (by rw[ZX,<-hn];rfl) r g (by rw[EP];simpa[Ce] using hown) f
  rwa[hk,<-QGj,<-hk] at this
 .exact QGc (QFy m hg (VK m p)) (by simp;have:=h.pb;omega) _
 .have f1:PF w (w.alloc o).drew P B K:=PF.Ae (((Zk w.heap.size w).alloc ZU o).drew)
  have f2:PF (w.alloc o).drew w7 P B K:=PF.EX hg (fun e=>by have:=(y.lt P e.symm).1;have:=h.pb;omega) (RE p) (fun z u=>h.sp k d z (by rw[t];exact u));exact (f1.trans f2).trans (PF.Bv _ _ _ _ _ _ (by omega))
theorem YT (x s:Nat)(d:x<18446744073709551616)(c:s<64):bits .or .u64 (x:Int) (IntKind.u64.wrap (2 ^ s))=((x ||| 2 ^ s:Nat):Int):=by
 have b:2 ^ s<18446744073709551616:=by
  have:2 ^ s<2 ^ 64:=QFd (by decide) c;omega
 have e:IntKind.u64.wrap ((2:Int) ^ s)=((2 ^ s:Nat):Int):=by
  have:(2:Int) ^ s=((2 ^ s:Nat):Int):=by norm_cast
  rw[this,QFt]
  generalize 2 ^ s=y at *
  omega
 rw[e,QFo _ _ d b]
theorem boxed (w:World)(r nd q:Int)(b:Nat)(hb:b=w.heap.size):((w.alloc (.cells #[.int .u64 r,.int .i64 nd,.int .i64 q] 288)).cell? ⟨b,0,none⟩=some (.int .u64 r)/\(w.alloc (.cells #[.int .u64 r,.int .i64 nd,.int .i64 q] 288)).cell? ⟨b,1,none⟩=some (.int .i64 nd))/\(w.alloc (.cells #[.int .u64 r,.int .i64 nd,.int .i64 q] 288)).cell? ⟨b,2,none⟩=some (.int .i64 q):=by
 subst hb;have h:=QFm w (.cells #[.int .u64 r,.int .i64 nd,.int .i64 q] 288);refine⟨⟨?_,?_⟩,?_⟩<;>(unfold QEk;rw[h];rfl)
theorem Nh (w:World)(P B:Nat)(K:Nat->Prop)(now tn:Nat)(BF:Nat->Value)(ls:Nat->List Int)(wd:Nat->Nat)(bm:Nat)(D:DataW Unit)(id r nd q:Int)(h:Bw w P B K now (.map (some bm)) BF ls wd)(hd:Zbe D w bm (QDq D))(bp:B<=bm)(G:BL r nd q id)(R:D.atKey (Cf id) u0=.lit (.int .u64 tn))(Y:now<=4611686018427387904)(ck:tn<=4611686018427387904)(hw:∀j,j<11->wd j<18446744073709551616)(hlen:(ls (pl now tn)).length<1048576) :
  Calls prog 259 #[.pointer (some ⟨P,11,none⟩),.agg #[.int .u64 r,.int .i64 nd,.int .i64 q]] w fun e w'=>e=.returned (.tuple #[])/\∃v' x',Bw w' P B K now (.map (some bm)) (BK BF (pl now tn) v') (BK ls (pl now tn) (ls (pl now tn)++[id])) (BK wd (CE now tn) x')/\x'=wd (CE now tn) ||| 2 ^ slt (CE now tn) tn/\Zbe D w' bm (QDq D)/\PF w w' P B K/\Near w w' P (BF (pl now tn)) v':=by
 have X:Gi id=.agg #[.int .u64 r,.int .i64 nd,.int .i64 q]:=by unfold Gi;rw[Zc2 G]
 obtain⟨f,l⟩:∃f,f=w.alloc (.cells #[.int .u64 r,.int .i64 nd,.int .i64 q] 288):=⟨_,rfl⟩;obtain⟨M,y⟩:∃M,M=w.heap.size:=⟨_,rfl⟩;obtain⟨⟨x0,x1⟩,x2⟩:=boxed w r nd q M y;have N:ZY w f:=by rw[l];exact ZV.alloc ZU _
 have V:M<f.heap.size:=by rw[l,y];show w.heap.size<(w.heap.push _).size;rw[Array.size_push];omega
 have O:Zbe D f bm (QDq D):=by rw[l];exact QGb hd _
 rw[<-l] at x0 x1 x2
 have u:∀m,(QFq 155 (.map (some bm)) (.agg #[.int .u64 r,.int .i64 nd,.int .i64 q]) false).run prog (f.drewN m)=.ok (.int .u64 tn) (f.drewN m):=fun m=>by
  obtain⟨c,u,S,_⟩:=QFz (q:=.u64) (w:=f.drewN m) O Ij underlying155 underlying27 (RX _) (Zde G.ok)
  obtain rfl:c=(tn:Int):=by
   have:=S.symm.trans R;simpa using this
  rw[X] at u;exact u
 have H:=Zz (h.Ak N);have v:=Zz N;have ay:=Zz (Zc2 G);have c0:=H.o.c0;have c1:=H.o.c1;clear h hd N G R X
 go_enter func259,ntmps259
 go_upto_region 1 with fail
 rw[<-y,<-l];have cr:=Zz (Zq y l);clear y l
 go_quiet ((go_at_call 274;refine Calls.quiet_of (Ma _ P now tn (by rw[QFw];exact c0) (by omega) (by omega))))
 go_wp2_with fail
 obtain⟨L,hL⟩:∃L,L=CE now tn:=⟨_,rfl⟩;obtain⟨s,hs⟩:∃s,s=slt L tn:=⟨_,rfl⟩;obtain⟨k,hk⟩:∃k,k=L * 64+s:=⟨_,rfl⟩;have Q:pl now tn=k:=by unfold pl;rw[hk,hs,hL]
 have x:L<11:=by have:=Fp now tn Y ck;omega
 have ae:s<64:=by rw[hs];exact Zec _ _
 have d:k<704:=by omega
 rw[Q] at hlen;rw[<-hL,<-hs];have HQ:=Zz (Zq hL (Zq hs (Zq hk Q)));have T:ZY f (f.drewN nq):=⟨rfl,rfl,rfl,Zx _,fun _ _=>rfl⟩;have F:ZY w (f.drewN nq):=⟨v.o.os,v.o.tape,v.o.output,v.o.size,fun k hk=>v.o.block k hk⟩;have g:=Zz (H.o.Ak T);have az:Hid (Zbe D (f.drewN nq) bm (QDq D)):=Zz O;have au:=Zz (PF.Ae (P:=P) (B:=B) (K:=K) F);have E:Hid (w.heap.size<=(f.drewN nq).heap.size/\∀j,j<w.heap.size->(f.drewN nq).heap[j]? =w.heap[j]?):=Zz ⟨F.size,F.block⟩;have z0:(f.drewN nq).cell? ⟨M,0,none⟩=some (.int .u64 r):=x0;have z1:(f.drewN nq).cell? ⟨M,1,none⟩=some (.int .i64 nd):=x1;have z2:(f.drewN nq).cell? ⟨M,2,none⟩=some (.int .i64 q):=x2;have HW:=Zz hw;clear hL hs Q u c0 c1 O T F hw x0 x1 x2 V
 generalize f.drewN nq=w1 at *
 obtain⟨a,c,hv⟩:=Zaz (g.o.own k d);obtain⟨n,hn⟩:∃n,n=(ls k).length:=⟨_,rfl⟩;rw[<-hn] at hv hlen;have HV:=Zz (Zq hv hn);have m1:=g.o.at_ (L:=L) (s:=s) hk.symm d;rw[hv] at m1;have m2:=g.o.fz (13+L * 64+s);have A:=g.o.own k d;rw[hv,<-hn] at A;have HO:=Zz A;have cy:=g.o.pb;have cu:=g.o.bs;have Z:Hid (some P≠(QFv a n c).ownBlock):=Zz fun e=>by have:=(HO.o.lt P e.symm).1;omega
 obtain⟨i3,hi,ag,aj,al⟩:=info_parts infoK;have HI:=Zz (Zq hi (Zq ag (Zq aj al)));clear hv hn A hi ag aj al hk;have g1:(L:Int)<11:=by omega
 have g2:(s:Int)<64:=by omega
 have cm:=QFa (((Zk w1.heap.size w1).alloc ZU (.cells #[.int .u64 r,.int .i64 nd,.int .i64 q] 288)).drew) m1;have cq:=QFa ((Zk w1.heap.size w1).alloc ZU (.cells #[.int .u64 r,.int .i64 nd,.int .i64 q] 288)) m1
 go_region_law ((refine step_append_lies _ (by rfl) _ _ _ (by rfl) B 288 i3 _ 3 24 underlying156 HI.o.1 HI.o.2.1 HI.o.2.2.1 HI.o.2.2.2 rfl (by omega) (.slice a n c) n (Ce (ls k)) (by rfl) ((HO.o.alloc _).drew) ⟨w1.heap.size,0,none⟩ 1 1 [.int .u64 r,.int .i64 nd,.int .i64 q] (by rfl) (by rfl) (World.news_of_block (cs:=#[.int .u64 r,.int .i64 nd,.int .i64 q]) (t:=288) (fr:=(0,0)) (QFm w1 _)) (by simp[QFu]) (by omega) (by unfold maxLen;omega) (by omega) (by simp;omega) (w1.heap.size+1) (by simp) ?_;intro gg I w7 C b J br;have s1:=(b.cell_far ⟨P,13+L * 64+s,none⟩ (by simp;omega) Z.o).trans (QFa (((Zk w1.heap.size w1).alloc ZU _).drew) m1);have sz:=(b.frozen_far ⟨P,13+L * 64+s,none⟩ (by simp;omega) Z.o).trans (((((Zk w1.heap.size w1).alloc ZU (.cells #[.int .u64 r,.int .i64 nd,.int .i64 q] 288)).drew).frozen (p:=⟨P,13+L * 64+s,none⟩) (by simp only[];omega)).trans m2)))
 all_goals
  obtain⟨k1,k2,k3,k4⟩:=g.o.more d HQ.o.2.2.1 HV.o.1 HV.o.2 az.o bp (by rw[ay.o];exact C) b J;have bj:=Zz k1;have bf:=Zz k2;have aw:=Zz (au.o.trans k3);have ar:=Zz k4;have x1:=k1.cw L x;have x2:=k1.fz (717+L);clear k1 k2 k3 k4 C b J br s1 sz m1 cm cq m2
  generalize w7.setCell ⟨P,13+L * 64+s,none⟩ (.slice (some ⟨gg,0,none⟩) (n+1) I)=w8 at *
  go_wp2_with fail
  go_region
  all_goals
   have U:=YT (wd L) s (HW.o L x) ae;rw[U];have bo:=(bj.o.Nn L (wd L ||| 2 ^ s) x).Ak ((ZV.drew));have bh:Zbe D ((w8.setCell ⟨P,717+L,none⟩ (.int .u64 ((wd L ||| 2 ^ s:Nat):Int))).drew) bm (QDq D):=QGc bf.o (by simp;omega) _;have ax:=(aw.o.trans (PF.Bv w8 P B K (717+L) (.int .u64 ((wd L ||| 2 ^ s:Nat):Int)) (by omega))).trans (PF.Ae (ZV.drew));have hQ:=HQ.o;clear HQ;obtain⟨q1,q2,q3,q4⟩:=hQ
   go_end0
   refine⟨rfl,.slice (some ⟨gg,0,none⟩) (n+1) I,wd L ||| 2 ^ s,?_,by rw[<-q1,<-q2],bh,ax,?_⟩
   .rw[q4,<-q1]
    exact bo
   .rw[q4]
    have hE:=ar.o;refine⟨Zv E.o.1 (by simpa[QDw] using hE.size),fun z hz=>(hE.at_ z hz).imp (fun e=>e) (fun e=>by have:=E.o.1;omega),fun j hj W bw=> ?_⟩;exact (Zl w8 ⟨P,717+L,none⟩ _ j (by simpa using W)).trans ((hE.block j (by have:=E.o.1;omega) W bw).trans (E.o.2 j hj))
theorem IF (x s:Nat)(b:x<18446744073709551616)(g:s<64):∃y:Nat,bits .andNot .u64 (x:Int) (IntKind.u64.wrap (2 ^ s))=(y:Int)/\y<18446744073709551616/\∀j,j<64->y.testBit j=(x.testBit j&& !decide (s=j)):=by
 have h:2 ^ s<18446744073709551616:=by
  have:2 ^ s<2 ^ 64:=QFd (by decide) g;omega
 have e:IntKind.u64.wrap ((2:Int) ^ s)=((2 ^ s:Nat):Int):=by
  have:(2:Int) ^ s=((2 ^ s:Nat):Int):=by norm_cast
  rw[this,QFt]
  generalize 2 ^ s=y at *
  omega
 rw[e];have c:(QFk 64 (x:Int))=QFl 64 x:=QFj ..;have d:(QFk 64 ((2 ^ s:Nat):Int))=QFl 64 (2 ^ s):=QFj ..;refine⟨(QFl 64 x &&& ~~~ QFl 64 (2 ^ s)).toNat,?_,by have:=(QFl 64 x &&& ~~~ QFl 64 (2 ^ s)).isLt;omega,fun j f=> ?_⟩
 .show IntKind.u64.wrap ((QFk 64 (x:Int) &&& ~~~ QFk 64 ((2 ^ s:Nat):Int)).toNat:Int)=_
  rw[c,d,QFt];have:=(QFl 64 x &&& ~~~ QFl 64 (2 ^ s)).isLt;omega
 .rw[BitVec.testBit_toNat,BitVec.getLsbD_and,BitVec.getLsbD_not,QFi,QFi,QGk]
  simp[f]
def Ue (y x s n:Nat):Prop:=y<18446744073709551616/\∀j,j<64->(y.testBit j=true↔x.testBit j=true/\¬(s=j/\n=1))
theorem Bw.mapped {w':World}{now:Nat}(h:Bw w P B K now dm BF ls wd)(hm:Zbe D w bm nn)(c:B<=bm)(hg:w.grownBy w' (some bm)):Bw w' P B K now dm BF ls wd/\PF w w' P B K:=by
 obtain⟨es,clock,hb,_⟩:=hm;have f:=h.pb;refine⟨h.keepK hg.size (hg.block P (Zy h.pb h.bs) (by simp;omega)) (fun k _ he=> ?_),PF.EX hg (by simp;omega) (fun z b=> ?_) (fun z b hk=> ?_)⟩
 .obtain⟨cs,fr,e⟩:=he
  refine hg.block k (Array.getElem?_eq_some_iff.1 e).1 (fun d=> ?_);simp only[QCf] at d;subst d;rw[hb] at e
  cases e
 .simp only[QCf] at b
  subst b;exact⟨c,fun cs t fr e=>by rw[hb] at e;cases e⟩
 .simp only[QCf] at b
  subst b;obtain⟨_,cs,fr,e⟩:=h.kb _ hk;rw[hb] at e;cases e
theorem Bw.less {w7:World}{now:Nat}(h:Bw w P B K now dm BF ls wd){k c:Nat}(b:k<704)(hk:k=L * 64+s)(f:BF k=.slice a n c)(hn:n=(ls k).length)(hi:i<n)(hm:Zbe D w bm nn)(m:B<=bm)
  (hown:w7.ownsRow B 288 3 (.slice a (n - 1) c) (n - 1) (Ce ((ls k).take i++(ls k).drop (i+1)))) (hg:w.grownBy w7 (QFv a n c).ownBlock) :
  Bw (w7.setCell ⟨P,13+L * 64+s,none⟩ (.slice a (n - 1) c)) P B K now dm (BK BF k (.slice a (n - 1) c)) (BK ls k ((ls k).take i++(ls k).drop (i+1))) wd/\Zbe D (w7.setCell ⟨P,13+L * 64+s,none⟩ (.slice a (n - 1) c)) bm nn/\PF w (w7.setCell ⟨P,13+L * 64+s,none⟩ (.slice a (n - 1) c)) P B K:=by
 have d:=h.own k b;rw[f] at d;refine⟨?_,?_,?_⟩
 .have:=h.slot (w7:=w7) (k:=k) b (v':=.slice a (n - 1) c) (xs:=(ls k).take i++(ls k).drop (i+1)) (n':=n - 1) (by rw[ZX,QBf,QAx];omega) hg.size (fun j o l=>hg.block j o (by rw[<-f];exact l)) hown (fun z g=>by
   left;rw[f]
   cases a with
   | none=>simp[QCi] at g
   | some a=>exact g)
  rwa[hk,<-QGj,<-hk] at this
 .exact QGc (QFy hm hg (VK hm d)) (by simp;have:=h.pb;omega) _
 .exact (PF.EX hg (fun e=>by have:=(d.lt P e.symm).1;have:=h.pb;omega) (RE d) (fun z g=>h.sp k b z (by rw[f];exact g))).trans (PF.Bv _ _ _ _ _ _ (by omega))
theorem NU (w:World)(P B:Nat)(K:Nat->Prop)(now tn:Nat)(BF:Nat->Value)(ls:Nat->List Int)(wd:Nat->Nat)(bm i:Nat)(D:DataW Unit)(id r nd q:Int)(h:Bw w P B K now (.map (some bm)) BF ls wd)(hd:Zbe D w bm (QDq D))(aj:B<=bm)(J:BL r nd q id)(bh:D.atKey (Cf id) u0=.lit (.int .u64 tn))(bw:now<=4611686018427387904)(cy:tn<=4611686018427387904)(hw:∀j,j<11->wd j<18446744073709551616)(hlen:(ls (pl now tn)).length<1048576)(hi:i<(ls (pl now tn)).length)(he:(ls (pl now tn)).getD i 0=id)(au:∀j,j<i->(ls (pl now tn)).getD j 0≠id) :
  Calls prog 234 #[.pointer (some ⟨P,11,none⟩),.agg #[.int .u64 r,.int .i64 nd,.int .i64 q]] w fun e w'=>e=.returned (.tuple #[])/\∃v' x',Bw w' P B K now (.map (some bm)) (BK BF (pl now tn) v') (BK ls (pl now tn) ((ls (pl now tn)).take i++(ls (pl now tn)).drop (i+1))) (BK wd (CE now tn) x')/\Ue x' (wd (CE now tn)) (slt (CE now tn) tn) (ls (pl now tn)).length/\Zbe (D.del (Cf id)) w' bm (QDq (D.del (Cf id)))/\PF w w' P B K:=by
 have ar:Gi id=.agg #[.int .u64 r,.int .i64 nd,.int .i64 q]:=by unfold Gi;rw[Zc2 J]
 obtain⟨u,v⟩:∃u,u=w.alloc (.cells #[.int .u64 r,.int .i64 nd,.int .i64 q] 288):=⟨_,rfl⟩;obtain⟨g,I⟩:∃g,g=w.heap.size:=⟨_,rfl⟩;obtain⟨⟨x0,x1⟩,x2⟩:=boxed w r nd q g I;have Z:ZY w u:=by rw[v];exact ZV.alloc ZU _
 have S:g<u.heap.size:=by rw[v,I];show w.heap.size<(w.heap.push _).size;rw[Array.size_push];omega
 have al:Zbe D u bm (QDq D):=by rw[v];exact QGb hd _
 rw[<-v] at x0 x1 x2;have cm:Hid (∀k,k<704->some g≠(BF k).ownBlock):=Zz fun k hk e=>by have:=((h.own k hk).lt g e.symm).2;omega
 have A:Hid (g≠P/\g≠bm):=Zz ⟨by have:=h.pb;have:=h.bs;omega,by have:=hd.lt;omega⟩
 have z:∀m,(QFq 155 (.map (some bm)) (.agg #[.int .u64 r,.int .i64 nd,.int .i64 q]) false).run prog (u.drewN m)=.ok (.int .u64 tn) (u.drewN m):=fun m=>by
  obtain⟨c,z,bj,_⟩:=QFz (q:=.u64) (w:=u.drewN m) al Ij underlying155 underlying27 (RX _) (Zde J.ok)
  obtain rfl:c=(tn:Int):=by
   have:=bj.symm.trans bh;simpa using this
  rw[ar] at z;exact z
 have H:=Zz (h.Ak Z);have E:=Zz Z;have cq:=Zz (Zc2 J);have az:=Zz (ar▸Zde J.ok);have c0:=H.o.c0;have c1:=H.o.c1;clear h hd Z J bh ar
 go_enter func234,ntmps234
 go_upto_region 1 with fail
 rw[<-I,<-v];have dc:=Zz (Zq I v);clear I v
 go_quiet ((go_at_call 274;refine Calls.quiet_of (Ma _ P now tn (by rw[QFw];exact c0) (by omega) (by omega))))
 go_upto_region 2 with fail
 obtain⟨L,hL⟩:∃L,L=CE now tn:=⟨_,rfl⟩;obtain⟨s,hs⟩:∃s,s=slt L tn:=⟨_,rfl⟩;obtain⟨k,hk⟩:∃k,k=L * 64+s:=⟨_,rfl⟩;have aw:pl now tn=k:=by unfold pl;rw[hk,hs,hL]
 have x:L<11:=by have:=Fp now tn bw cy;omega
 have ck:s<64:=by rw[hs];exact Zec _ _
 have l:k<704:=by omega
 rw[aw] at hlen hi he au;rw[<-hL,<-hs];have HQ:=Zz (Zq hL (Zq hs (Zq hk aw)));have bo:ZY u (u.drewN nq):=⟨rfl,rfl,rfl,Zx _,fun _ _=>rfl⟩;have br:ZY w (u.drewN nq):=⟨E.o.os,E.o.tape,E.o.output,E.o.size,fun k hk=>E.o.block k hk⟩;have p:=Zz (H.o.Ak bo);have X:Hid (Zbe D (u.drewN nq) bm (QDq D)):=Zz al;have V:=Zz (PF.Ae (P:=P) (B:=B) (K:=K) br);have z0:(u.drewN nq).cell? ⟨g,0,none⟩=some (.int .u64 r):=x0;have T:(u.drewN nq).cell? ⟨g,1,none⟩=some (.int .i64 nd):=x1;have z2:(u.drewN nq).cell? ⟨g,2,none⟩=some (.int .i64 q):=x2;have zs:g<(u.drewN nq).heap.size:=S;have HW:=Zz hw;clear hL hs aw z c0 c1 al bo br hw x0 x1 x2 S
 generalize u.drewN nq=w1 at *
 obtain⟨a,c,hv⟩:=Zaz (p.o.own k l);obtain⟨n,hn⟩:∃n,n=(ls k).length:=⟨_,rfl⟩;rw[<-hn] at hv hlen hi;have R:=Zz (Zq hv hn);have m1:=p.o.at_ (L:=L) (s:=s) hk.symm l;rw[hv] at m1;have N:=p.o.own k l;rw[hv,<-hn] at N;have HO:=Zz N;have HN:=Zz (Zq he au);have dd:=p.o.pb;have cr:=p.o.bs;clear hv hn N hk he au;have g1:(L:Int)<11:=by omega
 have g2:(s:Int)<64:=by omega
 have g3:IntKind.i64.wrap ((i:Int)+1)=((i+1:Nat):Int):=by rw[QFs];omega
 have M:=Yx w1 B a n c (ls k) i id HO.o R.o.2.symm hi HN.o.1 HN.o.2;rw[cq.o] at M;have ay:=Zz M;clear M
 go_upto_region 4 with (go_at_call 275;refine ay.o.mono ?_;rintro e w2 ⟨rfl,C⟩;have U:=Zz C;clear C)
 have t:ZY w1 w2:=by obtain⟨q2,C⟩:=U.o;rw[C];exact⟨rfl,rfl,rfl,by simp,fun j hj=>Zam w1 _ j hj⟩
 have p:=Zz (p.o.Ak t);have X:Hid (Zbe D w2 bm (QDq D)):=by obtain⟨q2,C⟩:=U.o;rw[C];exact QGb X.o _
 have V:=Zz (V.o.trans (PF.Ae (P:=P) (B:=B) (K:=K) t));have HO:=Zz (Zak HO.o t);have m1:=QFa t m1;have z0:=QFa t z0;have T:=QFa t T;have z2:=QFa t z2;have zs:=Zy zs t.size;have cr:=p.o.bs;clear ay t U
 go_upto_region 5 with (go_at_call 276;refine (Yf w2 B a n c (ls k) i HO.o R.o.2.symm hi).mono ?_;rintro e w7 ⟨rfl,O,f,cu⟩)
 have ae:w7.heap[P]? =w2.heap[P]? :=f.block P (by omega) (fun e=>by have:=(HO.o.lt P e.symm).1;omega);have s1:=(World.cell?_of_block (a:=⟨P,13+L * 64+s,none⟩) ae).trans m1;have sz:=(World.frozen?_of_block (a:=⟨P,13+L * 64+s,none⟩) ae).trans (p.o.fz (13+L * 64+s));obtain⟨k1,k2,k3⟩:=p.o.less l HQ.o.2.2.1 R.o.1 R.o.2 hi X.o aj O f;have HK:=Zz (Zq k1 (Zq k2 k3));have ag:some g≠(QFv a n c).ownBlock:=by have:=cm.o k l;rwa[R.o.1] at this
 have z0:=(f.cell_far ⟨g,0,none⟩ zs ag).trans z0;have T:=(f.cell_far ⟨g,1,none⟩ zs ag).trans T;have z2:=(f.cell_far ⟨g,2,none⟩ zs ag).trans z2;clear ae m1 k1 k2 k3 O f cu g3
 go_upto_region 6 with fail
 have G:=Zz HK.o.1;have bf:=Zz HK.o.2.1;have ax:=Zz (V.o.trans HK.o.2.2);have z0:=(QGd w7 ⟨P,13+L * 64+s,none⟩ ⟨g,0,none⟩ (.slice a (n - 1) c) (fun e=>A.o.1 (QFp e).1.symm)).trans z0;have T:=(QGd w7 ⟨P,13+L * 64+s,none⟩ ⟨g,1,none⟩ (.slice a (n - 1) c) (fun e=>A.o.1 (QFp e).1.symm)).trans T;have z2:=(QGd w7 ⟨P,13+L * 64+s,none⟩ ⟨g,2,none⟩ (.slice a (n - 1) c) (fun e=>A.o.1 (QFp e).1.symm)).trans z2;clear HK s1 sz
 generalize w7.setCell ⟨P,13+L * 64+s,none⟩ (.slice a (n - 1) c)=w8 at *
 have x1:=G.o.cw L x;have x2:=G.o.fz (717+L);have d1:=G.o.c1;by_cases h1:n=1
 .subst h1
  go_upto_region 7 with fail
  go_region
  all_goals
   obtain⟨y,bp,hy,da⟩:=IF (wd L) s (HW.o L x) ck;rw[bp];have Q:=Zz ((G.o.Nn L y x).Ak ((ZV.drew)));have F:Hid (Zbe D ((w8.setCell ⟨P,717+L,none⟩ (.int .u64 (y:Int))).drew) bm (QDq D)):=Zz (QGc bf.o (by simp;omega) _);have W:=Zz ((ax.o.trans (PF.Bv w8 P B K (717+L) (.int .u64 (y:Int)) (by omega))).trans (PF.Ae (ZV.drew)));have z0:(w8.setCell ⟨P,717+L,none⟩ (.int .u64 (y:Int))).drew.cell? ⟨g,0,none⟩=_:=(QGd w8 ⟨P,717+L,none⟩ ⟨g,0,none⟩ (.int .u64 (y:Int)) (fun e=>A.o.1 (QFp e).1.symm)).trans z0;have T:(w8.setCell ⟨P,717+L,none⟩ (.int .u64 (y:Int))).drew.cell? ⟨g,1,none⟩=_:=(QGd w8 ⟨P,717+L,none⟩ ⟨g,1,none⟩ (.int .u64 (y:Int)) (fun e=>A.o.1 (QFp e).1.symm)).trans T;have z2:(w8.setCell ⟨P,717+L,none⟩ (.int .u64 (y:Int))).drew.cell? ⟨g,2,none⟩=_:=(QGd w8 ⟨P,717+L,none⟩ ⟨g,2,none⟩ (.int .u64 (y:Int)) (fun e=>A.o.1 (QFp e).1.symm)).trans z2;clear x1 x2 d1
   generalize (w8.setCell ⟨P,717+L,none⟩ (.int .u64 (y:Int))).drew=w9 at *
   have d1:=Q.o.c1;obtain⟨db,cz,d,b⟩:=QFx (w:=w9.drew) F.o Ij underlying155 az.o 0;have Y:=Zz (Zq d b);clear d b;go_wp2_with fail
   go_region
   obtain⟨d,b⟩:=Y.o;obtain⟨j1,j2⟩:=(Q.o.Ak (ZV.drew)).mapped (F.o:Zbe D _ bm (QDq D)) aj b.grown;have hQ:=HQ.o;have hV:=R.o;clear HQ R;obtain⟨q1,q2,q3,q4⟩:=hQ
   go_end0
   refine⟨rfl,.slice a (1 - 1) c,y,?_,?_,Zcr d,W.o.trans ((PF.Ae (ZV.drew)).trans j2)⟩
   .rw[q4,<-q1]
    exact j1
   .rw[q4,<-q1,<-q2,<-hV.2]
    exact⟨hy,fun j hj=>by rw[da j hj];simp⟩
 .have e1:(((n - 1:Nat):Int) == 0)=false:=by simp;omega
  have F:=bf;have Q:=G;have W:=ax;obtain⟨db,cz,d,b⟩:=QFx (w:=w8.drew) F.o Ij underlying155 az.o 0;have Y:=Zz (Zq d b);clear d b;go_wp2_with fail
  go_region
  obtain⟨d,b⟩:=Y.o
  all_goals
   obtain⟨j1,j2⟩:=(Q.o.Ak (ZV.drew)).mapped (F.o:Zbe D _ bm (QDq D)) aj b.grown;have hQ:=HQ.o;have hV:=R.o;clear HQ R;obtain⟨q1,q2,q3,q4⟩:=hQ
   go_end0
   refine⟨rfl,.slice a (n - 1) c,wd L,?_,?_,Zcr d,W.o.trans ((PF.Ae (ZV.drew)).trans j2)⟩
   .rw[q4,<-q1]
    have hu:BK wd L (wd L)=wd:=by funext j;unfold BK;split<;>simp_all
    rw[hu];exact j1
   .rw[q4,<-q1,<-q2,<-hV.2]
    exact⟨HW.o L x,fun j hj=>⟨fun e=>⟨e,fun e2=>h1 e2.2⟩,fun e=>e.1⟩⟩
def Words (wd:Nat->Nat)(ls:Nat->List Int):Prop:=∀L,L<11->wd L<18446744073709551616/\∀s,s<64->((wd L).testBit s=true↔ls (L * 64+s)≠[])
theorem Words.set (h:Words wd ls){y:Nat}{xs:List Int}(l:s<64)(g:y<18446744073709551616)(hb:∀j,j<64->j≠s->(y.testBit j=true↔(wd L).testBit j=true))(f:y.testBit s=true↔xs≠[])(k:L<11):Words (BK wd L y) (BK ls (L * 64+s) xs):=by
 intro M c;by_cases e:M=L
 .subst e
  rw[Zbh];refine⟨g,fun j b=> ?_⟩;by_cases d:j=s
  .subst d;rw[Zbh];exact f
  .rw[Za3 _ _ _ (by omega),hb j b d];exact (h M c).2 j b
 .rw[Za3 _ _ _ e]
  refine⟨(h M c).1,fun j b=> ?_⟩;rw[Za3 _ _ _ (by omega)];exact (h M c).2 j b
theorem Words.put (h:Words wd ls)(b:L<11)(c:s<64)(id:Int):Words (BK wd L (wd L ||| 2 ^ s)) (BK ls (L * 64+s) (ls (L * 64+s)++[id])):=by
 refine h.set c ?_ (fun j _ e=> ?_) ?_ b
 .have d:2 ^ s<2 ^ 64:=QFd (by decide) c
  have:=Nat.or_lt_two_pow (x:=wd L) (y:=2 ^ s) (n:=64) (by have:=(h L b).1;omega) d;omega
 .rw[QGh,QGk];simp;omega
 .rw[QGh,QGk];simp
theorem Words.drop (h:Words wd ls){y:Nat}(k:L<11)(f:s<64)(hi:i<(ls (L * 64+s)).length)(g:Ue y (wd L) s (ls (L * 64+s)).length):Words (BK wd L y) (BK ls (L * 64+s) ((ls (L * 64+s)).take i++(ls (L * 64+s)).drop (i+1))):=by
 refine h.set f g.1 (fun j l d=> ?_) ?_ k
 .rw[g.2 j l];exact⟨fun e=>e.1,fun e=>⟨e,fun b=>d b.1.symm⟩⟩
 .rw[g.2 s f,(h L k).2 s f]
  have hlen:((ls (L * 64+s)).take i++(ls (L * 64+s)).drop (i+1)).length+1=(ls (L * 64+s)).length:=by rw[ZX,QBf,QAx];omega
  constructor
  .rintro⟨_,b⟩ c
   rw[c] at hlen;exact b ⟨rfl,by simpa using hlen.symm⟩
  .intro c
   refine⟨fun e=>by rw[e] at hi;simp at hi,fun e=>c ?_⟩;exact List.eq_nil_of_length_eq_zero (by omega)
theorem OL (hi:i<q.length)(j:Nat):Zai n (q.take (i+1)) j=if pl n (q.getD i .z).tm.toNat=j then Zai n (q.take i) j++[(q.getD i .z).id] else Zai n (q.take i) j:=by
 have:q.take (i+1)=q.take i++[q.getD i .z]:=by
  rw[QEq,ZQ,ZZ hi];rfl
 rw[this,Ja]
def XK (w:World)(P B:Nat)(K:Nat->Prop)(now bm:Nat)(D:DataW Unit)(ls:Nat->List Int)(k:Nat)(q:List Tm)(v0:Value)(n i:Nat)(wr:World):Prop :=
 ∃(rw':Nat->Value) (ls':Nat->List Int) (wd':Nat->Nat),Bw wr P B K now (.map (some bm)) rw' ls' wd'/\Zbe D wr bm (QDq D)/\PF w wr P B K/\Words wd' ls'/\(∀j,ls' j=(if j=k then [] else ls j)++Zai now (q.take i) j)/\wr.ownsRow B 288 3 v0 n (Ce (ls k))/\(∀j,j<704->∀z,v0.ownBlock=some z->(rw' j).ownBlock≠some z)
theorem XK.next {wr w':World}{now k tn:Nat}{v0 v':Value}{c:Nat->Value}{b:Nat->List Int}{d:Nat->Nat}{m:Nat}
  (hp:Bw wr P B K now (.map (some bm)) c b d) (hf:PF w wr P B K) (hw:Words d b) (hls:∀j,b j=(if j=k then [] else ls j)++Zai now (q.take i) j) (ho:wr.ownsRow B 288 3 v0 n (Ce (ls k))) (ha:∀j,j<704->∀z,v0.ownBlock=some z->(c j).ownBlock≠some z)
  (hi:i<q.length) (htn:(q.getD i .z).tm.toNat=tn) (hnow:now<=4611686018427387904) (htn2:tn<=4611686018427387904)
  (hp':Bw w' P B K now (.map (some bm)) (BK c (pl now tn) v') (BK b (pl now tn) (b (pl now tn)++[(q.getD i .z).id])) (BK d (CE now tn) m)) (hx:m=d (CE now tn) ||| 2 ^ slt (CE now tn) tn) (hm':Zbe D w' bm (QDq D)) (hf':PF wr w' P B K) (hn':Near wr w' P (c (pl now tn)) v'):XK w P B K now bm D ls k q v0 n (i+1) w':=by
 subst htn;have f:=Ws now (q.getD i .z).tm.toNat hnow htn2;refine⟨_,_,_,hp',hm',hf.trans hf',?_,fun j=> ?_,?_,fun j p z h=> ?_⟩
 .rw[hx]
  exact hw.put (by have:=Fp now (q.getD i .z).tm.toNat hnow htn2;omega) (Zec _ _) _
 .rw[OL hi]
  by_cases e:pl now (q.getD i .z).tm.toNat=j
  .subst e
   rw[Zbh,if_pos rfl,hls,List.append_assoc]
  .rw[Za3 _ _ _ (Ne.symm e),if_neg e,hls]
 .refine Ha ho (fun z h he g=>hn'.block z ?_ (by have:=hp.pb;omega) (fun e=>ha _ f z g e.symm))
  exact (ho.lt z g).2
 .by_cases e:j=pl now (q.getD i .z).tm.toNat
  .subst e
   rw[Zbh];intro o;rcases hn'.at_ z o with l | l
   .exact ha _ f z h l
   .have:=(ho.lt z h).2;omega
  .rw[Za3 _ _ _ e];exact ha j p z h
theorem QR (w:World)(P B:Nat)(K:Nat->Prop)(now L s n:Nat)(BF:Nat->Value)(ls:Nat->List Int)(wd:Nat->Nat)(bm:Nat)(D:DataW Unit)(q:List Tm)(h:Bw w P B K now (.map (some bm)) BF ls wd)(hd:Zbe D w bm (QDq D))(ay:B<=bm)(hL:L<11)(hs:s<64)(hW:Words wd ls)(hq:ls (L * 64+s)=q.map (·.id))(hn:n=q.length)
  (d:∀i,i<n->FB (q.getD i .z).id) (hat:∀i,i<n->D.atKey (Cf (q.getD i .z).id) u0=.lit (.int .u64 (q.getD i .z).tm)) (ht:∀i,i<n->0<=(q.getD i .z).tm/\(q.getD i .z).tm<=4611686018427387904) (hnow:now<=4611686018427387904) (hlen:∀j,(ls j).length+n<1048576) :
  Calls prog 233 #[.pointer (some ⟨P,11,none⟩),.int .i64 L,.int .i64 s] w fun e w'=>e=.returned (.tuple #[])/\∃u f m,Bw w' P B K now (.map (some bm)) u f m/\Zbe D w' bm (QDq D)/\PF w w' P B K/\Words m f/\∀j,f j=(if j=L * 64+s then [] else ls j)++Zai now q j:=by
 obtain⟨k,hk⟩:∃k,k=L * 64+s:=⟨_,rfl⟩;have b:k<704:=by omega
 rw[<-hk] at hq;obtain⟨a,c,hv⟩:=Zaz (h.own k b);have C:(ls k).length=n:=by rw[hq,hn];simp
 rw[C] at hv;have m1:=h.at_ (L:=L) (s:=s) hk.symm b;rw[hv] at m1;have m2:=h.fz (13+L * 64+s);have t:=h.own k b;rw[hv,C] at t;have HO:=Zz t;have HP:=Zz h;have HM:Hid (Zbe D w bm (QDq D)):=Zz hd;have HW:=Zz hW;have G:=Zz (Zq hk (Zq hq (Zq hn C)));have HV:=Zz hv;have HI:=Zz (Zq d (Zq hat ht));have HL:=Zz hlen;have g1:(L:Int)<11:=by omega
 have g2:(s:Int)<64:=by omega
 have au:=h.pb;have az:=h.bs;have Y:=Zz (h.slot (w7:=w) (k:=k) b (v':=.slice none 0 0) (xs:=[]) (n':=0) rfl ZU (fun _ _ _=>rfl) (World.ownsRow_nil _ _ _ _) (fun z hz=>by simp[QCi] at hz));clear h hd hW hq hn C hv t d hat ht hlen
 go_enter func233,ntmps233
 go_upto_region 2 with fail
 have e0:13+k=13+L * 64+s:=by rw[G.o.1,QGj]
 have HS:=Y.o;rw[e0] at HS;have v:=Zz HS;have S:Hid (Zbe D (w.setCell ⟨P,13+L * 64+s,none⟩ (.slice none 0 0)) bm (QDq D)):=Zz (QGc HM.o (by simp;omega) _);have Q:=Zz (PF.Bv w P B K (13+L * 64+s) (.slice none 0 0) (by omega));have U:=Zz (ownsRow_setCell_below HO.o (a:=⟨P,13+L * 64+s,none⟩) au (.slice none 0 0));clear HS Y e0 m1 m2
 generalize w.setCell ⟨P,13+L * 64+s,none⟩ (.slice none 0 0)=w1 at *
 have x1:=v.o.cw L hL;have x2:=v.o.fz (717+L)
 go_region
 all_goals
  obtain⟨y,E,hy,J⟩:=IF (wd L) s ((HW.o L hL).1) hs;rw[E];have W:=Zz ((v.o.Nn L y hL).Ak ((ZV.drew)));have T:Hid (Zbe D ((w1.setCell ⟨P,717+L,none⟩ (.int .u64 (y:Int))).drew) bm (QDq D)):=Zz (QGc S.o (by simp;omega) _);have R:=Zz ((Q.o.trans (PF.Bv w1 P B K (717+L) (.int .u64 (y:Int)) (by omega))).trans (PF.Ae (ZV.drew)));have V:=Zz (Zak (ownsRow_setCell_below U.o (a:=⟨P,717+L,none⟩) au (.int .u64 (y:Int))) (ZV.drew))
  have Z:Hid (Words (BK wd L y) (BK ls k [])):=Zz (by
   rw[G.o.1];refine HW.o.set hs hy (fun j hj bh=> ?_) ?_ hL
   .rw[J j hj];simp;omega
   .rw[J s hs];simp)
  have N:Hid (∀j,j<704->∀z,(QFv a n c).ownBlock=some z->(BK BF k (QFv none 0 0) j).ownBlock≠some z):=Zz (fun j hj z hz=>by
   by_cases e:j=k
   .subst e;rw[Zbh];simp[QCi]
   .rw[Za3 _ _ _ e];exact HP.o.apart k j b hj (Ne.symm e) z (by rw[HV.o];exact hz))
  clear x1 x2 E J hy
  generalize (w1.setCell ⟨P,717+L,none⟩ (.int .u64 (y:Int))).drew=w2 at *
  go_wp2_with fail
  go_loopw [38] (fun iv wr=>∃(i:Nat),iv=.int .i64 i/\i<=n/\XK w P B K now bm D ls k q (.slice a n c) n i wr) (fun iv _=>n - (intOf iv).toNat)
  case atStart=>exact⟨0,rfl,by omega,_,_,_,W.o,T.o,R.o,Z.o,fun j=>(by simp[Zai,BK]),V.o,N.o⟩
  case round =>
   obtain⟨i,rfl,hi,hrel⟩:=hrel;have HR:=Zz hrel;clear hrel v S Q U W T R V Z N;by_cases h1:i<n
   .obtain⟨u,f,m,hp,hm,hf,hw,p,I,ha⟩:=HR.o
    have ag:i<q.length:=by have:=G.o.2.2.1;omega
    obtain⟨id,d⟩:∃x,x=(q.getD i .z).id:=⟨_,rfl⟩;obtain⟨tn,ax⟩:∃x,(q.getD i .z).tm.toNat=x:=⟨_,rfl⟩;have aw:=HI.o.2.2 i h1;obtain⟨r,nd,qk,A⟩:∃r nd qk,BL r nd qk id:=⟨_,_,_,BL.of (by rw[d];exact HI.o.1 i h1)⟩
    have H:∃g,a=some ⟨g,0,none⟩/\(wr.cell? ⟨g,i * 3,none⟩=some (.int .u64 r)/\wr.cell? ⟨g,i * 3+1,none⟩=some (.int .i64 nd))/\wr.cell? ⟨g,i * 3+2,none⟩=some (.int .i64 qk):=by
     rcases I.2 with⟨_,h2⟩ | ⟨g,cap,cur,h2,_⟩
     .omega
     .obtain⟨e1,_,e2⟩:a=some ⟨g,0,none⟩/\n=n/\c=cap:=by simpa using h2
      subst e1;have e3:(ls k).getD i 0=id:=by rw[G.o.2.1,d];simp[ag]
      have e4:i<(ls k).length:=by rw[G.o.2.2.2];exact h1
      refine⟨g,rfl,⟨?_,?_⟩,?_⟩
      .rw[<-QBl (i * 3),I.cellAt (i * 3+0) (by omega),Eh _ e4 (by omega),e3,Zc2 A];rfl
      .rw[I.cellAt (i * 3+1) (by omega),Eh _ e4 (by omega),e3,Zc2 A];rfl
      .rw[I.cellAt (i * 3+2) (by omega),Eh _ e4 (by omega),e3,Zc2 A];rfl
    obtain⟨g,rfl,⟨x0,x1⟩,x2⟩:=H
    have F:∀w5,ZY wr w5->_:=fun w5 l=>Nh w5 P B K now tn u f m bm D id r nd qk (hp.Ak l) (by
     obtain⟨es,clock,m1,m2⟩:=hm;exact⟨es,clock,(l.block bm (Array.getElem?_eq_some_iff.1 m1).1).trans m1,m2⟩) ay A (by rw[d,HI.o.2.1 i h1];congr 2;omega) hnow (by omega) (fun j hj=>(hw j hj).1) (by
     have a1:=HL.o (pl now tn);have a2:=Zc0 now (q.take i) (pl now tn);rw[QBf] at a2;rw[p,ZX]
     split
     .simp;omega
     .omega)
    have X:=Zz F;have HX:=Zz (Zq d (Zq ax aw));have bf:n<=1048576:=by have:=HL.o 0;omega
    have HG:Hid (g<wr.heap.size):=Zz (I.lt g rfl).2;clear F d ax aw;have O:=Zz (Zq hp (Zq hf (Zq hw (Zq p (Zq I ha)))));clear hp hm hf hw p I ha;go_wp2_with (go_at_call 259;refine (X.o _ (ZV.alloc ZU _)).mono ?_;rintro e w' ⟨rfl,v',x',ar,hx,aj,ae,al⟩;have HN:=Zz (Zq ar (Zq hx (Zq aj (Zq ae al))));clear ar hx aj ae al)
    go_roundw
    case rel =>
     refine⟨i+1,by go_num,by omega,?_⟩;have M:=O.o;have hN:=HN.o;have hX:=HX.o;have l:ZY wr (wr.alloc (.cells #[.int .u64 r,.int .i64 nd,.int .i64 qk] 288)):=ZV.alloc ZU _;refine XK.next (M.1.Ak l) (M.2.1.trans (PF.Ae l)) M.2.2.1 M.2.2.2.1 (Zak M.2.2.2.2.1 l) M.2.2.2.2.2 ag hX.2.1 hnow (by have:=hX.2.2;have:=hX.2.1;omega) ?_ hN.2.1 hN.2.2.1 hN.2.2.2.1 hN.2.2.2.2;rw[<-hX.1];exact hN.1
    case measure=>simp[intOf];omega
   .obtain rfl:i=n:=by omega
    go_wp2_with fail
    go_end0
    obtain⟨u,f,m,hp,hm,hf,hw,p,_,_⟩:=HR.o;refine⟨rfl,u,f,m,hp,hm,hf,hw,fun j=> ?_⟩;have e:q.take i=q:=QCw (by have:=G.o.2.2.1;omega);rw[p j,e,G.o.1]
