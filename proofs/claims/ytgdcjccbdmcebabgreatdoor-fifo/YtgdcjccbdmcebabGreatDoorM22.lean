import Derived.Test.YtgdcjccbdmcebabGreatDoorM03
import Derived.Test.YtgdcjccbdmcebabGreatDoorM04
import Derived.Test.YtgdcjccbdmcebabGreatDoorM21
import Derived.Shelf.Strconv.Itoa0
import Derived.Lib.ItoaNum
import Derived.Deep.Upon
import Derived.Deep.CutRange
set_option linter.unusedSimpArgs false
set_option linter.unusedVariables false
namespace Go.Proofs.YtgdcjccbdmcebabGreatDoor
open Go.RowKit Go.Shelf
set_option maxRecDepth 100000
def lays_len_ren:Go.Shelf.Ren:=⟨fun | 129=>222 | n=>n,fun | 3=>3 | 4=>4 | 5=>5 | 9=>9 | 46=>93 | 53=>39 | n=>n,fun | n=>n⟩
theorem lays_len:Go.Proofs.Lays.n129 Tryz.prog lays_len_ren:={
 mixed:=by kernel_rfl
 f129:=Tryz.func222.trans (congrArg some (by kernel_rfl))
 t3:=Tryz.underlying3
 a3:=Tryz.isAgg3
 z3:=Tryz.sizeOf3
 v3:=Tryz.zeroValue3
 t4:=Tryz.underlying4
 a4:=Tryz.isAgg4
 z4:=Tryz.sizeOf4
 v4:=Tryz.zeroValue4
 t5:=Tryz.underlying5
 a5:=Tryz.isAgg5
 z5:=Tryz.sizeOf5
 v5:=Tryz.zeroValue5
 t9:=Tryz.underlying9
 a9:=Tryz.isAgg9
 z9:=Tryz.sizeOf9
 v9:=Tryz.zeroValue9
 t46:=Tryz.underlying93
 a46:=Tryz.isAgg93
 z46:=Tryz.sizeOf93
 v46:=Tryz.zeroValue93
 t53:=Tryz.underlying39
 a53:=Tryz.isAgg39
 z53:=Tryz.sizeOf39
 v53:=Tryz.zeroValue39 }
theorem bitLen_bl (x:Nat)(hx:x<18446744073709551616):Lib.bitLen x=bl x:=by
 by_cases h0:x=0
 ·subst h0;rfl
 ·obtain⟨h1,h2,h3⟩:=Lib.bitLenAux_bounds 64 x hx h0
  have e:Lib.bitLen x=Lib.bitLenAux 64 x:=rfl
  rw [e]
  generalize Lib.bitLenAux 64 x=L at *
  apply Nat.le_antisymm
  ·rcases Nat.lt_or_ge (bl x) L with h4 | h4
   ·have h5:x<2 ^ (L - 1):=(bl_le x (L - 1)).1 (by omega)
    omega
   ·exact h4
  ·exact (bl_le x L).2 h3
theorem len_any (x:Nat)(w:World)(hx:x<18446744073709551616) :
  Calls Tryz.prog 222 #[.int .u64 x] w fun e w'=>e= .returned (.int .i64 (bl x))/\w'=w:=by
 have h:=Any.bits_Len64 lays_len (x:Int) w (by omega) (by omega)
 refine h.mono ?_
 rintro e w' ⟨rfl,rfl⟩
 refine⟨?_,rfl⟩
 rw [Int.toNat_natCast,bitLen_bl x hx]
theorem bits_xor_u64_nat (a b:Nat)(ha:a<18446744073709551616)(hb:b<18446744073709551616) :
  bits .xor .u64 (a:Int) (b:Int)=((a ^^^ b:Nat):Int):=by
 have hx:a ^^^ b<2 ^ 64:=Nat.xor_lt_two_pow (by omega) (by omega)
 have h1:(BitVec.ofInt 64 (a:Int)).toNat=a:=by
  rw [BitVec.ofInt_natCast,BitVec.toNat_ofNat];exact Nat.mod_eq_of_lt (by omega)
 have h2:(BitVec.ofInt 64 (b:Int)).toNat=b:=by
  rw [BitVec.ofInt_natCast,BitVec.toNat_ofNat];exact Nat.mod_eq_of_lt (by omega)
 show IntKind.u64.wrap ((BitVec.ofInt 64 (a:Int) ^^^ BitVec.ofInt 64 (b:Int)).toNat:Int)=_
 rw [BitVec.toNat_xor,h1,h2,IntKind.wrap_u64]
 omega
theorem lev_val (b:Nat)(h:b<=64):wrap64 ((max (wrap64 ((b:Int) - 1)) 0).tdiv 6)=(((b - 1) / 6:Nat):Int):=by
 have e1:wrap64 ((b:Int) - 1)=(b:Int) - 1:=by unfold wrap64;omega
 have e2:max ((b:Int) - 1) 0=((b - 1:Nat):Int):=by omega
 rw [e1,e2]
 have e3:((b - 1:Nat):Int).tdiv 6=(((b - 1) / 6:Nat):Int):=rfl
 rw [e3]
 unfold wrap64
 omega
set_option maxHeartbeats 1000000 in
theorem place_any (w:World)(P now t:Nat)(c0:w.cell? ⟨P,11,none⟩=some (.int .u64 now))(hn:now<18446744073709551616)(ht:t<18446744073709551616) :
  Calls Tryz.prog 194 #[.pointer (some ⟨P,11,none⟩), .int .u64 t] w fun e w'=>e= .returned (.tuple #[.int .i64 (lev now t), .int .i64 (slt (lev now t) t)])/\∃q,w'=w.drewN q:=by
 have hx:t ^^^ now<18446744073709551616:=by
  have:t ^^^ now<2 ^ 64:=Nat.xor_lt_two_pow (by omega) (by omega)
  omega
 have hb:=bits_xor_u64_nat t now ht hn
 go_enter Tryz.func194,Tryz.ntmps194
 go_wp2_with (go_at_call 222;refine (len_any (t ^^^ now) w hx).mono ?_;rintro e w' ⟨rfl,hw'⟩;rw [hw'])
 have hbl:bl (t ^^^ now)<=64:=(bl_le _ _).2 hx
 rw [lev_val _ hbl]
 obtain⟨L,hL⟩:∃L,L=lev now t:=⟨_,rfl⟩
 have e0:(bl (t ^^^ now) - 1) / 6=L:=hL.symm
 have hl63:L<=10:=by omega
 have HL:=Hid.mk hL
 rw [e0]
 clear hb hx hbl e0 hL
 have h1:IntKind.i64.wrap ((L:Int) * 6)=(L:Int) * 6:=by rw [IntKind.wrap_i64];omega
 go_quiet (fail)
 have hv:wrap64 (((t:Int) / 2 ^ (L * 6)).tmod 64)=(slt L t:Int):=by
  have e1:((t:Int) / 2 ^ (L * 6))=((t / 2 ^ (L * 6):Nat):Int):=by norm_cast
  rw [e1]
  have e2:((t / 2 ^ (L * 6):Nat):Int).tmod 64=((t / 2 ^ (L * 6) % 64:Nat):Int):=rfl
  rw [e2,Nat.mul_comm L 6]
  have:=Zds L t
  unfold slt at *
  unfold wrap64
  omega
 rw [hv]
 go_wp2_with fail
 go_ret2
 exact⟨by rw [<-HL.out];rfl,nq,rfl⟩
theorem start_at (now L s:Nat)(hs:s<64):start now (L * 64+s)=2 ^ (6 * (L+1)) * (now / 2 ^ (6 * (L+1)))+s * 2 ^ (6 * L):=by
 unfold start
 rw [show (L * 64+s) / 64=L by omega,show (L * 64+s) % 64=s by omega,Nat.mul_comm (now / 2 ^ (6 * (L+1)))]
theorem start_val (now L s:Nat)(hn:now<18446744073709551616)(hL:L<=10)(hs:s<64)(hst:start now (L * 64+s)<18446744073709551616) :
  bits .or .u64 (IntKind.u64.wrap ((now:Int) / 2 ^ min (6 * (L+1)) 64 * 2 ^ min (6 * (L+1)) 64)) (IntKind.u64.wrap ((s:Int) * 2 ^ (L * 6)))=(start now (L * 64+s):Int):=by
 have h0:=start_at now L s hs
 have hb:s * 2 ^ (6 * L)<18446744073709551616:=by omega
 have e1:IntKind.u64.wrap ((s:Int) * 2 ^ (L * 6))=((s * 2 ^ (6 * L):Nat):Int):=by
  have:(s:Int) * 2 ^ (L * 6)=((s * 2 ^ (6 * L):Nat):Int):=by rw [Nat.mul_comm 6 L];norm_cast
  rw [this,IntKind.wrap_u64]
  omega
 have hlt:s * 2 ^ (6 * L)<2 ^ (6 * (L+1)):=by
  rw [pow_step]
  exact Nat.mul_lt_mul_of_lt_of_le hs (Nat.le_refl _) (Nat.two_pow_pos _)
 have e2:IntKind.u64.wrap ((now:Int) / 2 ^ min (6 * (L+1)) 64 * 2 ^ min (6 * (L+1)) 64)=((2 ^ (6 * (L+1)) * (now / 2 ^ (6 * (L+1))):Nat):Int):=by
  by_cases h:L=10
  ·subst h
   have a1:(now:Int) / 2 ^ min (6 * (10+1)) 64=0:=by
    rw [show min (6 * (10+1)) 64=64 by decide];omega
   have a2:now / 2 ^ (6 * (10+1))=0:=Nat.div_eq_of_lt (by omega)
   rw [a1,a2]
   rfl
  ·rw [Nat.min_eq_left (by omega)]
   have:(now:Int) / 2 ^ (6 * (L+1)) * 2 ^ (6 * (L+1))=((2 ^ (6 * (L+1)) * (now / 2 ^ (6 * (L+1))):Nat):Int):=by
    generalize 6 * (L+1)=A
    rw [Nat.mul_comm (2 ^ A)];norm_cast
   rw [this,IntKind.wrap_u64]
   have:2 ^ (6 * (L+1)) * (now / 2 ^ (6 * (L+1)))<=now:=Nat.mul_div_le _ _
   omega
 rw [e1,e2,bits_or_u64_nat _ _ (by omega) hb,h0]
 congr 1
 exact (Nat.two_pow_add_eq_or_of_lt hlt _).symm
set_option maxHeartbeats 1000000 in
theorem start_any (w:World)(P now L s:Nat)(c0:w.cell? ⟨P,11,none⟩=some (.int .u64 now))(hn:now<18446744073709551616)(hL:L<=10)(hs:s<64)(hst:start now (L * 64+s)<18446744073709551616) :
  Calls Tryz.prog 150 #[.pointer (some ⟨P,11,none⟩), .int .i64 L, .int .i64 s] w fun e w'=>e= .returned (.int .u64 (start now (L * 64+s)))/\∃q,w'=w.drewN q:=by
 have h1:IntKind.i64.wrap ((L:Int)+1)=(L:Int)+1:=by rw [IntKind.wrap_i64];omega
 have h2:IntKind.i64.wrap (((L:Int)+1) * 6)=((L:Int)+1) * 6:=by rw [IntKind.wrap_i64];omega
 have h3:IntKind.i64.wrap ((L:Int) * 6)=(L:Int) * 6:=by rw [IntKind.wrap_i64];omega
 have h4:IntKind.u64.wrap (s:Int)=(s:Int):=by rw [IntKind.wrap_u64];omega
 go_enter Tryz.func150,Tryz.ntmps150
 go_wp2_with fail
 obtain⟨A,hA⟩:∃A,A=6 * (L+1):=⟨_,rfl⟩
 rw [show ((L:Int)+1) * 6=(A:Int) by omega]
 have HA:=Hid.mk hA
 clear hA h1 h2
 go_quiet (fail)
 have hv:=start_val now L s hn hL hs hst
 rw [<-HA.out] at hv
 rw [hv]
 clear hv
 go_wp2_with fail
 go_ret
 exact⟨rfl,nq,rfl⟩
end Go.Proofs.YtgdcjccbdmcebabGreatDoor
namespace Go.Proofs.YtgdcjccbdmcebabGreatDoor
open Go.RowKit
set_option maxRecDepth 100000
def w11 (wd:Nat->Nat):Value:= .agg #[.int .u64 (wd 0), .int .u64 (wd 1), .int .u64 (wd 2), .int .u64 (wd 3), .int .u64 (wd 4), .int .u64 (wd 5), .int .u64 (wd 6), .int .u64 (wd 7), .int .u64 (wd 8), .int .u64 (wd 9), .int .u64 (wd 10)]
theorem w11_0 (wd:Nat->Nat)(w:World):(Instr.index 136 (w11 wd) (.int .i64 0)).run Tryz.prog w= .ok (.int .u64 (wd 0)) w:=by kernel_rfl
theorem w11_1 (wd:Nat->Nat)(w:World):(Instr.index 136 (w11 wd) (.int .i64 1)).run Tryz.prog w= .ok (.int .u64 (wd 1)) w:=by kernel_rfl
theorem w11_2 (wd:Nat->Nat)(w:World):(Instr.index 136 (w11 wd) (.int .i64 2)).run Tryz.prog w= .ok (.int .u64 (wd 2)) w:=by kernel_rfl
theorem w11_3 (wd:Nat->Nat)(w:World):(Instr.index 136 (w11 wd) (.int .i64 3)).run Tryz.prog w= .ok (.int .u64 (wd 3)) w:=by kernel_rfl
theorem w11_4 (wd:Nat->Nat)(w:World):(Instr.index 136 (w11 wd) (.int .i64 4)).run Tryz.prog w= .ok (.int .u64 (wd 4)) w:=by kernel_rfl
theorem w11_5 (wd:Nat->Nat)(w:World):(Instr.index 136 (w11 wd) (.int .i64 5)).run Tryz.prog w= .ok (.int .u64 (wd 5)) w:=by kernel_rfl
theorem w11_6 (wd:Nat->Nat)(w:World):(Instr.index 136 (w11 wd) (.int .i64 6)).run Tryz.prog w= .ok (.int .u64 (wd 6)) w:=by kernel_rfl
theorem w11_7 (wd:Nat->Nat)(w:World):(Instr.index 136 (w11 wd) (.int .i64 7)).run Tryz.prog w= .ok (.int .u64 (wd 7)) w:=by kernel_rfl
theorem w11_8 (wd:Nat->Nat)(w:World):(Instr.index 136 (w11 wd) (.int .i64 8)).run Tryz.prog w= .ok (.int .u64 (wd 8)) w:=by kernel_rfl
theorem w11_9 (wd:Nat->Nat)(w:World):(Instr.index 136 (w11 wd) (.int .i64 9)).run Tryz.prog w= .ok (.int .u64 (wd 9)) w:=by kernel_rfl
theorem w11_10 (wd:Nat->Nat)(w:World):(Instr.index 136 (w11 wd) (.int .i64 10)).run Tryz.prog w= .ok (.int .u64 (wd 10)) w:=by kernel_rfl
theorem w11_at (wd:Nat->Nat)(w:World)(k:Nat)(hk:k<11):(Instr.index 136 (w11 wd) (.int .i64 k)).run Tryz.prog w= .ok (.int .u64 (wd k)) w:=by
 have:k=0\/k=1\/k=2\/k=3\/k=4\/k=5\/k=6\/k=7\/k=8\/k=9\/k=10:=by omega
 rcases this with rfl | rfl | rfl | rfl | rfl | rfl | rfl | rfl | rfl | rfl | rfl
 ·exact w11_0 wd w
 ·exact w11_1 wd w
 ·exact w11_2 wd w
 ·exact w11_3 wd w
 ·exact w11_4 wd w
 ·exact w11_5 wd w
 ·exact w11_6 wd w
 ·exact w11_7 wd w
 ·exact w11_8 wd w
 ·exact w11_9 wd w
 ·exact w11_10 wd w
def FstW (wd:Nat->Nat)(L s:Nat)(ok:Bool):Prop :=
 (ok=false/\L=0/\s=0/\∀j,j<11->wd j=0)\/(ok=true/\L<11/\(∀j,j<L->wd j=0)/\wd L≠0/\s=Lib.ctz 64 (wd L))
set_option maxHeartbeats 1000000 in
theorem first_any (w:World)(P B:Nat)(K:Nat->Prop)(now:Nat)(dm:Value)(rw_:Nat->Value)(ls:Nat->List Int)(wd:Nat->Nat)(h:PwAt w P B K now dm rw_ ls wd)(hw:∀j,j<11->wd j<18446744073709551616)(hT:TabIn w) :
  Calls Tryz.prog 149 #[.pointer (some ⟨P,11,none⟩)] w fun e w'=>∃L s ok,e= .returned (.tuple #[.int .i64 (L:Nat), .int .i64 (s:Nat), .bool ok])/\FstW wd L s ok/\w'=w:=by
 have c0:=h.cw 0 (by decide)
 have c1:=h.cw 1 (by decide)
 have c2:=h.cw 2 (by decide)
 have c3:=h.cw 3 (by decide)
 have c4:=h.cw 4 (by decide)
 have c5:=h.cw 5 (by decide)
 have c6:=h.cw 6 (by decide)
 have c7:=h.cw 7 (by decide)
 have c8:=h.cw 8 (by decide)
 have c9:=h.cw 9 (by decide)
 have c10:=h.cw 10 (by decide)
 have HW:=Hid.mk hw
 have HT:=Hid.mk hT
 have hix:=w11_at wd w
 have HV:Hid (w11 wd= .agg #[.int .u64 (wd 0), .int .u64 (wd 1), .int .u64 (wd 2), .int .u64 (wd 3), .int .u64 (wd 4), .int .u64 (wd 5), .int .u64 (wd 6), .int .u64 (wd 7), .int .u64 (wd 8), .int .u64 (wd 9), .int .u64 (wd 10)]):=Hid.mk rfl
 have HIX:=Hid.mk hix
 clear h hw hT hix
 go_enter Tryz.func149,Tryz.ntmps149
 go_wp2_with fail
 rw [<-HV.out]
 clear HV c0 c1 c2 c3 c4 c5 c6 c7 c8 c9 c10
 generalize w11 wd=AV at *
 go_loopw [11] (fun iv wr=>∃k:Nat,iv= .int .i64 k/\k<=11/\(∀j,j<k->wd j=0)/\wr=w) (fun iv _=>11 - (intOf iv).toNat)
 case atStart=>exact⟨0,rfl,by omega,fun j hj=>by omega,rfl⟩
 case round =>
  obtain⟨k,rfl,hk,hz,rfl⟩:=hrel
  have HZ:=Hid.mk hz
  clear hz
  by_cases h1:k<11
  ·have hix:=HIX.out k h1
   have hwl:=HW.out k h1
   obtain⟨x,hx⟩:∃x,x=wd k:=⟨_,rfl⟩
   rw [<-hx] at hix hwl
   have HX:=Hid.mk hx
   clear hx
   by_cases h2:x=0
   ·subst h2
    go_wp2_with fail
    go_roundw
    case rel=>exact⟨k+1,by go_num,by omega,fun j hj=>(by
     by_cases e:j=k
     ·subst e;exact HX.out.symm
     ·exact HZ.out j (by omega)),(by trivial)⟩
    case measure=>simp [intOf];omega
   ·have g1:((x:Int) == 0)=false:=by simpa using h2
    go_wp2_with (go_at_call 157;refine (tz64_any x hwl h2 _ HT.out).mono ?_;rintro e w' ⟨rfl,hw'⟩;rw [hw'])
    go_ret3
    exact⟨k,_,true,rfl,Or.inr ⟨rfl,h1,HZ.out,by rw [<-HX.out];exact h2,by rw [<-HX.out]⟩,rfl⟩
  ·obtain rfl:k=11:=by omega
   go_wp2_with fail
   go_ret3
   exact⟨0,0,false,rfl,Or.inl ⟨rfl,rfl,rfl,HZ.out⟩,rfl⟩
end Go.Proofs.YtgdcjccbdmcebabGreatDoor
namespace Go.Proofs.YtgdcjccbdmcebabGreatDoor
theorem EngUp.of {e e':EngD}(h:EngUp e){i:Nat}(hl:e'.runs.length=e.runs.length)(ho:∀j,j<e.runs.length->j≠i->e'.at_ j=e.at_ j)(hi:RunUp (e'.at_ i)):EngUp e':=by
 intro j hj
 rw [hl] at hj
 by_cases c:j=i
 ·subst c;exact hi
 ·rw [ho j hj c];exact h j hj
theorem EngUp.same {e e':EngD}(h:EngUp e)(hr:e'.runs=e.runs):EngUp e':=by
 intro j hj
 have:e'.at_ j=e.at_ j:=by unfold EngD.at_;rw [hr]
 rw [this]
 exact h j (by rwa [hr] at hj)
theorem EngUp.calm {e e':EngD}(h:EngUp e){i k:Nat}(hi:i<e.runs.length)(hk:k<(e.at_ i).steps.length){f:StD->StD}(hr:e'.runs=(e.onStep i k f).runs)
  (a:2<=((e.at_ i).at_ k).st/\((e.at_ i).at_ k).st<=4) (b:2<=(f ((e.at_ i).at_ k)).st/\(f ((e.at_ i).at_ k)).st<=4):EngUp e':=by
 refine h.of (i:=i) (Zbf hr) (fun j hj hn=>by rw [Zbr hr hj,if_neg (fun x=>hn x.symm)]) ?_
 rw [Zbr hr hi,if_pos rfl]
 exact (h i hi).calm hk a b
theorem EngUp.end_ {e:EngD}(h:EngUp e){i:Nat}(hi:i<e.runs.length){st:Int}(hst:st≠1):EngUp (e.end_ i st):=by
 refine h.of (i:=i) (end_len e i st) (fun j hj hn=>by rw [end_at e i st hj,if_neg (fun x=>hn x.symm)]) ?_
 rw [end_at e i st hi,if_pos rfl]
 exact (h i hi).half.ended hst
theorem EngUp.ready {e:EngD}(h:EngUp e){i k:Nat}(hi:i<e.runs.length)(hk:k<(e.at_ i).steps.length)(hs:((e.at_ i).at_ k).st=4):EngUp (e.ready i k) :=
 h.calm hi hk (f:=fun s=>{ s with st:=2 }) rfl (by omega) (by simp)
theorem EngUp.settled {e e1:EngD}(h:EngUp e){i:Nat}(hi:i<e1.runs.length)(hl:e1.runs.length=e.runs.length)(ho:∀j,j<e.runs.length->j≠i->e1.at_ j=e.at_ j)(hr:RunUp (e1.at_ i)):EngUp (e1.settle i) :=
 h.of (i:=i) ((settle_len e1 i).trans hl) (fun j hj hn=>(settle_other (by rw [hl];exact hj) hn).trans (ho j hj hn)) (RunUp.of_settle hi hr)
theorem RunUp.dead {r:RunD}(h:RunUp r){k:Nat}(hk:k<r.steps.length)(hs:(r.at_ k).st=3)(h1:r.st=1){r2:RunD}(hsk:SkR (r.onStep k (fun s=>{ s with st:=6 })) r2)(hsh:Shut r2):RunUp r2:=by
 have hle:=hsk.leS
 have hfl:r2.fl=r.fl:=hle.fl
 have hlen:r2.steps.length=r.steps.length:=hle.len.trans (Zal _ _ _)
 have hc:∀m,r2.at_ m=r.at_ m\/((r.at_ m).st=1/\(r2.at_ m).st=7)\/(m=k/\(r2.at_ m).st=6):=fun m=>by
  by_cases hm:m<r.steps.length
  ·rcases hle.at_ m (by rw [Zal];exact hm) with a | ⟨a,b⟩
   ·by_cases c:k=m
    ·subst c;right;right;refine⟨rfl,?_⟩;rw [a,Zbc _ _ hk]
    ·left;rw [a,Zbb _ _ c]
   ·by_cases c:k=m
    ·subst c;rw [Zbc _ _ hk] at a;simp at a
    ·rw [Zbb _ _ c] at a b
     right;left;exact⟨a,by rw [b];rfl⟩
  ·left
   rw [at_out (by rw [hlen];exact hm),at_out hm]
 refine⟨h.half.to hfl hlen (fun m _ x y=> ?_) (fun m x=> ?_) (fun _ m hm=>hsh m (by rw [hlen];exact hm)),fun _ m hm=>not_free hfl (h.still h1 m (by omega)) (fun x=> ?_) (fun m x=> ?_)⟩
 ·rcases hc m with a | ⟨_,a⟩ | ⟨a,_⟩
  ·rw [a] at x y;exact Or.inl ⟨x,y⟩
  ·omega
  ·subst a;left;omega
 ·rcases hc m with a | ⟨a,_⟩ | ⟨a,_⟩
  ·rw [a];exact x
  ·omega
  ·subst a;omega
 ·rcases hc m with a | ⟨_,a⟩ | ⟨_,a⟩
  ·rwa [a] at x
  ·omega
  ·omega
 ·rcases hc m with a | ⟨_,a⟩ | ⟨_,a⟩
  ·rwa [a] at x
  ·omega
  ·omega
theorem EngUp.fails {e:EngD}(h:EngUp e)(ho:EngOk e){i k:Nat}(hi:i<e.runs.length)(hk:k<(e.at_ i).steps.length)(hs:((e.at_ i).at_ k).st=3):EngUp (e.fails i k):=by
 by_cases hlt:((e.at_ i).at_ k).tries<(e.at_ i).fl.bu k
 ·rw [fails_rest hlt]
  exact h.calm hi hk rfl (by omega) (by simp)
 ·rw [fails_dead hi hlt]
  have h1:=ho.wk.runs_of hi hk (by omega)
  have ha:=Zbr (e':=e.onStep i k (fun s=>{ s with st:=6 })) (f:=fun s=>{ s with st:=6 }) (k:=k) rfl hi
  rw [if_pos rfl] at ha
  rw [ha]
  obtain⟨k1,k2⟩:=skipN_shut ((e.at_ i).onStep k (fun s=>{ s with st:=6 }))
  rw [Zal] at k1 k2
  have hru:=(h i hi).dead hk hs h1 k1 k2
  generalize RunD.skipN (e.at_ i).steps.length ((e.at_ i).onStep k (fun s=>{ s with st:=6 }))=r2 at *
  have he:(e.onStep i k (fun s=>{ s with st:=6 })).onRun i (fun _=>r2)=e.onRun i (fun _=>r2):=by unfold EngD.onStep;rw [Zdz]
  rw [he]
  refine h.settled (by rw [Zbh];exact hi) (Zbh e i _) (fun j hj hn=>by rw [Zb1 e i j _ hj,if_neg (fun x=>hn x.symm)]) ?_
  rw [Zb1 e i i _ hi,if_pos rfl]
  exact hru
theorem RunUp.doneHalf {r:RunD}(h:RunUp r){k:Nat}(hk:k<r.steps.length)(hs:(r.at_ k).st=3):RunHalf (r.onStep k (fun s=>{ s with st:=5 })):=by
 have hc:∀m,(r.onStep k (fun s=>{ s with st:=5 })).at_ m=r.at_ m\/(m=k/\((r.onStep k (fun s=>{ s with st:=5 })).at_ m).st=5):=fun m=>by
  by_cases c:k=m
  ·subst c;right;exact⟨rfl,by rw [Zbc _ _ hk]⟩
  ·left;exact Zbb _ _ c
 refine h.half.to rfl (Zal _ _ _) (fun m _ x y=> ?_) (fun m x=> ?_) (fun g m hm=>not_lost (r:=r) rfl (h.half.shut g m hm) (fun x=> ?_) (fun m x=> ?_))
 ·rcases hc m with a | ⟨a,_⟩
  ·rw [a] at x y;exact Or.inl ⟨x,y⟩
  ·subst a;left;omega
 ·rcases hc m with a | ⟨_,a⟩
  ·rw [a];exact x
  ·exact a
 ·rcases hc m with a | ⟨_,a⟩
  ·rwa [a] at x
  ·omega
 ·rcases hc m with a | ⟨_,a⟩
  ·rwa [a] at x
  ·omega
theorem EngUp.complete {e e':EngD}(h:EngUp e)(ho:EngOk e){tok:Int}(he:e.complete tok=some e'):EngUp e':=by
 unfold EngD.complete at he
 split at he
 ·cases he
 ·rename_i i k ht
  obtain⟨hi,hk,hs,_⟩:=task_is ht
  cases he
  have h1:=ho.wk.runs_of hi hk (by omega)
  have hw:=ho.wk.over hi hk 5 (by omega) (by omega) (by omega)
  have kin:=Kin.onStep e k (fun s=>{ s with st:=5 }) e.queue hi
  have kin:Kin e (e.onStep i k (fun s=>{ s with st:=5 })) i:=kin
  have hi2:i<(e.onStep i k (fun s=>{ s with st:=5 })).runs.length:=by rw [kin.len];exact hi
  have h12:((e.onStep i k (fun s=>{ s with st:=5 })).at_ i).st=1:=by rw [kin.st];exact h1
  obtain⟨_,g2⟩:=hw.wake hi2 h12
  have kin2:=kin.trans g2
  have ha:=Zbr (e':=e.onStep i k (fun s=>{ s with st:=5 })) (f:=fun s=>{ s with st:=5 }) (k:=k) rfl hi
  rw [if_pos rfl] at ha
  refine h.settled (by rw [kin2.len];exact hi) kin2.len kin2.others (RunHalf.wake hw hi2 h12 ?_)
  rw [ha]
  exact (h i hi).doneHalf hk hs
theorem EngUp.fail {e e':EngD}(h:EngUp e)(ho:EngOk e){tok:Int}(he:e.fail tok=some e'):EngUp e':=by
 unfold EngD.fail at he
 split at he
 ·cases he
 ·rename_i i k ht
  obtain⟨a,b,c,_⟩:=task_is ht
  cases he
  exact h.fails ho a b c
theorem poll_is {e e':EngD}(ho:EngOk e){p:PlD}{t tk:Int}(he:e.poll=some (p,t,tk,e')) :
  ∃i,e.find p.run=some i/\i<e.runs.length/\(e.at_ i).id=p.run/\p.node<(e.at_ i).steps.length/\((e.at_ i).at_ p.node).st=2/\(e.at_ i).st=1/\t=((e.at_ i).at_ p.node).tries+1/\tk=e.lastTok+1/\e.queue=p::e'.queue/\e'.lastTok=e.lastTok+1/\e'.time=e.time/\e'.seed=e.seed/\e'.ends=e.ends/\e'.lastRun=e.lastRun /\
   e'.runs=(e.onStep i p.node (fun s=>{ s with st:=3,tries:=t,tok:=tk,fin:=Zas e.time ((e.at_ i).fl.cl p.node),finAt:=e.timers+1,sign:=if (e.at_ i).fl.be p.node > 0 then Zas e.time ((e.at_ i).fl.be p.node) else 0,signAt:=if (e.at_ i).fl.be p.node > 0 then e.timers+2 else s.signAt })).runs:=by
 unfold EngD.poll at he
 split at he
 ·cases he
 ·rename_i p0 q hq
  split at he
  ·cases he
  ·rename_i i hf
   obtain⟨hi,hid⟩:=find_is hf
   simp only [Option.some.injEq,Prod.mk.injEq] at he
   obtain⟨rfl,rfl,rfl,rfl⟩:=he
   obtain⟨i2,q1,q2,q3,q4⟩:=(ho.wk.qm p0).1 (by rw [hq];exact List.mem_cons_self ..)
   have:=ho.wk.id_inj hi q1 (by rw [hid,q2])
   subst this
   exact⟨i,hf,hi,hid,q3,q4,ho.wk.runs_of hi q3 (by omega),rfl,rfl,hq,rfl,rfl,rfl,rfl,rfl,rfl⟩
theorem EngUp.poll {e e':EngD}(h:EngUp e)(ho:EngOk e){p:PlD}{t tk:Int}(he:e.poll=some (p,t,tk,e')):EngUp e':=by
 obtain⟨i,_,a,_,b,c,_,_,_,_,_,_,_,_,_,d⟩:=poll_is ho he
 exact h.calm a b d (by omega) (by simp)
theorem EngUp.happens {e:EngD}(h:EngUp e)(ho:EngOk e){d:TmD}(hd:DueE e d)(hm:∀x,DueE e x->d.tm<=x.tm):EngUp (e.happens d):=by
 have hq:=ho.wk.due_sq hd
 have h1:EngOk { e with time:=max e.time d.tm }:=ho.at_time (by omega) (by have:=ho.wk.tB;omega) (fun x hx=>by have:=hm x hx;have:=(ho.wk.due_sq hx).2;omega)
 have hu:EngUp { e with time:=max e.time d.tm }:=h.same rfl
 obtain⟨hi,_,hk⟩:=hd
 unfold EngD.happens
 cases hdk:d.k with
 | none=>exact hu.end_ hi (by omega)
 | some k =>
  rw [hdk] at hk
  simp only at hk ⊢
  split
  ·rename_i h4
   exact hu.ready hi hk.1 h4
  ·rename_i h4
   refine hu.fails h1 hi hk.1 ?_
   have:=hk.2
   unfold StD.due at this
   split at this
   ·exact this.1
   ·exact this.1.resolve_right h4
theorem happens_time (e:EngD)(d:TmD):(e.happens d).time=max e.time d.tm:=by
 unfold EngD.happens
 split
 ·rfl
 ·split
  ·rfl
  ·unfold EngD.fails
   simp only
   split
   ·rfl
   ·unfold EngD.settle
    split<;>rfl
theorem HapR.engUp {tt:Int}{e e2:EngD}(hr:HapR tt e e2)(h:EngUp e)(ho:EngOk e)(h1:e.time<=tt):EngUp e2:=by
 induction hr with
 | none e _=>exact h.same rfl
 | step e e2 b hb hle _ ih =>
  obtain⟨d1,d2⟩:=best_min hb
  exact ih (h.happens ho d1 d2) (ho.happens d1 d2) (by rw [happens_time];omega)
theorem TickR.engUp {e e2:EngD}{t:Int}(hr:TickR e t e2)(h:EngUp e)(ho:EngOk e)(ht:0<=t):EngUp e2 :=
 HapR.engUp hr h ho (upTo_bd ho.wk ht).1
theorem fresh_half (e:EngD)(f:FlowD):RunHalf (e.fresh f):=by
 have hs:∀m,((e.fresh f).at_ m).st<=1:=fun m=>by
  by_cases hm:m<(e.fresh f).steps.length
  ·rw [Zbp] at hm;rw [Zcn e f hm];decide
  ·rw [at_out hm];decide
 refine⟨fun k _ x _=>by have:=hs k;omega,fun _ k _=> ?_⟩
 rw [Bool.eq_false_iff]
 intro x
 obtain⟨_,a,_,d⟩:=lost_iff.1 x
 have:=hs ((e.fresh f).fl.af k a).toNat
 omega
theorem EngUp.begin {e:EngD}(h:EngUp e)(ho:EngOk e)(h5:e.runs.length<6){f:FlowD}(hf:FlOk f):EngUp (e.begin f):=by
 have hw:=ho.wk.more h5 hf
 have hi:e.runs.length<(e.more f).runs.length:=by rw [Za2];omega
 have h1:((e.more f).at_ e.runs.length).st=1:=by rw [Za1];rfl
 obtain⟨_,g2⟩:=hw.wake hi h1
 rw [Zc2]
 intro j hj
 rw [g2.len,Za2] at hj
 by_cases hji:j=e.runs.length
 ·subst hji
  exact RunHalf.wake hw hi h1 (by rw [Za1];exact fresh_half e f)
 ·rw [g2.others j (by rw [Za2];omega) hji,Zbv e f (by omega)]
  exact h j (by omega)
theorem EngUp.cut {e:EngD}(h:EngUp e){o:Nat}(ho:o<e.runs.length):EngUp (e.cut o):=by
 intro j hj
 have:=Zd4 e ho
 rw [cut_at e ho]
 exact h _ (by split<;>omega)
theorem EngUp.submit {e e':EngD}(h:EngUp e)(ho:EngOk e){f:FlowD}(hf:FlOk f)(he:e.submit f=some e'):EngUp e':=by
 have h6:=ho.wk.six
 unfold EngD.submit at he
 split at he
 ·split at he
  ·cases he
  ·rename_i o hold
   cases he
   obtain⟨o1,o2,_⟩:=oldest_is hold
   have hst:(e.at_ o).st≠1:=fun x=>by
    have:=(ho.wk.runs o o1).goes.1 x
    unfold EngD.at_ at this
    omega
   have hcl:=Zd4 e o1
   exact EngUp.begin (h.cut o1) (ho.cut o1 hst) (by omega) hf
 ·cases he
  exact h.begin ho (by omega) hf
theorem engNew_up:EngUp Za5:=fun i hi=>by simp [Za5] at hi
end Go.Proofs.YtgdcjccbdmcebabGreatDoor
namespace Go.Proofs.YtgdcjccbdmcebabGreatDoor
set_option maxRecDepth 100000
structure F2Is (f:FlowD):Prop where
 n:f.n=2
 dl:f.dl=100
 bu0:f.bu 0=2
 cl0:f.cl 0=9
 cl1:f.cl 1=9
 be0:f.be 0=0
 be1:f.be 1=0
 ba0:f.ba 0=3
 ca0:f.ca 0=9
 ji0:f.ji 0=0
 an0:f.an 0=0
 an1:f.an 1=1
 af1:f.af 1 0=0
def o1 (f:FlowD):EngD:=⟨0,0,[⟨1,f,1,100,1,[⟨2,0,0,0,0,0,0⟩,⟨1,0,0,0,0,0,0⟩],0⟩],[⟨1,0⟩],1,0,1,0⟩
def o2 (f:FlowD):EngD:=⟨0,0,[⟨1,f,1,100,1,[⟨3,1,1,9,0,2,0⟩,⟨1,0,0,0,0,0,0⟩],0⟩],[],1,1,2,0⟩
def o3 (f:FlowD):EngD:=⟨0,0,[⟨1,f,1,100,1,[⟨4,1,1,3,0,3,0⟩,⟨1,0,0,0,0,0,0⟩],0⟩],[],1,1,3,0⟩
def o4 (f:FlowD):EngD:=⟨3,0,[⟨1,f,1,100,1,[⟨2,1,1,3,0,3,0⟩,⟨1,0,0,0,0,0,0⟩],0⟩],[⟨1,0⟩],1,1,3,0⟩
def o5 (f:FlowD):EngD:=⟨3,0,[⟨1,f,1,100,1,[⟨3,2,2,12,0,4,0⟩,⟨1,0,0,0,0,0,0⟩],0⟩],[],1,2,4,0⟩
def o6 (f:FlowD):EngD:=⟨3,0,[⟨1,f,1,100,1,[⟨5,2,2,12,0,4,0⟩,⟨2,0,0,0,0,0,0⟩],0⟩],[⟨1,1⟩],1,2,4,0⟩
def o7 (f:FlowD):EngD:=⟨3,0,[⟨1,f,1,100,1,[⟨5,2,2,12,0,4,0⟩,⟨3,1,3,12,0,5,0⟩],0⟩],[],1,3,5,0⟩
def o8 (f:FlowD):EngD:=⟨3,0,[⟨1,f,2,100,1,[⟨5,2,2,12,0,4,0⟩,⟨5,1,3,12,0,5,0⟩],1⟩],[],1,3,5,1⟩
theorem o1_is {f:FlowD}(h:F2Is f):Za5.submit f=some (o1 f):=by
 obtain⟨n,dl,bu0,cl0,cl1,be0,be1,ba0,ca0,ji0,an0,an1,af1⟩:=h
 simp [Za5,EngD.submit,EngD.begin,EngD.wake,EngD.at_,RunD.at_,RunD.free,EngD.ready,EngD.onStep,EngD.onRun,RunD.onStep,n,dl,an0,an1,af1,Zas,List.range_succ,List.replicate_succ,o1]
theorem o2_is {f:FlowD}(h:F2Is f):(o1 f).poll=some (⟨1,0⟩,1,1,o2 f):=by
 obtain⟨n,dl,bu0,cl0,cl1,be0,be1,ba0,ca0,ji0,an0,an1,af1⟩:=h
 simp [o1,o2,EngD.poll,EngD.find,List.findIdx?_cons,EngD.at_,RunD.at_,EngD.onStep,EngD.onRun,RunD.onStep,cl0,be0,Zas]
theorem o2_poll (f:FlowD):(o2 f).poll=none:=by simp [o2,EngD.poll]
theorem o3_is {f:FlowD}(h:F2Is f):(o2 f).fail 1=some (o3 f):=by
 obtain⟨n,dl,bu0,cl0,cl1,be0,be1,ba0,ca0,ji0,an0,an1,af1⟩:=h
 simp [o2,o3,EngD.fail,EngD.task,RunD.work,List.findIdx?_cons,EngD.fails,EngD.at_,RunD.at_,EngD.onStep,EngD.onRun,RunD.onStep,bu0,ba0,ca0,ji0,Zas,Zdt,pw]
 decide
theorem o4_dues {f:FlowD}:(o3 f).dues=[⟨0,none,false,100,1⟩,⟨0,some 0,false,3,3⟩]:=by
 simp [o3,EngD.dues,EngD.at_,RunD.at_,RunD.dues,StD.dues,List.range_succ]
theorem o4_dues2 {f:FlowD}:(o4 f).dues=[⟨0,none,false,100,1⟩]:=by
 simp [o4,EngD.dues,EngD.at_,RunD.at_,RunD.dues,StD.dues,List.range_succ]
theorem o4_is {f:FlowD}:TickR (o3 f) 3 (o4 f):=by
 unfold TickR
 have e:(o3 f).upTo 3=3:=by simp [EngD.upTo,o3]
 rw [e]
 refine .step _ _ 1 ?_ ?_ ?_
 ·rw [o4_dues];decide
 ·rw [o4_dues];decide
 ·rw [o4_dues]
  have e2:(o3 f).happens (([⟨0,none,false,100,1⟩,⟨0,some 0,false,3,3⟩]:List TmD).getD 1 .z)=o4 f:=by
   simp [o3,o4,EngD.happens,EngD.at_,RunD.at_,EngD.ready,EngD.onStep,EngD.onRun,RunD.onStep]
   decide
  rw [e2]
  have e3:o4 f={ o4 f with time:=3 }:=rfl
  rw [e3]
  refine .none _ ?_
  intro b hb
  rw [<-e3,o4_dues2] at hb ⊢
  have:bestT ([⟨0,none,false,100,1⟩]:List TmD) 1=some 0:=by decide
  rw [show ([⟨0,none,false,100,1⟩]:List TmD).length=1 from rfl,this] at hb
  cases hb
  decide
theorem o4_uniq {f:FlowD}{e:EngD}(h:TickR (o3 f) 3 e):e=o4 f:=h.uniq o4_is
theorem o5_is {f:FlowD}(h:F2Is f):(o4 f).poll=some (⟨1,0⟩,2,2,o5 f):=by
 obtain⟨n,dl,bu0,cl0,cl1,be0,be1,ba0,ca0,ji0,an0,an1,af1⟩:=h
 simp [o4,o5,EngD.poll,EngD.find,List.findIdx?_cons,EngD.at_,RunD.at_,EngD.onStep,EngD.onRun,RunD.onStep,cl0,be0,Zas]
theorem o6_is {f:FlowD}(h:F2Is f):(o5 f).complete 2=some (o6 f):=by
 obtain⟨n,dl,bu0,cl0,cl1,be0,be1,ba0,ca0,ji0,an0,an1,af1⟩:=h
 simp [o5,o6,EngD.complete,EngD.task,RunD.work,List.findIdx?_cons,EngD.wake,RunD.free,EngD.ready,EngD.settle,RunD.outcome,EngD.at_,RunD.at_,EngD.onStep,EngD.onRun,RunD.onStep,an1,af1,List.range_succ]
theorem o7_is {f:FlowD}(h:F2Is f):(o6 f).poll=some (⟨1,1⟩,1,3,o7 f):=by
 obtain⟨n,dl,bu0,cl0,cl1,be0,be1,ba0,ca0,ji0,an0,an1,af1⟩:=h
 simp [o6,o7,EngD.poll,EngD.find,List.findIdx?_cons,EngD.at_,RunD.at_,EngD.onStep,EngD.onRun,RunD.onStep,cl1,be1,Zas]
theorem o8_is {f:FlowD}(h:F2Is f):(o7 f).complete 3=some (o8 f):=by
 obtain⟨n,dl,bu0,cl0,cl1,be0,be1,ba0,ca0,ji0,an0,an1,af1⟩:=h
 simp [o7,o8,EngD.complete,EngD.task,RunD.work,List.findIdx?_cons,EngD.wake,RunD.free,EngD.ready,EngD.settle,RunD.outcome,EngD.end_,EngD.at_,RunD.at_,EngD.onStep,EngD.onRun,RunD.onStep,List.range_succ]
end Go.Proofs.YtgdcjccbdmcebabGreatDoor
