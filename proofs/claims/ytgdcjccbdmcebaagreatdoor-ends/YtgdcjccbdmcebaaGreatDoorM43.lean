import Derived.Test.YtgdcjccbdmcebaaGreatDoorM41
import Derived.Test.YtgdcjccbdmcebaaGreatDoorM42
import Derived.Laws.Cover3
import Derived.ChangeKeysEq
set_option linter.unusedSimpArgs false
set_option linter.unusedVariables false
set_option maxHeartbeats 4000000
set_option maxRecDepth 100000
open Go.Proofs.Tryz
namespace Go.Proofs.YtgdcjccbdmcebaaGreatDoor
open Go.RowKit
variable {l:List Int}{f:Nat->Nat}{ob:Option Nat}{w:World}{e e' e2:Ab}{k o:Nat}
theorem ZM (x:Nat)(i:Nat)(g:x<256):Op.shift .shl .u64 (x:Int) .i64 (8 * (i:Int))=pure (.int .u64 ((Nq x i:Nat):Int)):=by
 have b:¬(8 * (i:Int)<0):=by omega
 have e:(8 * (i:Int)).toNat=8 * i:=by omega
 unfold Nq;by_cases h:i<8
 ·have d:(8 * (i:Int))<=64:=by omega
  have:=shift_shl .u64 .i64 (x:Int) (8 * (i:Int)) (by omega) d;rw[this,if_pos h,e]
  congr 2
  rw[IntKind.wrap_u64];have a:=Nr g i;unfold Nq at a;rw[if_pos h] at a;have c:((x * 2 ^ (8 * i):Nat):Int)=(x:Int) * 2 ^ (8 * i):=by push_cast;rfl
  rw[<-c];omega
 ·rw[if_neg h]
  have hm:min (8 * (i:Int)).toNat IntKind.u64.bits=64:=by rw[e];show min (8 * i) 64=64;omega
  simp only[Op.shift,hm];rw[if_neg b]
  congr 2
  rw[IntKind.wrap_u64];omega
attribute [local go_sem ↓] Go.wp_at_zero Go.wp_at_succ
theorem Zbu (w:World)(a:Option Addr)(n c:Nat)(f:Nat->Nat)(hn:n<=1000000)(v:Aw w a n c f) :
  Calls prog 125 #[.slice a n c] w fun x w'=>w'=w/\x= .returned (.int .u64 (DL f n:Nat)):=by
 go_enter func125,ntmps125
 go_wp2_with fail
 go_loopw [2,7] (fun z q wr=>wr=w/\∃i:Nat,z= .int .u64 (DL f i:Nat)/\q= .int .i64 i/\i<=n) (fun _ q _=>n - (intOf q).toNat)
 case atStart=>exact⟨rfl,0,rfl,rfl,by omega⟩
 case round =>
  obtain⟨rfl,i,rfl,rfl,hi⟩:=hrel;by_cases u:i<n
  ·rcases v with B | ⟨b,o,rfl,C,D,E,j⟩
   ·omega
   obtain⟨F,r⟩:=j i u;have i1:(i:Int)<(n:Int):=by omega
   have hm:=RM n (fun k y=>(j k y).2) i (by omega);have h:=Nr r i;have A:IntKind.i64.wrap (8 * (i:Int))=8 * (i:Int):=by rw[IntKind.wrap_i64];omega
   have p:=ZM (f i) i r
   have g:bits .or .u64 ((DL f i:Nat):Int) ((Nq (f i) i:Nat):Int)=((DL f (i+1):Nat):Int):=by
    rw[bits_or_u64_nat _ _ hm h];rfl
   obtain⟨m,em⟩:∃m,m=DL f i:=⟨_,rfl⟩;obtain⟨s,es⟩:∃s,s=Nq (f i) i:=⟨_,rfl⟩;obtain⟨m2,d⟩:∃m2,m2=DL f (i+1):=⟨_,rfl⟩;rw[<-em] at g ⊢;rw[<-es] at p g;rw[<-d] at g;have t:=Zz d;clear j hm h em es d;go_wp2_with fail
   go_roundw
   case rel=>exact⟨trivial,i+1,by rw[t.o],by go_num,by omega⟩
   case measure=>simp[intOf];omega
  ·have i1:¬(i:Int)<(n:Int):=by omega
   obtain rfl:i=n:=by omega
   go_wp2_with fail
   go_ret
   refine⟨?_,?_⟩<;>first | trivial | rfl
open Go.RowKit
attribute [local go_sem ↓] Go.wp_at_zero Go.wp_at_succ
def CB (n:Nat)(f:Nat->Nat):Nat:=6+(if 0<n then f 0 else 0)+256 * (if 1<n then f 1 else 0)
theorem TP (x:Nat)(a:x<256):Op.shift .shl .i64 (x:Int) .i64 0=pure (.int .i64 (x:Int)):=by
 have:=shift_shl .i64 .i64 (x:Int) 0 (by omega) (by decide);rw[this]
 congr 2
 rw[IntKind.wrap_i64];simp;omega
theorem TQ (x:Nat)(a:x<256):Op.shift .shl .i64 (x:Int) .i64 8=pure (.int .i64 ((256 * x:Nat):Int)):=by
 have:=shift_shl .i64 .i64 (x:Int) 8 (by omega) (by decide);rw[this]
 congr 2
 rw[IntKind.wrap_i64];simp;omega
theorem MD (w:World)(a:Option Addr)(n c:Nat)(f:Nat->Nat)(m:Aw w a n c f)(q:1<=n) :
  Calls prog 242 #[.slice a n c] w fun x w'=>x= .returned (.int .i64 (CB n f:Nat))/\w'=w:=by
 rcases m with p | ⟨b,o,rfl,r,j,s,d⟩
 ·omega
 obtain⟨t0,g⟩:=d 0 (by omega);rw[Nat.add_zero] at t0;have s0:=TP (f 0) g;unfold maxLen at j;by_cases h:n=1
 ·subst h
  have e:CB 1 f=6+f 0:=by simp[CB]
  rw[e];have m1:min (2:Int) 1=1:=by decide
  have m2:max (1:Int) 0=1:=by decide
  clear d e
  go_enter func242,ntmps242
  go_wp2_with fail
  refine wp_loop_rounds 2 ?_;rw[rounds_succ];go_wp2_with fail
  rw[rounds_succ];go_wp2_with fail
  go_ret
  exact⟨by first | rfl | (congr 2;push_cast;omega),rfl⟩
 ·obtain⟨t1,i⟩:=d 1 (by omega)
  have s1:=TQ (f 1) i;have e:CB n f=6+f 0+256 * f 1:=by unfold CB;rw[if_pos (by omega),if_pos (by omega)]
  rw[e];have t:(2:Int)<=(n:Int):=by omega
  have u:min (2:Int) (n:Int)=2:=by omega
  clear d e
  go_enter func242,ntmps242
  go_wp2_with fail
  refine wp_loop_rounds 3 ?_;rw[rounds_succ];go_wp2_with fail
  rw[rounds_succ];go_wp2_with fail
  rw[rounds_succ];go_wp2_with fail
  go_ret
  exact⟨by first | rfl | (congr 2;push_cast;omega),rfl⟩
theorem infoU8:∃i,prog.info? 5=some i:=info_of_underlying underlying5
theorem Yh:prog.cellsOf 5=1:=by kernel_rfl
theorem Yx (w:World)(a0 a1 a2 a3 g j m n:Int):(binOp .eql 390 (.agg #[.int .u8 a0, .int .u8 a1, .int .u8 a2, .int .u8 a3]) (.agg #[.int .u8 g, .int .u8 j, .int .u8 m, .int .u8 n])).run prog w= .ok (.bool (decide ([a0,a1,a2,a3]=[g,j,m,n]))) w:=by
 obtain⟨i,hi⟩:=infoU8;have h:=run_equalIn_array (P:=prog) w 9999 #[.int .u8 a0, .int .u8 a1, .int .u8 a2, .int .u8 a3] #[.int .u8 g, .int .u8 j, .int .u8 m, .int .u8 n] underlying390 hi;rw[Yh] at h;have hu:=underlying5;have q:List.range 4=[0,1,2,3]:=by decide
 rw[q] at h;simp only[binOp,Op.equal,Sem.run_bind];rw[show Op.maxDepth=9999+1 from rfl,h];have p:prog.plainKey 5=true:=by unfold Program.plainKey;rw[hu]
 have hp:∀(a b c d:Int) (w:World),((part 5 #[.int .u8 a, .int .u8 b, .int .u8 c, .int .u8 d] 0).run prog w= .ok (.int .u8 a) w/\(part 5 #[.int .u8 a, .int .u8 b, .int .u8 c, .int .u8 d] 1).run prog w= .ok (.int .u8 b) w)/\((part 5 #[.int .u8 a, .int .u8 b, .int .u8 c, .int .u8 d] 2).run prog w= .ok (.int .u8 c) w/\(part 5 #[.int .u8 a, .int .u8 b, .int .u8 c, .int .u8 d] 3).run prog w= .ok (.int .u8 d) w):=fun a b c d w=>⟨⟨run_part_plain w p rfl,run_part_plain w p rfl⟩,⟨run_part_plain w p rfl,run_part_plain w p rfl⟩⟩
 have he:∀(x y:Int) (w:World),(Op.equalIn 9999 5 (.int .u8 x) (.int .u8 y)).run prog w= .ok (decide (x=y)) w:=fun x y w=>by
  have:=run_equalIn_int (P:=prog) w 9998 5 .u8 .u8 x y hu;rw[show (9999:Nat)=9998+1 from rfl,this]
  congr 1
 simp[Op.eqItems,hp,he];by_cases c0:a0=g<;>by_cases c1:a1=j<;>by_cases c2:a2=m<;>by_cases c3:a3=n<;>simp[c0,c1,c2,c3]
def Jt (f:Nat->Nat)(o n:Nat):List Int:=(List.range n).map fun k=>((f (o+k):Nat):Int)
theorem Ju (f:Nat->Nat)(o n:Nat):(Jt f o n).length=n:=by simp[Jt]
theorem VM (f:Nat->Nat)(o n:Nat)(h:k<n):(Jt f o n).getD k 0=((f (o+k):Nat):Int):=by
 unfold Jt;rw[ZQ,List.getElem?_map,List.getElem?_range h]
 rfl
theorem VL {n:Nat}(h:∀k,k<n->f (o+k)<256):BB (Jt f o n):=by
 intro x a;unfold Jt at a;obtain⟨k,b,rfl⟩:=List.mem_map.1 a;have:=h k (List.mem_range.1 b);omega
theorem Sx (w:World)(b o n c:Nat)(f:Nat->Nat)(M:Aw w (some ⟨b,o,none⟩) n c f)(hn:n<=1000000000000)(F:1<=n)(Y:CB n f<=n) :
  Calls prog 167 #[.slice (some ⟨b,o,none⟩) n c] w fun x w'=>∃g,x= .returned (.tuple #[.slice g (CB n f - 6) (CB n f - 6), .int .i64 (CB n f:Nat), .bool (decide (CY (Jt f 2 (CB n f - 6))=Jt f (CB n f - 4) 4))])/\(6<CB n f->g=some ⟨b,o+2,none⟩)/\Below w.heap.size w w':=by
 have HL:=Zz (MD w _ n c f M F);obtain⟨L,H⟩:∃L,L=CB n f:=⟨_,rfl⟩;have W:6<=L:=by rw[H];unfold CB;omega
 rw[<-H] at HL Y ⊢;rcases M with J | ⟨Z,o',e0,K,G,V,A⟩
 ·omega
 simp only[Option.some.injEq,Addr.mk.injEq] at e0;obtain⟨rfl,rfl,_⟩:=e0;unfold maxLen at G;obtain⟨g,p⟩:∃g:Option Addr,g=if L - 4=2 then some ⟨b,o,none⟩ else some ⟨b,o+2,none⟩:=⟨_,rfl⟩
 have d:6<L->g=some ⟨b,o+2,none⟩:=fun h=>by rw[p,if_neg (by omega)]
 have hrec:Aw w g (L - 6) (L - 6) (fun k=>((Jt f 2 (L - 6)).getD k 0).toNat):=by
  by_cases c0:L - 6=0
  ·exact Zu c0
  ·refine Zj ⟨b,o+2,d (by omega),Zx _,by unfold maxLen;omega,V,fun k N=> ?_⟩
   obtain⟨q1,B⟩:=A (2+k) (by omega);show w.cell? ⟨b,o+2+k,none⟩=some (.int .u8 ((((Jt f 2 (L - 6)).getD k 0).toNat:Nat):Int))/\((Jt f 2 (L - 6)).getD k 0).toNat<256;rw[VM f 2 (L - 6) N];exact⟨by rw[show o+2+k=o+(2+k) by omega];exact q1,B⟩
 have y:∀wx,Below w.heap.size w wx->Calls prog 243 #[.slice g (L - 6) (L - 6)] wx fun x w'=>x= .returned (Mf (Jt f 2 (L - 6)))/\Below w.heap.size w w':=fun wx i=>by
  have:=Ph wx g (L - 6) (Jt f 2 (L - 6)) (VL fun k N=>(A (2+k) (by omega)).2) (by rw[Ju];omega) (by rw[Ju];exact Aw.below hrec i);rw[Ju] at this;refine this.mono ?_;rintro x w' ⟨rfl,I⟩;exact⟨rfl,i.trans (I.mono i.size)⟩
 have q:=fun j (hj:j<4)=>A (L - 4+j) (by omega)
 obtain⟨q0,r0⟩:=q 0 (by omega);rw[Nat.add_zero] at q0 r0;obtain⟨q1,r1⟩:=q 1 (by omega);rw[<-Nat.add_assoc] at q1;obtain⟨B,r2⟩:=q 2 (by omega);rw[<-Nat.add_assoc] at B;obtain⟨O,r3⟩:=q 3 (by omega);rw[<-Nat.add_assoc] at O;have E:=Zz y;obtain⟨v0,r⟩:∃v0,v0=DI (Jt f 2 (L - 6)) % 256:=⟨_,rfl⟩;obtain⟨v1,s⟩:∃v1,v1=DI (Jt f 2 (L - 6)) / 256 % 256:=⟨_,rfl⟩;obtain⟨v2,t⟩:∃v2,v2=DI (Jt f 2 (L - 6)) / 65536 % 256:=⟨_,rfl⟩;obtain⟨v3,u⟩:∃v3,v3=(DI (Jt f 2 (L - 6)) / 16777216 % 256 ||| 1):=⟨_,rfl⟩;unfold Mf at E;rw[<-r,<-s,<-t,<-u] at E;have R:=Zz (Zq r (Zq s (Zq t u)));have D:=Zz d;have heq:=fun (w':World)=>Yx w' (f (L - 4)) (f (L - 4+1)) (f (L - 4+2)) (f (L - 4+3)) v0 v1 v2 v3;obtain⟨z,m⟩:∃z,z=decide (([((f (L - 4):Nat):Int),((f (L - 4+1):Nat):Int),((f (L - 4+2):Nat):Int),((f (L - 4+3):Nat):Int)]:List Int)=[((v0:Nat):Int),((v1:Nat):Int),((v2:Nat):Int),((v3:Nat):Int)]):=⟨_,rfl⟩;rw[<-m] at heq;have C:=Zz m;have i1:¬(n:Int)<(L:Int):=by omega
 have i2:(6:Int)<=(L:Int):=by omega
 have U:L - 4 - 2=L - 6:=by omega
 have X:=fun w'=>run_arrayAt (P:=prog) w' 390 5 4 (some ⟨b,o+(L - 4),none⟩) (L - (L - 4)) (c - (L - 4)) underlying390 (by omega)
 clear A H hrec y q d r s t u m
 go_enter func167,ntmps167
 go_upto_region 6 with (go_at_call 242;refine HL.o.mono ?_;rintro _ w2 ⟨rfl,rfl⟩)
 rw[<-p,U];clear p
 go_region_with (go_at_call 243;refine (E.o _ ((Zk _ _).drew)).mono ?_;rintro _ w3 ⟨rfl,a⟩;have Q:=Zz a;have y0:=cell_later a q0;have y1:=cell_later a q1;have y2:=cell_later a B;have y3:=cell_later a O;clear a)
 all_goals go_wp2_with fail
 all_goals
  refine bodyPost_ret (v:= .tuple #[.slice g (L - 6) (L - 6), .int .i64 L, .bool z]) (by simp[results,Tryz.results167,go_sem,Act.put]) rfl ?_;refine⟨g,?_,D.o,Q.o⟩;have S:Jt f (L - 4) 4=[((f (L - 4):Nat):Int),((f (L - 4+1):Nat):Int),((f (L - 4+2):Nat):Int),((f (L - 4+3):Nat):Int)]:=rfl
  have e2:CY (Jt f 2 (L - 6))=[((v0:Nat):Int),((v1:Nat):Int),((v2:Nat):Int),((v3:Nat):Int)]:=by
   obtain⟨J,F,K,G⟩:=R.o;rw[J,F,K,G]
   rfl
  have T:z=decide (CY (Jt f 2 (L - 6))=Jt f (L - 4) 4):=by
   rw[C.o,S,e2];exact decide_eq_decide.2 eq_comm
  rw[T]
theorem Vw (w:World):Calls prog 128 #[] w fun x w'=>x= .returned .nilIface/\w'=w:=by
 go_enter func128,ntmps128
 go_wp2_with fail
 go_ret
 exact⟨rfl,rfl⟩
def KpR (w:World):Int->World->Prop:=fun v w1=>v=0/\Below w.heap.size w w1
theorem ES (w:World)(P B:Nat):ED w P B 128 #[] (KpR w):=by
 refine⟨fun _=>rfl,fun wx a=>(Vw wx).mono ?_⟩;rintro x w' ⟨rfl,rfl⟩;exact⟨0,rfl,⟨Zx _,fun _ _=>rfl,fun _=>rfl,fun _ _ _ _ _ _ _=>rfl,fun _ _ _ _ _=>rfl⟩,rfl,a⟩
def Jq (w w':World)(P B:Nat)(ob:Option Nat)(e2:Ab):Prop:=∃ob',BY w' P B ob' e2/\KF w w' P B ob/\As w ob ob'
theorem Ja {w':World}{P B:Nat}{v:Int}(h:BX P B ob (KpR w) e e2 v w'):v=0/\Jq w w' P B ob e2:=by
 obtain⟨j,a,⟨rfl,b⟩,c,d,g⟩:=h;exact⟨rfl,a,c,(KF.Ae P B ob b).trans d (As.refl _ _),fun k i=>(g k i).imp id (fun x=>Zv b.size x)⟩
theorem Jq.one {j w':World}{P B rb:Nat}(h:Jq w j P B ob e2)(c:Ax j w' rb)(q:∃cs fr,j.heap[rb]? =some (.cells cs 48 fr))(r:w.heap.size<=rb)(u:P<w.heap.size):Jq w w' P B ob e2:=by
 obtain⟨i,⟨rs,l,t,s⟩,b,n⟩:=h;refine⟨i,⟨rs,l,t.one c (by omega) q,s⟩,⟨c.os.trans b.os,c.tape.trans b.tape,c.output.trans b.output,Zv b.size c.size,fun k m d p=>(c.block k (Zy m b.size) (by omega)).trans (b.block k m d p),fun hp o g=> ?_,fun hp o=> ?_⟩,n⟩
 ·have e:=c.block P (by have:=b.size;omega) (by omega)
  exact (World.cell?_of_block (a:=⟨P,o,none⟩) e).trans (b.off hp o g)
 ·have e:=c.block P (by have:=b.size;omega) (by omega)
  exact (World.frozen?_of_block (a:=⟨P,o,none⟩) e).trans (b.AE hp o)
theorem Zck {b L c:Nat}(h:Aw w (some ⟨b,o,none⟩) (L+1) c f):Aw w (if c=1 then some ⟨b,o,none⟩ else some ⟨b,o+1,none⟩) L (c - 1) (fun k=>f (1+k)):=by
 rcases h with i | ⟨g,p,e0,j,m,a,d⟩
 ·omega
 simp only[Option.some.injEq,Addr.mk.injEq] at e0;obtain⟨rfl,rfl,_⟩:=e0;by_cases c1:c=1
 ·exact Zu (by omega)
 ·rw[if_neg c1]
  refine Zj ⟨b,o+1,rfl,by omega,by omega,a,fun k n=> ?_⟩;have:=d (1+k) (by omega);rw[show o+1+k=o+(1+k) by omega];exact this
theorem Zc9 {b L c:Nat}(h:Aw w (some ⟨b,o,none⟩) (L+1) c f):w.cell? ⟨b,o,none⟩=some (.int .u8 (f 0))/\L+1<=c/\c<=9223372036854775807:=by
 rcases h with j | ⟨i,n,e0,a,d,m,g⟩
 ·omega
 simp only[Option.some.injEq,Addr.mk.injEq] at e0;obtain⟨rfl,rfl,_⟩:=e0;have:=(g 0 (by omega)).1;unfold maxLen at d;exact⟨this,a,by omega⟩
theorem Zem (op:Int)(data:List Int)(n k:Nat):BV (AX op data n) (1+k)=BV (data++Ct n) k:=by
 unfold BV AX;rw[Nat.add_comm 1 k,List.cons_append,List.getD_cons_succ]
theorem ZD (w:World)(P B b o c n:Nat)(ob:Option Nat)(e e2:Ab)(h:BY w P B ob e)(ok:Ak e)(AQ:AD e)(hn:n<18446744073709551616)(he:e.BZ n=some e2)(j:Aw w (some ⟨b,o,none⟩) ((Ct n).length+1) c (BV (AX 3 [] n))) :
  Calls prog 81 #[.pointer (some ⟨P,4,none⟩), .slice (some ⟨b,o,none⟩) ((Ct n).length+1) c] w fun x w'=>x= .returned (.tuple #[])/\Jq w w' P B ob e2:=by
 obtain⟨c0,c1,c2⟩:=Zc9 j;have t:w.cell? ⟨b,o,none⟩=some (.int .u8 3):=c0;have hlen:(Ct n).length<=8:=Zd7 8 n (by omega);obtain⟨m,g⟩:∃m:Option Addr,m=if c=1 then some ⟨b,o,none⟩ else some ⟨b,o+1,none⟩:=⟨_,rfl⟩
 have a:=Zck j;rw[<-g] at a;have i:=Zz (Zbu w m (Ct n).length (c - 1) _ (by omega) a);have d:DL (fun k=>BV (AX 3 [] n) (1+k)) (Ct n).length=n:=DM hn (fun k A=>by rw[Zem];rfl);rw[d] at i
 have r:=Zz (show Calls prog 108 #[.pointer (some ⟨P,4,none⟩), .int .u64 n, .func (.func 128) #[] #[]] w fun x w'=>x= .returned .nilIface/\Jq w w' P B ob e2 from by
  refine (Ti w P B ob e n 128 #[] h ok.wk (ES w P B) (Zd6 AQ.lr)).mono ?_;rintro x w' (⟨q1,_⟩ | ⟨v,z,q1,rfl,u⟩)
  ·rw[he] at q1;cases q1
  ·rw[he] at q1;cases q1
   obtain⟨rfl,y⟩:=Ja u;exact⟨rfl,y⟩)
 obtain⟨L,p⟩:∃L,L=(Ct n).length:=⟨_,rfl⟩;rw[<-p] at i hlen c1 ⊢;clear h ok AQ hn j c0 a d p he
 go_enter func81,ntmps81
 go_upto_region 2 with fail
 rw[<-g];clear g
 go_wp2_with (first
  | (go_at_call 125;refine i.o.mono ?_;rintro _ C ⟨rfl,rfl⟩)
  | (go_at_call 108;refine r.o.mono ?_;rintro _ D ⟨rfl,q⟩;have s:=Zz q;clear q))
 go_end0
 exact⟨rfl,s.o⟩
theorem ZE (w:World)(P B b o c n:Nat)(ob:Option Nat)(e e2:Ab)(h:BY w P B ob e)(ok:Ak e)(AQ:AD e)(hn:n<18446744073709551616)(he:e.complete n=some e2)(j:Aw w (some ⟨b,o,none⟩) ((Ct n).length+1) c (BV (AX 4 [] n))) :
  Calls prog 81 #[.pointer (some ⟨P,4,none⟩), .slice (some ⟨b,o,none⟩) ((Ct n).length+1) c] w fun x w'=>x= .returned (.tuple #[])/\Jq w w' P B ob e2:=by
 obtain⟨c0,c1,c2⟩:=Zc9 j;have t:w.cell? ⟨b,o,none⟩=some (.int .u8 4):=c0;have hlen:(Ct n).length<=8:=Zd7 8 n (by omega);obtain⟨m,g⟩:∃m:Option Addr,m=if c=1 then some ⟨b,o,none⟩ else some ⟨b,o+1,none⟩:=⟨_,rfl⟩
 have a:=Zck j;rw[<-g] at a;have i:=Zz (Zbu w m (Ct n).length (c - 1) _ (by omega) a);have d:DL (fun k=>BV (AX 4 [] n) (1+k)) (Ct n).length=n:=DM hn (fun k A=>by rw[Zem];rfl);rw[d] at i
 have r:=Zz (show Calls prog 110 #[.pointer (some ⟨P,4,none⟩), .int .u64 n, .func (.func 128) #[] #[]] w fun x w'=>x= .returned .nilIface/\Jq w w' P B ob e2 from by
  refine (FM w P B ob e n 128 #[] h ok.wk (ES w P B) (Zd6 AQ.lr)).mono ?_;rintro x w' (⟨q1,_⟩ | ⟨v,z,q1,rfl,u⟩)
  ·rw[he] at q1;cases q1
  ·rw[he] at q1;cases q1
   obtain⟨rfl,y⟩:=Ja u;exact⟨rfl,y⟩)
 obtain⟨L,p⟩:∃L,L=(Ct n).length:=⟨_,rfl⟩;rw[<-p] at i hlen c1 ⊢;clear h ok AQ hn j c0 a d p he
 go_enter func81,ntmps81
 go_upto_region 2 with fail
 rw[<-g];clear g
 go_wp2_with (first
  | (go_at_call 125;refine i.o.mono ?_;rintro _ C ⟨rfl,rfl⟩)
  | (go_at_call 110;refine r.o.mono ?_;rintro _ D ⟨rfl,q⟩;have s:=Zz q;clear q))
 go_end0
 exact⟨rfl,s.o⟩
theorem ZF (w:World)(P B b o c n:Nat)(ob:Option Nat)(e e2:Ab)(h:BY w P B ob e)(ok:Ak e)(AQ:AD e)(hn:n<18446744073709551616)(he:e.fail n=some e2)(j:Aw w (some ⟨b,o,none⟩) ((Ct n).length+1) c (BV (AX 5 [] n))) :
  Calls prog 81 #[.pointer (some ⟨P,4,none⟩), .slice (some ⟨b,o,none⟩) ((Ct n).length+1) c] w fun x w'=>x= .returned (.tuple #[])/\Jq w w' P B ob e2:=by
 obtain⟨c0,c1,c2⟩:=Zc9 j;have t:w.cell? ⟨b,o,none⟩=some (.int .u8 5):=c0;have hlen:(Ct n).length<=8:=Zd7 8 n (by omega);obtain⟨m,g⟩:∃m:Option Addr,m=if c=1 then some ⟨b,o,none⟩ else some ⟨b,o+1,none⟩:=⟨_,rfl⟩
 have a:=Zck j;rw[<-g] at a;have i:=Zz (Zbu w m (Ct n).length (c - 1) _ (by omega) a);have d:DL (fun k=>BV (AX 5 [] n) (1+k)) (Ct n).length=n:=DM hn (fun k A=>by rw[Zem];rfl);rw[d] at i
 have r:=Zz (show Calls prog 111 #[.pointer (some ⟨P,4,none⟩), .int .u64 n, .func (.func 128) #[] #[]] w fun x w'=>x= .returned .nilIface/\Jq w w' P B ob e2 from by
  refine (JW w P B ob e n 128 #[] h ok.wk (ES w P B) (Zd6 AQ.lr) ⟨AQ.s0,AQ.s1⟩).mono ?_;rintro x w' (⟨q1,_⟩ | ⟨v,z,q1,rfl,u⟩)
  ·rw[he] at q1;cases q1
  ·rw[he] at q1;cases q1
   obtain⟨rfl,y⟩:=Ja u;exact⟨rfl,y⟩)
 obtain⟨L,p⟩:∃L,L=(Ct n).length:=⟨_,rfl⟩;rw[<-p] at i hlen c1 ⊢;clear h ok AQ hn j c0 a d p he
 go_enter func81,ntmps81
 go_upto_region 2 with fail
 rw[<-g];clear g
 go_wp2_with (first
  | (go_at_call 125;refine i.o.mono ?_;rintro _ C ⟨rfl,rfl⟩)
  | (go_at_call 111;refine r.o.mono ?_;rintro _ D ⟨rfl,q⟩;have s:=Zz q;clear q))
 go_end0
 exact⟨rfl,s.o⟩
theorem ZG (w:World)(P B b o c n:Nat)(ob:Option Nat)(e e2:Ab)(h:BY w P B ob e)(ok:Ak e)(AQ:AD e)(hn:n<18446744073709551616)(he:e.cancel n=some e2)(j:Aw w (some ⟨b,o,none⟩) ((Ct n).length+1) c (BV (AX 6 [] n))) :
  Calls prog 81 #[.pointer (some ⟨P,4,none⟩), .slice (some ⟨b,o,none⟩) ((Ct n).length+1) c] w fun x w'=>x= .returned (.tuple #[])/\Jq w w' P B ob e2:=by
 obtain⟨c0,c1,c2⟩:=Zc9 j;have t:w.cell? ⟨b,o,none⟩=some (.int .u8 6):=c0;have hlen:(Ct n).length<=8:=Zd7 8 n (by omega);obtain⟨m,g⟩:∃m:Option Addr,m=if c=1 then some ⟨b,o,none⟩ else some ⟨b,o+1,none⟩:=⟨_,rfl⟩
 have a:=Zck j;rw[<-g] at a;have i:=Zz (Zbu w m (Ct n).length (c - 1) _ (by omega) a);have d:DL (fun k=>BV (AX 6 [] n) (1+k)) (Ct n).length=n:=DM hn (fun k A=>by rw[Zem];rfl);rw[d] at i
 have r:=Zz (show Calls prog 112 #[.pointer (some ⟨P,4,none⟩), .int .u64 n, .func (.func 128) #[] #[]] w fun x w'=>x= .returned .nilIface/\Jq w w' P B ob e2 from by
  refine (OE w P B ob e n 128 #[] h ok.wk (ES w P B) (Zd6 AQ.lr)).mono ?_;rintro x w' (⟨q1,_⟩ | ⟨v,z,q1,rfl,u⟩)
  ·rw[he] at q1;cases q1
  ·rw[he] at q1;cases q1
   obtain⟨rfl,y⟩:=Ja u;exact⟨rfl,y⟩)
 obtain⟨L,p⟩:∃L,L=(Ct n).length:=⟨_,rfl⟩;rw[<-p] at i hlen c1 ⊢;clear h ok AQ hn j c0 a d p he
 go_enter func81,ntmps81
 go_upto_region 2 with fail
 rw[<-g];clear g
 go_wp2_with (first
  | (go_at_call 125;refine i.o.mono ?_;rintro _ C ⟨rfl,rfl⟩)
  | (go_at_call 112;refine r.o.mono ?_;rintro _ D ⟨rfl,q⟩;have s:=Zz q;clear q))
 go_end0
 exact⟨rfl,s.o⟩
theorem ZH (w:World)(P B b o c n:Nat)(ob:Option Nat)(e e2:Ab)(h:BY w P B ob e)(ok:Ak e)(AQ:AD e)(hn:n<18446744073709551616)(he:BU e n e2)(t:AL w)(m:2<w.heap.size)(i:2<B)(j:2≠P)(q:Aw w (some ⟨b,o,none⟩) ((Ct n).length+1) c (BV (AX 7 [] n))) :
  Calls prog 81 #[.pointer (some ⟨P,4,none⟩), .slice (some ⟨b,o,none⟩) ((Ct n).length+1) c] w fun x w'=>x= .returned (.tuple #[])/\Jq w w' P B ob e2:=by
 obtain⟨c0,c1,c2⟩:=Zc9 q;have C:w.cell? ⟨b,o,none⟩=some (.int .u8 7):=c0;have hlen:(Ct n).length<=8:=Zd7 8 n (by omega);obtain⟨r,g⟩:∃r:Option Addr,r=if c=1 then some ⟨b,o,none⟩ else some ⟨b,o+1,none⟩:=⟨_,rfl⟩
 have a:=Zck q;rw[<-g] at a;have p:=Zz (Zbu w r (Ct n).length (c - 1) _ (by omega) a);have d:DL (fun k=>BV (AX 7 [] n) (1+k)) (Ct n).length=n:=DM hn (fun k u=>by rw[Zem];rfl);rw[d] at p
 have z:=Zz (show Calls prog 113 #[.pointer (some ⟨P,4,none⟩), .int .u64 n, .func (.func 128) #[] #[]] w fun x w'=>x= .returned .nilIface/\Jq w w' P B ob e2 from by
  refine (LQ w P B ob e n 128 #[] (KpR w) h ok (ES w P B) (fun G u=>t.Aj m u.2) i j (by omega) (by omega) (Zd6 AQ.lr) ⟨AQ.s0,AQ.s1⟩).mono ?_;rintro x w' ⟨v,F,rfl,q1,D⟩;obtain⟨rfl,E⟩:=Ja D;have:=(q1 rfl).uniq he;subst this;exact⟨rfl,E⟩)
 obtain⟨L,s⟩:∃L,L=(Ct n).length:=⟨_,rfl⟩;rw[<-s] at p hlen c1 ⊢;clear h ok AQ hn q c0 a d s he t m i j
 go_enter func81,ntmps81
 go_upto_region 2 with fail
 rw[<-g];clear g
 go_wp2_with (first
  | (go_at_call 125;refine p.o.mono ?_;rintro _ H ⟨rfl,rfl⟩)
  | (go_at_call 113;refine z.o.mono ?_;rintro _ I ⟨rfl,y⟩;have A:=Zz y;clear y))
 go_end0
 exact⟨rfl,A.o⟩
theorem ZI (w:World)(P B b o c n:Nat)(ob:Option Nat)(e e2:Ab)(h:BY w P B ob e)(ok:Ak e)(AQ:AD e)(hn:n<18446744073709551616)(he:e2={ e with At:=n })(j:Aw w (some ⟨b,o,none⟩) ((Ct n).length+1) c (BV (AX 8 [] n))) :
  Calls prog 81 #[.pointer (some ⟨P,4,none⟩), .slice (some ⟨b,o,none⟩) ((Ct n).length+1) c] w fun x w'=>x= .returned (.tuple #[])/\Jq w w' P B ob e2:=by
 obtain⟨c0,c1,c2⟩:=Zc9 j;have t:w.cell? ⟨b,o,none⟩=some (.int .u8 8):=c0;have hlen:(Ct n).length<=8:=Zd7 8 n (by omega);obtain⟨m,g⟩:∃m:Option Addr,m=if c=1 then some ⟨b,o,none⟩ else some ⟨b,o+1,none⟩:=⟨_,rfl⟩
 have a:=Zck j;rw[<-g] at a;have i:=Zz (Zbu w m (Ct n).length (c - 1) _ (by omega) a);have d:DL (fun k=>BV (AX 8 [] n) (1+k)) (Ct n).length=n:=DM hn (fun k z=>by rw[Zem];rfl);rw[d] at i
 have r:=Zz (show Calls prog 114 #[.pointer (some ⟨P,4,none⟩), .int .u64 n, .func (.func 128) #[] #[]] w fun x w'=>x= .returned .nilIface/\Jq w w' P B ob e2 from by
  refine (Tl w P B ob e n 128 #[] (KpR w) h (ES w P B)).mono ?_;rintro x w' ⟨v,rfl,u⟩;obtain⟨rfl,y⟩:=Ja u;rw[he];exact⟨rfl,y⟩)
 obtain⟨L,p⟩:∃L,L=(Ct n).length:=⟨_,rfl⟩;rw[<-p] at i hlen c1 ⊢;clear h ok AQ hn j c0 a d p he
 go_enter func81,ntmps81
 go_upto_region 2 with fail
 rw[<-g];clear g
 go_wp2_with (first
  | (go_at_call 125;refine i.o.mono ?_;rintro _ A ⟨rfl,rfl⟩)
  | (go_at_call 114;refine r.o.mono ?_;rintro _ C ⟨rfl,q⟩;have s:=Zz q;clear q))
 go_end0
 exact⟨rfl,s.o⟩
theorem ZC (w:World)(P B b o c:Nat)(ob:Option Nat)(e e2:Ab){p:AZ}{t F:Int}(h:BY w P B ob e)(ok:Ak e)(AQ:AD e)(he:e.Bk=some (p,t,F,e2))(j:Aw w (some ⟨b,o,none⟩) 1 c (BV (AX 2 [] 0)))(i:P<w.heap.size) :
  Calls prog 81 #[.pointer (some ⟨P,4,none⟩), .slice (some ⟨b,o,none⟩) 1 c] w fun x w'=>x= .returned (.tuple #[])/\Jq w w' P B ob e2:=by
 obtain⟨c0,c1,c2⟩:=Zc9 (L:=0) j;have u:w.cell? ⟨b,o,none⟩=some (.int .u8 2):=c0;obtain⟨m,g⟩:∃m:Option Addr,m=if c=1 then some ⟨b,o,none⟩ else some ⟨b,o+1,none⟩:=⟨_,rfl⟩
 have a:=Zck (L:=0) j;rw[<-g] at a;have n:=Zz (Zbu w m 0 (c - 1) _ (by omega) a);have d:DL (fun k=>BV (AX 2 [] 0) (1+k)) 0=0:=rfl;rw[d] at n
 have r:=Zz (show Calls prog 129 #[.pointer (some ⟨P,4,none⟩), .func (.func 128) #[] #[]] w fun x w'=>∃y,x= .returned y/\Jq w w' P B ob e2 from by
  refine (LP w P B ob e 128 #[] h ok.wk (ES w P B) (Zd6 AQ.lr) AQ.lt).mono ?_;rintro x w' (⟨q1,_⟩ | ⟨J,K,G,I,v,H,rb,q1,rfl,z,A,C,D⟩)
  ·rw[he] at q1;cases q1
  ·rw[he] at q1
   simp only[Option.some.injEq,Prod.mk.injEq] at q1;obtain⟨_,_,_,rfl⟩:=q1;obtain⟨rfl,E⟩:=Ja z;exact⟨_,rfl,E.one A D C i⟩)
 clear h ok AQ j c0 a d he i
 go_enter func81,ntmps81
 go_upto_region 2 with fail
 rw[<-g];clear g
 go_wp2_with (first
  | (go_at_call 125;refine n.o.mono ?_;rintro _ H ⟨rfl,rfl⟩)
  | (go_at_call 129;refine r.o.mono ?_;rintro _ M ⟨y,rfl,q⟩;have s:=Zz q;clear q))
 go_end0
 exact⟨rfl,s.o⟩
theorem ZB (w:World)(P B b o c:Nat)(ob:Option Nat)(e e2:Ab)(l:List Int){y:Int}(h:BY w P B ob e)(ok:Ak e)(AQ:AD e)(j:Cn l.length (fun k=>(l.getD k 0).toNat) 0 y (Zah l.length (fun k=>(l.getD k 0).toNat)))(he:e.AN (Zah l.length (fun k=>(l.getD k 0).toNat))=some e2)(hl:l.length<=900000)(T:Aw w (some ⟨b,o,none⟩) (l.length+1) c (BV (AX 1 l 0)))(S:P<B)(C:B<=w.heap.size)(Z:AL w)(J:2<w.heap.size) :
  Calls prog 81 #[.pointer (some ⟨P,4,none⟩), .slice (some ⟨b,o,none⟩) (l.length+1) c] w fun x w'=>x= .returned (.tuple #[])/\Jq w w' P B ob e2:=by
 obtain⟨c0,c1,c2⟩:=Zc9 T;have ae:w.cell? ⟨b,o,none⟩=some (.int .u8 1):=c0;have U:b<w.heap.size:=World.block_lt_of_cell? _ _ c0;obtain⟨z,s⟩:∃z:Option Addr,z=if c=1 then some ⟨b,o,none⟩ else some ⟨b,o+1,none⟩:=⟨_,rfl⟩
 have t:∀R o',z=some ⟨R,o',none⟩->R<w.heap.size:=fun R o' e'=>by
  rw[s] at e'
  split at e'<;>(simp only[Option.some.injEq,Addr.mk.injEq] at e';omega)
 have a:=Zck T;rw[<-s] at a
 have I:(fun k=>BV (AX 1 l 0) (1+k))=fun k=>(l.getD k 0).toNat:=by
  funext k
  rw[Zem];unfold BV;rw[Zdz,List.append_nil]
 rw[I] at a;have Q:=Zz (Zbu w z l.length (c - 1) _ (by omega) a);obtain⟨F,D⟩:∃F,F=Zah l.length (fun k=>(l.getD k 0).toNat):=⟨_,rfl⟩;obtain⟨mz,K⟩:∃mz,mz=DL (fun k=>(l.getD k 0).toNat) l.length:=⟨_,rfl⟩;rw[<-K] at Q;have N:BQ F:=by rw[D];exact j.ok
 have O:=Zz (show Calls prog 126 #[.slice z l.length (c - 1)] w fun x w'=>∃m lc,x= .returned (.tuple #[.agg #[.int .i64 F.dl, .slice m F.n lc], .nilIface])/\∃p r,An w.heap.size w' F (.slice m F.n lc) F.n p r/\Below w.heap.size w w' from by
  refine (IH w z l.length (c - 1) _ (by unfold maxLen;omega) Z J t a).mono ?_;rintro x u ⟨⟨y',m,lc,p,r,G,rfl,g⟩ | ⟨x0,y',q,V,G,rfl,ag,hq,aj⟩,d⟩
  ·rw[<-D] at g ⊢
   exact⟨m,lc,rfl,p,r,g,d⟩
  ·exact absurd (j.one G).1.symm V)
 have X:=Zz (show ∀u A m lc p r,Below w.heap.size w u->Below u.heap.size u A->An w.heap.size u F (.slice m F.n lc) F.n p r->Calls prog 127 #[.pointer (some ⟨P,4,none⟩), .agg #[.int .i64 F.dl, .slice m F.n lc], .func (.func 128) #[] #[]] A fun x w'=>∃y,x= .returned y/\Jq w w' P B ob e2 from fun u A m lc p r d E g=>by
  have i:=d.trans (E.mono d.size);refine (IM A P B ob e F m lc p r 128 #[] (h.below i) ok N ((g.base C).below E) (ES A P B) AQ.lr).mono ?_;rintro x w' (⟨q1,_⟩ | ⟨v,e3,q1,rfl,q2⟩)
  ·rw[D,he] at q1;cases q1
  ·rw[D,he] at q1
   cases q1
   obtain⟨rfl,W,r1,r2,r3⟩:=Ja q2;exact⟨_,rfl,W,r1,(KF.Ae P B ob i).trans r2 (As.refl _ _),fun k hk=>(r3 k hk).imp id (fun x=>Zv i.size x)⟩)
 obtain⟨L,Y⟩:∃L,L=l.length:=⟨_,rfl⟩;rw[<-Y] at Q O hl c1 ⊢;obtain⟨dl,H⟩:∃dl,dl=F.dl:=⟨_,rfl⟩;obtain⟨nn,M⟩:∃nn,nn=F.n:=⟨_,rfl⟩;rw[<-H,<-M] at O X;clear h ok AQ T c0 a he S C j Z J U t I D K N Y H M
 go_enter func81,ntmps81
 go_upto_region 2 with fail
 rw[<-s];clear s
 go_upto_region 6 with (first
  | (go_at_call 125;refine Q.o.mono ?_;rintro _ A ⟨rfl,rfl⟩)
  | (go_at_call 126;refine O.o.mono ?_;rintro _ u ⟨m,lc,rfl,p,r,g,d⟩;have H1:=Zz (Zq g d);clear g d))
 go_wp2_with (go_at_call 127;refine (X.o u _ m lc p r H1.o.2 ((Zk _ _).alloc (Zx _) _) H1.o.1).mono ?_;rintro _ w3 ⟨y,rfl,hr⟩;have HR:=Zz hr;clear hr)
 go_end0
 exact⟨rfl,HR.o⟩
open Go.RowKit
structure GA (l:List Int):Prop where
 byte:BB l
 one:1<=l.length
 len:l.length<65536
theorem Qa (h:l.length<65536)(rest:List Int):CB ((Zas l++rest).length) (BV (Zas l++rest))=l.length+6:=by
 have b:6<=(Zas l++rest).length:=by rw[ZX,Zeh];omega
 unfold CB;rw[if_pos (by omega),if_pos (by omega)];have e0:BV (Zas l++rest) 0=l.length % 256:=rfl;have a:BV (Zas l++rest) 1=l.length / 256 % 256:=rfl;rw[e0,a];omega
theorem Oq (rest:List Int)(a:k<l.length):(Zas l++rest).getD (2+k) 0=l.getD k 0:=by
 have e:Zas l++rest=Cw l++(l++(CY l++rest)):=by unfold Zas;simp
 rw[e,ZQ,List.getElem?_append_right (by show 2<=2+k;omega),show 2+k - (Cw l).length=k by show 2+k - 2=k;omega,List.getElem?_append_left a,ZQ]
theorem Qb (rest:List Int)(a:k<4):(Zas l++rest).getD (l.length+2+k) 0=(CY l).getD k 0:=by
 have e:Zas l++rest=Cw l++(l++(CY l++rest)):=by unfold Zas;simp
 rw[e,ZQ,List.getElem?_append_right (by show 2<=l.length+2+k;omega),show l.length+2+k - (Cw l).length=l.length+k by show l.length+2+k - 2=_;omega,List.getElem?_append_right (by omega),show l.length+k - l.length=k by omega,List.getElem?_append_left (by rw[Me];exact a),ZQ]
theorem ON (hl:BB l)(h:∀k,k<l.length->f (o+k)=(l.getD k 0).toNat):Jt f o l.length=l:=by
 apply List.ext_getElem (by rw[Ju])
 intro k b a;have e:=VM f o l.length a;rw[ZQ,ZZ b,Option.getD_some] at e;rw[e,h k a,ZQ,ZZ a,Option.getD_some];have:=hl _ (List.getElem_mem a);omega
theorem KH (l:List Int):BB (CY l):=by
 intro x a;unfold CY at a;simp only[List.mem_cons,List.not_mem_nil,or_false] at a;have b:DI l / 16777216 % 256 ||| 1<256:=Nat.or_lt_two_pow (n:=8) (by omega) (by omega)
 rcases a with rfl | rfl | rfl | rfl<;>omega
theorem Ot (h:BB l)(rest:List Int):Jt (BV (Zas l++rest)) 2 l.length=l/\CY l=Jt (BV (Zas l++rest)) (l.length+6 - 4) 4:=by
 refine⟨ON h fun k a=> ?_,?_⟩
 ·unfold BV
  rw[Oq rest a]
 ·rw[show l.length+6 - 4=l.length+2 by omega]
  exact (ON (l:=CY l) (KH l) fun k a=>by
   unfold BV;rw[Qb rest a]).symm
theorem Oo (h:BB l):BB (Zas l):=by
 intro x a;unfold Zas Cw at a;simp only[List.mem_append,List.mem_cons,List.not_mem_nil,or_false] at a;rcases a with ((rfl | rfl) | a) | a
 ·omega
 ·omega
 ·exact h x a
 ·exact KH l x a
theorem UE (a b:List Int)(k:Nat):BV (a++b) (a.length+k)=BV b k:=by
 unfold BV;rw[ZQ,List.getElem?_append_right (by omega),show a.length+k - a.length=k by omega,ZQ]
def DX (e e':Ab):Prop:=e'.Ah=e.Ah/\e'.Ai=e.Ai/\e'.At=e.At
theorem Jb (e:Ab)(i:Nat):DX e (e.settle i):=by
 unfold Ab.settle
 split<;>exact⟨rfl,rfl,rfl⟩
theorem Uc (e:Ab)(i:Nat):DX e (e.Bl i):=by
 unfold Ab.Bl
 have:∀(L:List Nat) (a:Ab),DX e a->DX e (L.foldl (fun e k=>if (e.at_ i).free k then e.ready i k else e) a):=fun L=>by
  induction L with
  | nil=>exact fun a h=>h
  | cons k L b =>
   intro a h;rw[List.foldl_cons];refine b _ ?_
   split
   ·exact h
   ·exact h
 exact this _ e ⟨rfl,rfl,rfl⟩
theorem Ss {tok:Int}(he:e.BZ tok=some e'):DX e e':=by
 unfold Ab.BZ at he
 split at he
 ·cases he
 ·simp only at he
  split at he
  ·cases he;exact⟨rfl,rfl,rfl⟩
  ·cases he;exact⟨rfl,rfl,rfl⟩
theorem KZ {tok:Int}(he:e.complete tok=some e'):DX e e':=by
 unfold Ab.complete at he
 split at he
 ·cases he
 ·rename_i i k _
  cases he
  obtain⟨a1,a2,a3⟩:=Jb (((e.Af i k (fun s=>{ s with st:=5 })).Bl i)) i;obtain⟨a,b,c⟩:=Uc (e.Af i k (fun s=>{ s with st:=5 })) i;exact⟨a1.trans a,a2.trans b,a3.trans c⟩
theorem PX (e:Ab)(i k:Nat):DX e (e.AT i k):=by
 unfold Ab.AT;simp only
 split
 ·exact⟨rfl,rfl,rfl⟩
 ·exact Jb _ i
theorem SI {tok:Int}(he:e.fail tok=some e'):DX e e':=by
 unfold Ab.fail at he
 split at he
 ·cases he
 ·cases he;exact PX e _ _
theorem NP {id:Int}(he:e.cancel id=some e'):DX e e':=by
 unfold Ab.cancel at he
 split at he
 ·cases he
 ·split at he
  ·cases he;exact⟨rfl,rfl,rfl⟩
  ·cases he
theorem Ew.ok (h:Ew e l e2)(ok:Ak e):Ak e2/\e.Ah<=e2.Ah/\e.Ai<=e2.Ai/\(0<=e.At/\e.At<18446744073709551616->0<=e2.At/\e2.At<18446744073709551616):=by
 cases h with
 | AN m p he =>
  obtain⟨b,_,a,d,g,_⟩:=ok.AN m.ok he;exact⟨b,by omega,by omega,fun x=>by rw[a];exact x⟩
 | Bk he =>
  obtain⟨i,_,_,_,_,_,_,_,_,_,g,_,j,_,n,_⟩:=Nh ok he;exact⟨ok.Bk he,by omega,by omega,fun x=>by rw[j];exact x⟩
 | BZ hn he =>
  obtain⟨b,c,a⟩:=Ss he;exact⟨ok.BZ he,by omega,by omega,fun x=>by rw[a];exact x⟩
 | complete hn he =>
  obtain⟨b,c,a⟩:=KZ he;exact⟨ok.complete he,by omega,by omega,fun x=>by rw[a];exact x⟩
 | fail hn he =>
  obtain⟨b,c,a⟩:=SI he;exact⟨ok.fail he,by omega,by omega,fun x=>by rw[a];exact x⟩
 | cancel hn he =>
  obtain⟨b,c,a⟩:=NP he;exact⟨ok.cancel he,by omega,by omega,fun x=>by rw[a];exact x⟩
 | tick hn he =>
  obtain⟨b,_,a,d,g⟩:=he.ok ok (by omega);exact⟨b,by omega,by omega,fun x=>by rw[d];exact x⟩
 | At hn=>exact⟨⟨{ ok.wk with },ok.goes⟩,Int.le_refl _,Int.le_refl _,fun _=>⟨Int.natCast_nonneg _,Int.ofNat_lt.2 hn⟩⟩
end Go.Proofs.YtgdcjccbdmcebaaGreatDoor
