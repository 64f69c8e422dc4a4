import Derived.Test.YtgdcjccbdmcebaaGreatDoorM28
import Derived.Laws.Cover3
import Derived.ChangeKeysEq
import Derived.Lib.ConvBytes
set_option linter.all false
set_option maxHeartbeats 4000000
set_option maxRecDepth 100000
open Go.Proofs.Tryz
open Go renaming bodyPost_ret->QEz,wp_loop_rounds->QGt,shift_shl->QKa,rounds_succ->QGv,run_part_plain->QKb,cell_later->QFa
open Go.Addr renaming mk.injEq->QJl
open Go.IntKind renaming wrap_u64->QFt,wrap_i64->QFs
open Go.World renaming cell?_of_block->QEc,frozen?->QHj
open Int renaming le_trans->QCl,lt_of_le_of_lt->QKc,le_refl->QCm
open List renaming range->QAr,mem_cons->QDc,getElem_mem->QAi,not_mem_nil->QCq,getElem?_map->QEp,getElem?_append_left->QBg,getElem?_append_right->QBe
open Nat renaming add_zero->QBl,add_assoc->QGj
open Option renaming getD_some->QCe,some.injEq->QCf
namespace Go.Proofs.YtgdcjccbdmcebaaGreatDoor
open Go.RowKit
variable {l:List Int}{qh k b c o P B:Nat}{w w':World}{ob:Option Nat}{f:Nat->Nat}{e e2 e':Ab}
theorem Zr (x:Nat)(i:Nat)(j:x<256):Op.shift .shl .u64 (x:Int) .i64 (8 * (i:Int))=pure (.int .u64 ((Np x i:Nat):Int)):=by
 have d:¬(8 * (i:Int)<0):=by omega
 have e:(8 * (i:Int)).toNat=8 * i:=by omega
 unfold Np;by_cases h:i<8
 .have hb:(8 * (i:Int))<=64:=by omega
  have:=QKa .u64 .i64 (x:Int) (8 * (i:Int)) (by omega) hb;rw[this,if_pos h,e]
  congr 2
  rw[QFt];have a:=Nq j i;unfold Np at a;rw[if_pos h] at a;have g:((x * 2 ^ (8 * i):Nat):Int)=(x:Int) * 2 ^ (8 * i):=by push_cast;rfl
  rw[<-g];omega
 .rw[if_neg h]
  have hm:min (8 * (i:Int)).toNat IntKind.u64.bits=64:=by rw[e];show min (8 * i) 64=64;omega
  simp only[Op.shift,hm];rw[if_neg d]
  congr 2
  rw[QFt];omega
attribute [local go_sem ↓] Go.wp_at_zero Go.wp_at_succ
theorem Zbv (w:World)(a:Option Addr)(n c:Nat)(f:Nat->Nat)(hn:n<=1000000)(hb:Aw w a n c f) :
  Calls prog 125 #[.slice a n c] w fun x w'=>w'=w/\x=.returned (.int .u64 (DJ f n:Nat)):=by
 go_enter func125,ntmps125
 go_wp2_with fail
 go_loopw [2,7] (fun y r wr=>wr=w/\∃i:Nat,y=.int .u64 (DJ f i:Nat)/\r=.int .i64 i/\i<=n) (fun _ r _=>n - (intOf r).toNat)
 case atStart=>exact⟨rfl,0,rfl,rfl,by omega⟩
 case round =>
  obtain⟨rfl,i,rfl,rfl,hi⟩:=hrel;by_cases v:i<n
  .rcases hb with A | ⟨b,o,rfl,C,D,E,p⟩
   .omega
   obtain⟨F,t⟩:=p i v;have i1:(i:Int)<(n:Int):=by omega
   have hm:=RA n (fun k hk=>(p k hk).2) i (by omega);have j:=Nq t i;have z:IntKind.i64.wrap (8 * (i:Int))=8 * (i:Int):=by rw[QFs];omega
   have q:=Zr (f i) i t
   have g:bits .or .u64 ((DJ f i:Nat):Int) ((Np (f i) i:Nat):Int)=((DJ f (i+1):Nat):Int):=by
    rw[bits_or_u64_nat _ _ hm j];rfl
   obtain⟨m,em⟩:∃m,m=DJ f i:=⟨_,rfl⟩;obtain⟨s,es⟩:∃s,s=Np (f i) i:=⟨_,rfl⟩;obtain⟨m2,d⟩:∃m2,m2=DJ f (i+1):=⟨_,rfl⟩;rw[<-em] at g ⊢;rw[<-es] at q g;rw[<-d] at g;have u:=Zz d;clear p hm j em es d;go_wp2_with fail
   go_roundw
   case rel=>exact⟨trivial,i+1,by rw[u.o],by go_num,by omega⟩
   case measure=>simp[intOf];omega
  .have i1:¬(i:Int)<(n:Int):=by omega
   obtain rfl:i=n:=by omega
   go_wp2_with fail
   go_ret
   refine⟨?_,?_⟩<;>first | trivial | rfl
open Go.RowKit
attribute [local go_sem ↓] Go.wp_at_zero Go.wp_at_succ
def CC (n:Nat)(f:Nat->Nat):Nat:=6+(if 0<n then f 0 else 0)+256 * (if 1<n then f 1 else 0)
theorem TF (x:Nat)(a:x<256):Op.shift .shl .i64 (x:Int) .i64 0=pure (.int .i64 (x:Int)):=by
 have:=QKa .i64 .i64 (x:Int) 0 (by omega) (by decide);rw[this]
 congr 2
 rw[QFs];simp;omega
theorem TG (x:Nat)(a:x<256):Op.shift .shl .i64 (x:Int) .i64 8=pure (.int .i64 ((256 * x:Nat):Int)):=by
 have:=QKa .i64 .i64 (x:Int) 8 (by omega) (by decide);rw[this]
 congr 2
 rw[QFs];simp;omega
theorem MD (w:World)(a:Option Addr)(n c:Nat)(f:Nat->Nat)(hb:Aw w a n c f)(p:1<=n) :
  Calls prog 242 #[.slice a n c] w fun x w'=>x=.returned (.int .i64 (CC n f:Nat))/\w'=w:=by
 rcases hb with m | ⟨b,o,rfl,q,j,r,d⟩
 .omega
 obtain⟨t0,g⟩:=d 0 (by omega);rw[QBl] at t0;have s0:=TF (f 0) g;unfold maxLen at j;by_cases h:n=1
 .subst h
  have e:CC 1 f=6+f 0:=by simp[CC]
  rw[e];have m1:min (2:Int) 1=1:=by decide
  have m2:max (1:Int) 0=1:=by decide
  clear d e
  go_enter func242,ntmps242
  go_wp2_with fail
  refine QGt 2 ?_;rw[QGv];go_wp2_with fail
  rw[QGv];go_wp2_with fail
  go_ret
  exact⟨by first | rfl | (congr 2;push_cast;omega),rfl⟩
 .obtain⟨t1,i⟩:=d 1 (by omega)
  have s1:=TG (f 1) i;have e:CC n f=6+f 0+256 * f 1:=by unfold CC;rw[if_pos (by omega),if_pos (by omega)]
  rw[e];have s:(2:Int)<=(n:Int):=by omega
  have t:min (2:Int) (n:Int)=2:=by omega
  clear d e
  go_enter func242,ntmps242
  go_wp2_with fail
  refine QGt 3 ?_;rw[QGv];go_wp2_with fail
  rw[QGv];go_wp2_with fail
  rw[QGv];go_wp2_with fail
  go_ret
  exact⟨by first | rfl | (congr 2;push_cast;omega),rfl⟩
theorem infoU8:∃i,prog.info? 5=some i:=info_of_underlying underlying5
theorem XX:prog.cellsOf 5=1:=by kernel_rfl
theorem Yj (w:World)(a0 a1 a2 a3 d g j m:Int):(binOp .eql 390 (.agg #[.int .u8 a0,.int .u8 a1,.int .u8 a2,.int .u8 a3]) (.agg #[.int .u8 d,.int .u8 g,.int .u8 j,.int .u8 m])).run prog w=.ok (.bool (decide ([a0,a1,a2,a3]=[d,g,j,m]))) w:=by
 obtain⟨i,hi⟩:=infoU8;have h:=run_equalIn_array (P:=prog) w 9999 #[.int .u8 a0,.int .u8 a1,.int .u8 a2,.int .u8 a3] #[.int .u8 d,.int .u8 g,.int .u8 j,.int .u8 m] underlying390 hi;rw[XX] at h;have hu:=underlying5;have p:QAr 4=[0,1,2,3]:=by decide
 rw[p] at h;simp only[binOp,Op.equal,Sem.run_bind];rw[show Op.maxDepth=9999+1 from rfl,h];have n:prog.plainKey 5=true:=by unfold Program.plainKey;rw[hu]
 have hp:∀(a x1 x2 x3:Int) (w:World),((part 5 #[.int .u8 a,.int .u8 x1,.int .u8 x2,.int .u8 x3] 0).run prog w=.ok (.int .u8 a) w/\(part 5 #[.int .u8 a,.int .u8 x1,.int .u8 x2,.int .u8 x3] 1).run prog w=.ok (.int .u8 x1) w)/\((part 5 #[.int .u8 a,.int .u8 x1,.int .u8 x2,.int .u8 x3] 2).run prog w=.ok (.int .u8 x2) w/\(part 5 #[.int .u8 a,.int .u8 x1,.int .u8 x2,.int .u8 x3] 3).run prog w=.ok (.int .u8 x3) w):=fun a x1 x2 x3 w=>⟨⟨QKb w n rfl,QKb w n rfl⟩,⟨QKb w n rfl,QKb w n rfl⟩⟩
 have he:∀(x y:Int) (w:World),(Op.equalIn 9999 5 (.int .u8 x) (.int .u8 y)).run prog w=.ok (decide (x=y)) w:=fun x y w=>by
  have:=run_equalIn_int (P:=prog) w 9998 5 .u8 .u8 x y hu;rw[show (9999:Nat)=9998+1 from rfl,this]
  congr 1
 simp[Op.eqItems,hp,he];by_cases c0:a0=d<;>by_cases c1:a1=g<;>by_cases c2:a2=j<;>by_cases c3:a3=m<;>simp[c0,c1,c2,c3]
def Jv (f:Nat->Nat)(o n:Nat):List Int:=(QAr n).map fun k=>((f (o+k):Nat):Int)
theorem Jw (f:Nat->Nat)(o n:Nat):(Jv f o n).length=n:=by simp[Jv]
theorem VF (f:Nat->Nat)(o n:Nat)(h:k<n):(Jv f o n).getD k 0=((f (o+k):Nat):Int):=by
 unfold Jv;rw[ZQ,QEp,List.getElem?_range h]
 rfl
theorem VE {n:Nat}(h:∀k,k<n->f (o+k)<256):BC (Jv f o n):=by
 intro x a;unfold Jv at a;obtain⟨k,hk,rfl⟩:=List.mem_map.1 a;have:=h k (List.mem_range.1 hk);omega
theorem So (w:World)(b o n c:Nat)(f:Nat->Nat)(hb:Aw w (some ⟨b,o,none⟩) n c f)(hn:n<=1000000000000)(G:1<=n)(X:CC n f<=n) :
  Calls prog 167 #[.slice (some ⟨b,o,none⟩) n c] w fun x w'=>∃g,x=.returned (.tuple #[.slice g (CC n f - 6) (CC n f - 6),.int .i64 (CC n f:Nat),.bool (decide (CV (Jv f 2 (CC n f - 6))=Jv f (CC n f - 4) 4))])/\(6<CC n f->g=some ⟨b,o+2,none⟩)/\ZY w w':=by
 have HL:=Zz (MD w _ n c f hb G);obtain⟨L,I⟩:∃L,L=CC n f:=⟨_,rfl⟩;have V:6<=L:=by rw[I];unfold CC;omega
 rw[<-I] at HL X ⊢;rcases hb with K | ⟨Y,o',e0,M,H,U,A⟩
 .omega
 simp only[QCf,QJl] at e0;obtain⟨rfl,rfl,_⟩:=e0;unfold maxLen at H;obtain⟨g,p⟩:∃g:Option Addr,g=if L - 4=2 then some ⟨b,o,none⟩ else some ⟨b,o+2,none⟩:=⟨_,rfl⟩
 have d:6<L->g=some ⟨b,o+2,none⟩:=fun h=>by rw[p,if_neg (by omega)]
 have hrec:Aw w g (L - 6) (L - 6) (fun k=>((Jv f 2 (L - 6)).getD k 0).toNat):=by
  by_cases c0:L - 6=0
  .exact Zu c0
  .refine Zj ⟨b,o+2,d (by omega),Zx _,by unfold maxLen;omega,U,fun k hk=> ?_⟩
   obtain⟨q1,C⟩:=A (2+k) (by omega);show w.cell? ⟨b,o+2+k,none⟩=some (.int .u8 ((((Jv f 2 (L - 6)).getD k 0).toNat:Nat):Int))/\((Jv f 2 (L - 6)).getD k 0).toNat<256;rw[VF f 2 (L - 6) hk];exact⟨by rw[show o+2+k=o+(2+k) by omega];exact q1,C⟩
 have y:∀wx,ZY w wx->Calls prog 243 #[.slice g (L - 6) (L - 6)] wx fun x w'=>x=.returned (Mg (Jv f 2 (L - 6)))/\ZY w w':=fun wx i=>by
  have:=OU wx g (L - 6) (Jv f 2 (L - 6)) (VE fun k hk=>(A (2+k) (by omega)).2) (by rw[Jw];omega) (by rw[Jw];exact Aw.below hrec i);rw[Jw] at this;refine this.mono ?_;rintro x w' ⟨rfl,J⟩;exact⟨rfl,i.trans (J.mono i.size)⟩
 have q:=fun j (Z:j<4)=>A (L - 4+j) (by omega)
 obtain⟨q0,r0⟩:=q 0 (by omega);rw[QBl] at q0 r0;obtain⟨q1,r1⟩:=q 1 (by omega);rw[<-QGj] at q1;obtain⟨C,r2⟩:=q 2 (by omega);rw[<-QGj] at C;obtain⟨N,r3⟩:=q 3 (by omega);rw[<-QGj] at N;have F:=Zz y;obtain⟨v0,r⟩:∃v0,v0=DE (Jv f 2 (L - 6)) % 256:=⟨_,rfl⟩;obtain⟨v1,s⟩:∃v1,v1=DE (Jv f 2 (L - 6)) / 256 % 256:=⟨_,rfl⟩;obtain⟨v2,t⟩:∃v2,v2=DE (Jv f 2 (L - 6)) / 65536 % 256:=⟨_,rfl⟩;obtain⟨v3,u⟩:∃v3,v3=(DE (Jv f 2 (L - 6)) / 16777216 % 256 ||| 1):=⟨_,rfl⟩;unfold Mg at F;rw[<-r,<-s,<-t,<-u] at F;have Q:=Zz (Zq r (Zq s (Zq t u)));have E:=Zz d;have heq:=fun (w':World)=>Yj w' (f (L - 4)) (f (L - 4+1)) (f (L - 4+2)) (f (L - 4+3)) v0 v1 v2 v3;obtain⟨z,m⟩:∃z,z=decide (([((f (L - 4):Nat):Int),((f (L - 4+1):Nat):Int),((f (L - 4+2):Nat):Int),((f (L - 4+3):Nat):Int)]:List Int)=[((v0:Nat):Int),((v1:Nat):Int),((v2:Nat):Int),((v3:Nat):Int)]):=⟨_,rfl⟩;rw[<-m] at heq;have D:=Zz m;have i1:¬(n:Int)<(L:Int):=by omega
 have i2:(6:Int)<=(L:Int):=by omega
 have T:L - 4 - 2=L - 6:=by omega
 have W:=fun w'=>run_arrayAt (P:=prog) w' 390 5 4 (some ⟨b,o+(L - 4),none⟩) (L - (L - 4)) (c - (L - 4)) underlying390 (by omega)
 clear A I hrec y q d r s t u m
 go_enter func167,ntmps167
 go_upto_region 6 with (go_at_call 242;refine HL.o.mono ?_;rintro _ w2 ⟨rfl,rfl⟩)
 rw[<-p,T];clear p
 go_region_with (go_at_call 243;refine (F.o _ (ZV.drew)).mono ?_;rintro _ w3 ⟨rfl,a⟩;have O:=Zz a;have y0:=QFa a q0;have y1:=QFa a q1;have y2:=QFa a C;have y3:=QFa a N;clear a)
 all_goals go_wp2_with fail
 all_goals
  refine QEz (v:=.tuple #[.slice g (L - 6) (L - 6),.int .i64 L,.bool z]) (by simp[results,Tryz.results167,go_sem,Act.put]) rfl ?_;refine⟨g,?_,E.o,O.o⟩;have R:Jv f (L - 4) 4=[((f (L - 4):Nat):Int),((f (L - 4+1):Nat):Int),((f (L - 4+2):Nat):Int),((f (L - 4+3):Nat):Int)]:=rfl
  have e2:CV (Jv f 2 (L - 6))=[((v0:Nat):Int),((v1:Nat):Int),((v2:Nat):Int),((v3:Nat):Int)]:=by
   obtain⟨K,G,M,H⟩:=Q.o;rw[K,G,M,H]
   rfl
  have S:z=decide (CV (Jv f 2 (L - 6))=Jv f (L - 4) 4):=by
   rw[D.o,R,e2];exact decide_eq_decide.2 eq_comm
  rw[S]
theorem Vp (w:World):Calls prog 128 #[] w fun x w'=>x=.returned .nilIface/\w'=w:=by
 go_enter func128,ntmps128
 go_wp2_with fail
 go_ret
 exact⟨rfl,rfl⟩
def KpR (w:World):Int->World->Prop:=fun v w1=>v=0/\Below w.heap.size w w1
theorem ER (w:World)(P B:Nat):EE w P B 128 #[] (KpR w):=by
 refine⟨fun _=>rfl,fun wx a=>(Vp wx).mono ?_⟩;rintro x w' ⟨rfl,rfl⟩;exact⟨0,rfl,⟨Zx _,fun _ _=>rfl,fun _=>rfl,fun _ _ _ _ _ _ _=>rfl,fun _ _ _ _ _=>rfl⟩,rfl,a⟩
def Js (qh:Nat)(w w':World)(P B:Nat)(ob:Option Nat)(e2:Ab):Prop:=∃ob',BE qh w' P B ob' e2/\KF w w' P B ob/\As w ob ob'
theorem Jb {v:Int}(h:BX qh P B ob (KpR w) e e2 v w'):v=0/\Js qh w w' P B ob e2:=by
 obtain⟨j,a,⟨rfl,hb⟩,d,g,i⟩:=h;exact⟨rfl,a,d,(KF.Ae P B ob hb).trans g (As.refl _ _),fun k hk=>(i k hk).imp id (fun x=>Zv hb.size x)⟩
theorem Js.one {n:World}{rb:Nat}(h:Js qh w n P B ob e2)(g:AA n w' rb)(r:∃cs fr,n.heap[rb]? =some (.cells cs 48 fr))(s:w.heap.size<=rb)(v:P<w.heap.size):Js qh w w' P B ob e2:=by
 obtain⟨m,⟨rs,l,u,t⟩,d,p⟩:=h;refine⟨m,⟨rs,l,u.one g (by omega) r,t⟩,⟨g.os.trans d.os,g.tape.trans d.tape,g.output.trans d.output,Zv d.size g.size,fun k hk i q=>(g.block k (Zy hk d.size) (by omega)).trans (d.block k hk i q),fun hp o j=> ?_,fun hp o=> ?_⟩,p⟩
 .have e:=g.block P (by have:=d.size;omega) (by omega)
  exact (QEc (a:=⟨P,o,none⟩) e).trans (d.off hp o j)
 .have e:=g.block P (by have:=d.size;omega) (by omega)
  exact (World.frozen?_of_block (a:=⟨P,o,none⟩) e).trans (d.AD hp o)
theorem Zck {L:Nat}(h:Aw w (some ⟨b,o,none⟩) (L+1) c f):Aw w (if c=1 then some ⟨b,o,none⟩ else some ⟨b,o+1,none⟩) L (c - 1) (fun k=>f (1+k)):=by
 rcases h with i | ⟨g,n,e0,j,m,a,d⟩
 .omega
 simp only[QCf,QJl] at e0;obtain⟨rfl,rfl,_⟩:=e0;by_cases c1:c=1
 .exact Zu (by omega)
 .rw[if_neg c1]
  refine Zj ⟨b,o+1,rfl,by omega,by omega,a,fun k hk=> ?_⟩;have:=d (1+k) (by omega);rw[show o+1+k=o+(1+k) by omega];exact this
theorem Zda {L:Nat}(h:Aw w (some ⟨b,o,none⟩) (L+1) c f):w.cell? ⟨b,o,none⟩=some (.int .u8 (f 0))/\L+1<=c/\c<=9223372036854775807:=by
 rcases h with j | ⟨i,n,e0,a,d,m,g⟩
 .omega
 simp only[QCf,QJl] at e0;obtain⟨rfl,rfl,_⟩:=e0;have:=(g 0 (by omega)).1;unfold maxLen at d;exact⟨this,a,by omega⟩
theorem Zel (op:Int)(data:List Int)(n k:Nat):BS (AU op data n) (1+k)=BS (data++Ct n) k:=by
 unfold BS AU;rw[Nat.add_comm 1 k,List.cons_append,List.getD_cons_succ]
theorem Zd (w:World)(P B b o c n:Nat)(ob:Option Nat)(e e2:Ab)(h:BE qh w P B ob e)(ok:Aj e)(AZ:Az e)(hn:n<18446744073709551616)(he:e.AY n=some e2)(hb:Aw w (some ⟨b,o,none⟩) ((Ct n).length+1) c (BS (AU 3 [] n))) :
  Calls prog 81 #[.pointer (some ⟨P,4,none⟩),.slice (some ⟨b,o,none⟩) ((Ct n).length+1) c] w fun x w'=>x=.returned (.tuple #[])/\Js qh w w' P B ob e2:=by
 obtain⟨c0,c1,c2⟩:=Zda hb;have s:w.cell? ⟨b,o,none⟩=some (.int .u8 3):=c0;have hlen:(Ct n).length<=8:=Zd9 8 n (by omega);obtain⟨j,g⟩:∃j:Option Addr,j=if c=1 then some ⟨b,o,none⟩ else some ⟨b,o+1,none⟩:=⟨_,rfl⟩
 have a:=Zck hb;rw[<-g] at a;have i:=Zz (Zbv w j (Ct n).length (c - 1) _ (by omega) a);have d:DJ (fun k=>BS (AU 3 [] n) (1+k)) (Ct n).length=n:=DK hn (fun k hk=>by rw[Zel];rfl);rw[d] at i
 have q:=Zz (show Calls prog 108 #[.pointer (some ⟨P,4,none⟩),.int .u64 n,.func (.func 128) #[] #[]] w fun x w'=>x=.returned .nilIface/\Js qh w w' P B ob e2 from by
  refine (LM w P B ob e n 128 #[] h ok.wk (ER w P B) (Zdp AZ.lr)).mono ?_;rintro x w' (⟨q1,_⟩ | ⟨v,y,q1,rfl,t⟩)
  .rw[he] at q1;cases q1
  .rw[he] at q1;cases q1
   obtain⟨rfl,u⟩:=Jb t;exact⟨rfl,u⟩)
 obtain⟨L,m⟩:∃L,L=(Ct n).length:=⟨_,rfl⟩;rw[<-m] at i hlen c1 ⊢;clear h ok AZ hn hb c0 a d m he
 go_enter func81,ntmps81
 go_upto_region 2 with fail
 rw[<-g];clear g
 go_wp2_with (first
  | (go_at_call 125;refine i.o.mono ?_;rintro _ z ⟨rfl,rfl⟩)
  | (go_at_call 108;refine q.o.mono ?_;rintro _ A ⟨rfl,p⟩;have r:=Zz p;clear p))
 go_end0
 exact⟨rfl,r.o⟩
theorem Ze (w:World)(P B b o c n:Nat)(ob:Option Nat)(e e2:Ab)(h:BE qh w P B ob e)(ok:Aj e)(AZ:Az e)(hn:n<18446744073709551616)(he:e.complete n=some e2)(hb:Aw w (some ⟨b,o,none⟩) ((Ct n).length+1) c (BS (AU 4 [] n))) :
  Calls prog 81 #[.pointer (some ⟨P,4,none⟩),.slice (some ⟨b,o,none⟩) ((Ct n).length+1) c] w fun x w'=>x=.returned (.tuple #[])/\Js qh w w' P B ob e2:=by
 obtain⟨c0,c1,c2⟩:=Zda hb;have s:w.cell? ⟨b,o,none⟩=some (.int .u8 4):=c0;have hlen:(Ct n).length<=8:=Zd9 8 n (by omega);obtain⟨j,g⟩:∃j:Option Addr,j=if c=1 then some ⟨b,o,none⟩ else some ⟨b,o+1,none⟩:=⟨_,rfl⟩
 have a:=Zck hb;rw[<-g] at a;have i:=Zz (Zbv w j (Ct n).length (c - 1) _ (by omega) a);have d:DJ (fun k=>BS (AU 4 [] n) (1+k)) (Ct n).length=n:=DK hn (fun k hk=>by rw[Zel];rfl);rw[d] at i
 have q:=Zz (show Calls prog 110 #[.pointer (some ⟨P,4,none⟩),.int .u64 n,.func (.func 128) #[] #[]] w fun x w'=>x=.returned .nilIface/\Js qh w w' P B ob e2 from by
  refine (FL w P B ob e n 128 #[] h ok.wk (ER w P B) (Zdp AZ.lr)).mono ?_;rintro x w' (⟨q1,_⟩ | ⟨v,y,q1,rfl,t⟩)
  .rw[he] at q1;cases q1
  .rw[he] at q1;cases q1
   obtain⟨rfl,u⟩:=Jb t;exact⟨rfl,u⟩)
 obtain⟨L,m⟩:∃L,L=(Ct n).length:=⟨_,rfl⟩;rw[<-m] at i hlen c1 ⊢;clear h ok AZ hn hb c0 a d m he
 go_enter func81,ntmps81
 go_upto_region 2 with fail
 rw[<-g];clear g
 go_wp2_with (first
  | (go_at_call 125;refine i.o.mono ?_;rintro _ z ⟨rfl,rfl⟩)
  | (go_at_call 110;refine q.o.mono ?_;rintro _ A ⟨rfl,p⟩;have r:=Zz p;clear p))
 go_end0
 exact⟨rfl,r.o⟩
theorem Zf (w:World)(P B b o c n:Nat)(ob:Option Nat)(e e2:Ab)(h:BE qh w P B ob e)(ok:Aj e)(AZ:Az e)(hn:n<18446744073709551616)(he:e.fail n=some e2)(hb:Aw w (some ⟨b,o,none⟩) ((Ct n).length+1) c (BS (AU 5 [] n))) :
  Calls prog 81 #[.pointer (some ⟨P,4,none⟩),.slice (some ⟨b,o,none⟩) ((Ct n).length+1) c] w fun x w'=>x=.returned (.tuple #[])/\Js qh w w' P B ob e2:=by
 obtain⟨c0,c1,c2⟩:=Zda hb;have s:w.cell? ⟨b,o,none⟩=some (.int .u8 5):=c0;have hlen:(Ct n).length<=8:=Zd9 8 n (by omega);obtain⟨j,g⟩:∃j:Option Addr,j=if c=1 then some ⟨b,o,none⟩ else some ⟨b,o+1,none⟩:=⟨_,rfl⟩
 have a:=Zck hb;rw[<-g] at a;have i:=Zz (Zbv w j (Ct n).length (c - 1) _ (by omega) a);have d:DJ (fun k=>BS (AU 5 [] n) (1+k)) (Ct n).length=n:=DK hn (fun k hk=>by rw[Zel];rfl);rw[d] at i
 have q:=Zz (show Calls prog 111 #[.pointer (some ⟨P,4,none⟩),.int .u64 n,.func (.func 128) #[] #[]] w fun x w'=>x=.returned .nilIface/\Js qh w w' P B ob e2 from by
  refine (JU w P B ob e n 128 #[] h ok.wk (ER w P B) (Zdp AZ.lr) ⟨AZ.s0,AZ.s1⟩).mono ?_;rintro x w' (⟨q1,_⟩ | ⟨v,y,q1,rfl,t⟩)
  .rw[he] at q1;cases q1
  .rw[he] at q1;cases q1
   obtain⟨rfl,u⟩:=Jb t;exact⟨rfl,u⟩)
 obtain⟨L,m⟩:∃L,L=(Ct n).length:=⟨_,rfl⟩;rw[<-m] at i hlen c1 ⊢;clear h ok AZ hn hb c0 a d m he
 go_enter func81,ntmps81
 go_upto_region 2 with fail
 rw[<-g];clear g
 go_wp2_with (first
  | (go_at_call 125;refine i.o.mono ?_;rintro _ z ⟨rfl,rfl⟩)
  | (go_at_call 111;refine q.o.mono ?_;rintro _ A ⟨rfl,p⟩;have r:=Zz p;clear p))
 go_end0
 exact⟨rfl,r.o⟩
theorem Zg (w:World)(P B b o c n:Nat)(ob:Option Nat)(e e2:Ab)(h:BE qh w P B ob e)(ok:Aj e)(AZ:Az e)(hn:n<18446744073709551616)(he:e.cancel n=some e2)(hb:Aw w (some ⟨b,o,none⟩) ((Ct n).length+1) c (BS (AU 6 [] n))) :
  Calls prog 81 #[.pointer (some ⟨P,4,none⟩),.slice (some ⟨b,o,none⟩) ((Ct n).length+1) c] w fun x w'=>x=.returned (.tuple #[])/\Js qh w w' P B ob e2:=by
 obtain⟨c0,c1,c2⟩:=Zda hb;have s:w.cell? ⟨b,o,none⟩=some (.int .u8 6):=c0;have hlen:(Ct n).length<=8:=Zd9 8 n (by omega);obtain⟨j,g⟩:∃j:Option Addr,j=if c=1 then some ⟨b,o,none⟩ else some ⟨b,o+1,none⟩:=⟨_,rfl⟩
 have a:=Zck hb;rw[<-g] at a;have i:=Zz (Zbv w j (Ct n).length (c - 1) _ (by omega) a);have d:DJ (fun k=>BS (AU 6 [] n) (1+k)) (Ct n).length=n:=DK hn (fun k hk=>by rw[Zel];rfl);rw[d] at i
 have q:=Zz (show Calls prog 112 #[.pointer (some ⟨P,4,none⟩),.int .u64 n,.func (.func 128) #[] #[]] w fun x w'=>x=.returned .nilIface/\Js qh w w' P B ob e2 from by
  refine (Ou w P B ob e n 128 #[] h ok.wk (ER w P B) (Zdp AZ.lr)).mono ?_;rintro x w' (⟨q1,_⟩ | ⟨v,y,q1,rfl,t⟩)
  .rw[he] at q1;cases q1
  .rw[he] at q1;cases q1
   obtain⟨rfl,u⟩:=Jb t;exact⟨rfl,u⟩)
 obtain⟨L,m⟩:∃L,L=(Ct n).length:=⟨_,rfl⟩;rw[<-m] at i hlen c1 ⊢;clear h ok AZ hn hb c0 a d m he
 go_enter func81,ntmps81
 go_upto_region 2 with fail
 rw[<-g];clear g
 go_wp2_with (first
  | (go_at_call 125;refine i.o.mono ?_;rintro _ z ⟨rfl,rfl⟩)
  | (go_at_call 112;refine q.o.mono ?_;rintro _ A ⟨rfl,p⟩;have r:=Zz p;clear p))
 go_end0
 exact⟨rfl,r.o⟩
theorem Zh (w:World)(P B b o c n:Nat)(ob:Option Nat)(e e2:Ab)(h:BE qh w P B ob e)(ok:Aj e)(AZ:Az e)(hn:n<18446744073709551616)(he:BR e n e2)(s:AP w)(m:2<w.heap.size)(i:2<B)(j:2≠P)(hb:Aw w (some ⟨b,o,none⟩) ((Ct n).length+1) c (BS (AU 7 [] n))) :
  Calls prog 81 #[.pointer (some ⟨P,4,none⟩),.slice (some ⟨b,o,none⟩) ((Ct n).length+1) c] w fun x w'=>x=.returned (.tuple #[])/\Js qh w w' P B ob e2:=by
 obtain⟨c0,c1,c2⟩:=Zda hb;have z:w.cell? ⟨b,o,none⟩=some (.int .u8 7):=c0;have hlen:(Ct n).length<=8:=Zd9 8 n (by omega);obtain⟨q,g⟩:∃q:Option Addr,q=if c=1 then some ⟨b,o,none⟩ else some ⟨b,o+1,none⟩:=⟨_,rfl⟩
 have a:=Zck hb;rw[<-g] at a;have p:=Zz (Zbv w q (Ct n).length (c - 1) _ (by omega) a);have d:DJ (fun k=>BS (AU 7 [] n) (1+k)) (Ct n).length=n:=DK hn (fun k hk=>by rw[Zel];rfl);rw[d] at p
 have u:=Zz (show Calls prog 113 #[.pointer (some ⟨P,4,none⟩),.int .u64 n,.func (.func 128) #[] #[]] w fun x w'=>x=.returned .nilIface/\Js qh w w' P B ob e2 from by
  refine (LQ w P B ob e n 128 #[] (KpR w) h ok (ER w P B) (fun E hk=>s.Ak m hk.2) i j (by omega) (by omega) (Zdp AZ.lr) ⟨AZ.s0,AZ.s1⟩).mono ?_;rintro x w' ⟨v,D,rfl,q1,A⟩;obtain⟨rfl,C⟩:=Jb A;have:=(q1 rfl).uniq he;subst this;exact⟨rfl,C⟩)
 obtain⟨L,r⟩:∃L,L=(Ct n).length:=⟨_,rfl⟩;rw[<-r] at p hlen c1 ⊢;clear h ok AZ hn hb c0 a d r he s m i j
 go_enter func81,ntmps81
 go_upto_region 2 with fail
 rw[<-g];clear g
 go_wp2_with (first
  | (go_at_call 125;refine p.o.mono ?_;rintro _ F ⟨rfl,rfl⟩)
  | (go_at_call 113;refine u.o.mono ?_;rintro _ G ⟨rfl,t⟩;have y:=Zz t;clear t))
 go_end0
 exact⟨rfl,y.o⟩
theorem Zi (w:World)(P B b o c n:Nat)(ob:Option Nat)(e e2:Ab)(h:BE qh w P B ob e)(ok:Aj e)(AZ:Az e)(hn:n<18446744073709551616)(he:e2={ e with Ar:=n })(hb:Aw w (some ⟨b,o,none⟩) ((Ct n).length+1) c (BS (AU 8 [] n))) :
  Calls prog 81 #[.pointer (some ⟨P,4,none⟩),.slice (some ⟨b,o,none⟩) ((Ct n).length+1) c] w fun x w'=>x=.returned (.tuple #[])/\Js qh w w' P B ob e2:=by
 obtain⟨c0,c1,c2⟩:=Zda hb;have s:w.cell? ⟨b,o,none⟩=some (.int .u8 8):=c0;have hlen:(Ct n).length<=8:=Zd9 8 n (by omega);obtain⟨j,g⟩:∃j:Option Addr,j=if c=1 then some ⟨b,o,none⟩ else some ⟨b,o+1,none⟩:=⟨_,rfl⟩
 have a:=Zck hb;rw[<-g] at a;have i:=Zz (Zbv w j (Ct n).length (c - 1) _ (by omega) a);have d:DJ (fun k=>BS (AU 8 [] n) (1+k)) (Ct n).length=n:=DK hn (fun k hk=>by rw[Zel];rfl);rw[d] at i
 have q:=Zz (show Calls prog 114 #[.pointer (some ⟨P,4,none⟩),.int .u64 n,.func (.func 128) #[] #[]] w fun x w'=>x=.returned .nilIface/\Js qh w w' P B ob e2 from by
  refine (Tb w P B ob e n 128 #[] (KpR w) h (ER w P B)).mono ?_;rintro x w' ⟨v,rfl,t⟩;obtain⟨rfl,u⟩:=Jb t;rw[he];exact⟨rfl,u⟩)
 obtain⟨L,m⟩:∃L,L=(Ct n).length:=⟨_,rfl⟩;rw[<-m] at i hlen c1 ⊢;clear h ok AZ hn hb c0 a d m he
 go_enter func81,ntmps81
 go_upto_region 2 with fail
 rw[<-g];clear g
 go_wp2_with (first
  | (go_at_call 125;refine i.o.mono ?_;rintro _ y ⟨rfl,rfl⟩)
  | (go_at_call 114;refine q.o.mono ?_;rintro _ z ⟨rfl,p⟩;have r:=Zz p;clear p))
 go_end0
 exact⟨rfl,r.o⟩
theorem Zc (w:World)(P B b o c:Nat)(ob:Option Nat)(e e2:Ab){p:Ba}{t tk:Int}(h:BE qh w P B ob e)(ok:Aj e)(AZ:Az e)(he:e.Bl=some (p,t,tk,e2))(hb:Aw w (some ⟨b,o,none⟩) 1 c (BS (AU 2 [] 0)))(i:P<w.heap.size) :
  Calls prog 81 #[.pointer (some ⟨P,4,none⟩),.slice (some ⟨b,o,none⟩) 1 c] w fun x w'=>x=.returned (.tuple #[])/\Js qh w w' P B ob e2:=by
 obtain⟨c0,c1,c2⟩:=Zda (L:=0) hb;have s:w.cell? ⟨b,o,none⟩=some (.int .u8 2):=c0;obtain⟨j,g⟩:∃j:Option Addr,j=if c=1 then some ⟨b,o,none⟩ else some ⟨b,o+1,none⟩:=⟨_,rfl⟩
 have a:=Zck (L:=0) hb;rw[<-g] at a;have m:=Zz (Zbv w j 0 (c - 1) _ (by omega) a);have d:DJ (fun k=>BS (AU 2 [] 0) (1+k)) 0=0:=rfl;rw[d] at m
 have q:=Zz (show Calls prog 129 #[.pointer (some ⟨P,4,none⟩),.func (.func 128) #[] #[]] w fun x w'=>∃y,x=.returned y/\Js qh w w' P B ob e2 from by
  refine (LP w P B ob e 128 #[] h ok.wk (ER w P B) (Zdp AZ.lr) AZ.lt).mono ?_;rintro x w' (⟨q1,_⟩ | ⟨H,I,E,G,v,F,rb,q1,rfl,u,z,A,C⟩)
  .rw[he] at q1;cases q1
  .rw[he] at q1
   simp only[QCf,Prod.mk.injEq] at q1;obtain⟨_,_,_,rfl⟩:=q1;obtain⟨rfl,D⟩:=Jb u;exact⟨_,rfl,D.one z C A i⟩)
 clear h ok AZ hb c0 a d he i
 go_enter func81,ntmps81
 go_upto_region 2 with fail
 rw[<-g];clear g
 go_wp2_with (first
  | (go_at_call 125;refine m.o.mono ?_;rintro _ F ⟨rfl,rfl⟩)
  | (go_at_call 129;refine q.o.mono ?_;rintro _ J ⟨y,rfl,n⟩;have r:=Zz n;clear n))
 go_end0
 exact⟨rfl,r.o⟩
theorem Zb (w:World)(P B b o c:Nat)(ob:Option Nat)(e e2:Ab)(l:List Int){y:Int}(h:BE qh w P B ob e)(ok:Aj e)(AZ:Az e)(j:Co l.length (fun k=>(l.getD k 0).toNat) 0 y (Zaj l.length (fun k=>(l.getD k 0).toNat)))(he:e.AM (Zaj l.length (fun k=>(l.getD k 0).toNat))=some e2)(hl:l.length<=900000)(hb:Aw w (some ⟨b,o,none⟩) (l.length+1) c (BS (AU 1 l 0)))(S:P<B)(C:B<=w.heap.size)(Y:AP w)(J:2<w.heap.size) :
  Calls prog 81 #[.pointer (some ⟨P,4,none⟩),.slice (some ⟨b,o,none⟩) (l.length+1) c] w fun x w'=>x=.returned (.tuple #[])/\Js qh w w' P B ob e2:=by
 obtain⟨c0,c1,c2⟩:=Zda hb;have ae:w.cell? ⟨b,o,none⟩=some (.int .u8 1):=c0;have T:b<w.heap.size:=World.block_lt_of_cell? _ _ c0;obtain⟨z,s⟩:∃z:Option Addr,z=if c=1 then some ⟨b,o,none⟩ else some ⟨b,o+1,none⟩:=⟨_,rfl⟩
 have t:∀R o',z=some ⟨R,o',none⟩->R<w.heap.size:=fun R o' e'=>by
  rw[s] at e'
  split at e'<;>(simp only[QCf,QJl] at e';omega)
 have a:=Zck hb;rw[<-s] at a
 have I:(fun k=>BS (AU 1 l 0) (1+k))=fun k=>(l.getD k 0).toNat:=by
  funext k
  rw[Zel];unfold BS;rw[Zd3,List.append_nil]
 rw[I] at a;have Q:=Zz (Zbv w z l.length (c - 1) _ (by omega) a);obtain⟨F,D⟩:∃F,F=Zaj l.length (fun k=>(l.getD k 0).toNat):=⟨_,rfl⟩;obtain⟨mz,K⟩:∃mz,mz=DJ (fun k=>(l.getD k 0).toNat) l.length:=⟨_,rfl⟩;rw[<-K] at Q;have N:BW F:=by rw[D];exact j.ok
 have O:=Zz (show Calls prog 126 #[.slice z l.length (c - 1)] w fun x w'=>∃m lc,x=.returned (.tuple #[.agg #[.int .i64 F.dl,.slice m F.n lc],.nilIface])/\∃p r,An w.heap.size w' F (.slice m F.n lc) F.n p r/\ZY w w' from by
  refine (II w z l.length (c - 1) _ (by unfold maxLen;omega) Y J t a).mono ?_;rintro x u ⟨⟨y',m,lc,p,r,G,rfl,d⟩ | ⟨x0,y',q,U,G,rfl,ag,hq,aj⟩,g⟩
  .rw[<-D] at d ⊢
   exact⟨m,lc,rfl,p,r,d,g⟩
  .exact absurd (j.one G).1.symm U)
 have W:=Zz (show ∀u A m lc p r,ZY w u->ZY u A->An w.heap.size u F (.slice m F.n lc) F.n p r->Calls prog 127 #[.pointer (some ⟨P,4,none⟩),.agg #[.int .i64 F.dl,.slice m F.n lc],.func (.func 128) #[] #[]] A fun x w'=>∃y,x=.returned y/\Js qh w w' P B ob e2 from fun u A m lc p r g E d=>by
  have i:=g.trans (E.mono g.size);refine (IN A P B ob e F m lc p r 128 #[] (h.below i) ok N ((d.base C).below E) (ER A P B) AZ.lr (d.off h.qs)).mono ?_;rintro x w' (⟨q1,_⟩ | ⟨v,e3,q1,rfl,q2⟩)
  .rw[D,he] at q1;cases q1
  .rw[D,he] at q1
   cases q1
   obtain⟨rfl,V,r1,r2,r3⟩:=Jb q2;exact⟨_,rfl,V,r1,(KF.Ae P B ob i).trans r2 (As.refl _ _),fun k hk=>(r3 k hk).imp id (fun x=>Zv i.size x)⟩)
 obtain⟨L,X⟩:∃L,L=l.length:=⟨_,rfl⟩;rw[<-X] at Q O hl c1 ⊢;obtain⟨dl,H⟩:∃dl,dl=F.dl:=⟨_,rfl⟩;obtain⟨nn,M⟩:∃nn,nn=F.n:=⟨_,rfl⟩;rw[<-H,<-M] at O W;clear h ok AZ hb c0 a he S C j Y J T t I D K N X H M
 go_enter func81,ntmps81
 go_upto_region 2 with fail
 rw[<-s];clear s
 go_upto_region 6 with (first
  | (go_at_call 125;refine Q.o.mono ?_;rintro _ A ⟨rfl,rfl⟩)
  | (go_at_call 126;refine O.o.mono ?_;rintro _ u ⟨m,lc,rfl,p,r,d,g⟩;have H1:=Zz (Zq d g);clear d g))
 go_wp2_with (go_at_call 127;refine (W.o u _ m lc p r H1.o.2 (ZV.alloc ZU _) H1.o.1).mono ?_;rintro _ w3 ⟨y,rfl,Z⟩;have HR:=Zz Z;clear Z)
 go_end0
 exact⟨rfl,HR.o⟩
open Go.RowKit
structure Gz (l:List Int):Prop where
 byte:BC l
 one:1<=l.length
 len:l.length<65536
theorem PS (h:l.length<65536)(rest:List Int):CC ((Zar l++rest).length) (BS (Zar l++rest))=l.length+6:=by
 have d:6<=(Zar l++rest).length:=by rw[ZX,Zei];omega
 unfold CC;rw[if_pos (by omega),if_pos (by omega)];have e0:BS (Zar l++rest) 0=l.length % 256:=rfl;have a:BS (Zar l++rest) 1=l.length / 256 % 256:=rfl;rw[e0,a];omega
theorem Of (rest:List Int)(hk:k<l.length):(Zar l++rest).getD (2+k) 0=l.getD k 0:=by
 have e:Zar l++rest=Cu l++(l++(CV l++rest)):=by unfold Zar;simp
 rw[e,ZQ,QBe (by show 2<=2+k;omega),show 2+k - (Cu l).length=k by show 2+k - 2=k;omega,QBg hk,ZQ]
theorem PT (rest:List Int)(hk:k<4):(Zar l++rest).getD (l.length+2+k) 0=(CV l).getD k 0:=by
 have e:Zar l++rest=Cu l++(l++(CV l++rest)):=by unfold Zar;simp
 rw[e,ZQ,QBe (by show 2<=l.length+2+k;omega),show l.length+2+k - (Cu l).length=l.length+k by show l.length+2+k - 2=_;omega,QBe (by omega),show l.length+k - l.length=k by omega,QBg (by rw[Mf];exact hk),ZQ]
theorem OC (hl:BC l)(h:∀k,k<l.length->f (o+k)=(l.getD k 0).toNat):Jv f o l.length=l:=by
 apply List.ext_getElem (by rw[Jw])
 intro k d a;have e:=VF f o l.length a;rw[ZQ,ZZ d,QCe] at e;rw[e,h k a,ZQ,ZZ a,QCe];have:=hl _ (QAi a);omega
theorem KG (l:List Int):BC (CV l):=by
 intro x a;unfold CV at a;simp only[QDc,QCq,or_false] at a;have d:DE l / 16777216 % 256 ||| 1<256:=Nat.or_lt_two_pow (n:=8) (by omega) (by omega)
 rcases a with rfl | rfl | rfl | rfl<;>omega
theorem Og (h:BC l)(rest:List Int):Jv (BS (Zar l++rest)) 2 l.length=l/\CV l=Jv (BS (Zar l++rest)) (l.length+6 - 4) 4:=by
 refine⟨OC h fun k hk=> ?_,?_⟩
 .unfold BS
  rw[Of rest hk]
 .rw[show l.length+6 - 4=l.length+2 by omega]
  exact (OC (l:=CV l) (KG l) fun k hk=>by
   unfold BS;rw[PT rest hk]).symm
theorem Oe (h:BC l):BC (Zar l):=by
 intro x a;unfold Zar Cu at a;simp only[List.mem_append,QDc,QCq,or_false] at a;rcases a with ((rfl | rfl) | a) | a
 .omega
 .omega
 .exact h x a
 .exact KG l x a
theorem Uw (a b:List Int)(k:Nat):BS (a++b) (a.length+k)=BS b k:=by
 unfold BS;rw[ZQ,QBe (by omega),show a.length+k - a.length=k by omega,ZQ]
def DZ (e e':Ab):Prop:=e'.Ah=e.Ah/\e'.Ai=e.Ai/\e'.Ar=e.Ar
theorem Jc (e:Ab)(i:Nat):DZ e (e.settle i):=by
 unfold Ab.settle
 split<;>exact⟨rfl,rfl,rfl⟩
theorem TU (e:Ab)(i:Nat):DZ e (e.Bm i):=by
 unfold Ab.Bm
 have:∀(L:List Nat) (a:Ab),DZ e a->DZ e (L.foldl (fun e k=>if (e.at_ i).free k then e.ready i k else e) a):=fun L=>by
  induction L with
  | nil=>exact fun a h=>h
  | cons k L d =>
   intro a h;rw[List.foldl_cons];refine d _ ?_
   split
   .exact h
   .exact h
 exact this _ e ⟨rfl,rfl,rfl⟩
theorem Si {tok:Int}(he:e.AY tok=some e'):DZ e e':=by
 unfold Ab.AY at he
 split at he
 .cases he
 .simp only at he
  split at he
  .cases he;exact⟨rfl,rfl,rfl⟩
  .cases he;exact⟨rfl,rfl,rfl⟩
theorem La {tok:Int}(he:e.complete tok=some e'):DZ e e':=by
 unfold Ab.complete at he
 split at he
 .cases he
 .rename_i i k _
  cases he
  obtain⟨a1,a2,a3⟩:=Jc (((e.Af i k (fun s=>{ s with st:=5 })).Bm i)) i;obtain⟨a,d,g⟩:=TU (e.Af i k (fun s=>{ s with st:=5 })) i;exact⟨a1.trans a,a2.trans d,a3.trans g⟩
theorem PO (e:Ab)(i k:Nat):DZ e (e.AH i k):=by
 unfold Ab.AH;simp only
 split
 .exact⟨rfl,rfl,rfl⟩
 .exact Jc _ i
theorem SA {tok:Int}(he:e.fail tok=some e'):DZ e e':=by
 unfold Ab.fail at he
 split at he
 .cases he
 .cases he;exact PO e _ _
theorem NI {id:Int}(he:e.cancel id=some e'):DZ e e':=by
 unfold Ab.cancel at he
 split at he
 .cases he
 .split at he
  .cases he;exact⟨rfl,rfl,rfl⟩
  .cases he
theorem Ez.ok (h:Ez e l e2)(ok:Aj e):Aj e2/\e.Ah<=e2.Ah/\e.Ai<=e2.Ai/\(0<=e.Ar/\e.Ar<18446744073709551616->0<=e2.Ar/\e2.Ar<18446744073709551616):=by
 cases h with
 | AM p hb he =>
  obtain⟨d,_,a,j,m,_⟩:=ok.AM p.ok he;exact⟨d,by omega,by omega,fun x=>by rw[a];exact x⟩
 | Bl he =>
  obtain⟨i,_,_,_,_,_,_,_,_,_,m,_,n,_,q,_⟩:=Ng ok he;exact⟨ok.Bl he,by omega,by omega,fun x=>by rw[n];exact x⟩
 | AY hn he =>
  obtain⟨d,g,a⟩:=Si he;exact⟨ok.AY he,by omega,by omega,fun x=>by rw[a];exact x⟩
 | complete hn he =>
  obtain⟨d,g,a⟩:=La he;exact⟨ok.complete he,by omega,by omega,fun x=>by rw[a];exact x⟩
 | fail hn he =>
  obtain⟨d,g,a⟩:=SA he;exact⟨ok.fail he,by omega,by omega,fun x=>by rw[a];exact x⟩
 | cancel hn he =>
  obtain⟨d,g,a⟩:=NI he;exact⟨ok.cancel he,by omega,by omega,fun x=>by rw[a];exact x⟩
 | tick hn he =>
  obtain⟨d,_,a,j,m⟩:=he.ok ok (by omega);exact⟨d,by omega,by omega,fun x=>by rw[j];exact x⟩
 | Ar hn=>exact⟨⟨{ ok.wk with },ok.goes⟩,QCm _,QCm _,fun _=>⟨Int.natCast_nonneg _,Int.ofNat_lt.2 hn⟩⟩
open Go.RowKit
attribute [local go_sem ↓] Go.wp_at_zero Go.wp_at_succ
structure RvN (w:World)(P B:Nat):Prop where
 pb:P<B
 bs:B<=w.heap.size
 Ix:AP w
 tb:2<B
 tp:2≠P
theorem RvN.kf (h:RvN w P B)(hf:KF w w' P B ob):RvN w' P B :=
 ⟨h.pb,Zv h.bs hf.size,h.Ix.at_ (hf.block _ (Zy h.tb h.bs) h.tp (Zu h.tb)),h.tb,h.tp⟩
theorem Md (op:Int)(l:List Int):(AU op l 0).length=l.length+1:=by
 unfold AU;rw[Zd3];simp
theorem Zee (op:Int)(n:Nat):(AU op [] n).length=(Ct n).length+1:=by
 unfold AU;simp
theorem QL (w:World)(P B b o c:Nat)(ob:Option Nat)(e e2:Ab)(l:List Int)(h:BE qh w P B ob e)(ok:Aj e)(AZ:Az e)(m:Ez e l e2)(hl:l.length<=900001)(hn:RvN w P B)(hb:Aw w (some ⟨b,o,none⟩) l.length c (BS l)) :
  Calls prog 81 #[.pointer (some ⟨P,4,none⟩),.slice (some ⟨b,o,none⟩) l.length c] w fun x w'=>x=.returned (.tuple #[])/\Js qh w w' P B ob e2:=by
 have g:P<w.heap.size:=Zy hn.pb hn.bs;have d:=Zy hn.tb hn.bs
 cases m with
 | AM j i he =>
  rw[Md] at hl hb ⊢;exact Zb w P B b o c ob e e2 _ h ok AZ j he (by omega) hb hn.pb hn.bs hn.Ix d
 | Bl he =>
  rw[Md] at hl hb ⊢;exact Zc w P B b o c ob e e2 h ok AZ he hb g
 | AY a he =>
  rw[Zee] at hl hb ⊢;exact Zd w P B b o c _ ob e e2 h ok AZ a he hb
 | complete a he =>
  rw[Zee] at hl hb ⊢;exact Ze w P B b o c _ ob e e2 h ok AZ a he hb
 | fail a he =>
  rw[Zee] at hl hb ⊢;exact Zf w P B b o c _ ob e e2 h ok AZ a he hb
 | cancel a he =>
  rw[Zee] at hl hb ⊢;exact Zg w P B b o c _ ob e e2 h ok AZ a he hb
 | tick a he =>
  rw[Zee] at hl hb ⊢;exact Zh w P B b o c _ ob e e2 h ok AZ a he hn.Ix d hn.tb hn.tp hb
 | Ar a =>
  rw[Zee] at hl hb ⊢;exact Zi w P B b o c _ ob e _ h ok AZ a rfl hb
theorem Da.grows {a:List (List Int)}(h:Da e a e2)(ok:Aj e)(d:0<=e.Ar/\e.Ar<18446744073709551616):Aj e2/\e.Ah<=e2.Ah/\e.Ai<=e2.Ai/\0<=e2.Ar/\e2.Ar<18446744073709551616:=by
 induction h with
 | nil e=>exact⟨ok,QCm _,QCm _,d⟩
 | cons n _ p =>
  obtain⟨a1,a2,a3,a4⟩:=n.ok ok;obtain⟨g,i,j,m⟩:=p a1 (a4 d);exact⟨g,QCl a2 i,QCl a3 j,m⟩
theorem Da.AZ {a:List (List Int)}(h:Da e a e2)(ok:Aj e)(d:0<=e.Ar/\e.Ar<18446744073709551616)(AZ:Az e2):Az e:=by
 obtain⟨_,g,i,_⟩:=h.grows ok d;exact⟨QKc g AZ.lr,QKc i AZ.lt,d.1,d.2⟩
structure RY (w:World)(P:Nat)(b:Nat):Prop where
 ne:b≠P
 Au:∃cs fr,w.heap[b]? =some (.cells cs 5 fr)
theorem RY.kf (h:RY w P b)(hf:KF w w' P B ob):w'.heap[b]? =w.heap[b]? :=by
 obtain⟨cs,fr,e⟩:=h.Au;exact hf.block b (Zaa e) h.ne (Zj ⟨cs,_,fr,e,by decide,by decide,by decide,by decide,by decide,fun x=>absurd x (by decide)⟩)
theorem Aw.at_ {n:Nat}(h:Aw w (some ⟨b,o,none⟩) n c f)(e:w'.heap[b]? =w.heap[b]?):Aw w' (some ⟨b,o,none⟩) n c f:=by
 rcases h with h | ⟨m,p,e0,g,i,j,d⟩
 .exact Zu h
 .simp only[QCf,QJl] at e0
  obtain⟨rfl,rfl,_⟩:=e0;refine Zj ⟨b,o,rfl,g,i,?_,fun k hk=>⟨(QEc (a:=⟨b,o+k,none⟩) e).trans (d k hk).1,(d k hk).2⟩⟩;have:=e.trans (Array.getElem?_eq_getElem j);exact Zaa this
def lenV:Value->Nat
 | .slice _ n _=>n
 | _=>0
theorem Pf (w:World)(P B b o c:Nat)(ob:Option Nat)(e e2:Ab)(d:List (List Int))(h:BE qh w P B ob e)(ok:Aj e)(L:0<=e.Ar/\e.Ar<18446744073709551616)(AZ:Az e2)(K:Da e d e2)(m:∀l∈d,Gz l)(hn:RvN w P B)(hu:RY w P b)(hb:Aw w (some ⟨b,o,none⟩) (d.flatMap Zar).length c (BS (d.flatMap Zar)))(hN:(d.flatMap Zar).length<=1000000000000) :
  Calls prog 121 #[.slice (some ⟨b,o,none⟩) (d.flatMap Zar).length c,.func (.func 81) #[.pointer (some ⟨P,4,none⟩)] #[]] w fun x w'=>x=.returned (.int .i64 0)/\Js qh w w' P B ob e2:=by
 have H:=Zz (Zq h (Zq ok (Zq L (Zq K (Zq m (Zq hn (Zq hu hb)))))));have HL:=Zz AZ;have HN:=Zz hN;clear h ok L AZ K m hn hu hb hN
 go_enter func121,ntmps121
 go_wp2_with fail
 go_loopw [0] (fun v wx=>∃(rs:List (List Int)) (A:Ab) (o1 c1 n1:Nat) (s:Option Nat),v=.slice (some ⟨b,o1,none⟩) n1 c1/\n1=(rs.flatMap Zar).length/\n1<=1000000000000/\Aw wx (some ⟨b,o1,none⟩) n1 c1 (BS (rs.flatMap Zar))/\BE qh wx P B s A/\Aj A/\(0<=A.Ar/\A.Ar<18446744073709551616)/\Da A rs e2/\(∀l∈rs,Gz l)/\RvN wx P B/\RY wx P b/\KF w wx P B ob/\As w ob s) (fun v _=>lenV v)
 case atStart =>
  obtain⟨Y,h2,h3,h4,h5,h6,h7,h8⟩:=H.o;exact⟨d,e,o,c,_,ob,rfl,rfl,HN.o,h8,Y,h2,h3,h4,h5,h6,h7,KF.refl _ _ _ _,As.refl _ _⟩
 case round =>
  obtain⟨rs,A,o1,c1,n1,s,rfl,r,ag,hb,hk,ok,L,K,m,hn,hu,hf,i⟩:=hrel
  rename World=>wx
  cases rs with
  | nil =>
   have i1:¬(0:Int)<(n1:Int):=by have:n1=0:=by simpa using r
                                 omega
   have he:A=e2:=by cases K;rfl
   have HE:=Zz (Zq he (Zq hk (Zq hf i)));clear he hk hf i hb K m hn hu r;go_wp2_with fail
   go_ret
   obtain⟨rfl,hk,hf,i⟩:=HE.o;exact⟨rfl,s,hk,hf,i⟩
  | cons l rs =>
   obtain⟨Q,D,E⟩:∃Q,Ez A l Q/\Da Q rs e2:=by cases K with | cons a b=>exact⟨_,a,b⟩
   have hl:=m l (List.mem_cons_self ..);have hlen:=hl.len;have Y:=hl.one;have F:(l::rs).flatMap Zar=Zar l++rs.flatMap Zar:=List.flatMap_cons;rw[F] at r hb;have y:n1=l.length+6+(rs.flatMap Zar).length:=by rw[r,ZX,Zei]
   have J:CC n1 (BS (Zar l++rs.flatMap Zar))=l.length+6:=by rw[r];exact PS hlen _
   obtain⟨V,W⟩:=Og hl.byte (rs.flatMap Zar);obtain⟨n,u⟩:∃n,n=l.length:=⟨_,rfl⟩;have hcut:=So wx b o1 n1 c1 _ hb ag (by omega) (by rw[J];omega);rw[J,show l.length+6 - 6=l.length by omega,V,<-W,decide_eq_true rfl,<-u] at hcut;have N:=Zz hcut
   obtain⟨bf,R⟩:n1<=c1/\c1<=maxLen:=by
    rcases hb with x | ⟨b',o',e0,x1,x2,_⟩
    .omega
    .exact⟨x1,x2⟩
   have az:=Zz R;clear R;have q:=Zz (Zq hb (Zq hk (Zq ok (Zq L (Zq D (Zq E (Zq m (Zq hn (Zq hu (Zq hf i))))))))));have X:=Zz (Zq y (Zq hl u));clear hb hk ok L D E m hn hu hf i hcut V W J F r hl K;rw[<-u] at hlen Y y;clear u;have i1:(0:Int)<(n1:Int):=by omega
   have i2:¬(n1:Int)<(n:Int)+6:=by omega
   have i3:n+6<=n1:=by omega
   clear y
   go_upto_region 3 with (go_at_call 167;refine N.o.mono ?_;rintro _ w4 ⟨ra,rfl,au,g⟩;obtain rfl:=au (by omega);have H4:=Zz g;clear g)
   have C:=H4.o
   have hrec:Aw w4 (some ⟨b,o1+2,none⟩) l.length n (BS l):=by
    obtain⟨hb,_⟩:=q.o;obtain⟨q1,q2,q3⟩:=X.o;have g:=hb.below C;rcases g with x | ⟨b',o',e0,x1,x2,x3,x4⟩
    .omega
    .simp only[QCf,QJl] at e0
     obtain⟨rfl,rfl,_⟩:=e0;refine Zj ⟨b,o1+2,rfl,by omega,by unfold maxLen;omega,x3,fun k hk=> ?_⟩;obtain⟨y1,y2⟩:=x4 (2+k) (by omega);have e:BS (Zar l++rs.flatMap Zar) (2+k)=BS l k:=by unfold BS;rw[Of _ hk]
     rw[e] at y1 y2;exact⟨by rw[QGj];exact y1,y2⟩
   have O:=Zz (QL w4 P B b (o1+2) n s A Q l (q.o.2.1.below C) q.o.2.2.1 (q.o.2.2.2.2.2.1.AZ (q.o.2.2.2.2.1.ok q.o.2.2.1).1 ((q.o.2.2.2.2.1.ok q.o.2.2.1).2.2.2 q.o.2.2.2.1) HL.o |> fun h=>Da.AZ (.cons q.o.2.2.2.2.1 q.o.2.2.2.2.2.1) q.o.2.2.1 q.o.2.2.2.1 HL.o) q.o.2.2.2.2.1 (by have:=X.o.2.2;omega) (q.o.2.2.2.2.2.2.2.1.kf (KF.Ae P B ob C)) hrec);rw[<-X.o.2.2] at O;clear hrec C
   go_upto_region 7 with (go_at_call 81;refine O.o.mono ?_;rintro _ w5 ⟨rfl,U⟩;have H5:=Zz U;clear U)
   go_wp2_with fail
   go_roundw
   case rel =>
    obtain⟨hb,hk,ok,L,D,E,m,hn,hu,hf,i⟩:=q.o;obtain⟨r,hl,u⟩:=X.o;obtain⟨ax,ae,I,T⟩:=H5.o;obtain⟨ay,_,_,aw⟩:=D.ok ok;have g:=H4.o;have S:KF w w4 P B ob:=hf.trans (KF.Ae P B s g) i;have aj:=hn.kf (KF.Ae P B ob g);have M:RY w4 P b:=⟨hu.ne,by obtain⟨cs,fr,e⟩:=hu.Au;exact⟨cs,fr,(g.block b (Zaa e)).trans e⟩⟩;have G:As w ob s:=i;have z:=(hb.from_ (p:=n+6) (by omega)).below g;have t:=M.kf I
    obtain⟨o2,al,ar⟩:∃o2,(if c1=n+6 then some (⟨b,o1,none⟩:Addr) else some ⟨b,o1+(n+6),none⟩)=some ⟨b,o2,none⟩/\(if c1=n+6 then (⟨b,o1,none⟩:Addr) else ⟨b,o1+(n+6),none⟩)=⟨b,o2,none⟩:=by
     by_cases c0:c1=n+6
     .exact⟨o1,if_pos c0,if_pos c0⟩
     .exact⟨o1+(n+6),if_neg c0,if_neg c0⟩
    rw[ar] at z
    have Z:(fun j=>BS (Zar l++rs.flatMap Zar) (n+6+j))=BS (rs.flatMap Zar):=by
     funext j
     rw[show n+6+j=(Zar l).length+j by rw[Zei];omega];exact Uw _ _ j
    refine⟨rs,Q,o2,c1 - (n+6),n1 - (n+6),ax,by rw[al],by omega,by omega,?_,ae,ay,aw L,E,fun x hx=>m x (List.mem_cons_of_mem _ hx),aj.kf I,⟨M.ne,by obtain⟨cs,fr,e⟩:=M.Au;exact⟨cs,fr,t.trans e⟩⟩,S.trans I G,?_⟩
    .have h9:=z.at_ t
     rw[Z] at h9;exact h9
    .exact G.trans (fun k hk=>(T k hk)) (Zv S.size ZU)
   case measure=>simp[lenV];omega
theorem Av.lookS {R D bd bn:Nat}{d:Ax}(h:Av w R D bd bn d){i:Nat}(hi:i<3){s:List Int}(g:d.now i=some s):∃b:Nat,(Instr.lookup 89 (.map (some bn)) (.string (CX i)) true).run prog w=.ok (.tuple #[.pointer (some ⟨b,0,none⟩),.bool true]) w/\Zdg w b s:=by
 obtain⟨n,j⟩:=h.fn;obtain⟨v,a,m⟩:=j.look hi;obtain⟨b,rfl,hb⟩:=m s g;rw[g] at a;exact⟨b,a,hb⟩
def Fy (w w':World)(b c:Nat)(l:List Int):Prop:=Aw w' (some ⟨b,0,none⟩) l.length c (BS l)/\(∃cs fr,w'.heap[b]? =some (.cells cs 5 fr))/\w.heap.size<=b/\Below w.heap.size w w'
theorem WR (hl:BC l)(hk:k<l.length):(((Zbn l).data.toList.getD k 0).toNat:Int)=l.getD k 0:=by
 have h:=KO l hl
 have d:(Zbn l).data.toList.length=l.length:=by
  have:=congrArg List.length h;simpa using this
 have a:(((Zbn l).data.toList.map (fun b=>(b.toNat:Int))).getD k 0)=l.getD k 0:=by rw[h]
 rw[ZQ,QEp,ZZ (by omega)] at a;rw[ZQ,ZZ (by omega)];exact a
theorem XT (w:World)(l:List Int)(hl:BC l)(hlen:l.length<=1000000000000):Fy w (Lib.bytesWorld w 5 (Zbn l)) w.heap.size (grownCap w (Zbn l).size 0 5) l:=by
 have a:(Zbn l).size=l.length:=Zeb l;refine⟨?_,⟨_,_,Lib.bytesWorld_at_new w _ _⟩,Zx _,⟨rfl,rfl,rfl,by rw[Lib.bytesWorld_size];omega,fun k hk=>Lib.bytesWorld_at_old w _ _ k hk⟩⟩
 .by_cases d:l.length=0
  .exact Zu d
  .refine Zj ⟨w.heap.size,0,rfl,by rw[<-a];exact grownCap_ge _ _ _ _,grownCap_le_maxLen _ _ _ _ (by rw[a];unfold maxLen;omega),by rw[Lib.bytesWorld_size];omega,fun k hk=> ?_⟩
   rw[Nat.zero_add,Lib.bytesWorld_cell w _ _ k (by rw[a];exact hk)];have e:=WR hl hk
   have hb:0<=l.getD k 0/\l.getD k 0<256:=by
    rw[ZQ,ZZ hk];exact hl _ (QAi hk)
   unfold BS;exact⟨by rw[<-e];rfl,by omega⟩
theorem PD (w:World)(R D bd bn:Nat)(d:Ax)(i:Nat)(s:List Int)(h:Av w R D bd bn d)(y:d.down=false)(hi:i<3)(z:d.now i=some s)(hb:BC s)(hlen:s.length<=1000000000000):Calls prog 318 #[.pointer (some ⟨D,0,none⟩),.string (CX i)] w fun x w'=>∃b c,x=.returned (.tuple #[.slice (some ⟨b,0,none⟩) s.length c,.nilIface])/\Fy w w' b c s:=by
 obtain⟨H,I,q1,G⟩:=h.c;obtain⟨sb,v,p⟩:=h.lookS hi z;have t1:=q1.cells.1.1.1.1.2;have t5:=q1.cells.2;rw[y] at t5;have g:=XT w s hb hlen;have a:=Lib.run_convert_string_bytes (P:=prog) w 9 112 5 (Zbn s) underlying9 underlying112 underlying5;have u:w.cell? ⟨sb,0,none⟩=some (.string (Zbn s)):=Zad p 0;obtain⟨E,t⟩:∃E,E=Lib.bytesWorld w 5 (Zbn s):=⟨_,rfl⟩;obtain⟨c9,j⟩:∃c9,c9=grownCap w (Zbn s).size 0 5:=⟨_,rfl⟩;have r:=Zeb s;rw[<-t,<-j] at a g;rw[r] at a;obtain⟨nm,n⟩:∃nm,nm=CX i:=⟨_,rfl⟩;obtain⟨C,q⟩:∃C,C=Zbn s:=⟨_,rfl⟩;obtain⟨A,m⟩:∃A,A=s.length:=⟨_,rfl⟩;rw[<-n] at v ⊢;rw[<-q] at a u;rw[<-m] at a ⊢;have F:=Zz g;clear h q1 G y hi n z p t j g q m r hb hlen
 go_enter func318,ntmps318
 go_wp2_with fail
 go_ret2
 exact⟨_,c9,rfl,F.o⟩
theorem is_nil (x:Int)(w:World) :
  Calls prog 84 #[.nilIface,.iface 32 (.int .i64 x)] w fun e w'=>e=.returned (.bool false)/\w'=w:=by
 have heq:(binOp .eql 98 .nilIface (.iface 32 (.int .i64 x))).run prog w=.ok (.bool false) w:=by kernel_rfl
 go_enter func84,ntmps84
 go_wp2_with fail
 go_ret
 exact⟨rfl,rfl⟩
theorem Qp (w:World)(R D bd bn:Nat)(d:Ax)(i:Nat)(s:List Int)(h:Av w R D bd bn d)(n:d.down=false)(hi:i<3)(p:d.now i=some s)(hb:BC s)(hlen:s.length<=1000000000000):Calls prog 166 #[By D,.string (CX i)] w fun x w'=>∃b c,x=.returned (.tuple #[.slice (some ⟨b,0,none⟩) s.length c,.nilIface])/\Fy w w' b c s:=by
 have j:=Zz (PD w R D bd bn d i s h n hi p hb hlen);obtain⟨nm,g⟩:∃nm,nm=CX i:=⟨_,rfl⟩;obtain⟨q,a⟩:∃q,q=s.length:=⟨_,rfl⟩;have hm:=VH;unfold By;rw[<-g,<-a] at j;rw[<-g,<-a];clear h n hi g p hb hlen a
 go_enter func166,ntmps166
 go_wp2_with (first
  | (go_at_call 318;refine j.o.mono ?_;rintro _ t ⟨b,c,rfl,m⟩;have r:=Zz m;clear m)
  | (go_at_call 84;refine (is_nil 9 _).mono ?_;rintro _ u ⟨rfl,rfl⟩))
 go_ret2
 exact⟨b,c,rfl,r.o⟩
theorem Fy.since {a:World}(h:Fy w w' b c l)(hb:ZY a w):Fy a w' b c l :=
 ⟨h.1,h.2.1,Zv hb.size h.2.2.1,hb.trans (h.2.2.2.mono hb.size)⟩
theorem Fy.set1 (h:Fy w w' b c l)(hk:b≠k)(hw:w.heap.size<=k)(x:Value):Fy w (w'.setCell ⟨k,o,none⟩ x) b c l:=by
 have e:(w'.setCell ⟨k,o,none⟩ x).heap[b]? =w'.heap[b]? :=Zl _ ⟨k,o,none⟩ _ b hk;exact⟨h.1.at_ e,by obtain⟨cs,fr,y⟩:=h.2.1;exact⟨cs,fr,e.trans y⟩,h.2.2.1,h.2.2.2.setCell (p:=⟨k,o,none⟩) hw _⟩
theorem Fy.set3 (h:Fy w w' b c l)(hk:b≠k)(hw:w.heap.size<=k)(x y z:Value):Fy w (((w'.setCell ⟨k,0,none⟩ x).setCell ⟨k,1,none⟩ y).setCell ⟨k,2,none⟩ z) b c l :=
 ((h.set1 hk hw x).set1 hk hw y).set1 hk hw z
def LA (b n c:Nat):Value:=.agg #[.int .i64 0,.slice none 0 0,.slice (some ⟨b,0,none⟩) n c]
theorem SD {rb n:Nat}(h:w.heap[rb]? =some (.cells #[.int .i64 0,.slice none 0 0,.slice (some ⟨b,0,none⟩) n c] 220 (0,0))):(loadVar 220 ⟨rb,0,none⟩).run prog w=.ok (LA b n c) w:=by
 have z0:=Zae h 0;have a:=Zae h 1;have z2:=Zae h 2;unfold LA
 go_simp
theorem Ll (w:World)(R D bd bn:Nat)(d:Ax)(s:List Int)(h:Av w R D bd bn d)(M:d.down=false)(T:d.now 0=some s)(hn:∀i,1<=i->i<3->d.now i=none)(hb:BC s)(hlen:s.length<=1000000000000)(n:Za4 w):Calls prog 120 #[By D] w fun x w'=>∃b c,x=.returned (.tuple #[LA b s.length c,.nilIface])/\Fy w w' b c s:=by
 have q:=Zz (show ∀i a,1<=i->i<3->ZY w a->Calls prog 166 #[By D,.string (CX i)] a fun x w'=>x=.returned (.tuple #[.slice none 0 0,.nilIface])/\ZY a w' from fun i a W hi hb=>Ke a R D bd bn d i (h.below hb) M hi (hn i W hi));have r:=Zz (show ∀a,ZY w a->Calls prog 166 #[By D,.string (CX 0)] a fun x w'=>∃b c,x=.returned (.tuple #[.slice (some ⟨b,0,none⟩) s.length c,.nilIface])/\Fy a w' b c s from fun a L=>Qp a R D bd bn d 0 s (h.below L) M (by decide) T hb hlen);obtain⟨C,G⟩:∃C,C=s.length:=⟨_,rfl⟩;rw[<-G] at r ⊢;obtain⟨n0,u⟩:∃s,s=CX 0:=⟨_,rfl⟩;obtain⟨n1,y⟩:∃s,s=CX 1:=⟨_,rfl⟩;obtain⟨n2,z⟩:∃s,s=CX 2:=⟨_,rfl⟩
 have p:=Zz (show ∀a,ZY w a->(a.cell? ⟨1,0,none⟩=some (.string n0)/\a.cell? ⟨1,1,none⟩=some (.string n1))/\a.cell? ⟨1,2,none⟩=some (.string n2) from fun a hb=>by
  rw[u,y,z];exact⟨⟨QFa hb (n 0 (by decide)),QFa hb (n 1 (by decide))⟩,QFa hb (n 2 (by decide))⟩)
 have O:=Zz (show ∀a,ZY w a->Calls prog 166 #[By D,.string n0] a fun x w'=>∃b c,x=.returned (.tuple #[.slice (some ⟨b,0,none⟩) C c,.nilIface])/\Fy a w' b c s from fun a hb=>by rw[u];exact r.o a hb);have H1:=Zz (show ∀a,ZY w a->Calls prog 166 #[By D,.string n1] a fun x w'=>x=.returned (.tuple #[.slice none 0 0,.nilIface])/\ZY a w' from fun a hb=>by rw[y];exact q.o 1 a (by decide) (by decide) hb);have Q:=Zz (show ∀a,ZY w a->Calls prog 166 #[By D,.string n2] a fun x w'=>x=.returned (.tuple #[.slice none 0 0,.nilIface])/\ZY a w' from fun a hb=>by rw[z];exact q.o 2 a (by decide) (by decide) hb);obtain⟨N,A⟩:∃N,N=w.alloc (.cells #[.int .i64 0,.slice none 0 0,.slice none 0 0] 220):=⟨_,rfl⟩;have K:=Zz (show ZY w N from by rw[A];exact ZV.alloc ZU _);have V:=Zz A;obtain⟨S,F⟩:∃S,S=By D:=⟨_,rfl⟩;rw[<-F] at O H1 Q ⊢;clear h M hn n u y z q r A F T hb hlen G
 go_enter func120,ntmps120
 go_wp2_with fail
 go_loopw [4] (fun J wr=>(J=.int .i64 2\/J=.int .i64 1\/J=.int .i64 0)/\ZY w wr/\wr.heap[w.heap.size]? =some (.cells #[.int .i64 0,.slice none 0 0,.slice none 0 0] 220 (0,0))) (fun J _=>(intOf J).toNat)
 case atStart=>exact⟨Zu rfl,by rw[<-V.o];exact K.o,heap_alloc_new w _⟩
 case round =>
  obtain⟨hi,hb,hf⟩:=hrel;rcases hi with rfl | rfl | rfl
  .obtain⟨⟨q0,q1⟩,U⟩:=p.o wr hb
   have HF:=Zz (Zq hb hf);clear hb hf
   go_wp2_with (first
    | (go_at_call 166;refine (Q.o wr HF.o.1).mono ?_;rintro _ E ⟨rfl,m⟩;have g:=Zz m;clear m)
    | (go_at_call 167;refine (Zd7 _).mono ?_;rintro _ w4 ⟨rfl,rfl⟩))
   go_roundw
   case rel=>exact⟨by simp,HF.o.1.trans (g.o.mono HF.o.1.size),(g.o.block _ (Zaa HF.o.2)).trans HF.o.2⟩
   case measure=>decide
  .obtain⟨⟨q0,q1⟩,U⟩:=p.o wr hb
   have HF:=Zz (Zq hb hf);clear hb hf
   go_wp2_with (first
    | (go_at_call 166;refine (H1.o wr HF.o.1).mono ?_;rintro _ E ⟨rfl,m⟩;have g:=Zz m;clear m)
    | (go_at_call 167;refine (Zd7 _).mono ?_;rintro _ w4 ⟨rfl,rfl⟩))
   go_roundw
   case rel=>exact⟨by simp,HF.o.1.trans (g.o.mono HF.o.1.size),(g.o.block _ (Zaa HF.o.2)).trans HF.o.2⟩
   case measure=>decide
  .obtain⟨⟨q0,q1⟩,U⟩:=p.o wr hb
   have HF:=Zz (Zq hb hf);clear hb hf;go_wp2_with (go_at_call 166;refine (O.o wr HF.o.1).mono ?_;rintro _ E ⟨nb,nc,rfl,t⟩;have j:=(t.2.2.2.block _ (Zaa HF.o.2)).trans HF.o.2;have g:=Zz (Zq t j);have X:=Zae j 0;have Y:=Zae j 1;have Z:=Zae j 2;have f0:E.frozen? ⟨w.heap.size,0,none⟩=false:=(by simp[QHj,j]);have f1:E.frozen? ⟨w.heap.size,1,none⟩=false:=(by simp[QHj,j]);have f2:E.frozen? ⟨w.heap.size,2,none⟩=false:=(by simp[QHj,j]);clear t j)
   have I:(((E.setCell ⟨w.heap.size,0,none⟩ (.int .i64 0)).setCell ⟨w.heap.size,1,none⟩ (.slice none 0 0)).setCell ⟨w.heap.size,2,none⟩ (.slice (some ⟨nb,0,none⟩) C nc)).heap[w.heap.size]? =some (.cells #[.int .i64 0,.slice none 0 0,.slice (some ⟨nb,0,none⟩) C nc] 220 (0,0)):=by
    rw[Zab (Zab (Zab g.o.2 _) _) _];rfl
   have H:=SD I;refine QEz (v:=.tuple #[LA nb C nc,.nilIface]) (by rw[results_cell_tmp rfl];simp[Result.andThen,asAddr,H]) rfl ⟨nb,nc,rfl,?_⟩;have hl:=Zaa HF.o.2;exact ((g.o.1.since HF.o.1).set3 (k:=w.heap.size) (by have:=g.o.1.2.2.1;omega) ZU _ _ _)
