import Derived.Test.YtgdcjccbdmcebaaGreatDoorM04
import Derived.Test.YtgdcjccbdmcebaaGreatDoorM05
set_option linter.all false
set_option maxHeartbeats 4000000
set_option maxRecDepth 100000
open Go renaming bodyPost_ret->QEz,cell_later->QFa,wpList_append_own->QFb
open Go.RowKit renaming ownsRow_setCell_below->QDu
open Go.World renaming setCell->QDw,cell?_setCell_same'->QFc,ownsRow_nil->QEj
open Nat renaming two_pow_pos->QBy,pow_lt_pow_right->QFd,testBit_lt_two_pow->QFe,testBit_two_pow_sub_succ->QFf,pow_le_pow_right->QFg
namespace Go.Proofs.YtgdcjccbdmcebaaGreatDoor
open Tryz
open Go.RowKit
def NK (w:World)(pb:Nat):Int:=match w.cell? ⟨pb,0,none⟩ with | some v=>intOf v | none=>0
theorem NL {w:World}{pb:Nat}{k:IntKind}{p:Int}(h:w.cell? ⟨pb,0,none⟩=some (.int k p)):NK w pb=p:=by unfold NK;rw[h];rfl
structure Xy (F:Ad)(w w':World)(p:Nat):Prop where
 cell:w'.cell? ⟨w.heap.size,0,none⟩=some (.int .u64 p)
 free:w'.frozen? ⟨w.heap.size,0,none⟩=false
 size:w.heap.size<w'.heap.size
 bl:ZY w w'
 lt:p<2 ^ F.n
 sound:∀j,j<F.n->p.testBit j=true->CY F j
def JumpJ (F:Ad)(b o cap:Nat)(w:World)(a':Act)(w':World):Prop :=
 ∃(p:Nat) (u6 u7 u8 u9 u10 u11 u12 u13 u14 u15 u16 u17 u18 u19 u20 u21 u22 u23 u24 u25 u26 u27 u28 u29 u30 u31:Value),Xy F w w' p /\
  a'={ tmps:=#[.slice (some ⟨b,o,none⟩) F.n cap,undef,.int .i64 0,.bool false,.pointer (some ⟨w.heap.size,0,none⟩),.func (.func 270) #[] #[.pointer (some ⟨w.heap.size,0,none⟩)],
   u6,u7,u8,u9,u10,u11,u12,u13,u14,u15,u16,u17,u18,u19,u20,u21,u22,u23,u24,u25,u26,u27,u28,u29,u30,u31,undef,undef,undef,undef,undef,undef,undef,undef],defers:=[] }
theorem or_bit (p i:Nat)(hp:p<4096)(hi:i<12):bits BinOp.or IntKind.u64 (p:Int) (IntKind.u64.wrap (2 ^ i))=((p ||| 2 ^ i:Nat):Int):=by
 have c:(2:Nat) ^ i<4096:=Zy (QFd (by decide) hi) (by decide)
 have a:IntKind.u64.wrap (2 ^ i)=((2 ^ i:Nat):Int):=by
  have b:((2:Int) ^ i)=((2 ^ i:Nat):Int):=by simp
  have d:=QBy i;rw[b,IntKind.wrap_u64];omega
 rw[a,bits_or_u64_nat _ _ (by omega) (by omega)]
theorem or_lt (p i n:Nat)(hp:p<2 ^ n)(hi:i<n):p ||| 2 ^ i<2 ^ n:=Nat.or_lt_two_pow hp (QFd (by decide) hi)
theorem Kr (p i j:Nat):(p ||| 2 ^ i).testBit j=(p.testBit j||decide (i=j)):=by rw[Nat.testBit_or,Nat.testBit_two_pow]
theorem or_gt (p i:Nat)(h:p.testBit i=false):p<p ||| 2 ^ i:=by
 apply Nat.lt_of_le_of_ne Nat.left_le_or
 intro e;have a:=Kr p i i;rw[<-e,h] at a;simp at a
theorem ZJ (p:Nat)(hp:p<4096):bits BinOp.xor IntKind.u64 IntKind.u64.max (p:Int)=((18446744073709551615 - p:Nat):Int):=by
 have a:IntKind.u64.max=((18446744073709551615:Nat):Int):=by decide
 rw[a,bits_xor_u64_nat _ _ (by decide) (by omega)]
 congr 1
 apply Nat.eq_of_testBit_eq
 intro i;have b:18446744073709551615 - p=2 ^ 64 - (p+1):=by omega
 have c:18446744073709551615=2 ^ 64 - (0+1):=by decide
 rw[Nat.testBit_xor,b,QFf (by omega),c,QFf (by decide)];by_cases hi:i<64
 .simp[hi]
 .have:p.testBit i=false:=QFe (Zy (show p<2 ^ 64 by omega) (QFg (by decide) (by omega)))
  simp[hi,this]
theorem SG (p n:Nat)(h:p.testBit n=false):∃j,j<=n/\p.testBit j=false/\∀i,i<j->p.testBit i=true:=by
 induction n using Nat.strongRecOn with
 | _ n d =>
  by_cases a:∃i,i<n/\p.testBit i=false
  .obtain⟨i,hi,hp⟩:=a
   obtain⟨j,e,b,c⟩:=d i hi hp;exact⟨j,by omega,b,c⟩
  .refine⟨n,Zx _,h,fun i hi=> ?_⟩
   cases hb:p.testBit i with
   | true=>rfl
   | false=>exact absurd ⟨i,hi,hb⟩ a
theorem RT (p j:Nat)(w:World)(hp:p<4096)(d:j<=12)(a:∀i,i<j->p.testBit i=true)(b:p.testBit j=false)(c:AP w) :
  Calls prog 271 #[.int .u64 (bits BinOp.xor IntKind.u64 IntKind.u64.max (p:Int))] w fun e w'=>e=.returned (.int .i64 j)/\w'=w:=by
 rw[ZJ p hp];have h:=tz_any (18446744073709551615 - p) (by omega) (by omega) w c;rw[Sn p j (by omega) (by omega) a b] at h;exact h
theorem AP.Ak {w w':World}(h:AP w)(hg:2<w.heap.size)(hb:ZY w w'):AP w' :=
 fun j a=>(hb.cell (p:=⟨2,j,none⟩) hg).trans (h j a)
theorem Mx (F:Ad)(b o cap:Nat)(E:Nat->Option Addr)(G:Nat->Nat)(w:World)(ag:1<=F.n)(hn:F.n<=12)(hb:b<w.heap.size)(Y:AP w)(hg:2<w.heap.size)
  (he:∀j,j<F.n->AN F j) (hc:∀i,i<F.n->DX w F i b (o+i * 7) (E i) (G i)) :
  Calls prog 220 #[.slice (some ⟨b,o,none⟩) F.n cap] w fun e w'=>((∃j:Nat,e=.returned (.tuple #[.int .i64 j,.bool true])/\j<F.n/\¬CY F j/\∀k,k<j->CY F k)\/(∃j:Nat,e=.returned (.tuple #[.int .i64 j,.bool false])/\∀k,k<F.n->CY F k))/\ZY w w':=by
 have ae:∀(fn:Fn) (first cap:Array Value) (w:World),(Instr.makeFunc fn first cap).run prog w=.ok (.func fn first cap) w:=fun _ _ _ _=>rfl;have L:=Zz he;have HC:=Zz hc;have P:=Zz Y;clear he hc Y
 go_enter func220,ntmps220
 go_wp2
 refine Ev 0 (JumpJ F b o cap w) (fun _ w'=>(4096 - NK w' w.heap.size).toNat) rfl ?_ ?_
 .intro R W
  have HH:=Zz W;clear W
  go_wp2
  go_step3
  rename_i K hK
  refine hK _ _ (HH.o _ _ ?_);exact⟨0,_,_,_,_,_,_,_,_,_,_,_,_,_,_,_,_,_,_,_,_,_,_,_,_,_,_,⟨by simp,by simp,by simp,ZV.alloc ZU _,QBy _,fun j _ h=>by simp at h⟩,rfl⟩
 .rintro a' w' ⟨p,u6,u7,u8,u9,aj,al,ar,au,aw,ax,u16,ay,az,bf,bh,bj,bo,bp,br,bw,ck,cm,cq,cr,cu,cy,Q,rfl⟩
  obtain⟨V,x1,x2,x3,I,x5⟩:=Q;have hp:p<4096:=Zy I (QFg (by omega) hn);have D:NK w' w.heap.size=p:=NL V;rw[D];have O:=Zz x5;clear D x5;go_wp2_with fail
  go_loopw [12] (fun U wx=>∃i:Nat,i<=F.n/\U=.int .i64 i/\(∀j,j<i->p.testBit j=true\/Hv p (F.an j) (F.af j)=true)/\wx.cell? ⟨w.heap.size,0,none⟩=some (.int .u64 p)/\wx.frozen? ⟨w.heap.size,0,none⟩=false/\w.heap.size<wx.heap.size/\ZY w wx) (fun U _=>F.n - (intOf U).toNat)
  case atStart=>exact⟨0,by omega,rfl,fun j B=>by omega,V,x1,x2,x3⟩
  case round =>
   obtain⟨i,hi,rfl,u,z0,z1,z2,z3⟩:=hrel
   rename World=>g
   have N:=Zz u;clear u V x1 x2 x3;by_cases z:i<F.n
   .obtain⟨n0,n1,n2,n3,n4,n5,n6,ni⟩:=(HC.o i z).Ak hb z3
    have T:i<12:=by omega
    cases hl:Zep p i with
    | false =>
     have J:Hid (∀j,j<i+1->p.testBit j=true\/Hv p (F.an j) (F.af j)=true):=Zz fun j B=>by
      by_cases y:j<i
      .exact N.o j y
      .obtain rfl:j=i:=by omega
       left
       simpa[Zep] using hl
     have a:Hid (∀o,(g.alloc o).cell? ⟨w.heap.size,0,none⟩=some (.int .u64 p)/\(g.alloc o).frozen? ⟨w.heap.size,0,none⟩=false/\w.heap.size<(g.alloc o).heap.size/\ZY w (g.alloc o)):=Zz fun o =>
      ⟨QFa (ZV.alloc ZU _) z0,by rw[Below.frozen (w:=g) (ZV.alloc ZU _) z2];exact z1,by simp;omega,z3.alloc (by omega) _⟩
     go_wp2_with fail
     refine (ET p _ w.heap.size _ (by omega) (by omega) hp (a.o _).1).mono ?_;rintro e w' ⟨rfl,rfl⟩;go_wp2_with fail
     go_roundw
     case rel=>exact⟨i+1,by omega,by go_num,J.o,a.o _⟩
     case measure=>simp[intOf];omega
    | true =>
     have a:Hid (∀o,(g.alloc o).cell? ⟨w.heap.size,0,none⟩=some (.int .u64 p)/\(g.alloc o).frozen? ⟨w.heap.size,0,none⟩=false/\w.heap.size<(g.alloc o).heap.size/\ZY w (g.alloc o)):=Zz fun o =>
      ⟨QFa (ZV.alloc ZU _) z0,by rw[Below.frozen (w:=g) (ZV.alloc ZU _) z2];exact z1,by simp;omega,z3.alloc (by omega) _⟩
     have hints:Hid (∀o,Cx (g.alloc o) (E i) (F.an i) (G i) (F.af i)):=Zz fun o=>ni.Ak (ZV.alloc ZU _)
     have A:Hid (∀k,k<F.an i->0<=F.af i k/\F.af i k<12):=Zz fun k hk=>by
      have:=L.o i z k hk;unfold CS at this;omega
     cases Z:Hv p (F.an i) (F.af i) with
     | true =>
      have J:Hid (∀j,j<i+1->p.testBit j=true\/Hv p (F.an j) (F.af j)=true):=Zz fun j B=>by
       by_cases y:j<i
       .exact N.o j y
       .obtain rfl:j=i:=by omega
        exact Zj Z
      go_wp2_with fail
      refine (ET p _ w.heap.size _ (by omega) (by omega) hp (a.o _).1).mono ?_;rintro e w' ⟨rfl,rfl⟩;go_wp2_with fail
      refine (GB p w.heap.size _ _ _ _ _ hp (a.o _).1 (hints.o _) A.o).mono ?_;rintro e w' ⟨rfl,rfl⟩;go_wp2_with fail
      go_roundw
      case rel=>exact⟨i+1,by omega,by go_num,J.o,a.o _⟩
      case measure=>simp[intOf];omega
     | false =>
      have l:Hid (∀k,k<F.an i->Zep p (F.af i k).toNat=false):=Zz (Uq Z);have t:p.testBit i=false:=by simpa[Zep] using hl
      have HB:=Zz t;clear t;go_wp2_with fail
      refine (ET p _ w.heap.size _ (by omega) (by omega) hp (a.o _).1).mono ?_;rintro e w' ⟨rfl,rfl⟩;go_wp2_with fail
      refine (GB p w.heap.size _ _ _ _ _ hp (a.o _).1 (hints.o _) A.o).mono ?_;rintro e w' ⟨rfl,rfl⟩;go_wp2_with fail
      obtain⟨q0,q1,q2,q3⟩:=a.o (.cells #[.int .i64 (F.bu i),.int .i64 (F.cl i),.int .i64 (F.be i),.int .i64 (F.ba i),.int .i64 (F.ca i),.int .i64 (F.ji i),.slice (E i) (F.an i) (G i)] 130)
      generalize g.alloc (.cells #[.int .i64 (F.bu i),.int .i64 (F.cl i),.int .i64 (F.be i),.int .i64 (F.ba i),.int .i64 (F.ca i),.int .i64 (F.ji i),.slice (E i) (F.an i) (G i)] 130)=w5 at *
      go_region
      all_goals go_wp2
      rw[or_bit p i hp T]
      go_step3
      refine⟨rfl,⟨p ||| 2 ^ i,_,_,_,_,_,_,_,_,_,_,_,_,_,_,_,_,_,_,_,_,_,_,_,_,_,_,⟨?_,?_,?_,?_,or_lt p i F.n I z,?_⟩,rfl⟩,?_⟩
      .show (w5.setCell ⟨w.heap.size,0,none⟩ _).cell? ⟨w.heap.size,0,none⟩=_
       exact QFc _ _ _ (by rw[q0];rfl)
      .show (w5.setCell ⟨w.heap.size,0,none⟩ _).frozen? ⟨w.heap.size,0,none⟩=_
       rw[World.frozen?_setCell];exact q1
      .show w.heap.size<(w5.setCell ⟨w.heap.size,0,none⟩ _).heap.size
       simpa[QDw] using q2
      .exact (q3.setCell (by simp) _).drew
      .intro j B d
       rw[Kr] at d;by_cases e:i=j
       .subst e
        exact CY.mk i fun k hk=>O.o _ (L.o i z k hk).lt (by have:=l.o k hk;simpa[Zep] using this)
       .simp[e] at d
        exact O.o j B d
      .have e5:NK (w5.setCell ⟨w.heap.size,0,none⟩ (.int .u64 ((p ||| 2 ^ i:Nat):Int))).drew w.heap.size=((p ||| 2 ^ i:Nat):Int):=NL (k:=.u64) (QFc _ _ _ (by rw[q0];rfl))
       rw[e5];have:=or_gt p i HB.o;have:=or_lt p i F.n I z;have:2 ^ F.n<=2 ^ 12:=QFg (by omega) hn;omega
   .obtain rfl:i=F.n:=by omega
    have x:p.testBit F.n=false:=QFe I;obtain⟨j,B,r,d⟩:=SG p F.n x
    have c:Closed F (fun j=>p.testBit j):=fun k hk l=>by
     rcases N.o k hk with h | h
     .exact h
     .exfalso
      have X:=Pv (p:=p) (n:=F.an k) (f:=F.af k) fun q hq=>by simp[Zep,l q hq]
      rw[h] at X
      cases X
    have m:=Va L.o (S:=fun j=>p.testBit j) O.o c;have s:AP g:=P.o.Ak hg z3;by_cases C:j<F.n
    .have H:Hid (¬CY F j/\∀k,k<j->CY F k):=Zz ⟨fun h=>by
      have:=(m j C).1 h;simp[r] at this,fun k hk=>(m k (by omega)).2 (d k hk)⟩
     have v:=Zz s;have M:=Zz d;have HF:=Zz r;clear s d r m c x;go_wp2_with fail
     refine (RT p j _ hp (by omega) M.o HF.o v.o).mono ?_;rintro e w' ⟨rfl,rfl⟩;go_wp2_with fail
     simp only[Exit.jump]
     go_ret2
     exact⟨Zu ⟨j,rfl,C,H.o.1,H.o.2⟩,z3⟩
    .have H:Hid (∀k,k<F.n->CY F k):=Zz fun k hk=>(m k hk).2 (d k (by omega))
     have v:=Zz s;have M:=Zz d;have HF:=Zz r;clear s d r m c x;go_wp2_with fail
     refine (RT p j _ hp (by omega) M.o HF.o v.o).mono ?_;rintro e w' ⟨rfl,rfl⟩;go_wp2_with fail
     simp only[Exit.jump]
     go_ret2
     exact⟨Zj ⟨j,rfl,H.o⟩,z3⟩
def Hq (F:Ad)(w w':World)(e:Ending):Prop :=
 (e=.returned .nilIface/\Cn F 0 (-1))\/(∃(x y:Int) (q:Nat),e=.returned (.iface 172 (.pointer (some ⟨q,0,none⟩)))/\x≠0/\Cn F x y/\w.heap.size<=q/\q<w'.heap.size/\Bb w' q x y)
theorem Sl (F:Ad)(a:Option Addr)(cap:Nat)(w:World)(hn:F.n<=maxLen)(h:¬Cq F) :
  Calls prog 146 #[GL F.dl (.slice a F.n cap)] w fun e w'=>Hq F w w' e/\ZY w w':=by
 unfold maxLen at hn;have i:Cn F 2 (-1):=Zu ⟨rfl,rfl,h⟩
 have d:Za0 F.dl 1 1048576=false\/(Za0 F.dl 1 1048576=true/\Za0 F.n 1 12=false):=by
  apply Classical.byContradiction
  intro b
  apply h
  unfold Za0 at b;simp only[decide_eq_true_eq,decide_eq_false_iff_not] at b;constructor<;>omega
 have H:=Zz i;clear i h;rcases d with s0 | ⟨s0,s1⟩
 all_goals
  go_enter func146,ntmps146
  go_wp2_with (first | (go_at_call 216;refine (DU _ _ _ _).mono ?_;rintro e w' ⟨rfl,rfl⟩) | (go_at_call 217;refine (DC _ _ _).mono ?_;rintro e w' ⟨q,rfl,f,g,hf,c⟩))
  go_ret
  exact⟨Zj ⟨_,_,q,rfl,by omega,H.o,by simp at f;omega,g,hf⟩,(ZV.alloc ZU _).trans (c.mono (by simp))⟩
theorem UB (F:Ad)(b o cap:Nat)(I:Nat->Option Addr)(J:Nat->Nat)(w:World)(T:Cq F)(hb:b<w.heap.size)(R:AP w)(hg:2<w.heap.size)
  (hc:∀i,i<F.n->DX w F i b (o+i * 7) (I i) (J i)) :
  Calls prog 146 #[GL F.dl (.slice (some ⟨b,o,none⟩) F.n cap)] w fun e w'=>Hq F w w' e/\ZY w w':=by
 obtain⟨t1,t2,t3,t4⟩:=T;have s0:=Zco t1 t2;have s1:Za0 F.n 1 12=true:=Zco (by omega) (by omega);have Q:=Zz hc;have K:=Zz R;clear hc R
 go_enter func146,ntmps146
 go_wp2_with (go_at_call 216;refine (DU _ _ _ _).mono ?_;rintro e w' ⟨rfl,rfl⟩)
 go_loopw [22] (fun i wr=>∃k:Nat,k<=F.n/\i=.int .i64 k/\(∀j,j<k->Be F j/\AN F j)/\Jk w wr F (some ⟨b,o,none⟩) cap) (fun i _=>F.n - (intOf i).toNat)
 case atStart=>exact⟨0,by omega,rfl,fun j M=>by omega,Jk.start _ _ _ _ _⟩
 case round =>
  obtain⟨k,hk,rfl,y,E⟩:=hrel
  rename World=>x
  obtain⟨c0,c1,l,f⟩:=E;have C:=Zz y;clear y;by_cases L:k<F.n
  .obtain⟨n0,n1,n2,N,O,P,n6,H⟩:=(Q.o k L).Ak hb f
   have A:Hid (∀o,ZY x (x.alloc o)):=Zz fun o=>ZV.alloc ZU _;by_cases g:Be F k
   .have s2:=LX g
    by_cases m:AN F k
    .have s3:=Gn m
     have t:Hid (∀j,j<k+1->Be F j/\AN F j):=Zz fun j M=>by
      by_cases v:j<k
      .exact C.o j v
      .obtain rfl:j=k:=by omega
       exact⟨g,m⟩
     clear g m;go_wp2_with fail
     refine (EK F k _ _).mono ?_;rintro e w4 ⟨rfl,d⟩;have c:ZY x w4:=(A.o _).trans (d.mono (by simp));have m6:w4.cell? ⟨x.heap.size,6,none⟩=some (.slice (I k) (F.an k) (J k)):=(d.cell (p:=⟨x.heap.size,6,none⟩) (by simp)).trans (by simp);have m1:w4.cell? ⟨w.heap.size,1,none⟩=some (.slice (some ⟨b,o,none⟩) F.n cap):=(c.cell (p:=⟨w.heap.size,1,none⟩) l).trans c1;have a:=Zz (Jk.Ak ⟨c0,c1,l,f⟩ c);have B:=H.Ak c;clear d c n0 n1 n2 N O P n6 H c0 c1;go_wp2_with fail
     refine (Kz F k _ _ _ B t4).mono ?_;rintro e w' ⟨rfl,rfl⟩;go_wp2_with fail
     go_roundw
     case rel=>exact⟨k+1,by omega,by go_num,t.o,a.o⟩
     case measure=>simp[intOf];omega
    .have s3:=Kq m
     have t:Hid (Cn F 3 k):=Zz (Zj (Zj (Zu ⟨rfl,⟨t1,t2,t3,t4⟩,k,L,rfl,C.o,g,m⟩)));clear g m;go_wp2_with fail
     refine (EK F k _ _).mono ?_;rintro e w4 ⟨rfl,d⟩;have c:ZY x w4:=(A.o _).trans (d.mono (by simp));have m6:w4.cell? ⟨x.heap.size,6,none⟩=some (.slice (I k) (F.an k) (J k)):=(d.cell (p:=⟨x.heap.size,6,none⟩) (by simp)).trans (by simp);have m1:w4.cell? ⟨w.heap.size,1,none⟩=some (.slice (some ⟨b,o,none⟩) F.n cap):=(c.cell (p:=⟨w.heap.size,1,none⟩) l).trans c1;have a:=Zz (Jk.Ak ⟨c0,c1,l,f⟩ c);have B:=H.Ak c;clear d c n0 n1 n2 N O P n6 H c0 c1;go_wp2_with fail
     refine (Kz F k _ _ _ B t4).mono ?_;rintro e w' ⟨rfl,rfl⟩;go_wp2_with fail
     refine (DC _ _ _).mono ?_;rintro e S ⟨q,rfl,G,s,hf,r⟩;go_wp2_with fail
     go_ret
     exact⟨Zj ⟨_,_,q,rfl,by omega,t.o,by have:=a.o.sz;omega,s,hf⟩,a.o.bl.trans (r.mono (by have:=a.o.sz;omega))⟩
   .have s2:=LW g
    have t:Hid (Cn F 2 k):=Zz (Zj (Zu ⟨rfl,⟨t1,t2,t3,t4⟩,k,L,rfl,C.o,g⟩));clear g;go_wp2_with fail
    refine (EK F k _ _).mono ?_;rintro e w4 ⟨rfl,d⟩;have c:ZY x w4:=(A.o _).trans (d.mono (by simp));have a:=Zz (Jk.Ak ⟨c0,c1,l,f⟩ c);clear d c n0 n1 n2 N O P n6 H c0 c1;go_wp2_with fail
    refine (DC _ _ _).mono ?_;rintro e S ⟨q,rfl,G,s,hf,r⟩;go_wp2_with fail
    go_ret
    exact⟨Zj ⟨_,_,q,rfl,by omega,t.o,by have:=a.o.sz;omega,s,hf⟩,a.o.bl.trans (r.mono (by have:=a.o.sz;omega))⟩
  .obtain rfl:k=F.n:=by omega
   go_wp2_with fail
   refine (Mx F b o cap I J _ t3 t4 (by omega) (K.o.Ak hg f) (by omega) (fun j M=>(C.o j M).2) (fun i hi=>(Q.o i hi).Ak hb f)).mono ?_;rintro e w4 ⟨z,d⟩;rcases z with⟨j,rfl,u,v,D⟩ | ⟨j,rfl,u⟩
   .have t:Hid (Cn F 4 j):=Zz (Zj (Zj (Zj (Zu ⟨rfl,⟨t1,t2,t3,t4⟩,C.o,j,u,rfl,v,D⟩))))
    have a:=Zz (Jk.Ak ⟨c0,c1,l,f⟩ d);clear v D d c0 c1;go_wp2_with fail
    refine (DC _ _ _).mono ?_;rintro e S ⟨q,rfl,G,s,hf,r⟩;go_wp2_with fail
    go_ret
    exact⟨Zj ⟨_,_,q,rfl,by omega,t.o,by have:=a.o.sz;omega,s,hf⟩,a.o.bl.trans (r.mono (by have:=a.o.sz;omega))⟩
   .have t:Hid (Cn F 0 (-1)):=Zz (Zj (Zj (Zj (Zj ⟨rfl,rfl,⟨t1,t2,t3,t4⟩,C.o,u⟩))))
    have a:=Zz (Jk.Ak ⟨c0,c1,l,f⟩ d);clear u d c0 c1;go_wp2_with fail
    go_ret
    exact⟨Zu ⟨rfl,t.o⟩,a.o.bl⟩
theorem Cn.AB {F:Ad}{a:Int}(h:Cn F 0 a):∀j,j<F.n->Be F j/\AN F j:=by
 rcases h with⟨h,_⟩ | ⟨h,_⟩ | ⟨h,_⟩ | ⟨h,_⟩ | ⟨_,_,_,h,_⟩
 .cases h
 .cases h
 .cases h
 .cases h
 .exact h
theorem Vk:(prog.info? 3).map (fun i=>(i.zero,i.size,i.bytes))=some (some (.int .i64 0),1,8):=by kernel_rfl
theorem Qc:(prog.info? 130).map (fun i=>(i.zero,i.size,i.bytes))=some (some (.agg #[.int .i64 0,.int .i64 0,.int .i64 0,.int .i64 0,.int .i64 0,.int .i64 0,.slice none 0 0]),7,72):=by kernel_rfl
theorem Rx (W:World)(N:Nat)(l:List Value)(t:TypeId)(a:N=W.heap.size)(j:Nat)(u:Value)(h:l[j]? =some u):(W.alloc (.cells l.toArray t)).cell? ((⟨N,0,none⟩:Addr).add j)=some u:=by
 subst a;have:=Zae (heap_alloc_new W (.cells l.toArray t)) (0+j);rw[Zcg,this,<-h,Nat.zero_add];simp
theorem Wk (F:Ad)(k:Nat)(a:Option Addr)(c:Nat):∀u∈Zd8 F k a c,u.oneCell'=true:=by
 intro u hu;simp only[Zd8,List.mem_cons,List.not_mem_nil,or_false] at hu;rcases hu with rfl | rfl | rfl | rfl | rfl | rfl | rfl<;>rfl
theorem NM (F:Ad)(a:Option Addr)(cap:Nat)(w:World)(hn:F.n=0) :
  Calls prog 63 #[GL F.dl (.slice a F.n cap)] w fun e w'=>e=.returned (GL F.dl (.slice none 0 0))/\ZY w w':=by
 rw[hn];clear hn
 go_enter func63,ntmps63
 go_wp2_with fail
 go_loop [3,9] (fun l k=>l=.slice none 0 0/\k=.int .i64 0) (fun _ _=>0)
 case atStart=>exact⟨rfl,rfl⟩
 case round =>
  obtain⟨rfl,rfl⟩:=hrel;go_wp2_with fail
  exact QEz (v:=.agg #[.int .i64 F.dl,.slice none 0 0]) (by simp[results,Tryz.results63,go_sem]) rfl ⟨rfl,(ZV.alloc ZU _).alloc (by simp) _⟩
theorem NN (F:Ad)(b o cap:Nat)(Aa:Nat->Option Addr)(Ac:Nat->Nat)(w:World)(hb:b<w.heap.size)(bw:F.n * 72<=140737488355328)
  (hnil:∀i,i<F.n->Aa i=none->Ac i=0) (hsz2:∀i,i<F.n->F.an i * 8<=140737488355328) (hc:∀i,i<F.n->DX w F i b (o+i * 7) (Aa i) (Ac i)) :
  Calls prog 63 #[GL F.dl (.slice (some ⟨b,o,none⟩) F.n cap)] w fun e w'=>∃(lv:Value) (H:Nat->Option Addr) (I:Nat->Nat),e=.returned (GL F.dl lv)/\An (w.heap.size+2) w' F lv F.n H I/\ZY w w':=by
 obtain⟨i3,ag,K,L,M⟩:=info_parts Vk;obtain⟨i27,J,z,A,B⟩:=info_parts Qc;have HC:=Zz hc;have HN:=Zz hnil;have aw:=Zz hsz2;have t:=Zz (Zq ag (Zq K (Zq L M)));have l:=Zz (Zq J (Zq z (Zq A B)));clear hc hnil hsz2 ag K L M J z A B
 go_enter func63,ntmps63
 go_wp2_with fail
 go_loopw [3,9] (fun lv iv wx=>∃(k:Nat) (C:Option Addr) (lc:Nat) (H:Nat->Option Addr) (I:Nat->Nat),k<=F.n/\iv=.int .i64 k/\lv=.slice C k lc/\An (w.heap.size+2) wx F (.slice C k lc) k H I/\Mq w wx F (some ⟨b,o,none⟩) cap) (fun _ iv _=>F.n - (intOf iv).toNat)
 case atStart=>exact⟨0,none,0,fun _=>none,fun _=>0,by omega,rfl,rfl,⟨QEj _ _ _ _,fun i hi=>by omega⟩,Mq.start _ _ _ _⟩
 case round =>
  obtain⟨k,C,lc,H,I,hk,rfl,rfl,p,a⟩:=hrel
  rename World=>W
  have f:=Zz p;have r:=Zz a;have bf:=a.sz;by_cases h1:k<F.n
  .obtain⟨n0,n1,n2,n3,n4,n5,n6,ni⟩:=(HC.o k h1).Ak hb a.bl
   have br:=aw.o k h1;have bp:F.an k<=9223372036854775807:=by omega
   clear p a
   cases X:Aa k with
   | none =>
    have R:F.an k=0:=by
     rcases ni with R | ⟨ab,ao,hA,_⟩
     .exact R
     .rw[X] at hA;cases hA
    have ae:=HN.o k h1 X;rw[X,R,ae] at n6;have D:Hid (∀o1 o2,((W.alloc o1).alloc o2).ownsRow (w.heap.size+2) 130 7 (.slice C k lc) k (Zbw F H I k)):=Zz fun o1 o2=>(f.o.own.alloc _).alloc _
    have E:Hid (∀o1 o2,((W.alloc o1).alloc o2).ownsRow (w.heap.size+2) 3 1 (.slice none (F.an k) 0) (F.an k) (Zbx (F.an k) (F.af k))):=Zz fun o1 o2=>by
     rw[R];exact QEj _ _ _ _
    have G:Hid (∀o1 o2,ZY W ((W.alloc o1).alloc o2)):=Zz fun o1 o2=>(ZV.alloc ZU _).alloc (by simp) _
    have Y:Hid (Zd8 F k none 0=[.int .i64 (F.bu k),.int .i64 (F.cl k),.int .i64 (F.be k),.int .i64 (F.ba k),.int .i64 (F.ca k),.int .i64 (F.ji k),.slice none 0 0]):=Zz (by simp[Zd8,R]);have q:Hid (∀u∈[.int .i64 (F.bu k),.int .i64 (F.cl k),.int .i64 (F.be k),.int .i64 (F.ba k),.int .i64 (F.ca k),.int .i64 (F.ji k),Value.slice none 0 0],u.oneCell'=true):=Zz (by rw[<-Y.o];exact Wk _ _ _ _);clear ni X R ae
    go_wp2_with (first
     | (at_builtin;refine wpList_append_own_none rfl (.const (.slice none 0 0)) (.tmp 14) 24 rfl (w.heap.size+2) 3 i3 1 underlying24 t.o.1 (.slice none 0 0) 0 [] rfl (QEj _ _ _ _) rfl ?_)
     | (at_builtin;refine QFb _ rfl (.tmp 17) (.tmp 19) 59 rfl (w.heap.size+2) 130 i27 (.agg #[.int .i64 0,.int .i64 0,.int .i64 0,.int .i64 0,.int .i64 0,.int .i64 0,.slice none 0 0]) 7 72 underlying59 l.o.1 l.o.2.1 l.o.2.2.1 l.o.2.2.2 rfl (by decide) (.slice C k lc) k (Zbw F H I k) rfl (D.o _ _) ⟨W.heap.size+1,0,none⟩ 1 1 [.int .i64 (F.bu k),.int .i64 (F.cl k),.int .i64 (F.be k),.int .i64 (F.ba k),.int .i64 (F.ca k),.int .i64 (F.ji k),.slice none 0 0] rfl rfl (Rx _ _ _ _ (by simp)) q.o (by unfold maxLen;omega) (by omega) (by simp;omega) ?_;intro v2 w3 g d m;clear m;rw[<-Y.o] at g;obtain⟨U,V,P,Q,rfl,hC,Z⟩:=JH f.o r.o (E.o _ _) (G.o _ _) g d;have N:=Zz hC;have O:=Zz Z;clear hC Z g d n0 n1 n2 n3 n4 n5 n6))
    go_roundw
    case rel=>exact⟨k+1,U,V,P,Q,by omega,by go_num,rfl,N.o,O.o⟩
    case measure=>simp[intOf];omega
   | some ad =>
    rw[X] at n6 ni
    have T:Hid (∀(ob:Obj) (j:Nat) (u:Value),(Zbx (F.an k) (F.af k))[j]? =some u->(W.alloc ob).cell? (ad.add j)=some u):=Zz fun ob j u hj=>by
     have aj:j<F.an k:=by
      have:=(List.getElem?_eq_some_iff.1 hj).1
      rwa[GP] at this
     rcases ni with R | ⟨ab,ao,hA,_,_,bo,S⟩
     .omega
     .obtain rfl:ad=⟨ab,ao,none⟩:=by simpa using hA
      rw[JT _ _ _ aj] at hj;rw[<-hj];rw[Zcg];exact QFa (ZV.alloc ZU _) (S j aj)
    have q:Hid (∀u∈Zbx (F.an k) (F.af k),u.oneCell'=true):=Zz fun u hu=>by
     simp only[Zbx,List.mem_map] at hu;obtain⟨x,_,rfl⟩:=hu
     rfl
    clear ni X
    go_wp2_with (first
     | (at_builtin;refine QFb _ rfl (.const (.slice none 0 0)) (.tmp 14) 24 rfl (w.heap.size+2) 3 i3 (.int .i64 0) 1 8 underlying24 t.o.1 t.o.2.1 t.o.2.2.1 t.o.2.2.2 rfl (by decide) (.slice none 0 0) 0 [] rfl (QEj _ _ _ _) ad (F.an k) (Ac k) (Zbx (F.an k) (F.af k)) rfl (by rw[GP];omega) (T.o _) q.o (by unfold maxLen;omega) (by omega) (by simp;omega) ?_;intro v1 w2 y s m;clear m;obtain⟨na,nc,rfl,ay,c,D,E,G⟩:=PA f.o y s;have m0:=Zae c 0;have m1:=Zae c 1;have m2:=Zae c 2;have m3:=Zae c 3;have m4:=Zae c 4;have m5:=Zae c 5;have m6:=Zae c 6;have f6:=Zbb c 6;have al:=Zz D;have ar:=Zz E;have au:=Zz G;clear D E G y s c n0 n1 n2 n3 n4 n5 n6)
     | (at_builtin;refine QFb _ rfl (.tmp 17) (.tmp 19) 59 rfl (w.heap.size+2) 130 i27 (.agg #[.int .i64 0,.int .i64 0,.int .i64 0,.int .i64 0,.int .i64 0,.int .i64 0,.slice none 0 0]) 7 72 underlying59 l.o.1 l.o.2.1 l.o.2.2.1 l.o.2.2.2 rfl (by decide) (.slice C k lc) k (Zbw F H I k) rfl (al.o _ _) ⟨w2.heap.size,0,none⟩ 1 1 (Zd8 F k na nc) rfl rfl (Rx _ _ _ _ (by simp[QDw])) (Wk _ _ _ _) (by unfold maxLen;omega) (by omega) (by simp[QDw];omega) ?_;intro v2 w3 g d m;clear m;obtain⟨U,V,P,Q,rfl,hC,Z⟩:=JH f.o r.o (ar.o _ _) (au.o _ _) g d;have N:=Zz hC;have O:=Zz Z;clear hC Z g d m0 m1 m2 m3 m4 m5 m6 f6))
    go_roundw
    case rel=>exact⟨k+1,U,V,P,Q,by omega,by go_num,rfl,N.o,O.o⟩
    case measure=>simp[intOf];omega
  .obtain rfl:k=F.n:=by omega
   have a0:=Zae a.bA 0;have a1:=Zae a.bA 1;have Yl:=Zbb a.bA 1;have r0:=Zae a.bB 0;have r1:=Zae a.bB 1;have bh:=Zbb a.bB 0;have bj:=Zbb a.bB 1;clear p a;go_wp2_with fail
   have az:=r.o.sz
   have ax:An (w.heap.size+2) (((W.setCell ⟨w.heap.size,1,none⟩ (.slice C F.n lc)).setCell ⟨w.heap.size+1,0,none⟩ (.int .i64 F.dl)).setCell ⟨w.heap.size+1,1,none⟩ (.slice C F.n lc)) F (.slice C F.n lc) F.n H I :=
    ⟨QDu (QDu (QDu f.o.own (by simp) _) (by simp) _) (by simp) _,
     fun i hi=>QDu (QDu (QDu (f.o.DW i hi) (by simp) _) (by simp) _) (by simp) _⟩
   exact QEz (v:=.agg #[.int .i64 F.dl,.slice C F.n lc]) (by simp[results,Tryz.results63,go_sem,r0,r1]) rfl ⟨_,_,_,rfl,ax,((r.o.bl.setCell (by simp) _).setCell (by simp) _).setCell (by simp) _⟩
