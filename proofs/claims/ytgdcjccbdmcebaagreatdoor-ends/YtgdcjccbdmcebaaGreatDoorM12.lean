import Derived.Test.YtgdcjccbdmcebaaGreatDoorM09
import Derived.Test.YtgdcjccbdmcebaaGreatDoorM10
set_option linter.unusedSimpArgs false
set_option linter.unusedVariables false
set_option maxHeartbeats 4000000
set_option maxRecDepth 100000
namespace Go.Proofs.YtgdcjccbdmcebaaGreatDoor
open Tryz
open Go.RowKit
def NR (w:World)(pb:Nat):Int:=match w.cell? ⟨pb,0,none⟩ with | some v=>intOf v | none=>0
theorem NS {w:World}{pb:Nat}{k:IntKind}{p:Int}(h:w.cell? ⟨pb,0,none⟩=some (.int k p)):NR w pb=p:=by unfold NR;rw[h];rfl
structure XM (F:Ad)(w w':World)(p:Nat):Prop where
 cell:w'.cell? ⟨w.heap.size,0,none⟩=some (.int .u64 p)
 free:w'.frozen? ⟨w.heap.size,0,none⟩=false
 size:w.heap.size<w'.heap.size
 bl:Below w.heap.size w w'
 lt:p<2 ^ F.n
 sound:∀j,j<F.n->p.testBit j=true->Db F j
def JumpJ (F:Ad)(b o cap:Nat)(w:World)(a':Act)(w':World):Prop :=
 ∃(p:Nat) (u6 u7 u8 u9 u10 u11 u12 u13 u14 u15 u16 u17 u18 u19 u20 u21 u22 u23 u24 u25 u26 u27 u28 u29 u30 u31:Value),XM F w w' p /\
  a'={ tmps:=#[.slice (some ⟨b,o,none⟩) F.n cap,undef, .int .i64 0, .bool false, .pointer (some ⟨w.heap.size,0,none⟩), .func (.func 270) #[] #[.pointer (some ⟨w.heap.size,0,none⟩)],
   u6,u7,u8,u9,u10,u11,u12,u13,u14,u15,u16,u17,u18,u19,u20,u21,u22,u23,u24,u25,u26,u27,u28,u29,u30,u31,undef,undef,undef,undef,undef,undef,undef,undef],defers:=[] }
theorem or_bit (p i:Nat)(hp:p<4096)(hi:i<12):bits BinOp.or IntKind.u64 (p:Int) (IntKind.u64.wrap (2 ^ i))=((p ||| 2 ^ i:Nat):Int):=by
 have c:(2:Nat) ^ i<4096:=Zy (Nat.pow_lt_pow_right (by decide) hi) (by decide)
 have a:IntKind.u64.wrap (2 ^ i)=((2 ^ i:Nat):Int):=by
  have b:((2:Int) ^ i)=((2 ^ i:Nat):Int):=by simp
  have d:=Nat.two_pow_pos i;rw[b,IntKind.wrap_u64];omega
 rw[a,bits_or_u64_nat _ _ (by omega) (by omega)]
theorem or_lt (p i n:Nat)(hp:p<2 ^ n)(hi:i<n):p ||| 2 ^ i<2 ^ n:=Nat.or_lt_two_pow hp (Nat.pow_lt_pow_right (by decide) hi)
theorem Ks (p i j:Nat):(p ||| 2 ^ i).testBit j=(p.testBit j||decide (i=j)):=by rw[Nat.testBit_or,Nat.testBit_two_pow]
theorem or_gt (p i:Nat)(h:p.testBit i=false):p<p ||| 2 ^ i:=by
 apply Nat.lt_of_le_of_ne Nat.left_le_or
 intro e;have a:=Ks p i i;rw[<-e,h] at a;simp at a
theorem xor_all (p:Nat)(hp:p<4096):bits BinOp.xor IntKind.u64 IntKind.u64.max (p:Int)=((18446744073709551615 - p:Nat):Int):=by
 have a:IntKind.u64.max=((18446744073709551615:Nat):Int):=by decide
 rw[a,bits_xor_u64_nat _ _ (by decide) (by omega)]
 congr 1
 apply Nat.eq_of_testBit_eq
 intro i;have b:18446744073709551615 - p=2 ^ 64 - (p+1):=by omega
 have c:18446744073709551615=2 ^ 64 - (0+1):=by decide
 rw[Nat.testBit_xor,b,Nat.testBit_two_pow_sub_succ (by omega),c,Nat.testBit_two_pow_sub_succ (by decide)];by_cases hi:i<64
 ·simp[hi]
 ·have:p.testBit i=false:=Nat.testBit_lt_two_pow (Zy (show p<2 ^ 64 by omega) (Nat.pow_le_pow_right (by decide) (by omega)))
  simp[hi,this]
theorem SO (p n:Nat)(h:p.testBit n=false):∃j,j<=n/\p.testBit j=false/\∀i,i<j->p.testBit i=true:=by
 induction n using Nat.strongRecOn with
 | _ n e =>
  by_cases a:∃i,i<n/\p.testBit i=false
  ·obtain⟨i,hi,hp⟩:=a
   obtain⟨j,f,b,c⟩:=e i hi hp;exact⟨j,by omega,b,c⟩
  ·refine⟨n,Zx _,h,fun i hi=> ?_⟩
   cases d:p.testBit i with
   | true=>rfl
   | false=>exact absurd ⟨i,hi,d⟩ a
theorem Sf (p j:Nat)(w:World)(hp:p<4096)(d:j<=12)(a:∀i,i<j->p.testBit i=true)(b:p.testBit j=false)(c:AL w) :
  Calls prog 271 #[.int .u64 (bits BinOp.xor IntKind.u64 IntKind.u64.max (p:Int))] w fun e w'=>e= .returned (.int .i64 j)/\w'=w:=by
 rw[xor_all p hp];have h:=tz_any (18446744073709551615 - p) (by omega) (by omega) w c;rw[Sw p j (by omega) (by omega) a b] at h;exact h
theorem AL.Aj {w w':World}(h:AL w)(hg:2<w.heap.size)(a:Below w.heap.size w w'):AL w' :=
 fun j b=>(a.cell (p:=⟨2,j,none⟩) hg).trans (h j b)
theorem Mv (F:Ad)(b o cap:Nat)(G:Nat->Option Addr)(H:Nat->Nat)(w:World)(ag:1<=F.n)(hn:F.n<=12)(hb:b<w.heap.size)(Z:AL w)(hg:2<w.heap.size)
  (he:∀j,j<F.n->AP F j) (hc:∀i,i<F.n->Ds w F i b (o+i * 7) (G i) (H i)) :
  Calls prog 220 #[.slice (some ⟨b,o,none⟩) F.n cap] w fun e w'=>((∃j:Nat,e= .returned (.tuple #[.int .i64 j, .bool true])/\j<F.n/\¬Db F j/\∀k,k<j->Db F k)\/(∃j:Nat,e= .returned (.tuple #[.int .i64 j, .bool false])/\∀k,k<F.n->Db F k))/\Below w.heap.size w w':=by
 have ae:∀(fn:Fn) (first cap:Array Value) (w:World),(Instr.makeFunc fn first cap).run prog w= .ok (.func fn first cap) w:=fun _ _ _ _=>rfl;have M:=Zz he;have HC:=Zz hc;have Q:=Zz Z;clear he hc Z
 go_enter func220,ntmps220
 go_wp2
 refine Eu 0 (JumpJ F b o cap w) (fun _ w'=>(4096 - NR w' w.heap.size).toNat) rfl ?_ ?_
 ·intro R X
  have HH:=Zz X;clear X
  go_wp2
  go_step3
  rename_i K hK
  refine hK _ _ (HH.o _ _ ?_);exact⟨0,_,_,_,_,_,_,_,_,_,_,_,_,_,_,_,_,_,_,_,_,_,_,_,_,_,_,⟨by simp,by simp,by simp,(Zk _ _).alloc (Zx _) _,Nat.two_pow_pos _,fun j _ h=>by simp at h⟩,rfl⟩
 ·rintro a' w' ⟨p,u6,u7,u8,u9,aj,al,ar,au,av,aw,u16,ax,ay,az,b9,bf,bh,bj,bo,bp,br,bw,ck,cm,cq,cr,T,rfl⟩
  obtain⟨W,x1,x2,x3,J,x5⟩:=T;have hp:p<4096:=Zy J (Nat.pow_le_pow_right (by omega) hn);have E:NR w' w.heap.size=p:=NS W;rw[E];have P:=Zz x5;clear E x5;go_wp2_with fail
  go_loopw [12] (fun V wx=>∃i:Nat,i<=F.n/\V= .int .i64 i/\(∀j,j<i->p.testBit j=true\/Hu p (F.an j) (F.af j)=true)/\wx.cell? ⟨w.heap.size,0,none⟩=some (.int .u64 p)/\wx.frozen? ⟨w.heap.size,0,none⟩=false/\w.heap.size<wx.heap.size/\Below w.heap.size w wx) (fun V _=>F.n - (intOf V).toNat)
  case atStart=>exact⟨0,by omega,rfl,fun j C=>by omega,W,x1,x2,x3⟩
  case round =>
   obtain⟨i,hi,rfl,v,z0,z1,z2,z3⟩:=hrel
   rename World=>g
   have O:=Zz v;clear v W x1 x2 x3;by_cases A:i<F.n
   ·obtain⟨n0,n1,n2,n3,n4,n5,n6,ni⟩:=(HC.o i A).Aj hb z3
    have U:i<12:=by omega
    cases hl:Zer p i with
    | false =>
     have L:Hid (∀j,j<i+1->p.testBit j=true\/Hu p (F.an j) (F.af j)=true):=Zz fun j C=>by
      by_cases z:j<i
      ·exact O.o j z
      ·obtain rfl:j=i:=by omega
       left
       simpa[Zer] using hl
     have a:Hid (∀o,(g.alloc o).cell? ⟨w.heap.size,0,none⟩=some (.int .u64 p)/\(g.alloc o).frozen? ⟨w.heap.size,0,none⟩=false/\w.heap.size<(g.alloc o).heap.size/\Below w.heap.size w (g.alloc o)):=Zz fun o =>
      ⟨cell_later ((Zk _ _).alloc (Zx _) _) z0,by rw[Below.frozen (w:=g) ((Zk _ _).alloc (Zx _) _) z2];exact z1,by simp;omega,z3.alloc (by omega) _⟩
     go_wp2_with fail
     refine (EU p _ w.heap.size _ (by omega) (by omega) hp (a.o _).1).mono ?_;rintro e w' ⟨rfl,rfl⟩;go_wp2_with fail
     go_roundw
     case rel=>exact⟨i+1,by omega,by go_num,L.o,a.o _⟩
     case measure=>simp[intOf];omega
    | true =>
     have a:Hid (∀o,(g.alloc o).cell? ⟨w.heap.size,0,none⟩=some (.int .u64 p)/\(g.alloc o).frozen? ⟨w.heap.size,0,none⟩=false/\w.heap.size<(g.alloc o).heap.size/\Below w.heap.size w (g.alloc o)):=Zz fun o =>
      ⟨cell_later ((Zk _ _).alloc (Zx _) _) z0,by rw[Below.frozen (w:=g) ((Zk _ _).alloc (Zx _) _) z2];exact z1,by simp;omega,z3.alloc (by omega) _⟩
     have hints:Hid (∀o,Cz (g.alloc o) (G i) (F.an i) (H i) (F.af i)):=Zz fun o=>ni.Aj ((Zk _ _).alloc (Zx _) _)
     have B:Hid (∀k,k<F.an i->0<=F.af i k/\F.af i k<12):=Zz fun k s=>by
      have:=M.o i A k s;unfold CS at this;omega
     cases ha:Hu p (F.an i) (F.af i) with
     | true =>
      have L:Hid (∀j,j<i+1->p.testBit j=true\/Hu p (F.an j) (F.af j)=true):=Zz fun j C=>by
       by_cases z:j<i
       ·exact O.o j z
       ·obtain rfl:j=i:=by omega
        exact Zj ha
      go_wp2_with fail
      refine (EU p _ w.heap.size _ (by omega) (by omega) hp (a.o _).1).mono ?_;rintro e w' ⟨rfl,rfl⟩;go_wp2_with fail
      refine (GC p w.heap.size _ _ _ _ _ hp (a.o _).1 (hints.o _) B.o).mono ?_;rintro e w' ⟨rfl,rfl⟩;go_wp2_with fail
      go_roundw
      case rel=>exact⟨i+1,by omega,by go_num,L.o,a.o _⟩
      case measure=>simp[intOf];omega
     | false =>
      have l:Hid (∀k,k<F.an i->Zer p (F.af i k).toNat=false):=Zz (Ux ha);have u:p.testBit i=false:=by simpa[Zer] using hl
      have HB:=Zz u;clear u;go_wp2_with fail
      refine (EU p _ w.heap.size _ (by omega) (by omega) hp (a.o _).1).mono ?_;rintro e w' ⟨rfl,rfl⟩;go_wp2_with fail
      refine (GC p w.heap.size _ _ _ _ _ hp (a.o _).1 (hints.o _) B.o).mono ?_;rintro e w' ⟨rfl,rfl⟩;go_wp2_with fail
      obtain⟨q0,q1,q2,q3⟩:=a.o (.cells #[.int .i64 (F.bu i), .int .i64 (F.cl i), .int .i64 (F.be i), .int .i64 (F.ba i), .int .i64 (F.ca i), .int .i64 (F.ji i), .slice (G i) (F.an i) (H i)] 130)
      generalize g.alloc (.cells #[.int .i64 (F.bu i), .int .i64 (F.cl i), .int .i64 (F.be i), .int .i64 (F.ba i), .int .i64 (F.ca i), .int .i64 (F.ji i), .slice (G i) (F.an i) (H i)] 130)=w5 at *
      go_region
      all_goals go_wp2
      rw[or_bit p i hp U]
      go_step3
      refine⟨rfl,⟨p ||| 2 ^ i,_,_,_,_,_,_,_,_,_,_,_,_,_,_,_,_,_,_,_,_,_,_,_,_,_,_,⟨?_,?_,?_,?_,or_lt p i F.n J A,?_⟩,rfl⟩,?_⟩
      ·show (w5.setCell ⟨w.heap.size,0,none⟩ _).cell? ⟨w.heap.size,0,none⟩=_
       exact World.cell?_setCell_same' _ _ _ (by rw[q0];rfl)
      ·show (w5.setCell ⟨w.heap.size,0,none⟩ _).frozen? ⟨w.heap.size,0,none⟩=_
       rw[World.frozen?_setCell];exact q1
      ·show w.heap.size<(w5.setCell ⟨w.heap.size,0,none⟩ _).heap.size
       simpa[World.setCell] using q2
      ·exact (q3.setCell (by simp) _).drew
      ·intro j C d
       rw[Ks] at d;by_cases e:i=j
       ·subst e
        exact Db.mk i fun k s=>P.o _ (M.o i A k s).lt (by have:=l.o k s;simpa[Zer] using this)
       ·simp[e] at d
        exact P.o j C d
      ·have e5:NR (w5.setCell ⟨w.heap.size,0,none⟩ (.int .u64 ((p ||| 2 ^ i:Nat):Int))).drew w.heap.size=((p ||| 2 ^ i:Nat):Int):=NS (k:= .u64) (World.cell?_setCell_same' _ _ _ (by rw[q0];rfl))
       rw[e5];have:=or_gt p i HB.o;have:=or_lt p i F.n J A;have:2 ^ F.n<=2 ^ 12:=Nat.pow_le_pow_right (by omega) hn;omega
   ·obtain rfl:i=F.n:=by omega
    have y:p.testBit F.n=false:=Nat.testBit_lt_two_pow J;obtain⟨j,C,r,d⟩:=SO p F.n y
    have c:Closed F (fun j=>p.testBit j):=fun k s l=>by
     rcases O.o k s with h | h
     ·exact h
     ·exfalso
      have Y:=PG (p:=p) (n:=F.an k) (f:=F.af k) fun q hq=>by simp[Zer,l q hq]
      rw[h] at Y
      cases Y
    have m:=Vk M.o (S:=fun j=>p.testBit j) P.o c;have t:AL g:=Q.o.Aj hg z3;by_cases D:j<F.n
    ·have I:Hid (¬Db F j/\∀k,k<j->Db F k):=Zz ⟨fun h=>by
      have:=(m j D).1 h;simp[r] at this,fun k s=>(m k (by omega)).2 (d k s)⟩
     have x:=Zz t;have N:=Zz d;have HF:=Zz r;clear t d r m c y;go_wp2_with fail
     refine (Sf p j _ hp (by omega) N.o HF.o x.o).mono ?_;rintro e w' ⟨rfl,rfl⟩;go_wp2_with fail
     simp only[Exit.jump]
     go_ret2
     exact⟨Zu ⟨j,rfl,D,I.o.1,I.o.2⟩,z3⟩
    ·have I:Hid (∀k,k<F.n->Db F k):=Zz fun k s=>(m k s).2 (d k (by omega))
     have x:=Zz t;have N:=Zz d;have HF:=Zz r;clear t d r m c y;go_wp2_with fail
     refine (Sf p j _ hp (by omega) N.o HF.o x.o).mono ?_;rintro e w' ⟨rfl,rfl⟩;go_wp2_with fail
     simp only[Exit.jump]
     go_ret2
     exact⟨Zj ⟨j,rfl,I.o⟩,z3⟩
def Hp (F:Ad)(w w':World)(e:Ending):Prop :=
 (e= .returned .nilIface/\BL F 0 (-1))\/(∃(x y:Int) (q:Nat),e= .returned (.iface 172 (.pointer (some ⟨q,0,none⟩)))/\x≠0/\BL F x y/\w.heap.size<=q/\q<w'.heap.size/\Ba w' q x y)
theorem Lw (F:Ad)(a:Option Addr)(cap:Nat)(w:World)(hn:F.n<=maxLen)(h:¬Cc F) :
  Calls prog 146 #[Ex F.dl (.slice a F.n cap)] w fun e w'=>Hp F w w' e/\Below w.heap.size w w':=by
 unfold maxLen at hn;have i:BL F 2 (-1):=Zu ⟨rfl,rfl,h⟩
 have d:Za0 F.dl 1 1048576=false\/(Za0 F.dl 1 1048576=true/\Za0 F.n 1 12=false):=by
  apply Classical.byContradiction
  intro b
  apply h
  unfold Za0 at b;simp only[decide_eq_true_eq,decide_eq_false_iff_not] at b;constructor<;>omega
 have H:=Zz i;clear i h;rcases d with s0 | ⟨s0,s1⟩
 all_goals
  go_enter func146,ntmps146
  go_wp2_with (first | (go_at_call 216;refine (DV _ _ _ _).mono ?_;rintro e w' ⟨rfl,rfl⟩) | (go_at_call 217;refine (DG _ _ _).mono ?_;rintro e w' ⟨q,rfl,f,g,hf,c⟩))
  go_ret
  exact⟨Zj ⟨_,_,q,rfl,by omega,H.o,by simp at f;omega,g,hf⟩,((Zk _ _).alloc (Zx _) _).trans (c.mono (by simp))⟩
theorem NT (F:Ad)(b o cap:Nat)(H:Nat->Option Addr)(I:Nat->Nat)(w:World)(T:Cc F)(R:b<w.heap.size)(Q:AL w)(hg:2<w.heap.size)
  (hc:∀i,i<F.n->Ds w F i b (o+i * 7) (H i) (I i)) :
  Calls prog 146 #[Ex F.dl (.slice (some ⟨b,o,none⟩) F.n cap)] w fun e w'=>Hp F w w' e/\Below w.heap.size w w':=by
 obtain⟨t1,t2,t3,t4⟩:=T;have s0:=Zcn t1 t2;have s1:Za0 F.n 1 12=true:=Zcn (by omega) (by omega);have P:=Zz hc;have J:=Zz Q;clear hc Q
 go_enter func146,ntmps146
 go_wp2_with (go_at_call 216;refine (DV _ _ _ _).mono ?_;rintro e w' ⟨rfl,rfl⟩)
 go_loopw [22] (fun i wr=>∃k:Nat,k<=F.n/\i= .int .i64 k/\(∀j,j<k->AJ F j/\AP F j)/\CT w wr F (some ⟨b,o,none⟩) cap) (fun i _=>F.n - (intOf i).toNat)
 case atStart=>exact⟨0,by omega,rfl,fun j L=>by omega,CT.start _ _ _ _ _⟩
 case round =>
  obtain⟨k,U,rfl,x,D⟩:=hrel
  rename World=>m
  obtain⟨c0,c1,h,f⟩:=D;have B:=Zz x;clear x;by_cases K:k<F.n
  ·obtain⟨n0,n1,n2,M,N,O,n6,G⟩:=(P.o k K).Aj R f
   have z:Hid (∀o,Below m.heap.size m (m.alloc o)):=Zz fun o=>(Zk _ _).alloc (Zx _) _;by_cases g:AJ F k
   ·have s2:=LW g
    by_cases l:AP F k
    ·have s3:=Gp l
     have t:Hid (∀j,j<k+1->AJ F j/\AP F j):=Zz fun j L=>by
      by_cases v:j<k
      ·exact B.o j v
      ·obtain rfl:j=k:=by omega
       exact⟨g,l⟩
     clear g l;go_wp2_with fail
     refine (EK F k _ _).mono ?_;rintro e w4 ⟨rfl,d⟩;have c:Below m.heap.size m w4:=(z.o _).trans (d.mono (by simp));have m6:w4.cell? ⟨m.heap.size,6,none⟩=some (.slice (H k) (F.an k) (I k)):=(d.cell (p:=⟨m.heap.size,6,none⟩) (by simp)).trans (by simp);have m1:w4.cell? ⟨w.heap.size,1,none⟩=some (.slice (some ⟨b,o,none⟩) F.n cap):=(c.cell (p:=⟨w.heap.size,1,none⟩) h).trans c1;have a:=Zz (CT.Aj ⟨c0,c1,h,f⟩ c);have A:=G.Aj c;clear d c n0 n1 n2 M N O n6 G c0 c1;go_wp2_with fail
     refine (KA F k _ _ _ A t4).mono ?_;rintro e w' ⟨rfl,rfl⟩;go_wp2_with fail
     go_roundw
     case rel=>exact⟨k+1,by omega,by go_num,t.o,a.o⟩
     case measure=>simp[intOf];omega
    ·have s3:=Kr l
     have t:Hid (BL F 3 k):=Zz (Zj (Zj (Zu ⟨rfl,⟨t1,t2,t3,t4⟩,k,K,rfl,B.o,g,l⟩)));clear g l;go_wp2_with fail
     refine (EK F k _ _).mono ?_;rintro e w4 ⟨rfl,d⟩;have c:Below m.heap.size m w4:=(z.o _).trans (d.mono (by simp));have m6:w4.cell? ⟨m.heap.size,6,none⟩=some (.slice (H k) (F.an k) (I k)):=(d.cell (p:=⟨m.heap.size,6,none⟩) (by simp)).trans (by simp);have m1:w4.cell? ⟨w.heap.size,1,none⟩=some (.slice (some ⟨b,o,none⟩) F.n cap):=(c.cell (p:=⟨w.heap.size,1,none⟩) h).trans c1;have a:=Zz (CT.Aj ⟨c0,c1,h,f⟩ c);have A:=G.Aj c;clear d c n0 n1 n2 M N O n6 G c0 c1;go_wp2_with fail
     refine (KA F k _ _ _ A t4).mono ?_;rintro e w' ⟨rfl,rfl⟩;go_wp2_with fail
     refine (DG _ _ _).mono ?_;rintro e S ⟨q,rfl,E,s,hf,r⟩;go_wp2_with fail
     go_ret
     exact⟨Zj ⟨_,_,q,rfl,by omega,t.o,by have:=a.o.sz;omega,s,hf⟩,a.o.bl.trans (r.mono (by have:=a.o.sz;omega))⟩
   ·have s2:=LV g
    have t:Hid (BL F 2 k):=Zz (Zj (Zu ⟨rfl,⟨t1,t2,t3,t4⟩,k,K,rfl,B.o,g⟩));clear g;go_wp2_with fail
    refine (EK F k _ _).mono ?_;rintro e w4 ⟨rfl,d⟩;have c:Below m.heap.size m w4:=(z.o _).trans (d.mono (by simp));have a:=Zz (CT.Aj ⟨c0,c1,h,f⟩ c);clear d c n0 n1 n2 M N O n6 G c0 c1;go_wp2_with fail
    refine (DG _ _ _).mono ?_;rintro e S ⟨q,rfl,E,s,hf,r⟩;go_wp2_with fail
    go_ret
    exact⟨Zj ⟨_,_,q,rfl,by omega,t.o,by have:=a.o.sz;omega,s,hf⟩,a.o.bl.trans (r.mono (by have:=a.o.sz;omega))⟩
  ·obtain rfl:k=F.n:=by omega
   go_wp2_with fail
   refine (Mv F b o cap H I _ t3 t4 (by omega) (J.o.Aj hg f) (by omega) (fun j L=>(B.o j L).2) (fun i hi=>(P.o i hi).Aj R f)).mono ?_;rintro e w4 ⟨y,d⟩;rcases y with⟨j,rfl,u,v,C⟩ | ⟨j,rfl,u⟩
   ·have t:Hid (BL F 4 j):=Zz (Zj (Zj (Zj (Zu ⟨rfl,⟨t1,t2,t3,t4⟩,B.o,j,u,rfl,v,C⟩))))
    have a:=Zz (CT.Aj ⟨c0,c1,h,f⟩ d);clear v C d c0 c1;go_wp2_with fail
    refine (DG _ _ _).mono ?_;rintro e S ⟨q,rfl,E,s,hf,r⟩;go_wp2_with fail
    go_ret
    exact⟨Zj ⟨_,_,q,rfl,by omega,t.o,by have:=a.o.sz;omega,s,hf⟩,a.o.bl.trans (r.mono (by have:=a.o.sz;omega))⟩
   ·have t:Hid (BL F 0 (-1)):=Zz (Zj (Zj (Zj (Zj ⟨rfl,rfl,⟨t1,t2,t3,t4⟩,B.o,u⟩))))
    have a:=Zz (CT.Aj ⟨c0,c1,h,f⟩ d);clear u d c0 c1;go_wp2_with fail
    go_ret
    exact⟨Zu ⟨rfl,t.o⟩,a.o.bl⟩
def Zcy (g:Int):Int:=min (max g 0) 1048576
theorem Zcw (g:Int):0<=Zcy g/\Zcy g<=1048576:=by unfold Zcy;omega
theorem BL.AA {F:Ad}{a:Int}(h:BL F 0 a):∀j,j<F.n->AJ F j/\AP F j:=by
 rcases h with⟨h,_⟩ | ⟨h,_⟩ | ⟨h,_⟩ | ⟨h,_⟩ | ⟨_,_,_,h,_⟩
 ·cases h
 ·cases h
 ·cases h
 ·cases h
 ·exact h
def Gv (F:Ad)(g x:Int):Prop:=(BL F 0 (-1)/\x=min F.dl (CN F (Zcy g) F.n))\/(∃e a:Int,e≠0/\BL F e a/\x=0)
theorem Su (F:Ad)(g:Int)(a:Option Addr)(cap:Nat)(w:World)(hn:F.n<=maxLen)(h:¬Cc F) :
  Calls prog 104 #[Ex F.dl (.slice a F.n cap), .int .i64 g] w fun e w'=>(∃x:Int,e= .returned (.int .i64 x)/\Gv F g x)/\Below w.heap.size w w':=by
 go_enter func104,ntmps104
 go_wp2_with fail
 refine (Lw F a cap _ hn h).mono ?_;rintro e w4 ⟨he,b⟩;rcases he with⟨rfl,c⟩ | ⟨x,y,q,rfl,c,d,i,j,k⟩
 ·exact absurd (c.one (Zu ⟨rfl,rfl,h⟩)).1 (by decide)
 ·have H:=Zz d
  have f:Below w.heap.size w w4:=((Zk _ _).alloc (Zx _) _).trans (b.mono (by simp));clear d i j k b;go_wp2_with fail
  go_ret
  exact⟨⟨0,rfl,Zj ⟨x,y,c,H.o,rfl⟩⟩,f⟩
theorem UD (F:Ad)(g:Int)(b o cap:Nat)(J:Nat->Option Addr)(K:Nat->Nat)(w:World)(S:Cc F)(G:b<w.heap.size)(Q:AL w)(hg:2<w.heap.size)
  (hg1: -9223372036854775808<=g) (hg2:g<=9223372036854775807) (hc:∀i,i<F.n->Ds w F i b (o+i * 7) (J i) (K i)) :
  Calls prog 104 #[Ex F.dl (.slice (some ⟨b,o,none⟩) F.n cap), .int .i64 g] w fun e w'=>(∃x:Int,e= .returned (.int .i64 x)/\Gv F g x)/\Below w.heap.size w w':=by
 have hn:=S.n2;have E:=Zz hc;have I:=Zz Q;clear hc Q
 go_enter func104,ntmps104
 go_wp2_with fail
 refine (NT F b o cap J K _ S (by simp;omega) (I.o.Aj hg ((Zk _ _).alloc (Zx _) _)) (by simp;omega) (fun i hi=>(E.o i hi).Aj G ((Zk _ _).alloc (Zx _) _))).mono ?_;rintro e w4 ⟨he,p⟩;rcases he with⟨rfl,m⟩ | ⟨x,y,q,rfl,m,P,Y,Z,h5⟩
 ·have H:=Zz m
  have u:=CT.Aj (CT.start w F (some ⟨b,o,none⟩) cap _) p;obtain⟨c0,c1,d,c⟩:=u;clear p m;go_wp2_with fail
  ·have r:Hid (Zcy g=1048576):=Zz (by unfold Zcy;omega)
   have h:=Zcw g;rw[r.o] at h;obtain⟨z,A⟩:=h;have a:∀j,j<F.n->AJ F j:=fun j B=>(BL.AA H.o j B).1
   go_loopw [5,17] (fun s i wr=>∃k:Nat,k<=F.n/\i= .int .i64 k/\s= .int .i64 (CN F (Zcy g) k)/\CT w wr F (some ⟨b,o,none⟩) cap) (fun _ i _=>F.n - (intOf i).toNat)
   case atStart=>exact⟨0,by omega,rfl,rfl,c0,c1,d,c⟩
   case round =>
    obtain⟨k,R,rfl,rfl,l⟩:=hrel
    rename World=>D
    clear c0 c1 d c;obtain⟨c0,c1,d,c⟩:=l;have C:=Nv F (Zcy g) (Zcw g).1 (Zcw g).2 k fun i hi=>a i (by omega)
    obtain⟨s1,s2⟩:=C;by_cases m:k<F.n
    ·obtain⟨n0,n1,n2,T,U,V,n6,W⟩:=(E.o k m).Aj G c
     obtain⟨a1,a2,L,M,_,_,d1,d2,N,O,f1,f2⟩:=a k m;obtain⟨p1,p2⟩:=Jz (F.bu k) (F.cl k+F.ca k+F.ji k+1048576) a1 a2 (by omega) (by omega);have f:Hid (∀t,CT w (D.alloc t) F (some ⟨b,o,none⟩) cap):=Zz fun t=>CT.Aj ⟨c0,c1,d,c⟩ ((Zk _ _).alloc (Zx _) _);have v:=Zz a;clear a;go_wp2_with fail
     go_roundw
     case rel=>exact⟨k+1,by omega,by go_num,congrArg (Value.int .i64) (by simp[CN,r.o]),f.o _⟩
     case measure=>simp[intOf];omega
    ·obtain rfl:k=F.n:=by omega
     have v:=Zz a;clear a;go_wp2_with fail
     all_goals go_ret
     all_goals exact⟨⟨_,rfl,Zu ⟨H.o,by omega⟩⟩,c⟩
  ·have r:Hid (Zcy g=0):=Zz (by unfold Zcy;omega)
   have h:=Zcw g;rw[r.o] at h;obtain⟨z,A⟩:=h;have a:∀j,j<F.n->AJ F j:=fun j B=>(BL.AA H.o j B).1
   go_loopw [5,17] (fun s i wr=>∃k:Nat,k<=F.n/\i= .int .i64 k/\s= .int .i64 (CN F (Zcy g) k)/\CT w wr F (some ⟨b,o,none⟩) cap) (fun _ i _=>F.n - (intOf i).toNat)
   case atStart=>exact⟨0,by omega,rfl,rfl,c0,c1,d,c⟩
   case round =>
    obtain⟨k,R,rfl,rfl,l⟩:=hrel
    rename World=>D
    clear c0 c1 d c;obtain⟨c0,c1,d,c⟩:=l;have C:=Nv F (Zcy g) (Zcw g).1 (Zcw g).2 k fun i hi=>a i (by omega)
    obtain⟨s1,s2⟩:=C;by_cases m:k<F.n
    ·obtain⟨n0,n1,n2,T,U,V,n6,W⟩:=(E.o k m).Aj G c
     obtain⟨a1,a2,L,M,_,_,d1,d2,N,O,f1,f2⟩:=a k m;obtain⟨p1,p2⟩:=Jz (F.bu k) (F.cl k+F.ca k+F.ji k) a1 a2 (by omega) (by omega);have f:Hid (∀t,CT w (D.alloc t) F (some ⟨b,o,none⟩) cap):=Zz fun t=>CT.Aj ⟨c0,c1,d,c⟩ ((Zk _ _).alloc (Zx _) _);have v:=Zz a;clear a;go_wp2_with fail
     go_roundw
     case rel=>exact⟨k+1,by omega,by go_num,congrArg (Value.int .i64) (by simp[CN,r.o]),f.o _⟩
     case measure=>simp[intOf];omega
    ·obtain rfl:k=F.n:=by omega
     have v:=Zz a;clear a;go_wp2_with fail
     all_goals go_ret
     all_goals exact⟨⟨_,rfl,Zu ⟨H.o,by omega⟩⟩,c⟩
  ·have r:Hid (Zcy g=g):=Zz (by unfold Zcy;omega)
   have h:=Zcw g;rw[r.o] at h;obtain⟨z,A⟩:=h;have a:∀j,j<F.n->AJ F j:=fun j B=>(BL.AA H.o j B).1
   go_loopw [5,17] (fun s i wr=>∃k:Nat,k<=F.n/\i= .int .i64 k/\s= .int .i64 (CN F (Zcy g) k)/\CT w wr F (some ⟨b,o,none⟩) cap) (fun _ i _=>F.n - (intOf i).toNat)
   case atStart=>exact⟨0,by omega,rfl,rfl,c0,c1,d,c⟩
   case round =>
    obtain⟨k,R,rfl,rfl,l⟩:=hrel
    rename World=>D
    clear c0 c1 d c;obtain⟨c0,c1,d,c⟩:=l;have C:=Nv F (Zcy g) (Zcw g).1 (Zcw g).2 k fun i hi=>a i (by omega)
    obtain⟨s1,s2⟩:=C;by_cases m:k<F.n
    ·obtain⟨n0,n1,n2,T,U,V,n6,W⟩:=(E.o k m).Aj G c
     obtain⟨a1,a2,L,M,_,_,d1,d2,N,O,f1,f2⟩:=a k m;obtain⟨p1,p2⟩:=Jz (F.bu k) (F.cl k+F.ca k+F.ji k+g) a1 a2 (by omega) (by omega);have f:Hid (∀t,CT w (D.alloc t) F (some ⟨b,o,none⟩) cap):=Zz fun t=>CT.Aj ⟨c0,c1,d,c⟩ ((Zk _ _).alloc (Zx _) _);have v:=Zz a;clear a;go_wp2_with fail
     go_roundw
     case rel=>exact⟨k+1,by omega,by go_num,congrArg (Value.int .i64) (by simp[CN,r.o]),f.o _⟩
     case measure=>simp[intOf];omega
    ·obtain rfl:k=F.n:=by omega
     have v:=Zz a;clear a;go_wp2_with fail
     all_goals go_ret
     all_goals exact⟨⟨_,rfl,Zu ⟨H.o,by omega⟩⟩,c⟩
 ·have H:=Zz P
  have X:Below w.heap.size w w4:=((Zk _ _).alloc (Zx _) _).trans (p.mono (by simp));clear P Y Z h5 p;go_wp2_with fail
  go_ret
  exact⟨⟨0,rfl,Zj ⟨x,y,m,H.o,rfl⟩⟩,X⟩
end Go.Proofs.YtgdcjccbdmcebaaGreatDoor
