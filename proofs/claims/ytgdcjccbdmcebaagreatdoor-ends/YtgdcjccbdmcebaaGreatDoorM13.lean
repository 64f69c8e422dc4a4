import Derived.Test.YtgdcjccbdmcebaaGreatDoorM11
import Derived.Test.YtgdcjccbdmcebaaGreatDoorM12
set_option linter.unusedSimpArgs false
set_option linter.unusedVariables false
set_option maxHeartbeats 4000000
set_option maxRecDepth 100000
namespace Go.Proofs.YtgdcjccbdmcebaaGreatDoor
open Tryz
open Go.RowKit
theorem Vr:(prog.info? 3).map (fun i=>(i.zero,i.size,i.bytes))=some (some (.int .i64 0),1,8):=by kernel_rfl
theorem Qj:(prog.info? 130).map (fun i=>(i.zero,i.size,i.bytes))=some (some (.agg #[.int .i64 0, .int .i64 0, .int .i64 0, .int .i64 0, .int .i64 0, .int .i64 0, .slice none 0 0]),7,72):=by kernel_rfl
theorem RK (W:World)(N:Nat)(l:List Value)(t:TypeId)(a:N=W.heap.size)(j:Nat)(u:Value)(h:l[j]? =some u):(W.alloc (.cells l.toArray t)).cell? ((⟨N,0,none⟩:Addr).add j)=some u:=by
 subst a;have:=Zad (heap_alloc_new W (.cells l.toArray t)) (0+j);rw[Zce,this,<-h,Nat.zero_add];simp
theorem Wq (F:Ad)(k:Nat)(a:Option Addr)(c:Nat):∀u∈Zef F k a c,u.oneCell'=true:=by
 intro u hu;simp only[Zef,List.mem_cons,List.not_mem_nil,or_false] at hu;rcases hu with rfl | rfl | rfl | rfl | rfl | rfl | rfl<;>rfl
theorem NU (F:Ad)(a:Option Addr)(cap:Nat)(w:World)(hn:F.n=0) :
  Calls prog 63 #[Ex F.dl (.slice a F.n cap)] w fun e w'=>e= .returned (Ex F.dl (.slice none 0 0))/\Below w.heap.size w w':=by
 rw[hn];clear hn
 go_enter func63,ntmps63
 go_wp2_with fail
 go_loop [3,9] (fun l k=>l= .slice none 0 0/\k= .int .i64 0) (fun _ _=>0)
 case atStart=>exact⟨rfl,rfl⟩
 case round =>
  obtain⟨rfl,rfl⟩:=hrel;go_wp2_with fail
  exact bodyPost_ret (v:= .agg #[.int .i64 F.dl, .slice none 0 0]) (by simp[results,Tryz.results63,go_sem]) rfl ⟨rfl,((Zk _ _).alloc (Zx _) _).alloc (by simp) _⟩
theorem NV (F:Ad)(b o cap:Nat)(Aa:Nat->Option Addr)(Ac:Nat->Nat)(w:World)(hb:b<w.heap.size)(bo:F.n * 72<=140737488355328)
  (hnil:∀i,i<F.n->Aa i=none->Ac i=0) (hsz2:∀i,i<F.n->F.an i * 8<=140737488355328) (hc:∀i,i<F.n->Ds w F i b (o+i * 7) (Aa i) (Ac i)) :
  Calls prog 63 #[Ex F.dl (.slice (some ⟨b,o,none⟩) F.n cap)] w fun e w'=>∃(lv:Value) (G:Nat->Option Addr) (H:Nat->Nat),e= .returned (Ex F.dl lv)/\An (w.heap.size+2) w' F lv F.n G H/\Below w.heap.size w w':=by
 obtain⟨i3,ae,J,K,L⟩:=info_parts Vr;obtain⟨i27,I,y,z,A⟩:=info_parts Qj;have HC:=Zz hc;have HN:=Zz hnil;have au:=Zz hsz2;have s:=Zz (Zq ae (Zq J (Zq K L)));have h:=Zz (Zq I (Zq y (Zq z A)));clear hc hnil hsz2 ae J K L I y z A
 go_enter func63,ntmps63
 go_wp2_with fail
 go_loopw [3,9] (fun lv iv wx=>∃(k:Nat) (B:Option Addr) (lc:Nat) (G:Nat->Option Addr) (H:Nat->Nat),k<=F.n/\iv= .int .i64 k/\lv= .slice B k lc/\An (w.heap.size+2) wx F (.slice B k lc) k G H/\Mo w wx F (some ⟨b,o,none⟩) cap) (fun _ iv _=>F.n - (intOf iv).toNat)
 case atStart=>exact⟨0,none,0,fun _=>none,fun _=>0,by omega,rfl,rfl,⟨World.ownsRow_nil _ _ _ _,fun i hi=>by omega⟩,Mo.start _ _ _ _⟩
 case round =>
  obtain⟨k,B,lc,G,H,hk,rfl,rfl,m,a⟩:=hrel
  rename World=>M
  have f:=Zz m;have q:=Zz a;have ay:=a.sz;by_cases h1:k<F.n
  ·obtain⟨n0,n1,n2,n3,n4,n5,n6,ni⟩:=(HC.o k h1).Aj hb a.bl
   have bj:=au.o k h1;have bh:F.an k<=9223372036854775807:=by omega
   clear m a
   cases W:Aa k with
   | none =>
    have R:F.an k=0:=by
     rcases ni with R | ⟨ab,ao,hA,_⟩
     ·exact R
     ·rw[W] at hA;cases hA
    have Z:=HN.o k h1 W;rw[W,R,Z] at n6;have C:Hid (∀o1 o2,((M.alloc o1).alloc o2).ownsRow (w.heap.size+2) 130 7 (.slice B k lc) k (Zbv F G H k)):=Zz fun o1 o2=>(f.o.own.alloc _).alloc _
    have D:Hid (∀o1 o2,((M.alloc o1).alloc o2).ownsRow (w.heap.size+2) 3 1 (.slice none (F.an k) 0) (F.an k) (Zbz (F.an k) (F.af k))):=Zz fun o1 o2=>by
     rw[R];exact World.ownsRow_nil _ _ _ _
    have E:Hid (∀o1 o2,Below M.heap.size M ((M.alloc o1).alloc o2)):=Zz fun o1 o2=>((Zk _ _).alloc (Zx _) _).alloc (by simp) _
    have X:Hid (Zef F k none 0=[.int .i64 (F.bu k), .int .i64 (F.cl k), .int .i64 (F.be k), .int .i64 (F.ba k), .int .i64 (F.ca k), .int .i64 (F.ji k), .slice none 0 0]):=Zz (by simp[Zef,R]);have p:Hid (∀u∈[.int .i64 (F.bu k), .int .i64 (F.cl k), .int .i64 (F.be k), .int .i64 (F.ba k), .int .i64 (F.ca k), .int .i64 (F.ji k),Value.slice none 0 0],u.oneCell'=true):=Zz (by rw[<-X.o];exact Wq _ _ _ _);clear ni W R Z
    go_wp2_with (first
     | (at_builtin;refine wpList_append_own_none rfl (.const (.slice none 0 0)) (.tmp 14) 24 rfl (w.heap.size+2) 3 i3 1 underlying24 s.o.1 (.slice none 0 0) 0 [] rfl (World.ownsRow_nil _ _ _ _) rfl ?_)
     | (at_builtin;refine wpList_append_own _ rfl (.tmp 17) (.tmp 19) 59 rfl (w.heap.size+2) 130 i27 (.agg #[.int .i64 0, .int .i64 0, .int .i64 0, .int .i64 0, .int .i64 0, .int .i64 0, .slice none 0 0]) 7 72 underlying59 h.o.1 h.o.2.1 h.o.2.2.1 h.o.2.2.2 rfl (by decide) (.slice B k lc) k (Zbv F G H k) rfl (C.o _ _) ⟨M.heap.size+1,0,none⟩ 1 1 [.int .i64 (F.bu k), .int .i64 (F.cl k), .int .i64 (F.be k), .int .i64 (F.ba k), .int .i64 (F.ca k), .int .i64 (F.ji k), .slice none 0 0] rfl rfl (RK _ _ _ _ (by simp)) p.o (by unfold maxLen;omega) (by omega) (by simp;omega) ?_;intro v2 w3 g d l;clear l;rw[<-X.o] at g;obtain⟨U,V,P,Q,rfl,hC,Y⟩:=JJ f.o q.o (D.o _ _) (E.o _ _) g d;have N:=Zz hC;have O:=Zz Y;clear hC Y g d n0 n1 n2 n3 n4 n5 n6))
    go_roundw
    case rel=>exact⟨k+1,U,V,P,Q,by omega,by go_num,rfl,N.o,O.o⟩
    case measure=>simp[intOf];omega
   | some ad =>
    rw[W] at n6 ni
    have T:Hid (∀(ob:Obj) (j:Nat) (u:Value),(Zbz (F.an k) (F.af k))[j]? =some u->(M.alloc ob).cell? (ad.add j)=some u):=Zz fun ob j u hj=>by
     have ag:j<F.an k:=by
      have:=(List.getElem?_eq_some_iff.1 hj).1
      rwa[GO] at this
     rcases ni with R | ⟨ab,ao,hA,_,_,bf,S⟩
     ·omega
     ·obtain rfl:ad=⟨ab,ao,none⟩:=by simpa using hA
      rw[JV _ _ _ ag] at hj;rw[<-hj];rw[Zce];exact cell_later ((Zk _ _).alloc (Zx _) _) (S j ag)
    have p:Hid (∀u∈Zbz (F.an k) (F.af k),u.oneCell'=true):=Zz fun u hu=>by
     simp only[Zbz,List.mem_map] at hu;obtain⟨x,_,rfl⟩:=hu
     rfl
    clear ni W
    go_wp2_with (first
     | (at_builtin;refine wpList_append_own _ rfl (.const (.slice none 0 0)) (.tmp 14) 24 rfl (w.heap.size+2) 3 i3 (.int .i64 0) 1 8 underlying24 s.o.1 s.o.2.1 s.o.2.2.1 s.o.2.2.2 rfl (by decide) (.slice none 0 0) 0 [] rfl (World.ownsRow_nil _ _ _ _) ad (F.an k) (Ac k) (Zbz (F.an k) (F.af k)) rfl (by rw[GO];omega) (T.o _) p.o (by unfold maxLen;omega) (by omega) (by simp;omega) ?_;intro v1 w2 t r l;clear l;obtain⟨na,nc,rfl,aw,c,C,D,E⟩:=PK f.o t r;have m0:=Zad c 0;have m1:=Zad c 1;have m2:=Zad c 2;have m3:=Zad c 3;have m4:=Zad c 4;have m5:=Zad c 5;have m6:=Zad c 6;have f6:=Za9 c 6;have aj:=Zz C;have al:=Zz D;have ar:=Zz E;clear C D E t r c n0 n1 n2 n3 n4 n5 n6)
     | (at_builtin;refine wpList_append_own _ rfl (.tmp 17) (.tmp 19) 59 rfl (w.heap.size+2) 130 i27 (.agg #[.int .i64 0, .int .i64 0, .int .i64 0, .int .i64 0, .int .i64 0, .int .i64 0, .slice none 0 0]) 7 72 underlying59 h.o.1 h.o.2.1 h.o.2.2.1 h.o.2.2.2 rfl (by decide) (.slice B k lc) k (Zbv F G H k) rfl (aj.o _ _) ⟨w2.heap.size,0,none⟩ 1 1 (Zef F k na nc) rfl rfl (RK _ _ _ _ (by simp[World.setCell])) (Wq _ _ _ _) (by unfold maxLen;omega) (by omega) (by simp[World.setCell];omega) ?_;intro v2 w3 g d l;clear l;obtain⟨U,V,P,Q,rfl,hC,Y⟩:=JJ f.o q.o (al.o _ _) (ar.o _ _) g d;have N:=Zz hC;have O:=Zz Y;clear hC Y g d m0 m1 m2 m3 m4 m5 m6 f6))
    go_roundw
    case rel=>exact⟨k+1,U,V,P,Q,by omega,by go_num,rfl,N.o,O.o⟩
    case measure=>simp[intOf];omega
  ·obtain rfl:k=F.n:=by omega
   have a0:=Zad a.bA 0;have a1:=Zad a.bA 1;have Yz:=Za9 a.bA 1;have r0:=Zad a.bB 0;have r1:=Zad a.bB 1;have az:=Za9 a.bB 0;have b9:=Za9 a.bB 1;clear m a;go_wp2_with fail
   have ax:=q.o.sz
   have av:An (w.heap.size+2) (((M.setCell ⟨w.heap.size,1,none⟩ (.slice B F.n lc)).setCell ⟨w.heap.size+1,0,none⟩ (.int .i64 F.dl)).setCell ⟨w.heap.size+1,1,none⟩ (.slice B F.n lc)) F (.slice B F.n lc) F.n G H :=
    ⟨ownsRow_setCell_below (ownsRow_setCell_below (ownsRow_setCell_below f.o.own (by simp) _) (by simp) _) (by simp) _,
     fun i hi=>ownsRow_setCell_below (ownsRow_setCell_below (ownsRow_setCell_below (f.o.ID i hi) (by simp) _) (by simp) _) (by simp) _⟩
   exact bodyPost_ret (v:= .agg #[.int .i64 F.dl, .slice B F.n lc]) (by simp[results,Tryz.results63,go_sem,r0,r1]) rfl ⟨_,_,_,rfl,av,((q.o.bl.setCell (by simp) _).setCell (by simp) _).setCell (by simp) _⟩
section
open Go.RowKit
def Bo (n:Nat):List Int :=
 if h:n<128 then [(n:Int)] else ((n % 128+128:Nat):Int)::Bo (n / 128)
 termination_by n
 decreasing_by omega
theorem Zby {n:Nat}(h:n<128):Bo n=[(n:Int)]:=by rw[Bo,dif_pos h]
theorem Zdw {n:Nat}(h:¬n<128):Bo n=((n % 128+128:Nat):Int)::Bo (n / 128):=by rw[Bo,dif_neg h]
theorem Wa (n:Nat):1<=(Bo n).length:=by
 by_cases h:n<128
 ·rw[Zby h];simp
 ·rw[Zdw h];simp
theorem VZ:∀(k n:Nat),n<128 ^ (k+1)->(Bo n).length<=k+1:=by
 intro k
 induction k with
 | zero=>intro n h;rw[Zby (by simpa using h)];simp
 | succ k a =>
  intro n h;by_cases hn:n<128
  ·rw[Zby hn];simp
  ·rw[Zdw hn,List.length_cons]
   have:=a (n / 128) (by rw[Nat.pow_succ] at h;omega);omega
theorem Zax {n:Nat}(h:n<=9223372036854775807):(Bo n).length<=9:=VZ 8 n (by omega)
def bv (l:List Int):List Value:=l.map fun x=> .int .u8 x
theorem Hw (a b:List Int):bv (a++b)=bv a++bv b:=by simp[bv]
theorem Fj (a:List Int):(bv a).length=a.length:=by simp[bv]
theorem bv_one (a:List Int):∀u∈bv a,u.oneCell'=true:=by
 intro u hu;simp only[bv,List.mem_map] at hu;obtain⟨x,_,rfl⟩:=hu
 rfl
def Al (B:Nat)(w:World)(v:Value)(l:List Int):Prop:=w.ownsRow B 5 1 v l.length (bv l)
theorem Al.nil (B:Nat)(w:World):Al B w (.slice none 0 0) []:=World.ownsRow_nil _ _ _ _
theorem Al.below {B:Nat}{w w':World}{v:Value}{l:List Int}(h:Al B w v l)(a:Below w.heap.size w w'):Al B w' v l:=Zam h a
structure F8 (B:Nat)(w w':World):Prop where
 bl:Below B w w'
 Aj:∀k,k<w.heap.size->(∀cs fz,w.heap[k]? ≠some (.cells cs 5 fz))->w'.heap[k]? =w.heap[k]?
theorem F8.refl (B:Nat)(w:World):F8 B w w:=⟨Zk _ _,fun _ _ _=>rfl⟩
theorem F8.trans {B:Nat}{a b c:World}(h:F8 B a b)(d:F8 B b c):F8 B a c :=
 ⟨h.bl.trans d.bl,fun k f hn=>by
  have e:=h.Aj k f hn;rw[d.Aj k (Zy f h.bl.size) (by rw[e];exact hn),e]⟩
theorem F8.mono {B B':Nat}{w w':World}(h:F8 B w w')(a:B'<=B):F8 B' w w':=⟨h.bl.mono a,h.Aj⟩
theorem F8.Ae {B:Nat}{w w':World}(h:Below w.heap.size w w')(a:B<=w.heap.size):F8 B w w':=⟨h.mono a,fun k b _=>h.block k b⟩
theorem F8.alloc {B:Nat}{a w:World}(h:F8 B a w)(b:B<=w.heap.size)(o:Obj):F8 B a (w.alloc o) :=
 h.trans (F8.Ae ((Zk _ _).alloc (Zx _) _) b)
theorem F8.grown {B:Nat}{w w':World}{v:Value}{l:List Int}(h:Al B w v l)(hg:w.grownBy w' v.ownBlock)(b:B<=w.heap.size):F8 B w w':=by
 refine⟨(Zk _ _).grown hg b fun k a=>(h.lt k a).1,fun k a hn=>hg.block k a fun e=> ?_⟩;rcases h.2 with⟨rfl,_⟩ | ⟨g,cap,cur,rfl,_,hh,_⟩
 ·simp[Value.ownBlock] at e
 ·simp only[Value.ownBlock,Option.some.injEq] at e
  subst e;exact hn _ _ hh
theorem F8.block {B:Nat}{w w':World}(h:F8 B w w'){k:Nat}{cs:Array Value}{t:TypeId}{fz:Nat×Nat}(a:w.heap[k]? =some (.cells cs t fz))(f:t≠5):w'.heap[k]? =some (.cells cs t fz):=by
 obtain⟨b,_⟩:=Array.getElem?_eq_some_iff.1 a;rw[h.Aj k b fun c d e=> ?_,a];rw[a] at e;simp only[Option.some.injEq,Obj.cells.injEq] at e;exact f e.2.1
theorem LL:(prog.info? 5).map (fun i=>(i.zero,i.size,i.bytes))=some (some (.int .u8 0),1,1):=by kernel_rfl
theorem Kj (W:World)(N:Nat)(x:Value)(t:TypeId)(a:N=W.heap.size)(j:Nat)(u:Value)(h:[x][j]? =some u):(W.alloc (.cells #[x] t)).cell? ((⟨N,0,none⟩:Addr).add j)=some u:=by
 subst a
 cases j with
 | zero=>simp at h;subst h;simp[Addr.add]
 | succ j=>simp at h
theorem Fa (x:Int):∀u∈[Value.int .u8 x],u.oneCell'=true:=by intro u hu;simp only[List.mem_singleton] at hu;subst hu;rfl
set_option maxRecDepth 1000000 in
theorem or128:∀x:Fin 256,bits .or .u8 (x.val:Int) 128=(x.val:Int) % 128+128:=by decide
theorem or_128 (m:Nat):bits .or .u8 ((m:Int) % 256) 128=(m:Int) % 128+128:=by
 have h:=or128 ⟨m % 256,by omega⟩;have e:((m % 256:Nat):Int)=(m:Int) % 256:=by omega
 simp only[e] at h;rw[h];omega
theorem DC {B:Nat}{w a:World}{v v':Value}{l:List Int}{x:Int}{ob:Obj}(hl:Al B w v l)(b:B<=w.heap.size)
  (hown:a.ownsRow B 5 1 v' (l.length+1) (bv l++[.int .u8 x])) (hg:(w.alloc ob).grownBy a v.ownBlock) :
  Al B a v' (l++[x])/\F8 B w a:=by
 refine⟨?_,((F8.refl B w).alloc b ob).trans (F8.grown (hl.below ((Zk _ _).alloc (Zx _) _)) hg (by simp;omega))⟩;unfold Al;rw[Hw,ZX];exact hown
end
section
open Go.RowKit
theorem refnumber_any (B:Nat)(v:Value)(l:List Int)(n:Nat)(w:World)(hn:n<=9223372036854775807)(hl:l.length<=1099511627776)(C:B<=w.heap.size)(h:Al B w v l) :
  Calls prog 163 #[v, .int .i64 n] w fun e w'=>∃v',e= .returned v'/\Al B w' v' (l++Bo n)/\F8 B w w':=by
 obtain⟨i5,q,g,i,j⟩:=info_parts LL;have c:=Zz (Zq q (Zq g (Zq i j)));have H:=Zz h;clear q g i j h
 go_enter func163,ntmps163
 go_wp2_with fail
 go_loopw [0,1] (fun E t wr=>∃(m:Nat) (k:List Int),t= .int .i64 m/\m<=n/\k++Bo m=l++Bo n/\Al B wr E k/\F8 B w wr) (fun _ t _=>(intOf t).toNat)
 case atStart=>exact⟨n,l,rfl,by omega,rfl,H.o,F8.refl _ _⟩
 case round =>
  obtain⟨m,k,rfl,hm,s,f,hf⟩:=hrel
  rename World=>u
  have x:=Zz s;have r:=Zz f;have HF:=Zz hf;have p:B<=u.heap.size:=Zv C hf.bl.size
  have D:k.length<=1099511627776+9:=by
   have:=congrArg List.length s;have G:=Zax hn;simp only[ZX] at this;omega
  obtain⟨z,A,rfl⟩:=Zaz f;clear s f hf;by_cases y:m<128
  ·go_wp2_with (at_builtin;refine wpList_append_own _ rfl (.tmp 16) (.tmp 19) 112 rfl B 5 i5 (.int .u8 0) 1 1 underlying112 c.o.1 c.o.2.1 c.o.2.2.1 c.o.2.2.2 rfl (by decide) (.slice z k.length A) k.length (bv k) rfl (r.o.below ((Zk _ _).alloc (Zx _) _)) ⟨u.heap.size,0,none⟩ 1 1 [.int .u8 m] rfl rfl (Kj _ _ _ _ rfl) (Fa _) (by unfold maxLen;omega) (by omega) (by simp;omega) ?_;intro v2 F b a d;clear d;obtain⟨r1,r2⟩:=DC r.o p b a;clear b a)
   go_ret
   refine⟨v2,rfl,?_,HF.o.trans r2⟩;have:=x.o;rw[Zby y] at this;rw[<-this];exact r1
  ·go_wp2_with (at_builtin;refine wpList_append_own _ rfl (.tmp 7) (.tmp 12) 112 rfl B 5 i5 (.int .u8 0) 1 1 underlying112 c.o.1 c.o.2.1 c.o.2.2.1 c.o.2.2.2 rfl (by decide) (.slice z k.length A) k.length (bv k) rfl (r.o.below ((Zk _ _).alloc (Zx _) _)) ⟨u.heap.size,0,none⟩ 1 1 [.int .u8 ((m:Int) % 128+128)] rfl rfl (Kj _ _ _ _ rfl) (Fa _) (by unfold maxLen;omega) (by omega) (by simp;omega) ?_;intro v2 F b a d;clear d;obtain⟨I,J,rfl⟩:=Zaz b;obtain⟨r1,r2⟩:=DC r.o p b a;clear b a)
   go_roundw
   case rel =>
    refine⟨m / 128,k++[(m:Int) % 128+128],by go_num,by omega,?_,r1,HF.o.trans r2⟩;have:=x.o;rw[Zdw y] at this;rw[<-this,List.append_assoc]
    rfl
   case measure=>first | (simp[intOf];done) | (simp[intOf];omega)
def Cy (f:Nat->Nat):Nat->List Int
 | 0=>[]
 | k+1=>Cy f k++Bo (f k)
theorem LS (f:Nat->Nat)(n:Nat)(h:∀k,k<n->f k<=9223372036854775807):(Cy f n).length<=9 * n:=by
 induction n with
 | zero=>simp[Cy]
 | succ k a =>
  have b:=a fun j d=>h j (by omega)
  have c:=Zax (h k (by omega));simp only[Cy,ZX];omega
theorem FX (B:Nat)(v:Value)(l:List Int)(f:Nat->Nat)(g:Nat->Int)(a:Option Addr)(n cap:Nat)(w:World)(hg:∀k,k<n->g k=(f k:Int))(hn:∀k,k<n->f k<=9223372036854775807)(al:n<=68719476736)(hl:l.length<=1099511627776)(X:B<=w.heap.size)(h:Al B w v l)
  (hi:∀w',F8 B w w'->Cz w' a n cap g) :
  Calls prog 212 #[v, .slice a n cap] w fun e w'=>∃v',e= .returned v'/\Al B w' v' (l++Cy f n)/\F8 B w w':=by
 obtain⟨i5,D,t,u,x⟩:=info_parts LL;have p:=Zz (Zq D (Zq t (Zq u x)));have H:=Zz h;have V:=Zz hi;have U:=Zz hg;have W:=Zz hn;have hlen:∀k,k<=n->(Cy f k).length<=9 * k:=fun k R=>LS f k fun j hj=>hn j (by omega)
 have HL:=Zz hlen;clear D t u x h hi hg hn hlen
 go_enter func212,ntmps212
 go_wp2_with fail
 go_loopw [0,9] (fun M y wr=>∃k:Nat,y= .int .i64 k/\k<=n/\Al B wr M (l++Cy f k)/\F8 B w wr) (fun _ y _=>n - (intOf y).toNat)
 case atStart=>exact⟨0,rfl,by omega,by simpa[Cy] using H.o,F8.refl _ _⟩
 case round =>
  obtain⟨k,rfl,R,i,hf⟩:=hrel
  rename World=>N
  have Q:=Zz i;have HF:=Zz hf;have G:B<=N.heap.size:=Zv X hf.bl.size;by_cases E:k<n
  ·have I:=V.o N hf
   have C:=U.o k E;have L:=W.o k E;have aj:=HL.o k R;rcases I with h0 | ⟨ab,ao,rfl,Z,ae,Y,q⟩
   ·omega
   ·have K:=q k E
    rw[C] at K;clear i hf q C;go_wp2_with fail
    go_loopw [0,6] (fun M y wr=>∃(m:Nat) (c:List Int),y= .int .i64 m/\m<=f k/\c++Bo m=(l++Cy f k)++Bo (f k)/\Al B wr M c/\F8 B N wr) (fun _ y _=>(intOf y).toNat)
    case atStart=>exact⟨f k,l++Cy f k,rfl,by omega,rfl,Q.o,F8.refl _ _⟩
    case round =>
     obtain⟨m,c,rfl,hm,J,i,hf⟩:=hrel
     rename World=>O
     have P:=Zz J;have s:=Zz i;have z:=Zz hf;have A:B<=O.heap.size:=Zv G hf.bl.size
     have ag:c.length<=2199023255552:=by
      have:=congrArg List.length J;have F:=Zax L;simp only[ZX] at this;omega
     obtain⟨S,T,rfl⟩:=Zaz i;clear J i hf;by_cases F:m<128
     ·go_wp2_with (at_builtin;refine wpList_append_own _ rfl (.tmp 23) (.tmp 26) 112 rfl B 5 i5 (.int .u8 0) 1 1 underlying112 p.o.1 p.o.2.1 p.o.2.2.1 p.o.2.2.2 rfl (by decide) (.slice S c.length T) c.length (bv c) rfl (s.o.below ((Zk _ _).alloc (Zx _) _)) ⟨O.heap.size,0,none⟩ 1 1 [.int .u8 m] rfl rfl (Kj _ _ _ _ rfl) (Fa _) (by unfold maxLen;omega) (by omega) (by simp;omega) ?_;intro v3 w3 b d r;clear r;obtain⟨xa,xc,rfl⟩:=Zaz b;obtain⟨r1,r2⟩:=DC s.o A b d;clear b d)
      go_roundw
      case rel =>
       refine⟨k+1,by go_num,by omega,?_,(HF.o.trans z.o).trans r2⟩;have:=P.o;rw[Zby F] at this;simp only[Cy];rw[<-List.append_assoc,<-this];exact r1
      case measure=>simp[intOf];omega
     ·have ho:=Zz (or_128 m)
      go_wp2_with (at_builtin;refine wpList_append_own _ rfl (.tmp 15) (.tmp 19) 112 rfl B 5 i5 (.int .u8 0) 1 1 underlying112 p.o.1 p.o.2.1 p.o.2.2.1 p.o.2.2.2 rfl (by decide) (.slice S c.length T) c.length (bv c) rfl (s.o.below ((Zk _ _).alloc (Zx _) _)) ⟨O.heap.size,0,none⟩ 1 1 [.int .u8 (bits .or .u8 ((m:Int) % 256) 128)] rfl rfl (Kj _ _ _ _ rfl) (Fa _) (by unfold maxLen;omega) (by omega) (by simp;omega) ?_;intro v3 w3 b d r;clear r;obtain⟨xa,xc,rfl⟩:=Zaz b;obtain⟨r1,r2⟩:=DC s.o A b d;clear b d;rw[ho.o] at r1)
      go_roundw
      case rel =>
       refine⟨m / 128,c++[(m:Int) % 128+128],by go_num,by omega,?_,r1,z.o.trans r2⟩;have:=P.o;rw[Zdw F] at this;rw[<-this,List.append_assoc]
       rfl
      case measure=>simp[intOf];omega
  ·obtain rfl:k=n:=by omega
   clear i hf;go_wp2_with fail
   go_ret
   exact⟨_,rfl,Q.o,HF.o⟩
end
end Go.Proofs.YtgdcjccbdmcebaaGreatDoor
