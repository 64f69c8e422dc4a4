import Derived.Test.YtgdcjccbdmcebaaGreatDoorM06
import Derived.Test.YtgdcjccbdmcebaaGreatDoorM11
import Derived.BigRegion
import Derived.OwnWalk
set_option linter.all false
set_option maxHeartbeats 8000000
set_option maxRecDepth 100000
open Go.Proofs.Tryz
open Go renaming heap_alloc_new->QFm,wpList_append_own->QFb,rounds_succ->QGv
open Go.Instr renaming index->QFr
open Go.Value renaming ownBlock->QCi
open Go.World renaming setCell->QDw,ownsRow_nil->QEj,block_lt_of_cell?->QDv,cell?_of_block->QEc
open List renaming length->QHy,append_assoc->QHz
namespace Go.Proofs.YtgdcjccbdmcebaaGreatDoor
section
open Go.RowKit
def Bp (n:Nat):List Int :=
 if h:n<128 then [(n:Int)] else ((n % 128+128:Nat):Int)::Bp (n / 128)
 termination_by n
 decreasing_by omega
theorem Zb2 {n:Nat}(h:n<128):Bp n=[(n:Int)]:=by rw[Bp,dif_pos h]
theorem Zd0 {n:Nat}(h:¬n<128):Bp n=((n % 128+128:Nat):Int)::Bp (n / 128):=by rw[Bp,dif_neg h]
theorem VU (n:Nat):1<=(Bp n).length:=by
 by_cases h:n<128
 .rw[Zb2 h];simp
 .rw[Zd0 h];simp
theorem VT:∀(k n:Nat),n<128 ^ (k+1)->(Bp n).length<=k+1:=by
 intro k
 induction k with
 | zero=>intro n h;rw[Zb2 (by simpa using h)];simp
 | succ k a =>
  intro n h;by_cases hn:n<128
  .rw[Zb2 hn];simp
  .rw[Zd0 hn,List.length_cons]
   have:=a (n / 128) (by rw[Nat.pow_succ] at h;omega);omega
theorem Zax {n:Nat}(h:n<=9223372036854775807):(Bp n).length<=9:=VT 8 n (by omega)
def bv (l:List Int):List Value:=l.map fun x=> .int .u8 x
theorem Hx (a b:List Int):bv (a++b)=bv a++bv b:=by simp[bv]
theorem Fj (a:List Int):(bv a).length=a.length:=by simp[bv]
theorem bv_one (a:List Int):∀u∈bv a,u.oneCell'=true:=by
 intro u hu;simp only[bv,List.mem_map] at hu;obtain⟨x,_,rfl⟩:=hu
 rfl
def Al (B:Nat)(w:World)(v:Value)(l:List Int):Prop:=w.ownsRow B 5 1 v l.length (bv l)
theorem Al.nil (B:Nat)(w:World):Al B w (.slice none 0 0) []:=QEj _ _ _ _
theorem Al.below {B:Nat}{w w':World}{v:Value}{l:List Int}(h:Al B w v l)(hb:ZY w w'):Al B w' v l:=Zak h hb
structure F8 (B:Nat)(w w':World):Prop where
 bl:Below B w w'
 Ak:∀k,k<w.heap.size->(∀cs fz,w.heap[k]? ≠some (.cells cs 5 fz))->w'.heap[k]? =w.heap[k]?
theorem F8.refl (B:Nat)(w:World):F8 B w w:=⟨Zk _ _,fun _ _ _=>rfl⟩
theorem F8.trans {B:Nat}{a b c:World}(h:F8 B a b)(d:F8 B b c):F8 B a c :=
 ⟨h.bl.trans d.bl,fun k hk hn=>by
  have e:=h.Ak k hk hn;rw[d.Ak k (Zy hk h.bl.size) (by rw[e];exact hn),e]⟩
theorem F8.mono {B B':Nat}{w w':World}(h:F8 B w w')(a:B'<=B):F8 B' w w':=⟨h.bl.mono a,h.Ak⟩
theorem F8.Ae {B:Nat}{w w':World}(h:ZY w w')(a:B<=w.heap.size):F8 B w w':=⟨h.mono a,fun k hk _=>h.block k hk⟩
theorem F8.alloc {B:Nat}{a w:World}(h:F8 B a w)(b:B<=w.heap.size)(o:Obj):F8 B a (w.alloc o) :=
 h.trans (F8.Ae (ZV.alloc ZU _) b)
theorem F8.grown {B:Nat}{w w':World}{v:Value}{l:List Int}(h:Al B w v l)(hg:w.grownBy w' v.ownBlock)(a:B<=w.heap.size):F8 B w w':=by
 refine⟨ZV.grown hg a fun k hk=>(h.lt k hk).1,fun k hk hn=>hg.block k hk fun e=> ?_⟩;rcases h.2 with⟨rfl,_⟩ | ⟨g,cap,cur,rfl,_,hh,_⟩
 .simp[QCi] at e
 .simp only[QCi,Option.some.injEq] at e
  subst e;exact hn _ _ hh
theorem F8.block {B:Nat}{w w':World}(h:F8 B w w'){k:Nat}{cs:Array Value}{t:TypeId}{fz:Nat×Nat}(hk:w.heap[k]? =some (.cells cs t fz))(d:t≠5):w'.heap[k]? =some (.cells cs t fz):=by
 obtain⟨a,_⟩:=Array.getElem?_eq_some_iff.1 hk;rw[h.Ak k a fun b c e=> ?_,hk];rw[hk] at e;simp only[Option.some.injEq,Obj.cells.injEq] at e;exact d e.2.1
theorem LK:(prog.info? 5).map (fun i=>(i.zero,i.size,i.bytes))=some (some (.int .u8 0),1,1):=by kernel_rfl
theorem Ki (W:World)(N:Nat)(x:Value)(t:TypeId)(a:N=W.heap.size)(j:Nat)(u:Value)(h:[x][j]? =some u):(W.alloc (.cells #[x] t)).cell? ((⟨N,0,none⟩:Addr).add j)=some u:=by
 subst a
 cases j with
 | zero=>simp at h;subst h;simp[Addr.add]
 | succ j=>simp at h
theorem EZ (x:Int):∀u∈[Value.int .u8 x],u.oneCell'=true:=by intro u hu;simp only[List.mem_singleton] at hu;subst hu;rfl
set_option maxRecDepth 1000000 in
theorem or128:∀x:Fin 256,bits .or .u8 (x.val:Int) 128=(x.val:Int) % 128+128:=by decide
theorem or_128 (m:Nat):bits .or .u8 ((m:Int) % 256) 128=(m:Int) % 128+128:=by
 have h:=or128 ⟨m % 256,by omega⟩;have e:((m % 256:Nat):Int)=(m:Int) % 256:=by omega
 simp only[e] at h;rw[h];omega
theorem Dv {B:Nat}{w a:World}{v v':Value}{l:List Int}{x:Int}{ob:Obj}(hl:Al B w v l)(b:B<=w.heap.size)
  (hown:a.ownsRow B 5 1 v' (l.length+1) (bv l++[.int .u8 x])) (hg:(w.alloc ob).grownBy a v.ownBlock) :
  Al B a v' (l++[x])/\F8 B w a:=by
 refine⟨?_,((F8.refl B w).alloc b ob).trans (F8.grown (hl.below (ZV.alloc ZU _)) hg (by simp;omega))⟩;unfold Al;rw[Hx,ZX];exact hown
end
section
open Go.RowKit
theorem refnumber_any (B:Nat)(v:Value)(l:List Int)(n:Nat)(w:World)(hn:n<=9223372036854775807)(hl:l.length<=1099511627776)(A:B<=w.heap.size)(h:Al B w v l) :
  Calls prog 163 #[v,.int .i64 n] w fun e w'=>∃v',e=.returned v'/\Al B w' v' (l++Bp n)/\F8 B w w':=by
 obtain⟨i5,q,g,i,j⟩:=info_parts LK;have c:=Zz (Zq q (Zq g (Zq i j)));have H:=Zz h;clear q g i j h
 go_enter func163,ntmps163
 go_wp2_with fail
 go_loopw [0,1] (fun D s wr=>∃(m:Nat) (k:List Int),s=.int .i64 m/\m<=n/\k++Bp m=l++Bp n/\Al B wr D k/\F8 B w wr) (fun _ s _=>(intOf s).toNat)
 case atStart=>exact⟨n,l,rfl,by omega,rfl,H.o,F8.refl _ _⟩
 case round =>
  obtain⟨m,k,rfl,hm,hk,f,hf⟩:=hrel
  rename World=>t
  have u:=Zz hk;have r:=Zz f;have HF:=Zz hf;have p:B<=t.heap.size:=Zv A hf.bl.size
  have C:k.length<=1099511627776+9:=by
   have:=congrArg QHy hk;have F:=Zax hn;simp only[ZX] at this;omega
  obtain⟨y,z,rfl⟩:=Zaz f;clear hk f hf;by_cases x:m<128
  .go_wp2_with (at_builtin;refine QFb _ rfl (.tmp 16) (.tmp 19) 112 rfl B 5 i5 (.int .u8 0) 1 1 underlying112 c.o.1 c.o.2.1 c.o.2.2.1 c.o.2.2.2 rfl (by decide) (.slice y k.length z) k.length (bv k) rfl (r.o.below (ZV.alloc ZU _)) ⟨t.heap.size,0,none⟩ 1 1 [.int .u8 m] rfl rfl (Ki _ _ _ _ rfl) (EZ _) (by unfold maxLen;omega) (by omega) (by simp;omega) ?_;intro v2 E b a d;clear d;obtain⟨r1,r2⟩:=Dv r.o p b a;clear b a)
   go_ret
   refine⟨v2,rfl,?_,HF.o.trans r2⟩;have:=u.o;rw[Zb2 x] at this;rw[<-this];exact r1
  .go_wp2_with (at_builtin;refine QFb _ rfl (.tmp 7) (.tmp 12) 112 rfl B 5 i5 (.int .u8 0) 1 1 underlying112 c.o.1 c.o.2.1 c.o.2.2.1 c.o.2.2.2 rfl (by decide) (.slice y k.length z) k.length (bv k) rfl (r.o.below (ZV.alloc ZU _)) ⟨t.heap.size,0,none⟩ 1 1 [.int .u8 ((m:Int) % 128+128)] rfl rfl (Ki _ _ _ _ rfl) (EZ _) (by unfold maxLen;omega) (by omega) (by simp;omega) ?_;intro v2 E b a d;clear d;obtain⟨G,I,rfl⟩:=Zaz b;obtain⟨r1,r2⟩:=Dv r.o p b a;clear b a)
   go_roundw
   case rel =>
    refine⟨m / 128,k++[(m:Int) % 128+128],by go_num,by omega,?_,r1,HF.o.trans r2⟩;have:=u.o;rw[Zd0 x] at this;rw[<-this,QHz]
    rfl
   case measure=>first | (simp[intOf];done) | (simp[intOf];omega)
def Cw (f:Nat->Nat):Nat->List Int
 | 0=>[]
 | k+1=>Cw f k++Bp (f k)
theorem LS (f:Nat->Nat)(n:Nat)(h:∀k,k<n->f k<=9223372036854775807):(Cw f n).length<=9 * n:=by
 induction n with
 | zero=>simp[Cw]
 | succ k a =>
  have b:=a fun j d=>h j (by omega)
  have c:=Zax (h k (by omega));simp only[Cw,ZX];omega
theorem FW (B:Nat)(v:Value)(l:List Int)(f:Nat->Nat)(g:Nat->Int)(a:Option Addr)(n cap:Nat)(w:World)(hg:∀k,k<n->g k=(f k:Int))(hn:∀k,k<n->f k<=9223372036854775807)(aj:n<=68719476736)(hl:l.length<=1099511627776)(W:B<=w.heap.size)(h:Al B w v l)
  (hi:∀w',F8 B w w'->Cx w' a n cap g) :
  Calls prog 212 #[v,.slice a n cap] w fun e w'=>∃v',e=.returned v'/\Al B w' v' (l++Cw f n)/\F8 B w w':=by
 obtain⟨i5,D,t,u,x⟩:=info_parts LK;have p:=Zz (Zq D (Zq t (Zq u x)));have H:=Zz h;have U:=Zz hi;have T:=Zz hg;have V:=Zz hn;have hlen:∀k,k<=n->(Cw f k).length<=9 * k:=fun k hk=>LS f k fun j hj=>hn j (by omega)
 have HL:=Zz hlen;clear D t u x h hi hg hn hlen
 go_enter func212,ntmps212
 go_wp2_with fail
 go_loopw [0,9] (fun M y wr=>∃k:Nat,y=.int .i64 k/\k<=n/\Al B wr M (l++Cw f k)/\F8 B w wr) (fun _ y _=>n - (intOf y).toNat)
 case atStart=>exact⟨0,rfl,by omega,by simpa[Cw] using H.o,F8.refl _ _⟩
 case round =>
  obtain⟨k,rfl,hk,i,hf⟩:=hrel
  rename World=>N
  have Q:=Zz i;have HF:=Zz hf;have G:B<=N.heap.size:=Zv W hf.bl.size;by_cases E:k<n
  .have I:=U.o N hf
   have C:=T.o k E;have L:=V.o k E;have ag:=HL.o k hk;rcases I with h0 | ⟨ab,ao,rfl,Y,Z,X,q⟩
   .omega
   .have K:=q k E
    rw[C] at K;clear i hf q C;go_wp2_with fail
    go_loopw [0,6] (fun M y wr=>∃(m:Nat) (c:List Int),y=.int .i64 m/\m<=f k/\c++Bp m=(l++Cw f k)++Bp (f k)/\Al B wr M c/\F8 B N wr) (fun _ y _=>(intOf y).toNat)
    case atStart=>exact⟨f k,l++Cw f k,rfl,by omega,rfl,Q.o,F8.refl _ _⟩
    case round =>
     obtain⟨m,c,rfl,hm,J,i,hf⟩:=hrel
     rename World=>O
     have P:=Zz J;have s:=Zz i;have z:=Zz hf;have A:B<=O.heap.size:=Zv G hf.bl.size
     have ae:c.length<=2199023255552:=by
      have:=congrArg QHy J;have F:=Zax L;simp only[ZX] at this;omega
     obtain⟨R,S,rfl⟩:=Zaz i;clear J i hf;by_cases F:m<128
     .go_wp2_with (at_builtin;refine QFb _ rfl (.tmp 23) (.tmp 26) 112 rfl B 5 i5 (.int .u8 0) 1 1 underlying112 p.o.1 p.o.2.1 p.o.2.2.1 p.o.2.2.2 rfl (by decide) (.slice R c.length S) c.length (bv c) rfl (s.o.below (ZV.alloc ZU _)) ⟨O.heap.size,0,none⟩ 1 1 [.int .u8 m] rfl rfl (Ki _ _ _ _ rfl) (EZ _) (by unfold maxLen;omega) (by omega) (by simp;omega) ?_;intro v3 w3 b d r;clear r;obtain⟨xa,xc,rfl⟩:=Zaz b;obtain⟨r1,r2⟩:=Dv s.o A b d;clear b d)
      go_roundw
      case rel =>
       refine⟨k+1,by go_num,by omega,?_,(HF.o.trans z.o).trans r2⟩;have:=P.o;rw[Zb2 F] at this;simp only[Cw];rw[<-QHz,<-this];exact r1
      case measure=>simp[intOf];omega
     .have ho:=Zz (or_128 m)
      go_wp2_with (at_builtin;refine QFb _ rfl (.tmp 15) (.tmp 19) 112 rfl B 5 i5 (.int .u8 0) 1 1 underlying112 p.o.1 p.o.2.1 p.o.2.2.1 p.o.2.2.2 rfl (by decide) (.slice R c.length S) c.length (bv c) rfl (s.o.below (ZV.alloc ZU _)) ⟨O.heap.size,0,none⟩ 1 1 [.int .u8 (bits .or .u8 ((m:Int) % 256) 128)] rfl rfl (Ki _ _ _ _ rfl) (EZ _) (by unfold maxLen;omega) (by omega) (by simp;omega) ?_;intro v3 w3 b d r;clear r;obtain⟨xa,xc,rfl⟩:=Zaz b;obtain⟨r1,r2⟩:=Dv s.o A b d;clear b d;rw[ho.o] at r1)
      go_roundw
      case rel =>
       refine⟨m / 128,c++[(m:Int) % 128+128],by go_num,by omega,?_,r1,z.o.trans r2⟩;have:=P.o;rw[Zd0 F] at this;rw[<-this,QHz]
       rfl
      case measure=>simp[intOf];omega
  .obtain rfl:k=n:=by omega
   clear i hf;go_wp2_with fail
   go_ret
   exact⟨_,rfl,Q.o,HF.o⟩
end
open Go.RowKit
theorem AN.ge {F:Ad}{i:Nat}(h:AN F i):∀k:Nat,k<F.an i->(k:Int)<=F.af i k:=by
 intro k
 induction k with
 | zero=>intro hk;exact (h 0 hk).1
 | succ k b =>
  intro hk;have c:=b (by omega);have a:=(h (k+1) hk).2.2 (by omega);simp only[Nat.add_sub_cancel] at a;omega
theorem AN.Uo {F:Ad}{i:Nat}(h:AN F i):F.an i<=F.n:=by
 by_cases a:F.an i=0
 .omega
 .have b:=h.ge (F.an i - 1) (by omega)
  have c:=(h (F.an i - 1) (by omega)).2.1;omega
def Kj (F:Ad)(i:Nat):List Int :=
 (((((((Bp (F.bu i).toNat++Bp (F.cl i).toNat)++Bp (F.be i).toNat)++Bp (F.ba i).toNat)++Bp (F.ca i).toNat)++Bp (F.ji i).toNat)++Bp (F.an i))++Cw (fun k=>(F.af i k).toNat) (F.an i))
def CJ (F:Ad):Nat->List Int
 | 0=>[]
 | k+1=>CJ F k++Kj F k
def Zat (F:Ad):List Int:=(Bp F.dl.toNat++Bp F.n)++CJ F F.n
structure Cp (F:Ad)(i:Nat) where
 bu:(F.bu i)=((F.bu i).toNat:Int)/\(F.bu i).toNat<=1048576
 cl:(F.cl i)=((F.cl i).toNat:Int)/\(F.cl i).toNat<=1048576
 be:(F.be i)=((F.be i).toNat:Int)/\(F.be i).toNat<=1048576
 ba:(F.ba i)=((F.ba i).toNat:Int)/\(F.ba i).toNat<=1048576
 ca:(F.ca i)=((F.ca i).toNat:Int)/\(F.ca i).toNat<=1048576
 ji:(F.ji i)=((F.ji i).toNat:Int)/\(F.ji i).toNat<=1048576
 an:F.an i<=12
 af:∀k,k<F.an i->F.af i k=((F.af i k).toNat:Int)/\(F.af i k).toNat<=12
theorem Rv {F:Ad}{i:Nat}(e:Cq F)(h:Be F i)(he:AN F i):Cp F i:=by
 obtain⟨t1,t2,t3,t4⟩:=e;have q:=he.Uo;obtain⟨f,g,j,l,m,n,o,p,a,b,c,d⟩:=h;refine⟨?_,?_,?_,?_,?_,?_,by omega,fun k hk=> ?_⟩
 .omega
 .omega
 .omega
 .omega
 .omega
 .omega
 .have:=he k hk
  unfold CS at this;omega
theorem OH (f:Nat->Nat)(n:Nat)(hn:n<=12)(h:∀k,k<n->f k<=12):(Cw f n).length<=108:=by
 have:=LS f n fun k hk=>by have:=h k hk;omega
 omega
theorem Tj {F:Ad}{i:Nat}(h:Cp F i):(Kj F i).length<=171:=by
 have a:=Zax (n:=(F.bu i).toNat) (by have:=h.bu;omega);have b:=Zax (n:=(F.cl i).toNat) (by have:=h.cl;omega);have c:=Zax (n:=(F.be i).toNat) (by have:=h.be;omega);have d:=Zax (n:=(F.ba i).toNat) (by have:=h.ba;omega);have e:=Zax (n:=(F.ca i).toNat) (by have:=h.ca;omega);have f:=Zax (n:=(F.ji i).toNat) (by have:=h.ji;omega);have g:=Zax (n:=F.an i) (by have:=h.an;omega);have j:=OH (fun k=>(F.af i k).toNat) (F.an i) h.an fun k hk=>(h.af k hk).2;simp only[Kj,ZX];omega
theorem Kk {F:Ad}{k:Nat}(h:∀i,i<k->Cp F i):(CJ F k).length<=171 * k:=by
 induction k with
 | zero=>simp[CJ]
 | succ k a =>
  have b:=a fun i hi=>h i (by omega)
  have c:=Tj (h k (by omega));simp only[CJ,ZX];omega
structure Xz (w wr:World)(F:Ad)(a:Option Addr)(cap:Nat):Prop where
 b:wr.heap[w.heap.size]? =some (.cells #[.int .i64 F.dl,.slice a F.n cap] 61 (0,0))
 f:F8 w.heap.size w wr
theorem Xz.start (w:World)(F:Ad)(a:Option Addr)(cap:Nat):Xz w (w.alloc (.cells #[.int .i64 F.dl,.slice a F.n cap] 61)) F a cap :=
 ⟨QFm _ _,(F8.refl _ _).alloc ZU _⟩
theorem Xz.Ak {w wr wx:World}{F:Ad}{a:Option Addr}{cap:Nat}(h:Xz w wr F a cap)(hb:F8 w.heap.size wr wx):Xz w wx F a cap :=
 ⟨hb.block h.b (by decide),h.f.trans hb⟩
theorem Xz.lt {w wr:World}{F:Ad}{a:Option Addr}{cap:Nat}(h:Xz w wr F a cap):w.heap.size<wr.heap.size:=by
 obtain⟨c,_⟩:=Array.getElem?_eq_some_iff.1 h.b;exact c
def DY (wr:World)(g:Nat)(F:Ad)(k:Nat)(a:Option Addr)(c:Nat):Prop:=wr.heap[g]? =some (.cells (Zd8 F k a c).toArray 130 (0,0))
theorem DY.Ak {wr wx:World}{g:Nat}{F:Ad}{k:Nat}{a:Option Addr}{c B:Nat}(h:DY wr g F k a c)(hb:F8 B wr wx):DY wx g F k a c:=F8.block hb h (by decide)
theorem DY.cells {wr:World}{g:Nat}{F:Ad}{k:Nat}{a:Option Addr}{c:Nat}(h:DY wr g F k a c) :
  wr.cell? ⟨g,0,none⟩=some (.int .i64 (F.bu k))/\wr.cell? ⟨g,1,none⟩=some (.int .i64 (F.cl k))/\wr.cell? ⟨g,2,none⟩=some (.int .i64 (F.be k))/\wr.cell? ⟨g,3,none⟩=some (.int .i64 (F.ba k)) /\
  wr.cell? ⟨g,4,none⟩=some (.int .i64 (F.ca k))/\wr.cell? ⟨g,5,none⟩=some (.int .i64 (F.ji k))/\wr.cell? ⟨g,6,none⟩=some (.slice a (F.an k) c) :=
 ⟨Zae h 0,Zae h 1,Zae h 2,Zae h 3,Zae h 4,Zae h 5,Zae h 6⟩
def Wr (w:World)(b o:Nat):Prop:=(w.cell? ⟨b,o,none⟩).isSome=true/\w.frozen? ⟨b,o,none⟩=false
theorem Wr.set {w:World}{b o:Nat}(h:Wr w b o)(x:Addr)(v:Value):Wr (w.setCell x v) b o:=by
 obtain⟨c,d⟩:=h;refine⟨?_,by rw[World.frozen?_setCell];exact d⟩;obtain⟨u,hu⟩:=Option.isSome_iff_exists.1 c;obtain⟨e,a⟩:=cell?_setCell_some (w:=w) (p:=x) (x:=v) (q:=⟨b,o,none⟩) (v:=u) hu;rw[a]
 rfl
structure Cj (B:Nat)(w:World)(F:Ad)(g k:Nat)(Na:Nat->Option Addr)(Nc:Nat->Nat):Prop where
 hg:B<=g
 wr:∀i,i<F.n->∀j,j<7->Wr w g (i * 7+j)
 af:∀i,k<=i->i<F.n->w.cell? ⟨g,i * 7+6,none⟩=some (.slice (Na i) (F.an i) (Nc i))
 it:∀i,i<F.n->F.an i=0\/∃ab,Na i=some ⟨ab,0,none⟩/\B<=ab/\ab≠g/\F.an i<=Nc i/\Nc i<=maxLen/\∀m,m<F.an i->Wr w ab m
theorem Cj.set {B:Nat}{w:World}{F:Ad}{g k:Nat}{c:Nat->Option Addr}{d:Nat->Nat}(h:Cj B w F g k c d){x:Addr}(r:x.block≠g)(v:Value):Cj B (w.setCell x v) F g k c d :=
 ⟨h.hg,fun i hi j q=>(h.wr i hi j q).set x v,fun i a b=>(QEc (w:=w) (Zl w x v g (fun e=>r e.symm))).trans (h.af i a b),fun i hi=>by
  rcases h.it i hi with f | ⟨ab,a,b,l,n,o,p⟩
  .exact Zu f
  .exact Zj ⟨ab,a,b,l,n,o,fun m hm=>(p m hm).set x v⟩⟩
theorem Cj.setNode {B:Nat}{w:World}{F:Ad}{g k k' i0 off:Nat}{d:Nat->Option Addr}{e:Nat->Nat}(h:Cj B w F g k d e)(hk:k<=k')(r:i0<k')(j:off<i0 * 7+7)(v:Value):Cj B (w.setCell ⟨g,off,none⟩ v) F g k' d e :=
 ⟨h.hg,fun i hi s b=>(h.wr i hi s b).set _ v,fun i f a=>by
  have c:(⟨g,off,none⟩:Addr).off≠i * 7+6:=by simp;omega
  have:=h.af i (by omega) a;rw[<-this];exact Zac w g off (i * 7+6) v (by simpa using c),fun i hi=>by
  rcases h.it i hi with l | ⟨ab,f,a,n,o,p,q⟩
  .exact Zu l
  .exact Zj ⟨ab,f,a,n,o,p,fun m hm=>(q m hm).set _ v⟩⟩
theorem Cj.below {B:Nat}{w w':World}{F:Ad}{g k:Nat}{e:Nat->Option Addr}{f:Nat->Nat}(h:Cj B w F g k e f)(hn:k=0)(hb:ZY w w'):Cj B w' F g k e f:=by
 have hw:∀b o,Wr w b o->Wr w' b o:=fun b o ⟨a,c⟩=>by
  obtain⟨u,hu⟩:=Option.isSome_iff_exists.1 a;have d:=QDv _ _ hu;exact⟨by rw[hb.cell (p:=⟨b,o,none⟩) d];exact a,by rw[hb.frozen (p:=⟨b,o,none⟩) d];exact c⟩
 subst hn
 exact⟨h.hg,fun i hi j t=>hw _ _ (h.wr i hi j t),fun i a c=>(hb.cell (p:=⟨g,i * 7+6,none⟩) (QDv _ _ (h.af i a c))).trans (h.af i a c),fun i hi=>by
  rcases h.it i hi with l | ⟨ab,a,c,n,q,r,s⟩
  .exact Zu l
  .exact Zj ⟨ab,a,c,n,q,r,fun m hm=>hw _ _ (s m hm)⟩⟩
theorem An.turn {B:Nat}{w:World}{F:Ad}{g cap:Nat}{d:Nat->Option Addr}{f:Nat->Nat}(h:An B w F (.slice (some ⟨g,0,none⟩) F.n cap) F.n d f):Cj B w F g 0 d f:=by
 have hn:=h.node;have x:∀i j:Nat,(0+i * 7+j)=i * 7+j:=fun i j=>by omega
 have o:∀i:Nat,(0+i * 7)=i * 7:=fun i=>by omega
 refine⟨h.lt.1,fun i hi j r=>⟨?_,h.own.frozenAt _⟩,fun i _ hi=>by have:=(hn i hi).af;rwa[o] at this,fun i hi=> ?_⟩
 .rw[h.own.cellAt (i * 7+j) (by omega),Im F d f F.n i j hi r]
  rcases (show j=0\/j=1\/j=2\/j=3\/j=4\/j=5\/j=6 by omega) with rfl | rfl | rfl | rfl | rfl | rfl | rfl<;>rfl
 .by_cases p:F.an i=0
  .exact Zu p
  .have c:=h.DW i hi
   rcases c.2 with⟨_,k⟩ | ⟨ab,b,cur,k,hb,hh,s,t,u,v⟩
   .exact absurd k p
   .obtain⟨l,_,q⟩:d i=some ⟨ab,0,none⟩/\F.an i=F.an i/\f i=b:=by simpa using k
    have a:=Ip c h.own (by decide);rw[l] at a;rw[l,q] at c;refine Zj ⟨ab,l,hb,?_,by omega,by omega,fun m hm=>⟨?_,c.frozenAt m⟩⟩
    .rcases a with a | a
     .simp[QCi] at a
     .intro e;apply a;simp[QCi,e]
    .rw[c.cellAt m (by omega),JT _ _ _ hm]
     rfl
structure Re (B:Nat)(w wx:World)(F:Ad)(g cap k:Nat)(Na:Nat->Option Addr)(Nc:Nat->Nat):Prop where
 at':Cj B wx F g k Na Nc
 c1:wx.cell? ⟨w.heap.size,1,none⟩=some (.slice (some ⟨g,0,none⟩) F.n cap)
 sz:w.heap.size<wx.heap.size
 bl:Below B w wx
theorem Re.node {B:Nat}{w wx:World}{F:Ad}{g cap k k':Nat}{c:Nat->Option Addr}{d:Nat->Nat}(h:Re B w wx F g cap k c d)(e:g<w.heap.size)(i0 off:Nat)(hk:k<=k')(b:i0<k')(a:off<i0 * 7+7)(v:Value) :
  Re B w (wx.setCell ⟨g,off,none⟩ v) F g cap k' c d :=
 ⟨h.at'.setNode hk b a v,(QEc (w:=wx) (Zl wx ⟨g,off,none⟩ v w.heap.size (by simp;omega))).trans h.c1,by simpa[QDw] using h.sz,h.bl.setCell h.at'.hg v⟩
theorem TO (F:Ad)(a:Option Addr)(cap:Nat)(w:World)(hn:F.n=0) :
  Calls prog 65 #[GL F.dl (.slice a F.n cap)] w fun e w'=>e=.returned (.tuple #[])/\ZY w w':=by
 rw[hn];clear hn
 go_enter func65,ntmps65
 go_wp2_with fail
 go_loop [7] (fun k=>k=.int .i64 0) (fun _=>0)
 case atStart=>rfl
 case round =>
  obtain rfl:=hrel;go_wp2_with fail
  go_end0
  exact⟨rfl,ZV.alloc ZU _⟩
structure FR (w:World)(F:Ad)(a:Option Addr)(cap:Nat)(Aa:Nat->Option Addr)(Ac:Nat->Nat):Prop where
 at':Gy w a cap F Aa Ac
 len:F.n<=maxLen
 sz:F.n * 72<=140737488355328
 nil:∀i,i<F.n->Aa i=none->Ac i=0
 sz2:∀i,i<F.n->F.an i * 8<=140737488355328
 Ix:AP w
 WV:2<w.heap.size
theorem FR.Ak {w w':World}{F:Ad}{a:Option Addr}{cap:Nat}{b:Nat->Option Addr}{c:Nat->Nat}(h:FR w F a cap b c)(hb:ZY w w'):FR w' F a cap b c :=
 ⟨h.at'.Ak hb,h.len,h.sz,h.nil,h.sz2,h.Ix.Ak h.WV hb,Zy h.WV hb.size⟩
theorem An.base {B B':Nat}{w:World}{F:Ad}{v:Value}{k:Nat}{a:Nat->Option Addr}{b:Nat->Nat}(h:An B w F v k a b)(c:B'<=B):An B' w F v k a b :=
 ⟨Zcs h.own c,fun i hi=>Zcs (h.DW i hi) c⟩
theorem Py (F:Ad)(a:Option Addr)(cap:Nat)(j:Nat->Option Addr)(k:Nat->Nat)(w:World)(h:FR w F a cap j k) :
  Calls prog 63 #[GL F.dl (.slice a F.n cap)] w fun e w'=>∃(c:Option Addr) (lc:Nat) (d:Nat->Option Addr) (f:Nat->Nat),e=.returned (GL F.dl (.slice c F.n lc))/\An w.heap.size w' F (.slice c F.n lc) F.n d f/\ZY w w':=by
 rcases h.at' with g | ⟨b,o,rfl,q,r,m,p⟩
 .refine (NM F a cap w g).mono ?_
  rintro e w' ⟨rfl,hb⟩;exact⟨none,0,fun _=>none,fun _=>0,by rw[g],by rw[g];exact⟨QEj _ _ _ _,fun i hi=>by omega⟩,hb⟩
 .refine (NN F b o cap j k w m h.sz h.nil h.sz2 p).mono ?_
  rintro e w' ⟨s,d,f,rfl,l,hb⟩;obtain⟨c,lc,rfl⟩:=Zaz l.own;exact⟨c,lc,d,f,rfl,l.base (by omega),hb⟩
theorem PQ (bu cl be ba ca ji k s:Int)(af:Value)(w:World)(hb:1<=ba)(b:ba<=1048576)(g:ba<=ca)(c:ca<=1048576)(i:0<=ji)(d:ji<=1048576)
  (hk: -9223372036854775808<=k) (hk2:k<=9223372036854775807) (hs:0<=s) (hs2:s<=18446744073709551615) :
  Calls prog 103 #[ndV bu cl be ba ca ji af,.int .i64 k,.int .u64 s] w fun e w'=>e=.returned (.int .i64 (Zbs ba ca ji k s))/\ZY w w':=by
 go_enter func103,ntmps103
 go_wp2_with fail
 refine (OS bu cl be ba ca ji k s af _ hb b g c i d hk hk2 hs hs2).mono ?_;rintro e w' ⟨rfl,a⟩;have f:ZY w w':=(ZV.alloc ZU _).trans (a.mono (by simp));clear a;go_wp2_with fail
 go_ret
 exact⟨rfl,f⟩
theorem TA (bu cl be ba ca ji k s:Int)(af:Value)(w:World)(hb:1<=ba)(b:ba<=1048576)(g:ba<=ca)(c:ca<=1048576)(i:0<=ji)(d:ji<=1048576)
  (hk: -9223372036854775808<=k) (hk2:k<=9223372036854775807) (hs:0<=s) (hs2:s<=18446744073709551615) :
  Calls prog 62 #[ndV bu cl be ba ca ji af,.int .i64 k,.int .u64 s] w fun e w'=>e=.returned (.int .i64 (Zbs ba ca ji k s))/\ZY w w':=by
 go_enter func62,ntmps62
 go_wp2_with fail
 refine (PQ bu cl be ba ca ji k s af _ hb b g c i d hk hk2 hs hs2).mono ?_;rintro e w' ⟨rfl,a⟩;have f:ZY w w':=(ZV.alloc ZU _).trans (a.mono (by simp));clear a;go_wp2_with fail
 go_ret
 exact⟨rfl,f⟩
theorem SX (B x:Nat)(W:World):∀w',F8 B (W.alloc (.cells #[.int .i64 x] 3)) w'->Cx w' (some ⟨W.heap.size,0,none⟩) 1 1 (fun _=>(x:Int)):=by
 intro w' hf;have h:=hf.block (QFm W (.cells #[.int .i64 x] 3)) (by decide);obtain⟨a,_⟩:=Array.getElem?_eq_some_iff.1 h;refine Zj ⟨_,_,rfl,by omega,by decide,a,fun k hk=> ?_⟩;obtain rfl:k=0:=by omega
 exact Zae h 0
theorem SY (B x y:Nat)(W:World):∀w',F8 B (W.alloc (.cells #[.int .i64 x,.int .i64 y] 3)) w'->Cx w' (some ⟨W.heap.size,0,none⟩) 2 2 (fun k=>if k=0 then (x:Int) else y):=by
 intro w' hf;have h:=hf.block (QFm W (.cells #[.int .i64 x,.int .i64 y] 3)) (by decide);obtain⟨a,_⟩:=Array.getElem?_eq_some_iff.1 h;refine Zj ⟨_,_,rfl,by omega,by decide,a,fun k hk=> ?_⟩
 match k,hk with
 | 0,_=>exact Zae h 0
 | 1,_=>exact Zae h 1
theorem Zcj (B:Nat)(v:Value)(l:List Int)(x:Nat)(W:World)(d:x<=1048576)(hl:l.length<=1099511627776)(c:B<=W.heap.size)(h:Al B W v l) :
  Calls prog 212 #[v,.slice (some ⟨W.heap.size,0,none⟩) 1 1] (W.alloc (.cells #[.int .i64 x] 3)) fun e w'=>∃v',e=.returned v'/\Al B w' v' (l++Bp x)/\F8 B W w':=by
 refine (FW B v l (fun _=>x) (fun _=>(x:Int)) _ 1 1 _ (fun _ _=>rfl) (fun _ _=>by omega) (by omega) hl (by simp;omega) (h.below (ZV.alloc ZU _)) (SX B x W)).mono ?_;rintro e w' ⟨v',rfl,a,b⟩;exact⟨v',rfl,by simpa[Cw] using a,((F8.refl _ _).alloc c _).trans b⟩
theorem NG (B:Nat)(v:Value)(l:List Int)(x y:Nat)(W:World)(d:x<=1048576)(f:y<=1048576)(hl:l.length<=1099511627776)(c:B<=W.heap.size)(h:Al B W v l) :
  Calls prog 212 #[v,.slice (some ⟨W.heap.size,0,none⟩) 2 2] (W.alloc (.cells #[.int .i64 x,.int .i64 y] 3)) fun e w'=>∃v',e=.returned v'/\Al B w' v' ((l++Bp x)++Bp y)/\F8 B W w':=by
 refine (FW B v l (fun k=>if k=0 then x else y) (fun k=>if k=0 then (x:Int) else y) _ 2 2 _ (fun k _=>by split<;>rfl) (fun k _=>by show (if k=0 then x else y)<=_;split<;>omega) (by omega) hl (by simp;omega) (h.below (ZV.alloc ZU _)) (SY B x y W)).mono ?_;rintro e w' ⟨v',rfl,a,b⟩;exact⟨v',rfl,by simpa[Cw] using a,((F8.refl _ _).alloc c _).trans b⟩
def KK (g:Nat):Value:=.agg #[.pointer (some ⟨g,0,none⟩),.pointer (some ⟨g,1,none⟩),.pointer (some ⟨g,2,none⟩),.pointer (some ⟨g,3,none⟩),.pointer (some ⟨g,4,none⟩),.pointer (some ⟨g,5,none⟩)]
theorem six0 (g:Nat)(w:World):(QFr 359 (KK g) (.int .i64 0)).run prog w=.ok (.pointer (some ⟨g,0,none⟩)) w:=by kernel_rfl
theorem six1 (g:Nat)(w:World):(QFr 359 (KK g) (.int .i64 1)).run prog w=.ok (.pointer (some ⟨g,1,none⟩)) w:=by kernel_rfl
theorem six2 (g:Nat)(w:World):(QFr 359 (KK g) (.int .i64 2)).run prog w=.ok (.pointer (some ⟨g,2,none⟩)) w:=by kernel_rfl
theorem six3 (g:Nat)(w:World):(QFr 359 (KK g) (.int .i64 3)).run prog w=.ok (.pointer (some ⟨g,3,none⟩)) w:=by kernel_rfl
theorem six4 (g:Nat)(w:World):(QFr 359 (KK g) (.int .i64 4)).run prog w=.ok (.pointer (some ⟨g,4,none⟩)) w:=by kernel_rfl
theorem six5 (g:Nat)(w:World):(QFr 359 (KK g) (.int .i64 5)).run prog w=.ok (.pointer (some ⟨g,5,none⟩)) w:=by kernel_rfl
theorem FN (g:Nat)(w:World) :
  Calls prog 213 #[.pointer (some ⟨g,0,none⟩)] w fun e w'=>e=.returned (KK g)/\ZY w w':=by
 go_enter func213,ntmps213
 go_wp2_with fail
 go_region
 all_goals (go_wp2_with fail)
 exact bodyPost_ret (v:=KK g) (by simp[results,Tryz.results213,go_sem,KK]) rfl ⟨rfl,(ZV.alloc ZU _).drew⟩
theorem Lu (F:Ad)(B:Nat)(a:Option Addr)(lc:Nat)(d:Nat->Option Addr)(f:Nat->Nat)(w:World)(hn:F.n<=maxLen)(k:AP w)(hg:2<w.heap.size)
  (h:An B w F (.slice a F.n lc) F.n d f) :
  Calls prog 146 #[GL F.dl (.slice a F.n lc)] w fun e w'=>Hq F w w' e/\ZY w w':=by
 by_cases c:Cq F
 .rcases h.own.2 with⟨_,b⟩ | ⟨g,cap,cur,b,_⟩
  .exact absurd b (by have:=c.n1;omega)
  .obtain⟨i,_,j⟩:a=some ⟨g,0,none⟩/\F.n=F.n/\lc=cap:=by simpa using b
   subst i j;exact UB F g 0 lc d f w c h.lt.2 k hg h.node
 .exact Sl F a lc w hn c
def QY (F:Ad)(w w':World)(e:Ending):Prop :=
 (∃v,e=.returned (.tuple #[v,.nilIface])/\Cn F 0 (-1)/\Al w.heap.size w' v (Zat F)) \/
 (∃(x y:Int) (q:Nat),e=.returned (.tuple #[.slice none 0 0,.iface 172 (.pointer (some ⟨q,0,none⟩))])/\x≠0/\Cn F x y/\w.heap.size<=q/\q<w'.heap.size/\Bb w' q x y)
theorem chk0 {F:Ad}{a:Int}(h:Cn F 0 a):Cq F/\∀i,i<F.n->Cp F i:=by
 have hg:=h.AB
 have b:Cq F:=by
  rcases h with⟨h,_⟩ | ⟨h,_⟩ | ⟨h,_⟩ | ⟨h,_⟩ | ⟨_,_,b,_⟩
  .exact absurd h (by decide)
  .exact absurd h (by decide)
  .exact absurd h (by decide)
  .exact absurd h (by decide)
  .exact b
 exact⟨b,fun i hi=>Rv b (hg i hi).1 (hg i hi).2⟩
theorem NX (F:Ad)(B:Nat)(P:Option Addr)(lc:Nat)(Na:Nat->Option Addr)(Nc:Nat->Nat)(w:World)(hn:F.n<=maxLen)(hT:AP w)(hg:2<w.heap.size)
  (h:An B w F (.slice P F.n lc) F.n Na Nc) :
  Calls prog 144 #[GL F.dl (.slice P F.n lc)] w fun e w'=>QY F w w' e/\ZY w w':=by
 have HC:=Zz h;have HT:=Zz hT;clear h hT
 go_enter func144,ntmps144
 have br:=Zz (Xz.start w F P lc);have I:ZY w (w.alloc (.cells #[.int .i64 F.dl,.slice P F.n lc] 61)):=ZV.alloc ZU _;go_wp2_with fail
 refine (Lu F B P lc Na Nc _ hn (HT.o.Ak hg I) (by simp;omega) (HC.o.below I)).mono ?_;rintro e w1 ⟨dc,G⟩;have u:=Zz (br.o.Ak ((F8.Ae G ZU).mono (by simp)));clear I;rcases dc with⟨rfl,d⟩ | ⟨x,y,q,rfl,hx,d,dp,dr,de⟩
 case inr =>
  have HX:=Zz d;clear G d;go_wp2_with fail
  go_ret2
  exact⟨Zj ⟨x,y,q,rfl,hx,HX.o,by simp at dp;omega,dr,de⟩,u.o.f.bl⟩
 have HX:=Zz d;obtain⟨⟨t1,t2,t3,t4⟩,bo⟩:=chk0 d;have ax:=Zz bo;clear G d bo
 obtain⟨g,rfl,dh⟩:∃g,P=some ⟨g,0,none⟩/\g<w.heap.size:=by
  rcases HC.o.own.2 with⟨_,h2⟩ | ⟨g,cap,cur,h2,_,hh,_⟩
  .omega
  .obtain⟨h7,_,h8⟩:P=some ⟨g,0,none⟩/\F.n=F.n/\lc=cap:=by simpa using h2
   obtain⟨dj,_⟩:=Array.getElem?_eq_some_iff.1 hh;exact⟨g,h7,dj⟩
 have au:Hid (∀i,i<F.n->DX w F i g (i * 7) (Na i) (Nc i)):=Zz fun i hi=>by have:=HC.o.node i hi;rwa[Nat.zero_add] at this
 clear HC;have dd:∃x:Nat,F.dl=x/\x<=1048576/\F.dl.toNat=x:=⟨F.dl.toNat,by omega,by omega,rfl⟩;obtain⟨xd,dw,fh,bp⟩:=dd;have fw:=Zax (n:=xd) (by omega);have fy:=Zax (n:=F.n) (by omega);have d0:=Zae u.o.b 0;have d1:=Zae u.o.b 1;have du:=u.o.lt;rw[dw] at d0;go_wp2_with fail
 refine (NG w.heap.size _ [] xd F.n _ (by omega) (by omega) (by simp) (by omega) (Al.nil _ _)).mono ?_;rintro e w2 ⟨v2,rfl,c,hf⟩;have cq:Hid (Al w.heap.size w2 v2 ((Bp xd++Bp F.n)++CJ F 0)):=Zz (by simpa[CJ] using c);have R:=Zz (u.o.Ak hf);clear c hf d0 d1 du;have d1:=Zae R.o.b 1;go_wp2_with fail
 clear d1
 go_loopw [5,25] (fun vv iv wr=>∃k:Nat,iv=.int .i64 k/\k<=F.n/\Al w.heap.size wr vv ((Bp xd++Bp F.n)++CJ F k)/\Xz w wr F (some ⟨g,0,none⟩) lc) (fun _ iv _=>F.n - (intOf iv).toNat)
 case atStart=>exact⟨0,rfl,by omega,cq.o,R.o⟩
 case round =>
  obtain⟨k,rfl,hk,E,D⟩:=hrel
  rename World=>t
  have bh:=Zz E;have z:=Zz D;have gd:=z.o.lt;have gb:=Kk (F:=F) (k:=k) fun i hi=>ax.o i (by omega)
  clear E D;by_cases h1:k<F.n
  .have a:=ax.o k h1
   obtain⟨x0,J,gv,dy⟩:∃x:Nat,F.bu k=x/\x<=1048576/\(F.bu k).toNat=x:=⟨(F.bu k).toNat,a.bu.1,a.bu.2,rfl⟩;have fi:=Zax (n:=x0) (by omega);obtain⟨x1,K,gw,ee⟩:∃x:Nat,F.cl k=x/\x<=1048576/\(F.cl k).toNat=x:=⟨(F.cl k).toNat,a.cl.1,a.cl.2,rfl⟩;have fj:=Zax (n:=x1) (by omega);obtain⟨x2,L,gx,eg⟩:∃x:Nat,F.be k=x/\x<=1048576/\(F.be k).toNat=x:=⟨(F.be k).toNat,a.be.1,a.be.2,rfl⟩;have fm:=Zax (n:=x2) (by omega);obtain⟨x3,M,gy,ei⟩:∃x:Nat,F.ba k=x/\x<=1048576/\(F.ba k).toNat=x:=⟨(F.ba k).toNat,a.ba.1,a.ba.2,rfl⟩;have fq:=Zax (n:=x3) (by omega);obtain⟨x4,N,gz,ep⟩:∃x:Nat,F.ca k=x/\x<=1048576/\(F.ca k).toNat=x:=⟨(F.ca k).toNat,a.ca.1,a.ca.2,rfl⟩;have fs:=Zax (n:=x4) (by omega);obtain⟨x5,O,ie,ey⟩:∃x:Nat,F.ji k=x/\x<=1048576/\(F.ji k).toNat=x:=⟨(F.ji k).toNat,a.ji.1,a.ji.2,rfl⟩;have ft:=Zax (n:=x5) (by omega);have ez:=a.an;have fv:=Zax (n:=F.an k) (by omega);obtain⟨n0,n1,n2,n3,n4,n5,n6,ni⟩:=(au.o k h1).Ak dh z.o.f.bl;have cm:=Zz ((au.o k h1).ints);have aw:=Zz a;clear a ni;rw[J] at n0;rw[K] at n1;rw[L] at n2;rw[M] at n3;rw[N] at n4;rw[O] at n5
   have ck:Hid (DY (t.alloc (.cells #[.int .i64 x0,.int .i64 x1,.int .i64 x2,.int .i64 x3,.int .i64 x4,.int .i64 x5,.slice (Na k) (F.an k) (Nc k)] 130)) t.heap.size F k (Na k) (Nc k)):=Zz (by
    unfold DY Zd8;rw[J,K,L,M,N,O];exact QFm _ _)
   have bw:Hid (∀ob,F8 w.heap.size t (t.alloc ob)):=Zz fun ob=>(F8.refl _ _).alloc (by omega) _
   have bj:Hid (∀ob,Al w.heap.size (t.alloc ob) _ _):=Zz fun ob=>bh.o.below (ZV.alloc ZU _);go_wp2_with fail
   refine (FN t.heap.size _).mono ?_;rintro e w4 ⟨rfl,H⟩;have hf:=F8.Ae H (B:=w.heap.size) (by simp;omega);have cr:=Zz ((bj.o _).below H);have S:=Zz ((z.o.Ak (bw.o _)).Ak hf);have Z:=Zz (ck.o.Ak hf);have gh:=S.o.lt;obtain⟨q0,q1,j,l,p,r,s⟩:=Z.o.cells;rw[J] at q0;clear H hf n0 n1 n2 n3 n4 n5 n6 q1 j l p r s;have i0:=six0 t.heap.size;have i1:=six1 t.heap.size;have i2:=six2 t.heap.size;have i3:=six3 t.heap.size;have i4:=six4 t.heap.size;have i5:=six5 t.heap.size
   generalize KK t.heap.size=pv at i0 i1 i2 i3 i4 i5
   go_wp2_with fail
   refine wp_loop_rounds 7 ?_;rw[QGv];go_wp2_with fail
   refine (Zcj w.heap.size _ _ x0 _ (by omega) (by simp only[ZX];omega) (by omega) cr.o).mono ?_;rintro e w5 ⟨v5,rfl,c,hf⟩;have cu:=Zz c;have T:=Zz (S.o.Ak hf);have ae:=Zz (Z.o.Ak hf);have gi:=T.o.lt;clear c hf q0;obtain⟨q0,q1,j,l,p,r,s⟩:=ae.o.cells;rw[K] at q1;clear q0 j l p r s;go_wp2_with fail
   rw[QGv];go_wp2_with fail
   refine (Zcj w.heap.size _ _ x1 _ (by omega) (by simp only[ZX];omega) (by omega) cu.o).mono ?_;rintro e w6 ⟨v6,rfl,c,hf⟩;have cy:=Zz c;have U:=Zz (T.o.Ak hf);have ag:=Zz (ae.o.Ak hf);have gm:=U.o.lt;clear c hf q1;obtain⟨q0,q1,j,l,p,r,s⟩:=ag.o.cells;rw[L] at j;clear q0 q1 l p r s;go_wp2_with fail
   rw[QGv];go_wp2_with fail
   refine (Zcj w.heap.size _ _ x2 _ (by omega) (by simp only[ZX];omega) (by omega) cy.o).mono ?_;rintro e w7 ⟨v7,rfl,c,hf⟩;have cz:=Zz c;have V:=Zz (U.o.Ak hf);have aj:=Zz (ag.o.Ak hf);have gp:=V.o.lt;clear c hf j;obtain⟨q0,q1,j,l,p,r,s⟩:=aj.o.cells;rw[M] at l;clear q0 q1 j p r s;go_wp2_with fail
   rw[QGv];go_wp2_with fail
   refine (Zcj w.heap.size _ _ x3 _ (by omega) (by simp only[ZX];omega) (by omega) cz.o).mono ?_;rintro e w8 ⟨v8,rfl,c,hf⟩;have da:=Zz c;have W:=Zz (V.o.Ak hf);have al:=Zz (aj.o.Ak hf);have gq:=W.o.lt;clear c hf l;obtain⟨q0,q1,j,l,p,r,s⟩:=al.o.cells;rw[N] at p;clear q0 q1 j l r s;go_wp2_with fail
   rw[QGv];go_wp2_with fail
   refine (Zcj w.heap.size _ _ x4 _ (by omega) (by simp only[ZX];omega) (by omega) da.o).mono ?_;rintro e w9 ⟨v9,rfl,c,hf⟩;have db:=Zz c;have X:=Zz (W.o.Ak hf);have ar:=Zz (al.o.Ak hf);have gu:=X.o.lt;clear c hf p;obtain⟨q0,q1,j,l,p,r,s⟩:=ar.o.cells;rw[O] at r;clear q0 q1 j l p s;go_wp2_with fail
   rw[QGv];go_wp2_with fail
   refine (Zcj w.heap.size _ _ x5 _ (by omega) (by simp only[ZX];omega) (by omega) db.o).mono ?_;rintro e im ⟨v10,rfl,c,hf⟩;have ay:=Zz c;have A:=Zz (X.o.Ak hf);have C:=Zz (ar.o.Ak hf);have fe:=A.o.lt;clear c hf r;obtain⟨q0,q1,j,l,p,r,s⟩:=C.o.cells;clear q0 q1 j l p r;go_wp2_with fail
   rw[QGv];go_wp2_with fail
   refine (Zcj w.heap.size _ _ (F.an k) _ (by omega) (by simp only[ZX];omega) (by omega) ay.o).mono ?_;rintro e KT ⟨v11,rfl,c,hf⟩;have az:=Zz c;have v:=Zz (A.o.Ak hf);have Y:=Zz (C.o.Ak hf);have fg:=v.o.lt;clear c hf s;obtain⟨q0,q1,j,l,p,r,s⟩:=Y.o.cells;clear q0 q1 j l p r;go_wp2_with fail
   refine (FW w.heap.size _ _ (fun m=>(F.af k m).toNat) (F.af k) _ _ _ _ (fun m hm=>(aw.o.af m hm).1) (fun m hm=>by have:=(aw.o.af m hm).2;omega) (by omega) (by simp only[ZX];omega) (by omega) az.o (fun w' hf=>cm.o.Ak (v.o.f.bl.trans hf.bl))).mono ?_;rintro e iq ⟨v12,rfl,c,hf⟩;have bf:=Zz c;have Q:=Zz (v.o.Ak hf);clear c hf s;go_wp2_with fail
   go_roundw
   case rel =>
    refine⟨k+1,by go_num,by omega,?_,Q.o⟩;have:=bf.o;simp only[CJ,Kj,dy,ee,eg,ei,ep,ey];simp only[QHz] at this ⊢;exact this
   case measure=>simp[intOf];omega
  .obtain rfl:k=F.n:=by omega
   go_wp2_with fail
   go_ret2
   exact⟨Zu ⟨_,rfl,HX.o,by rw[Zat,bp];exact bh.o⟩,z.o.f.bl⟩
def Sp (w wx:World)(F:Ad)(g:Nat)(Na:Nat->Option Addr):Prop :=
 ∀z,z<w.heap.size->z≠g->(∀i,i<F.n->F.an i≠0->Na i≠some ⟨z,0,none⟩)->wx.heap[z]? =w.heap[z]?
theorem Sp.alloc (w:World)(o:Obj)(F:Ad)(g:Nat)(a:Nat->Option Addr):Sp w (w.alloc o) F g a:=fun z b _ _=>((Zk _ w).alloc ZU o).block z b
theorem Sp.EA {w wx:World}{F:Ad}{g:Nat}{a:Nat->Option Addr}(h:Sp w wx F g a)(o:Nat)(v:Value):Sp w (wx.setCell ⟨g,o,none⟩ v) F g a:=fun z b hg hn =>
 (Zl wx ⟨g,o,none⟩ v z hg).trans (h z b hg hn)
theorem Sp.setA {w wx:World}{F:Ad}{g:Nat}{a:Nat->Option Addr}(h:Sp w wx F g a){k ab:Nat}(hk:k<F.n)(hm:F.an k≠0)(b:a k=some ⟨ab,0,none⟩)(o:Nat)(v:Value):Sp w (wx.setCell ⟨ab,o,none⟩ v) F g a:=fun z c hg hn =>
 (Zl wx ⟨ab,o,none⟩ v z (fun e=>hn k hk hm (by rw[b,e]))).trans (h z c hg hn)
theorem QS (F:Ad)(B g cap:Nat)(j:Nat->Option Addr)(x:Nat->Nat)(w:World)(W:B<=w.heap.size)(y:F.n<=maxLen)(R:Cj B w F g 0 j x)(c:g<w.heap.size) :
  Calls prog 65 #[GL F.dl (.slice (some ⟨g,0,none⟩) F.n cap)] w fun e w'=>e=.returned (.tuple #[])/\Below B w w'/\Sp w w' F g j:=by
 unfold maxLen at y;have O:=Zz R;clear R
 go_enter func65,ntmps65
 go_wp2_with fail
 go_loopw [7] (fun M wx=>∃k:Nat,k<=F.n/\M=.int .i64 k/\Cj B wx F g k j x/\wx.cell? ⟨w.heap.size,1,none⟩=some (.slice (some ⟨g,0,none⟩) F.n cap)/\w.heap.size<wx.heap.size/\Below B w wx/\Sp w wx F g j) (fun M _=>F.n - (intOf M).toNat)
 case atStart=>exact⟨0,by omega,rfl,O.o.below rfl (ZV.alloc ZU _),by simp,by simp,ZV.alloc W _,Sp.alloc _ _ _ _ _⟩
 case round =>
  obtain⟨k,hk,rfl,A,c1,i,b,f⟩:=hrel;have s:=Zz f;clear f
  rename World=>w1
  have t:=Zz A;clear A;by_cases d:k<F.n
  .have n6:=t.o.af k ZU d
   go_wp2_with fail
   go_loopw [17] (fun N wx=>∃m:Nat,m<=F.an k/\N=.int .i64 m/\Cj B wx F g k j x/\wx.cell? ⟨w.heap.size,1,none⟩=some (.slice (some ⟨g,0,none⟩) F.n cap)/\w.heap.size<wx.heap.size/\Below B w wx/\Sp w wx F g j) (fun N _=>F.an k - (intOf N).toNat)
   case atStart=>exact⟨0,by omega,rfl,t.o,c1,i,b,s.o⟩
   case round =>
    clear n6 c1 i b;obtain⟨m,hm,rfl,a,c1,i,b,f⟩:=hrel;have l:=Zz f;clear f
    rename World=>p
    have n6:=a.af k ZU d;by_cases H:m<F.an k
    .obtain⟨ab,E,I,J,X,K,r⟩:=(a.it k d).resolve_left (by omega)
     obtain⟨G,q,_,_,_,_,Q⟩:=(O.o.it k d).resolve_left (by omega);obtain rfl:ab=G:=by rw[E] at q;simpa using q
     obtain⟨uw,C⟩:=Option.isSome_iff_exists.1 (Q m H).1;have L:=QDv _ _ C;simp only at L;obtain⟨u,hu⟩:=Option.isSome_iff_exists.1 (r m H).1;have fu:=(r m H).2;rw[E] at n6;unfold maxLen at K
     have z:Hid (∀v,Cj B (p.setCell ⟨ab,m,none⟩ v) F g k j x/\(p.setCell ⟨ab,m,none⟩ v).cell? ⟨w.heap.size,1,none⟩=some (.slice (some ⟨g,0,none⟩) F.n cap)/\w.heap.size<(p.setCell ⟨ab,m,none⟩ v).heap.size/\Below B w (p.setCell ⟨ab,m,none⟩ v)/\Sp w (p.setCell ⟨ab,m,none⟩ v) F g j):=Zz fun v =>
      ⟨a.set J v,(QEc (w:=p) (Zl p ⟨ab,m,none⟩ v w.heap.size (by simp;omega))).trans c1,by simpa[QDw] using i,b.setCell I v,l.o.setA d (by omega) E m v⟩
     clear E q Q C a r b;go_wp2_with fail
     go_roundw
     case rel=>exact⟨m+1,by omega,by go_num,z.o _⟩
     case measure=>simp[intOf];omega
    .obtain rfl:m=F.an k:=by omega
     obtain⟨q0,Y⟩:=a.wr k d 0 (by omega);obtain⟨q1,p1⟩:=a.wr k d 1 (by omega);obtain⟨S,p2⟩:=a.wr k d 2 (by omega);obtain⟨T,p3⟩:=a.wr k d 3 (by omega);obtain⟨U,p4⟩:=a.wr k d 4 (by omega);obtain⟨V,p5⟩:=a.wr k d 5 (by omega);obtain⟨x0,Z⟩:=Option.isSome_iff_exists.1 q0;obtain⟨x1,y1⟩:=Option.isSome_iff_exists.1 q1;obtain⟨x2,y2⟩:=Option.isSome_iff_exists.1 S;obtain⟨x3,y3⟩:=Option.isSome_iff_exists.1 T;obtain⟨x4,y4⟩:=Option.isSome_iff_exists.1 U;obtain⟨x5,y5⟩:=Option.isSome_iff_exists.1 V;obtain⟨_,p6⟩:=a.wr k d 6 (by omega);simp only[Nat.add_zero] at Z Y;have P:Re B w p F g cap k j x:=⟨a,c1,i,b⟩;have D:=Zz (((((((P.node (k':=k+1) c k (k * 7) (by omega) (by omega) (by omega) (.int .i64 0)).node (k':=k+1) c k (k * 7+1) (by omega) (by omega) (by omega) (.int .i64 0)).node (k':=k+1) c k (k * 7+2) (by omega) (by omega) (by omega) (.int .i64 0)).node (k':=k+1) c k (k * 7+3) (by omega) (by omega) (by omega) (.int .i64 0)).node (k':=k+1) c k (k * 7+4) (by omega) (by omega) (by omega) (.int .i64 0)).node (k':=k+1) c k (k * 7+5) (by omega) (by omega) (by omega) (.int .i64 0)).node (k':=k+1) c k (k * 7+6) (by omega) (by omega) (by omega) (.slice none 0 0));clear a b P q0 q1 S T U V;go_wp2_with fail
     go_roundw
     case rel=>exact⟨k+1,by omega,by go_num,D.o.at',D.o.c1,D.o.sz,D.o.bl,(((((((l.o.EA _ _).EA _ _).EA _ _).EA _ _).EA _ _).EA _ _).EA _ _)⟩
     case measure=>simp[intOf];omega
  .go_wp2_with fail
   go_end0
   exact⟨rfl,b,s.o⟩
theorem Mk (F:Ad)(B:Nat)(c:Option Addr)(lc:Nat)(f:Nat->Option Addr)(j:Nat->Nat)(d w:World)(y:B<=d.heap.size)(hn:F.n<=maxLen)(h:An B d F (.slice c F.n lc) F.n f j)(a:ZY d w) :
  Calls prog 65 #[GL F.dl (.slice c F.n lc)] w fun e w'=>e=.returned (.tuple #[])/\Below B w w'/\∀z,d.heap.size<=z->z<w.heap.size->w'.heap[z]? =w.heap[z]? :=by
 by_cases u:F.n=0
 .refine (TO F c lc w u).mono ?_
  rintro e w' ⟨rfl,hb⟩;exact⟨rfl,hb.mono (Zv y a.size),fun z _ E=>hb.block z E⟩
 .have v:=h.below a
  rcases h.own.2 with⟨_,k⟩ | ⟨g,cap,cur,k,A,hh,_⟩
  .exact absurd k u
  .obtain⟨m,_,x⟩:c=some ⟨g,0,none⟩/\F.n=F.n/\lc=cap:=by simpa using k
   subst m x;have C:=h.lt.2;have H:=a.size;refine (QS F B g lc f j w (by omega) hn v.turn v.lt.2).mono ?_;rintro e w' ⟨rfl,hb,q⟩;refine⟨rfl,hb,fun z G r=>q z r (by omega) fun i hi o e=> ?_⟩;rcases (h.DW i hi).2 with⟨_,l⟩ | ⟨t,b,s,l,_,p,_⟩
   .exact o l
   .obtain⟨m,_,_⟩:f i=some ⟨t,0,none⟩/\F.an i=F.an i/\j i=b:=by simpa using l
    rw[m] at e;obtain rfl:t=z:=by simpa using e
    obtain⟨D,_⟩:=Array.getElem?_eq_some_iff.1 p;omega
theorem Iq {w w':World}{N:Nat}{e:TypeId}{size n:Nat}{v:Value}{xs:List Value}(h:w.ownsRow N e size v n xs)(hk:∀z,N<=z->z<w.heap.size->w'.heap[z]? =w.heap[z]?):w'.ownsRow N e size v n xs:=by
 obtain⟨c,a⟩:=h;refine⟨c,?_⟩;rcases a with a | ⟨g,cap,cur,rfl,hg,hh,d⟩
 .exact Zu a
 .obtain⟨b,_⟩:=Array.getElem?_eq_some_iff.1 hh
  exact Zj ⟨g,cap,cur,rfl,hg,(hk g hg b).trans hh,d⟩
theorem Bb.spare {w w':World}{N q:Nat}{x y:Int}(h:Bb w q x y)(c:N<=q)(b:q<w.heap.size)(hk:∀z,N<=z->z<w.heap.size->w'.heap[z]? =w.heap[z]?):Bb w' q x y :=
 ⟨(QEc (a:=⟨q,0,none⟩) (hk q c b)).trans h.1,(QEc (a:=⟨q,1,none⟩) (hk q c b)).trans h.2⟩
theorem MB (F:Ad)(B:Nat)(k:Option Addr)(lc:Nat)(m:Nat->Option Addr)(p:Nat->Nat)(w:World)(hn:F.n<=maxLen)(r:AP w)(hg:2<w.heap.size)
  (h:An B w F (.slice k F.n lc) F.n m p) :
  Calls prog 100 #[GL F.dl (.slice k F.n lc)] w fun e w'=>QY F w w' e/\ZY w w':=by
 have c:Hid (∀o,ZY w (w.alloc o)):=Zz fun o=>ZV.alloc ZU _;have H:=Zz h;have s:=Zz r;clear h r
 go_enter func100,ntmps100
 go_wp2_with fail
 refine (NX F B k lc m p _ hn (s.o.Ak hg (c.o _)) (by simp;omega) (H.o.below (c.o _))).mono ?_;rintro e w' ⟨j,hb⟩;have l:ZY w w':=(c.o _).trans (hb.mono (by simp));clear hb;rcases j with⟨v,rfl,a,b⟩ | ⟨x,y,q,rfl,j,a,g,i,f⟩
 .have d:=Zz (Zq a b)
  clear a b;go_wp2_with fail
  go_ret2
  exact⟨Zu ⟨v,rfl,d.o.1,Zcs d.o.2 (by simp)⟩,l⟩
 .have d:=Zz a
  clear a;go_wp2_with fail
  go_ret2
  exact⟨Zj ⟨x,y,q,rfl,j,d.o,by simp at g;omega,i,f⟩,l⟩
def EncIs (F:Ad)(N:Nat)(w':World)(e:Ending):Prop :=
 ∃(v:Value) (x y:Int) (l:List Int),e=.returned (.tuple #[v,.int .i64 x,.int .i64 y])/\Cn F x y/\Al N w' v l/\(x=0->l=Zat F)/\(x≠0->l=[]/\v=.slice none 0 0)
theorem IZ (F:Ad)(a:Option Addr)(cap:Nat)(O:Nat->Option Addr)(P:Nat->Nat)(w:World)(h:FR w F a cap O P)(Q:Ay w) :
  Calls prog 59 #[GL F.dl (.slice a F.n cap)] w fun e w'=>EncIs F w.heap.size w' e/\ZY w w':=by
 have z:Hid (∀o,ZY w (w.alloc o)):=Zz fun o=>ZV.alloc ZU _;have H:=Zz h;have U:=Zz Q;clear h Q
 go_enter func59,ntmps59
 go_wp2_with fail
 refine (Py F a cap O P _ (H.o.Ak (z.o _))).mono ?_;rintro e j ⟨A,lc,G,I,rfl,R,hb⟩;have p:Hid (ZY w j):=Zz ((z.o _).trans (hb.mono (by simp)));have S:w.heap.size+1<=j.heap.size:=by have:=hb.size;simpa using this
 have D:=Zz R;clear R hb;go_wp2_with fail
 have f:ZY j (j.alloc (.cells #[.int .i64 F.dl,.slice A F.n lc] 61)):=ZV.alloc ZU _;refine (MB F _ A lc G I _ H.o.len ((H.o.Ix.Ak H.o.WV p.o).Ak (by have:=H.o.WV;omega) f) (by have:=H.o.WV;simp;omega) (D.o.below f)).mono ?_;rintro e r ⟨M,l⟩;have c:Hid (ZY j r):=Zz (f.trans (l.mono (by simp)));have d0:r.cell? ⟨j.heap.size,0,none⟩=some (.int .i64 F.dl):=cell_later l (by simp);have d1:r.cell? ⟨j.heap.size,1,none⟩=some (.slice A F.n lc):=cell_later l (by simp);have T:j.heap.size<=r.heap.size:=c.o.size;clear l f;rcases M with⟨v,rfl,d,m⟩ | ⟨x,y,q,rfl,M,d,J,K,t⟩
 .have B:=Zz (Zq d m)
  clear d m;go_wp2_with fail
  refine (Mk F _ A lc G I j r (by simp;omega) H.o.len D.o c.o).mono ?_;rintro e s ⟨rfl,g,k⟩;have b:Hid (ZY w s):=Zz ((p.o.trans (c.o.mono (by omega))).trans (g.mono (by simp)));have V:Hid (Al j.heap.size s v (Zat F)):=Zz (Iq (Zcs B.o.2 (by simp)) k);clear g k d0 d1;go_wp2_with fail
  refine (KR _).mono ?_;rintro e w4 ⟨rfl,i⟩;have C:ZY w w4:=b.o.trans (i.mono b.o.size);have E:=Zz (Zcs (V.o.below i) (B':=w.heap.size) (by omega));clear i;go_wp2_with fail
  go_ret3
  exact⟨⟨v,0,-1,Zat F,rfl,B.o.1,E.o,fun _=>rfl,fun h=>absurd rfl h⟩,C⟩
 .have B:=Zz d
  clear d;go_wp2_with fail
  refine (Mk F _ A lc G I j r (by simp;omega) H.o.len D.o c.o).mono ?_;rintro e s ⟨rfl,g,k⟩;have b:Hid (ZY w s):=Zz ((p.o.trans (c.o.mono (by omega))).trans (g.mono (by simp)));have u:Bb s q x y:=t.spare (N:=j.heap.size) (by simp at J;omega) K k;have L:q<s.heap.size:=by have:=g.size;omega
  clear g k d0 d1 t;go_wp2_with fail
  refine (KQ q x y _ u L (U.o.Ak b.o)).mono ?_;rintro e w4 ⟨rfl,i⟩;have C:ZY w w4:=b.o.trans (i.mono b.o.size);clear i;go_wp2_with fail
  go_ret3
  exact⟨⟨.slice none 0 0,x,y,[],rfl,B.o,Al.nil _ _,fun h=>absurd h M,fun _=>⟨rfl,rfl⟩⟩,C⟩
