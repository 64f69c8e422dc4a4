import Derived.Test.YtgdcjccbdmcebaaGreatDoorM03
import Derived.Test.YtgdcjccbdmcebaaGreatDoorM05
import Derived.Test.YtgdcjccbdmcebaaGreatDoorM10
import Derived.Lib.IfaceEq
import Derived.Test.YtgdcjccbdmcebaaGreatDoorRows
import Derived.ProofKit
import Derived.LaidHandle
import Derived.Lib.LaidTab
set_option linter.all false
set_option maxHeartbeats 8000000
set_option maxRecDepth 100000
open Go.Proofs.Tryz
open Go.World renaming frozen?_of_block->QDx,block_lt_of_cell?->QDv,cell?_of_block->QEc,cell?_alloc_lt->QEb
open Int renaming ofNat->QHu,le_refl->QCm
open List renaming replicate->QAw,flatMap_def->QHv,range->QAr,range_succ->QHw,length_set->QAo,findIdx?_cons->QHx,findIdx?_eq_some_iff_getElem->QCz
namespace Go.Proofs.YtgdcjccbdmcebaaGreatDoor
open Go.RowKit Go.Extern.Stop Go.Stop Go.Extern
theorem Hg (w:World):((ReflectliteType.method fun t=>do Rtype.noPackHeld "Comparable" t;Functor.map (fun a=>Value.bool a.comparable) (typeInfo t)) #[.agg #[.pointer (some ⟨4,32,none⟩)]]).run prog w=.ok (.bool true) w:=by kernel_rfl
theorem Nk:(prog.info? 32).map (·.comparable)=some true:=by kernel_rfl
theorem Vn (q:Nat)(x y:Int)(w:World)(h:Bb w q x y) :
  Calls prog 84 #[.iface 172 (.pointer (some ⟨q,0,none⟩)),.iface 32 (.int .i64 x)] w fun e w'=>e=.returned (.bool true)/\w'=w:=by
 obtain⟨d,f⟩:=h;have g:=@run_callFunc_extern prog 136 _ ReflectliteType.typeOf func136 (by kernel_rfl) (by kernel_rfl) (by kernel_rfl) (by kernel_rfl);have a:=@run_callFunc_extern prog 353 _ (ReflectliteType.method fun t=>do Rtype.noPackHeld "Comparable" t;pure (.bool (<-typeInfo t).comparable)) func353 (by kernel_rfl) (by kernel_rfl) (by kernel_rfl) (by kernel_rfl);have m:=Hh;have c:=Hg;have i:=Zdw;have l:=s_noIs;have n:=OT;have j:=KD;have heq:=Go.Lib.run_eql_iface_int (P:=prog) w (k:=.i64) x x underlying98 Nk underlying32;have b:=run_eql_iface_types (P:=prog) 172 32 (.pointer (some ⟨q,0,none⟩)) (.int .i64 x) underlying98 (by decide) w
 go_enter func84,ntmps84
 go_wp2
 refine wp_loop_rounds 2 ?_;rw[rounds_succ]
 go_wp2
 rw[rounds_succ]
 go_wp2
 go_ret
 exact⟨rfl,rfl⟩
theorem KR (w:World) :
  Calls prog 40 #[.nilIface] w fun e w'=>e=.returned (.tuple #[.int .i64 0,.int .i64 (-1)])/\ZY w w':=by
 go_enter func40,ntmps40
 go_wp2
 go_ret2
 exact⟨rfl,(ZV.alloc ZU _).alloc (by simp) _⟩
def Ay (w:World):Prop:=w.cell? ⟨0,0,none⟩=some (.iface 340 (.agg #[.pointer (some ⟨4,98,none⟩)]))
theorem Ay.Ak {w w':World}(h:Ay w)(hb:ZY w w'):Ay w' :=
 (hb.cell (p:=⟨0,0,none⟩) (QDv _ _ h)).trans h
theorem Sf (w:World)(B:Nat)(e:Addr)(t:Nat)(a:B<=t)(b:t<w.heap.size):Below B w (asW w e ⟨t,0,none⟩):=by
 unfold asW;refine Below.setCell (Below.alloc (Below.alloc (Below.alloc (Below.alloc ZV ?_ _) ?_ _) ?_ _) ?_ _) ?_ _
 .omega
 .simp;omega
 .simp;omega
 .simp;omega
 .exact a
theorem Uu (w:World)(e:Addr)(t:Nat)(old:Value)(h:w.cell? ⟨t,0,none⟩=some old):(asW w e ⟨t,0,none⟩).cell? ⟨t,0,none⟩=some (.pointer (some e)):=by
 have a:t<w.heap.size:=QDv _ _ h;unfold asW;refine World.cell?_setCell_same _ _ _ (u:=old) ?_;rw[QEb _ _ ⟨t,0,none⟩ (by simp;omega),QEb _ _ ⟨t,0,none⟩ (by simp;omega),QEb _ _ ⟨t,0,none⟩ (by simp;omega),QEb _ _ ⟨t,0,none⟩ a];exact h
theorem KQ (q:Nat)(x y:Int)(w:World)(h:Bb w q x y)(j:q<w.heap.size)(hg:Ay w) :
  Calls prog 40 #[.iface 172 (.pointer (some ⟨q,0,none⟩))] w fun e w'=>e=.returned (.tuple #[.int .i64 x,.int .i64 y])/\ZY w w':=by
 have H:=Zz h;have i:=Zz hg;clear h hg;have hk:Hid (∀a b,ZY w ((w.alloc a).alloc b)):=Zz fun a b=>(ZV.alloc ZU _).alloc (by simp) _
 go_enter func40,ntmps40
 go_wp2_with fail
 refine (as_hit _ _ (.pointer none) _ (i.o.Ak (hk.o _ _)) (by simp) (by simp)).mono ?_;rintro e g ⟨rfl,d⟩;have f:ZY w g:=by rw[d];exact (hk.o _ _).trans (Sf _ _ _ _ ZU (by simp;omega))
 have c1:g.cell? ⟨w.heap.size,0,none⟩=some (.pointer (some ⟨q,0,none⟩)):=by rw[d];exact Uu _ _ _ (.pointer none) (by simp)
 have c:=H.o.Ak j f;have f0:=c.1;have f1:=c.2;have HF:=Zz c;clear d c;go_wp2_with fail
 refine (Vn q x y _ HF.o).mono ?_;rintro e k ⟨rfl,rfl⟩;go_wp2_with fail
 go_quiet (fail)
 go_wp2_with fail
 go_ret2
 exact⟨rfl,below_drewN f _⟩
open Go.RowKit
attribute [local go_sem ↓] Go.wp_at_zero Go.wp_at_succ
def Am (rs:List Aq)(i:Nat):Aq:=rs.getD i .z
structure Cd (qh:Nat)(w:World)(P B:Nat)(ka:Option Addr)(kc:Nat)(rs:List Aq):Prop where
 c:w.cell? ⟨P,4,none⟩=some (.slice ka rs.length kc)
 fz:∀o,w.frozen? ⟨P,o,none⟩=false
 row:BA w B 266 1 Ln ka kc rs
 runs:∀i,i<rs.length->AR qh w B (Am rs i)
 bA:∀i j,i<rs.length->j<rs.length->(Am rs i).b=(Am rs j).b->i=j
 gA:∀i j,i<rs.length->j<rs.length->(Am rs i).ng=(Am rs j).ng->i=j
 pb:P<B
 bs:B<=w.heap.size
 Br:rs.length<=6
theorem Cd.Cv {qh:Nat}{w w':World}{P B:Nat}{b:Option Addr}{d:Nat}{rs:List Aq}(h:Cd qh w P B b d rs)(m:w.heap.size<=w'.heap.size)(j:w'.cell? ⟨P,4,none⟩=w.cell? ⟨P,4,none⟩)(hf:∀o,w'.frozen? ⟨P,o,none⟩=w.frozen? ⟨P,o,none⟩)
  (hb:∀k cs t fr,B<=k->w.heap[k]? =some (.cells cs t fr)->(t=266\/t=272\/t=276\/t=3)->w'.heap[k]? =w.heap[k]?):Cd qh w' P B b d rs:=by
 refine⟨j.trans h.c,fun o=>(hf o).trans (h.fz o),?_,fun i hi=>(h.runs i hi).Cv (fun k cs t fr e a f=>hb k cs t fr e a (Zj f)),h.bA,h.gA,h.pb,Zv h.bs m,h.Br⟩;refine⟨h.row.1,?_⟩;rcases h.row.2 with a | ⟨g,cap,cur,a,hg,hh,l⟩
 .exact Zu a
 .exact Zj ⟨g,cap,cur,a,hg,(hb g cur _ (0,0) hg hh (Zu rfl)).trans hh,l⟩
theorem Cd.below {qh:Nat}{w w':World}{P B:Nat}{c:Option Addr}{d:Nat}{rs:List Aq}(h:Cd qh w P B c d rs)(hb:ZY w w'):Cd qh w' P B c d rs:=by
 have b:P<w.heap.size:=Zy h.pb h.bs;exact h.Cv hb.size (QEc (a:=⟨P,4,none⟩) (hb.block P b)) (fun o=>QDx (a:=⟨P,o,none⟩) (hb.block P b)) (fun k _ _ _ _ e _=>hb.block k (Zaa e))
theorem Cd.ptr {qh:Nat}{w:World}{P B:Nat}{c:Option Addr}{a:Nat}{rs:List Aq}(h:Cd qh w P B c a rs)(hn:0<rs.length):∃g,c=some ⟨g,0,none⟩/\rs.length<=a/\a<=maxLen/\B<=g/\g<w.heap.size/\∀i,i<rs.length->w.cell? ⟨g,i,none⟩=some (.pointer (some ⟨(Am rs i).b,0,none⟩)):=by
 obtain⟨g,cur,hg,d,e,f,k,hh⟩:=Zdx h.row hn;subst hg;refine⟨g,rfl,f,k,d,e,fun i hi=> ?_⟩;have:=DQ (z:=Aq.z) h.row Dg (i:=i) (j:=0) hi (by omega);rw[Nat.mul_one,Nat.add_zero] at this;exact this
theorem Cd.AL {qh:Nat}{w w':World}{P B:Nat}{F:Option Addr}{G:Nat}{rs:List Aq}(h:Cd qh w P B F G rs){i:Nat}(hi:i<rs.length){r':Aq}(L:AR qh w' B r')(hb:r'.b=(Am rs i).b)(hg:r'.ng=(Am rs i).ng)(hf:Dm w w' (Am rs i).b (Am rs i).ng):Cd qh w' P B F G (rs.set i r'):=by
 have I:P<w.heap.size:=Zy h.pb h.bs;obtain⟨M,s,_,_,J,_⟩:=(h.runs i hi).Bj;have n:=(h.runs i hi).top;have C:P≠(Am rs i).b:=by have:=(h.runs i hi).bb;have:=h.pb;omega
 have D:P≠(Am rs i).ng:=by have:=h.pb;omega
 have z:=hf.block P I C D
 have A:∀j,j<rs.length->Am (rs.set i r') j=if i=j then r' else Am rs j:=by
  intro j r;unfold Am;rw[ZQ,ZQ,List.getElem?_set];by_cases e:i=j
  .subst e;rw[if_pos rfl,if_pos hi,if_pos rfl];rfl
  .rw[if_neg e,if_neg e]
 have q:∀j,j<rs.length->(Am (rs.set i r') j).b=(Am rs j).b/\(Am (rs.set i r') j).ng=(Am rs j).ng:=by
  intro j r;rw[A j r]
  split
  .rename_i e;subst e;exact⟨hb,hg⟩
  .exact⟨rfl,rfl⟩
 refine⟨?_,fun o=>(QDx (a:=⟨P,o,none⟩) z).trans (h.fz o),?_,?_,?_,?_,h.pb,Zv h.bs hf.size,by rw[QAo];exact h.Br⟩
 .rw[QAo];exact (QEc (a:=⟨P,4,none⟩) z).trans h.c
 .have H:(rs.set i r').flatMap Ln=rs.flatMap Ln:=by
   rw[QHv,QHv]
   congr 1
   apply List.ext_getElem (by simp)
   intro j O f;simp only[List.getElem_map,List.getElem_set]
   split
   .rename_i e
    subst e;unfold Ln;rw[hb];have:Am rs i=rs[i]:=by unfold Am;rw[ZQ,ZZ hi];rfl
    rw[this]
   .rfl
  unfold BA;rw[H,QAo];refine⟨h.row.1,?_⟩;rcases h.row.2 with f | ⟨g,cap,cur,f,l,hh,m⟩
  .exact Zu f
  .exact Zj ⟨g,cap,cur,f,l,(hf.block g (Zaa hh) (Zah hh n (by decide)) (Zah hh s (by decide))).trans hh,m⟩
 .intro j r
  rw[QAo] at r;rw[A j r];by_cases e:i=j
  .subst e;rw[if_pos rfl];exact L
  .rw[if_neg e]
   have d:=h.runs j r;obtain⟨N,K,_,_,_,_⟩:=d.Bj;refine⟨(hf.block _ d.lt (fun x=>e (h.bA i j hi r x.symm)) (Zah d.top s (by decide))).trans d.top,d.bb,?_,fun k hk=> ?_,d.some_,d.Br⟩
   .refine⟨d.row.1,?_⟩
    rcases d.row.2 with f | ⟨g,cap,cur,f,l,hh,m⟩
    .exact Zu f
    .refine Zj ⟨g,cap,cur,f,l,(hf.block g (Zaa hh) (Zah hh n (by decide)) (fun x=> ?_)).trans hh,m⟩
     obtain rfl:(Am rs j).ng=g:=by simpa using congrArg (fun v=>match v with | Value.slice (some a) _ _=>a.block | _=>0) f
     exact e (h.gA i j hi r x.symm)
   .have E:=d.DW k hk
    refine⟨⟨E.1.1,?_⟩,E.2⟩;rcases E.1.2 with f | ⟨g,cap,cur,f,l,hh,m⟩
    .exact Zu f
    .exact Zj ⟨g,cap,cur,f,l,(hf.block g (Zaa hh) (Zah hh n (by decide)) (Zah hh s (by decide))).trans hh,m⟩
 .intro x y t u p
  rw[QAo] at t u;rw[(q x t).1,(q y u).1] at p;exact h.bA x y t u p
 .intro x y t u p
  rw[QAo] at t u;rw[(q x t).2,(q y u).2] at p;exact h.gA x y t u p
def JL (rs:List Aq)(id:Int):Option Nat:=rs.findIdx? (fun r=>r.id == id)
def ptrR (rs:List Aq):Option Nat->Value
 | none=> .pointer none
 | some i=> .pointer (some ⟨(Am rs i).b,0,none⟩)
theorem Nj {rs:List Aq}{i:Nat}(hi:i<rs.length):Am rs i=rs[i]:=by unfold Am;rw[ZQ,ZZ hi];rfl
theorem Gg {rs:List Aq}{id:Int}{i:Nat}(hi:i<rs.length)(h:(Am rs i).id=id)(hn:∀j,j<i->(Am rs j).id≠id):JL rs id=some i:=by
 unfold JL;rw[QCz];refine⟨hi,by rw[<-Nj hi];simpa using h,fun j a=> ?_⟩;rw[<-Nj (by omega)];simpa using hn j a
theorem JN {rs:List Aq}{id:Int}(hn:∀j,j<rs.length->(Am rs j).id≠id):JL rs id=none:=by
 unfold JL;rw[List.findIdx?_eq_none_iff];intro x b;obtain⟨j,a,rfl⟩:=List.getElem_of_mem b;have:=hn j a;rw[Nj a] at this;simpa using this
theorem GK {qh:Nat}(w:World)(P B I:Nat)(G:Option Addr)(rs:List Aq)(id:Int)(h:Cd qh w P B G I rs) :
  Calls prog 157 #[.pointer (some ⟨P,4,none⟩),.int .u64 id] w fun e w'=>e=.returned (ptrR rs (JL rs id))/\w'=w:=by
 have H:=Zz h;have c:=h.c;have k:=h.Br;obtain⟨m,hm⟩:∃m,m=rs.length:=⟨_,rfl⟩;rw[<-hm] at c k;have f:=Zz hm;clear h hm
 go_enter func157,ntmps157
 go_wp2_with fail
 go_loopw [12] (fun u wr=>∃i:Nat,u=.int .i64 i/\i<=m/\wr=w/\∀j,j<i->(Am rs j).id≠id) (fun u _=>m - (intOf u).toNat)
 case atStart=>exact⟨0,rfl,by omega,rfl,by omega⟩
 case round =>
  obtain⟨i,rfl,hi,d,l⟩:=hrel;have a:=Zz l;have A:=Zz d;rw[d];clear l d;by_cases v:i<m
  .obtain⟨g,rfl,C,D,_,E,x⟩:=H.o.ptr (by have:=f.o;omega)
   have J:=x i (by have:=f.o;omega);have y:=H.o.runs i (by have:=f.o;omega);obtain⟨⟨t0,_,_⟩,_⟩:=y.CP;rw[<-f.o] at C;obtain⟨r,t⟩:∃r,r=Am rs i:=⟨_,rfl⟩;rw[<-t] at J t0;have p:=Zz t;have i1:(i:Int)<(m:Int):=by omega
   clear D E x y t;by_cases e:r.id=id
   .have g1:(r.id == id)=true:=by simpa using e
    have s:decide (r.id=id)=true:=decide_eq_true e;have n:=Zz e;go_wp2_with fail
    go_ret
    rw[Gg (by have:=f.o;omega) (by rw[<-p.o];exact n.o) a.o];exact⟨by show _=Ending.returned (.pointer (some ⟨(Am rs i).b,0,none⟩));rw[<-p.o];rfl,rfl⟩
   .have g1:(r.id == id)=false:=by simpa using e
    have s:decide (r.id=id)=false:=decide_eq_false e;have n:=Zz e;go_wp2_with fail
    go_roundw
    case rel=>exact⟨i+1,by go_num,by omega,by first | rfl | trivial,fun j F=>by
     by_cases q:j=i
     .subst q;rw[<-p.o];exact n.o
     .exact a.o j (by omega)⟩
    case measure=>simp[intOf];omega
  .have i1:¬(i:Int)<(m:Int):=by omega
   have z:=Zz v;clear v;go_wp2_with fail
   go_ret
   rw[JN (fun j F=>a.o j (by have:=z.o;have:=f.o;omega))];exact⟨rfl,rfl⟩
def Cl.Ji (n:Cl)(tok:Int):Prop:=n.st=3/\n.tok=tok
inductive Ht (rs:List Aq) (tok:Int):Option (Nat×Nat)->Prop
 | no:(∀i k,i<rs.length->k<(Am rs i).ns.length->¬((Am rs i).at_ k).Ji tok)->Ht rs tok none
 | at_ (i k:Nat):i<rs.length->k<(Am rs i).ns.length->((Am rs i).at_ k).Ji tok->(∀j,j<k->¬((Am rs i).at_ j).Ji tok)->(∀j m,j<i->m<(Am rs j).ns.length->¬((Am rs j).at_ m).Ji tok)->Ht rs tok (some (i,k))
def workV (rs:List Aq):Option (Nat×Nat)->Value
 | none=> .tuple #[.pointer none,.int .i64 0,.bool false]
 | some (i,k)=> .tuple #[.pointer (some ⟨(Am rs i).b,0,none⟩),.int .i64 k,.bool true]
theorem Jh {qh:Nat}(w:World)(P B kc:Nat)(ka:Option Addr)(rs:List Aq)(tok:Int)(h:Cd qh w P B ka kc rs) :
  Calls prog 221 #[.pointer (some ⟨P,4,none⟩),.int .u64 tok] w fun e w'=>∃o,e=.returned (workV rs o)/\Ht rs tok o/\ZY w w':=by
 have H:=Zz h;have HB:=Zz (Zk w.heap.size w);have c:=h.c;have J:=h.Br;obtain⟨m,hm⟩:∃m,m=rs.length:=⟨_,rfl⟩;rw[<-hm] at c J;have z:=Zz hm;clear h hm
 go_enter func221,ntmps221
 go_wp2_with fail
 clear c
 go_loopw [16] (fun Y wr=>∃i:Nat,Y=.int .i64 i/\i<=m/\ZY w wr/\∀j k,j<i->k<(Am rs j).ns.length->¬((Am rs j).at_ k).Ji tok) (fun Y _=>m - (intOf Y).toNat)
 case atStart=>exact⟨0,rfl,by omega,HB.o,by omega⟩
 case round =>
  obtain⟨i,rfl,hi,G,M⟩:=hrel;have v:=Zz M;have d:=Zz G;clear M G;by_cases h1:i<m
  .have T:=H.o.below d.o
   obtain⟨g,rfl,h2,h3,_,h5,E⟩:=T.ptr (by have:=z.o;omega);have p0:=E i (by have:=z.o;omega);have C:=T.runs i (by have:=z.o;omega);obtain⟨⟨t0,_,t2⟩,_⟩:=C.CP;obtain⟨_,_,K,_,_,_⟩:=C.Bj;have D:=C.Br;rw[<-z.o] at h2;obtain⟨r,V⟩:∃r,r=Am rs i:=⟨_,rfl⟩;rw[<-V] at p0 t0 t2 C K D;have A:=Zz (Zq V C);obtain⟨n,hn⟩:∃n,n=r.ns.length:=⟨_,rfl⟩;rw[<-hn] at t2 K D;have O:=Zz hn;have i1:(i:Int)<(m:Int):=by omega
   clear h3 h5 E C V T hn t0;go_wp2_with fail
   clear p0 t2
   go_loopw [25] (fun Z wx=>∃k:Nat,Z=.int .i64 k/\k<=n/\ZY wr wx/\∀j,j<k->¬(r.at_ j).Ji tok) (fun Z _=>n - (intOf Z).toNat)
   case atStart=>exact⟨0,rfl,by omega,Zk _ _,by omega⟩
   case round =>
    obtain⟨k,rfl,hk,I,L⟩:=hrel
    rename World=>wx
    have a:=Zz I;have p:=Zz L;clear L I;by_cases E:k<n
    .have U:=(A.o.2.below a.o).nd (k:=k) (by have:=O.o;omega)
     obtain⟨y0,y1,y2,y3,y4,y5,y6,y7,y8,y9⟩:=U;obtain⟨s,W⟩:∃s,s=r.at_ k:=⟨_,rfl⟩;rw[<-W] at y0 y1 y2 y3 y4 y5 y6 y7 y8 y9;have R:=Zz W;have k1:(k:Int)<(n:Int):=by omega
     have F:=((Zk wx.heap.size wx).alloc ZU (.cells #[.int .i64 s.bu,.int .i64 s.cl,.int .i64 s.be,.int .i64 s.ba,.int .i64 s.ca,.int .i64 s.ji,.slice s.aa s.af.length s.ac,.int .i64 s.st,.int .i64 s.tries,.int .u64 s.tok] 276));have l:=Zz F;clear F W;by_cases q1:s.st=3
     .have f:=l.o
      rw[q1] at f;have q:=Zz f;have Q:=Zz q1;rw[q1] at y7;clear q1 f;by_cases u:s.tok=tok
      .have g2:(s.tok == tok)=true:=by simpa using u
       have S:decide (s.tok=tok)=true:=by simpa using u
       have x:=Zz u;clear u;go_wp2_with fail
       (try simp only[Exit.inBlock,Exit.then])
       refine bodyPost_ret (results_tmp3 rfl _ _ _) rfl ?_;refine⟨some (i,k),?_,.at_ i k (by have:=z.o;omega) (by rw[<-A.o.1];have:=O.o;omega) (by rw[<-A.o.1,<-R.o];exact⟨Q.o,x.o⟩) (fun j y=>by rw[<-A.o.1];exact p.o j y) (fun j t y N=>v.o j t y N),?_⟩
       .show _=Ending.returned (.tuple #[.pointer (some ⟨(Am rs i).b,0,none⟩),.int .i64 k,.bool true])
        rw[<-A.o.1]
        rfl
       .first | exact (d.o.trans' a.o).trans' q.o | exact (d.o.trans' a.o).trans' l.o
      .have g2:(s.tok == tok)=false:=by simpa using u
       have S:decide (s.tok=tok)=false:=by simpa using u
       have x:=Zz u;clear u;go_wp2_with fail
       go_roundw
       case rel=>exact⟨k+1,by go_num,by omega,by first | exact a.o.trans' q.o | exact a.o.trans' l.o,fun j y=>by
        by_cases e:j=k
        .subst e;rw[<-R.o];exact fun hh=>x.o hh.2
        .exact p.o j (by omega)⟩
       case measure=>simp[intOf];omega
     .have g1:(s.st == 3)=false:=by simpa using q1
      have ae:decide (s.st=3)=false:=by simpa using q1
      have HQ:=Zz q1;clear q1;go_wp2_with fail
      go_roundw
      case rel=>exact⟨k+1,by go_num,by omega,a.o.trans' l.o,fun j y=>by
       by_cases e:j=k
       .subst e;rw[<-R.o];exact fun hh=>HQ.o hh.1
       .exact p.o j (by omega)⟩
      case measure=>simp[intOf];omega
    .have k1:¬(k:Int)<(n:Int):=by omega
     have HK:=Zz E;clear E;go_wp2_with fail
     go_roundw
     case rel=>exact⟨i+1,by go_num,by omega,d.o.trans' a.o,fun j t y N=>by
      by_cases e:j=i
      .subst e;rw[<-A.o.1] at N ⊢;exact p.o t (by have:=HK.o;have:=O.o;omega)
      .exact v.o j t (by omega) N⟩
     case measure=>simp[intOf];omega
  .have i1:¬(i:Int)<(m:Int):=by omega
   have HJ:=Zz h1;clear h1;go_wp2_with fail
   (try simp only[Exit.inBlock,Exit.then])
   refine bodyPost_ret (results_tmp3 rfl _ _ _) rfl ?_;exact⟨none,rfl,.no (fun j k y hk=>v.o j k (by have:=HJ.o;have:=z.o;omega) hk),d.o⟩
structure Xx (qh:Nat)(w w':World)(B:Nat)(r r2:Aq)(n:Nat):Prop where
 sk:TZ r r2
 at_:AR qh w' B r2
 fr:Dm w w' r.b r.ng
 box:IB w' w.heap.size r.b
 n_:n=r2.waits
def JumpK (qh:Nat)(w:World)(B:Nat)(r:Aq)(n:Nat)(a':Act)(w':World):Prop :=
 ∃(r2:Aq) (u3 u4 u5 u6 u7 u8 u9 u10 u11 u12 u13 u14 u15 u16 u17 u18 u19 u20 u21 u22 u23 u24 u25 u26 u27 u28 u29 u30 u31 u32 u33:Value),Xx qh w w' B r r2 n /\
  a'={ tmps:=#[.pointer (some ⟨r.b,0,none⟩),.pointer (some ⟨w.heap.size,0,none⟩),.func (.func 272) #[] #[.pointer (some ⟨w.heap.size,0,none⟩)],u3,u4,u5,u6,u7,u8,u9,u10,u11,u12,u13,u14,u15,u16,u17,u18,u19,u20,u21,u22,u23,u24,u25,u26,u27,u28,u29,u30,u31,u32,u33],defers:=[] }
theorem WM {qh:Nat}(w:World)(B:Nat)(r:Aq)(h:AR qh w B r)(O:r.within) :
  Calls prog 227 #[.pointer (some ⟨r.b,0,none⟩)] w fun e w'=>e=.returned (.tuple #[])/\∃r2,TZ r r2/\r2.shut/\AR qh w' B r2/\Dm w w' r.b r.ng:=by
 have bf:∀(fn:Fn) (first cap:Array Value) (w:World),(Instr.makeFunc fn first cap).run prog w=.ok (.func fn first cap) w:=fun _ _ _ _=>rfl;have H:=Zz h;have Z:=Zz O;have az:=h.Br;clear h O
 go_enter func227,ntmps227
 go_wp2
 refine Hi 0 (JumpK qh w B r) rfl ?_ ?_
 .intro R A
  have HH:=Zz A;clear A
  go_wp2
  go_step3
  rename_i K hK
  refine hK _ _ (HH.o r.waits _ _ ?_);refine⟨r,_,_,_,_,_,_,_,_,_,_,_,_,_,_,_,_,_,_,_,_,_,_,_,_,_,_,_,_,_,_,_,⟨.refl r,?_,?_,?_,rfl⟩,rfl⟩
  .exact H.o.below (ZV.alloc ZU _)
  .exact Dm.Ae _ _ (ZV.alloc ZU _)
  .exact⟨by rw[World.cell?_alloc_at (hn:=rfl)];rfl,by simp⟩
 .rintro gn a' w' ⟨r2,V,L,u5,u6,u7,u8,u9,bh,bj,bo,bp,br,bw,u16,ck,cm,cq,cr,cu,cy,cz,da,db,dc,dd,de,dh,dj,dp,u32,dr,ag,rfl⟩
  obtain⟨D,c,y,d,rfl⟩:=ag;have I:=Zz (Zq D (Zq c (Zq y d)));obtain⟨s1,s2,s3,s4,s5,s6,s7⟩:=D.same;have b0:=d.b;obtain⟨⟨c0,c1,c2⟩,_⟩:=c.CP;obtain⟨_,_,ar,aj,_,_⟩:=c.Bj;obtain⟨m,hm⟩:∃m,m=r2.ns.length:=⟨_,rfl⟩;rw[<-hm] at c2 ar;rw[s1,s4] at c2;have M:=Zz (Zq hm s6);have aw:m<=12:=by omega
  have ae:=Zz (D.within Z.o);have J:=Zz (Zq s1 s4);clear D c y d s1 s2 s3 s4 s5 s6 s7 c0 c1 aj hm;go_wp2_with fail
  go_loopw [11] (fun iv wx=>∃i:Nat,iv=.int .i64 i/\i<=m/\AR qh wx B r2/\Dm w wx r.b r.ng/\IB wx w.heap.size r.b/\∀j,j<i->r2.lost j=false) (fun iv _=>m - (intOf iv).toNat)
  case atStart=>exact⟨0,rfl,by omega,I.o.2.1,I.o.2.2.1,I.o.2.2.2,fun j hj=>by omega⟩
  case round =>
   obtain⟨i,rfl,hi,c,y,d,T⟩:=hrel
   rename World=>wx
   have A:=Zz (Zq c (Zq y (Zq d T)));clear b0 c2;by_cases h1:i<m
   .have l:i<r2.ns.length:=by have:=M.o.1;omega
    have S:=c.nd l;rw[J.o.2] at S;obtain⟨t0,t1,t2,t3,t4,t5,t6,t7,t8,t9⟩:=S;have E:=Zz (c.DW i l);have N:=Zz (ae.o i l);have g:=c.FP (k:=i) (j:=7) (f:=skM) (v:=.int .i64 7) l (by omega) rfl ⟨rfl,rfl,rfl⟩;rw[J.o.2] at g;have au:=Zz g;obtain⟨n,hn⟩:∃n,n=r2.at_ i:=⟨_,rfl⟩;have HN:=Zz hn;rw[<-hn] at t0 t1 t2 t3 t4 t5 t6 t7 t8 t9 E N;have i1:(i:Int)<(m:Int):=by omega
    obtain⟨wa,p⟩:∃wa,wa=wx.alloc (.cells #[.int .i64 n.bu,.int .i64 n.cl,.int .i64 n.be,.int .i64 n.ba,.int .i64 n.ca,.int .i64 n.ji,.slice n.aa n.af.length n.ac,.int .i64 n.st,.int .i64 n.tries,.int .u64 n.tok] 276):=⟨_,rfl⟩;have q:ZY wx wa:=by rw[p];exact ZV.alloc ZU _
    have G:=Zz (Zq p q);have hC:=Us wa B w.heap.size r2 n (c.below q) (by rw[J.o.1];exact d.below q) ⟨Zak E.o.1 q,E.o.2⟩ N.o;obtain⟨bb,C⟩:∃bb,bb=n.af.any (fun a=>r2.JK a.toNat):=⟨_,rfl⟩;rw[<-C] at hC;have Y:=Zz hC;have ax:=Zz C;obtain⟨z,hz⟩:∃z,z=n.af.length:=⟨_,rfl⟩;rw[<-hz] at t6 Y;rw[<-hz] at p;have al:=c.below q;have u:r2.lost i=(n.st == 1&&bb):=by unfold Aq.lost;rw[<-hn,C]
    have F:=Zz u;clear hn l c y d T g q hC C hz al u;by_cases q1:n.st=1
    .have HQ:=Zz q1
     rw[q1] at t7 p;clear q1
     cases bb with
     | false =>
      go_wp2_with (go_at_call 186;rw[<-p];refine Y.o.mono ?_;rintro e W ⟨rfl,t⟩;have s:=Zz t;clear t)
      go_roundw
      case rel =>
       obtain⟨U,u2,V,L⟩:=A.o;have hb:ZY wx W:=G.o.2.trans' s.o
       exact⟨i+1,by go_num,by omega,U.below hb,u2.trans (Dm.Ae _ _ hb),V.below hb,fun j hj=>by
        by_cases e:j=i
        .subst e;rw[F.o,Bool.and_false]
        .exact L j (by omega)⟩
      case measure=>simp[intOf];omega
     | true =>
      go_wp2_with (go_at_call 186;rw[<-p];refine Y.o.mono ?_;rintro e W ⟨rfl,t⟩;have hb:=G.o.2.trans' t;have x:=A.o.1.below hb;have b0:=(A.o.2.2.1.below hb).b;have c2:=x.CP.1.2.2;have y7:=(x.nd (k:=i) (by have:=M.o.1;omega)).c7;have f7:=x.AD (i * 10+7);rw[J.o.2] at y7 f7 c2;rw[J.o.1,<-M.o.1] at c2;have s:=Zz (Zq hb x);clear t hb x)
      go_step3
      have l:i<r2.ns.length:=by have:=M.o.1;omega
      have Q:r2.lost i=true:=by rw[F.o,HQ.o];rfl
      have g:=s.o.2.FP (k:=i) (j:=7) (f:=skM) (v:=.int .i64 7) l (by omega) rfl ⟨rfl,rfl,rfl⟩;rw[J.o.2] at g;refine⟨rfl,_,r2.QV l Q,r2.BG i skM,_,_,_,_,_,_,_,_,_,_,_,_,_,_,_,_,_,_,_,_,_,_,_,_,_,_,_,_,_,_,_,⟨.step r r2 i I.o.1 l Q,g,?_,?_,rfl⟩,rfl⟩
      .exact (A.o.2.1.trans (Dm.Ae _ _ s.o.1)).trans (Dm.EA W r.b r.ng _ _)
      .refine⟨?_,?_⟩
       .rw[QEc (a:=⟨w.heap.size,0,none⟩) (Zl W _ _ _ ?_)]
        .exact b0
        .intro e
         have:=I.o.2.2.2.bl;obtain⟨cur,q1,_,_,_,q5⟩:=H.o.Bj;have:w.heap.size=r.ng:=e;omega
       .have:=s.o.1.size;have:=A.o.2.2.1.bl;simp only[World.setCell,Array.size_modify];omega
    .have g1:(n.st == 1)=false:=by simpa using q1
     have ay:decide (n.st=1)=false:=decide_eq_false q1;have HQ:=Zz q1;go_wp2_with fail
     go_roundw
     case rel =>
      obtain⟨U,u2,V,L⟩:=A.o;have hb:=G.o.2;rw[p] at hb
      exact⟨i+1,by go_num,by omega,U.below hb,u2.trans (Dm.Ae _ _ hb),V.below hb,fun j hj=>by
       by_cases e:j=i
       .subst e;rw[F.o];simp[HQ.o]
       .exact L j (by omega)⟩
     case measure=>simp[intOf];omega
   .have e:i=m:=by omega
    have HE:=Zz e;have i1:¬(i:Int)<(m:Int):=by omega
    clear e h1;go_wp2_with fail
    simp only[Exit.jump]
    go_end0
    obtain⟨U,u2,V,L⟩:=A.o;exact⟨rfl,r2,I.o.1,fun k hk=>L k (by have:=HE.o;have:=M.o.1;omega),U,u2⟩
structure Mo (f:Ad):Prop where
 n:f.n=2
 dl:f.dl=100
 ZS:f.bu 0=2
 XY:f.cl 0=9
 Ub:f.cl 1=9
 XQ:f.be 0=0
 Rh:f.be 1=0
 ZR:f.ba 0=3
 ZT:f.ca 0=9
 ji0:f.ji 0=0
 ZP:f.an 0=0
 XN:f.an 1=1
 XM:f.af 1 0=0
def o1 (f:Ad):Ab:=⟨0,0,[⟨1,f,1,100,1,[⟨2,0,0,0,0,0,0⟩,⟨1,0,0,0,0,0,0⟩],0⟩],[⟨1,0⟩],1,0,1,0⟩
def o2 (f:Ad):Ab:=⟨0,0,[⟨1,f,1,100,1,[⟨3,1,1,9,0,2,0⟩,⟨1,0,0,0,0,0,0⟩],0⟩],[],1,1,2,0⟩
def o3 (f:Ad):Ab:=⟨0,0,[⟨1,f,1,100,1,[⟨4,1,1,3,0,3,0⟩,⟨1,0,0,0,0,0,0⟩],0⟩],[],1,1,3,0⟩
def o4 (f:Ad):Ab:=⟨3,0,[⟨1,f,1,100,1,[⟨2,1,1,3,0,3,0⟩,⟨1,0,0,0,0,0,0⟩],0⟩],[⟨1,0⟩],1,1,3,0⟩
def o5 (f:Ad):Ab:=⟨3,0,[⟨1,f,1,100,1,[⟨3,2,2,12,0,4,0⟩,⟨1,0,0,0,0,0,0⟩],0⟩],[],1,2,4,0⟩
def o6 (f:Ad):Ab:=⟨3,0,[⟨1,f,1,100,1,[⟨5,2,2,12,0,4,0⟩,⟨2,0,0,0,0,0,0⟩],0⟩],[⟨1,1⟩],1,2,4,0⟩
def o7 (f:Ad):Ab:=⟨3,0,[⟨1,f,1,100,1,[⟨5,2,2,12,0,4,0⟩,⟨3,1,3,12,0,5,0⟩],0⟩],[],1,3,5,0⟩
def o8 (f:Ad):Ab:=⟨3,0,[⟨1,f,2,100,1,[⟨5,2,2,12,0,4,0⟩,⟨5,1,3,12,0,5,0⟩],1⟩],[],1,3,5,1⟩
theorem VW {f:Ad}(h:Mo f):Za1.AM f=some (o1 f):=by
 obtain⟨n,dl,ZS,XY,Ub,XQ,Rh,ZR,ZT,ji0,ZP,XN,XM⟩:=h;simp[Za1,Ab.AM,Ab.begin,Ab.Bm,Ab.at_,Ag.at_,Ag.free,Ab.ready,Ab.Af,Ab.AL,Ag.Af,n,dl,ZP,XN,XM,Zao,QHw,List.replicate_succ,o1]
theorem VX {f:Ad}(h:Mo f):(o1 f).Bl=some (⟨1,0⟩,1,1,o2 f):=by
 obtain⟨n,dl,ZS,XY,Ub,XQ,Rh,ZR,ZT,ji0,ZP,XN,XM⟩:=h;simp[o1,o2,Ab.Bl,Ab.find,QHx,Ab.at_,Ag.at_,Ab.Af,Ab.AL,Ag.Af,XY,XQ,Zao]
theorem YO (f:Ad):(o2 f).Bl=none:=by simp[o2,Ab.Bl]
theorem VZ {f:Ad}(h:Mo f):(o2 f).fail 1=some (o3 f):=by
 obtain⟨n,dl,ZS,XY,Ub,XQ,Rh,ZR,ZT,ji0,ZP,XN,XM⟩:=h;simp[o2,o3,Ab.fail,Ab.task,Ag.work,QHx,Ab.AH,Ab.at_,Ag.at_,Ab.Af,Ab.AL,Ag.Af,ZS,ZR,ZT,ji0,Zao,Zbs,pw];decide
theorem MW {f:Ad}:(o3 f).AS=[⟨0,none,false,100,1⟩,⟨0,some 0,false,3,3⟩]:=by
 simp[o3,Ab.AS,Ab.at_,Ag.at_,Ag.AS,AO.AS,QHw]
theorem Wa {f:Ad}:(o4 f).AS=[⟨0,none,false,100,1⟩]:=by
 simp[o4,Ab.AS,Ab.at_,Ag.at_,Ag.AS,AO.AS,QHw]
theorem Wb {f:Ad}:BR (o3 f) 3 (o4 f):=by
 unfold BR;have e:(o3 f).Hm 3=3:=by simp[Ab.Hm,o3]
 rw[e];refine .step _ _ 1 ?_ ?_ ?_
 .rw[MW];decide
 .rw[MW];decide
 .rw[MW]
  have c:(o3 f).At (([⟨0,none,false,100,1⟩,⟨0,some 0,false,3,3⟩]:List CL).getD 1 .z)=o4 f:=by
   simp[o3,o4,Ab.At,Ab.at_,Ag.at_,Ab.ready,Ab.Af,Ab.AL,Ag.Af];decide
  rw[c];have a:o4 f={ o4 f with time:=3 }:=rfl;rw[a];refine .none _ ?_;intro b hb;rw[<-a,Wa] at hb ⊢;have:CB ([⟨0,none,false,100,1⟩]:List CL) 1=some 0:=by decide
  rw[show ([⟨0,none,false,100,1⟩]:List CL).length=1 from rfl,this] at hb
  cases hb
  decide
theorem YP {f:Ad}{e:Ab}(h:BR (o3 f) 3 e):e=o4 f:=h.uniq Wb
theorem Wc {f:Ad}(h:Mo f):(o4 f).Bl=some (⟨1,0⟩,2,2,o5 f):=by
 obtain⟨n,dl,ZS,XY,Ub,XQ,Rh,ZR,ZT,ji0,ZP,XN,XM⟩:=h;simp[o4,o5,Ab.Bl,Ab.find,QHx,Ab.at_,Ag.at_,Ab.Af,Ab.AL,Ag.Af,XY,XQ,Zao]
theorem Wd {f:Ad}(h:Mo f):(o5 f).complete 2=some (o6 f):=by
 obtain⟨n,dl,ZS,XY,Ub,XQ,Rh,ZR,ZT,ji0,ZP,XN,XM⟩:=h;simp[o5,o6,Ab.complete,Ab.task,Ag.work,QHx,Ab.Bm,Ag.free,Ab.ready,Ab.settle,Ag.outcome,Ab.at_,Ag.at_,Ab.Af,Ab.AL,Ag.Af,XN,XM,QHw]
theorem We {f:Ad}(h:Mo f):(o6 f).Bl=some (⟨1,1⟩,1,3,o7 f):=by
 obtain⟨n,dl,ZS,XY,Ub,XQ,Rh,ZR,ZT,ji0,ZP,XN,XM⟩:=h;simp[o6,o7,Ab.Bl,Ab.find,QHx,Ab.at_,Ag.at_,Ab.Af,Ab.AL,Ag.Af,Ub,Rh,Zao]
theorem Wf {f:Ad}(h:Mo f):(o7 f).complete 3=some (o8 f):=by
 obtain⟨n,dl,ZS,XY,Ub,XQ,Rh,ZR,ZT,ji0,ZP,XN,XM⟩:=h;simp[o7,o8,Ab.complete,Ab.task,Ag.work,QHx,Ab.Bm,Ag.free,Ab.ready,Ab.settle,Ag.outcome,Ab.end_,Ab.at_,Ag.at_,Ab.Af,Ab.AL,Ag.Af,QHw]
theorem ZB {e:Ab}{tok:Int}{i k:Nat}(hi:i<e.runs.length)(hk:k<(e.at_ i).steps.length)(h:((e.at_ i).at_ k).st=3)(l:((e.at_ i).at_ k).tok=tok)
  (hu:∀a b,a<e.runs.length->b<(e.at_ a).steps.length->((e.at_ a).at_ b).st=3->((e.at_ a).at_ b).tok=tok->a=i/\b=k):e.task tok=some (i,k):=by
 have g:∀j (d:j<e.runs.length),e.runs[j]=e.at_ j:=fun j d=>by unfold Ab.at_;rw[ZQ,ZZ d];rfl
 have es:∀(r:Ag) j (d:j<r.steps.length),r.steps[j]=r.at_ j:=fun r j d=>by unfold Ag.at_;rw[ZQ,ZZ d];rfl
 have hw:(e.at_ i).work tok=some k:=by
  unfold Ag.work;rw[QCz];refine⟨hk,by rw[es];simp[h,l],fun j d=> ?_⟩;rw[es];intro x;simp only[Bool.and_eq_true,beq_iff_eq] at x;have:=(hu i j hi (by omega) x.1 x.2).2;omega
 have hf:e.runs.findIdx? (fun r=>(r.work tok).isSome)=some i:=by
  rw[QCz];refine⟨hi,by rw[g,hw];rfl,fun j d=> ?_⟩;rw[g];intro x;obtain⟨b,hb⟩:=Option.isSome_iff_exists.1 x;unfold Ag.work at hb;rw[QCz] at hb;obtain⟨f,c,_⟩:=hb;rw[es] at c;simp only[Bool.and_eq_true,beq_iff_eq] at c;have:=(hu j b (by omega) f c.1 c.2).1;omega
 unfold Ab.task;rw[hf];simp[hw]
structure Mp (f:Ad):Prop where
 k1:Aj (o1 f)
 k2:Aj (o2 f)
 k3:Aj (o3 f)
 k4:Aj (o4 f)
 k5:Aj (o5 f)
 k6:Aj (o6 f)
 k7:Aj (o7 f)
 k8:Aj (o8 f)
 u8:AG (o8 f)
theorem YS {f:Ad}(h:Mo f)(hf:BW f):Mp f:=by
 have k1:=(Fk.AM hf (VW h)).1;have k2:=k1.Bl (VX h);have k3:=k2.fail (VZ h);have k4:=(Wb.ok k3 (by decide)).1;have k5:=k4.Bl (Wc h);have k6:=k5.complete (Wd h);have k7:=k6.Bl (We h);have a:=Su.AM Fk hf (VW h);have u2:=a.Bl k1 (VX h);have b:=u2.fail k2 (VZ h);have c:=(Wb (f:=f)).Rm b k3 (by decide);have d:=c.Bl k4 (Wc h);have u6:=d.complete k5 (Wd h);have e:=u6.Bl k6 (We h);exact⟨k1,k2,k3,k4,k5,k6,k7,k7.complete (Wf h),e.complete k7 (Wf h)⟩
structure Ey (P:Int->Prop)(X:Ad->Nat->Int->Int->AO->AO->Prop):Prop where
 up:∀t t',P t->t<=t'->P t'
 refl:∀F k t t' s,X F k t t' s s
 trans:∀F k t t' t'' a b c,X F k t t' a b->X F k t' t'' b c->t<=t'->t'<=t''->X F k t t'' a c
 Bm:∀F k t tm tk s,P t->Hr F k t tm tk s->s.st=1->X F k t t s { s with st:=2 }
 over:∀F k t tm tk s v,P t->Hr F k t tm tk s->v=5\/v=6\/v=7->s.st=v\/s.st<5->X F k t t s { s with st:=v }
 rest:∀F k t tm tk s fa sd,P t->Be F k->Hr F k t tm tk s->s.st=3->s.tries<F.bu k->0<=t->t<=4611686018427387904->X F k t t s { s with st:=4,fin:=Zao t (Zbs (F.ba k) (F.ca k) (F.ji k) s.tries sd),BM:=fa }
 due:∀F k t t' tm tk s,P s.fin->t<=t'->s.fin<=t'->Hr F k t tm tk s->s.st=4->X F k t t' s { s with st:=2 }
 AY:∀F k t s x ga,P t->s.st=3->1<=x->0<=t->t<=4611686018427387904->X F k t t s { s with sign:=Zao t x,Bg:=ga }
theorem WB {F:Ad}{k:Nat}(h:Be F k)(t Ar:Int):F.ba k<=Zbs (F.ba k) (F.ca k) (F.ji k) t Ar/\Zbs (F.ba k) (F.ca k) (F.ji k) t Ar<=F.ca k+F.ji k:=by
 unfold Zbs;have a:=Jz (F.ba k) h.ba1 0 (t - 1).toNat (Nat.zero_le _);rw[Fu] at a;have b:=h.ca1;have c:=h.ji1;have d:=Int.emod_nonneg Ar (show F.ji k+1≠0 by omega);have e:=Int.emod_lt_of_pos Ar (show 0<F.ji k+1 by omega);omega
def Sc (r:Ag):Prop:=r.st=2↔∀k,k<r.steps.length->(r.at_ k).st=5
def Ovr (r:Ag):Prop:=∀k,k<r.steps.length->(r.at_ k).st=5\/(r.at_ k).st=6\/(r.at_ k).st=7
def Stays (r r':Ag):Prop:=∀k,k<r.steps.length->(r.at_ k).st=5\/(r.at_ k).st=6\/(r.at_ k).st=7->(r'.at_ k).st=(r.at_ k).st
section
variable {P:Int->Prop} {X:Ad->Nat->Int->Int->AO->AO->Prop}
structure Xr (X:Ad->Nat->Int->Int->AO->AO->Prop)(t t':Int)(r r':Ag):Prop where
 id:r'.id=r.id
 fl:r'.fl=r.fl
 len:r'.steps.length=r.steps.length
 CW:r'.CW=r.CW
 st:r.st≠1->r'.st=r.st
 ov:Stays r r'
 nd:∀k,k<r.steps.length->X r.fl k t t' (r.at_ k) (r'.at_ k)
 new:r.st=1->r'.st≠1->Sc r'/\Ovr r'
theorem Xr.refl (R:Ey P X)(t a:Int)(r:Ag):Xr X t a r r:=⟨rfl,rfl,rfl,rfl,fun _=>rfl,fun _ _ _=>rfl,fun _ _=>R.refl _ _ _ _ _,fun h g=>absurd h g⟩
theorem Xr.trans (R:Ey P X){t f d:Int}{a b c:Ag}(h:Xr X t f a b)(g:Xr X f d b c)(l:t<=f)(m:f<=d):Xr X t d a c:=by
 refine⟨g.id.trans h.id,g.fl.trans h.fl,g.len.trans h.len,g.CW.trans h.CW,fun x=> ?_,fun k hk x=> ?_,fun k hk=> ?_,fun x y=> ?_⟩
 .have:=h.st x;rw[g.st (by omega),this]
 .have:=h.ov k hk x;rw[g.ov k (by rw[h.len];exact hk) (by omega),this]
 .have:=g.nd k (by rw[h.len];exact hk)
  rw[h.fl] at this;exact R.trans _ _ _ _ _ _ _ _ (h.nd k hk) this l m
 .by_cases e:b.st=1
  .exact g.new e y
  .obtain⟨s1,s2⟩:=h.new x e
   have j:=g.st e;have i:∀k,k<b.steps.length->(c.at_ k).st=(b.at_ k).st:=fun k hk=>g.ov k hk (s2 k hk);refine⟨?_,fun k hk=>by rw[g.len] at hk;rw[i k hk];exact s2 k hk⟩;unfold Sc at s1 ⊢;rw[j,s1,g.len];exact⟨fun q k hk=>by rw[i k hk];exact q k hk,fun q k hk=>by rw[<-i k hk];exact q k hk⟩
structure Bq (X:Ad->Nat->Int->Int->AO->AO->Prop)(e e':Ab):Prop where
 time:e.time<=e'.time
 lr:e'.Ah=e.Ah
 lt:e'.Ai=e.Ai
 sd:e'.Ar=e.Ar
 len:e'.runs.length=e.runs.length
 run:∀i,i<e.runs.length->Xr X e.time e'.time (e.at_ i) (e'.at_ i)
theorem Bq.trans (R:Ey P X){a b c:Ab}(h:Bq X a b)(g:Bq X b c):Bq X a c :=
 ⟨Int.le_trans h.time g.time,g.lr.trans h.lr,g.lt.trans h.lt,g.sd.trans h.sd,g.len.trans h.len,fun i hi=>(h.run i hi).trans R (g.run i (by rw[h.len];exact hi)) h.time g.time⟩
theorem Bq.one (R:Ey P X){e e':Ab}{i:Nat}(k:e.time<=e'.time)(b:e'.Ah=e.Ah)(d:e'.Ai=e.Ai)(f:e'.Ar=e.Ar)(hl:e'.runs.length=e.runs.length)(g:∀j,j<e.runs.length->j≠i->e'.at_ j=e.at_ j)(h:i<e.runs.length->Xr X e.time e'.time (e.at_ i) (e'.at_ i)):Bq X e e' :=
 ⟨k,b,d,f,hl,fun j a=>by
  by_cases c:j=i
  .subst c;exact h a
  .rw[g j a c];exact .refl R _ _ _⟩
theorem Bq.refl (R:Ey P X)(e:Ab):Bq X e e:=.one R (i:=0) (QCm _) rfl rfl rfl rfl (fun _ _ _=>rfl) fun _=> .refl R _ _ _
theorem Bq.step (R:Ey P X){e e':Ab}{i k:Nat}{f:AO->AO}(hi:i<e.runs.length)(a:e'.runs=(e.Af i k f).runs)(l:e.time<=e'.time)(b:e'.Ah=e.Ah)(d:e'.Ai=e.Ai)(g:e'.Ar=e.Ar)(n:((e.at_ i).at_ k).st<5)(hn:X (e.at_ i).fl k e.time e'.time ((e.at_ i).at_ k) (f ((e.at_ i).at_ k))):Bq X e e':=by
 refine .one R (i:=i) l b d g (Za9 a) (fun j h c=>by rw[Zbf a h,if_neg (fun x=>c x.symm)]) fun _=> ?_;rw[Zbf a hi,if_pos rfl];refine⟨rfl,rfl,Zal _ _ _,rfl,fun _=>rfl,fun m hm x=> ?_,fun m hm=> ?_,fun x y=>absurd x y⟩
 .by_cases c:k=m
  .subst c;omega
  .rw[Zbj _ _ c]
 .by_cases c:k=m
  .subst c;rw[Za7 _ _ hm];exact hn
  .rw[Zbj _ _ c];exact R.refl _ _ _ _ _
theorem IA (i:Nat):∀(L:List Nat) (e:Ab),i<e.runs.length->((L.foldl (fun e k=>e.ready i k) e).at_ i).CW=(e.at_ i).CW
 | [],_,_=>rfl
 | k::L,e,hi=>by rw[List.foldl_cons,IA i L (e.ready i k) (by rw[Is];exact hi),DO e i k hi];rfl
theorem Bq.Bm (R:Ey P X){e:Ab}(h:Ao e)(b:P e.time){i:Nat}(hi:i<e.runs.length)(a:(e.at_ i).st=1):Bq X e (e.Bm i):=by
 have k:=(h.Bm hi a).2;refine .one R (i:=i) (by rw[k.time];exact QCm _) k.Ah k.Ai k.Ar k.len k.others fun hi=>⟨k.id,k.fl,k.steps,?_,fun _=>k.st,fun m hm x=> ?_,fun m hm=> ?_,fun x y=>absurd (k.st.trans x) y⟩
 .rw[JE e i hi];exact IA i _ e hi
 .rw[Hn hi hm]
  split
  .rename_i hf
   have:=EO hf;omega
  .rfl
 .rw[Hn hi hm,k.time]
  split
  .rename_i hf
   exact R.Bm _ _ _ _ _ _ b ((h.runs i hi).steps m hm) (EO hf)
  .exact R.refl _ _ _ _ _
theorem sc_end {r:Ag}{st:Int}(ends:Int)(h:st=2↔∀k,k<r.steps.length->(r.at_ k).st=5):Sc (Zd6 st ends r):=by
 show st=2↔_;rw[h,Zbg];refine⟨fun q k hk=>by rw[Zca _ _ _ hk];have:=q k hk;unfold Dz;rw[if_pos (Zu this)];exact this,fun q k hk=> ?_⟩;have:=q k hk;rw[Zca _ _ _ hk] at this;unfold Dz at this
 split at this
 .exact this
 .exact absurd this (by simp)
theorem Bq.end_ (R:Ey P X){e:Ab}(h:Ao e)(d:P e.time){i:Nat}(b:(e.at_ i).st=1){st:Int}(g:st=2↔∀k,k<(e.at_ i).steps.length->((e.at_ i).at_ k).st=5):Bq X e (e.end_ i st):=by
 refine .one R (i:=i) (QCm _) rfl rfl rfl (Zea e i st) (fun j f c=>by rw[Zej e i st f,if_neg (fun x=>c x.symm)]) fun hi=> ?_;rw[Zej e i st hi,if_pos rfl];refine⟨rfl,rfl,Zbg _ _ _,rfl,fun x=>absurd b x,fun k hk x=> ?_,fun k hk=> ?_,fun _ _=>⟨sc_end _ g,fun k hk=> ?_⟩⟩
 .rw[Zca _ _ _ hk]
  unfold Dz
  split
  .rfl
  .show (7:Int)=_;omega
 .rw[Zca _ _ _ hk]
  unfold Dz
  split
  .exact R.refl _ _ _ _ _
  .have a:=(h.runs i hi).steps k hk
   have:=a.st2;exact R.over _ _ _ _ _ _ 7 d a (by omega) (by omega)
 .rw[Zbg] at hk
  rw[Zca _ _ _ hk];exact JJ _
theorem Bq.settle (R:Ey P X){e:Ab}(h:Ao e)(d:P e.time){i:Nat}(b:(e.at_ i).st=1):Bq X e (e.settle i):=by
 unfold Ab.settle
 cases a:(e.at_ i).outcome with
 | none=>exact .refl R e
 | some st =>
  refine .end_ R h d b ?_;unfold Ag.outcome at a
  split at a
  .split at a
   .rename_i c
    cases a
    rw[Mu] at c;simp only[beq_iff_eq] at c;exact⟨fun _=>c,fun _=>rfl⟩
   .rename_i c
    cases a
    rw[Mu] at c;simp only[beq_iff_eq] at c;exact⟨fun x=>absurd x (by decide),fun x=>absurd x c⟩
  .cases a
theorem Lx (R:Ey P X){e:Ab}(h:Aj e)(p:P e.time){i k:Nat}(hi:i<e.runs.length)(hk:k<(e.at_ i).steps.length)(A:((e.at_ i).at_ k).st=3)(c:¬((e.at_ i).at_ k).tries<(e.at_ i).fl.bu k):Bq X e (e.Af i k (fun s=>{ s with st:=6 }))/\Bq X (e.Af i k (fun s=>{ s with st:=6 })) (e.AH i k):=by
 have r:=h.wk.Bi hi hk (by omega);have q:=(h.wk.runs i hi).steps k hk;rw[Gf hi c];have o:=h.wk.over hi hk 6 (by omega) (by omega) (fun _=>by have:=q.Xv;omega);obtain⟨a,b⟩:∃a,a=e.Af i k (fun s=>{ s with st:=6 }):=⟨_,rfl⟩;have k1:FF e a i:=by rw[b];exact FF.Af e k (fun s=>{ s with st:=6 }) e.queue hi
 have n1:Bq X e a:=by
  rw[b];exact .step R hi rfl (QCm _) rfl rfl rfl (by omega) (R.over _ _ _ _ _ _ 6 p q (by omega) (by omega))
 rw[<-b] at o ⊢;refine⟨n1,?_⟩;obtain⟨s1,_⟩:=Zed (a.at_ i);have l:(a.at_ i).steps.length=(e.at_ i).steps.length:=k1.steps;rw[l] at s1
 generalize Ag.BN (e.at_ i).steps.length (a.at_ i)=r2 at s1 ⊢
 have d:i<a.runs.length:=by rw[k1.len];exact hi
 have f:P a.time:=by rw[k1.time];exact p
 have g:(a.AL i (fun _=>r2)).at_ i=r2:=by rw[Zbr a i i _ d,if_pos rfl]
 obtain⟨q1,u,n,v,_⟩:=s1.same;have w:=s1.wk o d rfl
 have n2:Bq X a (a.AL i (fun _=>r2)):=by
  refine .one R (i:=i) (QCm _) rfl rfl rfl (Zbk a i _) (fun j t c=>by rw[Zbr a i j _ t,if_neg (fun x=>c x.symm)]) fun _=> ?_;rw[g];refine⟨q1,u,s1.leS.len,v,fun _=>n,fun m hm x=> ?_,fun m hm=> ?_,fun x y=>absurd (n.trans x) y⟩
  .rcases s1.leS.at_ m hm with y | ⟨y,z⟩
   .rw[y]
   .omega
  .rcases s1.leS.at_ m hm with y | ⟨y,z⟩
   .rw[y];exact R.refl _ _ _ _ _
   .rw[z];exact R.over _ _ _ _ _ _ 7 f ((o.runs i d).steps m hm) (by omega) (by omega)
 refine n2.trans R (.settle R w f ?_);rw[g,n,k1.st];exact r
theorem Bq.AH (R:Ey P X){e:Ab}(h:Aj e)(d:P e.time){i k:Nat}(hi:i<e.runs.length)(hk:k<(e.at_ i).steps.length)(f:((e.at_ i).at_ k).st=3):Bq X e (e.AH i k):=by
 by_cases c:((e.at_ i).at_ k).tries<(e.at_ i).fl.bu k
 .rw[Ed c]
  exact .step R hi rfl (QCm _) rfl rfl rfl (by omega) (R.rest _ _ _ _ _ _ _ _ d (h.wk.runs i hi |>.fl.node k (by rw[<-(h.wk.runs i hi).len];exact hk)) ((h.wk.runs i hi).steps k hk) f c h.wk.t0 h.wk.tB)
 .obtain⟨a,b⟩:=Lx R h d hi hk f c
  exact a.trans R b
theorem Bq.At (R:Ey P X){e:Ab}(b:Aj e){d:CL}(m:BV e d)(hm:∀x,BV e x->d.tm<=x.tm)(l:P d.tm):Bq X e (e.At d):=by
 have q:=b.wk.Cr m;have j:Aj { e with time:=max e.time d.tm }:=b.Fi (by omega) (by have:=b.wk.tB;omega) (fun x o=>by have:=hm x o;have:=(b.wk.Cr o).2;omega);have c:P (max e.time d.tm):=R.up _ _ l (by omega);have n0:Bq X e { e with time:=max e.time d.tm }:=⟨by show e.time<=max e.time d.tm;omega,rfl,rfl,rfl,rfl,fun _ _=> .refl R _ _ _⟩;obtain⟨hi,n,hk⟩:=m;unfold Ab.At
 cases h:d.k with
 | none =>
  refine n0.trans R (Bq.end_ R (e:={ e with time:=max e.time d.tm }) j.wk c (i:=d.i) (st:=5) n ⟨fun x=>absurd x (by decide),fun x=> ?_⟩);obtain⟨k,q1,p,_⟩:=b.goes d.i hi n;exact absurd (x k q1) p
 | some k =>
  rw[h] at hk;simp only at hk ⊢;have a:=hk.2;unfold AO.due at a
  split
  .rename_i g
   split at a
   .omega
   .refine .step R (f:=fun s=>{ s with st:=2 }) hi rfl (by show e.time<=max e.time d.tm;omega) rfl rfl rfl (by omega) (R.due _ _ _ _ _ _ _ (by rw[<-a.2.1];exact l) (by show e.time<=max e.time d.tm;omega) ?_ ((b.wk.runs _ hi).steps k hk.1) g)
    show _<=max e.time d.tm;omega
  .rename_i g
   refine n0.trans R (.AH R j c hi hk.1 ?_)
   split at a
   .exact a.1
   .exact a.1.resolve_right g
theorem CZ.engN (R:Ey P X){g:Int}{e c:Ab}(j:CZ g e c)(f:Aj e)(h:e.time<=g)(i:∀x,BV e x->P x.tm):Bq X e c:=by
 induction j with
 | none e _=>exact⟨h,rfl,rfl,rfl,rfl,fun _ _=> .refl R _ _ _⟩
 | step e c b hb hle _ m =>
  obtain⟨d1,d2⟩:=Zeu hb;have d:=i _ d1;have a:=f.At d1 d2;have k:=GN e (e.AS.getD b .z);exact (Bq.At R f d1 d2 d).trans R (m a (by rw[k];omega) fun x l=>R.up _ _ d (by have:=(a.wk.Cr l).2;omega))
theorem BR.engN (R:Ey P X){e a:Ab}{t:Int}(d:BR e t a)(b:Aj e)(f:0<=t)(c:∀x,BV e x->P x.tm):Bq X e a :=
 CZ.engN R d b (Nv b.wk f).1 c
theorem Bq.complete (R:Ey P X){e e':Ab}(h:Aj e)(j:P e.time){tok:Int}(he:e.complete tok=some e'):Bq X e e':=by
 unfold Ab.complete at he
 split at he
 .cases he
 .rename_i i k m
  obtain⟨a,b,c,_⟩:=Zdn m
  cases he
  have l:=h.wk.Bi a b (by omega);have hw:=h.wk.over a b 5 (by omega) (by omega) (by omega);have k1:=FF.Af e k (fun s=>{ s with st:=5 }) e.queue a;have f:i<(e.Af i k (fun s=>{ s with st:=5 })).runs.length:=by rw[k1.len];exact a
  have g:=k1.st.trans l;have n1:Bq X e (e.Af i k (fun s=>{ s with st:=5 })):=.step R a rfl (QCm _) rfl rfl rfl (by omega) (R.over _ _ _ _ _ _ 5 j ((h.wk.runs i a).steps k b) (by omega) (by omega));have d:=hw.Bm f g;exact (n1.trans R (.Bm R hw j f g)).trans R (.settle R d.1 (by rw[d.2.time];exact j) (d.2.st.trans g))
theorem Bq.fail (R:Ey P X){e e':Ab}(h:Aj e)(d:P e.time){tok:Int}(he:e.fail tok=some e'):Bq X e e':=by
 unfold Ab.fail at he
 split at he
 .cases he
 .rename_i i k f
  obtain⟨a,b,c,_⟩:=Zdn f
  cases he
  exact .AH R h d a b c
theorem Bq.AY (R:Ey P X){e e':Ab}(h:Aj e)(d:P e.time){tok:Int}(he:e.AY tok=some e'):Bq X e e':=by
 unfold Ab.AY at he
 split at he
 .cases he
 .rename_i i k f
  obtain⟨a,b,c,_⟩:=Zdn f;simp only at he
  split at he
  .cases he
   exact .step R a rfl (QCm _) rfl rfl rfl (by omega) (R.AY _ _ _ _ _ _ d c (by omega) h.wk.t0 h.wk.tB)
  .cases he;exact .refl R e
theorem Bq.sc {e e':Ab}(h:Bq X e e')(g:Aj e)(d:Aj e'){i:Nat}(hi:i<e.runs.length)(f:Sc (e.at_ i)):Sc (e'.at_ i):=by
 have b:=h.run i hi;by_cases c:(e'.at_ i).st=1
 .obtain⟨k,q1,l,_⟩:=d.goes i (by rw[h.len];exact hi) c
  exact⟨fun x=>by omega,fun x=>absurd (x k q1) l⟩
 .by_cases c1:(e.at_ i).st=1
  .exact (b.new c1 c).1
  .have j:=(g.wk.runs i hi).over c1
   have a:∀k,k<(e.at_ i).steps.length->((e'.at_ i).at_ k).st=((e.at_ i).at_ k).st:=fun k hk=>b.ov k hk (j k hk);unfold Sc at f ⊢;rw[b.st c1,f,b.len];exact⟨fun q k hk=>by rw[a k hk];exact q k hk,fun q k hk=>by rw[<-a k hk];exact q k hk⟩
end
structure EG (e:Ab)(F:Ad):Prop where
 ok:Aj e
 up:AG e
 len:e.runs.length=2
 id:(e.at_ 1).id=2
 lr:e.Ah=2
 old:(e.at_ 0).st≠1
 sd:e.Ar=0
 time:e.time=3
 tok:e.Ai=3
 fl:(e.at_ 1).fl=F
 sl:(e.at_ 1).steps.length=F.n
 st:(e.at_ 1).st=1
 CW:(e.at_ 1).CW=3+F.dl
 nd:∀k,k<F.n->((e.at_ 1).at_ k).tries=0/\(((e.at_ 1).at_ k).st=1\/((e.at_ 1).at_ k).st=2)
theorem TC {f F:Ad}(j:Mp f)(hf:BW F):∃e,(o8 f).AM F=some e/\EG e F:=by
 have k8:=j.k8;have h:(o8 f).runs.length<6:=by show 1<6;decide
 have g:(o8 f).AM F=some ((o8 f).begin F):=by unfold Ab.AM;rw[if_neg (by show ¬1=6;decide)]
 have hl:=Za5 (o8 f) F;have hm:=k8.wk.more h hf;have hi:(o8 f).runs.length<((o8 f).more F).runs.length:=by omega
 have a:=Zbl (o8 f) F;have i:(((o8 f).more F).at_ (o8 f).runs.length).st=1:=by rw[a];rfl
 obtain⟨q,b⟩:=hm.Bm hi i;have d:=fun m n=>Hn (e:=(o8 f).more F) hi (m:=m) n;have c:=IA (o8 f).runs.length ((QAr (((o8 f).more F).at_ (o8 f).runs.length).steps.length).filter (((o8 f).more F).at_ (o8 f).runs.length).free) _ hi;rw[<-JE _ _ hi] at c;obtain⟨n1,n2,o,p,_⟩:=FY k8 h hf;have l:(o8 f).runs.length=1:=rfl;rw[<-Du] at b d c;rw[l] at a i hi b d c;refine⟨_,g,k8.begin h hf,j.u8.begin k8 h hf,by rw[b.len,hl];rfl,by rw[b.id,a];rfl,by rw[o];rfl,?_,by rw[n2];rfl,by rw[n1];rfl,by rw[p];rfl,by rw[b.fl,a];rfl,by rw[b.steps,a,Zb9],by rw[b.st,a];rfl,?_,fun k hk=> ?_⟩
 .rw[b.others 0 (by omega) (by decide),Zb4 _ _ (by show 0<1;decide)]
  show (2:Int)≠1;decide
 .rw[c,a]
  have:=hf.top.dl2;show Zao 3 F.dl=_;unfold Zao;rw[if_neg (by omega)]
 .rw[d k (by rw[a,Zb9];exact hk),a,Zdk _ _ hk]
  split
  .exact⟨rfl,Zj rfl⟩
  .exact⟨rfl,Zu rfl⟩
def sumF (f:Nat->Int):Nat->Int
 | 0=>0
 | k+1=>sumF f k+f k
def left (r:Ag):Int:=sumF (fun k=>r.fl.bu k - (r.at_ k).tries) r.steps.length
theorem Jd (e:Ab)(i:Nat):(e.settle i).time=e.time:=by unfold Ab.settle;split<;>rfl
theorem SB {e e':Ab}{tok:Int}(he:e.fail tok=some e'):e'.time=e.time:=by
 unfold Ab.fail at he
 split at he
 .cases he
 .cases he
  unfold Ab.AH;simp only
  split
  .rfl
  .rw[Jd];rfl
theorem Lb {e e':Ab}(h:Aj e){tok:Int}(he:e.complete tok=some e'):e'.time=e.time:=by
 unfold Ab.complete at he
 split at he
 .cases he
 .rename_i i k f
  obtain⟨a,b,c,_⟩:=Zdn f
  cases he
  have d:=h.wk.Bi a b (by omega);have hw:=h.wk.over a b 5 (by omega) (by omega) (by omega);have k1:=FF.Af e k (fun s=>{ s with st:=5 }) e.queue a;rw[Jd];exact ((hw.Bm (by rw[k1.len];exact a) (k1.st.trans d)).2.time).trans k1.time
structure XF (t t':Int)(s s':AO):Prop where
 tries:s'.tries=s.tries
 tok:s'.tok=s.tok
 wait:s'.st=1->s.st=1
 rdy:s'.st=2->s.st=1\/s.st=2\/s.st=3\/(s.st=4/\s.fin<=t')
 work:s'.st=3->s.st=3
 rst:s'.st=4->(s.st=4/\s'.fin=s.fin)\/(s.st=3/\t<=s'.fin)
theorem XF.trans {t e d:Int}{a b c:AO}(h:XF t e a b)(g:XF e d b c)(i:t<=e)(j:e<=d):XF t d a c:=by
 obtain⟨i,j,k,m,f,l⟩:=h;obtain⟨g1,g2,g4,g5,g6,g7⟩:=g;refine⟨g1.trans i,g2.trans j,fun x=>k (g4 x),fun x=> ?_,fun x=>f (g6 x),fun x=> ?_⟩
 .rcases g5 x with y | y | y | ⟨y,z⟩
  .exact Zu (k y)
  .rcases m y with z | z | z | z<;>omega
  .have:=f y;omega
  .rcases l y with⟨u,v⟩ | ⟨u,v⟩<;>omega
 .rcases g7 x with⟨y,z⟩ | ⟨y,z⟩
  .rcases l y with⟨u,v⟩ | ⟨u,v⟩<;>omega
  .have:=f y;omega
def XH:Ad->Nat->Int->Int->AO->AO->Prop:=fun _ _ t t' s s'=>XF t t' s s'
theorem XF.one {t c:Int}{s a:AO}(d:a.tries=s.tries)(e:a.tok=s.tok)(b:a.st≠1/\a.st≠3)(f:a.st=2->s.st=1\/(s.st=4/\s.fin<=c))(g:a.st=4->s.st=3/\t<=a.fin):XF t c s a :=
 ⟨d,e,fun x=>absurd x b.1,fun x=>(f x).elim Zu fun y=>Zj (Zj (Zj y)),fun x=>absurd x b.2,fun x=>Zj (g x)⟩
theorem OR:Ey (fun _=>True) XH where
 up:=fun _ _ _ _=>trivial
 refl:=fun _ _ _ _ _=>⟨rfl,rfl,id,fun h=>Zj (Zu h),id,fun h=>Zu ⟨h,rfl⟩⟩
 trans:=fun _ _ _ _ _ _ _ _ h g a b=>h.trans g a b
 Bm:=fun _ _ _ _ _ _ _ _ h=> .one rfl rfl ⟨by simp,by simp⟩ (fun _=>Zu h) (fun x=>absurd x (by simp))
 over:=fun _ _ _ _ _ s v _ _ c _=> .one rfl rfl ⟨by show v≠1;omega,by show v≠3;omega⟩ (fun x=>by replace x:v=2:=x;omega) (fun x=>by replace x:v=4:=x;omega)
 rest:=fun _ _ _ _ _ _ _ _ _ hn _ h _ t0 tB=> .one rfl rfl ⟨by simp,by simp⟩ (fun x=>absurd x (by simp)) (fun _=>⟨h,(Zdc t0 tB (Ff hn _ _).1).1⟩)
 due:=fun _ _ _ _ _ _ _ _ _ hf _ h=> .one rfl rfl ⟨by simp,by simp⟩ (fun _=>Zj ⟨h,hf⟩) (fun x=>absurd x (by simp))
 AY:=fun _ _ _ s _ _ _ h _ _ _=>⟨rfl,rfl,id,fun x=>by replace x:=h.symm.trans x;omega,id,fun x=>by replace x:=h.symm.trans x;omega⟩
structure CM where
 node:Nat
 nth:Int
 tok:Int
def CM.z:CM:=⟨0,0,0⟩
structure TkOk (r:Ag)(tok:Int)(t:CM):Prop where
 t1:1<=t.tok
 t2:t.tok<=tok
 k:t.node<r.steps.length
 n0:1<=t.nth
 le:t.nth<=(r.at_ t.node).tries
 is_:(r.at_ t.node).tries=t.nth->(r.at_ t.node).tok=t.tok
 only:∀k,k<r.steps.length->(r.at_ k).tok=t.tok->k=t.node/\(r.at_ k).tries=t.nth
structure RdOk (time:Int)(s:AO)(a:Int):Prop where
 now:s.st=1\/s.st=2\/s.st=3->a<=time
 rest:s.st=4->a<=s.fin
structure KW (e:Ab)(ts:List CM)(rd:List Int)(T:Int):Prop where
 ok:Aj e
 up:AG e
 len:e.runs.length=2
 id:(e.at_ 1).id=2
 lr:e.Ah=2
 old:(e.at_ 0).st≠1
 sd:e.Ar=0
 time:e.time<=T
 sc:Sc (e.at_ 1)
 rl:rd.length=(e.at_ 1).steps.length
 t1:∀k,k<(e.at_ 1).steps.length->((e.at_ 1).at_ k).st=3->1<=((e.at_ 1).at_ k).tok
 tk:∀t∈ts,TkOk (e.at_ 1) e.Ai t
 rdy:∀k,k<(e.at_ 1).steps.length->RdOk e.time ((e.at_ 1).at_ k) (rd.getD k 0)
structure Jj (r r':Ag):Prop where
 len:r'.steps.length=r.steps.length
 fl:r'.fl=r.fl
 tries:∀k,k<r.steps.length->(r.at_ k).tries<=(r'.at_ k).tries
 over:∀k,k<r.steps.length->(r.at_ k).st=5\/(r.at_ k).st=6\/(r.at_ k).st=7->(r'.at_ k).st=(r.at_ k).st
 st:r.st≠1->r'.st=r.st
theorem Xr.mono {t a:Int}{r r':Ag}(h:Xr XH t a r r'):Jj r r':=⟨h.len,h.fl,fun k hk=>by have:=h.nd k hk;rw[XF.tries this];exact QCm _,h.ov,h.st⟩
theorem KW.i1 {e:Ab}{a:List CM}{rd:List Int}{T:Int}(h:KW e a rd T):1<e.runs.length:=by rw[h.len];decide
theorem KW.call {e e':Ab}{f:List CM}{rd:List Int}{T T':Int}(h:KW e f rd T)(n:Bq XH e e')(ok:Aj e')(up:AG e')(c:e'.time<=T'):KW e' f rd T'/\Jj (e.at_ 1) (e'.at_ 1):=by
 have i1:=h.i1;have r:=n.run 1 i1;have b:∀k,k<(e.at_ 1).steps.length->XF e.time e'.time ((e.at_ 1).at_ k) ((e'.at_ 1).at_ k):=r.nd;refine⟨⟨ok,up,by rw[n.len,h.len],by rw[r.id,h.id],by rw[n.lr,h.lr],?_,by rw[n.sd,h.sd],c,n.sc h.ok ok i1 h.sc,by rw[r.len,h.rl],fun k hk g=> ?_,fun t c=> ?_,fun k hk=> ?_⟩,r.mono⟩
 .rw[(n.run 0 (by rw[h.len];decide)).st h.old];exact h.old
 .rw[r.len] at hk
  rw[(b k hk).tok];exact h.t1 k hk ((b k hk).work g)
 .obtain⟨q1,j,d,l,m,o,p⟩:=h.tk t c
  have hn:=b _ d
  exact⟨q1,by rw[n.lt];exact j,by rw[r.len];exact d,l,by rw[hn.tries];exact m,fun x=>by rw[hn.tok];exact o (by rw[<-hn.tries];exact x),fun k hk x=>by
   rw[r.len] at hk;have hm:=b k hk;rw[hm.tries];exact p k hk (by rw[<-hm.tok];exact x)⟩
 .rw[r.len] at hk
  have hn:=b k hk;have a:=h.rdy k hk;have i:=n.time;refine⟨fun x=> ?_,fun x=> ?_⟩
  .rcases x with x | x | x
   .have:=a.now (Zu (hn.wait x));omega
   .rcases hn.rdy x with y | y | y | ⟨y,z⟩
    .have:=a.now (Zu y);omega
    .have:=a.now (Zj (Zu y));omega
    .have:=a.now (Zj (Zj y));omega
    .have:=a.rest y;omega
   .have:=a.now (Zj (Zj (hn.work x)));omega
  .rcases hn.rst x with⟨y,z⟩ | ⟨y,z⟩
   .have:=a.rest y;omega
   .have:=a.now (Zj (Zj y));omega
def JF (r:Ag)(t:CM):Prop:=(r.at_ t.node).st=3/\(r.at_ t.node).tries=t.nth
theorem KW.only1 {e:Ab}{a:List CM}{rd:List Int}{T:Int}(h:KW e a rd T){i k:Nat}(hi:i<e.runs.length)(hk:k<(e.at_ i).steps.length)(b:((e.at_ i).at_ k).st=3):i=1:=by
 have hl:=h.len;rcases Nat.eq_zero_or_pos i with c | c
 .subst c
  have:=(h.ok.wk.runs 0 hi).over h.old k hk;omega
 .omega
theorem KW.task {e:Ab}{c:List CM}{rd:List Int}{T:Int}(h:KW e c rd T){t:CM}(g:t∈c)(hw:JF (e.at_ 1) t):e.task t.tok=some (1,t.node):=by
 have q:=h.tk t g;refine ZB h.i1 q.k hw.1 (q.is_ hw.2) fun a b d hb f i=> ?_;obtain rfl:=h.only1 d hb f;exact⟨rfl,(q.only b hb i).1⟩
theorem KW.Nu {e:Ab}{f:List CM}{rd:List Int}{T:Int}(h:KW e f rd T){tok:Int}(hw:tok=0\/∃t,t∈f/\tok=t.tok/\¬JF (e.at_ 1) t):e.task tok=none:=by
 cases j:e.task tok with
 | none=>rfl
 | some p =>
  obtain⟨i,k⟩:=p;obtain⟨a,b,c,d⟩:=Zdn j;obtain rfl:=h.only1 a b c;rcases hw with rfl | ⟨t,g,rfl,hn⟩
  .have:=h.t1 k b c;omega
  .obtain⟨rfl,y⟩:=(h.tk t g).only k b d
   exact absurd ⟨c,y⟩ hn
theorem KW.Bl {e e':Ab}{q:List CM}{rd:List Int}{T:Int}(h:KW e q rd T){p:Ba}{t tk:Int}(he:e.Bl=some (p,t,tk,e')) :
  p.run=2/\p.node<(e.at_ 1).steps.length/\t=((e.at_ 1).at_ p.node).tries+1/\rd.getD p.node 0<=e.time/\((e.at_ 1).at_ p.node).st=2/\(∀x∈q,x.tok≠tk)/\tk=e.Ai+1/\e'.Ai=e.Ai+1/\KW e' (q++[⟨p.node,t,tk⟩]) rd T/\Jj (e.at_ 1) (e'.at_ 1):=by
 obtain⟨i,_,q1,L,n,B,C,D,M,V,N,m,z,K,A,g⟩:=Ng h.ok he;have hl:=h.len
 have hi:i=1:=by
  rcases Nat.eq_zero_or_pos i with c | c
  .subst c;exact absurd C h.old
  .omega
 subst hi;have w:=h.ok.Bl he;have E:=h.up.Bl h.ok he;have F:=h.ok.wk.runs 1 q1;have J:=F.steps p.node n;have I:=J.tr0;have H:=h.ok.wk.Xt;have v:∀x∈q,x.tok≠tk:=fun x j=>by have:=(h.tk x j).t2;omega
 have G:=h.rdy p.node n
 generalize hf:(fun s:AO=>({ s with st:=3,tries:=t,tok:=tk,fin:=Zao e.time ((e.at_ 1).fl.cl p.node),BM:=e.timers+1,sign:=if (e.at_ 1).fl.be p.node > 0 then Zao e.time ((e.at_ 1).fl.be p.node) else 0,Bg:=if (e.at_ 1).fl.be p.node > 0 then e.timers+2 else s.Bg }:AO))=f at g
 have u:∀s,(f s).st=3/\(f s).tries=t/\(f s).tok=tk:=fun s=>by subst hf;exact⟨rfl,rfl,rfl⟩
 clear hf;have d:e'.at_ 1=(e.at_ 1).Af p.node f:=by rw[Zbf g q1,if_pos rfl]
 have r:e'.at_ 0=e.at_ 0:=by rw[Zbf g (by omega),if_neg (by omega)]
 have b:(e'.at_ 1).steps.length=(e.at_ 1).steps.length:=by rw[d,Zal]
 have l:(e'.at_ 1).at_ p.node=f ((e.at_ 1).at_ p.node):=by rw[d,Za7 _ _ n]
 have a:∀k,p.node≠k->(e'.at_ 1).at_ k=(e.at_ 1).at_ k:=fun k hk=>by rw[d,Zbj _ _ hk]
 obtain⟨f1,f2,f3⟩:=u ((e.at_ 1).at_ p.node);rw[<-l] at f1 f2 f3;refine⟨by rw[<-L,h.id],n,D,G.now (Zj (Zu B)),B,v,M,N,⟨w,E,by rw[Za9 g,hl],by rw[d];exact h.id,by rw[A,h.lr],by rw[r];exact h.old,by rw[z,h.sd],by rw[m];exact h.time,?_,by rw[b,h.rl],fun k hk o=> ?_,fun x j=> ?_,fun k hk=> ?_⟩,⟨b,by rw[d];rfl,fun k hk=> ?_,fun k hk U=> ?_,fun x=>absurd C x⟩⟩
 .have S:(e'.at_ 1).st=1:=by rw[d];exact C
  exact⟨fun x=>by omega,fun x=>by have:=x p.node (by rw[b];exact n);omega⟩
 .by_cases c:p.node=k
  .subst c;omega
  .rw[a k c] at o ⊢
   rw[b] at hk;exact h.t1 k hk o
 .rcases List.mem_append.1 j with j | j
  .obtain⟨O,z2,z3,z4,z5,Q,R⟩:=h.tk x j
   refine⟨O,by omega,by rw[b];exact z3,z4,?_,fun y=> ?_,fun k hk y=> ?_⟩
   .by_cases c:p.node=x.node
    .rw[<-c,f2,D,c];omega
    .rw[a _ c];exact z5
   .by_cases c:p.node=x.node
    .rw[<-c,f2,D,c] at y;omega
    .rw[a _ c] at y ⊢;exact Q y
   .rw[b] at hk
    by_cases c:p.node=k
    .subst c;rw[f3] at y;omega
    .rw[a _ c] at y ⊢;exact R k hk y
  .rw[List.mem_singleton] at j
   subst j;refine⟨by show 1<=tk;omega,by show tk<=_;omega,by rw[b];exact n,by show 1<=t;omega,by show t<=((e'.at_ 1).at_ p.node).tries;omega,fun _=>f3,fun k hk y=> ?_⟩;rw[b] at hk;by_cases c:p.node=k
   .exact⟨c.symm,by subst c;exact f2⟩
   .rw[a _ c] at y
    replace y:_=tk:=y
    have:=(F.steps k hk).tokB;omega
 .rw[b] at hk
  by_cases c:p.node=k
  .subst c
   exact⟨fun _=>by rw[m];exact G.now (Zj (Zu B)),fun x=>by omega⟩
  .rw[a k c,m];exact h.rdy k hk
 .by_cases c:p.node=k
  .subst c;omega
  .rw[a k c];exact QCm _
 .by_cases c:p.node=k
  .subst c;omega
  .rw[a k c]
theorem KW.fail {e:Ab}{l:List CM}{rd:List Int}{T:Int}(h:KW e l rd T)(w:T<=1000000){t:CM}(p:t∈l)(hw:JF (e.at_ 1) t) :
  e.fail t.tok=some (e.AH 1 t.node)/\KW (e.AH 1 t.node) l (rd.set t.node (e.time+Zbs ((e.at_ 1).fl.ba t.node) ((e.at_ 1).fl.ca t.node) ((e.at_ 1).fl.ji t.node) t.nth 0)) T/\Jj (e.at_ 1) ((e.AH 1 t.node).at_ 1):=by
 have i1:=h.i1;have f:=h.task p hw;have hk:=(h.tk t p).k;have a:e.fail t.tok=some (e.AH 1 t.node):=by unfold Ab.fail;rw[f]
 have n:=Bq.AH OR h.ok trivial i1 hk hw.1;have j:=h.ok.fail a;have o:=h.ok.wk.runs 1 i1;have r:=o.fl.node t.node (by rw[<-o.len];exact hk)
 have i:(e.AH 1 t.node).time=e.time:=by
  unfold Ab.AH;simp only
  split
  .rfl
  .unfold Ab.settle;split<;>rfl
 obtain⟨b,hm⟩:=h.call n j (h.up.fail h.ok a) (T':=T) (by rw[i];exact h.time);refine⟨a,{ b with rl:=by rw[QAo];exact b.rl,rdy:=fun k d=> ?_ },hm⟩;have v:=b.rl;by_cases c:t.node=k
 .subst c
  rw[ZQ,List.getElem?_set_self (by omega),Option.getD_some];by_cases c2:((e.at_ 1).at_ t.node).tries<(e.at_ 1).fl.bu t.node
  .have hb:=Ff r ((e.at_ 1).at_ t.node).tries e.Ar
   have q:((e.AH 1 t.node).at_ 1).at_ t.node={ (e.at_ 1).at_ t.node with st:=4,fin:=Zao e.time (Zbs ((e.at_ 1).fl.ba t.node) ((e.at_ 1).fl.ca t.node) ((e.at_ 1).fl.ji t.node) ((e.at_ 1).at_ t.node).tries e.Ar),BM:=e.timers+1 }:=by
    have u:(e.AH 1 t.node).runs=(e.Af 1 t.node (fun s=>{ s with st:=4,fin:=Zao e.time (Zbs ((e.at_ 1).fl.ba t.node) ((e.at_ 1).fl.ca t.node) ((e.at_ 1).fl.ji t.node) s.tries e.Ar),BM:=e.timers+1 })).runs:=by rw[Ed c2];rfl
    rw[Zbf u i1,if_pos rfl,Za7 _ _ hk]
   rw[q];refine⟨fun x=>by replace x:(4:Int)=1\/(4:Int)=2\/(4:Int)=3:=x;omega,fun _=> ?_⟩;show _<=Zao _ _;rw[hw.2,h.sd] at hb ⊢;have:=h.time;unfold Zao
   split<;>omega
  .obtain⟨_,g⟩:=Lx OR h.ok trivial i1 hk hw.1 c2
   have m:((e.Af 1 t.node (fun s=>{ s with st:=6 })).at_ 1)=(e.at_ 1).Af t.node (fun s=>{ s with st:=6 }):=by rw[Zbf (e':=e.Af 1 t.node (fun s=>{ s with st:=6 })) rfl i1,if_pos rfl]
   have g1:=(g.run 1 (by rw[Za9 (e':=e.Af 1 t.node (fun s=>{ s with st:=6 })) rfl];exact i1)).ov t.node (by rw[m,Zal];exact hk);rw[m,Za7 _ _ hk] at g1;have g2:=g1 (Zj (Zu rfl))
   replace g2:_=(6:Int):=g2
   exact⟨fun x=>by omega,fun x=>by omega⟩
 .rw[ZQ,List.getElem?_set_ne c,<-ZQ]
  exact b.rdy k d
theorem EG.Cc {e:Ab}{F:Ad}(h:EG e F):KW e [] (QAw F.n 0) 3:=by
 refine⟨h.ok,h.up,h.len,h.id,h.lr,h.old,h.sd,Int.le_of_eq h.time,?_,by rw[h.sl,List.length_replicate],fun k hk c=> ?_,fun t a=>(by cases a),fun k hk=> ?_⟩
 .obtain⟨k,q1,b,_⟩:=h.ok.goes 1 (by rw[h.len];decide) h.st
  exact⟨fun x=>by have:=h.st;omega,fun x=>absurd (x k q1) b⟩
 .rw[h.sl] at hk
  have:=(h.nd k hk).2;omega
 .rw[h.sl] at hk
  have hn:=(h.nd k hk).2;have:(QAw F.n (0:Int)).getD k 0=0:=by rw[ZQ,List.getElem?_replicate];split<;>rfl
  rw[this,h.time];exact⟨fun _=>by decide,fun x=>by omega⟩
end Go.Proofs.YtgdcjccbdmcebaaGreatDoor
namespace Go.Proofs.YtgdcjccbdmcebaaGreatDoor.Laid
open Go.RowKit Go.ChangeShapes Go.WideShapes Go.Proofs.YtgdcjccbdmcebaaGreatDoor
theorem gTab:prog.globalNamed "math/bits.deBruijn64tab"=some 2:=by kernel_rfl
theorem UZ:(prog.globals[2]?).map (·.type)=some 427:=by kernel_rfl
theorem XW:prog.cellsOf 427=64:=by kernel_rfl
theorem cells5:prog.cellsOf 5=1:=by kernel_rfl
def ZL:List Int:=Lib.deBruijn64tab.map QHu
theorem ZM:∀j,j<64->ZL.getD j 0=((Lib.deBruijn64tab.getD j 0:Nat):Int):=by decide
theorem tab_of {W:World}(a:laidMetH prog [("math/bits.deBruijn64tab",Lib.tabData .u8 ZL)] W):AP W:=by
 have b:Lib.TabIs prog W "math/bits.deBruijn64tab" .u8 ZL:=Lib.tabIs_of_head (rest:=[]) gTab UZ underlying427 underlying5 cells5 XW a;intro j c;rw[<-ZM j c]
 exact b.cell gTab j (by have:ZL.length=64:=by decide
                         omega)
theorem et:prog.globalNamed "errors.errorType"=some 0:=by kernel_rfl
theorem rt:(prog.cutTypes.find? (·.1 == "internal/reflectlite.rtype")).map (·.2)=some 340:=by kernel_rfl
theorem oneRow:((QAr 496).filter fun t=>prog.rowNamed t [101,114,114,111,114])=[98]:=by kernel_rfl
theorem size:prog.types.size=496:=by kernel_rfl
theorem err_of {W:World}(h:laidMetH prog [("errors.errorType",Rows.laid_errors_errorType)] W):Ay W:=by
 have f:laidMet prog [] W/\handlesMet prog [("errors.errorType",Rows.laid_errors_errorType)] W:=h;obtain⟨name,u,ty,b,c,d,e,a⟩:=f.2 _ (List.mem_singleton.2 rfl);have en:name=[101,114,114,111,114]:=(Option.some.inj b).symm;subst en;obtain rfl:=Option.some.inj (rt.symm.trans c);have hm:ty∈(QAr 496).filter fun t=>prog.rowNamed t [101,114,114,111,114]:=List.mem_filter.2 ⟨List.mem_range.2 (by rw[<-size];exact d),e⟩
 rw[oneRow] at hm;obtain rfl:=List.mem_singleton.1 hm;have hh:typeHandle prog 98=.pointer (some ⟨4,98,none⟩):=by kernel_rfl
 rw[hh] at a;have:=World.var?_cell et a 0;exact this
def lay32:Obj->Obj
 | .cells _ t frozen=> .cells (Lib.deBruijn32tab.map fun n=>Value.int .u8 (QHu n)).toArray t frozen
 | o=>o
def lay64:Obj->Obj
 | .cells _ t frozen=> .cells (Lib.deBruijn64tab.map fun n=>Value.int .u8 (QHu n)).toArray t frozen
 | o=>o
def layErr:Obj->Obj
 | .cells _ t frozen=> .cells #[.iface 340 (.agg #[.pointer (some ⟨4,98,none⟩)])] t frozen
 | o=>o
end Go.Proofs.YtgdcjccbdmcebaaGreatDoor.Laid
