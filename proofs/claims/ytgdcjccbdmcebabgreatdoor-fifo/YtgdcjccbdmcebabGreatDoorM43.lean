import Derived.Test.YtgdcjccbdmcebabGreatDoorM39
set_option linter.unusedSimpArgs false
set_option linter.unusedVariables false
namespace Go.Proofs.YtgdcjccbdmcebabGreatDoor
open Go.RowKit
set_option maxRecDepth 100000
attribute [local go_sem ↓] Go.wp_at_zero Go.wp_at_succ
theorem cutL_at {α:Type}{z:α}{l:List α}{o i:Nat}(ho:o<l.length):(cutL l o).getD i z=l.getD (if i<o then i else i+1) z:=getD_cut' l o i ho
theorem cutL_rn {rs:List RnM}{o i:Nat}(ho:o<rs.length):rnAt (cutL rs o) i=rnAt rs (if i<o then i else i+1):=cutL_at (z:=RnM.z) ho
theorem GF.known {w w':World}{P g:Nat}(h:OneF w w' g)(hP:P<w.heap.size)(hg:P≠g)(v:Value):GF w (w'.setCell ⟨P,4,none⟩ v) P (fun o=>o=4) (fun k=>k=g):=by
 have h1:=h.gf hP hg
 have h2:=GF.set w' P 4 v
 exact⟨Nat.le_trans h1.size h2.size,fun k hk hP' hS=>(h2.block k (Nat.lt_of_lt_of_le hk h1.size) hP' (fun x=>x)).trans (h1.block k hk hP' hS),fun o ho=>(h2.off o ho).trans (h1.off o (fun x=>x)),fun o=>(h2.froz o).trans (h1.froz o)⟩
theorem KF.known {w w':World}{P B g:Nat}(h:OneF w w' g)(hP:P<w.heap.size)(hg:P≠g)(hB:B<=g){cs:Array Value}{fr:Nat×Nat}(hh:w.heap[g]? =some (.cells cs 173 fr))(v:Value)(ob:Option Nat):KF w (w'.setCell ⟨P,4,none⟩ v) P B ob:=by
 have hg':=GF.known h hP hg v
 refine⟨h.os,h.tape,h.output,hg'.size,fun k hk hkP hr=>hg'.block k hk hkP (fun e=> ?_),fun _ o ho=>hg'.off o (by omega),fun _ o=>hg'.froz o⟩
 subst e
 rcases hr with hr | ⟨cs',t,fr',h1,_,_,h4,_⟩
 ·omega
 ·rw [hh] at h1
  simp only [Option.some.injEq,Obj.cells.injEq] at h1
  exact h4 h1.2.1.symm
theorem KpM.known {w w':World}{P B g:Nat}{ob:Option Nat}{rs rs':List RnM}{el:List Int}{qu:List PlD}{now:Nat}{l:List Tm}{lr lt sd:Int}(h:KpM w P B ob rs el qu now l lr lt sd)(hf:GF w w' P (fun o=>o=4) (fun k=>k=g)){cs:Array Value}{fr:Nat×Nat}(hh:w.heap[g]? =some (.cells cs 173 fr))(hk:∃ka kc,KnAt w' P B ka kc rs'):KpM w' P B ob rs' el qu now l lr lt sd:=by
 obtain⟨a,n,c,f,ys,h2,h2b⟩:=h.en
 obtain⟨a',n',c',f',ys',h3⟩:=h.qu
 refine⟨hk,⟨a,n,c,f,ys,h2.gf hf (fun o _ _=>by omega) (fun k cs t fr _ e ht _=>Zak e hh (by subst ht;decide)),h2b⟩,⟨a',n',c',f',ys',h3.gf hf (fun o _ _=>by omega) (fun k cs t fr _ e ht=>Zak e hh (by subst ht;decide))⟩,
  h.wh.gf hf (fun o _ _=>by omega) (fun k cs t fr _ e ht=>Zak e hh (by subst ht;decide)) (fun k es c _ e hk=>by subst hk;rw [hh] at e;cases e),(hf.off 728 (by omega)).trans h.lr,(hf.off 729 (by omega)).trans h.lt,(hf.off 730 (by omega)).trans h.sd,fun o=>(hf.froz o).trans (h.fz o)⟩
theorem KnAt.cut {w w':World}{P B g kc o:Nat}{rs:List RnM}(h:KnAt w P B (some ⟨g,0,none⟩) kc rs)(ho:o<rs.length)(hrow:RowAt w' B 173 1 rnP (some ⟨g,0,none⟩) kc (cutL rs o))(hf:OneF w w' g):KnAt (w'.setCell ⟨P,4,none⟩ (.slice (some ⟨g,0,none⟩) (cutL rs o).length kc)) P B (some ⟨g,0,none⟩) kc (cutL rs o):=by
 have hP:P<w.heap.size:=Nat.lt_of_lt_of_le h.pb h.bs
 obtain⟨_,cur,e,hgB,_,_,_,hh⟩:=Zdl h.row (by omega)
 obtain rfl:g=_:=by simpa using e
 have hPg:P≠g:=by have:=h.pb;omega
 have hg':=GF.known hf hP hPg (.slice (some ⟨g,0,none⟩) (cutL rs o).length kc)
 have hl:=Zd5 ho
 have hat:∀i,i<(cutL rs o).length->∃j,j<rs.length/\rnAt (cutL rs o) i=rnAt rs j/\(j=if i<o then i else i+1):=fun i hi=>⟨_,by split<;>omega,cutL_rn ho,rfl⟩
 refine⟨?_,fun x=>(hg'.froz x).trans (h.fz x),?_,fun i hi=> ?_,fun i j hi hj e=> ?_,fun i j hi hj e=> ?_,h.pb,Nat.le_trans h.bs hg'.size,by have:=h.few;omega⟩
 ·have:=hf.block P hP hPg
  have e2:w'.cell? ⟨P,4,none⟩=w.cell? ⟨P,4,none⟩:=World.cell?_of_block (a:=⟨P,4,none⟩) this
  exact World.cell?_setCell_same _ _ _ (e2.trans h.c)
 ·exact Zcu hrow (Ne.symm hPg) _
 ·obtain⟨j,hj,e,_⟩:=hat i hi
  rw [e]
  refine (h.runs j hj).keepT (fun k cs t fr hk e ht=>hg'.block k (Zaa e) (by have:=h.pb;omega) (Zak e hh (by rcases ht with rfl | rfl | rfl<;>decide)))
 ·obtain⟨i',hi',e1,e3⟩:=hat i hi
  obtain⟨j',hj',e2,e4⟩:=hat j hj
  rw [e1,e2] at e
  have:=h.bA i' j' hi' hj' e
  rw [e3,e4] at this
  split at this<;>split at this<;>omega
 ·obtain⟨i',hi',e1,e3⟩:=hat i hi
  obtain⟨j',hj',e2,e4⟩:=hat j hj
  rw [e1,e2] at e
  have:=h.gA i' j' hi' hj' e
  rw [e3,e4] at this
  split at this<;>split at this<;>omega
theorem ElIs.first {e:EngD}{el:List Int}{o:Nat}(h:ElIs el e)(wk:EngWk e)(ho:Zc3 e.runs e.runs.length=some o):∃el',el=(e.at_ o).id::el'/\ElIs el' (e.cut o):=by
 obtain⟨is,rfl,h2,h3⟩:=h
 obtain⟨o1,o2,o3⟩:=oldest_is ho
 have hm:o∈is:=(h2 o).2 ⟨o1,o2⟩
 cases is with
 | nil=>cases hm
 | cons a is =>
  have ha:a=o:=by
   have h4:=List.pairwise_cons.1 h3
   rcases List.mem_cons.1 hm with h5 | h5
   ·exact h5.symm
   ·have h6:=h4.1 o h5
    have h7:=(h2 a).1 (List.mem_cons_self ..)
    have h8:=o3 a h7.1 h7.2
    have:(e.at_ a).ended<(e.at_ o).ended:=h6
    have:(e.at_ o).ended<=(e.at_ a).ended:=h8
    omega
  subst ha
  have h4:=List.pairwise_cons.1 h3
  have hno:∀i,i∈is->i≠a:=fun i hi e2=>by
   have:=h4.1 i hi
   rw [e2] at this
   omega
  have hcl:=Zd4 e o1
  have hid:∀i,i∈is->(e.cut a).at_ (if i<a then i else i - 1)=e.at_ i:=fun i hi=>by
   have:=hno i hi
   rw [cut_at e o1]
   by_cases c:i<a
   ·rw [if_pos c,if_pos c]
   ·rw [if_neg c,if_neg (by omega),show i - 1+1=i by omega]
  refine⟨is.map (fun i=>(e.at_ i).id),by simp,is.map (fun i=>if i<a then i else i - 1),?_,fun i=> ?_,?_⟩
  ·rw [List.map_map]
   refine List.map_congr_left (fun i hi=> ?_)
   simp only [Function.comp]
   rw [hid i hi]
  ·rw [List.mem_map]
   constructor
   ·rintro⟨j,hj,rfl⟩
    have h7:=(h2 j).1 (List.mem_cons_of_mem _ hj)
    have:=hno j hj
    rw [hid j hj]
    refine⟨?_,h7.2⟩
    have:=h7.1
    split<;>omega
   ·rintro⟨h5,h6⟩
    rw [cut_at e o1] at h6
    obtain⟨j,hj⟩:∃j,j=if i<a then i else i+1:=⟨_,rfl⟩
    rw [<-hj] at h6
    have hja:j≠a:=by rw [hj];split<;>omega
    have hjl:j<e.runs.length:=by rw [hj];split<;>omega
    have h7:=(h2 j).2 ⟨hjl,h6⟩
    rcases List.mem_cons.1 h7 with h8 | h8
    ·exact absurd h8 hja
    ·refine⟨j,h8,?_⟩
     rw [hj]
     by_cases c:i<a
     ·rw [if_pos c,if_pos c]
     ·rw [if_neg c,if_neg (by omega)];omega
  ·rw [List.pairwise_map]
   refine h4.2.imp_of_mem (fun {i j} hi hj hij=> ?_)
   rw [hid i hi,hid j hj]
   exact hij
theorem engT_cut {e:EngD}{o:Nat}(ho:o<e.runs.length)(h1:(e.at_ o).st≠1)(t:Tm):EngT (e.cut o) t↔EngT e t:=by
 have hl:=Zd4 e ho
 constructor
 ·rintro⟨i,hi,h⟩
  rw [cut_at e ho] at h
  exact⟨_,by split<;>omega,h⟩
 ·rintro⟨i,hi,h⟩
  have hne:i≠o:=fun e2=>h1 (by rw [<-e2];exact h.1)
  refine⟨if i<o then i else i - 1,by split<;>omega,?_⟩
  rw [cut_at e ho]
  by_cases c:i<o
  ·rw [if_pos c,if_pos c];exact h
  ·rw [if_neg c,if_neg (by omega),show i - 1+1=i by omega];exact h
theorem TimR.cut {e:EngD}{l:List Tm}{o:Nat}(h:TimR e l)(ho:o<e.runs.length)(h1:(e.at_ o).st≠1):TimR (e.cut o) l:=by
 rw [Zbe] at h ⊢
 exact⟨h.1,fun t=>(h.2 t).trans (engT_cut ho h1 t).symm⟩
set_option maxHeartbeats 4000000 in
theorem kforget_any (w:World)(P B:Nat)(ob:Option Nat)(e:EngD)(rs:List RnM)(l:List Tm)(o:Nat)(h:KpX w P B ob e rs l)(wk:EngWk e)(hT:TimR e l)(ho:Zc3 e.runs e.runs.length=some o) :
  Calls Tryz.prog 85 #[.pointer (some ⟨P,4,none⟩)] w fun x w'=>x= .returned (.tuple #[])/\KpX w' P B ob (e.cut o) (cutL rs o) l/\TimR (e.cut o) l/\KF w w' P B ob:=by
 obtain⟨el,now,hM,htm,hel⟩:=h.ex
 obtain⟨o1,o2,_⟩:=oldest_is ho
 have hst:(e.at_ o).st≠1:=fun x=>by have:=((wk.runs o o1).goes).1 x;have o2:0<(e.at_ o).ended:=o2;omega
 obtain⟨el',rfl,hel'⟩:=hel.first wk ho
 obtain⟨ea,en,ec,ef,eys,hen,heb⟩:=hM.en
 obtain⟨ka,kc,hkn⟩:=hM.kn
 have hol:o<rs.length:=by rw [h.len];exact o1
 obtain⟨g,hg,hkc,hkm,hgB,hgs,_⟩:=hkn.ptr (by omega)
 subst hg
 obtain⟨id,hid⟩:∃id,id=(e.at_ o).id:=⟨_,rfl⟩
 rw [<-hid] at hen hM
 have hPB:=hM.pb
 have HPOP:=Hid.mk (popTU_any w P B en ec ef ea eys el' id hen)
 have hPg:P≠g:=by omega
 have HP:=Hid.mk (And.intro h (And.intro hM (And.intro htm (And.intro hel' (And.intro hen (And.intro heb (And.intro hkn (And.intro hol (And.intro hid (And.intro o1 hPg))))))))))
 have hn6:=hkn.few
 obtain⟨n,hn⟩:∃n,n=rs.length:=⟨_,rfl⟩
 have HN:=Hid.mk hn
 rw [<-hn] at hkc hn6
 clear h hM htm hel' hen heb hkn hid hel hol hn
 go_enter Tryz.func85,Tryz.ntmps85
 go_upto_region 1 with (go_at_call 134;refine HPOP.out.mono ?_;rintro _ w1 ⟨rfl,hp⟩;have HQ:=Hid.mk hp;clear hp)
 have hpl1:w.heap.size<=w1.heap.size:=by obtain⟨_,_,_,q⟩:=HQ.out;exact q.size
 obtain⟨w2,hw2⟩:∃w2,w2=w1.alloc (.cells #[.int .u64 id] 39):=⟨_,rfl⟩
 obtain⟨fx,hfx⟩:∃fx,fx=w1.heap.size:=⟨_,rfl⟩
 rw [<-hw2,<-hfx]
 have hPl1:P<w1.heap.size:=by omega
 have hB2:Below w1.heap.size w1 w2:=by rw [hw2];exact (Below.refl _ _).alloc (Nat.le_refl _) _
 have hbx:w2.heap[fx]? =some (.cells #[.int .u64 id] 39 (0,0)):=by rw [hw2,hfx];exact heap_alloc_new w1 _
 have H2:=Hid.mk (show ∃f' ys',KpM w2 P B ob rs el' e.queue now l e.lastRun e.lastTok e.seed/\KnAt w2 P B (some ⟨g,0,none⟩) kc rs/\KF w w2 P B ob/\FgAt w2 B g kc fx rs o id/\EAt w2 P B ea en ec f' ys' el' by
  obtain⟨h,hM,htm,hel',hen,heb,hkn,hol,hid,o1,hPg⟩:=HP.out
  obtain⟨f',ys',k1,k2⟩:=HQ.out
  have hM1:=hM.ended hen k2 ⟨_,_,_,_,_,k1,heb⟩
  have hkn1:KnAt w1 P B (some ⟨g,0,none⟩) kc rs:=hkn.gf (GF.of_rf k2 hM.pl) (by omega) (fun k cs t fr hB e ht hk=>by
   rcases hen.row.2 with⟨h2,_⟩ | ⟨g',cap,cur,h2,hg,hh,_⟩
   ·rw [h2] at hk;simp [Value.ownBlock] at hk
   ·rw [h2] at hk
    simp only [Value.ownBlock,Option.some.injEq] at hk
    exact Zak e hh (by rcases ht with rfl | rfl | rfl | rfl<;>decide) hk)
  have hkf:=KF.of_rfe hen k2
  rw [heb] at hkf
  have hkn2:=hkn1.below hB2
  refine⟨f',ys',hM1.below hB2,hkn2,hkf.trans (KF.of_below P B ob hB2) (ObTo.refl _ _),⟨hkn2.row,fun j hj=>⟨_,_,(hkn2.runs j hj).top,rfl⟩,hbx,hol,?_,fun j hj hjo=> ?_,hkn2.few⟩,k1.below hB2⟩
  ·rw [(h.runs o o1).id];exact hid.symm
  ·have hj':j<e.runs.length:=by rw [<-h.len];exact hj
   rw [(h.runs j hj').id,hid]
   exact fun x=>hjo (wk.id_inj hj' o1 x))
 have c4:w2.cell? ⟨P,4,none⟩=some (.slice (some ⟨g,0,none⟩) n kc):=by
  obtain⟨_,_,_,h2,_⟩:=H2.out
  rw [HN.out];exact h2.c
 have HD:=Hid.mk (show Calls Tryz.prog 135 #[.slice (some ⟨g,0,none⟩) n kc, .func (.func 136) #[] #[.pointer (some ⟨fx,0,none⟩)]] w2 fun x w3=>x= .returned (.slice (some ⟨g,0,none⟩) (cutL rs o).length kc)/\RowAt w3 B 173 1 rnP (some ⟨g,0,none⟩) kc (cutL rs o)/\OneF w2 w3 g/\(w3.cell? ⟨P,4,none⟩=some (.slice (some ⟨g,0,none⟩) n kc)/\w3.frozen? ⟨P,4,none⟩=false) by
  obtain⟨_,_,_,h2,_,h4,_⟩:=H2.out
  have:=delr_any w2 B g kc fx rs o id h4
  rw [<-HN.out] at this
  refine this.mono ?_
  rintro x w3 ⟨rfl,q1,q2⟩
  have hP2:P<w2.heap.size:=Nat.lt_of_lt_of_le h2.pb h2.bs
  have e1:=q2.block P hP2 hPg
  refine⟨rfl,q1,q2,?_,?_⟩
  ·rw [HN.out];exact (World.cell?_of_block (a:=⟨P,4,none⟩) e1).trans h2.c
  ·exact (World.frozen?_of_block (a:=⟨P,4,none⟩) e1).trans (h2.fz 4))
 clear hw2 hfx hB2 hbx
 go_wp2_with (go_at_call 135;refine HD.out.mono ?_;rintro _ w3 ⟨rfl,hr3,ho3,z1,z2⟩;have H3:=Hid.mk (And.intro hr3 ho3);clear hr3 ho3)
 go_end0
 obtain⟨f',ys',m1,m2,m3,m4,m5⟩:=H2.out
 obtain⟨h,hM,htm,hel',hen,heb,hkn,hol,hid,o1,hPg⟩:=HP.out
 obtain⟨cs,hh⟩:∃cs,w2.heap[g]? =some (.cells cs 173 (0,0)):=by
  obtain⟨_,cur,e,_,_,_,_,hh⟩:=Zdl m4.row (by omega)
  obtain rfl:g=_:=by simpa using e
  exact⟨cur,hh⟩
 have hg':=GF.known H3.out.2 m1.pl hPg (.slice (some ⟨g,0,none⟩) (cutL rs o).length kc)
 have hkn4:=m2.cut hol H3.out.1 H3.out.2
 have hM4:=m1.known hg' hh ⟨_,_,hkn4⟩
 refine⟨rfl,⟨⟨el',now,hM4,htm,hel'⟩,?_,fun i hi=> ?_⟩,hT.cut o1 hst,m3.trans (KF.known H3.out.2 m1.pl hPg hgB hh _ ob) (ObTo.refl _ _)⟩
 ·have:=Zd5 hol
  have:=Zd4 e o1
  have:=h.len
  omega
 ·have:=Zd4 e o1
  rw [cutL_rn hol,cut_at e o1]
  exact h.runs _ (by split<;>omega)
end Go.Proofs.YtgdcjccbdmcebabGreatDoor
namespace Go.Proofs.YtgdcjccbdmcebabGreatDoor
open Go.RowKit
set_option maxRecDepth 100000
theorem CopyAt.nf {w w':World}{P B c:Nat}{F:FlowD}{a:Option Addr}{k:Nat}{Na:Nat->Option Addr}{Nc:Nat->Nat}(h:CopyAt B w F (.slice a F.n c) k Na Nc)(hb:∀g cs t fr,B<=g->w.heap[g]? =some (.cells cs t fr)->(t=34\/t=3)->w'.heap[g]? =w.heap[g]?):CopyAt B w' F (.slice a F.n c) k Na Nc:=by
 have key:∀{e:TypeId} {size n:Nat} {v:Value} {xs:List Value},(e=34\/e=3)->w.ownsRow B e size v n xs->w'.ownsRow B e size v n xs:=by
  intro e size n v xs he ho
  refine⟨ho.1,?_⟩
  rcases ho.2 with h2 | ⟨g,cap,cur,h2,hg,hh,r⟩
  ·exact Or.inl h2
  ·exact Or.inr ⟨g,cap,cur,h2,hg,(hb g _ _ _ hg hh he).trans hh,r⟩
 exact⟨key (Or.inl rfl) h.own,fun i hi=>key (Or.inr rfl) (h.aft i hi)⟩
theorem CopyAt.side {w w':World}{P B c:Nat}{F:FlowD}{a:Option Addr}{k:Nat}{Na:Nat->Option Addr}{Nc:Nat->Nat}(h:CopyAt B w F (.slice a F.n c) k Na Nc)(hn:NF w w' P B):CopyAt B w' F (.slice a F.n c) k Na Nc :=
 h.nf (P:=P) (fun g cs t fr hg e ht=>hn.block g cs t fr hg e (by unfold KTy;rcases ht with rfl | rfl<;>simp))
theorem CopyAt.kf {w w':World}{P B c:Nat}{ob:Option Nat}{F:FlowD}{a:Option Addr}{k:Nat}{Na:Nat->Option Addr}{Nc:Nat->Nat}(h:CopyAt B w F (.slice a F.n c) k Na Nc)(hf:KF w w' P B ob)(hP:P<B):CopyAt B w' F (.slice a F.n c) k Na Nc :=
 h.nf (P:=P) (fun g cs t fr hg e ht=>hf.block g (Zaa e) (by omega) (Or.inr ⟨cs,t,fr,e,by rcases ht with rfl | rfl<;>decide,by rcases ht with rfl | rfl<;>decide,by rcases ht with rfl | rfl<;>decide,by rcases ht with rfl | rfl<;>decide,by rcases ht with rfl | rfl<;>decide,fun x=>by rcases ht with rfl | rfl<;>exact absurd x (by decide)⟩))
theorem RnIs.fresh {r:RnM}{e:EngD}{F:FlowD}{Na:Nat->Option Addr}{Nc:Nat->Nat}(h1:r.id=e.lastRun+1)(h2:r.st=1)(h3:r.ns=Zco F Na Nc F.n):RnIs r (e.fresh F):=by
 have hat:∀k,k<F.n->r.at_ k=Zdf F Na Nc k:=fun k hk=>by unfold RnM.at_;rw [h3];exact freshL_at hk
 have hl:=Zbp e F
 refine⟨h1,h2,by rw [h3,freshL_len,hl],fun k hk=> ?_,fun _ k hk=> ?_,fun h=>absurd rfl h⟩
 ·rw [hl] at hk
  rw [hat k hk,Zcn e F hk]
  exact⟨rfl,rfl⟩
 ·rw [hl] at hk
  rw [hat k hk,Zcn e F hk]
  exact⟨rfl,rfl,rfl,rfl,rfl,rfl,rfl,rfl⟩
theorem ElIs.more {el:List Int}{e:EngD}{F:FlowD}(h:ElIs el e):ElIs el (e.more F):=by
 obtain⟨is,rfl,h2,h3⟩:=h
 have hin:∀i,i∈is->i<e.runs.length:=fun i hi=>((h2 i).1 hi).1
 refine⟨is,List.map_congr_left (fun i hi=>by rw [Zbv e F (hin i hi)]),fun i=> ?_,h3.imp_of_mem (fun {i j} hi hj hij=>by rw [Zbv e F (hin i hi),Zbv e F (hin j hj)];exact hij)⟩
 rw [h2,Za2]
 constructor
 ·rintro⟨q1,q2⟩
  exact⟨by omega,by rw [Zbv e F q1];exact q2⟩
 ·rintro⟨q1,q2⟩
  by_cases c:i<e.runs.length
  ·rw [Zbv e F c] at q2;exact⟨c,q2⟩
  ·have:i=e.runs.length:=by omega
   subst this
   rw [Za1] at q2
   exact absurd q2 (by show ¬(0:Int)<0;omega)
theorem tim_more {e:EngD}(wk:EngWk e){F:FlowD}(hd:1<=F.dl){l l1:List Tm}(hT:TimR e l)(ha:Apart l){x:Int}(hc:CanIs l (keyI (e.lastRun+1) (-1) 0) x l1):TimR (e.more F) (l1++[⟨keyI (e.lastRun+1) (-1) 0,Zas e.time F.dl,e.timers+1⟩]):=by
 have hT':=Zbe.1 hT
 have hg:=hc.gone ha
 rw [Zbe]
 refine⟨rise_snoc (hc.rising hT'.1) (T:=e.timers) (fun t ht=>((hT'.2 t).1 ((hg t).1 ht).1).sq wk) (by show e.timers<e.timers+1;omega),fun t=> ?_⟩
 rw [List.mem_append,List.mem_singleton,hg,hT'.2,engT_more]
 constructor
 ·rintro (⟨q1,q2⟩ | h)
  ·exact Or.inl q1
  ·exact Or.inr h
 ·rintro (h | h)
  ·refine Or.inl ⟨h,fun e2=> ?_⟩
   obtain⟨i,hi,hr⟩:=h
   have h1:=hr.of (wk.n12 hi)
   have h2:OfRun (e.lastRun+1) t:=⟨-1,0,by omega,by omega,e2⟩
   have:=h1.uniq h2
   have:=wk.idB i hi
   omega
  ·exact Or.inr h
theorem GF.knownB {w w':World}{P:Nat}{ob:Option Nat}(h:w.grownBy w' ob)(hP:P<w.heap.size)(hg:some P≠ob)(v:Value):GF w (w'.setCell ⟨P,4,none⟩ v) P (fun o=>o=4) (fun k=>some k=ob):=by
 have h2:=GF.set w' P 4 v
 have e:=h.block P hP hg
 exact⟨Nat.le_trans h.size h2.size,fun k hk hP' hS=>(h2.block k (Nat.lt_of_lt_of_le hk h.size) hP' (fun x=>x)).trans (h.block k hk hS),fun o ho=>(h2.off o ho).trans (World.cell?_of_block (a:=⟨P,o,none⟩) e),fun o=>(h2.froz o).trans (World.frozen?_of_block (a:=⟨P,o,none⟩) e)⟩
theorem KpM.knownS {w w':World}{P B:Nat}{ob:Option Nat}{rs rs':List RnM}{el:List Int}{qu:List PlD}{now:Nat}{l:List Tm}{lr lt sd:Int}{S:Nat->Prop}(h:KpM w P B ob rs el qu now l lr lt sd)(hf:GF w w' P (fun o=>o=4) S)(hS:∀k,S k->∃cs fr,w.heap[k]? =some (.cells cs 173 fr))(hk:∃ka kc,KnAt w' P B ka kc rs'):KpM w' P B ob rs' el qu now l lr lt sd:=by
 obtain⟨a,n,c,f,ys,h2,h2b⟩:=h.en
 obtain⟨a',n',c',f',ys',h3⟩:=h.qu
 have no:∀{k:Nat} {cs:Array Value} {t:TypeId} {fr:Nat×Nat},w.heap[k]? =some (.cells cs t fr)->t≠173->¬S k:=by
  intro k cs t fr e ht hs
  obtain⟨cs',fr',hh⟩:=hS k hs
  exact Zak e hh ht rfl
 refine⟨hk,⟨a,n,c,f,ys,h2.gf hf (fun o _ _=>by omega) (fun k cs t fr _ e ht _=>no e (by subst ht;decide)),h2b⟩,⟨a',n',c',f',ys',h3.gf hf (fun o _ _=>by omega) (fun k cs t fr _ e ht=>no e (by subst ht;decide))⟩,
  h.wh.gf hf (fun o _ _=>by omega) (fun k cs t fr _ e ht=>no e (by subst ht;decide)) (fun k es c _ e hk=>by obtain⟨cs',fr',hh⟩:=hS k hk;rw [hh] at e;cases e),(hf.off 728 (by omega)).trans h.lr,(hf.off 729 (by omega)).trans h.lt,(hf.off 730 (by omega)).trans h.sd,fun o=>(hf.froz o).trans (h.fz o)⟩
theorem Zcf {rs:List RnM}{r:RnM}{i:Nat}(hi:i<rs.length+1):rnAt (rs++[r]) i=if i<rs.length then rnAt rs i else r:=by
 unfold rnAt
 rw [List.getD_eq_getElem?_getD]
 split
 ·rename_i c
  rw [List.getElem?_append_left c,List.getD_eq_getElem?_getD]
 ·rename_i c
  have:i=rs.length:=by omega
  subst this
  rw [List.getElem?_append_right (Nat.le_refl _),Nat.sub_self]
  rfl
theorem KnAt.snoc {w w7:World}{P B kc gg gcap:Nat}{ka:Option Addr}{rs:List RnM}{r:RnM}(h:KnAt w P B ka kc rs)(h5:rs.length<6)(hr:RnAt w B r)(hb:∀i,i<rs.length->(rnAt rs i).b≠r.b)(hg:∀i,i<rs.length->(rnAt rs i).ng≠r.ng)(hgr:w.grownBy w7 (Value.slice ka rs.length kc).ownBlock)(hrow:RowAt w7 B 173 1 rnP (some ⟨gg,0,none⟩) gcap (rs++[r])):KnAt (w7.setCell ⟨P,4,none⟩ (.slice (some ⟨gg,0,none⟩) (rs.length+1) gcap)) P B (some ⟨gg,0,none⟩) gcap (rs++[r])/\GF w (w7.setCell ⟨P,4,none⟩ (.slice (some ⟨gg,0,none⟩) (rs.length+1) gcap)) P (fun o=>o=4) (fun k=>some k=(Value.slice ka rs.length kc).ownBlock)/\(∀k,some k=(Value.slice ka rs.length kc).ownBlock->∃cs fr,w.heap[k]? =some (.cells cs 173 fr))/\some P≠(Value.slice ka rs.length kc).ownBlock:=by
 have hP:P<w.heap.size:=Nat.lt_of_lt_of_le h.pb h.bs
 have hS:∀k,some k=(Value.slice ka rs.length kc).ownBlock->B<=k/\∃cs fr,w.heap[k]? =some (.cells cs 173 fr):=fun k hk=>by
  rcases h.row.2 with⟨h2,_⟩ | ⟨g',cap,cur,h2,hg,hh,_⟩
  ·rw [h2] at hk;simp [Value.ownBlock] at hk
  ·rw [h2] at hk
   simp only [Value.ownBlock,Option.some.injEq] at hk
   subst hk
   exact⟨hg,_,_,hh⟩
 have hPS:some P≠(Value.slice ka rs.length kc).ownBlock:=fun e=>by have:=(hS P e).1;have:=h.pb;omega
 have hg':=GF.knownB hgr hP hPS (.slice (some ⟨gg,0,none⟩) (rs.length+1) gcap)
 have hgP:gg≠P:=by
  obtain⟨_,cur,e,hgB,_⟩:=Zdl hrow (by rw [List.length_append,List.length_singleton];omega)
  obtain rfl:gg=_:=by simpa using e
  have:=h.pb;omega
 have keep:∀r',RnAt w B r'->RnAt (w7.setCell ⟨P,4,none⟩ (.slice (some ⟨gg,0,none⟩) (rs.length+1) gcap)) B r':=fun r' hr'=>hr'.keepT (fun k cs t fr hk e ht=>hg'.block k (Zaa e) (by have:=h.pb;omega) (fun hs=>by
  obtain⟨_,cs',fr',hh⟩:=hS k hs
  exact Zak e hh (by rcases ht with rfl | rfl | rfl<;>decide) rfl))
 refine⟨⟨?_,fun x=>(hg'.froz x).trans (h.fz x),Zcu hrow hgP _,fun i hi=> ?_,fun i j hi hj e=> ?_,fun i j hi hj e=> ?_,h.pb,Nat.le_trans h.bs hg'.size,by rw [List.length_append,List.length_singleton];omega⟩,hg',fun k hk=>(hS k hk).2,hPS⟩
 ·have e2:w7.cell? ⟨P,4,none⟩=w.cell? ⟨P,4,none⟩:=World.cell?_of_block (a:=⟨P,4,none⟩) (hgr.block P hP hPS)
  rw [List.length_append,List.length_singleton]
  exact World.cell?_setCell_same _ _ _ (e2.trans h.c)
 ·rw [List.length_append,List.length_singleton] at hi
  rw [Zcf hi]
  split
  ·rename_i c;exact keep _ (h.runs i c)
  ·exact keep _ hr
 ·rw [List.length_append,List.length_singleton] at hi hj
  rw [Zcf hi,Zcf hj] at e
  split at e<;>split at e
  ·rename_i c d;exact h.bA i j c d e
  ·rename_i c d;exact absurd e (hb i c)
  ·rename_i c d;exact absurd e.symm (hb j d)
  ·omega
 ·rw [List.length_append,List.length_singleton] at hi hj
  rw [Zcf hi,Zcf hj] at e
  split at e<;>split at e
  ·rename_i c d;exact h.gA i j c d e
  ·rename_i c d;exact absurd e (hg i c)
  ·rename_i c d;exact absurd e.symm (hg j d)
  ·omega
theorem KF.knownS {w w':World}{P B:Nat}{S:Nat->Prop}(hos:w'.os=w.os)(htape:w'.tape=w.tape)(hout:w'.output=w.output)(hg':GF w w' P (fun o=>o=4) S)(hS:∀k,S k->B<=k/\∃cs fr,w.heap[k]? =some (.cells cs 173 fr))(ob:Option Nat):KF w w' P B ob:=by
 refine⟨hos,htape,hout,hg'.size,fun k hk hkP hr=>hg'.block k hk hkP (fun hs=> ?_),fun _ o ho=>hg'.off o (by omega),fun _ o=>hg'.froz o⟩
 obtain⟨hB,cs',fr',hh⟩:=hS k hs
 rcases hr with hr | ⟨cs,t,fr,h1,_,_,h4,_⟩
 ·omega
 ·rw [hh] at h1
  simp only [Option.some.injEq,Obj.cells.injEq] at h1
  exact h4 h1.2.1.symm
end Go.Proofs.YtgdcjccbdmcebabGreatDoor
