import Derived.Test.YtgdcjccbdmcebabGreatDoorM04
import Derived.Test.YtgdcjccbdmcebabGreatDoorM11
set_option linter.unusedSimpArgs false
set_option linter.unusedVariables false
namespace Go.Proofs.YtgdcjccbdmcebabGreatDoor
open Go.RowKit
set_option maxRecDepth 100000
attribute [local go_sem ↓] Go.wp_at_zero Go.wp_at_succ
def Zdf (F:FlowD)(Na:Nat->Option Addr)(Nc:Nat->Nat)(k:Nat):NdM:=⟨F.bu k,F.cl k,F.be k,F.ba k,F.ca k,F.ji k,Na k,Nc k,(List.range (F.an k)).map (F.af k),1,0,0⟩
def Zco (F:FlowD)(Na:Nat->Option Addr)(Nc:Nat->Nat)(k:Nat):List NdM:=(List.range k).map (Zdf F Na Nc)
theorem freshL_len (F:FlowD)(Na:Nat->Option Addr)(Nc:Nat->Nat)(k:Nat):(Zco F Na Nc k).length=k:=by simp [Zco]
theorem freshL_succ (F:FlowD)(Na:Nat->Option Addr)(Nc:Nat->Nat)(k:Nat):Zco F Na Nc (k+1)=Zco F Na Nc k++[Zdf F Na Nc k]:=by unfold Zco;rw [List.range_succ,List.map_append];rfl
theorem freshL_at {F:FlowD}{Na:Nat->Option Addr}{Nc:Nat->Nat}{n k:Nat}(hk:k<n):(Zco F Na Nc n).getD k .z=Zdf F Na Nc k:=by
 unfold Zco
 rw [List.getD_eq_getElem?_getD,List.getElem?_map,List.getElem?_range hk];rfl
theorem freshNd_len (F:FlowD)(Na:Nat->Option Addr)(Nc:Nat->Nat)(k:Nat):(Zdf F Na Nc k).af.length=F.an k:=by simp [Zdf]
theorem infoNd:(Tryz.prog.info? 189).map (fun i=>(i.zero,i.size,i.bytes))=some (some (.agg #[.int .i64 0, .int .i64 0, .int .i64 0, .int .i64 0, .int .i64 0, .int .i64 0, .slice none 0 0, .int .i64 0, .int .i64 0, .int .u64 0]),10,96):=by kernel_rfl
theorem node_form {B:Nat}{w:World}{F:FlowD}{a:Option Addr}{c:Nat}{Na:Nat->Option Addr}{Nc:Nat->Nat}(h:CopyAt B w F (.slice a F.n c) F.n Na Nc)(hn:0<F.n):∃g,a=some ⟨g,0,none⟩/\g<w.heap.size/\F.n<=c/\∀i j,i<F.n->j<7->w.cell? ⟨g,i * 7+j,none⟩=(nodeL F i (Na i) (Nc i))[j]? :=by
 rcases h.own.2 with⟨_,h2⟩ | ⟨g,cap,cur,h2,hg,hh,h3,h4,h5,h6⟩
 ·omega
 ·obtain⟨h7,_,h8⟩:a=some ⟨g,0,none⟩/\F.n=F.n/\c=cap:=by simpa using h2
  subst h7 h8
  refine⟨g,rfl,Zaa hh,h3,fun i j hi hj=> ?_⟩
  rw [h.own.cellAt (i * 7+j) (by omega),nodesL_at F Na Nc F.n i j hi hj]
set_option maxHeartbeats 8000000 in
theorem newrun_any (w:World)(B:Nat)(id:Int)(F:FlowD)(a:Option Addr)(c:Nat)(Na:Nat->Option Addr)(Nc:Nat->Nat)(h:CopyAt B w F (.slice a F.n c) F.n Na Nc)(hn1:1<=F.n)(hn2:F.n<=12)(hB:B<=w.heap.size) :
  Calls Tryz.prog 86 #[.int .u64 id, .agg #[.int .i64 F.dl, .slice a F.n c]] w fun e w'=>∃r,e= .returned (.pointer (some ⟨r.b,0,none⟩))/\r.id=id/\r.st=1/\r.ns=Zco F Na Nc F.n/\w.heap.size<=r.b/\w.heap.size<=r.ng/\RnAt w' B r/\Below w.heap.size w w':=by
 obtain⟨g,rfl,hgl,hnc,hcell⟩:=node_form h hn1
 have H:=Hid.mk (And.intro h hcell)
 obtain⟨n,hn⟩:∃n,n=F.n:=⟨_,rfl⟩
 have HN:=Hid.mk hn
 rw [<-hn] at hn1 hn2 hnc ⊢
 obtain⟨i10,hi,hz0,hz1,hz2⟩:=info_parts infoNd
 have HI:=Hid.mk (And.intro hi (And.intro hz0 (And.intro hz1 hz2)))
 clear h hcell hn hi hz0 hz1 hz2
 go_enter Tryz.func86,Tryz.ntmps86
 go_wp2_with fail
 go_loopw [14] (fun iv wr=>∃(i:Nat) (xa:Option Addr) (xc:Nat),iv= .int .i64 i/\i<=n/\wr.heap[w.heap.size+1]? =some (.cells #[.int .u64 id, .int .i64 1, .slice xa i xc] 178 (0,0))/\wr.ownsRow w.heap.size 189 10 (.slice xa i xc) i ((Zco F Na Nc i).flatMap knV)/\Below w.heap.size w wr) (fun iv _=>n - (intOf iv).toNat)
 case atStart =>
  refine⟨0,none,0,rfl,by omega,?_,World.ownsRow_nil _ _ _ _,((Below.refl _ _).alloc (Nat.le_refl _) _).alloc (by simp) _⟩
  exact Zbd _ _ _ _ (by simp)
 case round =>
  obtain⟨i,xa,xc,rfl,hi,hrun,hown,hbl⟩:=hrel
  have HR:=Hid.mk (And.intro hrun (And.intro hown hbl))
  have hws:w.heap.size+1<wr.heap.size:=Zaa hrun
  by_cases h1:i<n
  ·have hiF:i<F.n:=by have:=HN.out;omega
   have t:∀j v,(nodeL F i (Na i) (Nc i))[j]? =some v->wr.cell? ⟨g,i * 7+j,none⟩=some v:=by
    intro j v hv
    have hj:j<7:=(List.getElem?_eq_some_iff.1 hv).1
    exact (World.cell?_of_block (a:=⟨g,i * 7+j,none⟩) (hbl.block g hgl)).trans ((H.out.2 i j hiF hj).trans hv)
   have t0:wr.cell? ⟨g,i * 7,none⟩=some (.int .i64 (F.bu i)):=t 0 _ rfl
   have t1:=t 1 _ rfl;have t2:=t 2 _ rfl;have t3:=t 3 _ rfl;have t4:=t 4 _ rfl;have t5:=t 5 _ rfl;have t6:=t 6 _ rfl
   have i1:(i:Int)<(n:Int):=by omega
   obtain⟨w2,hw2⟩:∃w2,w2=wr.alloc (.cells #[.int .i64 (F.bu i), .int .i64 (F.cl i), .int .i64 (F.be i), .int .i64 (F.ba i), .int .i64 (F.ca i), .int .i64 (F.ji i), .slice (Na i) (F.an i) (Nc i)] 34):=⟨_,rfl⟩
   obtain⟨nb,hnb⟩:∃nb,nb=wr.heap.size:=⟨_,rfl⟩
   have hb2:Below wr.heap.size wr w2:=by rw [hw2];exact (Below.refl _ _).alloc (Nat.le_refl _) _
   have hblk:w2.heap[nb]? =some (.cells #[.int .i64 (F.bu i), .int .i64 (F.cl i), .int .i64 (F.be i), .int .i64 (F.ba i), .int .i64 (F.ca i), .int .i64 (F.ji i), .slice (Na i) (F.an i) (Nc i)] 34 (0,0)):=by rw [hw2,hnb];exact heap_alloc_new _ _
   have hrun2:=(hb2.block _ hws).trans hrun
   have u0:w2.cell? ⟨nb,0,none⟩=some (.int .i64 (F.bu i)):=by unfold World.cell?;rw [hblk];rfl
   have u1:w2.cell? ⟨nb,1,none⟩=some (.int .i64 (F.cl i)):=by unfold World.cell?;rw [hblk];rfl
   have u2:w2.cell? ⟨nb,2,none⟩=some (.int .i64 (F.be i)):=by unfold World.cell?;rw [hblk];rfl
   have u3:w2.cell? ⟨nb,3,none⟩=some (.int .i64 (F.ba i)):=by unfold World.cell?;rw [hblk];rfl
   have u4:w2.cell? ⟨nb,4,none⟩=some (.int .i64 (F.ca i)):=by unfold World.cell?;rw [hblk];rfl
   have u5:w2.cell? ⟨nb,5,none⟩=some (.int .i64 (F.ji i)):=by unfold World.cell?;rw [hblk];rfl
   have u6:w2.cell? ⟨nb,6,none⟩=some (.slice (Na i) (F.an i) (Nc i)):=by unfold World.cell?;rw [hblk];rfl
   obtain⟨rb,hrb⟩:∃rb,rb=w.heap.size+1:=⟨_,rfl⟩
   rw [<-hrb] at hrun2 hws
   have hrw:w.heap.size<=rb:=by omega
   have m2:w2.cell? ⟨rb,2,none⟩=some (.slice xa i xc):=by unfold World.cell?;rw [hrun2];rfl
   have mz:w2.frozen? ⟨rb,2,none⟩=false:=by unfold World.frozen?;rw [hrun2];rfl
   have hown2:=Zah hown hb2
   have HW:=Hid.mk (And.intro hw2 (And.intro hnb (And.intro hb2 (And.intro hrun2 hrb))))
   have hs2:w2.heap.size=wr.heap.size+1:=by rw [hw2];simp
   have hrl:rb<w2.heap.size:=by omega
   have hwz:w.heap.size<=w2.heap.size:=by omega
   have HS2:=Hid.mk hs2
   clear hs2
   have HO:=Hid.mk hown2
   clear t hrun hown hbl hblk hb2 hrun2 hown2
   rw [<-hrb]
   clear hrb hw2 hnb
   go_upto_region 5 with fail
   rw [<-HW.out.2.1,<-HW.out.1]
   clear t0 t1 t2 t3 t4 t5 t6
   obtain⟨w2a,hw2a⟩:∃w2a,w2a=w2.alloc (.cells #[.int .i64 (F.bu i), .int .i64 (F.cl i), .int .i64 (F.be i), .int .i64 (F.ba i), .int .i64 (F.ca i), .int .i64 (F.ji i), .slice (Na i) (F.an i) (Nc i), .int .i64 1, .int .i64 0, .int .u64 0] 189):=⟨_,rfl⟩
   have m2a:=cell_later (((Below.refl w2.heap.size w2).alloc (Nat.le_refl _) (.cells #[.int .i64 (F.bu i), .int .i64 (F.cl i), .int .i64 (F.be i), .int .i64 (F.ba i), .int .i64 (F.ca i), .int .i64 (F.ji i), .slice (Na i) (F.an i) (Nc i), .int .i64 1, .int .i64 0, .int .u64 0] 189)).drew) m2
   have m2b:=cell_later ((Below.refl w2.heap.size w2).alloc (Nat.le_refl _) (.cells #[.int .i64 (F.bu i), .int .i64 (F.cl i), .int .i64 (F.be i), .int .i64 (F.ba i), .int .i64 (F.ca i), .int .i64 (F.ji i), .slice (Na i) (F.an i) (Nc i), .int .i64 1, .int .i64 0, .int .u64 0] 189)) m2
   have hMq:some rb≠(Value.slice xa i xc).ownBlock:=fun x=>by
    rcases HO.out.2 with⟨h2,_⟩ | ⟨g2,cap,cur,h2,_,hh,_⟩
    ·rw [h2] at x;simp [Value.ownBlock] at x
    ·rw [h2] at x
     simp only [Value.ownBlock,Option.some.injEq] at x
     exact Zak HW.out.2.2.2.1 hh (by decide) x
   go_region_law ((refine step_append_lies _ (by rfl) _ _ _ (by rfl) w.heap.size 189 i10 _ 10 96 Tryz.underlying176 HI.out.1 HI.out.2.1 HI.out.2.2.1 HI.out.2.2.2 rfl (by omega) (.slice xa i xc) i ((Zco F Na Nc i).flatMap knV) (by rfl) ((HO.out.alloc _).drew) ⟨w2.heap.size,0,none⟩ 1 1 [.int .i64 (F.bu i), .int .i64 (F.cl i), .int .i64 (F.be i), .int .i64 (F.ba i), .int .i64 (F.ca i), .int .i64 (F.ji i), .slice (Na i) (F.an i) (Nc i), .int .i64 1, .int .i64 0, .int .u64 0] (by rfl) (by rfl) (World.news_of_block (cs:=#[.int .i64 (F.bu i), .int .i64 (F.cl i), .int .i64 (F.be i), .int .i64 (F.ba i), .int .i64 (F.ca i), .int .i64 (F.ji i), .slice (Na i) (F.an i) (Nc i), .int .i64 1, .int .i64 0, .int .u64 0]) (t:=189) (fr:=(0,0)) (heap_alloc_new w2 _)) (by simp [Value.oneCell']) (by omega) (by unfold maxLen;omega) (by omega) (by simp;omega) (w2.heap.size+1) (by simp) ?_;intro gg gcap w7 hown7 hgrow hat hlt;have s1:=(hgrow.cell_far ⟨rb,2,none⟩ (by simp;omega) hMq).trans (cell_later (((Below.refl w2.heap.size w2).alloc (Nat.le_refl _) _).drew) m2);have sz:=(hgrow.frozen_far ⟨rb,2,none⟩ (by simp;omega) hMq).trans (((((Below.refl w2.heap.size w2).alloc (Nat.le_refl _) (.cells #[.int .i64 (F.bu i), .int .i64 (F.cl i), .int .i64 (F.be i), .int .i64 (F.ba i), .int .i64 (F.ca i), .int .i64 (F.ji i), .slice (Na i) (F.an i) (Nc i), .int .i64 1, .int .i64 0, .int .u64 0] 189)).drew).frozen (p:=⟨rb,2,none⟩) (by simp only [];omega)).trans mz)))
   all_goals
    have HK:=Hid.mk (And.intro hown7 (And.intro hgrow hat))
    clear hown7 hgrow hat hlt s1 sz m2 m2a m2b mz
    go_wp2_with fail
    refine⟨?_,by simp [intOf];omega⟩
    obtain⟨k1,k2,k3⟩:=HK.out
    obtain⟨q1,q2,q3,q4,q5⟩:=HW.out
    have hb7:Below w.heap.size w w7:=by
     refine ((((HR.out.2.2.trans' q3).alloc (by omega) _).drew).grown k2 (by show w.heap.size<=(w2.alloc _).heap.size;simp;omega) (fun z hz=>(HO.out.lt z hz).1))
    have hrun7:w7.heap[rb]? =some (.cells #[.int .u64 id, .int .i64 1, .slice xa i xc] 178 (0,0)):=by
     refine (k2.block rb (by show rb<(w2.alloc _).heap.size;simp;omega) hMq).trans ?_
     exact (Zaj w2 _ rb hrl).trans q4
    have hs:=freshL_succ F Na Nc i
    refine⟨i+1,some ⟨gg,0,none⟩,gcap,by go_num,by omega,?_,?_,hb7.setCell (by show w.heap.size<=rb;omega) _⟩
    ·rw [Zac hrun7];rfl
    ·have k4:w7.ownsRow w.heap.size 189 10 (.slice (some ⟨gg,0,none⟩) (i+1) gcap) (i+1) ((Zco F Na Nc (i+1)).flatMap knV):=by
      rw [hs,List.flatMap_append,List.flatMap_singleton]
      have:knV (Zdf F Na Nc i)=[.int .i64 (F.bu i), .int .i64 (F.cl i), .int .i64 (F.be i), .int .i64 (F.ba i), .int .i64 (F.ca i), .int .i64 (F.ji i), .slice (Na i) (F.an i) (Nc i), .int .i64 1, .int .i64 0, .int .u64 0]:=by
       unfold knV Zdf;simp
      rw [this]
      exact k1
     exact Zad k4 hrun7 (by decide) _
  ·have e:i=n:=by omega
   subst e
   have i1:¬(i:Int)<(i:Int):=by omega
   clear h1 hrun hown hbl
   go_wp2_with fail
   go_ret
   obtain⟨k1,k2,k3⟩:=HR.out
   have hF:F.n=i:=HN.out.symm
   obtain⟨g2,cur,hg2,hgb,hh,hic⟩:∃g2 cur,xa=some ⟨g2,0,none⟩/\w.heap.size<=g2/\wr.heap[g2]? =some (.cells cur 189 (0,0))/\i<=xc:=by
    rcases k2.2 with⟨h2,_⟩ | ⟨g2,cap,cur,h2,hg,hh,h3,_⟩
    ·simp only [Value.slice.injEq] at h2;omega
    ·obtain⟨rfl,_,rfl⟩:xa=some ⟨g2,0,none⟩/\i=i/\xc=cap:=by simpa using h2
     exact⟨g2,cur,rfl,hg,hh,h3⟩
   subst hg2
   have hl:=freshL_len F Na Nc i
   refine⟨⟨w.heap.size+1,id,1,g2,xc,Zco F Na Nc i⟩,rfl,rfl,rfl,rfl,by simp,hgb,⟨?_,?_,?_,fun k hk=> ?_,?_,?_⟩,k3⟩
   ·show wr.heap[w.heap.size+1]? =_
    rw [k1];unfold rnC;simp only [hl]
   ·show B<=w.heap.size+1;omega
   ·show wr.ownsRow B _ 10 (.slice (some ⟨g2,0,none⟩) (Zco F Na Nc i).length xc) (Zco F Na Nc i).length _
    rw [hl]
    exact Zci k2 hB
   ·have hk':k<i:=by
     have:k<(Zco F Na Nc i).length:=hk
     omega
    have e:(⟨w.heap.size+1,id,1,g2,xc,Zco F Na Nc i⟩:RnM).at_ k=Zdf F Na Nc k:=freshL_at hk'
    rw [e]
    have:=Zah (H.out.1.aft k (by omega)) k3
    unfold AfAt
    have e2:afV (Zdf F Na Nc k).af=Zc5 (F.an k) (F.af k):=by unfold afV Zdf Zc5;simp
    rw [e2,freshNd_len]
    exact this
   ·show 1<=(Zco F Na Nc i).length;omega
   ·show (Zco F Na Nc i).length<=12;omega
end Go.Proofs.YtgdcjccbdmcebabGreatDoor
