import Derived.Test.YtgdcjccbdmcebabGreatDoorM33
set_option linter.unusedSimpArgs false
set_option linter.unusedVariables false
namespace Go.Proofs.YtgdcjccbdmcebabGreatDoor
open Go.RowKit
set_option maxRecDepth 100000
attribute [local go_sem ↓] Go.wp_at_zero Go.wp_at_succ
def NodesAtK (w:World)(P:Nat)(a:Option Addr)(c:Nat)(ks:List Nat):Prop:=ks=[]\/∃g cur,a=some ⟨g,0,none⟩/\g≠P/\ks.length<=c/\w.heap[g]? =some (.cells cur 3 (0,0))/\∀j,j<ks.length->cur[j]? =some (.int .i64 ((ks.getD j 0:Nat):Int))
theorem NodesAtK.of_own {w:World}{P B:Nat}(hP:P<B){a:Option Addr}{c:Nat}{ks:List Nat}(h:w.ownsRow B 3 1 (.slice a ks.length c) ks.length (natV ks)):NodesAtK w P a c ks:=by
 rcases h.2 with⟨_,h2⟩ | ⟨g,cap,cur,h2,hgB,hh,h3,h4,h5,h6⟩
 ·left;exact List.eq_nil_of_length_eq_zero h2
 ·right
  obtain⟨h7,_,h8⟩:a=some ⟨g,0,none⟩/\ks.length=ks.length/\c=cap:=by simpa using h2
  subst h7 h8
  refine⟨g,cur,rfl,by omega,h3,hh,fun j hj=> ?_⟩
  have:(cur.toList.take (ks.length * 1))[j]? =(natV ks)[j]? :=by rw [h6]
  rw [List.getElem?_take_of_lt (by omega)] at this
  rw [<-Array.getElem?_toList,this]
  unfold natV
  rw [List.getElem?_map,List.getElem?_eq_getElem hj,List.getD_eq_getElem?_getD,List.getElem?_eq_getElem hj];rfl
theorem NodesAtK.at_ {w w':World}{P:Nat}{a:Option Addr}{c:Nat}{ks:List Nat}(h:NodesAtK w P a c ks)(hb:∀k cs fr,w.heap[k]? =some (Obj.cells cs 3 fr)->k≠P->w'.heap[k]? =w.heap[k]?):NodesAtK w' P a c ks:=by
 rcases h with h | ⟨g,cur,h1,h0,h2,h3,h4⟩
 ·exact Or.inl h
 ·exact Or.inr ⟨g,cur,h1,h0,h2,(hb g _ _ h3 h0).trans h3,h4⟩
theorem NodesAtK.kf {w w':World}{P B:Nat}{ob:Option Nat}{a:Option Addr}{c:Nat}{ks:List Nat}(h:NodesAtK w P a c ks)(hf:KF w w' P B ob):NodesAtK w' P a c ks :=
 h.at_ (fun k cs fr e hP=>hf.block k (Zaa e) hP (Or.inr ⟨cs,_,fr,e,by decide,by decide,by decide,by decide,by decide,fun x=>absurd x (by decide)⟩))
def Zdb (e:EngD)(i:Nat)(ks:List Nat):EngD:=ks.foldl (fun e k=>e.ready i k) e
theorem readyL_snoc (e:EngD)(i:Nat)(ks:List Nat)(k:Nat):Zdb e i (ks++[k])=(Zdb e i ks).ready i k:=by unfold Zdb;rw [List.foldl_append];rfl
def TimW (e:EngD)(i:Nat)(ks:List Nat)(l:List Tm):Prop:=Rising l/\∀t,t∈l↔EngT e t/\∀k∈ks,¬OwnT (e.at_ i).id k t
theorem TimW.done {e:EngD}{i:Nat}{l:List Tm}(h:TimW e i [] l):TimR e l:=by
 rw [Zbe]
 exact⟨h.1,fun t=>by rw [h.2];simp⟩
theorem TimW.step {e:EngD}(wk:EngWk e){i k:Nat}{ks:List Nat}{l:List Tm}(hi:i<e.runs.length)(hk:k<(e.at_ i).steps.length)(h:TimW e i (k::ks) l):TimW (e.ready i k) i ks l:=by
 refine⟨h.1,fun t=> ?_⟩
 have hid:((e.ready i k).at_ i).id=(e.at_ i).id:=by rw [ready_at e i k hi];rfl
 rw [h.2,hid,Zdv wk hi hk (f:=fun s=>{ s with st:=2 }) (e':=e.ready i k) rfl]
 have hno:¬NodeT (e.at_ i).id k { (e.at_ i).at_ k with st:=2 } t:=by
  rintro (⟨h1,_⟩ | ⟨h1,_⟩ | ⟨h1,_⟩)<;>simp at h1
 constructor
 ·rintro⟨h1,h2⟩
  exact⟨Or.inl ⟨h1,h2 k (List.mem_cons_self ..)⟩,fun m hm=>h2 m (List.mem_cons_of_mem _ hm)⟩
 ·rintro⟨h1 | ⟨_,h1⟩,h2⟩
  ·refine⟨h1.1,fun m hm=> ?_⟩
   rcases List.mem_cons.1 hm with rfl | hm
   ·exact h1.2
   ·exact h2 m hm
  ·exact absurd h1 hno
theorem TimR.toW {e:EngD}{l:List Tm}(h:TimR e l)(wk:EngWk e){i:Nat}{ks:List Nat}(hi:i<e.runs.length)(hk:∀k∈ks,k<(e.at_ i).steps.length/\((e.at_ i).at_ k).st=1):TimW e i ks l:=by
 rw [Zbe] at h
 refine⟨h.1,fun t=> ?_⟩
 rw [h.2]
 refine⟨fun h1=>⟨h1,fun k hm ho=> ?_⟩,fun h1=>h1.1⟩
 obtain⟨k1,k2⟩:=hk k hm
 rcases (h1.node wk hi k1 ho).2 with⟨g,_⟩ | ⟨g,_⟩ | ⟨g,_⟩<;>rw [k2] at g<;>cases g
set_option maxHeartbeats 8000000 in
theorem kready_any (w:World)(P B:Nat)(ob:Option Nat)(e:EngD)(rs:List RnM)(l:List Tm)(i c:Nat)(a:Option Addr)(ks:List Nat)(h:KpX w P B ob e rs l)(wk:EngWk e)(hi:i<e.runs.length)(h1:(e.at_ i).st=1)(hks:ks.Nodup/\∀k∈ks,k<(e.at_ i).steps.length/\(((e.at_ i).at_ k).st=1\/((e.at_ i).at_ k).st=4))(hT:TimW e i ks l)(hN:NodesAtK w P a c ks) :
  Calls Tryz.prog 88 #[.pointer (some ⟨P,4,none⟩), .pointer (some ⟨(rnAt rs i).b,0,none⟩), .slice a ks.length c] w fun x w'=>x= .returned (.tuple #[])/\∃rs',KpX w' P B ob (Zdb e i ks) rs' l/\SameB rs rs'/\TimR (Zdb e i ks) l/\EngWk (Zdb e i ks)/\Kin e (Zdb e i ks) i/\KF w w' P B ob:=by
 obtain⟨n,hn⟩:∃n,n=ks.length:=⟨_,rfl⟩
 have hn12:n<=12:=by
  have:=nodup_len ks (List.range (e.at_ i).steps.length) hks.1 (fun k hk=>List.mem_range.2 (hks.2 k hk).1)
  rw [List.length_range] at this
  have:=wk.n12 hi
  omega
 have H:=Hid.mk (And.intro h (And.intro wk (And.intro hi (And.intro h1 (And.intro hks (And.intro hT (And.intro hN hn)))))))
 rw [<-hn]
 obtain⟨b,hb⟩:∃b,b=(rnAt rs i).b:=⟨_,rfl⟩
 rw [<-hb]
 have HB:=Hid.mk hb
 clear h wk hi h1 hks hT hn hb
 rcases hN with hks0 | ⟨g,cur,rfl,hgP,hnc,hcur,hcell⟩
 ·have hn0:n=0:=by rw [H.out.2.2.2.2.2.2.2,hks0];rfl
  have HK0:=Hid.mk hks0
  rw [hn0]
  clear hks0 hn0
  go_enter Tryz.func88,Tryz.ntmps88
  go_wp2_with fail
  refine wp_loop_rounds 1 ?_
  rw [rounds_succ]
  go_wp2_with fail
  go_end0
  have hT:=H.out.2.2.2.2.2.1
  rw [HK0.out] at hT ⊢
  exact⟨rfl,rs,H.out.1,SameB.refl _,hT.done,H.out.2.1,Kin.refl _ _,KF.refl _ _ _ _⟩
 ·clear hcell hcur hgP
  go_enter Tryz.func88,Tryz.ntmps88
  go_wp2_with fail
  go_loopw [10] (fun iv wr=>∃(j:Nat) (rj:List RnM),iv= .int .i64 j/\j<=n/\KpX wr P B ob (Zdb e i (ks.take j)) rj l/\SameB rs rj/\TimW (Zdb e i (ks.take j)) i (ks.drop j) l/\EngWk (Zdb e i (ks.take j))/\Kin e (Zdb e i (ks.take j)) i/\KF w wr P B ob/\∀m,m ∉ ks.take j->m<(e.at_ i).steps.length->(((Zdb e i (ks.take j)).at_ i).at_ m)=(e.at_ i).at_ m) (fun iv _=>n - (intOf iv).toNat)
  case atStart=>exact⟨0,rs,rfl,by omega,H.out.1,SameB.refl _,H.out.2.2.2.2.2.1,H.out.2.1,Kin.refl _ _,KF.refl _ _ _ _,fun _ _ _=>rfl⟩
  case round =>
   obtain⟨j,rj,rfl,hj,hX,hSB,hTW,hwk,hkin,hkf,hsame⟩:=hrel
   obtain⟨ej,hej⟩:∃ej,ej=Zdb e i (ks.take j):=⟨_,rfl⟩
   rw [<-hej] at hX hTW hwk hkin hsame
   have HR:=Hid.mk (And.intro hX (And.intro hSB (And.intro hTW (And.intro hwk (And.intro hkin (And.intro hkf (And.intro hsame hej)))))))
   by_cases h1:j<n
   ·have hjl:j<ks.length:=by have:=H.out.2.2.2.2.2.2.2;omega
    obtain⟨k,hk⟩:∃k,k=ks.getD j 0:=⟨_,rfl⟩
    have hkm:k∈ks:=by rw [hk,List.getD_eq_getElem?_getD,List.getElem?_eq_getElem hjl];exact List.getElem_mem _
    obtain⟨hkl,hks⟩:=H.out.2.2.2.2.1.2 k hkm
    have hN2:NodesAtK wr P (some ⟨g,0,none⟩) c ks:=H.out.2.2.2.2.2.2.1.kf hkf
    have hnode:wr.cell? ⟨g,j,none⟩=some (.int .i64 k):=by
     rcases hN2 with h | ⟨g2,cur2,h1,_,_,h3,h4⟩
     ·rw [h] at hjl;simp at hjl
     ·obtain rfl:g=g2:=by simpa using h1
      unfold World.cell?
      rw [h3,hk]
      exact h4 j hjl
    obtain⟨el,now,hM,htm,hel⟩:=hX.ex
    obtain⟨ka,kc,hkn⟩:=hM.kn
    have hij:i<rj.length:=by rw [hX.len,hkin.len];exact H.out.2.2.1
    have hbj:(rnAt rj i).b=b:=by rw [HB.out];exact hSB.2 i (by have:=H.out.1.len;have:=H.out.2.2.1;omega)
    have hRn:=hkn.runs i hij
    obtain⟨⟨t0,_,t2⟩,_⟩:=hRn.topC
    obtain⟨_,_,hnc2,_,_,_⟩:=hRn.rowBlk
    have hRI:=hX.runs i (by rw [<-hX.len];exact hij)
    have hkj:k<(rnAt rj i).ns.length:=by rw [hRI.len,hkin.steps];exact hkl
    have t7:=(hRn.nd hkj).c7
    have f7:=hRn.froz (k * 10+7)
    have hset:=hRn.setNd (k:=k) (j:=7) (f:=fun n=>{ n with st:=2 }) (v:= .int .i64 2) hkj (by omega) rfl ⟨rfl,rfl,rfl⟩
    have hM1:=hM.run hij hset rfl rfl (RnF.setG wr (rnAt rj i).b (rnAt rj i).ng _ _)
    rw [hbj] at t0 t2
    have kj1:(k:Int)<((rnAt rj i).ns.length:Int):=by omega
    obtain⟨ng,hng⟩:∃ng,ng=(rnAt rj i).ng:=⟨_,rfl⟩
    rw [<-hng] at t2 t7 f7 hset hM1
    have HM1:=Hid.mk (And.intro hM1 (And.intro hset hng))
    have HK:=Hid.mk (And.intro hk (And.intro hkl (And.intro hks (And.intro hij (And.intro hbj (And.intro hRI (And.intro hkj (And.intro htm (And.intro hel hkm)))))))))
    have j1:(j:Int)<(n:Int):=by omega
    have HRN:=Hid.mk hRn
    generalize hz:(rnAt rj i).ns.length=z at *
    generalize (rnAt rj i).nc=nc at *
    have hz12:z<=12:=by rw [<-hz];exact HRN.out.few
    generalize (rnAt rj i).id=id at *
    clear hX hSB hTW hwk hkin hkf hsame hej hk hkm hkl hks hN2 hM htm hel hkn hij hbj hRn hRI hkj hset hM1 hng
    go_upto_region 4 with fail
    obtain⟨w1,hw1⟩:∃w1,w1=wr.setCell ⟨ng,k * 10+7,none⟩ (.int .i64 2):=⟨_,rfl⟩
    rw [<-hw1]
    have HM1':=HM1.out
    rw [<-hw1] at HM1'
    obtain⟨qa,qn,qc,qf,qys,hq⟩:=HM1'.1.qu
    have d0:w1.cell? ⟨b,0,none⟩=some (.int .u64 (rnAt rj i).id):=by
     have:=HM1'.2.1.topC.1.1
     have e2:((rnAt rj i).onNd k (fun n=>{ n with st:=2 })).b=b:=HK.out.2.2.2.2.1
     rw [e2] at this
     exact this
    have hrid:(rnAt rj i).id=(ej.at_ i).id:=HK.out.2.2.2.2.2.1.id
    rw [hrid] at d0
    obtain⟨rid,hrd⟩:∃rid,rid=(ej.at_ i).id:=⟨_,rfl⟩
    rw [<-hrd] at d0
    obtain⟨wp,hwp⟩:∃wp,wp=(w1.drew).alloc (.cells #[.int .u64 rid, .int .i64 k] 180):=⟨_,rfl⟩
    have hbp:Below w1.heap.size w1 wp:=by rw [hwp];exact ((Below.refl _ _).drew).alloc (Nat.le_refl _) _
    have hitem:ItemTR wp w1.heap.size ⟨rid,k⟩:=by
     obtain⟨z0,z1⟩:=(show _/\_ from hwp▸Zcr w1.drew rid k)
     refine⟨by rw [hwp];simp,fun j u hj=> ?_⟩
     unfold plS at hj
     match j,hj with
     | 0,hj=>simp at hj;subst hj;exact z0
     | 1,hj=>simp at hj;subst hj;exact z1
    have hqp:=hq.below hbp
    have hpb:=HM1'.1.pb
    have hql:ej.queue.length<=400:=by have:=HR.out.2.2.2.1.queue_len;omega
    have hpush:=pushTR_any wp P B qn qc qf w1.heap.size qa qys ej.queue ⟨rid,k⟩ hqp hitem (by omega) (fun e=>by have:=(hq.row.lt _ e.symm).2;omega) hql
    have hfar:∀w3,RF wp w3 P (Value.slice qa qn qc).ownBlock 8 11->w3.cell? ⟨b,0,none⟩=some (.int .u64 rid):=by
     intro w3 hf3
     have e2:((rnAt rj i).onNd k (fun n=>{ n with st:=2 })).b=b:=HK.out.2.2.2.2.1
     have htop:=HM1'.2.1.top
     rw [e2] at htop
     have hbl:b<w1.heap.size:=Zaa htop
     have hbB:B<=b:=by have:=HM1'.2.1.bb;rw [e2] at this;exact this
     refine (World.cell?_of_block (a:=⟨b,0,none⟩) (hf3.block b (by have:=hbp.size;omega) (by omega) (fun e=> ?_))).trans (cell_later hbp d0)
     rcases hq.row.2 with⟨h2,_⟩ | ⟨g',cap,cur',h2,_,hh,_⟩
     ·rw [h2] at e;simp [Value.ownBlock] at e
     ·rw [h2] at e
      simp only [Value.ownBlock,Option.some.injEq] at e
      exact Zak htop hh (by decide) e
    rw [hwp] at hpush hfar
    have HP:=Hid.mk (And.intro hpush hfar)
    have HQ:=Hid.mk (And.intro hq (And.intro hbp (And.intro hrd (And.intro hw1 hwp))))
    have HM2:=Hid.mk HM1'
    have hnew:=World.new_ne w1 ⟨b,0,none⟩ d0
    clear HM1' hq hbp hqp hitem hpush hfar hrd hw1 hpb hql hrid hwp
    go_region_held3 (fun w'=>w'.cell? ⟨b,0,none⟩=some (.int .u64 rid)) (go_keep) ((go_at_call 140;refine HP.out.1.mono ?_;rintro e w3 ⟨rfl,hq3⟩;have HQ3:=Hid.mk hq3;have v0:=HP.out.2 w3 hq3.choose_spec.choose_spec.choose_spec.choose_spec.choose_spec.2.1;clear hq3))
    all_goals
     go_wp2_with fail
     go_roundw
     case rel =>
      obtain⟨a',n',c',f',ys',p1,p2,p3⟩:=HQ3.out
      obtain⟨k1,k2,k3,k4,k5⟩:=HQ.out
      rw [<-k5] at p2 p3
      obtain⟨m1,m2,m3,m4,m5,m6,m7,m8,m9,m10⟩:=HK.out
      obtain⟨r1,r2,r3,r4,r5,r6,r7,r8⟩:=HR.out
      have hj:k<(ej.at_ i).steps.length:=by rw [r5.steps];exact m2
      have hie:i<ej.runs.length:=by rw [r5.len];exact H.out.2.2.1
      have hrf:RF w1 w3 P (Value.slice qa qn qc).ownBlock 8 11:=(RF.of_below P _ 8 11 k2).trans p2 (fun z hz=>Or.inl hz)
      have hM3:=HM2.out.1.queue k1 hrf ⟨_,_,_,_,_,p1⟩
      have hjl:j<ks.length:=by have:=H.out.2.2.2.2.2.2.2;omega
      have hkj:ks[j]=k:=by rw [m1,List.getD_eq_getElem?_getD,List.getElem?_eq_getElem hjl];rfl
      have htk:ks.take (j+1)=ks.take j++[k]:=by rw [List.take_add_one,List.getElem?_eq_getElem hjl,hkj];rfl
      have hdr:ks.drop j=k::ks.drop (j+1):=by rw [List.drop_eq_getElem_cons hjl,hkj]
      have hrl:Zdb e i (ks.take (j+1))=ej.ready i k:=by rw [htk,readyL_snoc,<-r8]
      have hnk:k ∉ ks.take j:=by
       intro hm
       have hd:=H.out.2.2.2.2.1.1
       rw [<-List.take_append_drop j ks,hdr] at hd
       exact (List.nodup_append.1 hd).2.2 k hm k (List.mem_cons_self ..) rfl
      have hes:(ej.at_ i).at_ k=(e.at_ i).at_ k:=r7 k hnk m2
      have hst1:(ej.at_ i).st=1:=by rw [r5.st];exact H.out.2.2.2.1
      have hwk2:EngWk (ej.ready i k):=r4.ready hie hj hst1 (by rw [hes];exact m3)
      have hset:=runs_set (e:=ej) (e':=ej.ready i k) (f:=fun d=>d.onStep k (fun s=>{ s with st:=2 })) r1.len r1.runs hie rfl (m6.setSt hst1 hj 2)
      have hat:=ready_at ej i k hie
      refine⟨j+1,rj.set i ((rnAt rj i).onNd k (fun n=>{ n with st:=2 })),by go_num,by omega,?_,?_,?_,by rw [hrl];exact hwk2,by rw [hrl];exact r5.trans (Kin.ready ej k hie),?_,?_⟩
      ·rw [hrl]
       refine⟨⟨el,now,?_,m8,?_⟩,hset.1,hset.2⟩
       ·rw [k3] at hM3
        exact hM3
       ·exact m9.same (ready_len ej i k) (fun x hx=>by
         have:=Za6 (e:=ej) (e':=ej.ready i k) (i:=i) (k:=k) (f:=fun s=>{ s with st:=2 }) rfl hx
         exact⟨this.1,this.2.2.2.2.2⟩)
      ·refine r2.trans ⟨by rw [List.length_set],fun x hx=> ?_⟩
       rw [Zc8 m4 hx]
       split
       ·rename_i e;subst e;rfl
       ·rfl
      ·rw [hrl]
       rw [hdr] at r3
       exact r3.step r4 hie hj
      ·have g1:KF wr w1 P B ob:=by
        rw [k4]
        have hRn:=HRN.out
        have hf:=RnF.setG wr (rnAt rj i).b (rnAt rj i).ng (k * 10+7) (.int .i64 2)
        rw [<-HM1.out.2.2] at hf
        exact KF.of_rn (r:=rnAt rj i) hRn (by rw [<-HM1.out.2.2];exact hf) HM2.out.1.pb.1
       exact (r6.trans g1 (ObTo.refl _ _)).trans (KF.of_rfq k1 hrf ob) (ObTo.refl _ _)
      ·intro m hm hml
       rw [htk,List.mem_append,List.mem_singleton] at hm
       rw [hrl,hat,Zbb _ _ (fun e=>hm (Or.inr e.symm))]
       exact r7 m (fun h=>hm (Or.inl h)) hml
     case measure=>simp [intOf];omega
   ·have e:j=n:=by omega
    have HE:=Hid.mk e
    have j1:¬(j:Int)<(n:Int):=by omega
    clear e h1 hX hSB hTW hwk hkin hkf hsame hej
    go_wp2_with fail
    go_end0
    obtain⟨r1,r2,r3,r4,r5,r6,r7,r8⟩:=HR.out
    have hk:=H.out.2.2.2.2.2.2.2
    rw [List.take_of_length_le (by have:=HE.out;omega)] at r8
    rw [r8] at r1 r4 r5
    rw [List.drop_of_length_le (by have:=HE.out;omega),r8] at r3
    exact⟨rfl,rj,r1,r2,r3.done,r4,r5,r6⟩
def TimE (e:EngD)(i:Nat)(l:List Tm):Prop:=Rising l/\(∀t,t∈l->EngT e t)/\∀t,EngT e t->¬OfRun (e.at_ i).id t->t∈l
theorem TimR.toE {e:EngD}{l:List Tm}(h:TimR e l)(i:Nat):TimE e i l:=by
 rw [Zbe] at h
 exact⟨h.1,fun t ht=>(h.2 t).1 ht,fun t ht _=>(h.2 t).2 ht⟩
def TimS (l:List Tm)(id:Int)(j:Nat)(lj:List Tm):Prop:=Rising lj/\∀t,t∈lj↔t∈l/\t.id≠keyI id (-1) 0/\∀k,k<j->¬OwnT id k t
theorem TimS.first {l l1:List Tm}{id:Int}(hr:Rising l)(ha:Apart l)(h:StopR l (keyQ id (-1) [0]) l1):TimS l id 0 l1:=by
 obtain⟨_,_,h3,h4⟩:=h.all ha
 refine⟨h3 hr,fun t=> ?_⟩
 rw [h4]
 simp only [keyQ,List.map_cons,List.map_nil,List.mem_singleton]
 exact⟨fun h=>⟨h.1,h.2,fun k hk=>by omega⟩,fun h=>⟨h.1,h.2.1⟩⟩
theorem TimS.next {l lj l2:List Tm}{id:Int}{j:Nat}(h:TimS l id j lj)(ha:Apart lj)(hs:StopR lj (keyQ id j [1,2,3]) l2):TimS l id (j+1) l2:=by
 obtain⟨_,_,h3,h4⟩:=hs.all ha
 refine⟨h3 h.1,fun t=> ?_⟩
 rw [h4,h.2]
 have ho:(t.id ∉ keyQ id j [1,2,3])↔¬OwnT id j t:=by
  unfold keyQ OwnT
  simp only [List.map_cons,List.map_nil,List.mem_cons,List.not_mem_nil,or_false,not_or]
  constructor
  ·rintro⟨a,b,c⟩ ⟨q,q1,q2,q3⟩
   have:q=1\/q=2\/q=3:=by omega
   rcases this with rfl | rfl | rfl
   ·exact a q3
   ·exact b q3
   ·exact c q3
  ·intro g
   exact⟨fun x=>g ⟨1,by decide,by decide,x⟩,fun x=>g ⟨2,by decide,by decide,x⟩,fun x=>g ⟨3,by decide,by decide,x⟩⟩
 rw [ho]
 constructor
 ·rintro⟨⟨a,b,c⟩,d⟩
  refine⟨a,b,fun k hk=> ?_⟩
  by_cases e:k=j
  ·subst e;exact d
  ·exact c k (by omega)
 ·rintro⟨a,b,c⟩
  exact⟨⟨a,b,fun k hk=>c k (by omega)⟩,c j (by omega)⟩
theorem TimS.done {e:EngD}{l lj:List Tm}{i:Nat}(wk:EngWk e)(hi:i<e.runs.length){st:Int}(hst:st≠1)(hE:TimE e i l)(h:TimS l (e.at_ i).id (e.at_ i).steps.length lj):TimR (e.end_ i st) lj:=by
 rw [Zbe]
 refine⟨h.1,fun t=> ?_⟩
 rw [h.2,engT_end wk hi hst]
 constructor
 ·rintro⟨a,b,c⟩
  refine⟨hE.2.1 t a,fun ho=> ?_⟩
  obtain⟨j,hj,h1,h2⟩:=hE.2.1 t a
  have hid:=ho.uniq (RunT.of ⟨h1,h2⟩ (wk.n12 hj))
  obtain rfl:=wk.id_inj hi hj hid
  rcases h2 with h2 | ⟨k,hk,h3⟩
  ·exact b (by rw [h2])
  ·exact c k hk h3.own
 ·rintro⟨a,b⟩
  refine⟨hE.2.2 t a b,fun x=>b ⟨-1,0,by omega,by omega,x⟩,fun k hk ho=>b (ho.of (by have:=wk.n12 hi;omega))⟩
theorem kinds_new (w:World)(qs:List Int):KindsAt (w.alloc (.cells (qs.map (fun q=>Value.int .i64 q)).toArray 181)) w.heap.size qs:=by
 refine⟨_,heap_alloc_new w _,fun i hi=> ?_⟩
 rw [List.getElem?_toArray,List.getElem?_map,List.getElem?_eq_getElem hi,List.getD_eq_getElem?_getD,List.getElem?_eq_getElem hi];rfl
def BxAt (w:World)(bx b:Nat):Prop:=w.heap[bx]? =some (.cells #[.pointer (some ⟨b,0,none⟩)] 173 (0,0))
theorem BxAt.cell {w:World}{bx b:Nat}(h:BxAt w bx b):w.cell? ⟨bx,0,none⟩=some (.pointer (some ⟨b,0,none⟩)):=by unfold World.cell?;rw [h];rfl
theorem keyOk {r nd q:Int}(h0:0<=r)(h1:r<18446744073709551616)(h2: -1<=nd)(h3:nd<15)(h4:0<=q)(h5:q<4):KeyOk r nd q (keyI r nd q):=⟨rfl,h0,h1,h2,h3,h4,h5⟩
structure FinC (w:World)(bx b ng n nc:Nat)(id:Int):Prop where
 x:BxAt w bx b
 top:∃v,w.heap[b]? =some (.cells #[.int .u64 id,v, .slice (some ⟨ng,0,none⟩) n nc] 178 (0,0))
theorem FinC.cells {w:World}{bx b ng n nc:Nat}{id:Int}(h:FinC w bx b ng n nc id):w.cell? ⟨bx,0,none⟩=some (.pointer (some ⟨b,0,none⟩))/\w.cell? ⟨b,0,none⟩=some (.int .u64 id)/\w.cell? ⟨b,2,none⟩=some (.slice (some ⟨ng,0,none⟩) n nc):=by
 obtain⟨v,ht⟩:=h.top
 refine⟨h.x.cell,?_,?_⟩<;>(unfold World.cell?;rw [ht];rfl)
theorem FinC.at_ {w w':World}{bx b ng n nc:Nat}{id:Int}(h:FinC w bx b ng n nc id)(h1:w'.heap[bx]? =w.heap[bx]?)(h2:w'.heap[b]? =w.heap[b]?):FinC w' bx b ng n nc id:=by
 obtain⟨v,ht⟩:=h.top
 exact⟨h1.trans h.x,v,h2.trans ht⟩
theorem FinC.below {w w':World}{bx b ng n nc:Nat}{id:Int}(h:FinC w bx b ng n nc id)(hb:Below w.heap.size w w'):FinC w' bx b ng n nc id:=h.at_ (hb.block bx (Zaa h.x)) (hb.block b (Zaa h.top.choose_spec))
theorem FinC.pf {w w':World}{P B bx b ng n nc:Nat}{id:Int}(h:FinC w bx b ng n nc id)(hf:PF w w' P B noK)(h1:bx≠P)(h2:b≠P):FinC w' bx b ng n nc id:=h.at_ (hf.other h.x (by decide) h1) (hf.other h.top.choose_spec (by decide) h2)
theorem FinC.rf {w w':World}{P B bx b ng n nc:Nat}{id:Int}(h:FinC w bx b ng n nc id){qn qc qf:Nat}{qa:Option Addr}{qys xs:List PlD}(hq:QAt w P B qa qn qc qf qys xs)(hf:RF w w' P (Value.slice qa qn qc).ownBlock 8 11)(h1:bx≠P)(h2:b≠P):FinC w' bx b ng n nc id:=by
 have no:∀{k:Nat} {cs:Array Value} {t:TypeId} {fr:Nat×Nat},w.heap[k]? =some (.cells cs t fr)->t≠180->some k≠(Value.slice qa qn qc).ownBlock:=by
  intro k cs t fr e ht hk
  rcases hq.row.2 with⟨h2,_⟩ | ⟨g',cap,cur,h2,_,hh,_⟩
  ·rw [h2] at hk;simp [Value.ownBlock] at hk
  ·rw [h2] at hk
   simp only [Value.ownBlock,Option.some.injEq] at hk
   subst hk
   exact Zak e hh ht rfl
 exact h.at_ (hf.block bx (Zaa h.x) h1 (no h.x (by decide))) (hf.block b (Zaa h.top.choose_spec) h2 (no h.top.choose_spec (by decide)))
theorem FinC.gone {w:World}{bx b ng n nc:Nat}{id:Int}(h:FinC w bx b ng n nc id):GoneAt w bx b id:=⟨h.cells.1,h.cells.2.1,Zaa h.x,Zaa h.top.choose_spec⟩
set_option maxHeartbeats 8000000 in
theorem kfin_any (w:World)(P B:Nat)(ob:Option Nat)(e:EngD)(rs:List RnM)(l:List Tm)(i:Nat)(st:Int)(h:KpX w P B ob e rs l)(wk:EngWk e)(hi:i<e.runs.length)(h1:(e.at_ i).st=1)(hst:2<=st/\st<=5)(hT:TimE e i l)(hlr:e.lastRun<18446744073709551616) :
  Calls Tryz.prog 102 #[.pointer (some ⟨P,4,none⟩), .pointer (some ⟨(rnAt rs i).b,0,none⟩), .int .i64 st] w fun x w'=>x= .returned (.tuple #[])/\∃rs' l' ob',KpX w' P B ob' (e.end_ i st) rs' l'/\SameB rs rs'/\TimR (e.end_ i st) l'/\KF w w' P B ob/\ObTo w ob ob':=by
 obtain⟨el,now,hM,htm,hel⟩:=h.ex
 obtain⟨ka,kc,hkn⟩:=hM.kn
 have hil:i<rs.length:=by rw [h.len];exact hi
 have hRn:=hkn.runs i hil
 have hRI:=h.runs i hi
 obtain⟨r,hr⟩:∃r,r=rnAt rs i:=⟨_,rfl⟩
 obtain⟨d,hd⟩:∃d,d=e.at_ i:=⟨_,rfl⟩
 rw [<-hr] at hRn hRI ⊢
 rw [<-hd] at hRI h1
 have hpb:=hM.pb
 obtain⟨w0,hw0⟩:∃w0,w0=w.alloc (.cells #[.pointer (some ⟨r.b,0,none⟩)] 173):=⟨_,rfl⟩
 obtain⟨bx,hbx⟩:∃bx,bx=w.heap.size:=⟨_,rfl⟩
 have hB0:Below w.heap.size w w0:=by rw [hw0];exact (Below.refl _ _).alloc (Nat.le_refl _) _
 have hx0:BxAt w0 bx r.b:=by rw [hw0,hbx];exact heap_alloc_new w _
 have b0:=hx0.cell
 have HW0:=Hid.mk (And.intro hbx (And.intro hw0 (And.intro hB0 hx0)))
 have HE:=Hid.mk (kend_any w0 B r st (hRn.below hB0))
 have H:=Hid.mk (And.intro h (And.intro wk (And.intro hi (And.intro h1 (And.intro hst (And.intro hT (And.intro hM (And.intro htm (And.intro hel (And.intro hRn (And.intro hRI (And.intro hr (And.intro hd hil)))))))))))))
 have hbP:bx≠P:=by omega
 obtain⟨b,hb⟩:∃b,b=r.b:=⟨_,rfl⟩
 have hbP2:b≠P:=by have:=hRn.bb;omega
 obtain⟨id,hid⟩:∃id,id=d.id:=⟨_,rfl⟩
 obtain⟨n,hn⟩:∃n,n=d.steps.length:=⟨_,rfl⟩
 have hn12:n<=12:=by rw [hn,hd];exact wk.n12 hi
 have hidr:0<=id/\id<18446744073709551616:=by have:=wk.id1 i hi;have:=wk.idB i hi;rw [hid,hd];omega
 have hM0:=hM.below hB0
 have hRn0:=hRn.below hB0
 have hM1:∀w1,RnAt w1 B (r.ended st)->RnF w0 w1 r.b r.ng->KpM w1 P B ob (rs.set i (r.ended st)) el e.queue now l e.lastRun e.lastTok e.seed/\FinC w1 bx b r.ng n r.nc id/\KF w w1 P B ob:=by
  intro w1 ha hf
  refine⟨hM0.run hil ha (by rw [<-hr];rfl) (by rw [<-hr];rfl) (by rw [<-hr];exact hf),⟨?_,?_⟩,(KF.of_below P B ob hB0).trans (KF.of_rn hRn0 hf hpb.1) (ObTo.refl _ _)⟩
  ·obtain⟨cg,hgh,_⟩:=hRn0.rowBlk
   rw [hb]
   exact (hf.block bx (Zaa hx0) (Zak hx0 hRn0.top (by decide)) (Zak hx0 hgh (by decide))).trans hx0
  ·refine⟨.int .i64 st,?_⟩
   have ht:=ha.top
   have e1:(r.ended st).ns.length=n:=by unfold RnM.ended;rw [List.length_map,hRI.len,hn]
   have e2:r.id=id:=by rw [hid];exact hRI.id
   unfold rnC at ht
   rw [e1] at ht
   rw [hb,<-e2]
   exact ht
 have HH1:=Hid.mk hM1
 rw [<-hb] at b0 HE HH1 ⊢
 have HBB:=Hid.mk (And.intro hb (And.intro hid (And.intro hn (And.intro hpb hidr))))
 clear h wk hi h1 hst hT hM htm hel hkn hRn hRI hr hd hil hpb hw0 hbx hB0 hx0 hb hid hn hM0 hRn0 hM1 hidr
 go_enter Tryz.func102,Tryz.ntmps102
 go_upto_region 1 with fail
 rw [<-HW0.out.1]
 have hw0':=HW0.out.2.1
 rw [<-HBB.out.1] at hw0'
 rw [<-hw0']
 clear hw0'
 have hmf:∀(fn:Fn) (first cap:Array Value) (w:World),(Instr.makeFunc fn first cap).run Tryz.prog w= .ok (.func fn first cap) w:=fun _ _ _ _=>rfl
 go_wp2_with (first
  | (go_at_call 145;refine HE.out.mono ?_;rintro _ w1 ⟨rfl,hr1,hf1⟩;have HA:=Hid.mk (And.intro hr1 (And.intro hf1 (HH1.out w1 hr1 hf1)));have b0:=HA.out.2.2.2.1.cells.1;have b1:=HA.out.2.2.2.1.cells.2.1;have b2:=HA.out.2.2.2.1.cells.2.2;clear hr1 hf1)
  | (go_at_call 146;obtain⟨qa,qn,qc,qf,qys,hq⟩:=HA.out.2.2.1.qu;have HQ:=Hid.mk hq;refine (dropTR_any w1 P B qn qc qf bx b qa qys e.queue id hq HA.out.2.2.2.1.gone).mono ?_;rintro _ w2 ⟨rfl,ys',hq2,hf2⟩;have hM2:=HA.out.2.2.1.queue hq hf2 ⟨_,_,_,_,_,hq2⟩;have hC2:=HA.out.2.2.2.1.rf hq hf2 hbP hbP2;have hK2:=HA.out.2.2.2.2.trans (KF.of_rfq hq hf2 ob) (ObTo.refl _ _);have HD:=Hid.mk (And.intro hM2 (And.intro hC2 hK2));have c0:=hC2.cells.1;have c1:=hC2.cells.2.1;have c2:=hC2.cells.2.2;have HS:=Hid.mk (stop_any (w2.alloc (.cells #[.int .i64 0] 181)) P B now w2.heap.size l id (-1) [0] (hM2.wh.keep ((Below.refl _ _).alloc (Nat.le_refl _) _)) (fun q hq=>by simp only [List.mem_singleton] at hq;subst hq;exact keyOk HBB.out.2.2.2.2.1 HBB.out.2.2.2.2.2 (by decide) (by decide) (by decide) (by decide)) (kinds_new w2 [0]) (by have:=hM2.pb;omega) (by decide));clear hq hq2 hf2 hM2 hC2 hK2)
  | (go_at_call 99;refine HS.out.mono ?_;rintro _ w3 ⟨rfl,l3,hs3,hw3,hf3⟩;have hM3:=(HD.out.1.below ((Below.refl _ _).alloc (Nat.le_refl _) (.cells #[.int .i64 0] 181))).wheel hf3 hw3;have hC3:=(HD.out.2.1.below ((Below.refl _ _).alloc (Nat.le_refl _) (.cells #[.int .i64 0] 181))).pf hf3 hbP hbP2;have hK3:=(HD.out.2.2.trans (KF.of_below P B ob ((Below.refl _ _).alloc (Nat.le_refl _) (.cells #[.int .i64 0] 181))) (ObTo.refl _ _)).trans (KF.of_pf hf3 ob) (ObTo.refl _ _);have HS3:=Hid.mk (And.intro hs3 (And.intro hM3 (And.intro hC3 hK3)));have d0:=hC3.cells.1;have d1:=hC3.cells.2.1;have d2:=hC3.cells.2.2;clear hs3 hw3 hf3 hM3 hC3 hK3))
 have hap:Apart l:=H.out.2.2.2.2.2.2.1.wh.apart
 have hts:=TimS.first H.out.2.2.2.2.2.1.1 hap HS3.out.1
 have HTS:=Hid.mk hts
 clear hts hap c0 c1 c2 d0 d1 d2 b1 b2
 go_loopw [28] (fun iv wr=>∃(j:Nat) (lj:List Tm),iv= .int .i64 j/\j<=n/\KpM wr P B ob (rs.set i (r.ended st)) el (Zdo e.queue id) now lj e.lastRun e.lastTok e.seed/\FinC wr bx b r.ng n r.nc id/\TimS l id j lj/\KF w wr P B ob) (fun iv _=>n - (intOf iv).toNat)
 case atStart=>exact⟨0,_,rfl,by omega,HS3.out.2.1,HS3.out.2.2.1,HTS.out,HS3.out.2.2.2⟩
 case round =>
  obtain⟨j,lj,rfl,hj,hM4,hC4,hT4,hK4⟩:=hrel
  have HR:=Hid.mk (And.intro hM4 (And.intro hC4 (And.intro hT4 hK4)))
  obtain⟨x0,x1,x2⟩:=hC4.cells
  by_cases h1:j<n
  ·have j1:(j:Int)<(n:Int):=by omega
   have HSJ:=Hid.mk (stop_any (wr.alloc (.cells #[.int .i64 1, .int .i64 2, .int .i64 3] 181)) P B now wr.heap.size lj id j [1,2,3] (hM4.wh.keep ((Below.refl _ _).alloc (Nat.le_refl _) _)) (fun q hq=>by
    have hq2:0<=q/\q<4:=by simp only [List.mem_cons,List.not_mem_nil,or_false] at hq;rcases hq with rfl | rfl | rfl<;>decide
    exact keyOk HBB.out.2.2.2.2.1 HBB.out.2.2.2.2.2 (by omega) (by omega) hq2.1 hq2.2) (kinds_new wr [1,2,3]) (by have:=hM4.pb;omega) (by decide))
   clear hM4 hC4 hT4 hK4
   go_wp2_with (go_at_call 99;refine HSJ.out.mono ?_;rintro _ w3 ⟨rfl,l3,hs3,hw3,hf3⟩;have hM3:=(HR.out.1.below ((Below.refl _ _).alloc (Nat.le_refl _) (.cells #[.int .i64 1, .int .i64 2, .int .i64 3] 181))).wheel hf3 hw3;have hC3:=(HR.out.2.1.below ((Below.refl _ _).alloc (Nat.le_refl _) (.cells #[.int .i64 1, .int .i64 2, .int .i64 3] 181))).pf hf3 hbP hbP2;have hK3:=(HR.out.2.2.2.trans (KF.of_below P B ob ((Below.refl _ _).alloc (Nat.le_refl _) (.cells #[.int .i64 1, .int .i64 2, .int .i64 3] 181))) (ObTo.refl _ _)).trans (KF.of_pf hf3 ob) (ObTo.refl _ _);have HN:=Hid.mk (And.intro hs3 (And.intro hM3 (And.intro hC3 hK3)));clear hs3 hw3 hf3 hM3 hC3 hK3)
   go_roundw
   case rel =>
    obtain⟨q1,q2,q3,q4⟩:=HN.out
    exact⟨j+1,l3,by go_num,by omega,q2,q3,HR.out.2.2.1.next HR.out.1.wh.apart q1,q4⟩
   case measure=>simp [intOf];omega
  ·have e1:j=n:=by omega
   have HJ:=Hid.mk e1
   have j1:¬(j:Int)<(n:Int):=by omega
   clear h1 e1 hM4 hC4 hT4 hK4
   go_upto_region 9 with fail
   obtain⟨ea,en,ec,ef,eys,he,heb⟩:=HR.out.1.en
   have HEE:=Hid.mk (And.intro he heb)
   obtain⟨wp,hwp⟩:∃wp,wp=(wr.drew).alloc (.cells #[.int .u64 id] 39):=⟨_,rfl⟩
   have hbp:Below wr.heap.size wr wp:=by rw [hwp];exact ((Below.refl _ _).drew).alloc (Nat.le_refl _) _
   have hitem:ItemTU wp wr.heap.size id:=by
    refine⟨by rw [hwp];simp,fun m u hm=> ?_⟩
    unfold u64C at hm
    match m,hm with
    | 0,hm =>
     simp at hm;subst hm
     unfold World.cell?
     rw [hwp]
     have:=heap_alloc_new wr.drew (.cells #[.int .u64 id] 39)
     rw [show wr.drew.heap.size=wr.heap.size from rfl] at this
     rw [this];rfl
   have hpb:=HR.out.1.pb
   have hel:el.length<=400:=by
    obtain⟨is,q1,q2,q3⟩:=H.out.2.2.2.2.2.2.2.2.1
    have hnd:is.Nodup:=q3.imp (fun {a b} hab e=>by subst e;omega)
    have:=nodup_len is (List.range e.runs.length) hnd (fun k hk=>List.mem_range.2 ((q2 k).1 hk).1)
    rw [List.length_range] at this
    have:=H.out.2.1.six
    rw [q1,List.length_map];omega
   have hpush:=pushTU_any wp P B en ec ef wr.heap.size ea eys el id (he.below hbp) hitem (by omega) (fun e=>by have:=(he.row.lt _ e.symm).2;omega) hel
   have hfar:∀w3,RF wp w3 P (Value.slice ea en ec).ownBlock 5 8->(w3.cell? ⟨bx,0,none⟩=some (.pointer (some ⟨b,0,none⟩))/\w3.cell? ⟨b,0,none⟩=some (.int .u64 id)):=by
    intro w3 hf3
    have no:∀{k:Nat} {cs:Array Value} {t:TypeId} {fr:Nat×Nat},wr.heap[k]? =some (.cells cs t fr)->t≠39->some k≠(Value.slice ea en ec).ownBlock:=by
     intro k cs t fr e ht hk
     rcases he.row.2 with⟨h2,_⟩ | ⟨g',cap,cur,h2,_,hh,_⟩
     ·rw [h2] at hk;simp [Value.ownBlock] at hk
     ·rw [h2] at hk
      simp only [Value.ownBlock,Option.some.injEq] at hk
      subst hk
      exact Zak e hh ht rfl
    have hx:=HR.out.2.1.x
    have ht:=HR.out.2.1.top.choose_spec
    have hC:=HR.out.2.1.below hbp
    have hC3:=hC.at_ (hf3.block bx (Zaa hC.x) hbP (no hx (by decide))) (hf3.block b (Zaa hC.top.choose_spec) hbP2 (no ht (by decide)))
    exact⟨hC3.cells.1,hC3.cells.2.1⟩
   rw [hwp] at hpush hfar
   have HP:=Hid.mk (And.intro hpush hfar)
   have HQ:=Hid.mk (And.intro hbp hwp)
   have hnew1:=World.new_ne wr ⟨bx,0,none⟩ x0
   have hnew2:=World.new_ne wr ⟨b,0,none⟩ x1
   clear he heb hbp hitem hpush hfar hpb hel hwp
   go_region_held3 (fun w'=>w'.cell? ⟨bx,0,none⟩=some (.pointer (some ⟨b,0,none⟩))/\w'.cell? ⟨b,0,none⟩=some (.int .u64 id)) (go_keep) ((go_at_call 148;refine HP.out.1.mono ?_;rintro e w3 ⟨rfl,hq3⟩;have HQ3:=Hid.mk hq3;have v0:=(HP.out.2 w3 hq3.choose_spec.choose_spec.choose_spec.choose_spec.choose_spec.2.1).1;have v1:=(HP.out.2 w3 hq3.choose_spec.choose_spec.choose_spec.choose_spec.choose_spec.2.1).2;clear hq3))
   all_goals
    go_wp2_with fail
    go_end0
    obtain⟨a',n',c',f',ys',p1,p2,p3⟩:=HQ3.out
    obtain⟨k1,k2⟩:=HQ.out
    rw [<-k2] at p2 p3
    obtain⟨he,heb⟩:=HEE.out
    obtain⟨hX,wk,hi,h1,hst,hT,hM,htm,hel,hRn,hRI,hr,hd,hil⟩:=H.out
    obtain⟨m1,m2,m3,m4⟩:=HR.out
    have hrf:RF wr w3 P (Value.slice ea en ec).ownBlock 5 8:=(RF.of_below P _ 5 8 k1).trans p2 (fun z hz=>Or.inl hz)
    have hM5:=m1.ended he hrf ⟨_,_,_,_,_,p1,rfl⟩
    have hset:=runs_set (e:=e) (e':=e.end_ i st) (f:=Zdq st e.ends) hX.len hX.runs hi rfl (by rw [<-hd];exact hRI.ended st e.ends (by omega))
    have hat:=fun x hx=>end_at e i st (j:=x) hx
    have hrun:=wk.runs i hi
    refine⟨rfl,rs.set i (r.ended st),lj,(Value.slice a' n' c').ownBlock,⟨⟨el++[id],now,?_,htm,?_⟩,hset.1,hset.2⟩,?_,?_,?_,?_⟩
    ·rw [HBB.out.2.1,hd] at hM5 ⊢
     exact hM5
    ·rw [HBB.out.2.1,hd]
     refine hel.snoc (e':=e.end_ i st) (end_len e i st) hi ((hrun.goes).1 (by rw [<-hd];exact h1)) (fun x hx hxi=> ?_) ?_ ?_ wk.en0 (fun x hx=>(wk.runs x hx).enB)
     ·rw [hat x hx,if_neg (fun e=>hxi e.symm)];exact⟨rfl,rfl⟩
     ·rw [hat i hi,if_pos rfl];rfl
     ·rw [hat i hi,if_pos rfl];rfl
    ·refine⟨by rw [List.length_set],fun x hx=> ?_⟩
     rw [Zc8 hil hx]
     split
     ·rename_i e;subst e;rw [hr];rfl
     ·rfl
    ·have m3':=m3
     rw [HBB.out.2.1,hd,HJ.out,HBB.out.2.2.1,hd] at m3'
     exact m3'.done wk hi (by omega) hT
    ·refine (m4.trans (KF.of_below P B ob k1) (ObTo.refl _ _)).trans ?_ (ObTo.refl _ _)
     have:=KF.of_rfe (he.below k1) p2
     rw [heb] at this
     exact this
    ·intro z hz
     rcases p3 z hz with h | h
     ·left;rw [<-heb];exact h
     ·right
      have:=m4.size;have:=k1.size;omega
set_option maxHeartbeats 4000000 in
theorem ksettle_any (w:World)(P B:Nat)(ob:Option Nat)(e:EngD)(rs:List RnM)(l:List Tm)(i:Nat)(h:KpX w P B ob e rs l)(wk:EngWk e)(hi:i<e.runs.length)(h1:(e.at_ i).st=1)(hT:TimR e l)(hlr:e.lastRun<18446744073709551616) :
  Calls Tryz.prog 100 #[.pointer (some ⟨P,4,none⟩), .pointer (some ⟨(rnAt rs i).b,0,none⟩)] w fun x w'=>x= .returned (.tuple #[])/\∃rs' l' ob',KpX w' P B ob' (e.settle i) rs' l'/\SameB rs rs'/\TimR (e.settle i) l'/\KF w w' P B ob/\ObTo w ob ob':=by
 obtain⟨el,now,hM,htm,hel⟩:=h.ex
 obtain⟨ka,kc,hkn⟩:=hM.kn
 have hil:i<rs.length:=by rw [h.len];exact hi
 have hRn:=hkn.runs i hil
 have hRI:=h.runs i hi
 have HO:=Hid.mk (outcome_any w B (rnAt rs i) hRn)
 have houtc:=hRI.outcome
 rw [houtc] at HO
 cases hoc:(e.at_ i).outcome with
 | none =>
  rw [hoc] at HO
  have HE:=Hid.mk (show e.settle i=e by unfold EngD.settle;rw [hoc])
  have H:=Hid.mk (And.intro h hT)
  clear h hT hM hkn hRn hRI houtc hoc hel htm
  have HO':Hid (Calls Tryz.prog 143 #[.pointer (some ⟨(rnAt rs i).b,0,none⟩)] w fun e w'=>e= .returned (.int .i64 1)/\Below w.heap.size w w'):=HO
  go_enter Tryz.func100,Tryz.ntmps100
  go_wp2_with (go_at_call 143;refine HO'.out.mono ?_;rintro _ w1 ⟨rfl,hb1⟩;have HB:=Hid.mk hb1;clear hb1)
  go_end0
  rw [HE.out]
  exact⟨rfl,rs,l,ob,H.out.1.below HB.out,SameB.refl _,H.out.2,KF.of_below P B ob HB.out,ObTo.refl _ _⟩
 | some st =>
  rw [hoc] at HO
  have hst:=Zdm hoc
  have HE:=Hid.mk (show e.settle i=e.end_ i st by unfold EngD.settle;rw [hoc])
  have HF:=Hid.mk (fun w1 hb1=>kfin_any w1 P B ob e rs l i st (h.below hb1) wk hi h1 (by omega) (hT.toE i) hlr)
  clear h hT hM hkn hRn hRI houtc hoc hel htm
  have HO':Hid (Calls Tryz.prog 143 #[.pointer (some ⟨(rnAt rs i).b,0,none⟩)] w fun e w'=>e= .returned (.int .i64 st)/\Below w.heap.size w w'):=HO
  have g1:(st != 1)=true:=by rcases hst with rfl | rfl<;>decide
  have g1':decide (st=1)=false:=decide_eq_false (by omega)
  have hst1:¬st=1:=by omega
  go_enter Tryz.func100,Tryz.ntmps100
  go_wp2_with (first
   | (go_at_call 143;refine HO'.out.mono ?_;rintro _ w1 ⟨rfl,hb1⟩;have HB:=Hid.mk hb1;clear hb1)
   | (go_at_call 102;refine (HF.out w1 HB.out).mono ?_;rintro _ w2 ⟨rfl,hx⟩;have HX:=Hid.mk hx;clear hx))
  go_end0
  obtain⟨rs',l',ob',q1,q2,q3,q4,q5⟩:=HX.out
  rw [HE.out]
  refine⟨rfl,rs',l',ob',q1,q2,q3,(KF.of_below P B ob HB.out).trans q4 (ObTo.refl _ _),fun z hz=> ?_⟩
  rcases q5 z hz with h | h
  ·exact Or.inl h
  ·right;have:=HB.out.size;omega
end Go.Proofs.YtgdcjccbdmcebabGreatDoor
