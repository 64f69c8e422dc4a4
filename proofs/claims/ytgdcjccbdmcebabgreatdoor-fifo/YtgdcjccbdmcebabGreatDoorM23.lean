import Derived.Test.YtgdcjccbdmcebabGreatDoorM18
import Derived.Test.YtgdcjccbdmcebabGreatDoorM22
set_option linter.unusedSimpArgs false
set_option linter.unusedVariables false
namespace Go.Proofs.YtgdcjccbdmcebabGreatDoor
open Go.RowKit
set_option maxRecDepth 100000
def Sp (w wx:World)(F:FlowD)(g:Nat)(Na:Nat->Option Addr):Prop :=
 ∀z,z<w.heap.size->z≠g->(∀i,i<F.n->F.an i≠0->Na i≠some ⟨z,0,none⟩)->wx.heap[z]? =w.heap[z]?
theorem Sp.alloc (w:World)(o:Obj)(F:FlowD)(g:Nat)(Na:Nat->Option Addr):Sp w (w.alloc o) F g Na:=fun z hz _ _=>((Below.refl _ w).alloc (Nat.le_refl _) o).block z hz
theorem Sp.setG {w wx:World}{F:FlowD}{g:Nat}{Na:Nat->Option Addr}(h:Sp w wx F g Na)(o:Nat)(v:Value):Sp w (wx.setCell ⟨g,o,none⟩ v) F g Na:=fun z hz hg hn =>
 (Below.heap_setCell wx ⟨g,o,none⟩ v z hg).trans (h z hz hg hn)
theorem Sp.setA {w wx:World}{F:FlowD}{g:Nat}{Na:Nat->Option Addr}(h:Sp w wx F g Na){k ab:Nat}(hk:k<F.n)(hm:F.an k≠0)(hA:Na k=some ⟨ab,0,none⟩)(o:Nat)(v:Value):Sp w (wx.setCell ⟨ab,o,none⟩ v) F g Na:=fun z hz hg hn =>
 (Below.heap_setCell wx ⟨ab,o,none⟩ v z (fun e=>hn k hk hm (by rw [hA,e]))).trans (h z hz hg hn)
set_option maxHeartbeats 4000000 in
theorem turn_spare (F:FlowD)(B g cap:Nat)(Na:Nat->Option Addr)(Nc:Nat->Nat)(w:World)(hB:B<=w.heap.size)(hcap:F.n<=maxLen)(ht:TurnAt B w F g 0 Na Nc)(hgw:g<w.heap.size) :
  Calls Tryz.prog 26 #[flV F.dl (.slice (some ⟨g,0,none⟩) F.n cap)] w fun e w'=>e= .returned (.tuple #[])/\Below B w w'/\Sp w w' F g Na:=by
 unfold maxLen at hcap
 have HT:=Hid.mk ht
 clear ht
 go_enter Tryz.func26,Tryz.ntmps26
 go_wp2_with fail
 go_loopw [7] (fun iv wx=>∃k:Nat,k<=F.n/\iv= .int .i64 k/\TurnAt B wx F g k Na Nc/\wx.cell? ⟨w.heap.size,1,none⟩=some (.slice (some ⟨g,0,none⟩) F.n cap)/\w.heap.size<wx.heap.size/\Below B w wx/\Sp w wx F g Na) (fun iv _=>F.n - (intOf iv).toNat)
 case atStart=>exact⟨0,by omega,rfl,HT.out.below rfl ((Below.refl _ _).alloc (Nat.le_refl _) _),by simp,by simp,(Below.refl _ _).alloc hB _,Sp.alloc _ _ _ _ _⟩
 case round =>
  obtain⟨k,hk,rfl,htk,c1,hsz,hbl,hsp⟩:=hrel
  have HSP:=Hid.mk hsp
  clear hsp
  rename World=>w1
  have HTK:=Hid.mk htk
  clear htk
  by_cases h1:k<F.n
  ·have n6:=HTK.out.af k (Nat.le_refl _) h1
   go_wp2_with fail
   go_loopw [17] (fun mv wx=>∃m:Nat,m<=F.an k/\mv= .int .i64 m/\TurnAt B wx F g k Na Nc/\wx.cell? ⟨w.heap.size,1,none⟩=some (.slice (some ⟨g,0,none⟩) F.n cap)/\w.heap.size<wx.heap.size/\Below B w wx/\Sp w wx F g Na) (fun mv _=>F.an k - (intOf mv).toNat)
   case atStart=>exact⟨0,by omega,rfl,HTK.out,c1,hsz,hbl,HSP.out⟩
   case round =>
    clear n6 c1 hsz hbl
    obtain⟨m,hm,rfl,htm,c1,hsz,hbl,hsp⟩:=hrel
    have HSP2:=Hid.mk hsp
    clear hsp
    rename World=>w2
    have n6:=htm.af k (Nat.le_refl _) h1
    by_cases h2:m<F.an k
    ·obtain⟨ab,hA,hB1,hB2,hB3,hB4,hB5⟩:=(htm.it k h1).resolve_left (by omega)
     obtain⟨ab',hA',_,_,_,_,hW⟩:=(HT.out.it k h1).resolve_left (by omega)
     obtain rfl:ab=ab':=by rw [hA] at hA';simpa using hA'
     obtain⟨uw,huw⟩:=Option.isSome_iff_exists.1 (hW m h2).1
     have hlt:=World.block_lt_of_cell? _ _ huw
     simp only at hlt
     obtain⟨u,hu⟩:=Option.isSome_iff_exists.1 (hB5 m h2).1
     have fu:=(hB5 m h2).2
     rw [hA] at n6
     unfold maxLen at hB4
     have hset:Hid (∀v,TurnAt B (w2.setCell ⟨ab,m,none⟩ v) F g k Na Nc/\(w2.setCell ⟨ab,m,none⟩ v).cell? ⟨w.heap.size,1,none⟩=some (.slice (some ⟨g,0,none⟩) F.n cap)/\w.heap.size<(w2.setCell ⟨ab,m,none⟩ v).heap.size/\Below B w (w2.setCell ⟨ab,m,none⟩ v)/\Sp w (w2.setCell ⟨ab,m,none⟩ v) F g Na):=Hid.mk fun v =>
      ⟨htm.set hB2 v,(World.cell?_of_block (w:=w2) (Below.heap_setCell w2 ⟨ab,m,none⟩ v w.heap.size (by simp;omega))).trans c1,by simpa [World.setCell] using hsz,hbl.setCell hB1 v,HSP2.out.setA h1 (by omega) hA m v⟩
     clear hA hA' hW huw htm hB5 hbl
     go_wp2_with fail
     go_roundw
     case rel=>exact⟨m+1,by omega,by go_num,hset.out _⟩
     case measure=>simp [intOf];omega
    ·obtain rfl:m=F.an k:=by omega
     obtain⟨q0,p0⟩:=htm.wr k h1 0 (by omega)
     obtain⟨q1,p1⟩:=htm.wr k h1 1 (by omega)
     obtain⟨q2,p2⟩:=htm.wr k h1 2 (by omega)
     obtain⟨q3,p3⟩:=htm.wr k h1 3 (by omega)
     obtain⟨q4,p4⟩:=htm.wr k h1 4 (by omega)
     obtain⟨q5,p5⟩:=htm.wr k h1 5 (by omega)
     obtain⟨x0,y0⟩:=Option.isSome_iff_exists.1 q0
     obtain⟨x1,y1⟩:=Option.isSome_iff_exists.1 q1
     obtain⟨x2,y2⟩:=Option.isSome_iff_exists.1 q2
     obtain⟨x3,y3⟩:=Option.isSome_iff_exists.1 q3
     obtain⟨x4,y4⟩:=Option.isSome_iff_exists.1 q4
     obtain⟨x5,y5⟩:=Option.isSome_iff_exists.1 q5
     obtain⟨_,p6⟩:=htm.wr k h1 6 (by omega)
     simp only [Nat.add_zero] at y0 p0
     have hI:TurnI B w w2 F g cap k Na Nc:=⟨htm,c1,hsz,hbl⟩
     have HI:=Hid.mk (((((((hI.node (k':=k+1) hgw k (k * 7) (by omega) (by omega) (by omega) (.int .i64 0)).node (k':=k+1) hgw k (k * 7+1) (by omega) (by omega) (by omega) (.int .i64 0)).node (k':=k+1) hgw k (k * 7+2) (by omega) (by omega) (by omega) (.int .i64 0)).node (k':=k+1) hgw k (k * 7+3) (by omega) (by omega) (by omega) (.int .i64 0)).node (k':=k+1) hgw k (k * 7+4) (by omega) (by omega) (by omega) (.int .i64 0)).node (k':=k+1) hgw k (k * 7+5) (by omega) (by omega) (by omega) (.int .i64 0)).node (k':=k+1) hgw k (k * 7+6) (by omega) (by omega) (by omega) (.slice none 0 0))
     clear htm hbl hI q0 q1 q2 q3 q4 q5
     go_wp2_with fail
     go_roundw
     case rel=>exact⟨k+1,by omega,by go_num,HI.out.at',HI.out.c1,HI.out.sz,HI.out.bl,(((((((HSP2.out.setG _ _).setG _ _).setG _ _).setG _ _).setG _ _).setG _ _).setG _ _)⟩
     case measure=>simp [intOf];omega
  ·go_wp2_with fail
   go_end0
   exact⟨rfl,hbl,HSP.out⟩
theorem turn_copy (F:FlowD)(B:Nat)(la:Option Addr)(lc:Nat)(Na:Nat->Option Addr)(Nc:Nat->Nat)(w0 w:World)(hB:B<=w0.heap.size)(hn:F.n<=maxLen)(h:CopyAt B w0 F (.slice la F.n lc) F.n Na Nc)(hb0:Below w0.heap.size w0 w) :
  Calls Tryz.prog 26 #[flV F.dl (.slice la F.n lc)] w fun e w'=>e= .returned (.tuple #[])/\Below B w w'/\∀z,w0.heap.size<=z->z<w.heap.size->w'.heap[z]? =w.heap[z]? :=by
 by_cases h0:F.n=0
 ·refine (turn_none F la lc w h0).mono ?_
  rintro e w' ⟨rfl,hb⟩
  exact⟨rfl,hb.mono (Nat.le_trans hB hb0.size),fun z _ hz=>hb.block z hz⟩
 ·have h9:=h.below hb0
  rcases h.own.2 with⟨_,h2⟩ | ⟨g,cap,cur,h2,hBg,hh,_⟩
  ·exact absurd h2 h0
  ·obtain⟨h7,_,h8⟩:la=some ⟨g,0,none⟩/\F.n=F.n/\lc=cap:=by simpa using h2
   subst h7 h8
   have hg0:=h.lt.2
   have hs:=hb0.size
   refine (turn_spare F B g lc Na Nc w (by omega) hn h9.turn h9.lt.2).mono ?_
   rintro e w' ⟨rfl,hb,hsp⟩
   refine⟨rfl,hb,fun z hz1 hz2=>hsp z hz2 (by omega) fun i hi hai e=> ?_⟩
   rcases (h.aft i hi).2 with⟨_,h3⟩ | ⟨g',cap',cur',h3,_,hh',_⟩
   ·exact hai h3
   ·obtain⟨h7,_,_⟩:Na i=some ⟨g',0,none⟩/\F.an i=F.an i/\Nc i=cap':=by simpa using h3
    rw [h7] at e
    obtain rfl:g'=z:=by simpa using e
    obtain⟨hlt,_⟩:=Array.getElem?_eq_some_iff.1 hh'
    omega
theorem own_spare {w w':World}{N:Nat}{e:TypeId}{size n:Nat}{v:Value}{xs:List Value}(h:w.ownsRow N e size v n xs)(hk:∀z,N<=z->z<w.heap.size->w'.heap[z]? =w.heap[z]?):w'.ownsRow N e size v n xs:=by
 obtain⟨h1,h2⟩:=h
 refine⟨h1,?_⟩
 rcases h2 with h2 | ⟨g,cap,cur,rfl,hg,hh,hr⟩
 ·exact Or.inl h2
 ·obtain⟨hlt,_⟩:=Array.getElem?_eq_some_iff.1 hh
  exact Or.inr ⟨g,cap,cur,rfl,hg,(hk g hg hlt).trans hh,hr⟩
end Go.Proofs.YtgdcjccbdmcebabGreatDoor
namespace Go.Proofs.YtgdcjccbdmcebabGreatDoor
set_option maxRecDepth 100000
structure FfIs (f:FlowD):Prop where
 ok:FlOk f
 bu:∀k,k<f.n->f.bu k=1
 an:∀k,k<f.n->f.an k=if k % 3=2 then 1 else 0
 af:∀k,k<f.n->k % 3=2->(f.af k 0).toNat=k - 1
structure FI (e:EngD)(r:Nat)(q:List PlD)(T:Int):Prop where
 ok:EngOk e
 up:EngUp e
 q:e.queue=q
 len:e.runs.length=r+1
 lr:e.lastRun=(r:Int)+1
 sd:e.seed=0
 tok:e.lastTok<=T
 ff:∀i,1<=i->i<e.runs.length->FfIs (e.at_ i).fl
 st:∀i k,1<=i->i<e.runs.length->k<(e.at_ i).steps.length->((e.at_ i).at_ k).st≠6/\((e.at_ i).at_ k).st≠7
 old:(e.at_ 0).st≠1
theorem foldReady_queue (i:Nat):∀(L:List Nat) (e:EngD),i<e.runs.length->(L.foldl (fun e k=>e.ready i k) e).queue=e.queue++L.map (fun k=>⟨(e.at_ i).id,k⟩)
 | [],e,_=>by simp
 | k::L,e,hi=>by
  rw [List.foldl_cons,foldReady_queue i L (e.ready i k) (by rw [ready_len];exact hi),ready_at e i k hi]
  simp [EngD.ready,RunD.onStep]
theorem wake_queue (e:EngD){i:Nat}(hi:i<e.runs.length):(e.wake i).queue=e.queue++((List.range (e.at_ i).steps.length).filter (e.at_ i).free).map (fun k=>⟨(e.at_ i).id,k⟩):=by
 rw [wake_eq e i hi,foldReady_queue i _ e hi]
def Zcp (run:Int)(n:Nat):List PlD:=((List.range n).filter (fun k=> !(k % 3 == 2))).map (fun k=>⟨run,k⟩)
theorem fi_submit {e:EngD}{r:Nat}{q:List PlD}{T:Int}(h:FI e r q T)(hr:r<5){f:FlowD}(hf:FfIs f):∃e',e.submit f=some e'/\FI e' (r+1) (q++Zcp (e.lastRun+1) f.n) T:=by
 have h5:e.runs.length<6:=by rw [h.len];omega
 refine⟨e.begin f,by unfold EngD.submit;rw [if_neg (by omega)],?_⟩
 have hl:=Za2 e f
 have hm:=h.ok.wk.more h5 hf.ok
 have hi:e.runs.length<(e.more f).runs.length:=by omega
 have h1:((e.more f).at_ e.runs.length).st=1:=by rw [Za1];rfl
 obtain⟨w1,kin⟩:=hm.wake hi h1
 obtain⟨n1,n2,n3,n4,_⟩:=begin_nums h.ok h5 hf.ok
 have hlen:(e.begin f).runs.length=r+1+1:=by rw [Zc2,kin.len,hl,h.len]
 have hat:∀i,i<e.runs.length->(e.begin f).at_ i=e.at_ i:=fun i hx=>by
  rw [Zc2,kin.others i (by omega) (by omega),Zbv e f hx]
 have hnew:∀i,i<(e.begin f).runs.length->i<e.runs.length\/i=e.runs.length:=fun i hx=>by rw [hlen] at hx;have:=h.len;omega
 refine⟨h.ok.begin h5 hf.ok,h.up.begin h.ok h5 hf.ok,?_,hlen,by rw [n3,h.lr];push_cast;rfl,by rw [n2,h.sd],by rw [n4];exact h.tok,fun i h1 hx=> ?_,fun i k h1 hx hk=> ?_,by rw [hat 0 (by have:=h.len;omega)];exact h.old⟩
 ·rw [Zc2,wake_queue _ hi,Za1,Zbp]
  have e1:(e.more f).queue=q:=h.q
  rw [e1]
  congr 1
  unfold Zcp
  congr 1
  refine List.filter_congr fun k hk=> ?_
  have hk:=List.mem_range.1 hk
  have han:=hf.an k hk
  by_cases c:k % 3=2
  ·rw [if_pos c] at han
   have hnf:(e.fresh f).free k=false:=by
    cases hh:(e.fresh f).free k with
    | false=>rfl
    | true =>
     have:=(Zbt.1 hh).2 0 (by show 0<f.an k;omega)
     rw [show (e.fresh f).fl=f from rfl,hf.af k hk c,Zcn e f (show k - 1<f.n by omega)] at this
     exact absurd this (by decide)
   rw [hnf];simp [c]
  ·rw [if_neg c] at han
   have hyf:(e.fresh f).free k=true:=Zbt.2 ⟨by rw [Zcn e f hk];rfl,fun a ha=>by replace ha:a<f.an k:=ha;omega⟩
   rw [hyf];simp [c]
 ·rcases hnew i hx with c | c
  ·rw [hat i c];exact h.ff i h1 c
  ·subst c
   rw [Zc2,kin.fl,Za1];exact hf
 ·rcases hnew i hx with c | c
  ·rw [hat i c] at hk ⊢;exact h.st i k h1 c hk
  ·subst c
   rw [Zc2] at hk ⊢
   rw [kin.steps,Za1,Zbp] at hk
   rw [wake_at hi (by rw [Za1,Zbp];exact hk),Za1,Zcn e f hk]
   split<;>simp [stNew]
theorem task_of {e:EngD}{tok:Int}{i k:Nat}(hi:i<e.runs.length)(hk:k<(e.at_ i).steps.length)(hs:((e.at_ i).at_ k).st=3)(ht:((e.at_ i).at_ k).tok=tok)
  (hu:∀a b,a<e.runs.length->b<(e.at_ a).steps.length->((e.at_ a).at_ b).st=3->((e.at_ a).at_ b).tok=tok->a=i/\b=k):e.task tok=some (i,k):=by
 have er:∀j (hj:j<e.runs.length),e.runs[j]=e.at_ j:=fun j hj=>by unfold EngD.at_;rw [List.getD_eq_getElem?_getD,List.getElem?_eq_getElem hj];rfl
 have es:∀(r:RunD) j (hj:j<r.steps.length),r.steps[j]=r.at_ j:=fun r j hj=>by unfold RunD.at_;rw [List.getD_eq_getElem?_getD,List.getElem?_eq_getElem hj];rfl
 have hw:(e.at_ i).work tok=some k:=by
  unfold RunD.work
  rw [List.findIdx?_eq_some_iff_getElem]
  refine⟨hk,by rw [es];simp [hs,ht],fun j hj=> ?_⟩
  rw [es]
  intro x
  simp only [Bool.and_eq_true,beq_iff_eq] at x
  have:=(hu i j hi (by omega) x.1 x.2).2
  omega
 have hf:e.runs.findIdx? (fun r=>(r.work tok).isSome)=some i:=by
  rw [List.findIdx?_eq_some_iff_getElem]
  refine⟨hi,by rw [er,hw];rfl,fun j hj=> ?_⟩
  rw [er]
  intro x
  obtain⟨b,hb⟩:=Option.isSome_iff_exists.1 x
  unfold RunD.work at hb
  rw [List.findIdx?_eq_some_iff_getElem] at hb
  obtain⟨hb1,hb2,_⟩:=hb
  rw [es] at hb2
  simp only [Bool.and_eq_true,beq_iff_eq] at hb2
  have:=(hu j b (by omega) hb1 hb2.1 hb2.2).1
  omega
 unfold EngD.task
 rw [hf]
 simp [hw]
def moreL (p:PlD)(n:Nat):List PlD:=if p.node % 3=1/\p.node+1<n then [⟨p.run,p.node+1⟩] else []
theorem filter_one {n c:Nat}{g:Nat->Bool}(h:∀j,j<n->(g j=true↔j=c)):(List.range n).filter g=if c<n then [c] else []:=by
 induction n with
 | zero=>simp
 | succ n ih =>
  rw [List.range_succ,List.filter_append,ih (fun j hj=>h j (by omega))]
  by_cases e:n=c
  ·subst e
   rw [if_neg (by omega),if_pos (by omega),List.filter_cons_of_pos ((h n (by omega)).2 rfl)];rfl
  ·rw [List.filter_cons_of_neg (fun x=>e ((h n (by omega)).1 x))]
   by_cases c2:c<n
   ·rw [if_pos c2,if_pos (by omega)];rfl
   ·rw [if_neg c2,if_neg (by omega)];rfl
theorem fi_step {e:EngD}{r:Nat}{p:PlD}{q:List PlD}{T:Int}(h:FI e r (p::q) T) :
  ∃e1 e2 i,e.poll=some (p,1,e.lastTok+1,e1)/\e1.complete (e.lastTok+1)=some e2/\EngOk e1/\e1.seed=0/\e1.lastTok=e.lastTok+1/\e1.lastRun=e.lastRun/\0<=e.lastTok /\
   e2.find p.run=some i/\i<e2.runs.length/\p.node<(e2.at_ i).steps.length/\(e2.at_ i).steps.length<=12/\(e2.at_ i).id=p.run/\FI e2 r (q++moreL p (e2.at_ i).steps.length) (T+1):=by
 obtain⟨i,q1,q2,q3,q4⟩:=(h.ok.wk.qm p).1 (by rw [h.q];exact List.mem_cons_self ..)
 have hR:=h.ok.wk.runs i q1
 have hst1:=h.ok.wk.runs_of q1 q3 (by omega)
 have hi1:1<=i:=by
  rcases Nat.eq_zero_or_pos i with c | c
  ·subst c;exact absurd hst1 h.old
  ·exact c
 have hff:=h.ff i hi1 q1
 have hkn:p.node<(e.at_ i).fl.n:=by rw [<-hR.len];exact q3
 have hs:=hR.steps p.node q3
 have htr:((e.at_ i).at_ p.node).tries=0:=by
  have:=hs.more (Or.inl q4)
  rw [hff.bu p.node hkn] at this
  have:=hs.tr0
  omega
 have hpoll:∃e1,e.poll=some (p,1,e.lastTok+1,e1):=by
  unfold EngD.poll
  rw [h.q]
  simp only
  rw [show e.find p.run=some i by rw [<-q2];exact h.ok.wk.find_at q1]
  simp only [htr]
  exact⟨_,rfl⟩
 obtain⟨e1,hpo⟩:=hpoll
 have ok1:=h.ok.poll hpo
 have up1:=h.up.poll h.ok hpo
 obtain⟨i',s1,s2,s3,s4,s5,s6,s7,s8,s9,s10,s11,s12,s13,s14,s15⟩:=poll_is h.ok hpo
 obtain rfl:i=i':=h.ok.wk.id_inj q1 s2 (by rw [q2,s3])
 generalize hg:(fun s:StD=>({ s with st:=3,tries:=1,tok:=e.lastTok+1,fin:=Zas e.time ((e.at_ i).fl.cl p.node),finAt:=e.timers+1,sign:=if (e.at_ i).fl.be p.node > 0 then Zas e.time ((e.at_ i).fl.be p.node) else 0,signAt:=if (e.at_ i).fl.be p.node > 0 then e.timers+2 else s.signAt }:StD))=g at s15
 have hg3:(g ((e.at_ i).at_ p.node)).st=3/\(g ((e.at_ i).at_ p.node)).tok=e.lastTok+1:=by subst hg;exact⟨rfl,rfl⟩
 clear hg
 have hl1:e1.runs.length=e.runs.length:=Zbf s15
 have hat1:∀j,j<e.runs.length->e1.at_ j=if i=j then (e.at_ j).onStep p.node g else e.at_ j:=fun j hj=>Zbr s15 hj
 have hai:e1.at_ i=(e.at_ i).onStep p.node g:=by rw [hat1 i q1,if_pos rfl]
 have hl1s:(e1.at_ i).steps.length=(e.at_ i).steps.length:=by rw [hai,Zal]
 have hq3:p.node<(e1.at_ i).steps.length:=by rw [hl1s];exact q3
 have hn3:((e1.at_ i).at_ p.node).st=3/\((e1.at_ i).at_ p.node).tok=e.lastTok+1:=by rw [hai,Zbc _ _ q3];exact hg3
 have hta:e1.task (e.lastTok+1)=some (i,p.node):=by
  refine task_of (by omega) hq3 hn3.1 hn3.2 fun a b ha hb hs3 htk=> ?_
  rw [hat1 a (by omega)] at hb hs3 htk
  by_cases c:i=a
  ·subst c
   rw [if_pos rfl] at hb hs3 htk
   refine⟨rfl,?_⟩
   by_cases c2:p.node=b
   ·exact c2.symm
   ·rw [Zal] at hb
    rw [Zbb _ _ c2] at htk
    have:=(hR.steps b hb).tokB
    omega
  ·rw [if_neg c] at hb hs3 htk
   have:=((h.ok.wk.runs a (by omega)).steps b hb).tokB
   omega
 have hco:e1.complete (e.lastTok+1)=some (((e1.onStep i p.node (fun s=>{ s with st:=5 })).wake i).settle i):=by
  unfold EngD.complete
  rw [hta]
 have hi1':i<e1.runs.length:=by omega
 have hr1:=ok1.wk.runs_of hi1' hq3 (by omega)
 have hw:=ok1.wk.over hi1' hq3 5 (by omega) (by omega) (by omega)
 obtain⟨ea,hea⟩:∃ea,ea=e1.onStep i p.node (fun s=>{ s with st:=5 }):=⟨_,rfl⟩
 have kina:Kin e1 ea i:=by rw [hea];exact Kin.onStep e1 p.node (fun s=>{ s with st:=5 }) e1.queue hi1'
 rw [<-hea] at hw hco
 have hia:i<ea.runs.length:=by rw [kina.len];exact hi1'
 have hsa:(ea.at_ i).st=1:=by rw [kina.st];exact hr1
 obtain⟨wkb,kinb⟩:=hw.wake hia hsa
 have haa:ea.at_ i=(e1.at_ i).onStep p.node (fun s=>{ s with st:=5 }):=by
  have:=Zbr (e':=ea) (f:=fun s=>{ s with st:=5 }) (k:=p.node) (by rw [hea]) hi1'
  rw [if_pos rfl] at this;exact this
 have hala:(ea.at_ i).steps.length=(e.at_ i).steps.length:=by rw [haa,Zal,hl1s]
 have hsta:∀m,((ea.at_ i).at_ m).st=if m=p.node then 5 else ((e.at_ i).at_ m).st:=fun m=>by
  rw [haa]
  by_cases c:m=p.node
  ·subst c;rw [Zbc _ _ hq3,if_pos rfl]
  ·rw [Zbb _ _ (Ne.symm c),if_neg c,hai,Zbb _ _ (Ne.symm c)]
 have hfla:(ea.at_ i).fl=(e.at_ i).fl:=by rw [haa,onStep_fl,hai,onStep_fl]
 have hU:=h.up i q1
 have hfree:∀j,j<(e.at_ i).steps.length->((ea.at_ i).free j=true↔j=p.node+1/\p.node % 3=1):=fun j hj=>by
  have hjn:j<(e.at_ i).fl.n:=by rw [<-hR.len];exact hj
  have han:=hff.an j hjn
  constructor
  ·intro hf
   obtain⟨f1,f2⟩:=Zbt.1 hf
   rw [hsta] at f1
   by_cases c:j=p.node
   ·rw [if_pos c] at f1;exact absurd f1 (by decide)
   ·rw [if_neg c] at f1
    have hst:=hU.still hst1 j hj
    by_cases c3:j % 3=2
    ·rw [if_pos c3] at han
     have haf:=hff.af j hjn c3
     have f3:=f2 0 (by rw [hfla];omega)
     rw [hfla,haf,hsta] at f3
     by_cases c4:j - 1=p.node
     ·exact⟨by omega,by omega⟩
     ·rw [if_neg c4] at f3
      have:(e.at_ i).free j=true:=Zbt.2 ⟨f1,fun a ha=>by
       rw [han] at ha
       obtain rfl:a=0:=by omega
       rw [haf];exact f3⟩
      rw [this] at hst;cases hst
    ·rw [if_neg c3] at han
     have:(e.at_ i).free j=true:=Zbt.2 ⟨f1,fun a ha=>by omega⟩
     rw [this] at hst;cases hst
  ·rintro⟨c1,c2⟩
   have c3:j % 3=2:=by omega
   rw [if_pos c3] at han
   have haf:=hff.af j hjn c3
   have hx:=hR.steps j hj
   have h17:=hx.st1
   have h72:=hx.st2
   have hne:=h.st i j hi1 q1 hj
   have hone:((e.at_ i).at_ j).st=1:=by
    by_cases c4:2<=((e.at_ i).at_ j).st
    ·have:=hU.half.up j hj c4 (by omega) 0 (by omega)
     rw [haf,show j - 1=p.node by omega,q4] at this
     exact absurd this (by decide)
    ·omega
   refine Zbt.2 ⟨by rw [hsta,if_neg (by omega)];exact hone,fun a ha=> ?_⟩
   rw [hfla,han] at ha
   obtain rfl:a=0:=by omega
   rw [hfla,haf,hsta,if_pos (by omega)]
 obtain⟨eb,heb⟩:∃eb,eb=ea.wake i:=⟨_,rfl⟩
 have hqa:ea.queue=q:=by
  rw [hea]
  have:e1.queue=q:=by
   have:=s9
   rw [h.q] at this
   injection this with _ x
   exact x.symm
  exact this
 have hida:(ea.at_ i).id=p.run:=by rw [kina.id,hai];exact q2
 have hqb:eb.queue=q++moreL p (e.at_ i).steps.length:=by
  rw [heb,wake_queue ea hia,hqa,hala,hida]
  congr 1
  unfold moreL
  by_cases c:p.node % 3=1
  ·rw [filter_one (c:=p.node+1) (fun j hj=>by rw [hfree j hj];exact⟨fun x=>x.1,fun x=>⟨x,c⟩⟩)]
   by_cases c2:p.node+1<(e.at_ i).steps.length
   ·rw [if_pos c2,if_pos ⟨c,c2⟩];rfl
   ·rw [if_neg c2,if_neg (fun x=>c2 x.2)];rfl
  ·rw [if_neg (fun x=>c x.1),List.filter_eq_nil_iff.2]
   ·rfl
   ·intro j hj
    rw [hfree j (List.mem_range.1 hj)]
    exact fun x=>c x.2
 rw [<-heb] at wkb kinb hco
 have hib:i<eb.runs.length:=by rw [kinb.len];exact hia
 have hlb:(eb.at_ i).steps.length=(e.at_ i).steps.length:=by rw [kinb.steps,hala]
 have hst_b:∀m,m<(e.at_ i).steps.length->((eb.at_ i).at_ m).st≠6/\((eb.at_ i).at_ m).st≠7:=fun m hm=>by
  have hm0:=h.st i m hi1 q1 hm
  rw [heb,wake_at hia (by rw [hala];exact hm)]
  split
  ·simp
  ·rw [hsta];split
   ·simp
   ·exact hm0
 have hfl_b:(eb.at_ i).fl=(e.at_ i).fl:=by rw [kinb.fl,hfla]
 have hid_b:(eb.at_ i).id=p.run:=by rw [kinb.id,hida]
 have hoth:∀j,j<e.runs.length->j≠i->eb.at_ j=e.at_ j:=fun j hj hji=>by
  rw [kinb.others j (by rw [kina.len,hl1];exact hj) hji,kina.others j (by rw [hl1];exact hj) hji,hat1 j hj,if_neg (Ne.symm hji)]
 have hlenb:eb.runs.length=e.runs.length:=by rw [kinb.len,kina.len,hl1]
 have hset:(eb.settle i).queue=eb.queue/\(eb.settle i).seed=eb.seed/\(eb.settle i).lastRun=eb.lastRun/\(eb.settle i).lastTok=eb.lastTok/\((eb.settle i).at_ i).fl=(eb.at_ i).fl/\((eb.settle i).at_ i).id=(eb.at_ i).id/\((eb.settle i).at_ i).steps.length=(eb.at_ i).steps.length/\∀m,m<(eb.at_ i).steps.length->(((eb.settle i).at_ i).at_ m).st≠6/\(((eb.settle i).at_ i).at_ m).st≠7:=by
  unfold EngD.settle
  cases ho:(eb.at_ i).outcome with
  | none=>exact⟨rfl,rfl,rfl,rfl,rfl,rfl,rfl,fun m hm=>hst_b m (by omega)⟩
  | some st =>
   have hall:∀m,m<(eb.at_ i).steps.length->((eb.at_ i).at_ m).st=5:=fun m hm=>by
    unfold RunD.outcome at ho
    split at ho
    ·rename_i hal
     have:=all_at.1 hal m hm
     have hh:=hst_b m (by omega)
     simp only [Bool.or_eq_true,beq_iff_eq] at this
     omega
    ·cases ho
   have hat:(eb.end_ i st).at_ i=Zdq st eb.ends (eb.at_ i):=by rw [end_at eb i st hib,if_pos rfl]
   refine⟨?_,rfl,rfl,rfl,by show ((eb.end_ i st).at_ i).fl=_;rw [hat];rfl,by show ((eb.end_ i st).at_ i).id=_;rw [hat];rfl,by show ((eb.end_ i st).at_ i).steps.length=_;rw [hat,Zbk],fun m hm=> ?_⟩
   ·show eb.queue.filter _=eb.queue
    rw [List.filter_eq_self]
    intro p' hp'
    obtain⟨i2,r1,r2,r3,r4⟩:=(wkb.qm p').1 hp'
    by_cases c:p'.run=(eb.at_ i).id
    ·have:i2=i:=wkb.id_inj r1 hib (by rw [r2,c])
     subst this
     rw [hall _ r3] at r4;exact absurd r4 (by decide)
    ·simpa using c
   ·show (((eb.end_ i st).at_ i).at_ m).st≠6/\_
    rw [hat,Zdw _ _ _ hm]
    unfold endSt
    rw [if_pos (Or.inl (hall m hm)),hall m hm]
    decide
 obtain⟨u1,u2,u3,u4,u5,u6,u7,u8⟩:=hset
 obtain⟨e2,he2⟩:∃e2,e2=eb.settle i:=⟨_,rfl⟩
 have hl2:e2.runs.length=e.runs.length:=by rw [he2,settle_len,hlenb]
 have ho2:∀j,j<e.runs.length->j≠i->e2.at_ j=e.at_ j:=fun j hj hji=>by rw [he2,settle_other (by omega) hji,hoth j hj hji]
 rw [<-he2] at hco u1 u2 u3 u4 u5 u6 u7 u8
 have ok2:=ok1.complete hco
 have up2:=up1.complete ok1 hco
 have hid2:(e2.at_ i).id=p.run:=by rw [u6,hid_b]
 have hs2:(e2.at_ i).steps.length=(e.at_ i).steps.length:=by rw [u7,hlb]
 have hlt0:=h.ok.wk.lt0
 refine⟨e1,e2,i,hpo,hco,ok1,by rw [s12];exact h.sd,s10,s14,hlt0,by rw [<-hid2];exact ok2.wk.find_at (by omega),by omega,by omega,by rw [hs2];exact hR.n12.2,hid2,ok2,up2,by rw [u1,hqb,hs2],by rw [hl2];exact h.len,?_,?_,?_,fun j hj1 hj=> ?_,fun j k hj1 hj hk=> ?_,?_⟩
 ·rw [u3,kinb.lastRun,kina.lastRun,s14];exact h.lr
 ·rw [u2,kinb.seed,kina.seed,s12];exact h.sd
 ·rw [u4,kinb.lastTok,kina.lastTok,s10];have:=h.tok;omega
 ·by_cases c:j=i
  ·subst c;rw [u5,hfl_b];exact hff
  ·rw [ho2 j (by omega) c];exact h.ff j hj1 (by omega)
 ·by_cases c:j=i
  ·subst c;exact u8 k (by omega)
  ·rw [ho2 j (by omega) c] at hk ⊢;exact h.st j k hj1 (by omega) hk
 ·rw [ho2 0 (by omega) (by omega)];exact h.old
end Go.Proofs.YtgdcjccbdmcebabGreatDoor
