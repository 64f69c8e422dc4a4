import Derived.Test.YtgdcjccbdmcebabGreatDoorM26
import Derived.Test.YtgdcjccbdmcebabGreatDoorM38
set_option linter.unusedSimpArgs false
set_option linter.unusedVariables false
namespace Go.Proofs.YtgdcjccbdmcebabGreatDoor
open Go.RowKit
set_option maxRecDepth 100000
attribute [local go_sem ↓] Go.wp_at_zero Go.wp_at_succ
theorem OneF.refl (w:World)(g:Nat):OneF w w g:=⟨rfl,rfl,rfl,Nat.le_refl _,fun _ _ _=>rfl⟩
theorem OneF.set {w w':World}{g:Nat}(h:OneF w w' g)(o:Nat)(v:Value):OneF w (w'.setCell ⟨g,o,none⟩ v) g :=
 ⟨h.os,h.tape,h.output,by simpa [World.setCell] using h.size,fun k h1 h2=>(Below.heap_setCell _ _ _ _ h2).trans (h.block k h1 h2)⟩
theorem FgAt.one {w w':World}{B g kc fx o:Nat}{rs:List RnM}{first:Int}(h:FgAt w B g kc fx rs o first)(hf:OneF w w' g){j:Nat}(hj:j<rs.length):Calls Tryz.prog 136 #[.pointer (some ⟨(rnAt rs j).b,0,none⟩), .pointer (some ⟨fx,0,none⟩)] w' fun e w2=>e= .returned (.bool (decide (j=o)))/\∃q,w2=w'.drewN q:=by
 obtain⟨gc,hgc⟩:∃gc,w.heap[g]? =some (.cells gc 173 (0,0)):=by
  obtain⟨g',cur,e,_,_,_,_,hh⟩:=Zdl h.row (by omega)
  obtain rfl:g=g':=by simpa using e
  exact⟨cur,hh⟩
 have q1:w'.cell? ⟨(rnAt rs j).b,0,none⟩=some (.int .u64 (rnAt rs j).id):=by
  obtain⟨cs,fr,e,e2⟩:=h.top j hj
  exact (World.cell?_of_block (a:=⟨(rnAt rs j).b,0,none⟩) (hf.block _ (Zaa e) (Zak e hgc (by decide)))).trans (h.ids hj)
 have q2:w'.cell? ⟨fx,0,none⟩=some (.int .u64 first):=(World.cell?_of_block (a:=⟨fx,0,none⟩) (hf.block _ (Zaa h.fx) (Zak h.fx hgc (by decide)))).trans h.fxc
 refine (forg_any w' (rnAt rs j).b fx (rnAt rs j).id first q1 q2).mono ?_
 rintro x w' ⟨rfl,q⟩
 refine⟨?_,q⟩
 by_cases e:j=o
 ·subst e;rw [decide_eq_true h.is,decide_eq_true rfl]
 ·rw [decide_eq_false (h.no j hj e),decide_eq_false e]
theorem clearRN (w:World)(B g kc m:Nat)(l:List RnM)(h:RowAt w B 173 1 rnP (some ⟨g,0,none⟩) kc l)(hm:l.length=m+1)(c:Nat)(ty:TypeId) :
  (Builtin.clear_ #[126] ty #[.slice (some ⟨g,m,none⟩) 1 c]).run Tryz.prog w= .ok (.tuple #[]) (w.setCell ⟨g,m,none⟩ (.pointer none)):=by
 have:=run_clear_k (P:=Tryz.prog) w 126 173 ty (.pointer none) Tryz.underlying126 (fun w=>by kernel_rfl) 1 [.pointer none] rfl (by simp [Value.oneCell']) g m c (by omega) (fun j hj=>by
  have hj0:j=0:=by simpa using hj
  subst hj0
  have:=row_cell (z:=RnM.z) h rnP_len (i:=m) (j:=0) (by omega) (by omega)
  rw [Nat.mul_one,Nat.add_zero] at this
  rw [Nat.add_zero,this]
  rfl) (fun j _=>row_frozen h _)
 exact this
theorem own_take {w:World}{B g c m:Nat}{e:TypeId}{k:Nat}{α:Type}{f:α->List Value}(hf:∀x,(f x).length=k){l:List α}(h:RowAt w B e k f (some ⟨g,0,none⟩) c l)(hm:m<=l.length):RowAt w B e k f (some ⟨g,0,none⟩) c (l.take m):=by
 rcases h.2 with⟨h2,_⟩ | ⟨g',cap,cur,h2,hg,hh,h3,h4,h5,h6⟩
 ·cases h2
 ·obtain⟨rfl,rfl⟩:g=g'/\c=cap:=by simpa using h2
  have hl:(l.take m).length=m:=by rw [List.length_take];omega
  unfold RowAt
  rw [hl]
  refine⟨by rw [flat_len hf,hl],Or.inr ⟨g,c,cur,rfl,hg,hh,by omega,h4,h5,?_⟩⟩
  rw [<-flat_take hf,<-h6,List.take_take,Nat.min_eq_left (Nat.mul_le_mul_right _ hm)]
set_option maxHeartbeats 4000000 in
theorem delr_any (w:World)(B g kc fx:Nat)(rs:List RnM)(o:Nat)(first:Int)(h:FgAt w B g kc fx rs o first) :
  Calls Tryz.prog 135 #[.slice (some ⟨g,0,none⟩) rs.length kc, .func (.func 136) #[] #[.pointer (some ⟨fx,0,none⟩)]] w fun e w'=>e= .returned (.slice (some ⟨g,0,none⟩) (cutL rs o).length kc)/\RowAt w' B 173 1 rnP (some ⟨g,0,none⟩) kc (cutL rs o)/\OneF w w' g:=by
 have HI:=Hid.mk (idxr_any w B g kc fx rs o first h)
 have H:=Hid.mk h
 have hol:=h.ol
 have hfew:=h.few
 obtain⟨n,hn⟩:∃n,n=rs.length:=⟨_,rfl⟩
 have hcl:=Zd5 hol
 have hcn:(cutL rs o).length=n - 1:=by omega
 rw [<-hn] at hol hfew HI ⊢
 have hkc:n<=kc:=by obtain⟨_,_,_,_,_,h5,_,_⟩:=Zdl h.row (by omega);omega
 rw [hcn]
 have HN:=Hid.mk (And.intro hn hcn)
 have e1:((o:Int) == -1)=false:=by simp
 have e1':decide ((o:Int)= -1)=false:=decide_eq_false (by omega)
 clear h hn hcl hcn
 go_enter Tryz.func135,Tryz.ntmps135
 go_wp2_with (go_at_call 190;refine HI.out.mono ?_;rintro e w1 ⟨rfl,q1,rfl⟩)
 go_loopw [5,6,7] (fun iv jv _ wr=>∃i j:Nat,iv= .int .i64 i/\jv= .int .i64 j/\i+1=j/\o<j/\j<=n/\DgAt w wr B g kc fx rs o first j) (fun _ jv _ _=>n - (intOf jv).toNat)
 case atStart =>
  refine⟨o,o+1,rfl,rfl,rfl,by omega,by omega,?_,?_⟩
  ·rw [amidL_first];exact Zah H.out.row (below_drewN w q1)
  ·exact⟨rfl,rfl,rfl,Nat.le_refl _,fun _ _ _=>rfl⟩
 case round =>
  obtain⟨i,j,rfl,rfl,hij,hoj,hjn,hD⟩:=hrel
  have hal:(amidL rs o j).length=n:=by have:=HN.out.1;have:=amidL_len (l:=rs) (o:=o) (j:=j) (by omega) (by omega) (by omega);omega
  by_cases hj:j<n
  ·have hjl:j<rs.length:=by have:=HN.out.1;omega
   have t0:wr.cell? ⟨g,j,none⟩=some (.pointer (some ⟨(rnAt rs j).b,0,none⟩)):=by
    have t0:=row_cell (z:=RnM.z) hD.row rnP_len (i:=j) (j:=0) (by omega) (by omega)
    rw [Nat.mul_one,Nat.add_zero,amidL_at (z:=RnM.z) (by have:=HN.out.1;omega) (by omega) hjl] at t0
    exact t0
   obtain⟨u,hu⟩:∃u,wr.cell? ⟨g,i,none⟩=some u:=by
    have t1:=row_cell (z:=RnM.z) hD.row rnP_len (i:=i) (j:=0) (by omega) (by omega)
    rw [Nat.mul_one,Nat.add_zero] at t1
    exact⟨_,t1⟩
   have f1:=row_frozen hD.row i
   have HC:=Hid.mk (H.out.one hD.f hjl)
   have hd:decide (j=o)=false:=decide_eq_false (by omega)
   rw [hd] at HC
   have i1:(j:Int)<(n:Int):=by omega
   have i2:(i:Int)<(n:Int):=by omega
   have HDD:=Hid.mk hD
   clear hd hD
   go_wp2_with (go_at_call 136;refine HC.out.mono ?_;rintro _ w3 ⟨rfl,q3,rfl⟩)
   go_roundw
   case rel =>
    refine⟨i+1,j+1,by go_num,by go_num,by omega,by omega,by omega,?_,?_⟩
    ·have hb:=HDD.out.below q3 rfl
     have:=row_sets (z:=RnM.z) hb.row rnP_len (i:=i) (by omega) (rnAt rs j)
     rw [Nat.mul_one] at this
     have e1:=amidL_succ (z:=RnM.z) (l:=rs) (o:=o) (j:=j) (by have:=HN.out.1;omega) (by omega) hjl
     rw [show j - 1=i by omega] at e1
     rw [show (rs.getD j .z)=rnAt rs j from rfl] at e1
     rw [e1] at this
     exact this
    ·exact (HDD.out.below q3 rfl).f.set i _
   case measure=>simp [intOf];omega
  ·have hjn':j=n:=by omega
   subst hjn'
   have hcl:=fun ty=>clearRN wr B g kc i (amidL rs o j) hD.row (by omega) (kc - i) ty
   have hf2:=row_sets (z:=RnM.z) hD.row rnP_len (i:=i) (by omega) RnM.z
   have HDD:=Hid.mk hD
   have hrow:RowAt (wr.setCell ⟨g,i,none⟩ (.pointer none)) B 173 1 rnP (some ⟨g,0,none⟩) kc (cutL rs o)/\OneF w (wr.setCell ⟨g,i,none⟩ (.pointer none)) g:=by
    refine⟨?_,hD.f.set i _⟩
    have h1:=own_take rnP_len (m:=i) hD.row (by omega)
    have hl:=amidL_last (l:=rs) (o:=o) (by have:=HN.out.1;omega)
    rw [<-HN.out.1,show j - 1=i by omega] at hl
    rw [hl] at h1
    have hc:=HN.out.2
    rcases h1.2 with⟨h2,_⟩ | ⟨g',cap,cur,h2,hg,hh,h3,h4,h5,h6⟩
    ·cases h2
    ·obtain⟨rfl,rfl⟩:g=g'/\kc=cap:=by simp only [Value.slice.injEq,Option.some.injEq,Addr.mk.injEq] at h2;exact⟨h2.1.1,h2.2.2⟩
     refine⟨h1.1,Or.inr ⟨g,kc,cur.setIfInBounds i (.pointer none),rfl,hg,Zac hh _,h3,h4,by simpa using h5,?_⟩⟩
     rw [Array.toList_setIfInBounds,List.take_set_of_le (by omega)]
     exact h6
   have HR:=Hid.mk hrow
   have i1:¬(j:Int)<(j:Int):=by omega
   have hci:¬kc=i:=by omega
   have hi1:j - i=1:=by omega
   clear hD hf2 hrow
   generalize wr.setCell ⟨g,i,none⟩ (.pointer none)=w5 at *
   go_wp2_with fail
   go_ret
   exact⟨by rw [show j - 1=i by omega];rfl,HR.out.1,HR.out.2⟩
theorem strOf_size (l:List Int):(Zcd l).size=l.length:=by
 have:∀(l:List Int) (b:ByteArray),(l.foldl (fun r n=>r.push (UInt8.ofNat n.toNat)) b).size=b.size+l.length:=by
  intro l
  induction l with
  | nil=>intro b;rfl
  | cons a l ih=>intro b;rw [List.foldl_cons,ih,ByteArray.size_push,List.length_cons];omega
 have h:=this l ByteArray.empty
 unfold Zcd
 rw [h]
 simp
theorem push_append (a b:ByteArray)(x:UInt8):(a++b).push x=a++b.push x:=by
 apply ByteArray.ext
 simp
theorem strOf_append (a b:List Int):Zcd (a++b)=Zcd a++Zcd b:=by
 unfold Zcd
 rw [List.foldl_append]
 have:∀(l:List Int) (x y:ByteArray),l.foldl (fun r n=>r.push (UInt8.ofNat n.toNat)) (x++y)=x++l.foldl (fun r n=>r.push (UInt8.ofNat n.toNat)) y:=by
  intro l
  induction l with
  | nil=>intro x y;rfl
  | cons c l ih=>intro x y;rw [List.foldl_cons,List.foldl_cons,push_append,ih]
 have h:=this b (a.foldl (fun r n=>r.push (UInt8.ofNat n.toNat)) ByteArray.empty) ByteArray.empty
 rw [ByteArray.append_empty] at h
 exact h
def opC (o:OpD):List Value:=[.int .i64 o.kind, .string (nmB o.at_), .string (Zcd o.data)]
theorem opC_len (o:OpD):(opC o).length=3:=rfl
def opV (o:OpD):Value:= .agg #[.int .i64 o.kind, .string (nmB o.at_), .string (Zcd o.data)]
structure DkC (w:World)(D bd bn:Nat)(pv:Value)(left full:Int)(down:Bool):Prop where
 blk:w.heap[D]? =some (.cells #[.map (some bd), .map (some bn),pv, .int .i64 left, .int .i64 full, .bool down] 101 (0,0))
theorem DkC.cells {w:World}{D bd bn:Nat}{pv:Value}{left full:Int}{down:Bool}(h:DkC w D bd bn pv left full down):((((w.cell? ⟨D,0,none⟩=some (.map (some bd))/\w.cell? ⟨D,1,none⟩=some (.map (some bn)))/\w.cell? ⟨D,2,none⟩=some pv)/\w.cell? ⟨D,3,none⟩=some (.int .i64 left))/\w.cell? ⟨D,4,none⟩=some (.int .i64 full))/\w.cell? ⟨D,5,none⟩=some (.bool down):=by
 refine⟨⟨⟨⟨⟨?_,?_⟩,?_⟩,?_⟩,?_⟩,?_⟩<;>(unfold World.cell?;rw [h.blk];rfl)
theorem DkC.froz {w:World}{D bd bn:Nat}{pv:Value}{left full:Int}{down:Bool}(h:DkC w D bd bn pv left full down)(o:Nat):w.frozen? ⟨D,o,none⟩=false:=by simp [World.frozen?,h.blk]
theorem DkC.at_ {w w':World}{D bd bn:Nat}{pv:Value}{left full:Int}{down:Bool}(h:DkC w D bd bn pv left full down)(e:w'.heap[D]? =w.heap[D]?):DkC w' D bd bn pv left full down:=⟨e.trans h.blk⟩
theorem DkC.setP {w:World}{D bd bn:Nat}{pv:Value}{left full:Int}{down:Bool}(h:DkC w D bd bn pv left full down)(v:Value):DkC (w.setCell ⟨D,2,none⟩ v) D bd bn v left full down:=⟨by rw [Zac h.blk];rfl⟩
theorem DkC.setL {w:World}{D bd bn:Nat}{pv:Value}{left full:Int}{down:Bool}(h:DkC w D bd bn pv left full down)(v:Int):DkC (w.setCell ⟨D,3,none⟩ (.int .i64 v)) D bd bn pv v full down:=⟨by rw [Zac h.blk];rfl⟩
theorem DkC.setF {w:World}{D bd bn:Nat}{pv:Value}{left full:Int}{down:Bool}(h:DkC w D bd bn pv left full down)(v:Int):DkC (w.setCell ⟨D,4,none⟩ (.int .i64 v)) D bd bn pv left v down:=⟨by rw [Zac h.blk];rfl⟩
theorem DkC.setD {w:World}{D bd bn:Nat}{pv:Value}{left full:Int}{down:Bool}(h:DkC w D bd bn pv left full down)(v:Bool):DkC (w.setCell ⟨D,5,none⟩ (.bool v)) D bd bn pv left full v:=⟨by rw [Zac h.blk];rfl⟩
set_option maxHeartbeats 4000000 in
theorem writes_any (w:World)(D bd bn:Nat)(pv:Value)(d:DkD)(h:DkC w D bd bn pv d.left d.full d.down) :
  Calls Tryz.prog 258 #[.pointer (some ⟨D,0,none⟩)] w fun x w'=>x= .returned (errV d.wErr)/\DkC w' D bd bn pv d.wrote.left d.wrote.full d.wrote.down/\OneF w w' D:=by
 obtain⟨⟨⟨⟨⟨_,_⟩,_⟩,t3⟩,t4⟩,t5⟩:=h.cells
 have f3:=h.froz 3
 have f4:=h.froz 4
 have f5:=h.froz 5
 have H:=Hid.mk h
 clear h
 obtain⟨dur,now,pend,left,full,down⟩:=d
 simp only at t3 t4 t5
 by_cases h1:down=true\/left=0
 ·have e1:(DkD.wErr ⟨dur,now,pend,left,full,down⟩)=11:=if_pos h1
  have e2:(DkD.wrote ⟨dur,now,pend,left,full,down⟩)=⟨dur,now,pend,left,full,true⟩:=if_pos h1
  rw [e1,e2]
  have HR:=Hid.mk (And.intro (H.out.setD true) ((OneF.refl w D).set 5 (.bool true)))
  clear e1 e2
  have HE:=Hid.mk h1
  cases hd:down with
  | true =>
   subst hd
   clear h1
   go_enter Tryz.func258,Tryz.ntmps258
   go_wp2_with fail
   go_ret
   exact⟨by rw [Zap (by decide)];rfl,HR.out.1,HR.out.2⟩
  | false =>
   subst hd
   have hl0:left=0:=by rcases HE.out with x | x;cases x;exact x
   subst hl0
   clear h1
   go_enter Tryz.func258,Tryz.ntmps258
   go_wp2_with fail
   go_ret
   exact⟨by rw [Zap (by decide)];rfl,HR.out.1,HR.out.2⟩
 ·have hd:down=false:=by cases down;rfl;exact absurd (Or.inl rfl) h1
  have hl0:¬left=0:=fun x=>h1 (Or.inr x)
  subst hd
  have b0:(left == 0)=false:=by simpa using hl0
  have b0':decide (left=0)=false:=decide_eq_false hl0
  obtain⟨lf,hlf⟩:∃lf,lf=wI (left - 1):=⟨_,rfl⟩
  have ew:IntKind.i64.wrap (left - 1)=lf:=by rw [IntKind.wrap_i64,hlf];rfl
  by_cases h2:full=0
  ·subst h2
   have e1:(DkD.wErr ⟨dur,now,pend,left,0,false⟩)=10:=by unfold DkD.wErr;rw [if_neg h1];rfl
   have e2:(DkD.wrote ⟨dur,now,pend,left,0,false⟩)=⟨dur,now,pend,lf,-1,false⟩:=by unfold DkD.wrote;rw [if_neg h1,hlf];rfl
   rw [e1,e2]
   have HR:=Hid.mk (And.intro ((H.out.setL lf).setF (-1)) (((OneF.refl w D).set 3 (.int .i64 lf)).set 4 (.int .i64 (-1))))
   clear e1 e2 h1 hlf
   go_enter Tryz.func258,Tryz.ntmps258
   go_wp2_with fail
   go_ret
   exact⟨by rw [Zap (by decide)];rfl,HR.out.1,HR.out.2⟩
  ·obtain⟨ff,hff⟩:∃ff,ff=wI (full - 1):=⟨_,rfl⟩
   have ew2:IntKind.i64.wrap (full - 1)=ff:=by rw [IntKind.wrap_i64,hff];rfl
   have e1:(DkD.wErr ⟨dur,now,pend,left,full,false⟩)=0:=by unfold DkD.wErr;rw [if_neg h1];exact if_neg h2
   have e2:(DkD.wrote ⟨dur,now,pend,left,full,false⟩)=⟨dur,now,pend,lf,ff,false⟩:=by unfold DkD.wrote;rw [if_neg h1,hlf,hff];exact if_neg h2
   rw [e1,e2]
   have HR:=Hid.mk (And.intro ((H.out.setL lf).setF ff) (((OneF.refl w D).set 3 (.int .i64 lf)).set 4 (.int .i64 ff)))
   have b1:(full == 0)=false:=by simpa using h2
   have b1':decide (full=0)=false:=decide_eq_false h2
   clear e1 e2 h1 hlf hff
   go_enter Tryz.func258,Tryz.ntmps258
   go_wp2_with fail
   go_ret
   exact⟨by rw [Zay];rfl,HR.out.1,HR.out.2⟩
theorem FilAt.below {w w':World}{bm:Nat}{f:FilD}{D:DataW Unit}(h:FilAt w bm f D)(hb:Below w.heap.size w w'):FilAt w' bm f D :=
 h.keep (hb.block _ (by obtain⟨es,c,e,_⟩:=h.own;exact Zaa e)) (fun k cs fr e=>hb.block k (Zaa e))
theorem FilAt.lt {w:World}{bm:Nat}{f:FilD}{D:DataW Unit}(h:FilAt w bm f D):bm<w.heap.size:=by obtain⟨es,c,e,_⟩:=h.own;exact Zaa e
theorem doF_ap {f:FilD}{o:OpD}(hk:o.kind=2)(j:Nat):doF f o j=if j=o.at_ then some ((f o.at_).getD []++o.data) else f j:=by
 unfold doF
 by_cases e:j=o.at_
 ·rw [if_pos e,if_pos e,if_neg (by omega),if_pos hk,e]
 ·rw [if_neg e,if_neg e]
theorem doF_wr {f:FilD}{o:OpD}(hk:o.kind=1)(j:Nat):doF f o j=if j=o.at_ then some o.data else f j:=by
 unfold doF
 by_cases e:j=o.at_
 ·rw [if_pos e,if_pos e,if_neg (by omega),if_neg (by omega)]
 ·rw [if_neg e,if_neg e]
theorem doF_rm {f:FilD}{o:OpD}(hk:o.kind=3)(j:Nat):doF f o j=if j=o.at_ then none else f j:=by
 unfold doF
 by_cases e:j=o.at_
 ·rw [if_pos e,if_pos e,if_pos hk]
 ·rw [if_neg e,if_neg e]
theorem one_of_mid {w wx w':World}{bm:Nat}(hb:Below w.heap.size w wx)(hg:wx.grownBy w' (some bm)):OneF w w' bm :=
 ⟨hg.os.trans hb.os,hg.tape.trans hb.tape,hg.output.trans hb.output,Nat.le_trans hb.size hg.size,fun k hk hne=>(hg.block k (Nat.lt_of_lt_of_le hk hb.size) (fun e=>hne (by simpa using e))).trans (hb.block k hk)⟩
theorem FilAt.drop {w:World}{bm:Nat}{f:FilD}{D:DataW Unit}(h:FilAt w bm f D){i:Nat}(hi:i<3){g:FilD}(hg:∀j,g j=if j=i then none else f j)(ty:TypeId) :
  ∃w' D',(Builtin.delete_ #[98,9] ty #[.map (some bm), .string (nmB i)]).run Tryz.prog w= .ok (.tuple #[]) w'/\FilAt w' bm g D'/\w.grownBy w' (some bm):=by
 obtain⟨w',hup,hown,hturn⟩:=World.ownsMap.drop h.own keyedS Tryz.underlying98 (keyOf_nm i) ty
 have hgr:=hturn.grown
 have htid:=h.own.tidy keyedS
 have hne:∀(k:Nat) (cs:Array Value) (fr:Nat×Nat),w.heap[k]? =some (Obj.cells cs 9 fr)->w'.heap[k]? =w.heap[k]? :=fun k cs fr e=>hgr.block k (Zaa e) (fun e2=>by
  obtain⟨es,clock,hb,_⟩:=h.own
  simp only [Option.some.injEq] at e2
  subst e2
  rw [hb] at e;cases e)
 have hsz:Maps.size (D.del (.string (nmL i)))=cntF g:=by
  have:=Maps.size_del (k:= .string (nmL i)) htid
  rw [h.hasI hi,h.size] at this
  rw [cnt_del hi hg]
  cases e:(f i).isSome with
  | true=>rw [e] at this;simp at this ⊢;omega
  | false=>rw [e] at this;simpa using this
 refine⟨w',_,hup,⟨hown,hsz,fun key=> ?_,fun j t hj e=> ?_⟩,hgr⟩
 ·by_cases e:key=nmL i
  ·subst e
   rw [Maps.has_del_same]
   simp only [Bool.false_eq_true,false_iff,not_exists,not_and]
   intro j hj e2
   have:=nmL_inj hi hj e2
   subst this
   rw [hg,if_pos rfl]
   decide
  ·rw [Maps.has_del_other (fun e2=>e (by injection e2)),h.has]
   constructor
   ·rintro⟨j,hj,h1,h2⟩
    exact⟨j,hj,h1,by rw [hg,if_neg (fun x=>e (by rw [h1,x]))];exact h2⟩
   ·rintro⟨j,hj,h1,h2⟩
    rw [hg,if_neg (fun x=>e (by rw [h1,x]))] at h2
    exact⟨j,hj,h1,h2⟩
 ·rw [hg] at e
  by_cases c:j=i
  ·subst c
   rw [if_pos rfl] at e
   cases e
  ·rw [if_neg c] at e
   obtain⟨b,h1,h2⟩:=h.at_ j t hj e
   exact⟨b,by rw [Maps.atKey_del_other (fun e2=>c (nmL_inj hj hi (by injection e2)))];exact h1,(hne b _ _ h2).trans h2⟩
set_option maxHeartbeats 4000000 in
theorem do_any (w:World)(bm:Nat)(f:FilD)(Dd:DataW Unit)(o:OpD)(h:FilAt w bm f Dd)(ha:o.at_<3)(hk:o.kind=1\/o.kind=2\/o.kind=3)(hs:∀s,f o.at_=some s->s.length+o.data.length<=9223372036854775807) :
  Calls Tryz.prog 70 #[.map (some bm),opV o] w fun x w'=>x= .returned (.tuple #[])/\(∃D',FilAt w' bm (doF f o) D')/\OneF w w' bm:=by
 obtain⟨kind,at_,data⟩:=o
 simp only at ha hk hs
 obtain⟨sd,hsd⟩:∃sd,sd=Zcd data:=⟨_,rfl⟩
 obtain⟨nm,hnm⟩:∃nm,nm=nmB at_:=⟨_,rfl⟩
 obtain⟨ob,hob⟩:∃ob,ob=w.heap.size:=⟨_,rfl⟩
 obtain⟨w2,hw2⟩:∃w2,w2=(w.alloc (.cells #[.int .i64 kind, .string nm, .string sd] 147)).alloc (.cells #[.string sd] 9):=⟨_,rfl⟩
 obtain⟨sb,hsb⟩:∃sb,sb=ob+1:=⟨_,rfl⟩
 have hb2:Below w.heap.size w w2:=by rw [hw2];exact ((Below.refl _ _).alloc (Nat.le_refl _) _).alloc (by simp) _
 have hs2:w2.heap[sb]? =some (.cells #[.string sd] 9 (0,0)):=by rw [hw2,hsb,hob];exact Zbd _ _ _ _ (by simp)
 have ho2:w2.heap[ob]? =some (.cells #[.int .i64 kind, .string nm, .string sd] 147 (0,0)):=by
  rw [hw2,Zaj _ _ _ (by rw [hob];simp),hob];exact heap_alloc_new w _
 have u0:w2.cell? ⟨ob,0,none⟩=some (.int .i64 kind):=by unfold World.cell?;rw [ho2];rfl
 have u1:w2.cell? ⟨ob,1,none⟩=some (.string nm):=by unfold World.cell?;rw [ho2];rfl
 have u2:w2.cell? ⟨ob,2,none⟩=some (.string sd):=by unfold World.cell?;rw [ho2];rfl
 have s0:w2.cell? ⟨sb,0,none⟩=some (.string sd):=by unfold World.cell?;rw [hs2];rfl
 have sf:w2.frozen? ⟨sb,0,none⟩=false:=by simp [World.frozen?,hs2]
 have h2:=h.below hb2
 have hml:=h.lt
 have HW:=Hid.mk (And.intro hw2 (And.intro hob (And.intro hsb (And.intro hb2 (And.intro hs2 (And.intro h2 (And.intro hsd hnm)))))))
 unfold opV
 simp only
 rw [<-hsd,<-hnm]
 rcases hk with rfl | rfl | rfl
 ·obtain⟨w3,D3,hup,hf3,hg3⟩:=h2.store (i:=at_) ha (nb:=sb) (s:=data) (by unfold StrAt;rw [<-hsd];exact hs2) (g:=doF f ⟨1,at_,data⟩) (fun j=>doF_wr rfl j)
  rw [<-hnm] at hup
  have HR:=Hid.mk (And.intro hf3 hg3)
  clear h h2 hb2 hs2 hw2 hsb hsd hnm ho2 hf3 hg3 hs hob
  go_enter Tryz.func70,Tryz.ntmps70
  go_upto_region 2 with fail
  rw [<-HW.out.1,<-HW.out.2.1,<-HW.out.2.2.1]
  go_wp2_with fail
  go_end0
  exact⟨rfl,⟨D3,HR.out.1⟩,one_of_mid HW.out.2.2.2.1 HR.out.2⟩
 ·obtain⟨v,hlook,hv⟩:=h2.look (i:=at_) ha
  rw [<-hnm] at hlook
  cases hf:f at_ with
  | none =>
   rw [hf] at hlook
   simp only [Option.isSome_none] at hlook
   obtain⟨w3,D3,hup,hf3,hg3⟩:=h2.store (i:=at_) ha (nb:=sb) (s:=data) (by unfold StrAt;rw [<-hsd];exact hs2) (g:=doF f ⟨2,at_,data⟩) (fun j=>by rw [doF_ap rfl j,hf];rfl)
   rw [<-hnm] at hup
   have HR:=Hid.mk (And.intro hf3 hg3)
   clear h h2 hb2 hs2 hw2 hsb hsd hnm ho2 hf3 hg3 hs hob hv hf
   go_enter Tryz.func70,Tryz.ntmps70
   go_upto_region 2 with fail
   rw [<-HW.out.1,<-HW.out.2.1,<-HW.out.2.2.1]
   go_wp2_with fail
   go_end0
   exact⟨rfl,⟨D3,HR.out.1⟩,one_of_mid HW.out.2.2.2.1 HR.out.2⟩
  | some s =>
   rw [hf] at hlook
   simp only [Option.isSome_some] at hlook
   obtain⟨b,rfl,hsb2⟩:=hv s hf
   have hle:=hs s hf
   obtain⟨w3,hw3⟩:∃w3,w3=(w2.setCell ⟨sb,0,none⟩ (.string (Zcd s++sd))).drew:=⟨_,rfl⟩
   have hbs:ob≠sb:=by omega
   have hbl:=hb2.size
   have h3b:Below w.heap.size w w3:=by rw [hw3];exact (hb2.setCell (p:=⟨sb,0,none⟩) (by show w.heap.size<=sb;omega) _).drew
   have hs3:w3.heap[sb]? =some (.cells #[.string (Zcd s++sd)] 9 (0,0)):=by
    rw [hw3]
    have:=Zac (w:=w2) (o:=0) hs2 (.string (Zcd s++sd))
    exact this
   have v1:w3.cell? ⟨ob,1,none⟩=some (.string nm):=by
    have:w3.heap[ob]? =w2.heap[ob]? :=by rw [hw3];exact Below.heap_setCell w2 ⟨sb,0,none⟩ _ ob hbs
    exact (World.cell?_of_block (a:=⟨ob,1,none⟩) this).trans u1
   obtain⟨w4,D4,hup,hf4,hg4⟩:=(h.below h3b).store (i:=at_) ha (nb:=sb) (s:=s++data) (by unfold StrAt;rw [strOf_append,<-hsd];exact hs3) (g:=doF f ⟨2,at_,data⟩) (fun j=>by rw [doF_ap rfl j,hf];rfl)
   rw [<-hnm] at hup
   have HR:=Hid.mk (And.intro hf4 (And.intro hg4 (And.intro h3b hw3)))
   have t0:w2.cell? ⟨b,0,none⟩=some (.string (Zcd s)):=by unfold World.cell?;rw [hsb2];rfl
   obtain⟨q,hq⟩:∃q,q=Zcd s:=⟨_,rfl⟩
   have hcat:(Op.stringOp .add q sd).run Tryz.prog w2.drew= .ok (.string (q++sd)) w2.drew:=run_string_add_sum _ _ _ (by rw [hq,hsd,strOf_size,strOf_size];exact hle)
   have hcat2:(binOp .add 9 (.string q) (.string sd)).run Tryz.prog w2.drew= .ok (.string (q++sd)) w2.drew:=by rw [binOp_string_add];exact hcat
   rw [<-hq] at t0 HR
   clear h h2 hb2 hs2 hw2 hsb hsd hnm ho2 hf4 hg4 hs hob hv hf hw3 hs3 hsb2 hq h3b hle
   go_enter Tryz.func70,Tryz.ntmps70
   go_upto_region 2 with fail
   rw [<-HW.out.1,<-HW.out.2.1,<-HW.out.2.2.1]
   go_upto_region 6 with fail
   go_region
   all_goals
    rw [<-HR.out.2.2.2]
    go_wp2_with fail
    go_end0
    exact⟨rfl,⟨D4,HR.out.1⟩,one_of_mid HR.out.2.2.1 HR.out.2.1⟩
 ·obtain⟨w3,D3,hup,hf3,hg3⟩:=h2.drop (i:=at_) ha (g:=doF f ⟨3,at_,data⟩) (fun j=>doF_rm rfl j) 0
  rw [<-hnm] at hup
  have HR:=Hid.mk (And.intro hf3 hg3)
  clear h h2 hb2 hs2 hw2 hsb hsd hnm ho2 hf3 hg3 hs hob
  go_enter Tryz.func70,Tryz.ntmps70
  go_upto_region 2 with fail
  rw [<-HW.out.1,<-HW.out.2.1,<-HW.out.2.2.1]
  go_wp2_with fail
  go_end0
  exact⟨rfl,⟨D3,HR.out.1⟩,one_of_mid HW.out.2.2.2.1 HR.out.2⟩
structure DkAt (w:World)(R D bd bn:Nat)(d:DkD):Prop where
 rs:R<=w.heap.size
 c:∃pa pc,DkC w D bd bn (.slice pa d.pend.length pc) d.left d.full d.down/\w.ownsRow R 147 3 (.slice pa d.pend.length pc) d.pend.length (d.pend.flatMap opC)
 fd:∃Dd,FilAt w bd d.dur Dd
 fn:∃Dn,FilAt w bn d.now Dn
 ne:bd≠bn
 few:d.pend.length<=8
 ops:∀o∈d.pend,o.at_<3/\(o.kind=1\/o.kind=2\/o.kind=3)
structure DF (w w':World)(R D bd bn:Nat):Prop where
 os:w'.os=w.os
 tape:w'.tape=w.tape
 output:w'.output=w.output
 size:w.heap.size<=w'.heap.size
 block:∀k,k<w.heap.size->k≠D->k≠bd->k≠bn->(k<R\/∀cs fr,w.heap[k]? ≠some (.cells cs 147 fr))->w'.heap[k]? =w.heap[k]?
theorem DF.of_below {w w':World}(R D bd bn:Nat)(h:Below w.heap.size w w'):DF w w' R D bd bn:=⟨h.os,h.tape,h.output,h.size,fun k hk _ _ _ _=>h.block k hk⟩
theorem DF.trans {x y z:World}{R D bd bn:Nat}(h:DF x y R D bd bn)(g:DF y z R D bd bn):DF x z R D bd bn :=
 ⟨g.os.trans h.os,g.tape.trans h.tape,g.output.trans h.output,Nat.le_trans h.size g.size,fun k hk h1 h2 h3 h4=>by
  have e:=h.block k hk h1 h2 h3 h4
  exact (g.block k (Nat.lt_of_lt_of_le hk h.size) h1 h2 h3 (h4.imp id (fun h4 cs fr=>by rw [e];exact h4 cs fr))).trans e⟩
theorem DF.of_one {w w':World}{k R D bd bn:Nat}(h:OneF w w' k)(hk:k=D\/k=bd\/k=bn):DF w w' R D bd bn :=
 ⟨h.os,h.tape,h.output,h.size,fun j hj h1 h2 h3 _=>h.block j hj (by rcases hk with rfl | rfl | rfl<;>assumption)⟩
theorem DkAt.below {w w':World}{R D bd bn:Nat}{d:DkD}(h:DkAt w R D bd bn d)(hb:Below w.heap.size w w'):DkAt w' R D bd bn d:=by
 obtain⟨pa,pc,h1,h2⟩:=h.c
 obtain⟨Dd,h3⟩:=h.fd
 obtain⟨Dn,h4⟩:=h.fn
 exact⟨Nat.le_trans h.rs hb.size,⟨pa,pc,h1.at_ (hb.block _ (Zaa h1.blk)),Zah h2 hb⟩,⟨Dd,h3.below hb⟩,⟨Dn,h4.below hb⟩,h.ne,h.few,h.ops⟩
theorem DkAt.keep {w w':World}{R D bd bn:Nat}{d:DkD}(h:DkAt w R D bd bn d)(hsz:w.heap.size<=w'.heap.size)(hD:w'.heap[D]? =w.heap[D]?)(h1:w'.heap[bd]? =w.heap[bd]?)(h2:w'.heap[bn]? =w.heap[bn]?)(h3:∀(k:Nat) (cs:Array Value) (t:TypeId) (fr:Nat×Nat),w.heap[k]? =some (Obj.cells cs t fr)->(t=9\/t=147)->w'.heap[k]? =w.heap[k]?):DkAt w' R D bd bn d:=by
 obtain⟨pa,pc,q1,q2⟩:=h.c
 obtain⟨Dd,q3⟩:=h.fd
 obtain⟨Dn,q4⟩:=h.fn
 refine⟨Nat.le_trans h.rs hsz,⟨pa,pc,q1.at_ hD,q2.1,?_⟩,⟨Dd,q3.keep h1 (fun k cs fr e=>h3 k cs _ fr e (Or.inl rfl))⟩,⟨Dn,q4.keep h2 (fun k cs fr e=>h3 k cs _ fr e (Or.inl rfl))⟩,h.ne,h.few,h.ops⟩
 rcases q2.2 with x | ⟨g,cap,cur,x,hg,hh,r⟩
 ·exact Or.inl x
 ·exact Or.inr ⟨g,cap,cur,x,hg,(h3 g _ _ _ hh (Or.inr rfl)).trans hh,r⟩
theorem infoOp:(Tryz.prog.info? 147).map (fun i=>(i.zero,i.size,i.bytes))=some (some (.agg #[.int .i64 0, .string ⟨#[]⟩, .string ⟨#[]⟩]),3,40):=by kernel_rfl
end Go.Proofs.YtgdcjccbdmcebabGreatDoor
