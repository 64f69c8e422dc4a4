import Derived.Test.YtgdcjccbdmcebaaGreatDoorM46
set_option linter.unusedSimpArgs false
set_option linter.unusedVariables false
set_option maxHeartbeats 8000000
set_option maxRecDepth 100000
open Go.Proofs.Tryz
namespace Go.Proofs.YtgdcjccbdmcebaaGreatDoor
open Go.RowKit
attribute [local go_sem ↓] Go.wp_at_zero Go.wp_at_succ
variable {w:World}{k:Nat}
theorem ME (w:World):Calls prog 242 #[.slice none 0 0] w fun x w'=>x= .returned (.int .i64 6)/\w'=w:=by
 go_enter func242,ntmps242
 go_wp2_with fail
 go_loopw [12,3] (fun a b wr=>a= .int .i64 0/\b= .int .i64 6/\wr=w) (fun _ _ _=>0)
 case atStart=>exact⟨rfl,rfl,rfl⟩
 case round =>
  obtain⟨rfl,rfl,rfl⟩:=hrel;have c:¬(0:Int)<max (min 2 0) 0:=by decide
  go_wp2_with fail
  go_ret
  exact⟨rfl,rfl⟩
theorem Zd3 (w:World):Calls prog 167 #[.slice none 0 0] w fun x w'=>x= .returned (.tuple #[.slice none 0 0, .int .i64 6, .bool false])/\w'=w:=by
 go_enter func167,ntmps167
 go_wp2_with (go_at_call 242;refine (ME w).mono ?_;rintro _ a ⟨rfl,rfl⟩)
 go_ret3
 exact⟨rfl,rfl⟩
theorem Pt (w:World)(v:Value):Calls prog 121 #[.slice none 0 0,v] w fun x w'=>x= .returned (.int .i64 0)/\w'=w:=by
 go_enter func121,ntmps121
 go_wp2_with fail
 go_loopw [0] (fun a wr=>a= .slice none 0 0/\wr=w) (fun _ _=>0)
 case atStart=>exact⟨rfl,rfl⟩
 case round =>
  obtain⟨rfl,rfl⟩:=hrel;go_wp2_with fail
  go_ret
  exact⟨rfl,rfl⟩
theorem PM (w:World)(R D bd bn:Nat)(d:Ay)(i:Nat)(h:Av w R D bd bn d)(e:d.down=false)(hi:i<3)(hn:d.now i=none):Calls prog 318 #[.pointer (some ⟨D,0,none⟩), .string (Da i)] w fun x w'=>x= .returned (.tuple #[.slice none 0 0,AH 9])/\Below w.heap.size w w':=by
 obtain⟨l,m,q1,j⟩:=h.c;obtain⟨v,f⟩:=h.look hi
 have b:(Instr.lookup 89 (.map (some bn)) (.string (Da i)) true).run prog w= .ok (.tuple #[v, .bool false]) w:=by
  have:=f 0;rw[hn] at this;exact this
 have t1:=q1.cells.1.1.1.1.2;have t5:=q1.cells.2;rw[e] at t5;have g:=Zz (show AH 9= .iface 32 (.int .i64 9) from Zan (by decide));obtain⟨nm,a⟩:∃nm,nm=Da i:=⟨_,rfl⟩;rw[<-a] at b ⊢;clear h q1 j f hn e hi a
 go_enter func318,ntmps318
 go_wp2_with fail
 go_ret2
 exact⟨by rw[g.o];rfl,Zk _ _⟩
theorem Kf (w:World)(R D bd bn:Nat)(d:Ay)(i:Nat)(h:Av w R D bd bn d)(e:d.down=false)(hi:i<3)(hn:d.now i=none):Calls prog 166 #[Bw D, .string (Da i)] w fun x w'=>x= .returned (.tuple #[.slice none 0 0, .nilIface])/\Below w.heap.size w w':=by
 have a:=Zz (PM w R D bd bn d i h e hi hn);rw[show AH 9= .iface 32 (.int .i64 9) from Zan (by decide)] at a;obtain⟨nm,c⟩:∃nm,nm=Da i:=⟨_,rfl⟩;have hm:=VO;unfold Bw;rw[<-c] at a ⊢;clear h hn e hi c
 go_enter func166,ntmps166
 go_wp2_with (first
  | (go_at_call 318;refine a.o.mono ?_;rintro _ g ⟨rfl,b⟩;have f:=Zz b;clear b)
  | (go_at_call 84;refine (LM 9 _).mono ?_;rintro _ j ⟨rfl,rfl⟩))
 go_ret2
 exact⟨rfl,f.o⟩
def Fs:Value:= .agg #[.int .i64 0, .slice none 0 0, .slice none 0 0]
theorem Va {rb:Nat}(h:w.heap[rb]? =some (.cells #[.int .i64 0, .slice none 0 0, .slice none 0 0] 220 (0,0))):(loadVar 220 ⟨rb,0,none⟩).run prog w= .ok Fs w:=by
 have z0:=Zad h 0;have a:=Zad h 1;have z2:=Zad h 2;unfold Fs
 go_simp
theorem Li (w:World)(R D bd bn:Nat)(d:Ay)(h:Av w R D bd bn d)(H:d.down=false)(hn:∀i,i<3->d.now i=none)(j:Za4 w):Calls prog 120 #[Bw D] w fun x w'=>x= .returned (.tuple #[Fs, .nilIface])/\Below w.heap.size w w':=by
 have g:=Zz (show ∀i a,i<3->Below w.heap.size w a->Calls prog 166 #[Bw D, .string (Da i)] a fun x w'=>x= .returned (.tuple #[.slice none 0 0, .nilIface])/\Below a.heap.size a w' from fun i a hi c=>Kf a R D bd bn d i (h.below c) H hi (hn i hi));obtain⟨n0,m⟩:∃s,s=Da 0:=⟨_,rfl⟩;obtain⟨n1,n⟩:∃s,s=Da 1:=⟨_,rfl⟩;obtain⟨n2,q⟩:∃s,s=Da 2:=⟨_,rfl⟩
 have l:=Zz (show ∀a,Below w.heap.size w a->(a.cell? ⟨1,0,none⟩=some (.string n0)/\a.cell? ⟨1,1,none⟩=some (.string n1))/\a.cell? ⟨1,2,none⟩=some (.string n2) from fun a c=>by
  rw[m,n,q];exact⟨⟨cell_later c (j 0 (by decide)),cell_later c (j 1 (by decide))⟩,cell_later c (j 2 (by decide))⟩)
 have E:=Zz (show ∀a,Below w.heap.size w a->Calls prog 166 #[Bw D, .string n0] a fun x w'=>x= .returned (.tuple #[.slice none 0 0, .nilIface])/\Below a.heap.size a w' from fun a c=>by rw[m];exact g.o 0 a (by decide) c);have H1:=Zz (show ∀a,Below w.heap.size w a->Calls prog 166 #[Bw D, .string n1] a fun x w'=>x= .returned (.tuple #[.slice none 0 0, .nilIface])/\Below a.heap.size a w' from fun a c=>by rw[n];exact g.o 1 a (by decide) c);have F:=Zz (show ∀a,Below w.heap.size w a->Calls prog 166 #[Bw D, .string n2] a fun x w'=>x= .returned (.tuple #[.slice none 0 0, .nilIface])/\Below a.heap.size a w' from fun a c=>by rw[q];exact g.o 2 a (by decide) c);obtain⟨C,r⟩:∃C,C=w.alloc (.cells #[.int .i64 0, .slice none 0 0, .slice none 0 0] 220):=⟨_,rfl⟩;have B:=Zz (show Below w.heap.size w C from by rw[r];exact (Zk _ _).alloc (Zx _) _);have J:=Zz r;obtain⟨G,u⟩:∃G,G=Bw D:=⟨_,rfl⟩;rw[<-u] at E H1 F ⊢;clear h H hn j m n q g r u
 go_enter func120,ntmps120
 go_wp2_with fail
 go_loopw [4] (fun A wr=>(A= .int .i64 2\/A= .int .i64 1\/A= .int .i64 0)/\Below w.heap.size w wr/\wr.heap[w.heap.size]? =some (.cells #[.int .i64 0, .slice none 0 0, .slice none 0 0] 220 (0,0))) (fun A _=>(intOf A).toNat)
 case atStart=>exact⟨Zu rfl,by rw[<-J.o];exact B.o,heap_alloc_new w _⟩
 case round =>
  obtain⟨hi,c,hf⟩:=hrel;rcases hi with rfl | rfl | rfl
  ·obtain⟨⟨q0,q1⟩,I⟩:=l.o wr c
   have HF:=Zz (Zq c hf);clear c hf
   go_wp2_with (first
    | (go_at_call 166;refine (F.o wr HF.o.1).mono ?_;rintro _ t ⟨rfl,b⟩;have e:=Zz b;clear b)
    | (go_at_call 167;refine (Zd3 _).mono ?_;rintro _ w4 ⟨rfl,rfl⟩))
   go_roundw
   case rel=>exact⟨by simp,HF.o.1.trans (e.o.mono HF.o.1.size),(e.o.block _ (Zaa HF.o.2)).trans HF.o.2⟩
   case measure=>decide
  ·obtain⟨⟨q0,q1⟩,I⟩:=l.o wr c
   have HF:=Zz (Zq c hf);clear c hf
   go_wp2_with (first
    | (go_at_call 166;refine (H1.o wr HF.o.1).mono ?_;rintro _ t ⟨rfl,b⟩;have e:=Zz b;clear b)
    | (go_at_call 167;refine (Zd3 _).mono ?_;rintro _ w4 ⟨rfl,rfl⟩))
   go_roundw
   case rel=>exact⟨by simp,HF.o.1.trans (e.o.mono HF.o.1.size),(e.o.block _ (Zaa HF.o.2)).trans HF.o.2⟩
   case measure=>decide
  ·obtain⟨⟨q0,q1⟩,I⟩:=l.o wr c
   have HF:=Zz (Zq c hf);clear c hf;go_wp2_with (go_at_call 166;refine (E.o wr HF.o.1).mono ?_;rintro _ t ⟨rfl,b⟩;have f:=(b.block _ (Zaa HF.o.2)).trans HF.o.2;have e:=Zz (Zq b f);have K:=Zad f 0;have L:=Zad f 1;have M:=Zad f 2;have f0:t.frozen? ⟨w.heap.size,0,none⟩=false:=(by simp[World.frozen?,f]);have f1:t.frozen? ⟨w.heap.size,1,none⟩=false:=(by simp[World.frozen?,f]);have f2:t.frozen? ⟨w.heap.size,2,none⟩=false:=(by simp[World.frozen?,f]);clear b f)
   have z:(((t.setCell ⟨w.heap.size,0,none⟩ (.int .i64 0)).setCell ⟨w.heap.size,1,none⟩ (.slice none 0 0)).setCell ⟨w.heap.size,2,none⟩ (.slice none 0 0)).heap[w.heap.size]? =some (.cells #[.int .i64 0, .slice none 0 0, .slice none 0 0] 220 (0,0)):=by
    rw[Zab (Zab (Zab e.o.2 _) _) _];rfl
   have y:=Va z;refine bodyPost_ret (v:= .tuple #[Fs, .nilIface]) (by rw[results_cell_tmp rfl];simp[Result.andThen,asAddr,y]) rfl ⟨rfl,?_⟩;have b:Below w.heap.size w t:=HF.o.1.trans (e.o.1.mono HF.o.1.size);exact ((b.setCell (p:=⟨w.heap.size,0,none⟩) (Zx _) _).setCell (p:=⟨w.heap.size,1,none⟩) (Zx _) _).setCell (p:=⟨w.heap.size,2,none⟩) (Zx _) _
def Jl (D:Nat):Value:= .agg #[Bw D, .int .i64 0, .int .i64 0, .nilIface]
theorem RE {rb D:Nat}(h:w.heap[rb]? =some (.cells #[Bw D, .int .i64 0, .int .i64 0, .nilIface] 148 (0,0))):(loadVar 148 ⟨rb,0,none⟩).run prog w= .ok (Jl D) w:=by
 have z0:=Zad h 0;have a:=Zad h 1;have z2:=Zad h 2;have z3:=Zad h 3;unfold Jl
 go_simp
theorem Qt (w:World)(R D bd bn M:Nat)(d:Ay)(v1 v2:Value)(h:Av w R D bd bn d)(hw:d.Bx=0)(I:d.synced.down=false)(hn:∀i,i<3->d.synced.now i=none)(hs:Hr d.CJ M)(L:∀o∈d.Ap,o.data.length<=M)(hM:M<=1099511627776)(K:Za4 w)(X:4<D/\4<bd/\4<bn/\4<R) :
  Calls prog 79 #[Bw D,v1,v2] w fun x w'=>x= .returned (.tuple #[Jl D, .nilIface])/\Av w' R D bd bn d.synced/\DF w w' R D bd bn/\w'.cell? ⟨D,2,none⟩=some (.slice none 0 0):=by
 obtain⟨rb,E⟩:∃rb,rb=w.heap.size:=⟨_,rfl⟩;obtain⟨y,r⟩:∃y,y=w.alloc (.cells #[.nilIface, .int .i64 0, .int .i64 0, .nilIface] 148):=⟨_,rfl⟩;have n:Below w.heap.size w y:=by rw[r];exact (Zk _ _).alloc (Zx _) _
 have q:y.heap[rb]? =some (.cells #[.nilIface, .int .i64 0, .int .i64 0, .nilIface] 148 (0,0)):=by rw[r,E];exact heap_alloc_new w _
 have h1:=h.below n;obtain⟨pa,pc,dk,_⟩:=h.c;obtain⟨Dd,f3⟩:=h.fd;obtain⟨Dn,f4⟩:=h.fn;have U:=Zaa dk.Au;have W:=f3.lt;have Y:=f4.lt
 have S:=Zz (show Calls prog 320 #[.pointer (some ⟨D,0,none⟩)] y fun x w'=>x= .returned .nilIface/\Av w' R D bd bn d.synced/\DF y w' R D bd bn/\w'.heap[rb]? =some (.cells #[.nilIface, .int .i64 0, .int .i64 0, .nilIface] 148 (0,0))/\Za4 w'/\w'.cell? ⟨D,2,none⟩=some (.slice none 0 0) from by
  refine (Ia y R D bd bn M d h1 hs L hM).mono ?_;rintro x w' ⟨rfl,q1,F,q9⟩;rw[hw,Zaw];refine⟨rfl,q1,F,(F.block rb (Zaa q) (by omega) (by omega) (by omega) (Zj fun ae ag e'=>by rw[q] at e';simp only[Option.some.injEq,Obj.cells.injEq] at e';exact absurd e'.2.1 (by decide))).trans q,fun i hi=> ?_,q9 hw⟩;have hz:=cell_later n (K i hi);have V:1<y.heap.size:=World.block_lt_of_cell? _ _ hz;exact (World.cell?_of_block (a:=⟨1,i,none⟩) (F.block 1 V (by omega) (by omega) (by omega) (Zu (by omega)))).trans hz)
 have H:=Zz (show ∀u,Av u R D bd bn d.synced->Za4 u->Calls prog 120 #[Bw D] u fun x w'=>x= .returned (.tuple #[Fs, .nilIface])/\Below u.heap.size u w' from fun u Z hy=>Li u R D bd bn d.synced Z I hn hy);have Q:=Zz (Zq r (Zq E n));have hm:=Qx;unfold Fs Bw at H;unfold Bw;clear h hw I hn hs L hM K X E r n q h1 dk f3 f4 U W Y
 go_enter func79,ntmps79
 go_upto_region 1 with fail
 rw[<-Q.o.1,<-Q.o.2.1]
 go_upto_region 9 with (first
  | (go_at_call 320;refine S.o.mono ?_;rintro _ u ⟨rfl,q1,F,q3,q4,q5⟩;have z:=Zz (Zq q1 (Zq F (Zq q3 (Zq q4 q5))));clear q1 F q3 q4 q5)
  | (go_at_call 120;refine (H.o u z.o.1 z.o.2.2.2.1).mono ?_;rintro _ P ⟨rfl,A⟩;have J:=(A.block rb (Zaa z.o.2.2.1)).trans z.o.2.2.1;have G:=Zz (Zq A J);clear A J))
 obtain⟨fb,C⟩:∃fb,fb=P.heap.size:=⟨_,rfl⟩;obtain⟨w4,s⟩:∃w4,w4=P.alloc (.cells #[.int .i64 0, .slice none 0 0, .slice none 0 0] 220):=⟨_,rfl⟩;rw[<-s,<-C];have l:Below P.heap.size P w4:=by rw[s];exact (Zk _ _).alloc (Zx _) _
 have b:=(l.block rb (Zaa G.o.2)).trans G.o.2;have B:w4.heap[fb]? =some (.cells #[.int .i64 0, .slice none 0 0, .slice none 0 0] 220 (0,0)):=by rw[s,C];exact heap_alloc_new P _
 have z0:=Zad B 0;have z2:=Zad B 2;have y0:=Zad b 0;have y1:=Zad b 1;have y2:=Zad b 2;have y3:=Zad b 3;have f0:w4.frozen? ⟨rb,0,none⟩=false:=by simp[World.frozen?,b]
 have f1:w4.frozen? ⟨rb,1,none⟩=false:=by simp[World.frozen?,b]
 have f2:w4.frozen? ⟨rb,2,none⟩=false:=by simp[World.frozen?,b]
 have f3:w4.frozen? ⟨rb,3,none⟩=false:=by simp[World.frozen?,b]
 have j:=Zz (show (loadVar 148 ⟨rb,0,none⟩).run prog ((((w4.setCell ⟨rb,0,none⟩ (Bw D)).setCell ⟨rb,1,none⟩ (.int .i64 0)).setCell ⟨rb,2,none⟩ (.int .i64 0)).setCell ⟨rb,3,none⟩ .nilIface).drew= .ok (Jl D) ((((w4.setCell ⟨rb,0,none⟩ (Bw D)).setCell ⟨rb,1,none⟩ (.int .i64 0)).setCell ⟨rb,2,none⟩ (.int .i64 0)).setCell ⟨rb,3,none⟩ .nilIface).drew/\Av ((((w4.setCell ⟨rb,0,none⟩ (Bw D)).setCell ⟨rb,1,none⟩ (.int .i64 0)).setCell ⟨rb,2,none⟩ (.int .i64 0)).setCell ⟨rb,3,none⟩ .nilIface).drew R D bd bn d.synced/\DF w ((((w4.setCell ⟨rb,0,none⟩ (Bw D)).setCell ⟨rb,1,none⟩ (.int .i64 0)).setCell ⟨rb,2,none⟩ (.int .i64 0)).setCell ⟨rb,3,none⟩ .nilIface).drew R D bd bn/\((((w4.setCell ⟨rb,0,none⟩ (Bw D)).setCell ⟨rb,1,none⟩ (.int .i64 0)).setCell ⟨rb,2,none⟩ (.int .i64 0)).setCell ⟨rb,3,none⟩ .nilIface).drew.cell? ⟨D,2,none⟩=some (.slice none 0 0) from by
  have N:(((w4.setCell ⟨rb,0,none⟩ (Bw D)).setCell ⟨rb,1,none⟩ (.int .i64 0)).setCell ⟨rb,2,none⟩ (.int .i64 0)).setCell ⟨rb,3,none⟩ .nilIface |>.drew.heap[rb]? =some (.cells #[Bw D, .int .i64 0, .int .i64 0, .nilIface] 148 (0,0)):=by
   show ((((w4.setCell ⟨rb,0,none⟩ (Bw D)).setCell ⟨rb,1,none⟩ (.int .i64 0)).setCell ⟨rb,2,none⟩ (.int .i64 0)).setCell ⟨rb,3,none⟩ .nilIface).heap[rb]? =_;rw[Zab (Zab (Zab (Zab b _) _) _) _];rfl
  have m:Ax w4 ((((w4.setCell ⟨rb,0,none⟩ (Bw D)).setCell ⟨rb,1,none⟩ (.int .i64 0)).setCell ⟨rb,2,none⟩ (.int .i64 0)).setCell ⟨rb,3,none⟩ .nilIface).drew rb:=(Ax.Iq w4 rb _ _ _ _).drew;have p:Av w4 R D bd bn d.synced:=(z.o.1.below G.o.1).below l;obtain⟨pa,pc,dk,_⟩:=p.c;obtain⟨Dd,f3⟩:=p.fd;obtain⟨Dn,f4⟩:=p.fn
  have hm:∀T f Dx,AB w4 T f Dx->T≠rb:=fun T f Dx Z e2=>by
   obtain⟨es,c,e3,_⟩:=Z.own;rw[e2,b] at e3;cases e3
  refine⟨RE N,p.Aj m.size (m.block D (Zaa dk.Au) (Zai dk.Au b (by decide))) (m.block bd f3.lt (hm _ _ _ f3)) (m.block bn f4.lt (hm _ _ _ f4)) (fun k cs t fr e ht=>m.block k (Zaa e) (Zai e b (by rcases ht with rfl | rfl<;>decide))),?_,(World.cell?_of_block (a:=⟨D,2,none⟩) (m.block D (Zaa dk.Au) (Zai dk.Au b (by decide)))).trans (cell_later l (cell_later G.o.1 z.o.2.2.2.2))⟩;have g:DF w w4 R D bd bn:=(((DF.Ae R D bd bn Q.o.2.2).trans z.o.2.1).trans (DF.Ae R D bd bn G.o.1)).trans (DF.Ae R D bd bn l);have aj:=Q.o.2.1;exact⟨m.os.trans g.os,m.tape.trans g.tape,m.output.trans g.output,Zv g.size m.size,fun k hk a1 a2 a3 a4=>(m.block k (Zy hk g.size) (by omega)).trans (g.block k hk a1 a2 a3 a4)⟩)
 unfold Bw at j;clear l b B s C
 go_region_with (go_at_call 121;refine (Pt _ v2).mono ?_;rintro _ w5 ⟨rfl,O⟩;rw[O];clear O)
 all_goals go_wp2_with fail
 all_goals
  refine bodyPost_ret (v:= .tuple #[Jl D, .nilIface]) (by rw[results_cell_tmp rfl];simp[Result.andThen,asAddr,j.o.1,Act.put]) rfl ⟨rfl,j.o.2⟩
open Go.RowKit
def PS:List Value:=[.slice none 0 0, .slice none 0 0, .int .i64 0, .int .i64 0, .slice none 0 0, .int .i64 0, .int .i64 0, .int .u64 0, .map none]
def GI:List Value:=PS++(List.replicate 704 (.slice none 0 0)++(List.replicate 11 (.int .u64 0)++List.replicate 3 (.int .u64 0)))
theorem SE (a:k<704):GI[9+k]? =some (.slice none 0 0):=by
 unfold GI;rw[List.getElem?_append_right (show PS.length<=9+k by show 9<=9+k;omega),show 9+k - PS.length=k by show 9+k - 9=k;omega,List.getElem?_append_left (by simpa using a),List.getElem?_replicate,if_pos a]
theorem SF (a:k<11):GI[713+k]? =some (.int .u64 0):=by
 unfold GI;rw[List.getElem?_append_right (show PS.length<=713+k by show 9<=713+k;omega),show 713+k - PS.length=704+k by show 713+k - 9=704+k;omega,List.getElem?_append_right (by simp),List.length_replicate,show 704+k - 704=k by omega,List.getElem?_append_left (by simpa using a),List.getElem?_replicate,if_pos a]
theorem Ic (a:k<3):GI[724+k]? =some (.int .u64 0):=by
 unfold GI;rw[List.getElem?_append_right (show PS.length<=724+k by show 9<=724+k;omega),show 724+k - PS.length=715+k by show 724+k - 9=715+k;omega,List.getElem?_append_right (by simp;omega),List.length_replicate,show 715+k - 704=11+k by omega,List.getElem?_append_right (by simp),List.length_replicate,show 11+k - 11=k by omega,List.getElem?_replicate,if_pos a]
theorem Vx {P B:Nat}(a:∀j v,GI[j]? =some v->w.cell? ⟨P,4+j,none⟩=some v)(hf:∀o,w.frozen? ⟨P,o,none⟩=false)(f:P<B)(c:B<=w.heap.size):BY w P B none Za1:=by
 have b:∀j v,GI[j]? =some v->w.cell? ⟨P,4+j,none⟩=some v:=a;have nil:∀(t:TypeId) (s:Nat),w.ownsRow B t s (.slice none 0 0) 0 []:=fun t s=>World.ownsRow_nil _ _ _ _
 have hp:Bu w P B Ck 0 (.map none) (fun _=> .slice none 0 0) (fun _=>[]) (fun _=>0):=by
  refine⟨a 7 _ rfl,a 8 _ rfl,fun k h=> ?_,fun k h=> ?_,hf,fun k _=>World.ownsRow_nil _ _ _ _,fun j k _ _ _ z b=>by simp[Value.ownBlock] at b,f,c,fun k _ z b=>by simp[Value.ownBlock] at b,fun z b=>by cases b⟩
  ·have:=a (9+k) _ (SE h)
   rwa[show 4+(9+k)=13+k by omega] at this
  ·have:=a (713+k) _ (SF h)
   rwa[show 4+(713+k)=717+k by omega] at this
 have e:Zag 0 []=fun _=>[]:=by funext j;rfl
 have hw:Bf w P B Ck 0 []:=by
  refine⟨⟨_,_,fun _=>0,by rw[e];exact hp,Zu ⟨rfl,rfl⟩,?_⟩,by omega,by simp,(fun t l=>by cases l),(fun i hi=>by simp at hi),(fun i j _ g=>by simp at g)⟩;intro L _;refine⟨by show 0<_;decide,fun s _=> ?_⟩;rw[e];simp
 refine⟨[],[],⟨⟨[],0,⟨⟨none,0,⟨a 0 _ rfl,hf,?_,fun i hi=>by simp at hi,fun i j hi=>by simp at hi,fun i j hi=>by simp at hi,f,c,by simp⟩⟩,⟨none,0,0,0,[],⟨a 1 _ rfl,a 2 _ rfl,a 3 _ rfl,hf,nil _ _,rfl,Bq.nil,by omega,f,c⟩,rfl⟩,⟨none,0,0,0,[],⟨a 4 _ rfl,a 5 _ rfl,a 6 _ rfl,hf,nil _ _,rfl,Bq.nil,by omega,f,c⟩⟩,hw,a 724 _ (Ic (k:=0) (by decide)),a 725 _ (Ic (k:=1) (by decide)),a 726 _ (Ic (k:=2) (by decide)),hf⟩,rfl,⟨[],rfl,fun i=>by simp[Za1],List.Pairwise.nil⟩⟩,rfl,fun i hi=>by simp[Za1] at hi⟩,?_⟩
 ·exact nil _ _
 ·exact⟨fun i j hi g=>by simp at g,fun d m=>by simp[Za1,Ab.AR] at m,fun t l=>by cases l⟩
end Go.Proofs.YtgdcjccbdmcebaaGreatDoor
