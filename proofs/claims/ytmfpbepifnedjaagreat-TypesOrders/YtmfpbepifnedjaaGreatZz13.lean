/- The document's reader. -/
import Derived.Test.YtmfpbepifnedjaaGreatZz01
import Derived.Test.YtmfpbepifnedjaaGreatZz12
set_option maxRecDepth 100000
set_option maxHeartbeats 32000000
namespace Go.Proofs.YtmfpbepifnedjaaGreat
section
open Go.RowKit Go.Maps
attribute [local go_sem ↓] Qbt Qca
theorem qone_of{rb g cap d:Nat}{l:List Tok}(hE:ExC 108 rb g cap l d #[.pointer (Js rb)])(hF:ExC 132 rb g cap l d #[.pointer (Js rb)]):ExC 135 rb g cap l d #[.pointer (Js rb)]:=fun w a i y f h=>by
 have b0:Below w.heap.size w (w.alloc (.cells #[Ji 0,Ji 0,Je,Jn,Ji 0] 59)):=(Below.refl _ w).alloc (Nat.le_refl _) _
 have n0:(w.alloc (.cells #[Ji 0,Ji 0,Je,Jn,Ji 0] 59)).heap[w.heap.size]?=some (.cells #[Ji 0,Ji 0,Je,Jn,Ji 0] 59 (0,0)):=heap_alloc_new w _
 have s0:(w.alloc (.cells #[Ji 0,Ji 0,Je,Jn,Ji 0] 59)).heap.size=w.heap.size+1:=by simp
 obtain⟨t,ht⟩:=h.tok
 have ax:=Qao (h.later b0) ht
 unfold tkA at ax
 have bP:=Qaa h.box
 have bJ:=h.row.lt
 have HH:=hide h
 have HT:=hide ht
 have bo:=hide hE
 have bG:=hide hF
 have H0:=hide (Ya b0 (Ya n0 s0))
 clear h ht hE hF b0 n0 s0
 go_enter Tryz.func135,Tryz.ntmps135
 go_wp2_with fail
 refine ax.mono ?_
 clear ax
 rintro en w1⟨rfl,b1⟩
 obtain⟨b0,n0,s0⟩:=Qa H0
 obtain⟨W2,aJ⟩:=JE (w1.alloc (.cells #[Ji t.kind,str t.text,Ji t.num,Ji (t.at_:Int)] 73))
 obtain⟨W3,aF⟩:=JE (W2.alloc (.cells #[Ji 0,Ji 0,Je,Jn,Ji (t.at_:Int)] 59))
 have bq:=b1.size
 have s2:W2.heap.size=w1.heap.size+1:=by rw[aJ];simp
 have s3:W3.heap.size=W2.heap.size+1:=by rw[aF];simp
 have b2:Below w1.heap.size w1 W2:=by rw[aJ];exact(Below.refl _ w1).alloc (Nat.le_refl _) _
 have b3:Below W2.heap.size W2 W3:=by rw[aF];exact(Below.refl _ W2).alloc (Nat.le_refl _) _
 have t2:W2.heap[w1.heap.size]?=some (.cells #[Ji t.kind,str t.text,Ji t.num,Ji (t.at_:Int)] 73 (0,0)):=by rw[aJ];exact heap_alloc_new w1 _
 have t3:W3.heap[w1.heap.size]?=some (.cells #[Ji t.kind,str t.text,Ji t.num,Ji (t.at_:Int)] 73 (0,0)):=(b3.block _ (by omega)).trans t2
 have m3:W3.heap[W2.heap.size]?=some (.cells #[Ji 0,Ji 0,Je,Jn,Ji (t.at_:Int)] 59 (0,0)):=by rw[aF];exact heap_alloc_new W2 _
 have z3:W3.heap[w.heap.size]?=some (.cells #[Ji 0,Ji 0,Je,Jn,Ji 0] 59 (0,0)):=((b3.block _ (by omega)).trans ((b2.block _ (by omega)).trans (b1.block _ (by omega)))).trans n0
 have b8:Below w.heap.size w W3:=((b0.trans (b1.mono (by omega))).trans (b2.mono (by omega))).trans (b3.mono (by omega))
 obtain⟨br,bC,bB,bA,yf⟩:=cl4 t2
 obtain⟨bU,bI,bR,bQ,vf⟩:=cl4 t3
 have N3:=Qhg W2 (c0:=Ji 0) (c1:=Ji 0) (c2:=Je) (c3:=Jn) (c4:=Ji (t.at_:Int)) (by simp[Value.oneCell'])
 rw[<- aF,s2]at N3
 obtain⟨nt,b4⟩:=JF w1.heap.size
 obtain⟨ne,b6⟩:=JF (w1.heap.size+1)
 rw[b4]at t3
 rw[s2,b6]at m3
 have V:=hide (Ya ((Qa HH).later b8) (Ya (Kp.of_below (rb:=rb) b8) (Ya t3 (Ya m3 z3))))
 have O:=hide (show rb<w.heap.size/\g<w.heap.size/\w.heap.size<nt/\nt<ne by omega)
 have HL:=hide (show W3.heap.size=ne+1 by omega)
 have HW:=hide (Ya b6 b4)
 rw[aJ]at br bC bB bA N3
 clear yf vf b0 n0 s0 b1 aJ aF bq s2 s3 b2 b3 t2 t3 m3 z3 b8 b4 b6 H0
 by_cases k2:t.kind=2
 ·
  have gk:(t.kind==2)=true:=beq_iff_eq.2 k2
  have HM:=hide ((Qa V).1.more (Qa HT) (by omega))
  have ad:=Qb (Qa V).1 (Qa HT)
  unfold tkA at ad
  clear k2
  go_wp2_with fail
  rw[(Qa HW).1,(Qa HW).2]
  refine ad.mono ?_
  clear ad
  rintro en G⟨_,a9,i9,y9,f9,rfl,rfl,⟨N,ey,ae⟩,J,H⟩
  rw[N,ey]at J
  clear N ey
  have Q:CoY a i y a9 i y:=by
   have:=Qa HM
   rcases ae with ⟨_,_,e⟩|⟨e,M⟩
   ·exact⟨rfl,by omega,fun h=>⟨h,by omega⟩⟩
   ·exact⟨rfl,by omega,fun h=>absurd this (M h)⟩
  have s:=(Qa V).2.1.trans H
  have mv:=H.keep (Qa V).2.2.2.1 (by have:=Qa O;omega)
  have P:=H.keep (Qa V).2.2.2.2 (by have:=Qa O;omega)
  clear ae H
  obtain⟨ah,af,ai,ag,aj,xf⟩:=ex5 mv
  obtain⟨z,o⟩:=JE (((G.setCell (Ja ne 0) (Ji 2)).setCell (Ja ne 1) (Ji t.num)))
  have T:z.heap[ne]?=some (.cells #[Ji 2,Ji t.num,Je,Jn,Ji (t.at_:Int)] 59 (0,0)):=by rw[o];exact(Qah (Qah mv 0 _) 1 _).trans rfl
  have B:∀q,q≠ne->z.heap[q]?=G.heap[q]?:=fun q n=>by rw[o,hpS n,hpS n]
  have U:z.heap.size=G.heap.size:=by rw[o];simp
  obtain⟨e1,e2,e3,e4⟩:=Qa O
  have L:=(B w.heap.size (by omega)).trans P
  have L5:=Qdl T
  have S5:=Qbv (new:=#[Ji 2,Ji t.num,Je,Jn,Ji (t.at_:Int)]) L rfl rfl (by simp[Value.oneCell'])
  obtain⟨r,k⟩:=JE (z.setRow w.heap.size #[Ji 2,Ji t.num,Je,Jn,Ji (t.at_:Int)])
  rw[<- k]at S5
  have D:∀q,q≠w.heap.size->r.heap[q]?=z.heap[q]?:=fun q n=>by rw[k];exact setRow_other _ _ _ _ n
  have S:r.heap.size=z.heap.size:=by rw[k,size_setRow]
  have F:r.heap[w.heap.size]?=some (.cells #[Ji 2,Ji t.num,Je,Jn,Ji (t.at_:Int)] 59 (0,0)):=by rw[k];exact setRow_heap _ _ _ _ _ _ L
  have A:=J.move (w':=r) (by omega) ((D rb (by omega)).trans (B rb (by omega))) ((D g (by omega)).trans (B g (by omega)))
  have C:Kp rb w r:=⟨by rw[k,o];exact s.os,by rw[k,o];exact s.tape,by rw[k,o];exact s.output,by rw[S,U];exact s.size,fun q n M=>((D q (by omega)).trans (B q (by omega))).trans (s.block q n M)⟩
  have E:ExS (fun b=>w.heap.size<=b) r [Ji 2,Ji t.num,Je,Jn,Ji (t.at_:Int)] (.mk 2 t.num [] [] (t.at_:Int)):=Qcg _ _ _ _ _ _
  have HF:=hide (Ya A (Ya C (Ya F (Ya E (Q)))))
  clear J s mv P T B U e1 e2 e3 e4 L k D S F A C E Q
  subst o
  go_wp2_with fail
  rename_i X
  refine X _ _ ?_
  clear X
  go_wp2_with fail
  obtain⟨A,C,F,E,W⟩:=Qa HF
  obtain⟨a3,a1,a0,a2,aa,zf⟩:=ex5 F
  refine bodyPost_ret (v:=.agg #[Ji 2,Ji t.num,Je,Jn,Ji (t.at_:Int)]) (by simp[results,Tryz.results135,go_sem,a3,a1,a0,a2,aa]) rfl ?_
  exact⟨_,_,_,_,_,rfl,⟨(.mk 2 t.num [] [] (t.at_:Int)),⟨_,rfl,⟨_,_,_,rfl⟩,E⟩,szQ.of A (fun e=>by obtain⟨_,_,q⟩:=W;have:=(q e).2;rw[exQ,exQs];omega)⟩,W,A,C⟩
 have bS:(t.kind==2)=false:=beq_eq_false_iff_ne.2 k2
 by_cases k3:t.kind=3
 ·
  have gk:(t.kind==3)=true:=beq_iff_eq.2 k3
  have HM:=hide ((Qa V).1.more (Qa HT) (by omega))
  have ad:=Qb (Qa V).1 (Qa HT)
  unfold tkA at ad
  clear k2 k3
  go_wp2_with fail
  rw[(Qa HW).1,(Qa HW).2]
  refine ad.mono ?_
  clear ad
  rintro en G⟨_,a9,i9,y9,f9,rfl,rfl,⟨N,ey,ae⟩,J,H⟩
  rw[N,ey]at J
  clear N ey
  have Q:CoY a i y a9 i y:=by
   have:=Qa HM
   rcases ae with ⟨_,_,e⟩|⟨e,M⟩
   ·exact⟨rfl,by omega,fun h=>⟨h,by omega⟩⟩
   ·exact⟨rfl,by omega,fun h=>absurd this (M h)⟩
  have s:=(Qa V).2.1.trans H
  have mv:=H.keep (Qa V).2.2.2.1 (by have:=Qa O;omega)
  have P:=H.keep (Qa V).2.2.2.2 (by have:=Qa O;omega)
  clear ae H
  obtain⟨ah,af,ai,ag,aj,xf⟩:=ex5 mv
  obtain⟨z,o⟩:=JE (((G.setCell (Ja ne 0) (Ji 3)).setCell (Ja ne 2) (str t.text)))
  have T:z.heap[ne]?=some (.cells #[Ji 3,Ji 0,str t.text,Jn,Ji (t.at_:Int)] 59 (0,0)):=by rw[o];exact(Qah (Qah mv 0 _) 2 _).trans rfl
  have B:∀q,q≠ne->z.heap[q]?=G.heap[q]?:=fun q n=>by rw[o,hpS n,hpS n]
  have U:z.heap.size=G.heap.size:=by rw[o];simp
  obtain⟨e1,e2,e3,e4⟩:=Qa O
  have L:=(B w.heap.size (by omega)).trans P
  have L5:=Qdl T
  have S5:=Qbv (new:=#[Ji 3,Ji 0,str t.text,Jn,Ji (t.at_:Int)]) L rfl rfl (by simp[Value.oneCell',str])
  obtain⟨r,k⟩:=JE (z.setRow w.heap.size #[Ji 3,Ji 0,str t.text,Jn,Ji (t.at_:Int)])
  rw[<- k]at S5
  have D:∀q,q≠w.heap.size->r.heap[q]?=z.heap[q]?:=fun q n=>by rw[k];exact setRow_other _ _ _ _ n
  have S:r.heap.size=z.heap.size:=by rw[k,size_setRow]
  have F:r.heap[w.heap.size]?=some (.cells #[Ji 3,Ji 0,str t.text,Jn,Ji (t.at_:Int)] 59 (0,0)):=by rw[k];exact setRow_heap _ _ _ _ _ _ L
  have A:=J.move (w':=r) (by omega) ((D rb (by omega)).trans (B rb (by omega))) ((D g (by omega)).trans (B g (by omega)))
  have C:Kp rb w r:=⟨by rw[k,o];exact s.os,by rw[k,o];exact s.tape,by rw[k,o];exact s.output,by rw[S,U];exact s.size,fun q n M=>((D q (by omega)).trans (B q (by omega))).trans (s.block q n M)⟩
  have E:ExS (fun b=>w.heap.size<=b) r [Ji 3,Ji 0,str t.text,Jn,Ji (t.at_:Int)] (.mk 3 0 t.text [] (t.at_:Int)):=Qcg _ _ _ _ _ _
  have HF:=hide (Ya A (Ya C (Ya F (Ya E (Q)))))
  clear J s mv P T B U e1 e2 e3 e4 L k D S F A C E Q
  subst o
  go_wp2_with fail
  rename_i X
  refine X _ _ ?_
  clear X
  go_wp2_with fail
  obtain⟨A,C,F,E,W⟩:=Qa HF
  obtain⟨a3,a1,a0,a2,aa,zf⟩:=ex5 F
  refine bodyPost_ret (v:=.agg #[Ji 3,Ji 0,str t.text,Jn,Ji (t.at_:Int)]) (by simp[results,Tryz.results135,go_sem,a3,a1,a0,a2,aa]) rfl ?_
  exact⟨_,_,_,_,_,rfl,⟨(.mk 3 0 t.text [] (t.at_:Int)),⟨_,rfl,⟨_,_,_,rfl⟩,E⟩,szQ.of A (fun e=>by obtain⟨_,_,q⟩:=W;have:=(q e).2;rw[exQ,exQs];omega)⟩,W,A,C⟩
 have bN:(t.kind==3)=false:=beq_eq_false_iff_ne.2 k3
 by_cases k1:t.kind=1
 ·
  have bu:(t.kind==1)=true:=beq_iff_eq.2 k1
  by_cases ku:t.text=[95]
  ·
   have gu:(t.text==[95])=true:=by simpa using ku
   have HM:=hide ((Qa V).1.more (Qa HT) (by omega))
   have ad:=Qb (Qa V).1 (Qa HT)
   unfold tkA at ad
   clear k2 k3 k1 ku
   go_wp2_with fail
   rw[(Qa HW).1,(Qa HW).2]
   refine ad.mono ?_
   clear ad
   rintro en G⟨_,a9,i9,y9,f9,rfl,rfl,⟨N,ey,ae⟩,J,H⟩
   rw[N,ey]at J
   clear N ey
   have Q:CoY a i y a9 i y:=by
    have:=Qa HM
    rcases ae with ⟨_,_,e⟩|⟨e,M⟩
    ·exact⟨rfl,by omega,fun h=>⟨h,by omega⟩⟩
    ·exact⟨rfl,by omega,fun h=>absurd this (M h)⟩
   have s:=(Qa V).2.1.trans H
   have mv:=H.keep (Qa V).2.2.2.1 (by have:=Qa O;omega)
   have P:=H.keep (Qa V).2.2.2.2 (by have:=Qa O;omega)
   clear ae H
   obtain⟨ah,af,ai,ag,aj,xf⟩:=ex5 mv
   obtain⟨z,o⟩:=JE ((G.setCell (Ja ne 0) (Ji 4)))
   have T:z.heap[ne]?=some (.cells #[Ji 4,Ji 0,Je,Jn,Ji (t.at_:Int)] 59 (0,0)):=by rw[o];exact(Qah mv 0 _).trans rfl
   have B:∀q,q≠ne->z.heap[q]?=G.heap[q]?:=fun q n=>by rw[o,hpS n]
   have U:z.heap.size=G.heap.size:=by rw[o];simp
   obtain⟨e1,e2,e3,e4⟩:=Qa O
   have L:=(B w.heap.size (by omega)).trans P
   have L5:=Qdl T
   have S5:=Qbv (new:=#[Ji 4,Ji 0,Je,Jn,Ji (t.at_:Int)]) L rfl rfl (by simp[Value.oneCell'])
   obtain⟨r,k⟩:=JE (z.setRow w.heap.size #[Ji 4,Ji 0,Je,Jn,Ji (t.at_:Int)])
   rw[<- k]at S5
   have D:∀q,q≠w.heap.size->r.heap[q]?=z.heap[q]?:=fun q n=>by rw[k];exact setRow_other _ _ _ _ n
   have S:r.heap.size=z.heap.size:=by rw[k,size_setRow]
   have F:r.heap[w.heap.size]?=some (.cells #[Ji 4,Ji 0,Je,Jn,Ji (t.at_:Int)] 59 (0,0)):=by rw[k];exact setRow_heap _ _ _ _ _ _ L
   have A:=J.move (w':=r) (by omega) ((D rb (by omega)).trans (B rb (by omega))) ((D g (by omega)).trans (B g (by omega)))
   have C:Kp rb w r:=⟨by rw[k,o];exact s.os,by rw[k,o];exact s.tape,by rw[k,o];exact s.output,by rw[S,U];exact s.size,fun q n M=>((D q (by omega)).trans (B q (by omega))).trans (s.block q n M)⟩
   have E:ExS (fun b=>w.heap.size<=b) r [Ji 4,Ji 0,Je,Jn,Ji (t.at_:Int)] (.mk 4 0 [] [] (t.at_:Int)):=Qcg _ _ _ _ _ _
   have HF:=hide (Ya A (Ya C (Ya F (Ya E (Q)))))
   clear J s mv P T B U e1 e2 e3 e4 L k D S F A C E Q
   subst o
   go_wp2_with fail
   obtain⟨A,C,F,E,W⟩:=Qa HF
   obtain⟨a3,a1,a0,a2,aa,zf⟩:=ex5 F
   refine bodyPost_ret (v:=.agg #[Ji 4,Ji 0,Je,Jn,Ji (t.at_:Int)]) (by simp[results,Tryz.results135,go_sem,a3,a1,a0,a2,aa]) rfl ?_
   exact⟨_,_,_,_,_,rfl,⟨(.mk 4 0 [] [] (t.at_:Int)),⟨_,rfl,⟨_,_,_,rfl⟩,E⟩,szQ.of A (fun e=>by obtain⟨_,_,q⟩:=W;have:=(q e).2;rw[exQ,exQs];omega)⟩,W,A,C⟩
  have gu:(t.text==[95])=false:=by simpa using ku
  have aH:=Qcb (Qa V).1
  clear k2 k3 k1 ku
  go_wp2_with fail
  rw[(Qa HW).1,(Qa HW).2]
  refine aH.mono ?_
  clear aH
  rintro en G⟨_,a9,i9,y9,f9,rfl,⟨x9,rfl,-⟩,⟨N,az,al⟩,J,H⟩
  rw[N]at J
  clear N
  have Q:CoY a i y a9 i y9:=⟨rfl,az,al⟩
  have s:=(Qa V).2.1.trans H
  have mv:=H.keep (Qa V).2.2.2.1 (by have:=Qa O;omega)
  have P:=H.keep (Qa V).2.2.2.2 (by have:=Qa O;omega)
  clear az al H
  obtain⟨ah,af,ai,ag,aj,xf⟩:=ex5 mv
  obtain⟨z,o⟩:=JE (((G.setCell (Ja ne 0) (Ji 1)).setCell (Ja ne 2) (str x9)))
  have T:z.heap[ne]?=some (.cells #[Ji 1,Ji 0,str x9,Jn,Ji (t.at_:Int)] 59 (0,0)):=by rw[o];exact(Qah (Qah mv 0 _) 2 _).trans rfl
  have B:∀q,q≠ne->z.heap[q]?=G.heap[q]?:=fun q n=>by rw[o,hpS n,hpS n]
  have U:z.heap.size=G.heap.size:=by rw[o];simp
  obtain⟨e1,e2,e3,e4⟩:=Qa O
  have L:=(B w.heap.size (by omega)).trans P
  have L5:=Qdl T
  have S5:=Qbv (new:=#[Ji 1,Ji 0,str x9,Jn,Ji (t.at_:Int)]) L rfl rfl (by simp[Value.oneCell',str])
  obtain⟨r,k⟩:=JE (z.setRow w.heap.size #[Ji 1,Ji 0,str x9,Jn,Ji (t.at_:Int)])
  rw[<- k]at S5
  have D:∀q,q≠w.heap.size->r.heap[q]?=z.heap[q]?:=fun q n=>by rw[k];exact setRow_other _ _ _ _ n
  have S:r.heap.size=z.heap.size:=by rw[k,size_setRow]
  have F:r.heap[w.heap.size]?=some (.cells #[Ji 1,Ji 0,str x9,Jn,Ji (t.at_:Int)] 59 (0,0)):=by rw[k];exact setRow_heap _ _ _ _ _ _ L
  have A:=J.move (w':=r) (by omega) ((D rb (by omega)).trans (B rb (by omega))) ((D g (by omega)).trans (B g (by omega)))
  have C:Kp rb w r:=⟨by rw[k,o];exact s.os,by rw[k,o];exact s.tape,by rw[k,o];exact s.output,by rw[S,U];exact s.size,fun q n M=>((D q (by omega)).trans (B q (by omega))).trans (s.block q n M)⟩
  have E:ExS (fun b=>w.heap.size<=b) r [Ji 1,Ji 0,str x9,Jn,Ji (t.at_:Int)] (.mk 1 0 x9 [] (t.at_:Int)):=Qcg _ _ _ _ _ _
  have HF:=hide (Ya A (Ya C (Ya F (Ya E (Q)))))
  clear J s mv P T B U e1 e2 e3 e4 L k D S F A C E Q
  subst o
  go_wp2_with fail
  obtain⟨A,C,F,E,W⟩:=Qa HF
  obtain⟨a3,a1,a0,a2,aa,zf⟩:=ex5 F
  refine bodyPost_ret (v:=.agg #[Ji 1,Ji 0,str x9,Jn,Ji (t.at_:Int)]) (by simp[results,Tryz.results135,go_sem,a3,a1,a0,a2,aa]) rfl ?_
  exact⟨_,_,_,_,_,rfl,⟨(.mk 1 0 x9 [] (t.at_:Int)),⟨_,rfl,⟨_,_,_,rfl⟩,E⟩,szQ.of A (fun e=>by obtain⟨_,_,q⟩:=W;have:=(q e).2;rw[exQ,exQs];omega)⟩,W,A,C⟩
 have bu:(t.kind==1)=false:=beq_eq_false_iff_ne.2 k1
 clear k1 k2 k3
 have av:=Qbf (Qa V).1 ⟨#[45]⟩
 go_wp2_with fail
 rw[(Qa HW).1,(Qa HW).2]
 refine av.mono ?_
 clear av
 rintro en w4⟨b,a4,f4,rfl,aq,ar,h4,k4⟩
 have bv:=Qa O
 have H4:=hide (Ya h4 (Ya ((Qa V).2.1.trans k4) (Ya (k4.keep (Qa V).2.2.1 (by omega)) (Ya (k4.keep (Qa V).2.2.2.1 (by omega)) (k4.keep (Qa V).2.2.2.2 (by omega))))))
 have aS:=hide (show a<=a4 by
  have hp:a<=a:=Nat.le_refl _
  cases b with
  |true=>have:=(aq rfl).2;omega
  |false=>have:=ar rfl;omega)
 have bz:=hide (show b=true->a<a4 from fun e=>by have:=(aq e).2;omega)
 have bM:=hide (show ne<w4.heap.size from Qaa (Qa H4).2.2.2.1)
 clear aq ar h4 k4 bv
 cases b
 ·
  have av:=Qbf (Qa H4).1 ⟨#[40]⟩
  go_wp2_with fail
  refine av.mono ?_
  clear av
  rintro en w5⟨b,a5,f5,rfl,aq,ar,h5,k5⟩
  have bE:=Qa O
  have H5:=hide (Ya h5 (Ya ((Qa H4).2.1.trans k5) (Ya (k5.keep (Qa H4).2.2.1 (by omega)) (Ya (k5.keep (Qa H4).2.2.2.1 (by omega)) (k5.keep (Qa H4).2.2.2.2 (by omega))))))
  have aP:=hide (show a<=a5 by
   have hp:a<=a4:=Qa aS
   cases b with
   |true=>have:=(aq rfl).2;omega
   |false=>have:=ar rfl;omega)
  have bw:=hide (show ne<w5.heap.size from Qaa (Qa H5).2.2.2.1)
  clear aq ar h5 k5 bE
  cases b
  ·
   have av:=Qbf (Qa H5).1 ⟨#[36]⟩
   go_wp2_with fail
   refine av.mono ?_
   clear av
   rintro en r⟨b,a6,f6,rfl,aq,ar,A,C⟩
   have bt:=Qa O
   have H6:=hide (Ya A (Ya ((Qa H5).2.1.trans C) (Ya (C.keep (Qa H5).2.2.1 (by omega)) (Ya (C.keep (Qa H5).2.2.2.1 (by omega)) (C.keep (Qa H5).2.2.2.2 (by omega))))))
   have aR:=hide (show a<=a6 by
    have hp:a<=a5:=Qa aP
    cases b with
    |true=>have:=(aq rfl).2;omega
    |false=>have:=ar rfl;omega)
   have bH:=hide (show ne<r.heap.size from Qaa (Qa H6).2.2.2.1)
   clear aq ar A C bt
   cases b
   ·
    have bn:=Qbe (Qa H6).1 (why:=10) (by decide)
    go_wp2_with fail
    refine bn.mono ?_
    clear bn
    rintro en G⟨_,a9,i9,y9,f9,rfl,rfl,⟨ea,N,ae⟩,J,H⟩
    rw[ea,N]at J
    clear ea N
    have Q:CoY a i y a6 i y9:=⟨rfl,Qa aR,fun e=>absurd e ae⟩
    have s:=(Qa H6).2.1.trans H
    have mv:=H.keep (Qa H6).2.2.2.1 (by have:=Qa O;omega)
    have P:=H.keep (Qa H6).2.2.2.2 (by have:=Qa O;omega)
    clear ae H
    obtain⟨ah,af,ai,ag,aj,xf⟩:=ex5 mv
    obtain⟨z,o⟩:=JE G
    have T:z.heap[ne]?=some (.cells #[Ji 0,Ji 0,Je,Jn,Ji (t.at_:Int)] 59 (0,0)):=by rw[o];exact mv
    have B:∀q,q≠ne->z.heap[q]?=G.heap[q]?:=fun q _=>by rw[o]
    have U:z.heap.size=G.heap.size:=by rw[o]
    obtain⟨e1,e2,e3,e4⟩:=Qa O
    have L:=(B w.heap.size (by omega)).trans P
    have L5:=Qdl T
    have S5:=Qbv (new:=#[Ji 0,Ji 0,Je,Jn,Ji (t.at_:Int)]) L rfl rfl (by simp[Value.oneCell'])
    obtain⟨r,k⟩:=JE (z.setRow w.heap.size #[Ji 0,Ji 0,Je,Jn,Ji (t.at_:Int)])
    rw[<- k]at S5
    have D:∀q,q≠w.heap.size->r.heap[q]?=z.heap[q]?:=fun q n=>by rw[k];exact setRow_other _ _ _ _ n
    have S:r.heap.size=z.heap.size:=by rw[k,size_setRow]
    have F:r.heap[w.heap.size]?=some (.cells #[Ji 0,Ji 0,Je,Jn,Ji (t.at_:Int)] 59 (0,0)):=by rw[k];exact setRow_heap _ _ _ _ _ _ L
    have A:=J.move (w':=r) (by omega) ((D rb (by omega)).trans (B rb (by omega))) ((D g (by omega)).trans (B g (by omega)))
    have C:Kp rb w r:=⟨by rw[k,o];exact s.os,by rw[k,o];exact s.tape,by rw[k,o];exact s.output,by rw[S,U];exact s.size,fun q n M=>((D q (by omega)).trans (B q (by omega))).trans (s.block q n M)⟩
    have E:ExS (fun b=>w.heap.size<=b) r [Ji 0,Ji 0,Je,Jn,Ji (t.at_:Int)] (.mk 0 0 [] [] (t.at_:Int)):=Qcg _ _ _ _ _ _
    have HF:=hide (Ya A (Ya C (Ya F (Ya E (Q)))))
    clear J s mv P T B U e1 e2 e3 e4 L k D S F A C E Q
    subst o
    go_wp2_with fail
    obtain⟨A,C,F,E,W⟩:=Qa HF
    obtain⟨a3,a1,a0,a2,aa,zf⟩:=ex5 F
    refine bodyPost_ret (v:=.agg #[Ji 0,Ji 0,Je,Jn,Ji (t.at_:Int)]) (by simp[results,Tryz.results135,go_sem,a3,a1,a0,a2,aa]) rfl ?_
    exact⟨_,_,_,_,_,rfl,⟨(.mk 0 0 [] [] (t.at_:Int)),⟨_,rfl,⟨_,_,_,rfl⟩,E⟩,szQ.of A (fun e=>by obtain⟨_,_,q⟩:=W;have:=(q e).2;rw[exQ,exQs];omega)⟩,W,A,C⟩
   have aH:=Qcb (Qa H6).1
   go_wp2_with fail
   refine aH.mono ?_
   clear aH
   rintro en w8⟨_,a8,i8,y8,f8,rfl,⟨x8,rfl,-⟩,⟨N,au,ab⟩,h8,k8⟩
   rw[N]at h8
   clear N
   have aZ:=Qa O
   have m8:=k8.keep (Qa H6).2.2.2.1 (by omega)
   have z8:=k8.keep (Qa H6).2.2.2.2 (by omega)
   have ay:=(Qa H6).2.1.trans k8
   obtain⟨ah,af,ai,ag,aj,xf⟩:=ex5 m8
   obtain⟨I,R⟩:=JE ((w8.setCell (Ja ne 0) (Ji 6)).setCell (Ja ne 2) (str x8))
   have mY:I.heap[ne]?=some (.cells #[Ji 6,Ji 0,str x8,Jn,Ji (t.at_:Int)] 59 (0,0)):=by rw[R];exact(Qah (Qah m8 0 _) 2 _).trans rfl
   have Z:∀q,q≠ne->I.heap[q]?=w8.heap[q]?:=fun q n=>by rw[R,hpS n,hpS n]
   have sY:I.heap.size=w8.heap.size:=by rw[R];simp
   have aU:=k8.size
   have aD:=Qaa m8
   have ao:=h8.move (w':=I) (by omega) (Z rb (by omega)) (Z g (by omega))
   have Y:Kp rb w I:=⟨by rw[R];exact ay.os,by rw[R];exact ay.tape,by rw[R];exact ay.output,by rw[sY];exact ay.size,fun q n M=>(Z q (by omega)).trans (ay.block q n M)⟩
   have bj:=Qjt ao (Qa bo)
   have aK:=hide (Ya Y (Ya mY (Ya ((Z _ (by omega)).trans z8) (Ya au (Ya ab (show ne<I.heap.size by omega))))))
   have aI:=hide R
   clear h8 k8 aZ m8 z8 ay R mY Z sY ao Y au ab aU aD
   go_wp2_with fail
   rw[<- Qa aI]
   clear aI ah af ai ag aj xf
   refine bj.mono ?_
   clear bj
   rintro en G⟨_,a9,i9,y9,f9,rfl,⟨ks,aX,bp⟩,⟨N,az,al⟩,J,H⟩
   rw[N]at J
   clear N
   obtain⟨ka,kc,rfl⟩:=aX.sl
   obtain⟨Y,mY,zY,au,ab,aB⟩:=Qa aK
   have aY:=Qa O
   have s:=Y.trans H
   have mv:=H.keep mY (by omega)
   have P:=H.keep zY (by omega)
   have SB:=hide (show y9=0->exQ (.mk 6 0 x8 ks (t.at_:Int))+2*a<=2*a9 from fun e=>by have q1:=bp.at J e;have:=(ab (al e).1).2;have:=Qa aR;rw[exQ];omega)
   clear bp
   have Q:CoY a i y a9 i y9:=⟨rfl,by have:=Qa aR;omega,fun e=>⟨(ab (al e).1).1,by have:=(ab (al e).1).2;have:=Qa aR;omega⟩⟩
   have b5:=hide (Ya aX aB)
   clear aX Y mY zY au ab aB aY az al H
   obtain⟨ah,af,ai,ag,aj,xf⟩:=ex5 mv
   obtain⟨z,o⟩:=JE ((G.setCell (Ja ne 3) (.slice ka ks.length kc)))
   have T:z.heap[ne]?=some (.cells #[Ji 6,Ji 0,str x8,.slice ka ks.length kc,Ji (t.at_:Int)] 59 (0,0)):=by rw[o];exact(Qah mv 3 _).trans rfl
   have B:∀q,q≠ne->z.heap[q]?=G.heap[q]?:=fun q n=>by rw[o,hpS n]
   have U:z.heap.size=G.heap.size:=by rw[o];simp
   obtain⟨e1,e2,e3,e4⟩:=Qa O
   have L:=(B w.heap.size (by omega)).trans P
   have L5:=Qdl T
   have S5:=Qbv (new:=#[Ji 6,Ji 0,str x8,.slice ka ks.length kc,Ji (t.at_:Int)]) L rfl rfl (by simp[Value.oneCell',str])
   obtain⟨r,k⟩:=JE (z.setRow w.heap.size #[Ji 6,Ji 0,str x8,.slice ka ks.length kc,Ji (t.at_:Int)])
   rw[<- k]at S5
   have D:∀q,q≠w.heap.size->r.heap[q]?=z.heap[q]?:=fun q n=>by rw[k];exact setRow_other _ _ _ _ n
   have S:r.heap.size=z.heap.size:=by rw[k,size_setRow]
   have F:r.heap[w.heap.size]?=some (.cells #[Ji 6,Ji 0,str x8,.slice ka ks.length kc,Ji (t.at_:Int)] 59 (0,0)):=by rw[k];exact setRow_heap _ _ _ _ _ _ L
   have A:=J.move (w':=r) (by omega) ((D rb (by omega)).trans (B rb (by omega))) ((D g (by omega)).trans (B g (by omega)))
   have C:Kp rb w r:=⟨by rw[k,o];exact s.os,by rw[k,o];exact s.tape,by rw[k,o];exact s.output,by rw[S,U];exact s.size,fun q n M=>((D q (by omega)).trans (B q (by omega))).trans (s.block q n M)⟩
   have E:ExS (fun b=>w.heap.size<=b) r [Ji 6,Ji 0,str x8,.slice ka ks.length kc,Ji (t.at_:Int)] (.mk 6 0 x8 ks (t.at_:Int)):=Qlx ((((Qa b5).1.mono Qaf (S':=fun b=>w.heap.size<b/\b≠ne) (fun b _ hb=>by have:=(Qa b5).2;omega)).same Qaf (by omega) (fun q n _=>(D q (by omega)).trans (B q n.2))).mono Qaf (fun b _ hb=>by omega))
   have HF:=hide (Ya A (Ya C (Ya F (Ya E (Q)))))
   clear J s mv P T B U e1 e2 e3 e4 L k D S F A C E Q b5
   subst o
   go_wp2_with fail
   obtain⟨A,C,F,E,W⟩:=Qa HF
   obtain⟨a3,a1,a0,a2,aa,zf⟩:=ex5 F
   refine bodyPost_ret (v:=.agg #[Ji 6,Ji 0,str x8,.slice ka ks.length kc,Ji (t.at_:Int)]) (by simp[results,Tryz.results135,go_sem,a3,a1,a0,a2,aa]) rfl ?_
   exact⟨_,_,_,_,_,rfl,⟨(.mk 6 0 x8 ks (t.at_:Int)),⟨_,rfl,⟨_,_,_,rfl⟩,E⟩,szQ.of A (Qa SB)⟩,W,A,C⟩
  have bl:=Qa bo w5 a5 i y f5 (Qa H5).1
  go_wp2_with fail
  refine bl.mono ?_
  clear bl
  rintro en w7⟨_,a7,i7,y7,f7,rfl,⟨p,⟨_,rfl,⟨ea,ac,ec,rfl⟩,aG⟩,aL⟩,⟨N,bk,bh⟩,h7,k7⟩
  rw[N]at h7
  clear N
  have S2:=hide (show y7=0->exQ p+2*a5<=2*a7 from fun e=>aL.at h7 e)
  clear aL
  have aM:=Qa O
  have m7:=k7.keep (Qa H5).2.2.2.1 (by omega)
  have z7:=k7.keep (Qa H5).2.2.2.2 (by omega)
  have ak:=(Qa H5).2.1.trans k7
  have bs:=k7.size
  have aD:=Qa bw
  have S7:=Qbv (new:=#[Ji p.kind,Ji p.num,str p.txt,.slice ea ac ec,Ji p.at_]) m7 rfl rfl (by simp[Value.oneCell',str])
  obtain⟨I,R⟩:=JE (w7.setRow ne #[Ji p.kind,Ji p.num,str p.txt,.slice ea ac ec,Ji p.at_])
  rw[<- R]at S7
  have Z:∀q,q≠ne->I.heap[q]?=w7.heap[q]?:=fun q n=>by rw[R];exact setRow_other _ _ _ _ n
  have sY:I.heap.size=w7.heap.size:=by rw[R,size_setRow]
  have mY:I.heap[ne]?=some (.cells #[Ji p.kind,Ji p.num,str p.txt,.slice ea ac ec,Ji p.at_] 59 (0,0)):=by rw[R];exact setRow_heap _ _ _ _ _ _ m7
  have ao:=h7.move (w':=I) (by omega) (Z rb (by omega)) (Z g (by omega))
  have Y:Kp rb w I:=⟨by rw[R];exact ak.os,by rw[R];exact ak.tape,by rw[R];exact ak.output,by rw[sY];exact ak.size,fun q n M=>(Z q (by omega)).trans (ak.block q n M)⟩
  have aE:ExS (fun b=>w.heap.size<b/\b≠ne) I [Ji p.kind,Ji p.num,str p.txt,.slice ea ac ec,Ji p.at_] p:=Qaf.mono _ _ _ _ _ (Qaf.same _ _ I _ _ aG (by omega) (fun q n hl=>Z q (by omega))) (fun b _ hb=>⟨by omega,by omega⟩)
  have bf:=Qbl ao ⟨#[41]⟩
  have aK:=hide (Ya Y (Ya mY (Ya ((Z _ (by omega)).trans z7) (Ya bk (Ya bh (Ya aE (Ya ao (show ne<I.heap.size by omega))))))))
  clear aG h7 k7 aM m7 z7 ak bs aD R Z sY mY ao Y aE bk bh
  go_wp2_with fail
  refine bf.mono ?_
  clear bf
  rintro en G⟨_,a9,i9,y9,f9,rfl,rfl,⟨N,az,al⟩,J,H⟩
  rw[N]at J
  clear N
  obtain⟨Y,mY,zY,au,ab,aE,ao,aB⟩:=Qa aK
  have aY:=Qa O
  have s:=Y.trans H
  have mv:=H.keep mY (by omega)
  have P:=H.keep zY (by omega)
  have SB:=hide (show y9=0->exQ p+2*a<=2*a9 from fun e=>by have q1:=Qa S2 (al e).1;have:=(al e).2;have:=Qa aP;omega)
  have Q:CoY a i y a9 i y9:=⟨rfl,by have:=Qa aP;omega,fun e=>⟨(ab (al e).1).1,by have:=(ab (al e).1).2;have:=Qa aP;omega⟩⟩
  have ap:=hide aE
  have ba:=hide H.size
  have bc:Hid (∀q,(w.heap.size<q/\q≠ne)->q<I.heap.size->G.heap[q]?=I.heap[q]?):=fun q n hl=>H.block q hl (by omega)
  clear Y mY zY au ab aE ao aB aY az al H
  obtain⟨ah,af,ai,ag,aj,xf⟩:=ex5 mv
  obtain⟨z,o⟩:=JE G
  have T:z.heap[ne]?=some (.cells #[Ji p.kind,Ji p.num,str p.txt,.slice ea ac ec,Ji p.at_] 59 (0,0)):=by rw[o];exact mv
  have B:∀q,q≠ne->z.heap[q]?=G.heap[q]?:=fun q _=>by rw[o]
  have U:z.heap.size=G.heap.size:=by rw[o]
  obtain⟨e1,e2,e3,e4⟩:=Qa O
  have L:=(B w.heap.size (by omega)).trans P
  have L5:=Qdl T
  have S5:=Qbv (new:=#[Ji p.kind,Ji p.num,str p.txt,.slice ea ac ec,Ji p.at_]) L rfl rfl (by simp[Value.oneCell',str])
  obtain⟨r,k⟩:=JE (z.setRow w.heap.size #[Ji p.kind,Ji p.num,str p.txt,.slice ea ac ec,Ji p.at_])
  rw[<- k]at S5
  have D:∀q,q≠w.heap.size->r.heap[q]?=z.heap[q]?:=fun q n=>by rw[k];exact setRow_other _ _ _ _ n
  have S:r.heap.size=z.heap.size:=by rw[k,size_setRow]
  have F:r.heap[w.heap.size]?=some (.cells #[Ji p.kind,Ji p.num,str p.txt,.slice ea ac ec,Ji p.at_] 59 (0,0)):=by rw[k];exact setRow_heap _ _ _ _ _ _ L
  have A:=J.move (w':=r) (by omega) ((D rb (by omega)).trans (B rb (by omega))) ((D g (by omega)).trans (B g (by omega)))
  have C:Kp rb w r:=⟨by rw[k,o];exact s.os,by rw[k,o];exact s.tape,by rw[k,o];exact s.output,by rw[S,U];exact s.size,fun q n M=>((D q (by omega)).trans (B q (by omega))).trans (s.block q n M)⟩
  have E:ExS (fun b=>w.heap.size<=b) r [Ji p.kind,Ji p.num,str p.txt,.slice ea ac ec,Ji p.at_] (p):=Qaf.mono _ _ _ _ _ (Qaf.same _ _ r _ _ (Qa ap) (by have:=(Qa ba);omega) (fun q n hl=>(D q (by omega)).trans ((B q n.2).trans ((Qa bc) q n hl)))) (fun b _ hb=>by omega)
  have HF:=hide (Ya A (Ya C (Ya F (Ya E (Q)))))
  clear J s mv P T B U e1 e2 e3 e4 L k D S F A C E Q ap ba bc
  subst o
  go_wp2_with fail
  obtain⟨A,C,F,E,W⟩:=Qa HF
  obtain⟨a3,a1,a0,a2,aa,zf⟩:=ex5 F
  refine bodyPost_ret (v:=.agg #[Ji p.kind,Ji p.num,str p.txt,.slice ea ac ec,Ji p.at_]) (by simp[results,Tryz.results135,go_sem,a3,a1,a0,a2,aa]) rfl ?_
  exact⟨_,_,_,_,_,rfl,⟨(p),⟨_,rfl,⟨_,_,_,rfl⟩,E⟩,szQ.of A (Qa SB)⟩,W,A,C⟩
 have bx:=hide (Qa bz rfl)
 obtain⟨u,hu⟩:=(Qa H4).1.tok
 have ax:=Qao (Qa H4).1 hu
 unfold tkA at ax
 have HU:=hide hu
 clear hu
 go_wp2_with fail
 refine ax.mono ?_
 clear ax
 rintro en w7⟨rfl,b7⟩
 have aM:=Qa O
 have H7:=hide (Ya ((Qa H4).1.later b7) (Ya ((Qa H4).2.1.trans (Kp.of_below b7)) (Ya ((Kp.of_below (rb:=rb) b7).keep (Qa H4).2.2.2.1 (by omega)) (Ya ((Kp.of_below (rb:=rb) b7).keep (Qa H4).2.2.2.2 (by omega)) ((Kp.of_below (rb:=rb) b7).keep (Qa H4).2.2.1 (by omega))))))
 have bD:=hide (show ne<w7.heap.size from Qaa (Qa H7).2.2.1)
 clear b7 aM
 by_cases kk:u.kind=2
 ·
  have bF:(u.kind==2)=true:=beq_iff_eq.2 kk
  have HM:=hide ((Qa H7).1.more (Qa HU) (by omega))
  have ad:=Qb (Qa H7).1 (Qa HU)
  unfold tkA at ad
  clear kk
  go_wp2_with fail
  rename_i X
  refine X _ _ ?_
  clear X
  go_wp2_with fail
  refine ad.mono ?_
  clear ad
  rintro en G⟨_,a9,i9,y9,f9,rfl,rfl,⟨N,ey,ae⟩,J,H⟩
  rw[N,ey]at J
  clear N ey
  have Q:CoY a i y a9 i y:=by
   have:=Qa HM
   have:=Qa aS
   rcases ae with ⟨_,_,e⟩|⟨e,M⟩
   ·exact⟨rfl,by omega,fun h=>⟨h,by omega⟩⟩
   ·exact⟨rfl,by omega,fun h=>absurd (Qa HM) (M h)⟩
  have s:=(Qa H7).2.1.trans H
  have mv:=H.keep (Qa H7).2.2.1 (by have:=Qa O;omega)
  have P:=H.keep (Qa H7).2.2.2.1 (by have:=Qa O;omega)
  clear ae H
  obtain⟨ah,af,ai,ag,aj,xf⟩:=ex5 mv
  obtain⟨z,o⟩:=JE (((G.setCell (Ja ne 0) (Ji 2)).setCell (Ja ne 1) (Ji (wrap64 (-u.num)))))
  have T:z.heap[ne]?=some (.cells #[Ji 2,Ji (wrap64 (-u.num)),Je,Jn,Ji (t.at_:Int)] 59 (0,0)):=by rw[o];exact(Qah (Qah mv 0 _) 1 _).trans rfl
  have B:∀q,q≠ne->z.heap[q]?=G.heap[q]?:=fun q n=>by rw[o,hpS n,hpS n]
  have U:z.heap.size=G.heap.size:=by rw[o];simp
  obtain⟨e1,e2,e3,e4⟩:=Qa O
  have L:=(B w.heap.size (by omega)).trans P
  have L5:=Qdl T
  have S5:=Qbv (new:=#[Ji 2,Ji (wrap64 (-u.num)),Je,Jn,Ji (t.at_:Int)]) L rfl rfl (by simp[Value.oneCell'])
  obtain⟨r,k⟩:=JE (z.setRow w.heap.size #[Ji 2,Ji (wrap64 (-u.num)),Je,Jn,Ji (t.at_:Int)])
  rw[<- k]at S5
  have D:∀q,q≠w.heap.size->r.heap[q]?=z.heap[q]?:=fun q n=>by rw[k];exact setRow_other _ _ _ _ n
  have S:r.heap.size=z.heap.size:=by rw[k,size_setRow]
  have F:r.heap[w.heap.size]?=some (.cells #[Ji 2,Ji (wrap64 (-u.num)),Je,Jn,Ji (t.at_:Int)] 59 (0,0)):=by rw[k];exact setRow_heap _ _ _ _ _ _ L
  have A:=J.move (w':=r) (by omega) ((D rb (by omega)).trans (B rb (by omega))) ((D g (by omega)).trans (B g (by omega)))
  have C:Kp rb w r:=⟨by rw[k,o];exact s.os,by rw[k,o];exact s.tape,by rw[k,o];exact s.output,by rw[S,U];exact s.size,fun q n M=>((D q (by omega)).trans (B q (by omega))).trans (s.block q n M)⟩
  have E:ExS (fun b=>w.heap.size<=b) r [Ji 2,Ji (wrap64 (-u.num)),Je,Jn,Ji (t.at_:Int)] (.mk 2 (wrap64 (-u.num)) [] [] (t.at_:Int)):=Qcg _ _ _ _ _ _
  have HF:=hide (Ya A (Ya C (Ya F (Ya E (Q)))))
  clear J s mv P T B U e1 e2 e3 e4 L k D S F A C E Q
  subst o
  go_wp2_with fail
  rename_i X
  refine X _ _ ?_
  clear X
  go_wp2_with fail
  obtain⟨A,C,F,E,W⟩:=Qa HF
  obtain⟨a3,a1,a0,a2,aa,zf⟩:=ex5 F
  refine bodyPost_ret (v:=.agg #[Ji 2,Ji (wrap64 (-u.num)),Je,Jn,Ji (t.at_:Int)]) (by simp[results,Tryz.results135,go_sem,a3,a1,a0,a2,aa]) rfl ?_
  exact⟨_,_,_,_,_,rfl,⟨(.mk 2 (wrap64 (-u.num)) [] [] (t.at_:Int)),⟨_,rfl,⟨_,_,_,rfl⟩,E⟩,szQ.of A (fun e=>by obtain⟨_,_,q⟩:=W;have:=(q e).2;rw[exQ,exQs];omega)⟩,W,A,C⟩
 have bF:(u.kind==2)=false:=beq_eq_false_iff_ne.2 kk
 clear kk
 go_wp2_with fail
 rename_i X
 refine X _ _ ?_
 clear X
 have aM:=Qa O
 have aD:=Qa bD
 obtain⟨h7,ak,m7,z7,t7⟩:=Qa H7
 obtain⟨ah,af,ai,ag,aj,xf⟩:=ex5 m7
 obtain⟨I,R⟩:=JE ((w7.setCell (Ja ne 0) (Ji 5)).setCell (Ja ne 2) (.string ⟨#[45]⟩))
 have mY:I.heap[ne]?=some (.cells #[Ji 5,Ji 0,.string ⟨#[45]⟩,Jn,Ji (t.at_:Int)] 59 (0,0)):=by rw[R];exact(Qah (Qah m7 0 _) 2 _).trans rfl
 have Z:∀q,q≠ne->I.heap[q]?=w7.heap[q]?:=fun q n=>by rw[R,hpS n,hpS n]
 have sY:I.heap.size=w7.heap.size:=by rw[R];simp
 have ao:=h7.move (w':=I) (by omega) (Z rb (by omega)) (Z g (by omega))
 have Y:Kp rb w I:=⟨by rw[R];exact ak.os,by rw[R];exact ak.tape,by rw[R];exact ak.output,by rw[sY];exact ak.size,fun q n M=>(Z q (by omega)).trans (ak.block q n M)⟩
 have tY:=(Z nt (by omega)).trans t7
 have be:=Qa bG I.drew a4 i y f4 (ao.later (Below.refl _ I).drew)
 have HC:Hid (∀w',Kp rb I w'->w'.heap[nt]?=some (.cells #[Ji t.kind,str t.text,Ji t.num,Ji (t.at_:Int)] 73 (0,0))):=fun w' kk=>kk.keep tY (by omega)
 have aK:=hide (Ya Y (Ya mY (Ya ((Z _ (by omega)).trans z7) (show ne<I.heap.size by omega))))
 have aI:=hide R
 clear h7 ak m7 z7 t7 aM aD R mY Z sY ao Y tY
 go_wp2_with fail
 rw[<- Qa aI]
 clear aI ah af ai ag aj xf
 refine Qaq (m:=7) (ml:=[(0,1),(1,1),(2,1),(3,1),(4,0),(5,0),(6,1),(7,0)]) (fun _ w'=>w'.heap[nt]?=some (.cells #[Ji t.kind,str t.text,Ji t.num,Ji (t.at_:Int)] 73 (0,0))) mixedO (by kernel_rfl) rfl (by rfl) (by kernel_rfl) (fun PP bm=>?_)
 refine Qae rfl (by kernel_rfl) (fun _ _ _=>by go_simp<;>rfl) ?_
 refine Qae rfl (by kernel_rfl) (fun f w' hw=>by obtain⟨bT,bK,bO,bL,qf⟩:=cl4 hw;go_simp<;>rfl) ?_
 iterate 2 (refine mF (v:=?_) (fun f w' hw=>?_) ?_;rotate_left;· (go_simp<;>rfl))
 refine Qab rfl (Qa HC _ (Kp.of_below (Below.refl _ I).drew)) (fun K X=>?_)
 go_simp
 refine be.mono ?_
 clear be
 rintro en w8⟨_,a8,i8,y8,f8,rfl,⟨p,⟨_,rfl,⟨ea,ac,ec,rfl⟩,aG⟩,aL⟩,⟨N,au,ab⟩,h8,k8⟩
 rw[N]at h8
 clear N
 have SB:=hide (show y8=0->exQ (.mk 5 0 [45] [.mk 2 0 [] [] (t.at_:Int),p] (t.at_:Int))+2*a<=2*a8 from fun e=>by have q1:=aL.at h8 e;have:=Qa bx;rw[exQ,exQs,Qhx,exQ,exQs];omega)
 clear aL
 show K _ _
 refine X _ _ ?_
 clear X K
 have aQ:Kp rb I w8:=(Kp.of_below (Below.refl _ I).drew).trans k8
 obtain⟨Y,mY,zY,aB⟩:=Qa aK
 have aZ:=Qa O
 have aU:I.heap.size<=w8.heap.size:=k8.size
 have m8:=aQ.keep mY (by omega)
 obtain⟨nk,aW⟩:=JF w8.heap.size
 obtain⟨G,aC⟩:=JE (w8.alloc (.cells #[Ji 2,Ji 0,Je,Jn,Ji (t.at_:Int),Ji p.kind,Ji p.num,str p.txt,.slice ea ac ec,Ji p.at_] 59))
 have b9:Below w8.heap.size w8 G:=by rw[aC];exact(Below.refl _ w8).alloc (Nat.le_refl _) _
 have q9:G.heap[nk]?=some (.cells #[Ji 2,Ji 0,Je,Jn,Ji (t.at_:Int),Ji p.kind,Ji p.num,str p.txt,.slice ea ac ec,Ji p.at_] 59 (0,0)):=by rw[aC,<- aW];exact heap_alloc_new w8 _
 have s9:G.heap.size=w8.heap.size+1:=by rw[aC];simp
 have m9:=(b9.block _ (Qaa m8)).trans m8
 have aO:Kp rb I G:=aQ.trans (Kp.of_below b9)
 obtain⟨an,am⟩:=JE (G.setCell (Ja ne 3) (.slice (Js nk) 2 2))
 have aw:∀q,q≠ne->an.heap[q]?=G.heap[q]?:=fun q n=>by rw[am,hpS n]
 have bg:an.heap.size=G.heap.size:=by rw[am];simp
 have mv:an.heap[ne]?=some (.cells #[Ji 5,Ji 0,.string ⟨#[45]⟩,.slice (Js nk) 2 2,Ji (t.at_:Int)] 59 (0,0)):=by rw[am];exact(Qah m9 3 _).trans rfl
 have J:=(h8.later b9).move (w':=an) (by omega) (aw rb (by omega)) (aw g (by omega))
 have aA:Kp rb w G:=Y.trans aO
 have s:Kp rb w an:=⟨by rw[am];exact aA.os,by rw[am];exact aA.tape,by rw[am];exact aA.output,by rw[bg];exact aA.size,fun q n M=>(aw q (by omega)).trans (aA.block q n M)⟩
 have P:=(aw w.heap.size (by omega)).trans (aO.keep zY (by omega))
 have bd:ExS (fun b=>w.heap.size<b/\b≠ne) an [Ji p.kind,Ji p.num,str p.txt,.slice ea ac ec,Ji p.at_] p:=Qaf.mono _ _ _ _ _ (Qaf.same _ _ an _ _ (Qaf.mono _ (fun b=>I.drew.heap.size<=b/\b<w8.heap.size) _ _ _ aG (fun b hl hb=>⟨hb,hl⟩)) (by omega) (fun q n hl=>(aw q (by have:=n.1;have:I.drew.heap.size=I.heap.size:=rfl;omega)).trans (b9.block q hl))) (fun b _ hb=>⟨by have:=hb.1;have:I.drew.heap.size=I.heap.size:=rfl;have:=Y.size;omega,by have:=hb.1;have:I.drew.heap.size=I.heap.size:=rfl;omega⟩)
 have aV:=(aw nk (by omega)).trans q9
 have aN:LsAt PE 5 (fun b=>w.heap.size<b/\b≠ne) an (.slice (Js nk) 2 2) [.mk 2 0 [] [] (t.at_:Int),p]:=⟨some (Ja nk 0),2,[[Ji 2,Ji 0,Je,Jn,Ji (t.at_:Int)],[Ji p.kind,Ji p.num,str p.txt,.slice ea ac ec,Ji p.at_]],rfl,Nat.le_refl _,by unfold maxLen;omega,⟨rfl,fun j x cs h1 h2=>by
  match j,h1,h2 with
  | 0,h1,h2=>cases h1;cases h2;exact⟨rfl,Qcg _ _ _ _ _ _⟩
  | 1,h1,h2=>cases h1;cases h2;exact⟨rfl,bd⟩
  |j+2,h1,h2=>simp at h1⟩,fun _=>⟨nk,rfl,⟨by have:=Y.size;omega,by omega⟩,Qaa aV,fun j c hj=>by rw[Qad aV];simpa using hj⟩⟩
 have aT:ExS (fun b=>w.heap.size<b/\b≠ne) an [Ji 5,Ji 0,.string ⟨#[45]⟩,.slice (Js nk) 2 2,Ji (t.at_:Int)] (.mk 5 0 [45] [.mk 2 0 [] [] (t.at_:Int),p] (t.at_:Int)):=Qlx aN
 have Q:CoY a i y a8 i y8:=⟨rfl,by have:=Qa aS;omega,fun e=>⟨(ab e).1,by have:=(ab e).2;have:=Qa aS;omega⟩⟩
 have ap:=hide (Ya aT (Ya J (Ya s (Ya mv (Ya P (Ya Q (Ya (Qa HC _ aQ) (Ya (Qa HC _ aO) (Ya ((aw nt (by omega)).trans (Qa HC _ aO)) m9)))))))))
 have bb:=hide (Ya aC aW)
 have bi:=hide am
 clear aQ Y mY zY aB aZ aU m8 aW aC b9 q9 s9 m9 aO am aw bg mv J aA s P bd aV aN aT Q aG au ab h8 k8
 refine Qab rfl (Qa ap).2.2.2.2.2.2.1 (fun K X=>?_)
 go_simp
 rw[<- (Qa bb).1,(Qa bb).2]
 refine X _ _ ?_
 clear X K
 refine Qae rfl (by kernel_rfl) (fun _ _ _=>by go_simp<;>rfl) ?_
 refine Qab rfl (Qa ap).2.2.2.2.2.2.2.1 (fun K X=>?_)
 obtain⟨ah,af,ai,ag,aj,xf⟩:=ex5 (Qa ap).2.2.2.2.2.2.2.2.2
 go_simp
 rw[<- Qa bi]
 refine X _ _ ?_
 clear X K ah af ai ag aj xf
 refine Qat (Qa ap).2.2.2.2.2.2.2.2.1 (bm _ _ ?_)
 clear bm PP
 obtain⟨_,J,s,mv,P,Q,_⟩:=Qa ap
 obtain⟨ah,af,ai,ag,aj,xf⟩:=ex5 mv
 obtain⟨z,o⟩:=JE an
 have T:z.heap[ne]?=some (.cells #[Ji 5,Ji 0,.string ⟨#[45]⟩,.slice (Js nk) 2 2,Ji (t.at_:Int)] 59 (0,0)):=by rw[o];exact mv
 have B:∀q,q≠ne->z.heap[q]?=an.heap[q]?:=fun q _=>by rw[o]
 have U:z.heap.size=an.heap.size:=by rw[o]
 obtain⟨e1,e2,e3,e4⟩:=Qa O
 have L:=(B w.heap.size (by omega)).trans P
 have L5:=Qdl T
 have S5:=Qbv (new:=#[Ji 5,Ji 0,.string ⟨#[45]⟩,.slice (Js nk) 2 2,Ji (t.at_:Int)]) L rfl rfl (by simp[Value.oneCell'])
 obtain⟨r,k⟩:=JE (z.setRow w.heap.size #[Ji 5,Ji 0,.string ⟨#[45]⟩,.slice (Js nk) 2 2,Ji (t.at_:Int)])
 rw[<- k]at S5
 have D:∀q,q≠w.heap.size->r.heap[q]?=z.heap[q]?:=fun q n=>by rw[k];exact setRow_other _ _ _ _ n
 have S:r.heap.size=z.heap.size:=by rw[k,size_setRow]
 have F:r.heap[w.heap.size]?=some (.cells #[Ji 5,Ji 0,.string ⟨#[45]⟩,.slice (Js nk) 2 2,Ji (t.at_:Int)] 59 (0,0)):=by rw[k];exact setRow_heap _ _ _ _ _ _ L
 have A:=J.move (w':=r) (by omega) ((D rb (by omega)).trans (B rb (by omega))) ((D g (by omega)).trans (B g (by omega)))
 have C:Kp rb w r:=⟨by rw[k,o];exact s.os,by rw[k,o];exact s.tape,by rw[k,o];exact s.output,by rw[S,U];exact s.size,fun q n M=>((D q (by omega)).trans (B q (by omega))).trans (s.block q n M)⟩
 have E:ExS (fun b=>w.heap.size<=b) r [Ji 5,Ji 0,.string ⟨#[45]⟩,.slice (Js nk) 2 2,Ji (t.at_:Int)] (.mk 5 0 [45] [.mk 2 0 [] [] (t.at_:Int),p] (t.at_:Int)):=Qaf.mono _ _ _ _ _ (Qaf.same _ _ r _ _ (Qa ap).1 (by omega) (fun q n hl=>(D q (by omega)).trans (B q n.2))) (fun b _ hb=>by omega)
 have HF:=hide (Ya A (Ya C (Ya F (Ya E (Q)))))
 clear J s mv P T B U e1 e2 e3 e4 L k D S F A C E Q
 subst o
 go_wp2_with fail
 obtain⟨A,C,F,E,W⟩:=Qa HF
 obtain⟨a3,a1,a0,a2,aa,zf⟩:=ex5 F
 refine bodyPost_ret (v:=.agg #[Ji 5,Ji 0,.string ⟨#[45]⟩,.slice (Js nk) 2 2,Ji (t.at_:Int)]) (by simp[results,Tryz.results135,go_sem,a3,a1,a0,a2,aa]) rfl ?_
 exact⟨_,_,_,_,_,rfl,⟨(.mk 5 0 [45] [.mk 2 0 [] [] (t.at_:Int),p] (t.at_:Int)),⟨_,rfl,⟨_,_,_,rfl⟩,E⟩,szQ.of A (Qa SB)⟩,W,A,C⟩
end
end Go.Proofs.YtmfpbepifnedjaaGreat
