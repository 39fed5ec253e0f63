/- The document's reader. -/
import Derived.Test.YtmfpbepifnedjaaGreatZz01
import Derived.Test.YtmfpbepifnedjaaGreatZz09
set_option maxRecDepth 100000
set_option maxHeartbeats 32000000
namespace Go.Proofs.YtmfpbepifnedjaaGreat
section
open Go.RowKit Go.Maps
abbrev mLRpc0:List (Nat×Bool):=[(0,true),(1,false),(2,true),(3,true),(4,true),(5,true),(6,true),(7,true),(8,true),(9,true),(10,true),(11,true),(12,true),(13,true),(14,true)]
theorem tk_ld{w:World}{b:Nat}{c0 c1 c2 c3:Value}(h:w.heap[b]?=some (.cells #[c0,c1,c2,c3] 73 (0,0))):(tkLoad (.pointer (Js b))).run Tryz.prog w = .ok (.agg #[c0,c1,c2,c3]) w:=
 run_loadAt_mid w b 0 73 [c0,c1,c2,c3] _ (fun q v a=>by rw[Qad h,Nat.zero_add];simpa using a) Tryz.underlying73 rfl (by kernel_rfl)
theorem Qmn{w:World}{b:Nat}{old new:Array Value}(hb:w.heap[b]?=some (.cells old 73 (0,0)))(h0:old.size=4)(hn:new.size=4)(h1:new.all (·.oneCell')=true):(tkStore (.pointer (Js b)) (.agg new)).run Tryz.prog w = .ok () (w.setRow b new):=by
 unfold tkStore
 simp only[Instr.storeAt,Instr.sureAddr,Sem.run_bind,Sem.run_pure,Result.andThen_ok]
 exact run_storeVar_row w b 73 73 old new hb (by rw[hn];kernel_rfl) (by rw[h0,hn]) h1
theorem Qgn(n:Nat)(h0:0<n)(h:n<=65537):IntKind.i64.wrap ((n:Int) - 1)=(n:Int) - 1:=by
 have c:(2:Int) ^ IntKind.i64.bits=18446744073709551616:=by decide
 have a:(2:Int) ^ (IntKind.i64.bits - 1)=9223372036854775808:=by decide
 have b:((n:Int) - 1) % 18446744073709551616=(n:Int) - 1:=by omega
 unfold IntKind.wrap
 simp only[c,a,b]
 rw[if_neg (by simp;intro _;omega)]
theorem Rr.move{rb g cap a d i:Nat}{l:List Tok}{w w':World}{y f:Int}(h:Rr rb g cap l w a d i y f)(hs:w.heap.size<=w'.heap.size)(hr:w'.heap[rb]?=w.heap[rb]?)(hg:w'.heap[g]?=w.heap[g]?):Rr rb g cap l w' a d i y f:=
 ⟨hr.trans h.box,h.row.keep hs hg,h.ne,h.lt,h.few,h.at_,h.last,h.z,h.dd,h.ii,h.tx⟩
def TkY(l:List Tok)(a i:Nat)(y:Int)(a' i':Nat)(y':Int):Prop:=i'=i/\y'=y/\((y=0/\a+1<l.length/\a'=a+1)∨(a'=a/\(y=0 -> ¬a+1<l.length)))
attribute [local go_sem ↓] Qdw Qeo
theorem Qb{rb g cap a d i:Nat}{l:List Tok}{w:World}{y f:Int}(h:Rr rb g cap l w a d i y f){t:Tok}(ht:l[a]?=some t):
  Calls Tryz.prog 61 #[.pointer (Js rb)] w fun en w'=>RA rb g cap l w d (fun _ v=>v=tkA t) (TkY l a i y) en w':=by
 have b0:Below w.heap.size w (w.alloc tokZ):=(Below.refl _ w).alloc (Nat.le_refl _) _
 have n0:(w.alloc tokZ).heap[w.heap.size]?=some tokZ:=heap_alloc_new w _
 have s0:(w.alloc tokZ).heap.size=w.heap.size+1:=by simp
 have a7:=Qao (h.later b0) ht
 unfold tkA at a7
 have af:=h.lt
 have ad:=h.few
 have ag:=h.row.le
 have ah:=h.row.cm
 unfold maxLen at ah
 have ai:=Qaa h.box
 have H:=hide h
 have a8:=hide (Ya b0 (Ya n0 s0))
 clear h b0 n0 s0 ht
 go_enter Tryz.func61,Tryz.ntmps61
 go_wp2_with fail
 refine a7.mono ?_
 clear a7
 rintro en L⟨rfl,b2⟩
 obtain⟨b0,n0,s0⟩:=Qa a8
 have n1:(L.alloc tokZ).heap[L.heap.size]?=some tokZ:=heap_alloc_new L _
 have R1:=Qmn (new:=#[Ji t.kind,str t.text,Ji t.num,Ji (t.at_:Int)]) n1 rfl rfl (by simp[Value.oneCell',str])
 obtain⟨E,a0⟩:=JE ((L.alloc tokZ).setRow L.heap.size #[Ji t.kind,str t.text,Ji t.num,Ji (t.at_:Int)])
 rw[<- a0]at R1
 have ac:=b2.size
 have a6:Below L.heap.size L E:=by
  rw[a0]
  have q:=(Below.refl L.heap.size L).alloc (Nat.le_refl _) tokZ
  exact⟨q.os,q.tape,q.output,by rw[size_setRow];exact q.size,fun k hk=>by rw[setRow_other _ _ _ _ (by omega)];exact q.block k hk⟩
 have b3:Below w.heap.size w E:=(b0.trans (b2.mono (by omega))).trans (a6.mono (by omega))
 have nr:E.heap[L.heap.size]?=some (.cells #[Ji t.kind,str t.text,Ji t.num,Ji (t.at_:Int)] 73 (0,0)):=by rw[a0];exact setRow_heap _ _ _ _ _ _ n1
 have nn:E.heap[w.heap.size]?=some tokZ:=((a6.block _ (by omega)).trans (b2.block _ (by omega))).trans n0
 have h3:=(Qa H).later b3.drew
 have U:=Qaw h3
 have a9:=hide (show g≠w.heap.size by have:=(Qa H).row.lt;omega)
 have aa:=hide (Kp.of_below (rb:=rb) b3.drew)
 have HN:=hide (Ya (show L.heap.size≠rb by omega) (Ya (show w.heap.size≠rb by omega) (Ya (show E.drew.heap[L.heap.size]?=some (.cells #[Ji t.kind,str t.text,Ji t.num,Ji (t.at_:Int)] 73 (0,0)) from nr) (show E.drew.heap[w.heap.size]?=some tokZ from nn))))
 obtain⟨n,Q⟩:=JF l.length
 have a3:=h3.box
 rw[Q]at a3 af ad ag
 have hz:=h3.z
 by_cases hy:y=0
 ·
  obtain rfl:=hz hy
  subst hy
  rw[decide_eq_true rfl]at U
  have S:=hide a3
  have HR:=hide h3
  clear h3 a3 hz b2 n1 a6 b3 nr nn ac b0 n0 s0 H a8 a0
  by_cases hm:a+1<n
  ·
   have HM:=hide (show a+1<l.length by omega)
   have ae:=Qgn n (by omega) (by omega)
   have ab:(a:Int)<(n:Int) - 1:=by omega
   clear Q
   go_wp2_with fail
   refine Qaz (md:=mLRpc0) (fun w'=>w'.heap[rb]?=some (.cells #[.slice (Js g) n cap,Ji (a:Int),Ji (d:Int),Ji (i:Int),Ji 0,Ji 0] 75 (0,0))) mixedO (by kernel_rfl) rfl (by kernel_rfl) (fun PP W=>?_)
   refine Qac rfl (by kernel_rfl) (fun _ _=>by go_simp<;>rfl) ?_
   refine Qal rfl (Qa S) (fun K X=>?_)
   go_simp
   refine U.mono ?_
   clear U
   rintro en _⟨rfl,rfl⟩
   show K _ _
   refine X _ _ ?_
   clear X K
   refine Qac rfl (by kernel_rfl) (fun _ _=>by go_simp<;>rfl) ?_
   refine Qac rfl (by kernel_rfl) (fun w' hw=>by obtain⟨m,r,s,j,u,o,x⟩:=cl6 hw;go_simp<;>rfl) ?_
   refine Qac rfl (by kernel_rfl) (fun w' hw=>by obtain⟨m,r,s,j,u,o,x⟩:=cl6 hw;go_simp<;>rfl) ?_
   refine Qac rfl (by kernel_rfl) (fun w' hw=>by obtain⟨m,r,s,j,u,o,x⟩:=cl6 hw;go_simp<;>rfl) ?_
   refine Qac rfl (by kernel_rfl) (fun w' hw=>by obtain⟨m,r,s,j,u,o,x⟩:=cl6 hw;go_simp<;>rfl) ?_
   refine Qac rfl (by kernel_rfl) (fun w' hw=>by obtain⟨m,r,s,j,u,o,x⟩:=cl6 hw;go_simp<;>rfl) ?_
   refine Qac rfl (by kernel_rfl) (fun w' hw=>by obtain⟨m,r,s,j,u,o,x⟩:=cl6 hw;go_simp<;>rfl) ?_
   refine Qac rfl (by kernel_rfl) (fun w' hw=>by obtain⟨m,r,s,j,u,o,x⟩:=cl6 hw;go_simp<;>rfl) ?_
   refine Qac rfl (by kernel_rfl) (fun w' hw=>by obtain⟨m,r,s,j,u,o,x⟩:=cl6 hw;go_simp<;>rfl) ?_
   refine Qac rfl (by kernel_rfl) (fun w' hw=>by obtain⟨m,r,s,j,u,o,x⟩:=cl6 hw;go_simp<;>rfl) ?_
   refine Qac rfl (by kernel_rfl) (fun w' hw=>by obtain⟨m,r,s,j,u,o,x⟩:=cl6 hw;go_simp<;>rfl) ?_
   refine Qac (v:=.bool true) rfl (by kernel_rfl) (fun _ _=>by go_simp<;>rfl) ?_
   refine Qac (v:=.bool true) rfl (by kernel_rfl) (fun _ _=>by go_simp<;>rfl) ?_
   refine Qbc (Qa S) (W _ _ ?_)
   clear W PP
   simp[Act.put,Array.setIfInBounds]
   obtain⟨m,r,s,j,u,o,x⟩:=cl6 (Qa S)
   obtain⟨C,B⟩:=JE ((E.setCell (Ja rb 1) (Ji ((a:Int)+1))).drew)
   have P:Rr rb g cap l C (a+1) d i 0 0:=by
    have:=(Qa HR).setA (a':=a+1) (Qa HM)
    rw[B]
    exact this
   have c:Kp rb w C:=by rw[B];exact(Qa aa).trans (Kp.set _ _ _ _)
   have N:∀q,q≠rb->C.heap[q]?=E.drew.heap[q]?:=fun q D=>by rw[B];show(E.setCell (Ja rb 1) (Ji ((a:Int)+1))).heap[q]?=E.heap[q]?;exact hpS D
   obtain⟨Y,O,R,V⟩:=Qa HN
   have m1:=(N _ Y).trans R
   have M:=(N _ O).trans V
   have L1:=tk_ld m1
   have S1:=Qmn (new:=#[Ji t.kind,str t.text,Ji t.num,Ji (t.at_:Int)]) M rfl rfl (by simp[Value.oneCell',str])
   obtain⟨A,b⟩:=JE (C.setRow w.heap.size #[Ji t.kind,str t.text,Ji t.num,Ji (t.at_:Int)])
   rw[<- b]at S1
   have F:∀q,q≠w.heap.size->A.heap[q]?=C.heap[q]?:=fun q D=>by rw[b];exact setRow_other _ _ _ _ D
   have J:A.heap[w.heap.size]?=some (.cells #[Ji t.kind,str t.text,Ji t.num,Ji (t.at_:Int)] 73 (0,0)):=by rw[b];exact setRow_heap _ _ _ _ _ _ M
   have Z:A.heap.size=C.heap.size:=by rw[b,size_setRow]
   have G:Kp rb w A:=⟨by rw[b];exact c.os,by rw[b];exact c.tape,by rw[b];exact c.output,by rw[Z];exact c.size,fun q D Q=>(F q (by omega)).trans (c.block q D Q)⟩
   have I:=P.move (w':=A) (by omega) (F rb O.symm) (F g (Qa a9))
   have HF:=hide (Ya I (Ya G J))
   clear m1 M N F b Z G I P c Y O R V J
   subst B
   go_wp2_with fail
   obtain⟨I,G,J⟩:=Qa HF
   obtain⟨a5,a2,a1,a4,zf⟩:=cl4 J
   refine bodyPost_ret (v:=tkA t) (by simp[results,Tryz.results61,go_sem,a5,a2,a1,a4]) rfl ?_
   exact⟨_,_,_,_,_,rfl,rfl,⟨rfl,rfl,.inl ⟨rfl,Qa HM,rfl⟩⟩,I,G⟩
  have HM:=hide (show ¬a+1<l.length by omega)
  have ae:=Qgn n (by omega) (by omega)
  have ab:¬((a:Int)<(n:Int) - 1):=by omega
  clear Q
  go_wp2_with fail
  refine Qaz (md:=mLRpc0) (fun w'=>w'.heap[rb]?=some (.cells #[.slice (Js g) n cap,Ji (a:Int),Ji (d:Int),Ji (i:Int),Ji 0,Ji 0] 75 (0,0))) mixedO (by kernel_rfl) rfl (by kernel_rfl) (fun PP W=>?_)
  refine Qac rfl (by kernel_rfl) (fun _ _=>by go_simp<;>rfl) ?_
  refine Qal rfl (Qa S) (fun K X=>?_)
  go_simp
  refine U.mono ?_
  clear U
  rintro en _⟨rfl,rfl⟩
  show K _ _
  refine X _ _ ?_
  clear X K
  refine Qac rfl (by kernel_rfl) (fun _ _=>by go_simp<;>rfl) ?_
  refine Qac rfl (by kernel_rfl) (fun w' hw=>by obtain⟨m,r,s,j,u,o,x⟩:=cl6 hw;go_simp<;>rfl) ?_
  refine Qac rfl (by kernel_rfl) (fun w' hw=>by obtain⟨m,r,s,j,u,o,x⟩:=cl6 hw;go_simp<;>rfl) ?_
  refine Qac rfl (by kernel_rfl) (fun w' hw=>by obtain⟨m,r,s,j,u,o,x⟩:=cl6 hw;go_simp<;>rfl) ?_
  refine Qac rfl (by kernel_rfl) (fun w' hw=>by obtain⟨m,r,s,j,u,o,x⟩:=cl6 hw;go_simp<;>rfl) ?_
  refine Qac rfl (by kernel_rfl) (fun w' hw=>by obtain⟨m,r,s,j,u,o,x⟩:=cl6 hw;go_simp<;>rfl) ?_
  refine Qac rfl (by kernel_rfl) (fun w' hw=>by obtain⟨m,r,s,j,u,o,x⟩:=cl6 hw;go_simp<;>rfl) ?_
  refine Qac rfl (by kernel_rfl) (fun w' hw=>by obtain⟨m,r,s,j,u,o,x⟩:=cl6 hw;go_simp<;>rfl) ?_
  refine Qac rfl (by kernel_rfl) (fun w' hw=>by obtain⟨m,r,s,j,u,o,x⟩:=cl6 hw;go_simp<;>rfl) ?_
  refine Qac rfl (by kernel_rfl) (fun w' hw=>by obtain⟨m,r,s,j,u,o,x⟩:=cl6 hw;go_simp<;>rfl) ?_
  refine Qac rfl (by kernel_rfl) (fun w' hw=>by obtain⟨m,r,s,j,u,o,x⟩:=cl6 hw;go_simp<;>rfl) ?_
  refine Qac (v:=.bool false) rfl (by kernel_rfl) (fun _ _=>by go_simp<;>rfl) ?_
  refine Qac (v:=.bool false) rfl (by kernel_rfl) (fun _ _=>by go_simp<;>rfl) ?_
  refine Qbc (Qa S) (W _ _ ?_)
  clear W PP
  simp[Act.put,Array.setIfInBounds]
  obtain⟨C,B⟩:=JE E.drew
  have P:=Qa HR
  rw[<- B]at P
  have c:=Qa aa
  rw[<- B]at c
  have N:∀q,q≠rb->C.heap[q]?=E.drew.heap[q]?:=fun q D=>by rw[B]
  rw[<- B]
  clear B
  obtain⟨Y,O,R,V⟩:=Qa HN
  have m1:=(N _ Y).trans R
  have M:=(N _ O).trans V
  have L1:=tk_ld m1
  have S1:=Qmn (new:=#[Ji t.kind,str t.text,Ji t.num,Ji (t.at_:Int)]) M rfl rfl (by simp[Value.oneCell',str])
  obtain⟨A,b⟩:=JE (C.setRow w.heap.size #[Ji t.kind,str t.text,Ji t.num,Ji (t.at_:Int)])
  rw[<- b]at S1
  have F:∀q,q≠w.heap.size->A.heap[q]?=C.heap[q]?:=fun q D=>by rw[b];exact setRow_other _ _ _ _ D
  have J:A.heap[w.heap.size]?=some (.cells #[Ji t.kind,str t.text,Ji t.num,Ji (t.at_:Int)] 73 (0,0)):=by rw[b];exact setRow_heap _ _ _ _ _ _ M
  have Z:A.heap.size=C.heap.size:=by rw[b,size_setRow]
  have G:Kp rb w A:=⟨by rw[b];exact c.os,by rw[b];exact c.tape,by rw[b];exact c.output,by rw[Z];exact c.size,fun q D Q=>(F q (by omega)).trans (c.block q D Q)⟩
  have I:=P.move (w':=A) (by omega) (F rb O.symm) (F g (Qa a9))
  have HF:=hide (Ya I (Ya G J))
  clear m1 M N F b Z G I P c Y O R V J
  go_wp2_with fail
  obtain⟨I,G,J⟩:=Qa HF
  obtain⟨a5,a2,a1,a4,zf⟩:=cl4 J
  refine bodyPost_ret (v:=tkA t) (by simp[results,Tryz.results61,go_sem,a5,a2,a1,a4]) rfl ?_
  exact⟨_,_,_,_,_,rfl,rfl,⟨rfl,rfl,.inr ⟨rfl,fun _=>Qa HM⟩⟩,I,G⟩
 rw[decide_eq_false hy]at U
 have HM:=hide (show y=0 -> ¬a+1<l.length from fun e=>absurd e hy)
 have S:=hide a3
 have HR:=hide h3
 clear h3 a3 hz b2 n1 a6 b3 nr nn ac b0 n0 s0 H a8 a0 Q hy
 go_wp2_with fail
 refine Qaz (md:=mLRpc0) (fun w'=>w'.heap[rb]?=some (.cells #[.slice (Js g) n cap,Ji (a:Int),Ji (d:Int),Ji (i:Int),Ji y,Ji f] 75 (0,0))) mixedO (by kernel_rfl) rfl (by kernel_rfl) (fun PP W=>?_)
 refine Qac rfl (by kernel_rfl) (fun _ _=>by go_simp<;>rfl) ?_
 refine Qal rfl (Qa S) (fun K X=>?_)
 go_simp
 refine U.mono ?_
 clear U
 rintro en _⟨rfl,rfl⟩
 show K _ _
 refine X _ _ ?_
 clear X K
 refine Qac rfl (by kernel_rfl) (fun _ _=>by go_simp<;>rfl) ?_
 iterate 11 refine Qe rfl (by kernel_rfl) ?_
 refine Qac (v:=.bool false) rfl (by kernel_rfl) (fun _ _=>by go_simp<;>rfl) ?_
 refine Qbc (Qa S) (W _ _ ?_)
 clear W PP
 simp[Act.put,Array.setIfInBounds]
 obtain⟨C,B⟩:=JE E.drew
 have P:=Qa HR
 rw[<- B]at P
 have c:=Qa aa
 rw[<- B]at c
 have N:∀q,q≠rb->C.heap[q]?=E.drew.heap[q]?:=fun q D=>by rw[B]
 rw[<- B]
 clear B
 obtain⟨Y,O,R,V⟩:=Qa HN
 have m1:=(N _ Y).trans R
 have M:=(N _ O).trans V
 have L1:=tk_ld m1
 have S1:=Qmn (new:=#[Ji t.kind,str t.text,Ji t.num,Ji (t.at_:Int)]) M rfl rfl (by simp[Value.oneCell',str])
 obtain⟨A,b⟩:=JE (C.setRow w.heap.size #[Ji t.kind,str t.text,Ji t.num,Ji (t.at_:Int)])
 rw[<- b]at S1
 have F:∀q,q≠w.heap.size->A.heap[q]?=C.heap[q]?:=fun q D=>by rw[b];exact setRow_other _ _ _ _ D
 have J:A.heap[w.heap.size]?=some (.cells #[Ji t.kind,str t.text,Ji t.num,Ji (t.at_:Int)] 73 (0,0)):=by rw[b];exact setRow_heap _ _ _ _ _ _ M
 have Z:A.heap.size=C.heap.size:=by rw[b,size_setRow]
 have G:Kp rb w A:=⟨by rw[b];exact c.os,by rw[b];exact c.tape,by rw[b];exact c.output,by rw[Z];exact c.size,fun q D Q=>(F q (by omega)).trans (c.block q D Q)⟩
 have I:=P.move (w':=A) (by omega) (F rb O.symm) (F g (Qa a9))
 have HF:=hide (Ya I (Ya G J))
 clear m1 M N F b Z G I P c Y O R V J
 go_wp2_with fail
 obtain⟨I,G,J⟩:=Qa HF
 obtain⟨a5,a2,a1,a4,zf⟩:=cl4 J
 refine bodyPost_ret (v:=tkA t) (by simp[results,Tryz.results61,go_sem,a5,a2,a1,a4]) rfl ?_
 exact⟨_,_,_,_,_,rfl,rfl,⟨rfl,rfl,.inr ⟨rfl,Qa HM⟩⟩,I,G⟩
end
section
open Go.RowKit Go.Maps
theorem Rr.more{rb g cap a d i:Nat}{l:List Tok}{w:World}{y f:Int}(h:Rr rb g cap l w a d i y f){t:Tok}(ht:l[a]?=some t)(hk:t.kind≠0):a+1<l.length:=by
 have:=h.lt
 by_cases e:a+1<l.length
 ·exact e
 have b:l.length - 1=a:=by omega
 exact absurd (h.last t (by rw[b];exact ht)) hk
theorem Qcj{rb g cap a d i:Nat}{l:List Tok}{w:World}{y f:Int}(h:Rr rb g cap l w a d i y f)(s:ByteArray):
  Calls Tryz.prog 56 #[.pointer (Js rb),.string s] w fun en w'=>∃b,en = .returned (.bool b)/\(b=true->y=0/\a+1<l.length)/\Below w.heap.size w w':=by
 have c:=Qaw h
 obtain⟨t,A⟩:=h.tok
 have B:∀w',Below w.heap.size w w'->Calls Tryz.prog 22 #[.pointer (Js rb)] w' fun en u=>en = .returned (.agg #[Ji t.kind,str t.text,Ji t.num,Ji (t.at_:Int)])/\Below w'.heap.size w' u:=fun w' F=>Qao (h.later F) A
 obtain⟨D,z⟩:∃D:Ending->World->Prop,D=fun en w'=>∃b,en = .returned (.bool b)/\(b=true->y=0/\a+1<l.length)/\Below w.heap.size w w':=⟨_,rfl⟩
 rw[<- z]
 have x:=hide z
 have G:=hide (fun n:t.kind≠0=>h.more A n)
 have v:=hide B
 clear z h A B
 by_cases q:y=0
 ·
  rw[decide_eq_true q]at c
  have H:=hide q
  clear q
  by_cases n:t.kind=4
  ·
   have J:(t.kind==4)=true:=beq_iff_eq.2 n
   have E:=hide (Qa G (by omega))
   have j:=Qa v w (Below.refl _ _)
   clear n
   go_enter Tryz.func56,Tryz.ntmps56
   go_wp2_with fail
   refine c.mono ?_
   clear c
   rintro en _⟨rfl,rfl⟩
   go_wp2_with fail
   refine j.mono ?_
   clear j
   rintro en u⟨rfl,o⟩
   have j:=Qa v u o
   have r:=hide o
   clear o
   go_wp2_with fail
   rename_i m
   refine m _ _ ?_
   clear m
   go_wp2_with fail
   refine j.mono ?_
   clear j
   rintro en K⟨rfl,C⟩
   have I:=hide ((Qa r).trans (C.mono (Qa r).size))
   clear C
   go_wp2_with fail
   rename_i m
   refine m _ _ ?_
   clear m
   go_wp2_with fail
   rw[Qa x]
   exact⟨_,rfl,fun _=>⟨Qa H,Qa E⟩,Qa I⟩
  have J:(t.kind==4)=false:=beq_eq_false_iff_ne.2 n
  have j:=Qa v w (Below.refl _ _)
  clear n
  go_enter Tryz.func56,Tryz.ntmps56
  go_wp2_with fail
  refine c.mono ?_
  clear c
  rintro en _⟨rfl,rfl⟩
  go_wp2_with fail
  refine j.mono ?_
  clear j
  rintro en u⟨rfl,o⟩
  have r:=hide o
  clear o
  go_wp2_with fail
  rename_i m
  refine m _ _ ?_
  clear m
  go_wp2_with fail
  rw[Qa x]
  exact⟨_,rfl,fun e=>(by cases e),Qa r⟩
 rw[decide_eq_false q]at c
 clear q
 go_enter Tryz.func56,Tryz.ntmps56
 go_wp2_with fail
 refine c.mono ?_
 clear c
 rintro en _⟨rfl,rfl⟩
 go_wp2_with fail
 rw[Qa x]
 exact⟨_,rfl,fun e=>(by cases e),Below.refl _ _⟩
def MyA(rb g cap:Nat)(l:List Tok)(w:World)(a d i:Nat)(y:Int)(en:Ending)(w':World):Prop:=
 ∃b a' f',en = .returned (.bool b)/\(b=true->y=0/\a'=a+1)/\(b=false->a'=a)/\Rr rb g cap l w' a' d i y f'/\Kp rb w w'
def CoY(a i:Nat)(y:Int)(a' i':Nat)(y':Int):Prop:=i'=i/\a<=a'/\(y'=0->y=0/\a<a')
def txV(_:World)(v:Value):Prop:=∃x:Txt,v=str x/\x.length<=65536
theorem Qbf{rb g cap a d i:Nat}{l:List Tok}{w:World}{y f:Int}(h:Rr rb g cap l w a d i y f)(s:ByteArray):
  Calls Tryz.prog 57 #[.pointer (Js rb),.string s] w fun en w'=>MyA rb g cap l w a d i y en w':=by
 have u:=Qcj h s
 obtain⟨t,v⟩:=h.tok
 have H:=hide (Ya h v)
 clear h v
 go_enter Tryz.func57,Tryz.ntmps57
 go_wp2_with fail
 refine u.mono ?_
 clear u
 rintro en G⟨b,rfl,m,c⟩
 have q:=Qb ((Qa H).1.later c) (Qa H).2
 have r:=hide (Ya m c)
 clear m c
 cases b
 ·
  clear q
  go_wp2_with fail
  go_ret
  exact⟨false,_,_,rfl,fun e=>(by cases e),fun _=>rfl,(Qa H).1.later (Qa r).2,Kp.of_below (Qa r).2⟩
 go_wp2_with fail
 refine q.mono ?_
 clear q
 rintro en D⟨_,F,I,E,C,rfl,rfl,o,j,n⟩
 have B:=hide (Ya o (Ya j n))
 clear o j n
 go_wp2_with fail
 go_ret
 obtain⟨m,c⟩:=Qa r
 obtain⟨⟨rfl,rfl,o⟩,j,n⟩:=Qa B
 obtain⟨x,z⟩:=m (by trivial)
 rcases o with ⟨_,_,rfl⟩|⟨_,A⟩
 ·exact⟨true,_,_,rfl,fun _=>⟨x,rfl⟩,fun e=>(by cases e),j,(Kp.of_below c).trans n⟩
 ·exact absurd z (A x)
theorem Qbl{rb g cap a d i:Nat}{l:List Tok}{w:World}{y f:Int}(h:Rr rb g cap l w a d i y f)(s:ByteArray):
  Calls Tryz.prog 64 #[.pointer (Js rb),.string s] w fun en w'=>RA rb g cap l w d noV (CoY a i y) en w':=by
 have u:=Qbf h s
 clear h
 go_enter Tryz.func64,Tryz.ntmps64
 go_wp2_with fail
 refine u.mono ?_
 clear u
 rintro en G⟨b,C,A,rfl,r,m,j,c⟩
 have t:=Qbe j (why:=10) (by decide)
 have v:=hide (Ya r (Ya m (Ya j c)))
 clear r m j c
 cases b
 ·
  go_wp2_with fail
  refine t.mono ?_
  clear t
  rintro en B⟨_,F,D,H,E,rfl,rfl,q,n,o⟩
  have x:=hide (Ya q (Ya n o))
  clear q n o
  go_wp2_with fail
  go_end0
  obtain⟨_,m,_,c⟩:=Qa v
  obtain rfl:=m (by trivial)
  obtain⟨⟨rfl,rfl,q⟩,n,o⟩:=Qa x
  exact⟨_,_,_,_,_,rfl,rfl,⟨rfl,Nat.le_refl _,fun e=>absurd e q⟩,n,c.trans o⟩
 clear t
 go_wp2_with fail
 go_end0
 obtain⟨r,_,j,c⟩:=Qa v
 obtain⟨z,rfl⟩:=r (by trivial)
 exact⟨_,_,_,_,_,rfl,rfl,⟨rfl,by omega,fun _=>⟨z,by omega⟩⟩,j,c⟩
theorem Qdm{rb g cap a d i:Nat}{l:List Tok}{w:World}{y f:Int}(h:Rr rb g cap l w a d i y f):
  Calls Tryz.prog 65 #[.pointer (Js rb)] w fun en w'=>RA rb g cap l w d txV (CoY a i y) en w':=by
 obtain⟨t,z⟩:=h.tok
 have v:=Qao h z
 unfold tkA at v
 have H:=hide (Ya h z)
 clear h z
 go_enter Tryz.func65,Tryz.ntmps65
 go_wp2_with fail
 refine v.mono ?_
 clear v
 rintro en Q⟨rfl,A⟩
 have s:=(Qa H).1.later A
 have x:=Qbe s (why:=10) (by decide)
 have c:=Qb s (Qa H).2
 unfold tkA at c
 have B:=hide (Ya s A)
 clear s A
 go_wp2_with fail
 rename_i j
 refine j _ _ ?_
 clear j
 by_cases r:t.kind=1
 ·
  have L:(t.kind != 1)=false:=by simpa using r
  have I:=hide ((Qa H).1.more (Qa H).2 (by omega))
  clear r x
  go_wp2_with fail
  refine c.mono ?_
  clear c
  rintro en D⟨_,F,J,E,C,rfl,rfl,b,m,n⟩
  have u:=hide (Ya b (Ya m n))
  clear b m n
  go_wp2_with fail
  rename_i j
  refine j _ _ ?_
  clear j
  go_wp2_with fail
  go_ret
  obtain⟨⟨rfl,rfl,b⟩,m,n⟩:=Qa u
  refine⟨_,_,_,_,_,rfl,⟨_,rfl,(Qa H).1.tx t (List.mem_of_getElem? (Qa H).2)⟩,⟨rfl,?_,?_⟩,m,(Kp.of_below (Qa B).2).trans n⟩
  ·rcases b with ⟨_,_,rfl⟩|⟨rfl,_⟩<;>omega
  intro e
  rcases b with ⟨_,_,rfl⟩|⟨_,G⟩
  ·exact⟨e,by omega⟩
  ·exact absurd (Qa I) (G e)
 have L:(t.kind != 1)=true:=by simpa using r
 clear r c
 go_wp2_with fail
 refine x.mono ?_
 clear x
 rintro en D⟨_,P,M,R,O,rfl,rfl,⟨rfl,rfl,b⟩,m,n⟩
 have c:=Qb m (Qa H).2
 unfold tkA at c
 have u:=hide (Ya b n)
 clear b m n
 go_wp2_with fail
 refine c.mono ?_
 clear c
 rintro en N⟨_,F,J,E,C,rfl,rfl,b,q,o⟩
 have K:=hide (Ya b (Ya q o))
 clear b q o
 go_wp2_with fail
 rename_i j
 refine j _ _ ?_
 clear j
 go_wp2_with fail
 go_ret
 obtain⟨⟨rfl,rfl,b⟩,q,o⟩:=Qa K
 refine⟨_,_,_,_,_,rfl,⟨_,rfl,(Qa H).1.tx t (List.mem_of_getElem? (Qa H).2)⟩,⟨rfl,?_,fun e=>absurd e (Qa u).1⟩,q,((Kp.of_below (Qa B).2).trans (Qa u).2).trans o⟩
 rcases b with ⟨_,_,rfl⟩|⟨rfl,_⟩<;>omega
theorem Qcb{rb g cap a d i:Nat}{l:List Tok}{w:World}{y f:Int}(h:Rr rb g cap l w a d i y f):
  Calls Tryz.prog 63 #[.pointer (Js rb)] w fun en w'=>RA rb g cap l w d txV (CoY a i y) en w':=by
 obtain⟨t,F⟩:=h.tok
 have O:∀w',Below w.heap.size w w'->Calls Tryz.prog 22 #[.pointer (Js rb)] w' fun en A=>en = .returned (.agg #[Ji t.kind,str t.text,Ji t.num,Ji (t.at_:Int)])/\Below w'.heap.size w' A:=fun w' hb=>Qao (h.later hb) F
 have R:(⟨t.text.toArray⟩:ByteArray).size<=140737488355328:=by
  have:=h.tx t (List.mem_of_getElem? F)
  have e:(⟨t.text.toArray⟩:ByteArray).size=t.text.length:=by simp[ByteArray.size]
  omega
 have Q:∀w',Calls Tryz.prog 92 #[str t.text] w' fun e A=>e = .returned (.bool (wordP t.text))/\A=w':=fun w'=>by
  have:=Qjv ⟨t.text.toArray⟩ R w'
  simpa[str] using this
 have G:=hide O
 have a1:=hide Q
 have H:=hide (Ya h F)
 have o:=Qa G w (Below.refl _ _)
 clear h F O Q R
 go_enter Tryz.func63,Tryz.ntmps63
 go_wp2_with fail
 refine o.mono ?_
 clear o
 rintro en A⟨rfl,Y⟩
 have z:=hide (Y)
 clear Y
 go_wp2_with fail
 rename_i c
 refine c _ _ ?_
 clear c
 by_cases E:t.kind=1
 ·
  have gk:(t.kind != 1)=false:=by simpa using E
  have HM:=hide ((Qa H).1.more (Qa H).2 (by omega))
  have o:=Qa G A (Qa z)
  clear E
  go_wp2_with fail
  refine o.mono ?_
  clear o
  rintro en w3⟨rfl,W⟩
  have B:=hide ((Qa z).trans (W.mono (Qa z).size))
  clear W
  have I:=Qa a1 w3
  obtain⟨bw,P⟩:=JE (wordP t.text)
  rw[<- P]at I
  clear P
  go_wp2_with fail
  rename_i c
  refine c _ _ ?_
  clear c
  go_wp2_with fail
  refine I.mono ?_
  clear I
  rintro en a0⟨rfl,rfl⟩
  cases bw
  ·
   have u:=(Qa H).1.later (Qa B)
   have q:=Qbe u (why:=10) (by decide)
   clear u
   go_wp2_with fail
   refine q.mono ?_
   clear q
   rintro en S⟨_,V,X,y3,U,rfl,rfl,⟨rfl,rfl,b⟩,v,s⟩
   have n:=Qb v (Qa H).2
   unfold tkA at n
   have r:=hide (Ya b s)
   clear b v s
   go_wp2_with fail
   refine n.mono ?_
   clear n
   rintro en K⟨_,N,L,J,M,rfl,rfl,b,j,m⟩
   have x:=hide (Ya b (Ya j m))
   clear b j m
   go_wp2_with fail
   rename_i c
   refine c _ _ ?_
   clear c
   go_wp2_with fail
   go_ret
   obtain⟨⟨rfl,rfl,b⟩,j,m⟩:=Qa x
   refine⟨_,_,_,_,_,rfl,⟨_,rfl,(Qa H).1.tx t (List.mem_of_getElem? (Qa H).2)⟩,⟨rfl,?_,fun e=>absurd e (Qa r).1⟩,j,((Kp.of_below (Qa B)).trans (Qa r).2).trans m⟩
   rcases b with ⟨_,_,rfl⟩|⟨rfl,_⟩<;>omega
  have o:=Qa G a0 (Qa B)
  go_wp2_with fail
  refine o.mono ?_
  clear o
  rintro en w4⟨rfl,Z⟩
  have D:=hide ((Qa B).trans (Z.mono (Qa B).size))
  clear Z
  go_wp2_with fail
  rename_i c
  refine c _ _ ?_
  clear c
  by_cases C:t.text=[95]
  ·
   have gu:(t.text==[95])=true:=by simpa using C
   clear C
   have u:=(Qa H).1.later (Qa D)
   have q:=Qbe u (why:=10) (by decide)
   clear u
   go_wp2_with fail
   refine q.mono ?_
   clear q
   rintro en S⟨_,V,X,y3,U,rfl,rfl,⟨rfl,rfl,b⟩,v,s⟩
   have n:=Qb v (Qa H).2
   unfold tkA at n
   have r:=hide (Ya b s)
   clear b v s
   go_wp2_with fail
   refine n.mono ?_
   clear n
   rintro en K⟨_,N,L,J,M,rfl,rfl,b,j,m⟩
   have x:=hide (Ya b (Ya j m))
   clear b j m
   go_wp2_with fail
   rename_i c
   refine c _ _ ?_
   clear c
   go_wp2_with fail
   go_ret
   obtain⟨⟨rfl,rfl,b⟩,j,m⟩:=Qa x
   refine⟨_,_,_,_,_,rfl,⟨_,rfl,(Qa H).1.tx t (List.mem_of_getElem? (Qa H).2)⟩,⟨rfl,?_,fun e=>absurd e (Qa r).1⟩,j,((Kp.of_below (Qa D)).trans (Qa r).2).trans m⟩
   rcases b with ⟨_,_,rfl⟩|⟨rfl,_⟩<;>omega
  have gu:(t.text==[95])=false:=by simpa using C
  clear C
  have n:=Qb ((Qa H).1.later (Qa D)) (Qa H).2
  unfold tkA at n
  go_wp2_with fail
  refine n.mono ?_
  clear n
  rintro en K⟨_,N,L,J,M,rfl,rfl,b,j,m⟩
  have x:=hide (Ya b (Ya j m))
  clear b j m
  go_wp2_with fail
  rename_i c
  refine c _ _ ?_
  clear c
  go_wp2_with fail
  go_ret
  obtain⟨⟨rfl,rfl,b⟩,j,m⟩:=Qa x
  refine⟨_,_,_,_,_,rfl,⟨_,rfl,(Qa H).1.tx t (List.mem_of_getElem? (Qa H).2)⟩,⟨rfl,?_,?_⟩,j,(Kp.of_below (Qa D)).trans m⟩
  ·rcases b with ⟨_,_,rfl⟩|⟨rfl,_⟩<;>omega
  intro e
  rcases b with ⟨_,_,rfl⟩|⟨_,hn⟩
  ·exact⟨e,by omega⟩
  ·exact absurd (Qa HM) (hn e)
 have gk:(t.kind != 1)=true:=by simpa using E
 clear E
 have u:=(Qa H).1.later (Qa z)
 have q:=Qbe u (why:=10) (by decide)
 clear u
 go_wp2_with fail
 refine q.mono ?_
 clear q
 rintro en S⟨_,V,X,y3,U,rfl,rfl,⟨rfl,rfl,b⟩,v,s⟩
 have n:=Qb v (Qa H).2
 unfold tkA at n
 have r:=hide (Ya b s)
 clear b v s
 go_wp2_with fail
 refine n.mono ?_
 clear n
 rintro en K⟨_,N,L,J,M,rfl,rfl,b,j,m⟩
 have x:=hide (Ya b (Ya j m))
 clear b j m
 go_wp2_with fail
 rename_i c
 refine c _ _ ?_
 clear c
 go_wp2_with fail
 go_ret
 obtain⟨⟨rfl,rfl,b⟩,j,m⟩:=Qa x
 refine⟨_,_,_,_,_,rfl,⟨_,rfl,(Qa H).1.tx t (List.mem_of_getElem? (Qa H).2)⟩,⟨rfl,?_,fun e=>absurd e (Qa r).1⟩,j,((Kp.of_below (Qa z)).trans (Qa r).2).trans m⟩
 rcases b with ⟨_,_,rfl⟩|⟨rfl,_⟩<;>omega
def Qown{α : Type}(p:PS α)(k:Nat)(T:TypeId)(w wr:World)(sl:Value)(acc:List α):Prop:=∃css,wr.ownsRow w.heap.size T k sl acc.length css.flatten/\All p k (fun b=>w.heap.size<=b/\some b≠sl.ownBlock) wr css acc
section
variable {α : Type}{p:PS α}{k:Nat}{T:TypeId}
theorem Qown.nil(w wr:World):Qown p k T w wr (Jn) []:=⟨[],World.ownsRow_nil _ _ _ _,⟨rfl,fun j x b a=>by simp at a⟩⟩
theorem Qown.kp(hp:PSok p){rb:Nat}{w wr w':World}{sl:Value}{acc:List α}(h:Qown p k T w wr sl acc)(k2:Kp rb wr w')(hr:rb<w.heap.size):Qown p k T w w' sl acc:=by
 obtain⟨d,a,l⟩:=h
 refine⟨d,⟨a.1,?_⟩,l.same hp k2.size (fun b o j=>k2.block b j (by omega))⟩
 rcases a.2 with e|⟨g,cap,c,n,f,i,m⟩
 ·exact .inl e
 ·exact .inr ⟨g,cap,c,n,f,k2.keep i (by omega),m⟩
theorem Qown.sl{w wr:World}{sl:Value}{acc:List α}(h:Qown p k T w wr sl acc):∃a c,sl = .slice a acc.length c/\acc.length<=c/\c<=maxLen:=by
 obtain⟨l,b,_⟩:=h
 rcases b.2 with ⟨e,d⟩|⟨g,cap,j,e,_,_,i,f,_⟩
 ·exact⟨none,0,by rw[e,d],by omega,by unfold maxLen;omega⟩
 ·exact⟨_,_,e,i,f⟩
theorem Qown.ls(hp:PSok p){w wr:World}{sl:Value}{acc:List α}(h:Qown p k T w wr sl acc):LsAt p k (fun b=>w.heap.size<=b) wr sl acc:=by
 obtain⟨e,a,c⟩:=h
 exact LsAt.of a (c.mono hp (fun b _ d=>d.1))
theorem Qown.more(hp:PSok p){ST:TypeId}{i0:TypeInfo}{z:Value}{by_:Nat}(ht:Tryz.prog.underlying ST=some (.slice T))(hi:Tryz.prog.info? T=some i0)(hz:i0.zero=some z)(hsz:i0.size=k)(hby:i0.bytes=by_)(hzc:z.cells.size=k)(hk:0<k)(hb6:by_<=1000)
  {rb g cap a d i:Nat}{l:List Tok}{y f:Int}{w wr w2:World}{sl:Value}{acc:List α}(h:Qown p k T w wr sl acc)(kp:Kp rb w wr){x:α}{cs:List Value}
  (hl:cs.length=k)(h1:∀c∈cs,c.oneCell'=true)(hx:p (fun b=>wr.heap.size<=b) w2 cs x)(hR:Rr rb g cap l w2 a d i y f)(k2:Kp rb wr w2)(hrb:rb<w.heap.size)(hg:g<w.heap.size)(hf:acc.length<=65536):
  ∃r w8,(Builtin.append_ #[ST,ST] ST #[sl,.slice (Js w2.heap.size) 1 1]).run Tryz.prog (w2.alloc (.cells cs.toArray T)) = .ok r w8/\Kp rb w w8/\Rr rb g cap l w8 a d i y f/\Qown p k T w w8 r (acc++[x]):=by
 obtain⟨s,C,R⟩:=h
 have X:=kp.size
 have N:=k2.size
 have q:∀b,some b=sl.ownBlock->w.heap.size<=b/\b<wr.heap.size:=fun b e=>World.ownsRow.lt C b e.symm
 have I:(w2.alloc (.cells cs.toArray T)).ownsRow w.heap.size T k sl acc.length s.flatten:=by
  refine World.ownsRow.alloc ?_ _
  refine⟨C.1,?_⟩
  rcases C.2 with e|⟨g,cap,L,F,A,O,S⟩
  ·exact .inl e
  ·exact .inr ⟨g,cap,L,F,A,k2.keep O (by omega),S⟩
 obtain⟨r,w8,V,U,t,_,Q⟩:=run_append_own_at (P:=Tryz.prog) (w2.alloc (.cells cs.toArray T)) w.heap.size ST ST T i0 z k by_ ht hi hz hsz hby hzc hk sl acc.length s.flatten I (Ja w2.heap.size 0) 1 1 cs (by rw[hl,Nat.one_mul]) (fun j u E=>by
  have F:((Ja w2.heap.size 0):Addr).add j=(Ja w2.heap.size j):=by cases j<;>simp[Addr.add]
  rw[F,Qad (heap_alloc_new w2 _)]
  simpa using E) h1 (by unfold maxLen;omega) (by
  have v:acc.length+1<=65537:=by omega
  have:=Nat.mul_le_mul v hb6
  omega) (by simp;omega)
 have Y:(w2.alloc (.cells cs.toArray T)).heap.size=w2.heap.size+1:=by simp
 have W:=t.size
 have o:∀b,b<w2.heap.size->some b≠sl.ownBlock->w8.heap[b]?=w2.heap[b]?:=fun b n B=>by
  rw[t.block b (by omega) B,Below.heap_alloc _ _ _ n]
 have M:Kp rb w w8:=by
  have n:=(Below.refl w2.heap.size w2).alloc (Nat.le_refl _) (.cells cs.toArray T)
  refine⟨t.os.trans (n.os.trans (k2.os.trans kp.os)),t.tape.trans (n.tape.trans (k2.tape.trans kp.tape)),t.output.trans (n.output.trans (k2.output.trans kp.output)),by omega,fun j E B=>?_⟩
  rw[o j (by omega) (fun e=>by have:=(q j e).1;omega),k2.block j (by omega) B]
  exact kp.block j E B
 have K:Rr rb g cap l w8 a d i y f:=hR.move (by omega) (o rb (by omega) (fun e=>by have:=(q rb e).1;omega)) (o g (by omega) (fun e=>by have:=(q g e).1;omega))
 have G:∀b,some b=r.ownBlock->some b=sl.ownBlock∨w2.heap.size<b+1/\w2.heap.size+1<=b:=fun b e=>by
  rcases Q with A|A
  ·exact .inl (e.trans A)
  rw[A]at e
  simp only[Option.some.injEq]at e
  exact .inr (by omega)
 refine⟨r,w8,V,M,K,s++[cs],by rw[List.length_append];simpa using U,?_⟩
 have H:All p k (fun b=>w.heap.size<=b/\some b≠r.ownBlock) w8 s acc:=by
  have D:All p k (fun b=>(w.heap.size<=b/\some b≠sl.ownBlock)/\b<wr.heap.size) w2 s acc:=(R.mono hp (fun b n m=>⟨m,n⟩)).same hp N (fun b m n=>k2.block b n (by omega))
  have v:=D.same hp (w':=w8) (by omega) (fun b m n=>o b n m.1.2)
  refine v.mono hp (fun b _ m=>⟨m.1.1,fun e=>?_⟩)
  rcases G b e with e|e
  ·exact m.1.2 e
  have:=m.2
  omega
 have J:p (fun b=>w.heap.size<=b/\some b≠r.ownBlock) w8 cs x:=by
  have D:=hp.mono _ (fun b=>wr.heap.size<=b/\b<w2.heap.size) _ _ _ hx (fun b n m=>⟨m,n⟩)
  have v:=hp.same _ _ w8 _ _ D (by omega) (fun b m n=>o b n (fun e=>by have:=(q b e).2;have:=m.1;omega))
  refine hp.mono _ _ _ _ _ v (fun b _ m=>⟨by have:=m.1;omega,fun e=>?_⟩)
  rcases G b e with e|e
  ·
   have:=(q b e).2
   have:=m.1
   omega
  have:=m.2
  omega
 exact H.snoc hl J
end
def leftR(rb n:Nat)(w:World):Nat:=match w.cell? ⟨rb,4,none⟩ with
 |some (.int _ y)=>if y=0 then (match w.cell? ⟨rb,1,none⟩ with|some (.int _ a)=>n - a.toNat|_=>0)+1 else 0
 |_=>0
theorem Qan{rb g cap a d i:Nat}{l:List Tok}{w:World}{y f:Int}(h:Rr rb g cap l w a d i y f)(n:Nat):leftR rb n w=if y=0 then n - a+1 else 0:=by
 obtain⟨_,b,_,_,c,_,_⟩:=cl6 h.box
 unfold leftR
 rw[c,b]
 simp
end
end Go.Proofs.YtmfpbepifnedjaaGreat
