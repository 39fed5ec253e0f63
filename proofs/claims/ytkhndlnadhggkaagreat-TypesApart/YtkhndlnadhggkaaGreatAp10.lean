/- The document's reader. -/
import Derived.Test.YtkhndlnadhggkaaGreatAp01
import Derived.Test.YtkhndlnadhggkaaGreatAp09
set_option maxRecDepth 100000
set_option maxHeartbeats 32000000
namespace Go.Proofs.YtkhndlnadhggkaaGreat
section
open Go.RowKit Go.Maps
abbrev mLRpc0:List (Nat×Bool):=[(0,true),(1,false),(2,true),(3,true),(4,true),(5,true),(6,true),(7,true),(8,true),(9,true),(10,true),(11,true),(12,true),(13,true),(14,true)]
theorem tk_ld{w:World}{b:Nat}{c0 c1 c2 c3:Value}(h:w.heap[b]?=some (.cells #[c0,c1,c2,c3] 73 (0,0))):(tkLoad (.pointer (Js b))).run Tryz.prog w = .ok (.agg #[c0,c1,c2,c3]) w:=
 run_loadAt_mid w b 0 73 [c0,c1,c2,c3] _ (fun q v a=>by rw[Qad h,Nat.zero_add];simpa using a) Tryz.underlying73 rfl (by kernel_rfl)
theorem Qmi{w:World}{b:Nat}{old new:Array Value}(hb:w.heap[b]?=some (.cells old 73 (0,0)))(h0:old.size=4)(hn:new.size=4)(h1:new.all (·.oneCell')=true):(tkStore (.pointer (Js b)) (.agg new)).run Tryz.prog w = .ok () (w.setRow b new):=by
 unfold tkStore;simp only[Instr.storeAt,Instr.sureAddr,Sem.run_bind,Sem.run_pure,Result.andThen_ok];exact run_storeVar_row w b 73 73 old new hb (by rw[hn];kernel_rfl) (by rw[h0,hn]) h1
theorem Qgj(n:Nat)(h0:0<n)(h:n<=65537):IntKind.i64.wrap ((n:Int) - 1)=(n:Int) - 1:=by
 have a:(2:Int) ^ IntKind.i64.bits=18446744073709551616:=by decide
 have b:(2:Int) ^ (IntKind.i64.bits - 1)=9223372036854775808:=by decide
 have c:((n:Int) - 1) % 18446744073709551616=(n:Int) - 1:=by omega
 unfold IntKind.wrap;simp only[a,b,c];rw[if_neg (by simp;intro _;omega)]
theorem Rr.move{rb g cap a d i:Nat}{l:List Tok}{w w':World}{y f:Int}(h:Rr rb g cap l w a d i y f)(hs:w.heap.size<=w'.heap.size)(hr:w'.heap[rb]?=w.heap[rb]?)(hg:w'.heap[g]?=w.heap[g]?):Rr rb g cap l w' a d i y f:=
 ⟨hr.trans h.box,h.row.keep hs hg,h.ne,h.lt,h.few,h.at_,h.last,h.z,h.dd,h.ii,h.tx⟩
def TkY(l:List Tok)(a i:Nat)(y:Int)(a' i':Nat)(y':Int):Prop:=i'=i/\y'=y/\((y=0/\a+1<l.length/\a'=a+1)∨(a'=a/\(y=0 -> ¬a+1<l.length)))
attribute [local go_sem ↓] Qdr Qej
theorem Qba{rb g cap a d i:Nat}{l:List Tok}{w:World}{y f:Int}(h:Rr rb g cap l w a d i y f){t:Tok}(ht:l[a]?=some t):
  Calls Tryz.prog 61 #[.pointer (Js rb)] w fun en w'=>RA rb g cap l w d (fun _ v=>v=tkA t) (TkY l a i y) en w':=by
 have b0:Below w.heap.size w (w.alloc tokZ):=(Below.refl _ w).alloc (Nat.le_refl _) _;have n0:(w.alloc tokZ).heap[w.heap.size]?=some tokZ:=heap_alloc_new w _;have s0:(w.alloc tokZ).heap.size=w.heap.size+1:=by simp
 have aa:=Qap (h.later b0) ht;unfold tkA at aa;have ag:=h.lt;have af:=h.few;have ad:=h.row.le;have ae:=h.row.cm;unfold maxLen at ae;have ai:=Qaa h.box;have H:=hide h;have a7:=hide (Ya b0 (Ya n0 s0));clear h b0 n0 s0 ht;go_enter Tryz.func61,Tryz.ntmps61;go_wp2_with fail;refine aa.mono ?_;clear aa;rintro en L⟨rfl,b2⟩;obtain⟨b0,n0,s0⟩:=Qa a7;have n1:(L.alloc tokZ).heap[L.heap.size]?=some tokZ:=heap_alloc_new L _;have R1:=Qmi (new:=#[Ji t.kind,str t.text,Ji t.num,Ji (t.at_:Int)]) n1 rfl rfl (by simp[Value.oneCell',str]);obtain⟨E,a1⟩:=JE ((L.alloc tokZ).setRow L.heap.size #[Ji t.kind,str t.text,Ji t.num,Ji (t.at_:Int)]);rw[<- a1]at R1;have ac:=b2.size;have a6:Below L.heap.size L E:=by
  rw[a1];have q:=(Below.refl L.heap.size L).alloc (Nat.le_refl _) tokZ;exact⟨q.os,q.tape,q.output,by rw[size_setRow];exact q.size,fun k hk=>by rw[setRow_other _ _ _ _ (by omega)];exact q.block k hk⟩
 have b3:Below w.heap.size w E:=(b0.trans (b2.mono (by omega))).trans (a6.mono (by omega));have nr:E.heap[L.heap.size]?=some (.cells #[Ji t.kind,str t.text,Ji t.num,Ji (t.at_:Int)] 73 (0,0)):=by rw[a1];exact setRow_heap _ _ _ _ _ _ n1
 have nn:E.heap[w.heap.size]?=some tokZ:=((a6.block _ (by omega)).trans (b2.block _ (by omega))).trans n0;have h3:=(Qa H).later b3.drew;have W:=Qax h3;have a8:=hide (show g≠w.heap.size by have:=(Qa H).row.lt;omega);have a9:=hide (Kp.of_below (rb:=rb) b3.drew);have HN:=hide (Ya (show L.heap.size≠rb by omega) (Ya (show w.heap.size≠rb by omega) (Ya (show E.drew.heap[L.heap.size]?=some (.cells #[Ji t.kind,str t.text,Ji t.num,Ji (t.at_:Int)] 73 (0,0)) from nr) (show E.drew.heap[w.heap.size]?=some tokZ from nn))));obtain⟨n,Q⟩:=JF l.length;have a0:=h3.box;rw[Q]at a0 ag af ad;have hz:=h3.z;by_cases hy:y=0
 rotate_left
 ·
  rw[decide_eq_false hy]at W;have HM:=hide (show y=0 -> ¬a+1<l.length from fun e=>absurd e hy);have R:=hide a0;have HR:=hide h3;clear h3 a0 hz b2 n1 a6 b3 nr nn ac b0 n0 s0 H a7 a1 Q hy;go_wp2_with fail;refine Qaz (md:=mLRpc0) (fun w'=>w'.heap[rb]?=some (.cells #[.slice (Js g) n cap,Ji (a:Int),Ji (d:Int),Ji (i:Int),Ji y,Ji f] 75 (0,0))) mixedO (by kernel_rfl) rfl (by kernel_rfl) (fun PP S=>?_);refine Qac rfl (by kernel_rfl) (fun _ _=>by go_simp<;>rfl) ?_;refine Qak rfl (Qa R) (fun K Y=>?_);go_simp;refine W.mono ?_;clear W;rintro en _⟨rfl,rfl⟩;show K _ _;refine Y _ _ ?_;clear Y K;refine Qac rfl (by kernel_rfl) (fun _ _=>by go_simp<;>rfl) ?_
  iterate 11 refine Qdv rfl (by kernel_rfl) ?_
  refine Qac (v:=.bool false) rfl (by kernel_rfl) (fun _ _=>by go_simp<;>rfl) ?_;refine Qbc (Qa R) (S _ _ ?_);clear S PP;simp[Act.put,Array.setIfInBounds];obtain⟨C,B⟩:=JE E.drew;have P:=Qa HR;rw[<- B]at P;have c:=Qa a9;rw[<- B]at c;have O:∀q,q≠rb->C.heap[q]?=E.drew.heap[q]?:=fun q D=>by rw[B]
  rw[<- B];clear B;obtain⟨X,M,V,U⟩:=Qa HN;have Z:=(O _ X).trans V;have N:=(O _ M).trans U;have L1:=tk_ld Z;have S1:=Qmi (new:=#[Ji t.kind,str t.text,Ji t.num,Ji (t.at_:Int)]) N rfl rfl (by simp[Value.oneCell',str]);obtain⟨A,b⟩:=JE (C.setRow w.heap.size #[Ji t.kind,str t.text,Ji t.num,Ji (t.at_:Int)]);rw[<- b]at S1;have I:∀q,q≠w.heap.size->A.heap[q]?=C.heap[q]?:=fun q D=>by rw[b];exact setRow_other _ _ _ _ D
  have J:A.heap[w.heap.size]?=some (.cells #[Ji t.kind,str t.text,Ji t.num,Ji (t.at_:Int)] 73 (0,0)):=by rw[b];exact setRow_heap _ _ _ _ _ _ N
  have s5:A.heap.size=C.heap.size:=by rw[b,size_setRow]
  have G:Kp rb w A:=⟨by rw[b];exact c.os,by rw[b];exact c.tape,by rw[b];exact c.output,by rw[s5];exact c.size,fun q D Q=>(I q (by omega)).trans (c.block q D Q)⟩;have F:=P.move (w':=A) (by omega) (I rb M.symm) (I g (Qa a8));have HF:=hide (Ya F (Ya G J));clear Z N O I b s5 G F P c X M V U J;go_wp2_with fail;obtain⟨F,G,J⟩:=Qa HF;obtain⟨a2,a3,a4,a5,zf⟩:=cl4 J;refine bodyPost_ret (v:=tkA t) (by simp[results,Tryz.results61,go_sem,a2,a3,a4,a5]) rfl ?_;exact⟨_,_,_,_,_,rfl,rfl,⟨rfl,rfl,.inr ⟨rfl,Qa HM⟩⟩,F,G⟩
 obtain rfl:=hz hy;subst hy;rw[decide_eq_true rfl]at W;have R:=hide a0;have HR:=hide h3;clear h3 a0 hz b2 n1 a6 b3 nr nn ac b0 n0 s0 H a7 a1;by_cases hm:a+1<n
 ·
  have HM:=hide (show a+1<l.length by omega);have ah:=Qgj n (by omega) (by omega);have ab:(a:Int)<(n:Int) - 1:=by omega
  clear Q;go_wp2_with fail;refine Qaz (md:=mLRpc0) (fun w'=>w'.heap[rb]?=some (.cells #[.slice (Js g) n cap,Ji (a:Int),Ji (d:Int),Ji (i:Int),Ji 0,Ji 0] 75 (0,0))) mixedO (by kernel_rfl) rfl (by kernel_rfl) (fun PP S=>?_);refine Qac rfl (by kernel_rfl) (fun _ _=>by go_simp<;>rfl) ?_;refine Qak rfl (Qa R) (fun K Y=>?_);go_simp;refine W.mono ?_;clear W;rintro en _⟨rfl,rfl⟩;show K _ _;refine Y _ _ ?_;clear Y K;refine Qac rfl (by kernel_rfl) (fun _ _=>by go_simp<;>rfl) ?_;refine Qac rfl (by kernel_rfl) (fun w' hw=>by obtain⟨j,m,o,r,s,u,x⟩:=cl6 hw;go_simp<;>rfl) ?_;refine Qac rfl (by kernel_rfl) (fun w' hw=>by obtain⟨j,m,o,r,s,u,x⟩:=cl6 hw;go_simp<;>rfl) ?_;refine Qac rfl (by kernel_rfl) (fun w' hw=>by obtain⟨j,m,o,r,s,u,x⟩:=cl6 hw;go_simp<;>rfl) ?_;refine Qac rfl (by kernel_rfl) (fun w' hw=>by obtain⟨j,m,o,r,s,u,x⟩:=cl6 hw;go_simp<;>rfl) ?_;refine Qac rfl (by kernel_rfl) (fun w' hw=>by obtain⟨j,m,o,r,s,u,x⟩:=cl6 hw;go_simp<;>rfl) ?_;refine Qac rfl (by kernel_rfl) (fun w' hw=>by obtain⟨j,m,o,r,s,u,x⟩:=cl6 hw;go_simp<;>rfl) ?_;refine Qac rfl (by kernel_rfl) (fun w' hw=>by obtain⟨j,m,o,r,s,u,x⟩:=cl6 hw;go_simp<;>rfl) ?_;refine Qac rfl (by kernel_rfl) (fun w' hw=>by obtain⟨j,m,o,r,s,u,x⟩:=cl6 hw;go_simp<;>rfl) ?_;refine Qac rfl (by kernel_rfl) (fun w' hw=>by obtain⟨j,m,o,r,s,u,x⟩:=cl6 hw;go_simp<;>rfl) ?_;refine Qac rfl (by kernel_rfl) (fun w' hw=>by obtain⟨j,m,o,r,s,u,x⟩:=cl6 hw;go_simp<;>rfl) ?_;refine Qac (v:=.bool true) rfl (by kernel_rfl) (fun _ _=>by go_simp<;>rfl) ?_;refine Qac (v:=.bool true) rfl (by kernel_rfl) (fun _ _=>by go_simp<;>rfl) ?_;refine Qbc (Qa R) (S _ _ ?_);clear S PP;simp[Act.put,Array.setIfInBounds];obtain⟨j,m,o,r,s,u,x⟩:=cl6 (Qa R);obtain⟨C,B⟩:=JE ((E.setCell (Ja rb 1) (Ji ((a:Int)+1))).drew);have P:Rr rb g cap l C (a+1) d i 0 0:=by
   have:=(Qa HR).setA (a':=a+1) (Qa HM);rw[B];exact this
  have c:Kp rb w C:=by rw[B];exact(Qa a9).trans (Kp.set _ _ _ _)
  have O:∀q,q≠rb->C.heap[q]?=E.drew.heap[q]?:=fun q D=>by rw[B];show(E.setCell (Ja rb 1) (Ji ((a:Int)+1))).heap[q]?=E.heap[q]?;exact hpS D
  obtain⟨X,M,V,U⟩:=Qa HN;have Z:=(O _ X).trans V;have N:=(O _ M).trans U;have L1:=tk_ld Z;have S1:=Qmi (new:=#[Ji t.kind,str t.text,Ji t.num,Ji (t.at_:Int)]) N rfl rfl (by simp[Value.oneCell',str]);obtain⟨A,b⟩:=JE (C.setRow w.heap.size #[Ji t.kind,str t.text,Ji t.num,Ji (t.at_:Int)]);rw[<- b]at S1;have I:∀q,q≠w.heap.size->A.heap[q]?=C.heap[q]?:=fun q D=>by rw[b];exact setRow_other _ _ _ _ D
  have J:A.heap[w.heap.size]?=some (.cells #[Ji t.kind,str t.text,Ji t.num,Ji (t.at_:Int)] 73 (0,0)):=by rw[b];exact setRow_heap _ _ _ _ _ _ N
  have s5:A.heap.size=C.heap.size:=by rw[b,size_setRow]
  have G:Kp rb w A:=⟨by rw[b];exact c.os,by rw[b];exact c.tape,by rw[b];exact c.output,by rw[s5];exact c.size,fun q D Q=>(I q (by omega)).trans (c.block q D Q)⟩;have F:=P.move (w':=A) (by omega) (I rb M.symm) (I g (Qa a8));have HF:=hide (Ya F (Ya G J));clear Z N O I b s5 G F P c X M V U J;subst B;go_wp2_with fail;obtain⟨F,G,J⟩:=Qa HF;obtain⟨a2,a3,a4,a5,zf⟩:=cl4 J;refine bodyPost_ret (v:=tkA t) (by simp[results,Tryz.results61,go_sem,a2,a3,a4,a5]) rfl ?_;exact⟨_,_,_,_,_,rfl,rfl,⟨rfl,rfl,.inl ⟨rfl,Qa HM,rfl⟩⟩,F,G⟩
 have HM:=hide (show ¬a+1<l.length by omega);have ah:=Qgj n (by omega) (by omega);have ab:¬((a:Int)<(n:Int) - 1):=by omega
 clear Q;go_wp2_with fail;refine Qaz (md:=mLRpc0) (fun w'=>w'.heap[rb]?=some (.cells #[.slice (Js g) n cap,Ji (a:Int),Ji (d:Int),Ji (i:Int),Ji 0,Ji 0] 75 (0,0))) mixedO (by kernel_rfl) rfl (by kernel_rfl) (fun PP S=>?_);refine Qac rfl (by kernel_rfl) (fun _ _=>by go_simp<;>rfl) ?_;refine Qak rfl (Qa R) (fun K Y=>?_);go_simp;refine W.mono ?_;clear W;rintro en _⟨rfl,rfl⟩;show K _ _;refine Y _ _ ?_;clear Y K;refine Qac rfl (by kernel_rfl) (fun _ _=>by go_simp<;>rfl) ?_;refine Qac rfl (by kernel_rfl) (fun w' hw=>by obtain⟨j,m,o,r,s,u,x⟩:=cl6 hw;go_simp<;>rfl) ?_;refine Qac rfl (by kernel_rfl) (fun w' hw=>by obtain⟨j,m,o,r,s,u,x⟩:=cl6 hw;go_simp<;>rfl) ?_;refine Qac rfl (by kernel_rfl) (fun w' hw=>by obtain⟨j,m,o,r,s,u,x⟩:=cl6 hw;go_simp<;>rfl) ?_;refine Qac rfl (by kernel_rfl) (fun w' hw=>by obtain⟨j,m,o,r,s,u,x⟩:=cl6 hw;go_simp<;>rfl) ?_;refine Qac rfl (by kernel_rfl) (fun w' hw=>by obtain⟨j,m,o,r,s,u,x⟩:=cl6 hw;go_simp<;>rfl) ?_;refine Qac rfl (by kernel_rfl) (fun w' hw=>by obtain⟨j,m,o,r,s,u,x⟩:=cl6 hw;go_simp<;>rfl) ?_;refine Qac rfl (by kernel_rfl) (fun w' hw=>by obtain⟨j,m,o,r,s,u,x⟩:=cl6 hw;go_simp<;>rfl) ?_;refine Qac rfl (by kernel_rfl) (fun w' hw=>by obtain⟨j,m,o,r,s,u,x⟩:=cl6 hw;go_simp<;>rfl) ?_;refine Qac rfl (by kernel_rfl) (fun w' hw=>by obtain⟨j,m,o,r,s,u,x⟩:=cl6 hw;go_simp<;>rfl) ?_;refine Qac rfl (by kernel_rfl) (fun w' hw=>by obtain⟨j,m,o,r,s,u,x⟩:=cl6 hw;go_simp<;>rfl) ?_;refine Qac (v:=.bool false) rfl (by kernel_rfl) (fun _ _=>by go_simp<;>rfl) ?_;refine Qac (v:=.bool false) rfl (by kernel_rfl) (fun _ _=>by go_simp<;>rfl) ?_;refine Qbc (Qa R) (S _ _ ?_);clear S PP;simp[Act.put,Array.setIfInBounds];obtain⟨C,B⟩:=JE E.drew;have P:=Qa HR;rw[<- B]at P;have c:=Qa a9;rw[<- B]at c;have O:∀q,q≠rb->C.heap[q]?=E.drew.heap[q]?:=fun q D=>by rw[B]
 rw[<- B];clear B;obtain⟨X,M,V,U⟩:=Qa HN;have Z:=(O _ X).trans V;have N:=(O _ M).trans U;have L1:=tk_ld Z;have S1:=Qmi (new:=#[Ji t.kind,str t.text,Ji t.num,Ji (t.at_:Int)]) N rfl rfl (by simp[Value.oneCell',str]);obtain⟨A,b⟩:=JE (C.setRow w.heap.size #[Ji t.kind,str t.text,Ji t.num,Ji (t.at_:Int)]);rw[<- b]at S1;have I:∀q,q≠w.heap.size->A.heap[q]?=C.heap[q]?:=fun q D=>by rw[b];exact setRow_other _ _ _ _ D
 have J:A.heap[w.heap.size]?=some (.cells #[Ji t.kind,str t.text,Ji t.num,Ji (t.at_:Int)] 73 (0,0)):=by rw[b];exact setRow_heap _ _ _ _ _ _ N
 have s5:A.heap.size=C.heap.size:=by rw[b,size_setRow]
 have G:Kp rb w A:=⟨by rw[b];exact c.os,by rw[b];exact c.tape,by rw[b];exact c.output,by rw[s5];exact c.size,fun q D Q=>(I q (by omega)).trans (c.block q D Q)⟩;have F:=P.move (w':=A) (by omega) (I rb M.symm) (I g (Qa a8));have HF:=hide (Ya F (Ya G J));clear Z N O I b s5 G F P c X M V U J;go_wp2_with fail;obtain⟨F,G,J⟩:=Qa HF;obtain⟨a2,a3,a4,a5,zf⟩:=cl4 J;refine bodyPost_ret (v:=tkA t) (by simp[results,Tryz.results61,go_sem,a2,a3,a4,a5]) rfl ?_;exact⟨_,_,_,_,_,rfl,rfl,⟨rfl,rfl,.inr ⟨rfl,fun _=>Qa HM⟩⟩,F,G⟩
end
section
open Go.RowKit Go.Maps
theorem Rr.more{rb g cap a d i:Nat}{l:List Tok}{w:World}{y f:Int}(h:Rr rb g cap l w a d i y f){t:Tok}(ht:l[a]?=some t)(hk:t.kind≠0):a+1<l.length:=by
 have:=h.lt;by_cases e:a+1<l.length
 ·exact e
 have b:l.length - 1=a:=by omega
 exact absurd (h.last t (by rw[b];exact ht)) hk
theorem Qch{rb g cap a d i:Nat}{l:List Tok}{w:World}{y f:Int}(h:Rr rb g cap l w a d i y f)(s:ByteArray):
  Calls Tryz.prog 56 #[.pointer (Js rb),.string s] w fun en w'=>∃b,en = .returned (.bool b)/\(b=true->y=0/\a+1<l.length)/\Below w.heap.size w w':=by
 have j:=Qax h;obtain⟨t,A⟩:=h.tok;have B:∀w',Below w.heap.size w w'->Calls Tryz.prog 22 #[.pointer (Js rb)] w' fun en u=>en = .returned (.agg #[Ji t.kind,str t.text,Ji t.num,Ji (t.at_:Int)])/\Below w'.heap.size w' u:=fun w' J=>Qap (h.later J) A;obtain⟨C,z⟩:∃C:Ending->World->Prop,C=fun en w'=>∃b,en = .returned (.bool b)/\(b=true->y=0/\a+1<l.length)/\Below w.heap.size w w':=⟨_,rfl⟩;rw[<- z];have x:=hide z;have G:=hide (fun o:t.kind≠0=>h.more A o);have v:=hide B;clear z h A B;by_cases q:y=0
 rotate_left
 ·
  rw[decide_eq_false q]at j;clear q;go_enter Tryz.func56,Tryz.ntmps56;go_wp2_with fail;refine j.mono ?_;clear j;rintro en _⟨rfl,rfl⟩;go_wp2_with fail;rw[Qa x];exact⟨_,rfl,fun e=>(by cases e),Below.refl _ _⟩
 rw[decide_eq_true q]at j;have H:=hide q;clear q;by_cases o:t.kind=4
 ·
  have I:(t.kind==4)=true:=beq_iff_eq.2 o;have E:=hide (Qa G (by omega));have c:=Qa v w (Below.refl _ _);clear o;go_enter Tryz.func56,Tryz.ntmps56;go_wp2_with fail;refine j.mono ?_;clear j;rintro en _⟨rfl,rfl⟩;go_wp2_with fail;refine c.mono ?_;clear c;rintro en u⟨rfl,n⟩;have c:=Qa v u n;have r:=hide n;clear n;go_wp2_with fail;rename_i m;refine m _ _ ?_;clear m;go_wp2_with fail;refine c.mono ?_;clear c;rintro en K⟨rfl,D⟩;have F:=hide ((Qa r).trans (D.mono (Qa r).size));clear D;go_wp2_with fail;rename_i m;refine m _ _ ?_;clear m;go_wp2_with fail;rw[Qa x];exact⟨_,rfl,fun _=>⟨Qa H,Qa E⟩,Qa F⟩
 have I:(t.kind==4)=false:=beq_eq_false_iff_ne.2 o;have c:=Qa v w (Below.refl _ _);clear o;go_enter Tryz.func56,Tryz.ntmps56;go_wp2_with fail;refine j.mono ?_;clear j;rintro en _⟨rfl,rfl⟩;go_wp2_with fail;refine c.mono ?_;clear c;rintro en u⟨rfl,n⟩;have r:=hide n;clear n;go_wp2_with fail;rename_i m;refine m _ _ ?_;clear m;go_wp2_with fail;rw[Qa x];exact⟨_,rfl,fun e=>(by cases e),Qa r⟩
def MyA(rb g cap:Nat)(l:List Tok)(w:World)(a d i:Nat)(y:Int)(en:Ending)(w':World):Prop:=
 ∃b a' f',en = .returned (.bool b)/\(b=true->y=0/\a'=a+1)/\(b=false->a'=a)/\Rr rb g cap l w' a' d i y f'/\Kp rb w w'
def CoY(a i:Nat)(y:Int)(a' i':Nat)(y':Int):Prop:=i'=i/\a<=a'/\(y'=0->y=0/\a<a')
def txV(_:World)(v:Value):Prop:=∃x:Txt,v=str x/\x.length<=65536
theorem Qbh{rb g cap a d i:Nat}{l:List Tok}{w:World}{y f:Int}(h:Rr rb g cap l w a d i y f)(s:ByteArray):
  Calls Tryz.prog 57 #[.pointer (Js rb),.string s] w fun en w'=>MyA rb g cap l w a d i y en w':=by
 have u:=Qch h s;obtain⟨t,x⟩:=h.tok;have H:=hide (Ya h x);clear h x;go_enter Tryz.func57,Tryz.ntmps57;go_wp2_with fail;refine u.mono ?_;clear u;rintro en F⟨b,rfl,n,c⟩;have q:=Qba ((Qa H).1.later c) (Qa H).2;have r:=hide (Ya n c);clear n c;cases b
 ·
  clear q;go_wp2_with fail;go_ret;exact⟨false,_,_,rfl,fun e=>(by cases e),fun _=>rfl,(Qa H).1.later (Qa r).2,Kp.of_below (Qa r).2⟩
 go_wp2_with fail;refine q.mono ?_;clear q;rintro en G⟨_,C,E,I,D,rfl,rfl,m,j,o⟩;have z:=hide (Ya m (Ya j o));clear m j o;go_wp2_with fail;go_ret;obtain⟨n,c⟩:=Qa r;obtain⟨⟨rfl,rfl,m⟩,j,o⟩:=Qa z;obtain⟨v,A⟩:=n (by trivial);rcases m with ⟨_,_,rfl⟩|⟨_,B⟩
 ·exact⟨true,_,_,rfl,fun _=>⟨v,rfl⟩,fun e=>(by cases e),j,(Kp.of_below c).trans o⟩
 ·exact absurd A (B v)
theorem Qbm{rb g cap a d i:Nat}{l:List Tok}{w:World}{y f:Int}(h:Rr rb g cap l w a d i y f)(s:ByteArray):
  Calls Tryz.prog 64 #[.pointer (Js rb),.string s] w fun en w'=>RA rb g cap l w d noV (CoY a i y) en w':=by
 have u:=Qbh h s;clear h;go_enter Tryz.func64,Tryz.ntmps64;go_wp2_with fail;refine u.mono ?_;clear u;rintro en F⟨b,A,C,rfl,n,m,j,c⟩;have t:=Qbf j (why:=10) (by decide);have v:=hide (Ya n (Ya m (Ya j c)));clear n m j c;cases b
 ·
  go_wp2_with fail;refine t.mono ?_;clear t;rintro en G⟨_,B,E,H,D,rfl,rfl,q,o,r⟩;have x:=hide (Ya q (Ya o r));clear q o r;go_wp2_with fail
  go_end0
  obtain⟨_,m,_,c⟩:=Qa v;obtain rfl:=m (by trivial);obtain⟨⟨rfl,rfl,q⟩,o,r⟩:=Qa x;exact⟨_,_,_,_,_,rfl,rfl,⟨rfl,Nat.le_refl _,fun e=>absurd e q⟩,o,c.trans r⟩
 clear t;go_wp2_with fail
 go_end0
 obtain⟨n,_,j,c⟩:=Qa v;obtain⟨z,rfl⟩:=n (by trivial);exact⟨_,_,_,_,_,rfl,rfl,⟨rfl,by omega,fun _=>⟨z,by omega⟩⟩,j,c⟩
theorem Qdh{rb g cap a d i:Nat}{l:List Tok}{w:World}{y f:Int}(h:Rr rb g cap l w a d i y f):
  Calls Tryz.prog 65 #[.pointer (Js rb)] w fun en w'=>RA rb g cap l w d txV (CoY a i y) en w':=by
 obtain⟨t,A⟩:=h.tok;have x:=Qap h A;unfold tkA at x;have H:=hide (Ya h A);clear h A;go_enter Tryz.func65,Tryz.ntmps65;go_wp2_with fail;refine x.mono ?_;clear x;rintro en P⟨rfl,z⟩;have q:=(Qa H).1.later z;have v:=Qbf q (why:=10) (by decide);have c:=Qba q (Qa H).2;unfold tkA at c;have B:=hide (Ya q z);clear q z;go_wp2_with fail;rename_i j;refine j _ _ ?_;clear j;by_cases s:t.kind=1
 ·
  have G:(t.kind != 1)=false:=by simpa using s
  have D:=hide ((Qa H).1.more (Qa H).2 (by omega));clear s v;go_wp2_with fail;refine c.mono ?_;clear c;rintro en K⟨_,E,J,L,F,rfl,rfl,b,m,n⟩;have o:=hide (Ya b (Ya m n));clear b m n;go_wp2_with fail;rename_i j;refine j _ _ ?_;clear j;go_wp2_with fail;go_ret;obtain⟨⟨rfl,rfl,b⟩,m,n⟩:=Qa o;refine⟨_,_,_,_,_,rfl,⟨_,rfl,(Qa H).1.tx t (List.mem_of_getElem? (Qa H).2)⟩,⟨rfl,?_,?_⟩,m,(Kp.of_below (Qa B).2).trans n⟩
  ·rcases b with ⟨_,_,rfl⟩|⟨rfl,_⟩<;>omega
  intro e;rcases b with ⟨_,_,rfl⟩|⟨_,I⟩
  ·exact⟨e,by omega⟩
  ·exact absurd (Qa D) (I e)
 have G:(t.kind != 1)=true:=by simpa using s
 clear s c;go_wp2_with fail;refine v.mono ?_;clear v;rintro en K⟨_,M,O,R,N,rfl,rfl,⟨rfl,rfl,b⟩,m,n⟩;have c:=Qba m (Qa H).2;unfold tkA at c;have o:=hide (Ya b n);clear b m n;go_wp2_with fail;refine c.mono ?_;clear c;rintro en Q⟨_,E,J,L,F,rfl,rfl,b,r,u⟩;have C:=hide (Ya b (Ya r u));clear b r u;go_wp2_with fail;rename_i j;refine j _ _ ?_;clear j;go_wp2_with fail;go_ret;obtain⟨⟨rfl,rfl,b⟩,r,u⟩:=Qa C;refine⟨_,_,_,_,_,rfl,⟨_,rfl,(Qa H).1.tx t (List.mem_of_getElem? (Qa H).2)⟩,⟨rfl,?_,fun e=>absurd e (Qa o).1⟩,r,((Kp.of_below (Qa B).2).trans (Qa o).2).trans u⟩;rcases b with ⟨_,_,rfl⟩|⟨rfl,_⟩<;>omega
theorem Qca{rb g cap a d i:Nat}{l:List Tok}{w:World}{y f:Int}(h:Rr rb g cap l w a d i y f):
  Calls Tryz.prog 63 #[.pointer (Js rb)] w fun en w'=>RA rb g cap l w d txV (CoY a i y) en w':=by
 obtain⟨t,E⟩:=h.tok;have P:∀w',Below w.heap.size w w'->Calls Tryz.prog 22 #[.pointer (Js rb)] w' fun en B=>en = .returned (.agg #[Ji t.kind,str t.text,Ji t.num,Ji (t.at_:Int)])/\Below w'.heap.size w' B:=fun w' hb=>Qap (h.later hb) E;have Q:(⟨t.text.toArray⟩:ByteArray).size<=140737488355328:=by
  have:=h.tx t (List.mem_of_getElem? E);have e:(⟨t.text.toArray⟩:ByteArray).size=t.text.length:=by simp[ByteArray.size]
  omega
 have R:∀w',Calls Tryz.prog 92 #[str t.text] w' fun e B=>e = .returned (.bool (wordP t.text))/\B=w':=fun w'=>by
  have:=Qjm ⟨t.text.toArray⟩ Q w'
  simpa[str] using this
 have G:=hide P;have a0:=hide R;have H:=hide (Ya h E);have o:=Qa G w (Below.refl _ _);clear h E P R Q;go_enter Tryz.func63,Tryz.ntmps63;go_wp2_with fail;refine o.mono ?_;clear o;rintro en B⟨rfl,U⟩;have z:=hide (U);clear U;go_wp2_with fail;rename_i c;refine c _ _ ?_;clear c;by_cases D:t.kind=1
 rotate_left
 ·
  have gk:(t.kind != 1)=true:=by simpa using D
  clear D;have s:=(Qa H).1.later (Qa z);have q:=Qbf s (why:=10) (by decide);clear s;go_wp2_with fail;refine q.mono ?_;clear q;rintro en Z⟨_,S,Y,y3,X,rfl,rfl,⟨rfl,rfl,b⟩,u,v⟩;have n:=Qba u (Qa H).2;unfold tkA at n;have r:=hide (Ya b v);clear b u v;go_wp2_with fail;refine n.mono ?_;clear n;rintro en M⟨_,J,L,N,K,rfl,rfl,b,j,m⟩;have x:=hide (Ya b (Ya j m));clear b j m;go_wp2_with fail;rename_i c;refine c _ _ ?_;clear c;go_wp2_with fail;go_ret;obtain⟨⟨rfl,rfl,b⟩,j,m⟩:=Qa x;refine⟨_,_,_,_,_,rfl,⟨_,rfl,(Qa H).1.tx t (List.mem_of_getElem? (Qa H).2)⟩,⟨rfl,?_,fun e=>absurd e (Qa r).1⟩,j,((Kp.of_below (Qa z)).trans (Qa r).2).trans m⟩;rcases b with ⟨_,_,rfl⟩|⟨rfl,_⟩<;>omega
 have gk:(t.kind != 1)=false:=by simpa using D
 have HM:=hide ((Qa H).1.more (Qa H).2 (by omega));have o:=Qa G B (Qa z);clear D;go_wp2_with fail;refine o.mono ?_;clear o;rintro en w3⟨rfl,V⟩;have A:=hide ((Qa z).trans (V.mono (Qa z).size));clear V;have I:=Qa a0 w3;obtain⟨bw,O⟩:=JE (wordP t.text);rw[<- O]at I;clear O;go_wp2_with fail;rename_i c;refine c _ _ ?_;clear c;go_wp2_with fail;refine I.mono ?_;clear I;rintro en a1⟨rfl,rfl⟩;cases bw
 ·
  have s:=(Qa H).1.later (Qa A);have q:=Qbf s (why:=10) (by decide);clear s;go_wp2_with fail;refine q.mono ?_;clear q;rintro en Z⟨_,S,Y,y3,X,rfl,rfl,⟨rfl,rfl,b⟩,u,v⟩;have n:=Qba u (Qa H).2;unfold tkA at n;have r:=hide (Ya b v);clear b u v;go_wp2_with fail;refine n.mono ?_;clear n;rintro en M⟨_,J,L,N,K,rfl,rfl,b,j,m⟩;have x:=hide (Ya b (Ya j m));clear b j m;go_wp2_with fail;rename_i c;refine c _ _ ?_;clear c;go_wp2_with fail;go_ret;obtain⟨⟨rfl,rfl,b⟩,j,m⟩:=Qa x;refine⟨_,_,_,_,_,rfl,⟨_,rfl,(Qa H).1.tx t (List.mem_of_getElem? (Qa H).2)⟩,⟨rfl,?_,fun e=>absurd e (Qa r).1⟩,j,((Kp.of_below (Qa A)).trans (Qa r).2).trans m⟩;rcases b with ⟨_,_,rfl⟩|⟨rfl,_⟩<;>omega
 have o:=Qa G a1 (Qa A);go_wp2_with fail;refine o.mono ?_;clear o;rintro en w4⟨rfl,W⟩;have C:=hide ((Qa A).trans (W.mono (Qa A).size));clear W;go_wp2_with fail;rename_i c;refine c _ _ ?_;clear c;by_cases F:t.text=[95]
 ·
  have gu:(t.text==[95])=true:=by simpa using F
  clear F;have s:=(Qa H).1.later (Qa C);have q:=Qbf s (why:=10) (by decide);clear s;go_wp2_with fail;refine q.mono ?_;clear q;rintro en Z⟨_,S,Y,y3,X,rfl,rfl,⟨rfl,rfl,b⟩,u,v⟩;have n:=Qba u (Qa H).2;unfold tkA at n;have r:=hide (Ya b v);clear b u v;go_wp2_with fail;refine n.mono ?_;clear n;rintro en M⟨_,J,L,N,K,rfl,rfl,b,j,m⟩;have x:=hide (Ya b (Ya j m));clear b j m;go_wp2_with fail;rename_i c;refine c _ _ ?_;clear c;go_wp2_with fail;go_ret;obtain⟨⟨rfl,rfl,b⟩,j,m⟩:=Qa x;refine⟨_,_,_,_,_,rfl,⟨_,rfl,(Qa H).1.tx t (List.mem_of_getElem? (Qa H).2)⟩,⟨rfl,?_,fun e=>absurd e (Qa r).1⟩,j,((Kp.of_below (Qa C)).trans (Qa r).2).trans m⟩;rcases b with ⟨_,_,rfl⟩|⟨rfl,_⟩<;>omega
 have gu:(t.text==[95])=false:=by simpa using F
 clear F;have n:=Qba ((Qa H).1.later (Qa C)) (Qa H).2;unfold tkA at n;go_wp2_with fail;refine n.mono ?_;clear n;rintro en M⟨_,J,L,N,K,rfl,rfl,b,j,m⟩;have x:=hide (Ya b (Ya j m));clear b j m;go_wp2_with fail;rename_i c;refine c _ _ ?_;clear c;go_wp2_with fail;go_ret;obtain⟨⟨rfl,rfl,b⟩,j,m⟩:=Qa x;refine⟨_,_,_,_,_,rfl,⟨_,rfl,(Qa H).1.tx t (List.mem_of_getElem? (Qa H).2)⟩,⟨rfl,?_,?_⟩,j,(Kp.of_below (Qa C)).trans m⟩
 ·rcases b with ⟨_,_,rfl⟩|⟨rfl,_⟩<;>omega
 intro e;rcases b with ⟨_,_,rfl⟩|⟨_,hn⟩
 ·exact⟨e,by omega⟩
 ·exact absurd (Qa HM) (hn e)
def Qown{α : Type}(p:PS α)(k:Nat)(T:TypeId)(w wr:World)(sl:Value)(acc:List α):Prop:=∃css,wr.ownsRow w.heap.size T k sl acc.length css.flatten/\All p k (fun b=>w.heap.size<=b/\some b≠sl.ownBlock) wr css acc
section
variable {α : Type}{p:PS α}{k:Nat}{T:TypeId}
theorem Qown.nil(w wr:World):Qown p k T w wr (Jn) []:=⟨[],World.ownsRow_nil _ _ _ _,⟨rfl,fun j x b a=>by simp at a⟩⟩
theorem Qown.kp(hp:PSok p){rb:Nat}{w wr w':World}{sl:Value}{acc:List α}(h:Qown p k T w wr sl acc)(k2:Kp rb wr w')(hr:rb<w.heap.size):Qown p k T w w' sl acc:=by
 obtain⟨c,a,m⟩:=h;refine⟨c,⟨a.1,?_⟩,m.same hp k2.size (fun b o n=>k2.block b n (by omega))⟩;rcases a.2 with e|⟨g,cap,d,f,i,j,l⟩
 ·exact .inl e
 ·exact .inr ⟨g,cap,d,f,i,k2.keep j (by omega),l⟩
theorem Qown.sl{w wr:World}{sl:Value}{acc:List α}(h:Qown p k T w wr sl acc):∃a c,sl = .slice a acc.length c/\acc.length<=c/\c<=maxLen:=by
 obtain⟨j,i,_⟩:=h;rcases i.2 with ⟨e,b⟩|⟨g,cap,l,e,_,_,d,f,_⟩
 ·exact⟨none,0,by rw[e,b],by omega,by unfold maxLen;omega⟩
 ·exact⟨_,_,e,d,f⟩
theorem Qown.ls(hp:PSok p){w wr:World}{sl:Value}{acc:List α}(h:Qown p k T w wr sl acc):LsAt p k (fun b=>w.heap.size<=b) wr sl acc:=by
 obtain⟨e,c,a⟩:=h;exact LsAt.of c (a.mono hp (fun b _ d=>d.1))
theorem Qown.more(hp:PSok p){ST:TypeId}{i0:TypeInfo}{z:Value}{by_:Nat}(ht:Tryz.prog.underlying ST=some (.slice T))(hi:Tryz.prog.info? T=some i0)(hz:i0.zero=some z)(hsz:i0.size=k)(hby:i0.bytes=by_)(hzc:z.cells.size=k)(hk:0<k)(hb6:by_<=1000)
  {rb g cap a d i:Nat}{l:List Tok}{y f:Int}{w wr w2:World}{sl:Value}{acc:List α}(h:Qown p k T w wr sl acc)(kp:Kp rb w wr){x:α}{cs:List Value}
  (hl:cs.length=k)(h1:∀c∈cs,c.oneCell'=true)(hx:p (fun b=>wr.heap.size<=b) w2 cs x)(hR:Rr rb g cap l w2 a d i y f)(k2:Kp rb wr w2)(hrb:rb<w.heap.size)(hg:g<w.heap.size)(hf:acc.length<=65536):
  ∃r w8,(Builtin.append_ #[ST,ST] ST #[sl,.slice (Js w2.heap.size) 1 1]).run Tryz.prog (w2.alloc (.cells cs.toArray T)) = .ok r w8/\Kp rb w w8/\Rr rb g cap l w8 a d i y f/\Qown p k T w w8 r (acc++[x]):=by
 obtain⟨s,F,S⟩:=h;have W:=kp.size;have K:=k2.size;have q:∀b,some b=sl.ownBlock->w.heap.size<=b/\b<wr.heap.size:=fun b e=>World.ownsRow.lt F b e.symm;have J:(w2.alloc (.cells cs.toArray T)).ownsRow w.heap.size T k sl acc.length s.flatten:=by
  refine World.ownsRow.alloc ?_ _;refine⟨F.1,?_⟩;rcases F.2 with e|⟨g,cap,I,C,t,Q,R⟩
  ·exact .inl e
  ·exact .inr ⟨g,cap,I,C,t,k2.keep Q (by omega),R⟩
 obtain⟨r,w8,U,V,v,_,O⟩:=run_append_own_at (P:=Tryz.prog) (w2.alloc (.cells cs.toArray T)) w.heap.size ST ST T i0 z k by_ ht hi hz hsz hby hzc hk sl acc.length s.flatten J (Ja w2.heap.size 0) 1 1 cs (by rw[hl,Nat.one_mul]) (fun j u E=>by
  have C:((Ja w2.heap.size 0):Addr).add j=(Ja w2.heap.size j):=by cases j<;>simp[Addr.add]
  rw[C,Qad (heap_alloc_new w2 _)]
  simpa using E) h1 (by unfold maxLen;omega) (by
  have A:acc.length+1<=65537:=by omega
  have:=Nat.mul_le_mul A hb6
  omega) (by simp;omega)
 have Y:(w2.alloc (.cells cs.toArray T)).heap.size=w2.heap.size+1:=by simp
 have X:=v.size;have o:∀b,b<w2.heap.size->some b≠sl.ownBlock->w8.heap[b]?=w2.heap[b]?:=fun b n B=>by
  rw[v.block b (by omega) B,Below.heap_alloc _ _ _ n]
 have M:Kp rb w w8:=by
  have n:=(Below.refl w2.heap.size w2).alloc (Nat.le_refl _) (.cells cs.toArray T);refine⟨v.os.trans (n.os.trans (k2.os.trans kp.os)),v.tape.trans (n.tape.trans (k2.tape.trans kp.tape)),v.output.trans (n.output.trans (k2.output.trans kp.output)),by omega,fun j E B=>?_⟩;rw[o j (by omega) (fun e=>by have:=(q j e).1;omega),k2.block j (by omega) B];exact kp.block j E B
 have N:Rr rb g cap l w8 a d i y f:=hR.move (by omega) (o rb (by omega) (fun e=>by have:=(q rb e).1;omega)) (o g (by omega) (fun e=>by have:=(q g e).1;omega));have G:∀b,some b=r.ownBlock->some b=sl.ownBlock∨w2.heap.size<b+1/\w2.heap.size+1<=b:=fun b e=>by
  rcases O with t|t
  ·exact .inl (e.trans t)
  rw[t]at e;simp only[Option.some.injEq]at e;exact .inr (by omega)
 refine⟨r,w8,U,M,N,s++[cs],by rw[List.length_append];simpa using V,?_⟩;have H:All p k (fun b=>w.heap.size<=b/\some b≠r.ownBlock) w8 s acc:=by
  have D:All p k (fun b=>(w.heap.size<=b/\some b≠sl.ownBlock)/\b<wr.heap.size) w2 s acc:=(S.mono hp (fun b n m=>⟨m,n⟩)).same hp K (fun b m n=>k2.block b n (by omega));have A:=D.same hp (w':=w8) (by omega) (fun b m n=>o b n m.1.2);refine A.mono hp (fun b _ m=>⟨m.1.1,fun e=>?_⟩);rcases G b e with e|e
  ·exact m.1.2 e
  have:=m.2;omega
 have L:p (fun b=>w.heap.size<=b/\some b≠r.ownBlock) w8 cs x:=by
  have D:=hp.mono _ (fun b=>wr.heap.size<=b/\b<w2.heap.size) _ _ _ hx (fun b n m=>⟨m,n⟩);have A:=hp.same _ _ w8 _ _ D (by omega) (fun b m n=>o b n (fun e=>by have:=(q b e).2;have:=m.1;omega));refine hp.mono _ _ _ _ _ A (fun b _ m=>⟨by have:=m.1;omega,fun e=>?_⟩);rcases G b e with e|e
  ·
   have:=(q b e).2;have:=m.1;omega
  have:=m.2;omega
 exact H.snoc hl L
end
def leftR(rb n:Nat)(w:World):Nat:=match w.cell? ⟨rb,4,none⟩ with
 |some (.int _ y)=>if y=0 then (match w.cell? ⟨rb,1,none⟩ with|some (.int _ a)=>n - a.toNat|_=>0)+1 else 0
 |_=>0
theorem Qam{rb g cap a d i:Nat}{l:List Tok}{w:World}{y f:Int}(h:Rr rb g cap l w a d i y f)(n:Nat):leftR rb n w=if y=0 then n - a+1 else 0:=by
 obtain⟨_,b,_,_,c,_,_⟩:=cl6 h.box;unfold leftR;rw[c,b];simp
end
end Go.Proofs.YtkhndlnadhggkaaGreat
