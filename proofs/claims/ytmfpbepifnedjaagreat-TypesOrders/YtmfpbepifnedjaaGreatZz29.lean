/- The document's Parse. -/
import Derived.Test.YtmfpbepifnedjaaGreatZz01
import Derived.Test.YtmfpbepifnedjaaGreatZz28
import Derived.Test.YtmfpbepifnedjaaGreatZz07
set_option maxRecDepth 100000
set_option maxHeartbeats 32000000
namespace Go.Proofs.YtmfpbepifnedjaaGreat
section
open Go.RowKit Go.Maps
theorem Qfc:∀(m:Nat) (t:Txt),t.length<=m -> ∀v n,txScan t = .ok v n->v.length<=t.length
 | 0,t,hl,v,n,h=>by
  have:t=[]:=List.eq_nil_of_length_eq_zero (by omega)
  subst this
  simp[txScan]at h
 |m+1,[],_,v,n,h=>by simp[txScan]at h
 |m+1,[c],_,v,n,h=>by
  unfold txScan at h
  split at h
  ·cases h;simp
  split at h
  ·cases h
  ·split at h<;>cases h
 |m+1,c :: d :: t,hl,v,n,h=>by
  simp only[List.length_cons]at hl
  unfold txScan at h
  split at h
  ·cases h;simp
  split at h
  ·cases h
  split at h
  ·
   cases e:esc d with
   |none=>rw[e]at h;cases h
   |some b=>
    rw[e]at h
    cases a:txScan t with
    |ok v' n'=>
     rw[a]at h
     cases h
     have:=Qfc m t (by omega) v' n' a
     simp only[List.length_cons];omega
    |bad o=>rw[a]at h;cases h
    |never=>rw[a]at h;cases h
  cases a:txScan (d :: t) with
  |ok v' n'=>
   rw[a]at h
   cases h
   have:=Qfc m (d :: t) (by simp only[List.length_cons];omega) v' n' a
   simp only[List.length_cons]at this ⊢;omega
  |bad o=>rw[a]at h;cases h
  |never=>rw[a]at h;cases h
theorem tok_len{r:Txt}{kd:Int}{tx:Txt}{nm:Int}{n:Nat}(h:tokAt r = .tok kd tx nm n):tx.length<=r.length:=by
 cases r with
 |nil=>simp[tokAt]at h
 |cons c t=>
  rw[Qdx]at h
  split at h
  ·
   unfold nmRes at h
   split at h
   ·cases h
   ·cases h;rw[List.length_take];omega
  split at h
  ·
   unfold dgRes at h
   split at h
   ·cases h
   split at h
   ·cases h
   ·cases h;simp
  split at h
  ·
   unfold txRes at h
   cases a:txScan t with
   |ok v m=>
    rw[a]at h
    cases h
    have:=Qfc _ t (Nat.le_refl _) _ _ a
    simp only[List.length_cons];omega
   |bad o=>rw[a]at h;cases h
   |never=>rw[a]at h;cases h
  unfold sgRes at h
  split at h
  ·cases h
  ·cases h;rw[List.length_take];omega
theorem Qtd:∀(m:Nat) (r:Txt) (k:Nat),r.length<=m -> ∀l,scan k r = .ok l -> ∀t∈l,t.text.length<=r.length:=by
 intro m
 induction m with
 |zero=>
  intro r k h l b
  have:r=[]:=List.eq_nil_of_length_eq_zero (by omega)
  subst this
  rw[Qcl]at b
  cases b
  exact fun t c=>by cases c
 |succ m ih=>
  intro r k h l b
  by_cases g:r=[]
  ·subst g;rw[Qcl]at b;cases b;exact fun t c=>by cases c
  cases e:gapAt r with
  |never=>rw[Qcz e]at b;cases b
  |gap n=>
   have j:=Qdh e
   rw[Qdv e]at b
   have d:=ih (r.drop n) (k+n) (by rw[List.length_drop];omega) l b
   rw[List.length_drop]at d
   exact fun t c=>by have:=d t c;omega
  |none=>
   cases c:tokAt r with
   |bad w o=>rw[Qct g e c]at b;cases b
   |tok kd tx nm n=>
    have j:=Qcx c
    rw[Qeq e c]at b
    cases f:scan (k+n) (r.drop n) with
    |bad w a=>rw[f]at b;cases b
    |ok l1=>
     rw[f]at b
     cases b
     have d:=ih (r.drop n) (k+n) (by rw[List.length_drop];omega) l1 f
     rw[List.length_drop]at d
     refine fun t i=>?_
     rcases List.mem_cons.1 i with rfl|p
     ·exact tok_len c
     ·have:=d t p;omega
theorem Qpk{s:Txt}{l:List Tok}(h:lexP s = .ok l):∀t∈l,t.text.length<=s.length:=by
 unfold lexP at h
 split at h
 ·cases h
 ·exact Qtd s.length s 0 (Nat.le_refl _) l h
theorem tok_ne{r:Txt}{kd:Int}{tx:Txt}{nm:Int}{n:Nat}(h:tokAt r = .tok kd tx nm n)(hk:kd=1):tx≠[]:=by
 have b:=Qcx h
 cases r with
 |nil=>simp[tokAt]at h
 |cons c t=>
  rw[Qdx]at h
  split at h
  ·
   unfold nmRes at h
   split at h
   ·cases h
   cases h
   intro e
   have:=congrArg List.length e
   rw[List.length_take]at this
   simp only[List.length_nil]at this
   omega
  split at h
  ·
   unfold dgRes at h
   split at h
   ·cases h
   split at h
   ·cases h
   ·cases h;exact absurd hk (by decide)
  split at h
  ·
   unfold txRes at h
   cases a:txScan t with
   |ok v m=>rw[a]at h;cases h;exact absurd hk (by decide)
   |bad o=>rw[a]at h;cases h
   |never=>rw[a]at h;cases h
  unfold sgRes at h
  split at h
  ·cases h
  ·cases h;exact absurd hk (by decide)
theorem scan_ne:∀(m:Nat) (r:Txt) (k:Nat),r.length<=m -> ∀l,scan k r = .ok l->NeT l:=by
 intro m
 induction m with
 |zero=>
  intro r k h l b
  have:r=[]:=List.eq_nil_of_length_eq_zero (by omega)
  subst this
  rw[Qcl]at b
  cases b
  exact fun t c=>by cases c
 |succ m ih=>
  intro r k h l b
  by_cases f:r=[]
  ·subst f;rw[Qcl]at b;cases b;exact fun t c=>by cases c
  cases d:gapAt r with
  |never=>rw[Qcz d]at b;cases b
  |gap n=>
   have p:=Qdh d
   rw[Qdv d]at b
   exact ih (r.drop n) (k+n) (by rw[List.length_drop];omega) l b
  |none=>
   cases c:tokAt r with
   |bad w o=>rw[Qct f d c]at b;cases b
   |tok kd tx nm n=>
    have p:=Qcx c
    rw[Qeq d c]at b
    cases e:scan (k+n) (r.drop n) with
    |bad w a=>rw[e]at b;cases b
    |ok l1=>
     rw[e]at b
     cases b
     have j:=ih (r.drop n) (k+n) (by rw[List.length_drop];omega) l1 e
     intro t i g
     rcases List.mem_cons.1 i with rfl|q
     ·exact tok_ne c g
     ·exact j t q g
theorem lex_ne{s:Txt}{l:List Tok}(h:lexP s = .ok l):NeT l:=by
 unfold lexP at h
 split at h
 ·cases h
 ·exact scan_ne s.length s 0 (Nat.le_refl _) l h
theorem Qle(S:Nat->Prop)(w:World):PgS S w [Jn,Jn,Jn,Jn,Jn] .none:=Qjr (LsAt.nil _ _) (LsAt.nil _ _) (LsAt.nil _ _) (LsAt.nil _ _) (LsAt.nil _ _)
theorem Qmo{w:World}{B:Nat}{v:Value}{toks:List Tok}(ho:w.ownsRow B 73 4 v toks.length (tokCells toks))(hl:toks.length<=65536)(e:Tok):
  ∃v1 w1 v2 w2,(Builtin.append_ #[69,69] 69 #[Jn,v]).run Tryz.prog w = .ok v1 w1/\Below w.heap.size w w1/\(Builtin.append_ #[69,69] 69 #[v1,.slice (Js w1.heap.size) 1 1]).run Tryz.prog (w1.alloc (.cells (tokVals e).toArray 73)) = .ok v2 w2/\Below w.heap.size w w2/\(∃a n c,v1 = .slice a n c) /\ ∃g cap,v2 = .slice (Js g) (toks++[e]).length cap/\RowAt w2 g cap (toks++[e])/\w.heap.size<=g:=by
 obtain⟨E,o,H,C,A⟩:=Qfz
 have s:Tryz.prog.underlying 69=some (.slice 73):=by kernel_rfl
 have D:∀l:List Tok,(tokCells l).length=l.length*4:=fun l=>by
  induction l with
  |nil=>rfl
  |cons t l ih=>simp only[tokCells,List.flatMap_cons,List.length_append,List.length_cons]at ih ⊢;rw[ih];simp[tokVals];omega
 have L:∀l:List Tok,∀c∈tokCells l,c.oneCell'=true:=fun l c i=>by
  obtain⟨t,_,J⟩:=List.mem_flatMap.1 i
  simp only[tokVals,List.mem_cons,List.not_mem_nil,or_false]at J
  rcases J with rfl|rfl|rfl|rfl<;>rfl
 have O:∃v1 w1,(Builtin.append_ #[69,69] 69 #[Jn,v]).run Tryz.prog w = .ok v1 w1/\Below w.heap.size w w1/\w1.ownsRow w.heap.size 73 4 v1 toks.length (tokCells toks):=by
  rcases id ho.2 with ⟨rfl,R⟩|⟨g,cap,X,rfl,hg,hh,Z,Y,V⟩
  ·
   have N:toks=[]:=List.eq_nil_of_length_eq_zero R
   subst N
   refine⟨Jn,w,?_,Below.refl _ _,World.ownsRow_nil _ _ _ _⟩
   simp[Builtin.append_,run_underlying s,sizeOf,typeInfo,o,Builtin.lenOf,Builtin.firstCells]
  obtain⟨r,M,y,I,h,_,_⟩:=run_append_own_at (P:=Tryz.prog) w w.heap.size 69 69 73 E _ 4 40 s o H C A rfl (by decide) (Jn) 0 [] (World.ownsRow_nil _ _ _ _) (Ja g 0) toks.length cap (tokCells toks) (D toks) (fun j u m=>by
   have z:((Ja g 0):Addr).add j=(Ja g j):=by cases j<;>simp[Addr.add]
   rw[z,World.ownsRow.cellAt ho j (by have:=(List.getElem?_eq_some_iff.1 m).1;rw[D]at this;exact this)]
   exact m) (L toks) (by unfold maxLen;omega) (by omega) (Nat.le_refl _)
  rw[Nat.zero_add,List.nil_append]at I
  exact⟨r,M,y,⟨h.os,h.tape,h.output,h.size,fun q p=>h.block q p (by simp[Value.ownBlock])⟩,I⟩
 obtain⟨v1,w1,T,d,x⟩:=O
 have K:∀b,some b=v1.ownBlock->w.heap.size<=b/\b<w1.heap.size:=fun b e=>World.ownsRow.lt x b e.symm
 have U:=d.size
 obtain⟨v2,w2,Q,F,f,_,_⟩:=run_append_own_at (P:=Tryz.prog) (w1.alloc (.cells (tokVals e).toArray 73)) w.heap.size 69 69 73 E _ 4 40 s o H C A rfl (by decide) v1 toks.length (tokCells toks) (World.ownsRow.alloc x _) (Ja w1.heap.size 0) 1 1 (tokVals e) rfl (fun j u m=>by
  have z:((Ja w1.heap.size 0):Addr).add j=(Ja w1.heap.size j):=by cases j<;>simp[Addr.add]
  rw[z,Qad (heap_alloc_new w1 _)]
  simpa using m) (fun c i=>by
  simp only[tokVals,List.mem_cons,List.not_mem_nil,or_false]at i
  rcases i with rfl|rfl|rfl|rfl<;>rfl) (by unfold maxLen;omega) (by omega) (by simp;omega)
 have S:Below w.heap.size w w2:=by
  have k:=(Below.refl w1.heap.size w1).alloc (Nat.le_refl _) (.cells (tokVals e).toArray 73)
  have W:(w1.alloc (.cells (tokVals e).toArray 73)).heap.size=w1.heap.size+1:=by simp
  refine⟨f.os.trans (k.os.trans d.os),f.tape.trans (k.tape.trans d.tape),f.output.trans (k.output.trans d.output),by have:=f.size;omega,fun q p=>?_⟩
  rw[f.block q (by omega) (fun e=>by have:=(K q e).1;omega),k.block q (by omega),d.block q p]
 rw[<- Qer]at F
 have G:w2.ownsRow w.heap.size 73 4 v2 (toks++[e]).length (tokCells (toks++[e])):=by rw[List.length_append];exact F
 refine⟨v1,w1,v2,w2,T,d,Q,S,?_,?_⟩
 ·
  rcases x.2 with ⟨e,_⟩|⟨_,_,_,e,_⟩
  ·exact⟨_,_,_,e⟩
  ·exact⟨_,_,_,e⟩
 rcases row_of G with ⟨_,e⟩|⟨g,cap,e,y⟩
 ·simp at e
 ·exact⟨g,cap,e,y,(World.ownsRow.lt G g (by rw[e];rfl)).1⟩
def RpA(w:World)(en:Ending)(w':World):Prop:=∃p0 m0 o0 p1 m1 o1 p2 m2 o2 p3 m3 o3 p4 m4 o4 why at_ p,en = .returned (.tuple #[.agg #[.slice p0 m0 o0,.slice p1 m1 o1,.slice p2 m2 o2,.slice p3 m3 o3,.slice p4 m4 o4],.agg #[.int .i64 why,.int .i64 at_]])/\Below w.heap.size w w'/\PgS (fun b=>w.heap.size<=b) w' [.slice p0 m0 o0,.slice p1 m1 o1,.slice p2 m2 o2,.slice p3 m3 o3,.slice p4 m4 o4] p/\Few p 97/\WfZ 65537 p
theorem Qnn(s:ByteArray)(hs:s.size<=281474976710656)(w:World):Calls Tryz.prog 8 #[.string s] w fun en w'=>RpA w en w':=by
 obtain⟨G,aj⟩:=JE ((w.alloc pgZ).alloc ftZ)
 have b2:Below w.heap.size w G:=by rw[aj];exact((Below.refl _ w).alloc (Nat.le_refl _) _).alloc (by simp) _
 have s2:G.heap.size=w.heap.size+2:=by rw[aj];simp
 have o:G.heap[w.heap.size]?=some pgZ:=by rw[aj,Below.heap_alloc _ _ _ (by simp)];exact heap_alloc_new w _
 have Z:G.heap[w.heap.size+1]?=some ftZ:=by
  rw[aj]
  have:=heap_alloc_new (w.alloc pgZ) ftZ
  simpa using this
 have al:=Qgh s hs G
 have aw:Hid (G=(w.alloc (.cells #[Jn,Jn,Jn,Jn,Jn] 28)).alloc (.cells #[Ji 0,Ji 0] 31)):=aj
 have K2:=hide (Ya b2 (Ya o (Ya Z s2)))
 obtain⟨PO,aF⟩:∃PO:Ending->World->Prop,PO=fun en w'=>RpA w en w':=⟨_,rfl⟩
 rw[<- aF]
 have az:=hide aF
 have ah:=Qpl s.data.toList
 have aG:s.data.toList.length=s.size:=(Qcu s).symm
 clear b2 s2 o Z aj aF
 cases hq:lexP s.data.toList with
 |bad why at1=>
  rw[hq]at al ah
  have hz:(why==0)=false:=beq_eq_false_iff_ne.2 ah.1
  clear hq ah aG
  go_enter Tryz.func8,Tryz.ntmps8
  go_wp2_with fail
  rw[<- Qa aw]
  refine al.mono ?_
  clear al aw
  rintro en B⟨v,rfl,ac,b3⟩
  obtain⟨b2,o,Z,s2⟩:=Qa K2
  have aH:=b3.size
  obtain⟨D,L⟩:=JE (B.alloc (.cells #[Ji why,Ji (at1:Int)] 31))
  have q:D.heap[B.heap.size]?=some (.cells #[Ji why,Ji (at1:Int)] 31 (0,0)):=by rw[L];exact heap_alloc_new B _
  have b4:Below G.heap.size G D:=by rw[L];exact b3.alloc b3.size _
  have C:=(b4.block _ (Qaa o)).trans o
  have P:=(b4.block _ (Qaa Z)).trans Z
  have Q:Below w.heap.size w D:=b2.trans (b4.mono (by omega))
  have b1:=b4.size
  obtain⟨c0,c1,cf⟩:=cl2 q
  have ap:=hide L
  clear L
  simp only[Out.why,Out.fa]
  go_wp2_with fail
  rw[<- Qa ap]
  clear ap
  obtain⟨c,g⟩:=JE ((((((D.setCell (Ja w.heap.size 0) (Jn)).setCell (Ja w.heap.size 1) (Jn)).setCell (Ja w.heap.size 2) (Jn)).setCell (Ja w.heap.size 3) (Jn)).setCell (Ja w.heap.size 4) (Jn)).drew)
  have r:∀k,k≠w.heap.size->c.heap[k]?=D.heap[k]?:=fun k a=>by rw[g,show ∀v:World,v.drew.heap=v.heap from fun _=>rfl,hpS a,hpS a,hpS a,hpS a,hpS a]
  have I:c.heap[w.heap.size]?=some (.cells #[Jn,Jn,Jn,Jn,Jn] 28 (0,0)):=by rw[g];exact(Qah (Qah (Qah (Qah (Qah C 0 _) 1 _) 2 _) 3 _) 4 _).trans rfl
  have A:=(r (w.heap.size+1) (by omega)).trans P
  have S:Below w.heap.size w c:=by rw[g];exact(((((Q.setCell (p:=(Ja w.heap.size 0)) (Nat.le_refl _) _).setCell (p:=(Ja w.heap.size 1)) (Nat.le_refl _) _).setCell (p:=(Ja w.heap.size 2)) (Nat.le_refl _) _).setCell (p:=(Ja w.heap.size 3)) (Nat.le_refl _) _).setCell (p:=(Ja w.heap.size 4)) (Nat.le_refl _) _).drew
  have ab:c.heap.size=D.heap.size:=by rw[g];simp
  obtain⟨y0,y1,yf⟩:=cl2 A
  obtain⟨n,d⟩:=JE (((c.setCell (Ja (w.heap.size+1) 0) (Ji why)).setCell (Ja (w.heap.size+1) 1) (Ji (at1:Int))))
  have z:∀k,k≠w.heap.size+1->n.heap[k]?=c.heap[k]?:=fun k a=>by rw[d,hpS a,hpS a]
  have U:n.heap[w.heap.size+1]?=some (.cells #[Ji why,Ji (at1:Int)] 31 (0,0)):=by rw[d];exact(Qah (Qah A 0 _) 1 _).trans rfl
  have O:=(z w.heap.size (by omega)).trans I
  have T:Below w.heap.size w n:=by rw[d];exact(S.setCell (p:=(Ja (w.heap.size+1) 0)) (by show w.heap.size<=w.heap.size+1;omega) _).setCell (p:=(Ja (w.heap.size+1) 1)) (by show w.heap.size<=w.heap.size+1;omega) _
  have a8:n.heap.size=c.heap.size:=by rw[d];simp
  obtain⟨x0,x1,x2,x3,x4,xf⟩:=cl5 C
  have N:=hide (Ya q (Ya ((r B.heap.size (by omega)).trans q) ((z B.heap.size (by omega)).trans ((r B.heap.size (by omega)).trans q))))
  have HU:=hide (Ya O (Ya U T))
  have a6:=hide g
  have J:=hide d
  clear g r I A S ab d z U O T a8 ac b3 b2 o Z s2 aH q b4 C P Q b1 K2
  go_wp2_with fail
  refine Qaq (m:=3) (ml:=[(0,1),(1,1),(2,0),(3,0)]) (fun _ w'=>w'.heap[B.heap.size]?=some (.cells #[Ji why,Ji (at1:Int)] 31 (0,0))) mixedO (by kernel_rfl) rfl (by rfl) (by kernel_rfl) (fun PP a4=>?_)
  refine Qae rfl (by kernel_rfl) (fun _ _ _=>by go_simp<;>rfl) ?_
  refine Qae rfl (by kernel_rfl) (fun f w' hw=>by obtain⟨u0,u1,uf⟩:=cl2 hw;go_simp<;>rfl) ?_
  refine Qab rfl (Qa N).1 (fun K j=>?_)
  go_simp
  rw[<- Qa a6]
  refine j _ _ ?_
  clear j K a6 x0 x1 x2 x3 x4 xf
  refine Qab rfl (Qa N).2.1 (fun K j=>?_)
  go_simp
  rw[<- Qa J]
  refine j _ _ ?_
  clear j K J y0 y1 yf
  refine Qat (Qa N).2.2 (a4 _ _ ?_)
  clear a4 PP
  obtain⟨p7,f7,aq⟩:=Qa HU
  obtain⟨u0,u1,u2,u3,u4,uf⟩:=cl5 p7
  obtain⟨t0,t1,tf⟩:=cl2 f7
  go_wp2_with fail
  refine bodyPost_ret (v:=.tuple #[.agg #[Jn,Jn,Jn,Jn,Jn],.agg #[Ji why,Ji (at1:Int)]]) (by simp[results,Tryz.results8,go_sem,u0,u1,u2,u3,u4,t0,t1]) rfl ?_
  rw[Qa az]
  exact⟨_,_,_,_,_,_,_,_,_,_,_,_,_,_,_,_,_,.none,rfl,aq,Qle _ _,Qc _,Qcc⟩
 |ok toks=>
  rw[hq]at al ah
  obtain⟨u,g2,g3⟩:=Qua hq
  have g4:=Qpk hq
  have bb:=hide (lex_ne hq)
  have ao:∀t∈toks,t.at_<=65536:=fun t y=>by have:=Ris.at ah t y;omega
  rw[aG]at u g2 g4
  have HT:=hide (Ya ao (Ya u (Ya g2 g4)))
  clear hq ah aG ao g2 g3 g4
  go_enter Tryz.func8,Tryz.ntmps8
  go_wp2_with fail
  rw[<- Qa aw]
  refine al.mono ?_
  clear al aw
  rintro en B⟨v,rfl,ac,b3⟩
  obtain⟨b2,o,Z,s2⟩:=Qa K2
  have aH:=b3.size
  obtain⟨ao,_,g2,g4⟩:=Qa HT
  obtain⟨D,L⟩:=JE (B.alloc ftZ)
  have q:D.heap[B.heap.size]?=some ftZ:=by rw[L];exact heap_alloc_new B _
  have b4:Below G.heap.size G D:=by rw[L];exact b3.alloc b3.size _
  have s4:D.heap.size=B.heap.size+1:=by rw[L];simp
  have aS:D.ownsRow G.heap.size 73 4 v toks.length (tokCells toks):=by rw[L];exact World.ownsRow.alloc ac _
  obtain⟨v1,w5,v2,w7,r1,b5,r2,b7,⟨bc,bf,ba,e1⟩,V,Y,e2,ad,b6⟩:=Qmo aS (by omega) ⟨0,[],0,s.size⟩
  obtain⟨l,H⟩:∃l,toks++[(⟨0,[],0,s.size⟩:Tok)]=l:=⟨_,rfl⟩
  have aW:Hid (l.length<=65537):=hide (by rw[<- H];simp only[List.length_append,List.length_singleton];omega)
  have b0:Hid (NeT l):=hide (fun t y a=>by
   rw[<- H]at y
   rcases List.mem_append.1 y with h|h
   ·exact Qa bb t h a
   simp only[List.mem_singleton]at h
   subst h
   exact absurd (show(0:Int)=1 from a) (by decide))
  rw[H]at ad e2
  obtain⟨tn,ak⟩:=JF l.length
  have aU:tn=toks.length+1:=by rw[<- ak,<- H];simp
  rw[ak]at e2
  subst e1 e2
  obtain⟨i,a2⟩:=JF w7.heap.size
  obtain⟨w8,aA⟩:=JE (w7.alloc (.cells #[.slice (Js V) tn Y,Ji 0,Ji 0,Ji 0,Ji 0,Ji 0] 75))
  have b8:Below w7.heap.size w7 w8:=by rw[aA];exact(Below.refl _ w7).alloc (Nat.le_refl _) _
  have n8:w8.heap[i]?=some (.cells #[.slice (Js V) tn Y,Ji 0,Ji 0,Ji 0,Ji 0,Ji 0] 75 (0,0)):=by rw[aA,<- a2];exact heap_alloc_new w7 _
  have hR:Rr i V Y l w8 0 0 0 0 0:=by
   refine⟨by rw[ak];exact n8,ad.later b8,by have:=ad.lt;omega,by omega,by omega,fun t y=>?_,fun t y=>?_,fun _=>rfl,by omega,by omega,fun t y=>?_⟩
   ·
    rw[<- H]at y
    rcases List.mem_append.1 y with h|h
    ·exact ao t h
    ·simp only[List.mem_singleton]at h;subst h;exact u
   ·
    rw[ak,aU,<- H,Nat.add_sub_cancel,List.getElem?_append_right (Nat.le_refl _),Nat.sub_self]at y
    cases y;rfl
   rw[<- H]at y
   rcases List.mem_append.1 y with h|h
   ·have:=g4 t h;omega
   ·simp only[List.mem_singleton]at h;subst h;exact Nat.zero_le _
  have be:=b7.size
  have aX:=b8.size
  have ay:Below G.heap.size G w8:=(b4.trans (b7.mono (by omega))).trans (b8.mono (by omega))
  have F:=(ay.block _ (Qaa o)).trans o
  have E:=(ay.block _ (Qaa Z)).trans Z
  have x:Below w.heap.size w w8:=b2.trans (ay.mono (by omega))
  have aO:=Qju 33 0 rfl w8 0 0 0 0 hR (by omega) (fun _=>⟨by omega,by omega⟩)
  have c0:D.cell? (Ja B.heap.size 0)=some (Ji 0):=by rw[Qad q];rfl
  have c1:D.cell? (Ja B.heap.size 1)=some (Ji 0):=by rw[Qad q];rfl
  have K8:=hide (Ya x (Ya F (Ya E (show w.heap.size+2<=i/\i<w8.heap.size/\w.heap.size+2<=V by have:=Qaa n8;omega))))
  have HL:=hide ak
  have ap:Hid (D=B.alloc (.cells #[Ji 0,Ji 0] 31)):=L
  have aI:=hide (Ya aA a2)
  have aM:(Builtin.append_ #[69,69] 69 #[.slice bc bf ba,.slice (Js w5.heap.size) 1 1]).run Tryz.prog (w5.alloc (.cells #[Ji 0,Je,Ji 0,Ji (s.size:Int)] 73)) = .ok (.slice (Js V) tn Y) w7:=r2
  have aQ:=hide r1
  have aK:=hide aM
  have bj:s.size<=65536:=u
  clear ac b3 b2 o Z s2 aH ao g2 g4 L q b4 s4 aS r1 b5 r2 aM b7 ad b6 H ak aU a2 aA b8 n8 hR be aX ay F E x K2 u HT
  simp only[Out.why,Out.fa]
  go_upto_region 2 with fail
  rw[<- Qa ap]
  clear ap
  go_wp2_with (at_builtin; first
   |(refine Qai _ rfl _ _ 69 rfl _ _ rfl rfl _ _ (Qa aQ) ?_;clear aQ)
   |(refine Qai _ rfl _ _ 69 rfl _ _ rfl rfl _ _ (Qa aK) ?_;clear aK))
  rw[<- (Qa aI).1,(Qa aI).2]
  clear aI c0 c1
  refine aO.mono ?_
  clear aO
  rintro en w9⟨_,a9,i9,y9,f9,rfl,⟨pg,p0,m0,o0,p1,m1,o1,o,m2,o2,p3,m3,o3,p4,m4,o4,rfl,an,aP,aT⟩,aY,h9,k9⟩
  have aL:=hide (Ya aP (show y9=0->WfZ 65537 pg from fun e=>(aT ((Rr.ok h9).2 e) (Qa b0)).mono (Qa aW)))
  clear aP aT
  obtain⟨x,F,E,u,g2,g3⟩:=Qa K8
  obtain⟨pb,aa⟩:=JF w9.heap.size
  obtain⟨au,af⟩:=JE (w9.alloc (.cells #[.slice p0 m0 o0,.slice p1 m1 o1,.slice o m2 o2,.slice p3 m3 o3,.slice p4 m4 o4] 28))
  have ar:Below w9.heap.size w9 au:=by rw[af];exact(Below.refl _ w9).alloc (Nat.le_refl _) _
  have am:au.heap[pb]?=some (.cells #[.slice p0 m0 o0,.slice p1 m1 o1,.slice o m2 o2,.slice p3 m3 o3,.slice p4 m4 o4] 28 (0,0)):=by rw[af,<- aa];exact heap_alloc_new w9 _
  have aZ:=k9.size
  have ax:Kp i w8 au:=k9.trans (Kp.of_below ar)
  have ai:=h9.later ar
  have a0:PgS (fun b=>w.heap.size+2<=b/\b≠i) au [.slice p0 m0 o0,.slice p1 m1 o1,.slice o m2 o2,.slice p3 m3 o3,.slice p4 m4 o4] pg:=Qak.mono _ _ _ _ _ (Qak.same _ _ au _ _ an ar.size (fun b _ H=>ar.block b H)) (fun b _ hb=>by have bi:w8.heap.size<=b:=hb;exact⟨by omega,by omega⟩)
  obtain⟨t,y⟩:=ai.tok
  have aE:=Qao ai y
  unfold tkA at aE
  have aR:=hide (Ya (x.trans (ax.bel (by omega) x.size)) (Ya (ax.keep F (by omega)) (Ya (ax.keep E (by omega)) (Ya u (Ya g2 (Ya ai (Ya am (Ya (show i<pb by omega) a0))))))))
  have av:=hide (Ya af aa)
  clear an aY h9 k9 x F E u g2 g3 aa af ar am aZ ax ai a0 y K8
  go_wp2_with fail
  rw[<- (Qa av).1,(Qa av).2]
  clear av
  refine aE.mono ?_
  clear aE
  rintro en X⟨rfl,a3⟩
  have a1:=hide (show Below w.heap.size w X/\X.heap[w.heap.size]?=some pgZ/\X.heap[w.heap.size+1]?=some ftZ/\w.heap.size+2<=i/\Rr i V Y l X a9 0 i9 y9 f9/\X.heap[pb]?=some (.cells #[.slice p0 m0 o0,.slice p1 m1 o1,.slice o m2 o2,.slice p3 m3 o3,.slice p4 m4 o4] 28 (0,0))/\i<pb/\PgS (fun b=>w.heap.size+2<=b/\b≠i) X [.slice p0 m0 o0,.slice p1 m1 o1,.slice o m2 o2,.slice p3 m3 o3,.slice p4 m4 o4] pg by
   obtain⟨x,F,E,u,g2,ai,am,aa,a0⟩:=Qa aR
   exact⟨x.trans (a3.mono x.size),(a3.block _ (Qaa F)).trans F,(a3.block _ (Qaa E)).trans E,u,ai.later a3,(a3.block _ (Qaa am)).trans am,aa,Qak.same _ _ _ _ _ a0 a3.size (fun b _ H=>a3.block b H)⟩)
  clear a3 aR
  by_cases kt:t.kind=0
  ·
   have gt:(t.kind != 0)=false:=by simpa using kt
   clear kt
   go_wp2_with fail
   rename_i j
   refine j _ _ ?_
   clear j
   by_cases hy:y9=0
   ·
    have M:=Qaw (Qa a1).2.2.2.2.1
    rw[decide_eq_true hy]at M
    have bd:=hide hy
    clear hy
    go_wp2_with fail
    refine M.mono ?_
    clear M
    rintro en R⟨rfl,rfl⟩
    obtain⟨Q,C,P,a2,_,bp,aa,an⟩:=Qa a1
    obtain⟨v0,v1,v2,v3,v4,vf⟩:=cl5 bp
    obtain⟨c,g⟩:=JE ((((((R.setCell (Ja w.heap.size 0) (.slice p0 m0 o0)).setCell (Ja w.heap.size 1) (.slice p1 m1 o1)).setCell (Ja w.heap.size 2) (.slice o m2 o2)).setCell (Ja w.heap.size 3) (.slice p3 m3 o3)).setCell (Ja w.heap.size 4) (.slice p4 m4 o4)))
    have r:∀k,k≠w.heap.size->c.heap[k]?=R.heap[k]?:=fun k a=>by rw[g,hpS a,hpS a,hpS a,hpS a,hpS a]
    have I:c.heap[w.heap.size]?=some (.cells #[.slice p0 m0 o0,.slice p1 m1 o1,.slice o m2 o2,.slice p3 m3 o3,.slice p4 m4 o4] 28 (0,0)):=by rw[g];exact(Qah (Qah (Qah (Qah (Qah C 0 _) 1 _) 2 _) 3 _) 4 _).trans rfl
    have A:=(r (w.heap.size+1) (by omega)).trans P
    have S:Below w.heap.size w c:=by rw[g];exact(((((Q.setCell (p:=(Ja w.heap.size 0)) (Nat.le_refl _) _).setCell (p:=(Ja w.heap.size 1)) (Nat.le_refl _) _).setCell (p:=(Ja w.heap.size 2)) (Nat.le_refl _) _).setCell (p:=(Ja w.heap.size 3)) (Nat.le_refl _) _).setCell (p:=(Ja w.heap.size 4)) (Nat.le_refl _) _)
    have ab:c.heap.size=R.heap.size:=by rw[g];simp
    obtain⟨y0,y1,yf⟩:=cl2 A
    obtain⟨n,d⟩:=JE (((c.setCell (Ja (w.heap.size+1) 0) (Ji 0)).setCell (Ja (w.heap.size+1) 1) (Ji 0)))
    have z:∀k,k≠w.heap.size+1->n.heap[k]?=c.heap[k]?:=fun k a=>by rw[d,hpS a,hpS a]
    have U:n.heap[w.heap.size+1]?=some (.cells #[Ji 0,Ji 0] 31 (0,0)):=by rw[d];exact(Qah (Qah A 0 _) 1 _).trans rfl
    have O:=(z w.heap.size (by omega)).trans I
    have T:Below w.heap.size w n:=by rw[d];exact(S.setCell (p:=(Ja (w.heap.size+1) 0)) (by show w.heap.size<=w.heap.size+1;omega) _).setCell (p:=(Ja (w.heap.size+1) 1)) (by show w.heap.size<=w.heap.size+1;omega) _
    have a8:n.heap.size=c.heap.size:=by rw[d];simp
    obtain⟨x0,x1,x2,x3,x4,xf⟩:=cl5 C
    have ae:PgS (fun b=>w.heap.size<=b) n [.slice p0 m0 o0,.slice p1 m1 o1,.slice o m2 o2,.slice p3 m3 o3,.slice p4 m4 o4] pg:=Qak.mono _ _ _ _ _ (Qak.same _ _ n _ _ an (by omega) (fun b hb _=>(z b (by have:=hb.1;omega)).trans (r b (by have:=hb.1;omega)))) (fun b _ hb=>by have:=hb.1;omega)
    have HU:=hide (Ya O (Ya U (Ya T ae)))
    have J:=hide d
    clear Q C P a2 bp aa an r I A S ab d z U O T a8 ae a1
    subst g
    go_wp2_with fail
    rw[<- Qa J]
    obtain⟨p9,b9,bg,ae⟩:=Qa HU
    obtain⟨u0,u1,u2,u3,u4,uf⟩:=cl5 p9
    obtain⟨t0,t1,tf⟩:=cl2 b9
    clear x0 x1 x2 x3 x4 xf y0 y1 yf J HU v0 v1 v2 v3 v4 vf
    go_wp2_with fail
    refine bodyPost_ret (v:=.tuple #[.agg #[.slice p0 m0 o0,.slice p1 m1 o1,.slice o m2 o2,.slice p3 m3 o3,.slice p4 m4 o4],.agg #[Ji 0,Ji 0]]) (by simp[results,Tryz.results8,go_sem,u0,u1,u2,u3,u4,t0,t1]) rfl ?_
    rw[Qa az]
    exact⟨_,_,_,_,_,_,_,_,_,_,_,_,_,_,_,_,_,pg,rfl,bg,ae,(Qa aL).1,(Qa aL).2 (Qa bd)⟩
   have M:=Qaw (Qa a1).2.2.2.2.1
   rw[decide_eq_false hy]at M
   have W:Hid (Below w.heap.size w X/\X.heap[w.heap.size]?=some pgZ/\X.heap[w.heap.size+1]?=some ftZ/\w.heap.size+2<=i/\X.heap[i]?=some (.cells #[.slice (Js V) tn Y,Ji (a9:Int),Ji ((0:Nat):Int),Ji (i9:Int),Ji y9,Ji f9] 75 (0,0))):=by
    obtain⟨x,F,E,u,hR,_⟩:=Qa a1
    exact⟨x,F,E,u,by have:=hR.box;rw[Qa HL]at this;exact this⟩
   clear hy a1
   go_wp2_with fail
   refine M.mono ?_
   clear M
   rintro en R⟨rfl,rfl⟩
   have C:=(Qa W).2.1
   have P:=(Qa W).2.2.1
   have Q:=(Qa W).1
   have a2:=(Qa W).2.2.2.1
   have q:=(Qa W).2.2.2.2
   obtain⟨c,g⟩:=JE ((((((R.setCell (Ja w.heap.size 0) (Jn)).setCell (Ja w.heap.size 1) (Jn)).setCell (Ja w.heap.size 2) (Jn)).setCell (Ja w.heap.size 3) (Jn)).setCell (Ja w.heap.size 4) (Jn)).drew)
   have r:∀k,k≠w.heap.size->c.heap[k]?=R.heap[k]?:=fun k a=>by rw[g,show ∀v:World,v.drew.heap=v.heap from fun _=>rfl,hpS a,hpS a,hpS a,hpS a,hpS a]
   have I:c.heap[w.heap.size]?=some (.cells #[Jn,Jn,Jn,Jn,Jn] 28 (0,0)):=by rw[g];exact(Qah (Qah (Qah (Qah (Qah C 0 _) 1 _) 2 _) 3 _) 4 _).trans rfl
   have A:=(r (w.heap.size+1) (by omega)).trans P
   have S:Below w.heap.size w c:=by rw[g];exact(((((Q.setCell (p:=(Ja w.heap.size 0)) (Nat.le_refl _) _).setCell (p:=(Ja w.heap.size 1)) (Nat.le_refl _) _).setCell (p:=(Ja w.heap.size 2)) (Nat.le_refl _) _).setCell (p:=(Ja w.heap.size 3)) (Nat.le_refl _) _).setCell (p:=(Ja w.heap.size 4)) (Nat.le_refl _) _).drew
   have ab:c.heap.size=R.heap.size:=by rw[g];simp
   obtain⟨y0,y1,yf⟩:=cl2 A
   obtain⟨n,d⟩:=JE (((c.setCell (Ja (w.heap.size+1) 0) (Ji y9)).setCell (Ja (w.heap.size+1) 1) (Ji f9)))
   have z:∀k,k≠w.heap.size+1->n.heap[k]?=c.heap[k]?:=fun k a=>by rw[d,hpS a,hpS a]
   have U:n.heap[w.heap.size+1]?=some (.cells #[Ji y9,Ji f9] 31 (0,0)):=by rw[d];exact(Qah (Qah A 0 _) 1 _).trans rfl
   have O:=(z w.heap.size (by omega)).trans I
   have T:Below w.heap.size w n:=by rw[d];exact(S.setCell (p:=(Ja (w.heap.size+1) 0)) (by show w.heap.size<=w.heap.size+1;omega) _).setCell (p:=(Ja (w.heap.size+1) 1)) (by show w.heap.size<=w.heap.size+1;omega) _
   have a8:n.heap.size=c.heap.size:=by rw[d];simp
   obtain⟨x0,x1,x2,x3,x4,xf⟩:=cl5 C
   have N:=hide (Ya q (Ya ((r i (by omega)).trans q) ((z i (by omega)).trans ((r i (by omega)).trans q))))
   have HU:=hide (Ya O (Ya U T))
   have a6:=hide g
   have J:=hide d
   clear g r I A S ab d z U O T a8 C P Q a2 q
   go_wp2_with fail
   refine Qaq (m:=4) (ml:=[(0,1),(1,1),(2,1),(3,0),(4,0)]) (fun _ w'=>w'.heap[i]?=some (.cells #[.slice (Js V) tn Y,Ji (a9:Int),Ji ((0:Nat):Int),Ji (i9:Int),Ji y9,Ji f9] 75 (0,0))) mixedO (by kernel_rfl) rfl (by rfl) (by kernel_rfl) (fun PP a4=>?_)
   refine Qae rfl (by kernel_rfl) (fun _ _ _=>by go_simp<;>rfl) ?_
   refine Qae rfl (by kernel_rfl) (fun _ _ _=>by go_simp<;>rfl) ?_
   refine Qae rfl (by kernel_rfl) (fun f w' hw=>by obtain⟨u0,u1,u2,u3,u4,u5,uf⟩:=cl6 hw;go_simp<;>rfl) ?_
   refine Qab rfl (Qa N).1 (fun K j=>?_)
   go_simp
   rw[<- Qa a6]
   refine j _ _ ?_
   clear j K a6 x0 x1 x2 x3 x4 xf
   refine Qab rfl (Qa N).2.1 (fun K j=>?_)
   go_simp
   rw[<- Qa J]
   refine j _ _ ?_
   clear j K J y0 y1 yf
   refine Qat (Qa N).2.2 (a4 _ _ ?_)
   clear a4 PP
   obtain⟨p7,f7,aq⟩:=Qa HU
   obtain⟨u0,u1,u2,u3,u4,uf⟩:=cl5 p7
   obtain⟨t0,t1,tf⟩:=cl2 f7
   go_wp2_with fail
   refine bodyPost_ret (v:=.tuple #[.agg #[Jn,Jn,Jn,Jn,Jn],.agg #[Ji y9,Ji f9]]) (by simp[results,Tryz.results8,go_sem,u0,u1,u2,u3,u4,t0,t1]) rfl ?_
   rw[Qa az]
   exact⟨_,_,_,_,_,_,_,_,_,_,_,_,_,_,_,_,_,.none,rfl,aq,Qle _ _,Qc _,Qcc⟩
  have gt:(t.kind != 0)=true:=by simpa using kt
  clear kt
  have aV:=Qbe (Qa a1).2.2.2.2.1 (why:=10) (by decide)
  go_wp2_with fail
  rename_i j
  refine j _ _ ?_
  clear j
  go_wp2_with fail
  refine aV.mono ?_
  clear aV
  rintro en a5⟨_,bk,bh,a7,ag,rfl,rfl,⟨ea,ei,aC⟩,aD,aB⟩
  rw[ea,ei]at aD
  clear ea ei
  have aJ:=hide (show Below w.heap.size w a5/\a5.heap[w.heap.size]?=some pgZ/\a5.heap[w.heap.size+1]?=some ftZ/\w.heap.size+2<=i/\Rr i V Y l a5 a9 0 i9 a7 ag/\True by
   obtain⟨x,F,E,u,_⟩:=Qa a1
   exact⟨x.trans (aB.bel (by omega) x.size),aB.keep F (by omega),aB.keep E (by omega),u,aD,trivial⟩)
  have aN:¬(a7=0):=aC
  clear aD aB aC a1
  have M:=Qaw (Qa aJ).2.2.2.2.1
  rw[decide_eq_false aN]at M
  have W:Hid (Below w.heap.size w a5/\a5.heap[w.heap.size]?=some pgZ/\a5.heap[w.heap.size+1]?=some ftZ/\w.heap.size+2<=i/\a5.heap[i]?=some (.cells #[.slice (Js V) tn Y,Ji (a9:Int),Ji ((0:Nat):Int),Ji (i9:Int),Ji a7,Ji ag] 75 (0,0))):=by
   obtain⟨x,F,E,u,hR,_⟩:=Qa aJ
   exact⟨x,F,E,u,by have:=hR.box;rw[Qa HL]at this;exact this⟩
  clear aN aJ
  go_wp2_with fail
  refine M.mono ?_
  clear M
  rintro en R⟨rfl,rfl⟩
  have C:=(Qa W).2.1
  have P:=(Qa W).2.2.1
  have Q:=(Qa W).1
  have a2:=(Qa W).2.2.2.1
  have q:=(Qa W).2.2.2.2
  obtain⟨c,g⟩:=JE ((((((R.setCell (Ja w.heap.size 0) (Jn)).setCell (Ja w.heap.size 1) (Jn)).setCell (Ja w.heap.size 2) (Jn)).setCell (Ja w.heap.size 3) (Jn)).setCell (Ja w.heap.size 4) (Jn)).drew)
  have r:∀k,k≠w.heap.size->c.heap[k]?=R.heap[k]?:=fun k a=>by rw[g,show ∀v:World,v.drew.heap=v.heap from fun _=>rfl,hpS a,hpS a,hpS a,hpS a,hpS a]
  have I:c.heap[w.heap.size]?=some (.cells #[Jn,Jn,Jn,Jn,Jn] 28 (0,0)):=by rw[g];exact(Qah (Qah (Qah (Qah (Qah C 0 _) 1 _) 2 _) 3 _) 4 _).trans rfl
  have A:=(r (w.heap.size+1) (by omega)).trans P
  have S:Below w.heap.size w c:=by rw[g];exact(((((Q.setCell (p:=(Ja w.heap.size 0)) (Nat.le_refl _) _).setCell (p:=(Ja w.heap.size 1)) (Nat.le_refl _) _).setCell (p:=(Ja w.heap.size 2)) (Nat.le_refl _) _).setCell (p:=(Ja w.heap.size 3)) (Nat.le_refl _) _).setCell (p:=(Ja w.heap.size 4)) (Nat.le_refl _) _).drew
  have ab:c.heap.size=R.heap.size:=by rw[g];simp
  obtain⟨y0,y1,yf⟩:=cl2 A
  obtain⟨n,d⟩:=JE (((c.setCell (Ja (w.heap.size+1) 0) (Ji a7)).setCell (Ja (w.heap.size+1) 1) (Ji ag)))
  have z:∀k,k≠w.heap.size+1->n.heap[k]?=c.heap[k]?:=fun k a=>by rw[d,hpS a,hpS a]
  have U:n.heap[w.heap.size+1]?=some (.cells #[Ji a7,Ji ag] 31 (0,0)):=by rw[d];exact(Qah (Qah A 0 _) 1 _).trans rfl
  have O:=(z w.heap.size (by omega)).trans I
  have T:Below w.heap.size w n:=by rw[d];exact(S.setCell (p:=(Ja (w.heap.size+1) 0)) (by show w.heap.size<=w.heap.size+1;omega) _).setCell (p:=(Ja (w.heap.size+1) 1)) (by show w.heap.size<=w.heap.size+1;omega) _
  have a8:n.heap.size=c.heap.size:=by rw[d];simp
  obtain⟨x0,x1,x2,x3,x4,xf⟩:=cl5 C
  have N:=hide (Ya q (Ya ((r i (by omega)).trans q) ((z i (by omega)).trans ((r i (by omega)).trans q))))
  have HU:=hide (Ya O (Ya U T))
  have a6:=hide g
  have J:=hide d
  clear g r I A S ab d z U O T a8 C P Q a2 q
  go_wp2_with fail
  refine Qaq (m:=4) (ml:=[(0,1),(1,1),(2,1),(3,0),(4,0)]) (fun _ w'=>w'.heap[i]?=some (.cells #[.slice (Js V) tn Y,Ji (a9:Int),Ji ((0:Nat):Int),Ji (i9:Int),Ji a7,Ji ag] 75 (0,0))) mixedO (by kernel_rfl) rfl (by rfl) (by kernel_rfl) (fun PP a4=>?_)
  refine Qae rfl (by kernel_rfl) (fun _ _ _=>by go_simp<;>rfl) ?_
  refine Qae rfl (by kernel_rfl) (fun _ _ _=>by go_simp<;>rfl) ?_
  refine Qae rfl (by kernel_rfl) (fun f w' hw=>by obtain⟨u0,u1,u2,u3,u4,u5,uf⟩:=cl6 hw;go_simp<;>rfl) ?_
  refine Qab rfl (Qa N).1 (fun K j=>?_)
  go_simp
  rw[<- Qa a6]
  refine j _ _ ?_
  clear j K a6 x0 x1 x2 x3 x4 xf
  refine Qab rfl (Qa N).2.1 (fun K j=>?_)
  go_simp
  rw[<- Qa J]
  refine j _ _ ?_
  clear j K J y0 y1 yf
  refine Qat (Qa N).2.2 (a4 _ _ ?_)
  clear a4 PP
  obtain⟨p7,f7,aq⟩:=Qa HU
  obtain⟨u0,u1,u2,u3,u4,uf⟩:=cl5 p7
  obtain⟨t0,t1,tf⟩:=cl2 f7
  go_wp2_with fail
  refine bodyPost_ret (v:=.tuple #[.agg #[Jn,Jn,Jn,Jn,Jn],.agg #[Ji a7,Ji ag]]) (by simp[results,Tryz.results8,go_sem,u0,u1,u2,u3,u4,t0,t1]) rfl ?_
  rw[Qa az]
  exact⟨_,_,_,_,_,_,_,_,_,_,_,_,_,_,_,_,_,.none,rfl,aq,Qle _ _,Qc _,Qcc⟩
end
end Go.Proofs.YtmfpbepifnedjaaGreat
