/- The document's Parse. -/
import Derived.Test.YtkhndlnadhggkaaGreatAp01
import Derived.Test.YtkhndlnadhggkaaGreatAp28
import Derived.Test.YtkhndlnadhggkaaGreatAp07
set_option maxRecDepth 100000
set_option maxHeartbeats 32000000
namespace Go.Proofs.YtkhndlnadhggkaaGreat
section
open Go.RowKit Go.Maps
theorem Qew:∀(m:Nat) (t:Txt),t.length<=m -> ∀v n,txScan t = .ok v n->v.length<=t.length
 | 0,t,hl,v,n,h=>by
  have:t=[]:=List.eq_nil_of_length_eq_zero (by omega);subst this;simp[txScan]at h
 |m+1,[],_,v,n,h=>by simp[txScan]at h
 |m+1,[c],_,v,n,h=>by
  unfold txScan at h;split at h
  ·cases h;simp
  split at h
  ·cases h
  ·split at h<;>cases h
 |m+1,c :: d :: t,hl,v,n,h=>by
  simp only[List.length_cons]at hl;unfold txScan at h;split at h
  ·cases h;simp
  split at h
  ·cases h
  split at h
  ·
   cases e:esc d with
   |none=>rw[e]at h;cases h
   |some b=>
    rw[e]at h
    cases a:txScan t with
    |ok v' n'=>
     rw[a]at h;cases h
     have:=Qew m t (by omega) v' n' a;simp only[List.length_cons];omega
    |bad o=>rw[a]at h;cases h
    |never=>rw[a]at h;cases h
  cases a:txScan (d :: t) with
  |ok v' n'=>
   rw[a]at h;cases h
   have:=Qew m (d :: t) (by simp only[List.length_cons];omega) v' n' a;simp only[List.length_cons]at this ⊢;omega
  |bad o=>rw[a]at h;cases h
  |never=>rw[a]at h;cases h
theorem tok_len{r:Txt}{kd:Int}{tx:Txt}{nm:Int}{n:Nat}(h:tokAt r = .tok kd tx nm n):tx.length<=r.length:=by
 cases r with
 |nil=>simp[tokAt]at h
 |cons c t=>
  rw[Qds]at h;split at h
  ·
   unfold nmRes at h;split at h
   ·cases h
   ·cases h;rw[List.length_take];omega
  split at h
  ·
   unfold dgRes at h;split at h
   ·cases h
   split at h
   ·cases h
   ·cases h;simp
  split at h
  ·
   unfold txRes at h
   cases a:txScan t with
   |ok v m=>
    rw[a]at h;cases h
    have:=Qew _ t (Nat.le_refl _) _ _ a;simp only[List.length_cons];omega
   |bad o=>rw[a]at h;cases h
   |never=>rw[a]at h;cases h
  unfold sgRes at h;split at h
  ·cases h
  ·cases h;rw[List.length_take];omega
theorem Qte:∀(m:Nat) (r:Txt) (k:Nat),r.length<=m -> ∀l,scan k r = .ok l -> ∀t∈l,t.text.length<=r.length:=by
 intro m
 induction m with
 |zero=>
  intro r k h l b;have:r=[]:=List.eq_nil_of_length_eq_zero (by omega);subst this;rw[Qck]at b;cases b
  exact fun t c=>by cases c
 |succ m ih=>
  intro r k h l b;by_cases g:r=[]
  ·subst g;rw[Qck]at b;cases b;exact fun t c=>by cases c
  cases e:gapAt r with
  |never=>rw[Qcw e]at b;cases b
  |gap n=>
   have p:=Qdd e;rw[Qdq e]at b;have d:=ih (r.drop n) (k+n) (by rw[List.length_drop];omega) l b;rw[List.length_drop]at d;exact fun t c=>by have:=d t c;omega
  |none=>
   cases c:tokAt r with
   |bad w o=>rw[Qcr g e c]at b;cases b
   |tok kd tx nm n=>
    have p:=Qcu c;rw[Qel e c]at b
    cases f:scan (k+n) (r.drop n) with
    |bad w a=>rw[f]at b;cases b
    |ok l1=>
     rw[f]at b;cases b
     have d:=ih (r.drop n) (k+n) (by rw[List.length_drop];omega) l1 f;rw[List.length_drop]at d;refine fun t i=>?_;rcases List.mem_cons.1 i with rfl|j
     ·exact tok_len c
     ·have:=d t j;omega
theorem Qpl{s:Txt}{l:List Tok}(h:lexP s = .ok l):∀t∈l,t.text.length<=s.length:=by
 unfold lexP at h;split at h
 ·cases h
 ·exact Qte s.length s 0 (Nat.le_refl _) l h
theorem tok_ne{r:Txt}{kd:Int}{tx:Txt}{nm:Int}{n:Nat}(h:tokAt r = .tok kd tx nm n)(hk:kd=1):tx≠[]:=by
 have b:=Qcu h
 cases r with
 |nil=>simp[tokAt]at h
 |cons c t=>
  rw[Qds]at h;split at h
  ·
   unfold nmRes at h;split at h
   ·cases h
   cases h
   intro e;have:=congrArg List.length e;rw[List.length_take]at this;simp only[List.length_nil]at this;omega
  split at h
  ·
   unfold dgRes at h;split at h
   ·cases h
   split at h
   ·cases h
   ·cases h;exact absurd hk (by decide)
  split at h
  ·
   unfold txRes at h
   cases a:txScan t with
   |ok v m=>rw[a]at h;cases h;exact absurd hk (by decide)
   |bad o=>rw[a]at h;cases h
   |never=>rw[a]at h;cases h
  unfold sgRes at h;split at h
  ·cases h
  ·cases h;exact absurd hk (by decide)
theorem scan_ne:∀(m:Nat) (r:Txt) (k:Nat),r.length<=m -> ∀l,scan k r = .ok l->NeT l:=by
 intro m
 induction m with
 |zero=>
  intro r k h l b;have:r=[]:=List.eq_nil_of_length_eq_zero (by omega);subst this;rw[Qck]at b;cases b
  exact fun t c=>by cases c
 |succ m ih=>
  intro r k h l b;by_cases f:r=[]
  ·subst f;rw[Qck]at b;cases b;exact fun t c=>by cases c
  cases d:gapAt r with
  |never=>rw[Qcw d]at b;cases b
  |gap n=>
   have q:=Qdd d;rw[Qdq d]at b;exact ih (r.drop n) (k+n) (by rw[List.length_drop];omega) l b
  |none=>
   cases c:tokAt r with
   |bad w o=>rw[Qcr f d c]at b;cases b
   |tok kd tx nm n=>
    have q:=Qcu c;rw[Qel d c]at b
    cases e:scan (k+n) (r.drop n) with
    |bad w a=>rw[e]at b;cases b
    |ok l1=>
     rw[e]at b;cases b
     have j:=ih (r.drop n) (k+n) (by rw[List.length_drop];omega) l1 e;intro t i g;rcases List.mem_cons.1 i with rfl|p
     ·exact tok_ne c g
     ·exact j t p g
theorem lex_ne{s:Txt}{l:List Tok}(h:lexP s = .ok l):NeT l:=by
 unfold lexP at h;split at h
 ·cases h
 ·exact scan_ne s.length s 0 (Nat.le_refl _) l h
theorem Ql(S:Nat->Prop)(w:World):PgS S w [Jn,Jn,Jn,Jn,Jn] .none:=Qji (LsAt.nil _ _) (LsAt.nil _ _) (LsAt.nil _ _) (LsAt.nil _ _) (LsAt.nil _ _)
theorem Qmj{w:World}{B:Nat}{v:Value}{toks:List Tok}(ho:w.ownsRow B 73 4 v toks.length (tokCells toks))(hl:toks.length<=65536)(e:Tok):
  ∃v1 w1 v2 w2,(Builtin.append_ #[69,69] 69 #[Jn,v]).run Tryz.prog w = .ok v1 w1/\Below w.heap.size w w1/\(Builtin.append_ #[69,69] 69 #[v1,.slice (Js w1.heap.size) 1 1]).run Tryz.prog (w1.alloc (.cells (tokVals e).toArray 73)) = .ok v2 w2/\Below w.heap.size w w2/\(∃a n c,v1 = .slice a n c) /\ ∃g cap,v2 = .slice (Js g) (toks++[e]).length cap/\RowAt w2 g cap (toks++[e])/\w.heap.size<=g:=by
 obtain⟨G,p,F,D,A⟩:=Qft;have y:Tryz.prog.underlying 69=some (.slice 73):=by kernel_rfl
 have C:∀l:List Tok,(tokCells l).length=l.length*4:=fun l=>by
  induction l with
  |nil=>rfl
  |cons t l ih=>simp only[tokCells,List.flatMap_cons,List.length_append,List.length_cons]at ih ⊢;rw[ih];simp[tokVals];omega
 have L:∀l:List Tok,∀c∈tokCells l,c.oneCell'=true:=fun l c k=>by
  obtain⟨t,_,E⟩:=List.mem_flatMap.1 k;simp only[tokVals,List.mem_cons,List.not_mem_nil,or_false]at E;rcases E with rfl|rfl|rfl|rfl<;>rfl
 have M:∃v1 w1,(Builtin.append_ #[69,69] 69 #[Jn,v]).run Tryz.prog w = .ok v1 w1/\Below w.heap.size w w1/\w1.ownsRow w.heap.size 73 4 v1 toks.length (tokCells toks):=by
  rcases id ho.2 with ⟨rfl,O⟩|⟨g,cap,U,rfl,hg,hh,X,V,W⟩
  ·
   have Q:toks=[]:=List.eq_nil_of_length_eq_zero O;subst Q;refine⟨Jn,w,?_,Below.refl _ _,World.ownsRow_nil _ _ _ _⟩;simp[Builtin.append_,run_underlying y,sizeOf,typeInfo,p,Builtin.lenOf,Builtin.firstCells]
  obtain⟨r,T,x,J,h,_,_⟩:=run_append_own_at (P:=Tryz.prog) w w.heap.size 69 69 73 G _ 4 40 y p F D A rfl (by decide) (Jn) 0 [] (World.ownsRow_nil _ _ _ _) (Ja g 0) toks.length cap (tokCells toks) (C toks) (fun j u m=>by
   have o:((Ja g 0):Addr).add j=(Ja g j):=by cases j<;>simp[Addr.add]
   rw[o,World.ownsRow.cellAt ho j (by have:=(List.getElem?_eq_some_iff.1 m).1;rw[C]at this;exact this)]
   exact m) (L toks) (by unfold maxLen;omega) (by omega) (Nat.le_refl _)
  rw[Nat.zero_add,List.nil_append]at J;exact⟨r,T,x,⟨h.os,h.tape,h.output,h.size,fun q s=>h.block q s (by simp[Value.ownBlock])⟩,J⟩
 obtain⟨v1,w1,R,d,z⟩:=M;have K:∀b,some b=v1.ownBlock->w.heap.size<=b/\b<w1.heap.size:=fun b e=>World.ownsRow.lt z b e.symm;have Y:=d.size
 obtain⟨v2,w2,S,H,f,_,_⟩:=run_append_own_at (P:=Tryz.prog) (w1.alloc (.cells (tokVals e).toArray 73)) w.heap.size 69 69 73 G _ 4 40 y p F D A rfl (by decide) v1 toks.length (tokCells toks) (World.ownsRow.alloc z _) (Ja w1.heap.size 0) 1 1 (tokVals e) rfl (fun j u m=>by
  have o:((Ja w1.heap.size 0):Addr).add j=(Ja w1.heap.size j):=by cases j<;>simp[Addr.add]
  rw[o,Qad (heap_alloc_new w1 _)]
  simpa using m) (fun c k=>by
  simp only[tokVals,List.mem_cons,List.not_mem_nil,or_false]at k
  rcases k with rfl|rfl|rfl|rfl<;>rfl) (by unfold maxLen;omega) (by omega) (by simp;omega)
 have N:Below w.heap.size w w2:=by
  have i:=(Below.refl w1.heap.size w1).alloc (Nat.le_refl _) (.cells (tokVals e).toArray 73);have Z:(w1.alloc (.cells (tokVals e).toArray 73)).heap.size=w1.heap.size+1:=by simp
  refine⟨f.os.trans (i.os.trans d.os),f.tape.trans (i.tape.trans d.tape),f.output.trans (i.output.trans d.output),by have:=f.size;omega,fun q s=>?_⟩;rw[f.block q (by omega) (fun e=>by have:=(K q e).1;omega),i.block q (by omega),d.block q s]
 rw[<- Qem]at H;have I:w2.ownsRow w.heap.size 73 4 v2 (toks++[e]).length (tokCells (toks++[e])):=by rw[List.length_append];exact H
 refine⟨v1,w1,v2,w2,R,d,S,N,?_,?_⟩
 ·
  rcases z.2 with ⟨e,_⟩|⟨_,_,_,e,_⟩
  ·exact⟨_,_,_,e⟩
  ·exact⟨_,_,_,e⟩
 rcases row_of I with ⟨_,e⟩|⟨g,cap,e,x⟩
 ·simp at e
 ·exact⟨g,cap,e,x,(World.ownsRow.lt I g (by rw[e];rfl)).1⟩
def RpA(w:World)(en:Ending)(w':World):Prop:=∃p0 m0 o0 p1 m1 o1 p2 m2 o2 p3 m3 o3 p4 m4 o4 why at_ p,en = .returned (.tuple #[.agg #[.slice p0 m0 o0,.slice p1 m1 o1,.slice p2 m2 o2,.slice p3 m3 o3,.slice p4 m4 o4],.agg #[.int .i64 why,.int .i64 at_]])/\Below w.heap.size w w'/\PgS (fun b=>w.heap.size<=b) w' [.slice p0 m0 o0,.slice p1 m1 o1,.slice p2 m2 o2,.slice p3 m3 o3,.slice p4 m4 o4] p/\Few p 97/\WfZ 65537 p
theorem Qnm(s:ByteArray)(hs:s.size<=281474976710656)(w:World):Calls Tryz.prog 8 #[.string s] w fun en w'=>RpA w en w':=by
 obtain⟨G,al⟩:=JE ((w.alloc pgZ).alloc ftZ);have b2:Below w.heap.size w G:=by rw[al];exact((Below.refl _ w).alloc (Nat.le_refl _) _).alloc (by simp) _
 have s2:G.heap.size=w.heap.size+2:=by rw[al];simp
 have o:G.heap[w.heap.size]?=some pgZ:=by rw[al,Below.heap_alloc _ _ _ (by simp)];exact heap_alloc_new w _
 have Y:G.heap[w.heap.size+1]?=some ftZ:=by
  rw[al];have:=heap_alloc_new (w.alloc pgZ) ftZ
  simpa using this
 have aj:=Qgd s hs G;have ax:Hid (G=(w.alloc (.cells #[Jn,Jn,Jn,Jn,Jn] 28)).alloc (.cells #[Ji 0,Ji 0] 31)):=al;have K2:=hide (Ya b2 (Ya o (Ya Y s2)));obtain⟨PO,aG⟩:∃PO:Ending->World->Prop,PO=fun en w'=>RpA w en w':=⟨_,rfl⟩;rw[<- aG];have aw:=hide aG;have ai:=Qpm s.data.toList;have aJ:s.data.toList.length=s.size:=(Qcs s).symm;clear b2 s2 o Y al aG
 cases hq:lexP s.data.toList with
 |bad why at1=>
  rw[hq]at aj ai;have hz:(why==0)=false:=beq_eq_false_iff_ne.2 ai.1;clear hq ai aJ;go_enter Tryz.func8,Tryz.ntmps8;go_wp2_with fail;rw[<- Qa ax];refine aj.mono ?_;clear aj ax;rintro en C⟨v,rfl,ac,b3⟩;obtain⟨b2,o,Y,s2⟩:=Qa K2;have aI:=b3.size;obtain⟨F,L⟩:=JE (C.alloc (.cells #[Ji why,Ji (at1:Int)] 31));have q:F.heap[C.heap.size]?=some (.cells #[Ji why,Ji (at1:Int)] 31 (0,0)):=by rw[L];exact heap_alloc_new C _
  have b4:Below G.heap.size G F:=by rw[L];exact b3.alloc b3.size _
  have B:=(b4.block _ (Qaa o)).trans o;have Q:=(b4.block _ (Qaa Y)).trans Y;have N:Below w.heap.size w F:=b2.trans (b4.mono (by omega));have b9:=b4.size;obtain⟨c0,c1,cf⟩:=cl2 q;have an:=hide L;clear L;simp only[Out.why,Out.fa];go_wp2_with fail;rw[<- Qa an];clear an;obtain⟨c,g⟩:=JE ((((((F.setCell (Ja w.heap.size 0) (Jn)).setCell (Ja w.heap.size 1) (Jn)).setCell (Ja w.heap.size 2) (Jn)).setCell (Ja w.heap.size 3) (Jn)).setCell (Ja w.heap.size 4) (Jn)).drew);have r:∀k,k≠w.heap.size->c.heap[k]?=F.heap[k]?:=fun k a=>by rw[g,show ∀v:World,v.drew.heap=v.heap from fun _=>rfl,hpS a,hpS a,hpS a,hpS a,hpS a]
  have J:c.heap[w.heap.size]?=some (.cells #[Jn,Jn,Jn,Jn,Jn] 28 (0,0)):=by rw[g];exact(Qah (Qah (Qah (Qah (Qah B 0 _) 1 _) 2 _) 3 _) 4 _).trans rfl
  have A:=(r (w.heap.size+1) (by omega)).trans Q;have O:Below w.heap.size w c:=by rw[g];exact(((((N.setCell (p:=(Ja w.heap.size 0)) (Nat.le_refl _) _).setCell (p:=(Ja w.heap.size 1)) (Nat.le_refl _) _).setCell (p:=(Ja w.heap.size 2)) (Nat.le_refl _) _).setCell (p:=(Ja w.heap.size 3)) (Nat.le_refl _) _).setCell (p:=(Ja w.heap.size 4)) (Nat.le_refl _) _).drew
  have a8:c.heap.size=F.heap.size:=by rw[g];simp
  obtain⟨y0,y1,yf⟩:=cl2 A;obtain⟨n,d⟩:=JE (((c.setCell (Ja (w.heap.size+1) 0) (Ji why)).setCell (Ja (w.heap.size+1) 1) (Ji (at1:Int))));have z:∀k,k≠w.heap.size+1->n.heap[k]?=c.heap[k]?:=fun k a=>by rw[d,hpS a,hpS a]
  have R:n.heap[w.heap.size+1]?=some (.cells #[Ji why,Ji (at1:Int)] 31 (0,0)):=by rw[d];exact(Qah (Qah A 0 _) 1 _).trans rfl
  have U:=(z w.heap.size (by omega)).trans J;have P:Below w.heap.size w n:=by rw[d];exact(O.setCell (p:=(Ja (w.heap.size+1) 0)) (by show w.heap.size<=w.heap.size+1;omega) _).setCell (p:=(Ja (w.heap.size+1) 1)) (by show w.heap.size<=w.heap.size+1;omega) _
  have aa:n.heap.size=c.heap.size:=by rw[d];simp
  obtain⟨x0,x1,x2,x3,x4,xf⟩:=cl5 B;have S:=hide (Ya q (Ya ((r C.heap.size (by omega)).trans q) ((z C.heap.size (by omega)).trans ((r C.heap.size (by omega)).trans q))));have HU:=hide (Ya U (Ya R P));have a3:=hide g;have I:=hide d;clear g r J A O a8 d z R U P aa ac b3 b2 o Y s2 aI q b4 B Q N b9 K2;go_wp2_with fail;refine Qaq (m:=3) (ml:=[(0,1),(1,1),(2,0),(3,0)]) (fun _ w'=>w'.heap[C.heap.size]?=some (.cells #[Ji why,Ji (at1:Int)] 31 (0,0))) mixedO (by kernel_rfl) rfl (by rfl) (by kernel_rfl) (fun PP a5=>?_);refine Qae rfl (by kernel_rfl) (fun _ _ _=>by go_simp<;>rfl) ?_;refine Qae rfl (by kernel_rfl) (fun f w' hw=>by obtain⟨u0,u1,uf⟩:=cl2 hw;go_simp<;>rfl) ?_;refine Qab rfl (Qa S).1 (fun K j=>?_);go_simp;rw[<- Qa a3];refine j _ _ ?_;clear j K a3 x0 x1 x2 x3 x4 xf;refine Qab rfl (Qa S).2.1 (fun K j=>?_);go_simp;rw[<- Qa I];refine j _ _ ?_;clear j K I y0 y1 yf;refine Qau (Qa S).2.2 (a5 _ _ ?_);clear a5 PP;obtain⟨p7,f7,ao⟩:=Qa HU;obtain⟨u0,u1,u2,u3,u4,uf⟩:=cl5 p7;obtain⟨t0,t1,tf⟩:=cl2 f7;go_wp2_with fail;refine bodyPost_ret (v:=.tuple #[.agg #[Jn,Jn,Jn,Jn,Jn],.agg #[Ji why,Ji (at1:Int)]]) (by simp[results,Tryz.results8,go_sem,u0,u1,u2,u3,u4,t0,t1]) rfl ?_;rw[Qa aw];exact⟨_,_,_,_,_,_,_,_,_,_,_,_,_,_,_,_,_,.none,rfl,ao,Ql _ _,Qbz _,Qcb⟩
 |ok toks=>
  rw[hq]at aj ai;obtain⟨x,g2,g3⟩:=Qub hq;have g4:=Qpl hq;have aY:=hide (lex_ne hq);have aq:∀t∈toks,t.at_<=65536:=fun t y=>by have:=Ris.at ai t y;omega
  rw[aJ]at x g2 g4;have HT:=hide (Ya aq (Ya x (Ya g2 g4)));clear hq ai aJ aq g2 g3 g4;go_enter Tryz.func8,Tryz.ntmps8;go_wp2_with fail;rw[<- Qa ax];refine aj.mono ?_;clear aj ax;rintro en C⟨v,rfl,ac,b3⟩;obtain⟨b2,o,Y,s2⟩:=Qa K2;have aI:=b3.size;obtain⟨aq,_,g2,g4⟩:=Qa HT;obtain⟨F,L⟩:=JE (C.alloc ftZ);have q:F.heap[C.heap.size]?=some ftZ:=by rw[L];exact heap_alloc_new C _
  have b4:Below G.heap.size G F:=by rw[L];exact b3.alloc b3.size _
  have s4:F.heap.size=C.heap.size+1:=by rw[L];simp
  have aR:F.ownsRow G.heap.size 73 4 v toks.length (tokCells toks):=by rw[L];exact World.ownsRow.alloc ac _
  obtain⟨v1,w5,v2,w7,r1,b5,r2,b7,⟨be,bg,bf,e1⟩,V,Z,e2,ae,bd⟩:=Qmj aR (by omega) ⟨0,[],0,s.size⟩;obtain⟨l,H⟩:∃l,toks++[(⟨0,[],0,s.size⟩:Tok)]=l:=⟨_,rfl⟩;have aW:Hid (l.length<=65537):=hide (by rw[<- H];simp only[List.length_append,List.length_singleton];omega)
  have aX:Hid (NeT l):=hide (fun t y a=>by
   rw[<- H]at y;rcases List.mem_append.1 y with h|h
   ·exact Qa aY t h a
   simp only[List.mem_singleton]at h;subst h
   exact absurd (show(0:Int)=1 from a) (by decide))
  rw[H]at ae e2;obtain⟨tn,ak⟩:=JF l.length;have aQ:tn=toks.length+1:=by rw[<- ak,<- H];simp
  rw[ak]at e2;subst e1 e2;obtain⟨i,a2⟩:=JF w7.heap.size;obtain⟨w8,az⟩:=JE (w7.alloc (.cells #[.slice (Js V) tn Z,Ji 0,Ji 0,Ji 0,Ji 0,Ji 0] 75));have b8:Below w7.heap.size w7 w8:=by rw[az];exact(Below.refl _ w7).alloc (Nat.le_refl _) _
  have n8:w8.heap[i]?=some (.cells #[.slice (Js V) tn Z,Ji 0,Ji 0,Ji 0,Ji 0,Ji 0] 75 (0,0)):=by rw[az,<- a2];exact heap_alloc_new w7 _
  have hR:Rr i V Z l w8 0 0 0 0 0:=by
   refine⟨by rw[ak];exact n8,ae.later b8,by have:=ae.lt;omega,by omega,by omega,fun t y=>?_,fun t y=>?_,fun _=>rfl,by omega,by omega,fun t y=>?_⟩
   ·
    rw[<- H]at y;rcases List.mem_append.1 y with h|h
    ·exact aq t h
    ·simp only[List.mem_singleton]at h;subst h;exact x
   ·
    rw[ak,aQ,<- H,Nat.add_sub_cancel,List.getElem?_append_right (Nat.le_refl _),Nat.sub_self]at y;cases y;rfl
   rw[<- H]at y;rcases List.mem_append.1 y with h|h
   ·have:=g4 t h;omega
   ·simp only[List.mem_singleton]at h;subst h;exact Nat.zero_le _
  have ba:=b7.size;have bb:=b8.size;have ay:Below G.heap.size G w8:=(b4.trans (b7.mono (by omega))).trans (b8.mono (by omega));have E:=(ay.block _ (Qaa o)).trans o;have D:=(ay.block _ (Qaa Y)).trans Y;have u:Below w.heap.size w w8:=b2.trans (ay.mono (by omega));have aS:=Qjl 33 0 rfl w8 0 0 0 0 hR (by omega) (fun _=>⟨by omega,by omega⟩);have c0:F.cell? (Ja C.heap.size 0)=some (Ji 0):=by rw[Qad q];rfl
  have c1:F.cell? (Ja C.heap.size 1)=some (Ji 0):=by rw[Qad q];rfl
  have K8:=hide (Ya u (Ya E (Ya D (show w.heap.size+2<=i/\i<w8.heap.size/\w.heap.size+2<=V by have:=Qaa n8;omega))));have HL:=hide ak;have an:Hid (F=C.alloc (.cells #[Ji 0,Ji 0] 31)):=L;have aE:=hide (Ya az a2);have aV:(Builtin.append_ #[69,69] 69 #[.slice be bg bf,.slice (Js w5.heap.size) 1 1]).run Tryz.prog (w5.alloc (.cells #[Ji 0,Je,Ji 0,Ji (s.size:Int)] 73)) = .ok (.slice (Js V) tn Z) w7:=r2;have aK:=hide r1;have aL:=hide aV;have bj:s.size<=65536:=x;clear ac b3 b2 o Y s2 aI aq g2 g4 L q b4 s4 aR r1 b5 r2 aV b7 ae bd H ak aQ a2 az b8 n8 hR ba bb ay E D u K2 x HT;simp only[Out.why,Out.fa];go_upto_region 2 with fail;rw[<- Qa an];clear an
  go_wp2_with (at_builtin; first
   |(refine Qaj _ rfl _ _ 69 rfl _ _ rfl rfl _ _ (Qa aK) ?_;clear aK)
   |(refine Qaj _ rfl _ _ 69 rfl _ _ rfl rfl _ _ (Qa aL) ?_;clear aL))
  rw[<- (Qa aE).1,(Qa aE).2];clear aE c0 c1;refine aS.mono ?_;clear aS;rintro en w9⟨_,a9,i9,y9,f9,rfl,⟨pg,p0,m0,o0,p1,m1,o1,o,m2,o2,p3,m3,o3,p4,m4,o4,rfl,ar,aO,aT⟩,b6,h9,k9⟩;have aN:=hide (Ya aO (show y9=0->WfZ 65537 pg from fun e=>(aT ((Rr.ok h9).2 e) (Qa aX)).mono (Qa aW)));clear aO aT;obtain⟨u,E,D,x,g2,g3⟩:=Qa K8;obtain⟨pb,a7⟩:=JF w9.heap.size;obtain⟨av,af⟩:=JE (w9.alloc (.cells #[.slice p0 m0 o0,.slice p1 m1 o1,.slice o m2 o2,.slice p3 m3 o3,.slice p4 m4 o4] 28));have ap:Below w9.heap.size w9 av:=by rw[af];exact(Below.refl _ w9).alloc (Nat.le_refl _) _
  have au:av.heap[pb]?=some (.cells #[.slice p0 m0 o0,.slice p1 m1 o1,.slice o m2 o2,.slice p3 m3 o3,.slice p4 m4 o4] 28 (0,0)):=by rw[af,<- a7];exact heap_alloc_new w9 _
  have bc:=k9.size;have aA:Kp i w8 av:=k9.trans (Kp.of_below ap);have ah:=h9.later ap;have a1:PgS (fun b=>w.heap.size+2<=b/\b≠i) av [.slice p0 m0 o0,.slice p1 m1 o1,.slice o m2 o2,.slice p3 m3 o3,.slice p4 m4 o4] pg:=Qal.mono _ _ _ _ _ (Qal.same _ _ av _ _ ar ap.size (fun b _ H=>ap.block b H)) (fun b _ hb=>by have bi:w8.heap.size<=b:=hb;exact⟨by omega,by omega⟩);obtain⟨t,y⟩:=ah.tok;have aH:=Qap ah y;unfold tkA at aH;have aM:=hide (Ya (u.trans (aA.bel (by omega) u.size)) (Ya (aA.keep E (by omega)) (Ya (aA.keep D (by omega)) (Ya x (Ya g2 (Ya ah (Ya au (Ya (show i<pb by omega) a1))))))));have am:=hide (Ya af a7);clear ar b6 h9 k9 u E D x g2 g3 a7 af ap au bc aA ah a1 y K8;go_wp2_with fail;rw[<- (Qa am).1,(Qa am).2];clear am;refine aH.mono ?_;clear aH;rintro en X⟨rfl,a4⟩
  have a0:=hide (show Below w.heap.size w X/\X.heap[w.heap.size]?=some pgZ/\X.heap[w.heap.size+1]?=some ftZ/\w.heap.size+2<=i/\Rr i V Z l X a9 0 i9 y9 f9/\X.heap[pb]?=some (.cells #[.slice p0 m0 o0,.slice p1 m1 o1,.slice o m2 o2,.slice p3 m3 o3,.slice p4 m4 o4] 28 (0,0))/\i<pb/\PgS (fun b=>w.heap.size+2<=b/\b≠i) X [.slice p0 m0 o0,.slice p1 m1 o1,.slice o m2 o2,.slice p3 m3 o3,.slice p4 m4 o4] pg by
   obtain⟨u,E,D,x,g2,ah,au,a7,a1⟩:=Qa aM
   exact⟨u.trans (a4.mono u.size),(a4.block _ (Qaa E)).trans E,(a4.block _ (Qaa D)).trans D,x,ah.later a4,(a4.block _ (Qaa au)).trans au,a7,Qal.same _ _ _ _ _ a1 a4.size (fun b _ H=>a4.block b H)⟩)
  clear a4 aM;by_cases kt:t.kind=0
  rotate_left
  ·
   have gt:(t.kind != 0)=true:=by simpa using kt
   clear kt;have aP:=Qbf (Qa a0).2.2.2.2.1 (why:=10) (by decide);go_wp2_with fail;rename_i j;refine j _ _ ?_;clear j;go_wp2_with fail;refine aP.mono ?_;clear aP;rintro en a6⟨_,bh,bk,ab,ag,rfl,rfl,⟨ea,ei,aC⟩,aF,aB⟩;rw[ea,ei]at aF;clear ea ei
   have aD:=hide (show Below w.heap.size w a6/\a6.heap[w.heap.size]?=some pgZ/\a6.heap[w.heap.size+1]?=some ftZ/\w.heap.size+2<=i/\Rr i V Z l a6 a9 0 i9 ab ag/\True by
    obtain⟨u,E,D,x,_⟩:=Qa a0
    exact⟨u.trans (aB.bel (by omega) u.size),aB.keep E (by omega),aB.keep D (by omega),x,aF,trivial⟩)
   have aU:¬(ab=0):=aC;clear aF aB aC a0;have M:=Qax (Qa aD).2.2.2.2.1;rw[decide_eq_false aU]at M;have T:Hid (Below w.heap.size w a6/\a6.heap[w.heap.size]?=some pgZ/\a6.heap[w.heap.size+1]?=some ftZ/\w.heap.size+2<=i/\a6.heap[i]?=some (.cells #[.slice (Js V) tn Z,Ji (a9:Int),Ji ((0:Nat):Int),Ji (i9:Int),Ji ab,Ji ag] 75 (0,0))):=by
    obtain⟨u,E,D,x,hR,_⟩:=Qa aD;exact⟨u,E,D,x,by have:=hR.box;rw[Qa HL]at this;exact this⟩
   clear aU aD;go_wp2_with fail;refine M.mono ?_;clear M;rintro en W⟨rfl,rfl⟩;have B:=(Qa T).2.1;have Q:=(Qa T).2.2.1;have N:=(Qa T).1;have a2:=(Qa T).2.2.2.1;have q:=(Qa T).2.2.2.2;obtain⟨c,g⟩:=JE ((((((W.setCell (Ja w.heap.size 0) (Jn)).setCell (Ja w.heap.size 1) (Jn)).setCell (Ja w.heap.size 2) (Jn)).setCell (Ja w.heap.size 3) (Jn)).setCell (Ja w.heap.size 4) (Jn)).drew);have r:∀k,k≠w.heap.size->c.heap[k]?=W.heap[k]?:=fun k a=>by rw[g,show ∀v:World,v.drew.heap=v.heap from fun _=>rfl,hpS a,hpS a,hpS a,hpS a,hpS a]
   have J:c.heap[w.heap.size]?=some (.cells #[Jn,Jn,Jn,Jn,Jn] 28 (0,0)):=by rw[g];exact(Qah (Qah (Qah (Qah (Qah B 0 _) 1 _) 2 _) 3 _) 4 _).trans rfl
   have A:=(r (w.heap.size+1) (by omega)).trans Q;have O:Below w.heap.size w c:=by rw[g];exact(((((N.setCell (p:=(Ja w.heap.size 0)) (Nat.le_refl _) _).setCell (p:=(Ja w.heap.size 1)) (Nat.le_refl _) _).setCell (p:=(Ja w.heap.size 2)) (Nat.le_refl _) _).setCell (p:=(Ja w.heap.size 3)) (Nat.le_refl _) _).setCell (p:=(Ja w.heap.size 4)) (Nat.le_refl _) _).drew
   have a8:c.heap.size=W.heap.size:=by rw[g];simp
   obtain⟨y0,y1,yf⟩:=cl2 A;obtain⟨n,d⟩:=JE (((c.setCell (Ja (w.heap.size+1) 0) (Ji ab)).setCell (Ja (w.heap.size+1) 1) (Ji ag)));have z:∀k,k≠w.heap.size+1->n.heap[k]?=c.heap[k]?:=fun k a=>by rw[d,hpS a,hpS a]
   have R:n.heap[w.heap.size+1]?=some (.cells #[Ji ab,Ji ag] 31 (0,0)):=by rw[d];exact(Qah (Qah A 0 _) 1 _).trans rfl
   have U:=(z w.heap.size (by omega)).trans J;have P:Below w.heap.size w n:=by rw[d];exact(O.setCell (p:=(Ja (w.heap.size+1) 0)) (by show w.heap.size<=w.heap.size+1;omega) _).setCell (p:=(Ja (w.heap.size+1) 1)) (by show w.heap.size<=w.heap.size+1;omega) _
   have aa:n.heap.size=c.heap.size:=by rw[d];simp
   obtain⟨x0,x1,x2,x3,x4,xf⟩:=cl5 B;have S:=hide (Ya q (Ya ((r i (by omega)).trans q) ((z i (by omega)).trans ((r i (by omega)).trans q))));have HU:=hide (Ya U (Ya R P));have a3:=hide g;have I:=hide d;clear g r J A O a8 d z R U P aa B Q N a2 q;go_wp2_with fail;refine Qaq (m:=4) (ml:=[(0,1),(1,1),(2,1),(3,0),(4,0)]) (fun _ w'=>w'.heap[i]?=some (.cells #[.slice (Js V) tn Z,Ji (a9:Int),Ji ((0:Nat):Int),Ji (i9:Int),Ji ab,Ji ag] 75 (0,0))) mixedO (by kernel_rfl) rfl (by rfl) (by kernel_rfl) (fun PP a5=>?_);refine Qae rfl (by kernel_rfl) (fun _ _ _=>by go_simp<;>rfl) ?_;refine Qae rfl (by kernel_rfl) (fun _ _ _=>by go_simp<;>rfl) ?_;refine Qae rfl (by kernel_rfl) (fun f w' hw=>by obtain⟨u0,u1,u2,u3,u4,u5,uf⟩:=cl6 hw;go_simp<;>rfl) ?_;refine Qab rfl (Qa S).1 (fun K j=>?_);go_simp;rw[<- Qa a3];refine j _ _ ?_;clear j K a3 x0 x1 x2 x3 x4 xf;refine Qab rfl (Qa S).2.1 (fun K j=>?_);go_simp;rw[<- Qa I];refine j _ _ ?_;clear j K I y0 y1 yf;refine Qau (Qa S).2.2 (a5 _ _ ?_);clear a5 PP;obtain⟨p7,f7,ao⟩:=Qa HU;obtain⟨u0,u1,u2,u3,u4,uf⟩:=cl5 p7;obtain⟨t0,t1,tf⟩:=cl2 f7;go_wp2_with fail;refine bodyPost_ret (v:=.tuple #[.agg #[Jn,Jn,Jn,Jn,Jn],.agg #[Ji ab,Ji ag]]) (by simp[results,Tryz.results8,go_sem,u0,u1,u2,u3,u4,t0,t1]) rfl ?_;rw[Qa aw];exact⟨_,_,_,_,_,_,_,_,_,_,_,_,_,_,_,_,_,.none,rfl,ao,Ql _ _,Qbz _,Qcb⟩
  have gt:(t.kind != 0)=false:=by simpa using kt
  clear kt;go_wp2_with fail;rename_i j;refine j _ _ ?_;clear j;by_cases hy:y9=0
  ·
   have M:=Qax (Qa a0).2.2.2.2.1;rw[decide_eq_true hy]at M;have aZ:=hide hy;clear hy;go_wp2_with fail;refine M.mono ?_;clear M;rintro en W⟨rfl,rfl⟩;obtain⟨N,B,Q,a2,_,bp,a7,ar⟩:=Qa a0;obtain⟨v0,v1,v2,v3,v4,vf⟩:=cl5 bp;obtain⟨c,g⟩:=JE ((((((W.setCell (Ja w.heap.size 0) (.slice p0 m0 o0)).setCell (Ja w.heap.size 1) (.slice p1 m1 o1)).setCell (Ja w.heap.size 2) (.slice o m2 o2)).setCell (Ja w.heap.size 3) (.slice p3 m3 o3)).setCell (Ja w.heap.size 4) (.slice p4 m4 o4)));have r:∀k,k≠w.heap.size->c.heap[k]?=W.heap[k]?:=fun k a=>by rw[g,hpS a,hpS a,hpS a,hpS a,hpS a]
   have J:c.heap[w.heap.size]?=some (.cells #[.slice p0 m0 o0,.slice p1 m1 o1,.slice o m2 o2,.slice p3 m3 o3,.slice p4 m4 o4] 28 (0,0)):=by rw[g];exact(Qah (Qah (Qah (Qah (Qah B 0 _) 1 _) 2 _) 3 _) 4 _).trans rfl
   have A:=(r (w.heap.size+1) (by omega)).trans Q;have O:Below w.heap.size w c:=by rw[g];exact(((((N.setCell (p:=(Ja w.heap.size 0)) (Nat.le_refl _) _).setCell (p:=(Ja w.heap.size 1)) (Nat.le_refl _) _).setCell (p:=(Ja w.heap.size 2)) (Nat.le_refl _) _).setCell (p:=(Ja w.heap.size 3)) (Nat.le_refl _) _).setCell (p:=(Ja w.heap.size 4)) (Nat.le_refl _) _)
   have a8:c.heap.size=W.heap.size:=by rw[g];simp
   obtain⟨y0,y1,yf⟩:=cl2 A;obtain⟨n,d⟩:=JE (((c.setCell (Ja (w.heap.size+1) 0) (Ji 0)).setCell (Ja (w.heap.size+1) 1) (Ji 0)));have z:∀k,k≠w.heap.size+1->n.heap[k]?=c.heap[k]?:=fun k a=>by rw[d,hpS a,hpS a]
   have R:n.heap[w.heap.size+1]?=some (.cells #[Ji 0,Ji 0] 31 (0,0)):=by rw[d];exact(Qah (Qah A 0 _) 1 _).trans rfl
   have U:=(z w.heap.size (by omega)).trans J;have P:Below w.heap.size w n:=by rw[d];exact(O.setCell (p:=(Ja (w.heap.size+1) 0)) (by show w.heap.size<=w.heap.size+1;omega) _).setCell (p:=(Ja (w.heap.size+1) 1)) (by show w.heap.size<=w.heap.size+1;omega) _
   have aa:n.heap.size=c.heap.size:=by rw[d];simp
   obtain⟨x0,x1,x2,x3,x4,xf⟩:=cl5 B;have ad:PgS (fun b=>w.heap.size<=b) n [.slice p0 m0 o0,.slice p1 m1 o1,.slice o m2 o2,.slice p3 m3 o3,.slice p4 m4 o4] pg:=Qal.mono _ _ _ _ _ (Qal.same _ _ n _ _ ar (by omega) (fun b hb _=>(z b (by have:=hb.1;omega)).trans (r b (by have:=hb.1;omega)))) (fun b _ hb=>by have:=hb.1;omega);have HU:=hide (Ya U (Ya R (Ya P ad)));have I:=hide d;clear N B Q a2 bp a7 ar r J A O a8 d z R U P aa ad a0;subst g;go_wp2_with fail;rw[<- Qa I];obtain⟨p9,b1,b0,ad⟩:=Qa HU;obtain⟨u0,u1,u2,u3,u4,uf⟩:=cl5 p9;obtain⟨t0,t1,tf⟩:=cl2 b1;clear x0 x1 x2 x3 x4 xf y0 y1 yf I HU v0 v1 v2 v3 v4 vf;go_wp2_with fail;refine bodyPost_ret (v:=.tuple #[.agg #[.slice p0 m0 o0,.slice p1 m1 o1,.slice o m2 o2,.slice p3 m3 o3,.slice p4 m4 o4],.agg #[Ji 0,Ji 0]]) (by simp[results,Tryz.results8,go_sem,u0,u1,u2,u3,u4,t0,t1]) rfl ?_;rw[Qa aw];exact⟨_,_,_,_,_,_,_,_,_,_,_,_,_,_,_,_,_,pg,rfl,b0,ad,(Qa aN).1,(Qa aN).2 (Qa aZ)⟩
  have M:=Qax (Qa a0).2.2.2.2.1;rw[decide_eq_false hy]at M;have T:Hid (Below w.heap.size w X/\X.heap[w.heap.size]?=some pgZ/\X.heap[w.heap.size+1]?=some ftZ/\w.heap.size+2<=i/\X.heap[i]?=some (.cells #[.slice (Js V) tn Z,Ji (a9:Int),Ji ((0:Nat):Int),Ji (i9:Int),Ji y9,Ji f9] 75 (0,0))):=by
   obtain⟨u,E,D,x,hR,_⟩:=Qa a0;exact⟨u,E,D,x,by have:=hR.box;rw[Qa HL]at this;exact this⟩
  clear hy a0;go_wp2_with fail;refine M.mono ?_;clear M;rintro en W⟨rfl,rfl⟩;have B:=(Qa T).2.1;have Q:=(Qa T).2.2.1;have N:=(Qa T).1;have a2:=(Qa T).2.2.2.1;have q:=(Qa T).2.2.2.2;obtain⟨c,g⟩:=JE ((((((W.setCell (Ja w.heap.size 0) (Jn)).setCell (Ja w.heap.size 1) (Jn)).setCell (Ja w.heap.size 2) (Jn)).setCell (Ja w.heap.size 3) (Jn)).setCell (Ja w.heap.size 4) (Jn)).drew);have r:∀k,k≠w.heap.size->c.heap[k]?=W.heap[k]?:=fun k a=>by rw[g,show ∀v:World,v.drew.heap=v.heap from fun _=>rfl,hpS a,hpS a,hpS a,hpS a,hpS a]
  have J:c.heap[w.heap.size]?=some (.cells #[Jn,Jn,Jn,Jn,Jn] 28 (0,0)):=by rw[g];exact(Qah (Qah (Qah (Qah (Qah B 0 _) 1 _) 2 _) 3 _) 4 _).trans rfl
  have A:=(r (w.heap.size+1) (by omega)).trans Q;have O:Below w.heap.size w c:=by rw[g];exact(((((N.setCell (p:=(Ja w.heap.size 0)) (Nat.le_refl _) _).setCell (p:=(Ja w.heap.size 1)) (Nat.le_refl _) _).setCell (p:=(Ja w.heap.size 2)) (Nat.le_refl _) _).setCell (p:=(Ja w.heap.size 3)) (Nat.le_refl _) _).setCell (p:=(Ja w.heap.size 4)) (Nat.le_refl _) _).drew
  have a8:c.heap.size=W.heap.size:=by rw[g];simp
  obtain⟨y0,y1,yf⟩:=cl2 A;obtain⟨n,d⟩:=JE (((c.setCell (Ja (w.heap.size+1) 0) (Ji y9)).setCell (Ja (w.heap.size+1) 1) (Ji f9)));have z:∀k,k≠w.heap.size+1->n.heap[k]?=c.heap[k]?:=fun k a=>by rw[d,hpS a,hpS a]
  have R:n.heap[w.heap.size+1]?=some (.cells #[Ji y9,Ji f9] 31 (0,0)):=by rw[d];exact(Qah (Qah A 0 _) 1 _).trans rfl
  have U:=(z w.heap.size (by omega)).trans J;have P:Below w.heap.size w n:=by rw[d];exact(O.setCell (p:=(Ja (w.heap.size+1) 0)) (by show w.heap.size<=w.heap.size+1;omega) _).setCell (p:=(Ja (w.heap.size+1) 1)) (by show w.heap.size<=w.heap.size+1;omega) _
  have aa:n.heap.size=c.heap.size:=by rw[d];simp
  obtain⟨x0,x1,x2,x3,x4,xf⟩:=cl5 B;have S:=hide (Ya q (Ya ((r i (by omega)).trans q) ((z i (by omega)).trans ((r i (by omega)).trans q))));have HU:=hide (Ya U (Ya R P));have a3:=hide g;have I:=hide d;clear g r J A O a8 d z R U P aa B Q N a2 q;go_wp2_with fail;refine Qaq (m:=4) (ml:=[(0,1),(1,1),(2,1),(3,0),(4,0)]) (fun _ w'=>w'.heap[i]?=some (.cells #[.slice (Js V) tn Z,Ji (a9:Int),Ji ((0:Nat):Int),Ji (i9:Int),Ji y9,Ji f9] 75 (0,0))) mixedO (by kernel_rfl) rfl (by rfl) (by kernel_rfl) (fun PP a5=>?_);refine Qae rfl (by kernel_rfl) (fun _ _ _=>by go_simp<;>rfl) ?_;refine Qae rfl (by kernel_rfl) (fun _ _ _=>by go_simp<;>rfl) ?_;refine Qae rfl (by kernel_rfl) (fun f w' hw=>by obtain⟨u0,u1,u2,u3,u4,u5,uf⟩:=cl6 hw;go_simp<;>rfl) ?_;refine Qab rfl (Qa S).1 (fun K j=>?_);go_simp;rw[<- Qa a3];refine j _ _ ?_;clear j K a3 x0 x1 x2 x3 x4 xf;refine Qab rfl (Qa S).2.1 (fun K j=>?_);go_simp;rw[<- Qa I];refine j _ _ ?_;clear j K I y0 y1 yf;refine Qau (Qa S).2.2 (a5 _ _ ?_);clear a5 PP;obtain⟨p7,f7,ao⟩:=Qa HU;obtain⟨u0,u1,u2,u3,u4,uf⟩:=cl5 p7;obtain⟨t0,t1,tf⟩:=cl2 f7;go_wp2_with fail;refine bodyPost_ret (v:=.tuple #[.agg #[Jn,Jn,Jn,Jn,Jn],.agg #[Ji y9,Ji f9]]) (by simp[results,Tryz.results8,go_sem,u0,u1,u2,u3,u4,t0,t1]) rfl ?_;rw[Qa aw];exact⟨_,_,_,_,_,_,_,_,_,_,_,_,_,_,_,_,_,.none,rfl,ao,Ql _ _,Qbz _,Qcb⟩
end
end Go.Proofs.YtkhndlnadhggkaaGreat
