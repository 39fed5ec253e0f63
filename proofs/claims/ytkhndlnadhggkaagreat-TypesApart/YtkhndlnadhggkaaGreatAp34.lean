/- types. -/
import Derived.Test.YtkhndlnadhggkaaGreatAp01
import Derived.Test.YtkhndlnadhggkaaGreatAp33
import Derived.Test.YtkhndlnadhggkaaGreatAp07
set_option maxRecDepth 100000
set_option maxHeartbeats 32000000
namespace Go.Proofs.YtkhndlnadhggkaaGreat
section
open Go.RowKit Go.Maps
structure Ms(w1:World)(o1 o2 o3:Option (Nat×List (Txt×Value)))(W:World):Prop where
 bel:Below w1.heap.size w1 W
 m1:∀q∈o1,w1.heap.size<=q.1/\MpS W q.1 q.2
 m2:∀q∈o2,w1.heap.size<=q.1/\MpS W q.1 q.2
 m3:∀q∈o3,w1.heap.size<=q.1/\MpS W q.1 q.2
 n12:∀q∈o1,∀r∈o2,q.1≠r.1
 n13:∀q∈o1,∀r∈o3,q.1≠r.1
 n23:∀q∈o2,∀r∈o3,q.1≠r.1
section
variable {w1 W:World}{o1 o2 o3:Option (Nat×List (Txt×Value))}
theorem Ms.start(w1:World):Ms w1 none none none w1:=⟨Below.refl _ _,by simp,by simp,by simp,by simp,by simp,by simp⟩
theorem Ms.later{W':World}(h:Ms w1 o1 o2 o3 W)(b:Below W.heap.size W W'):Ms w1 o1 o2 o3 W':=
 ⟨h.bel.trans (b.mono h.bel.size),fun q d=>⟨(h.m1 q d).1,(h.m1 q d).2.keep (b.block _ (h.m1 q d).2.lt)⟩,fun q d=>⟨(h.m2 q d).1,(h.m2 q d).2.keep (b.block _ (h.m2 q d).2.lt)⟩,fun q d=>⟨(h.m3 q d).1,(h.m3 q d).2.keep (b.block _ (h.m3 q d).2.lt)⟩,h.n12,h.n13,h.n23⟩
theorem Ms.mk1(h:Ms w1 none o2 o3 W):Ms w1 (some (W.heap.size,[])) o2 o3 (W.alloc (.map #[] 0)):=by
 have b:=(Below.refl W.heap.size W).alloc (Nat.le_refl _) (.map #[] 0);have e:=h.later b;refine⟨e.bel,fun q d=>?_,e.m2,e.m3,fun q d r f=>?_,fun q d r f=>?_,h.n23⟩
 ·cases d;exact⟨h.bel.size,MpS.new W⟩
 ·cases d;have:=(h.m2 r f).2.lt;show W.heap.size≠r.1;omega
 ·cases d;have:=(h.m3 r f).2.lt;show W.heap.size≠r.1;omega
theorem Ms.mk2(h:Ms w1 o1 none o3 W):Ms w1 o1 (some (W.heap.size,[])) o3 (W.alloc (.map #[] 0)):=by
 have b:=(Below.refl W.heap.size W).alloc (Nat.le_refl _) (.map #[] 0);have e:=h.later b;refine⟨e.bel,e.m1,fun q d=>?_,e.m3,fun q d r f=>?_,h.n13,fun q d r f=>?_⟩
 ·cases d;exact⟨h.bel.size,MpS.new W⟩
 ·cases f;have:=(h.m1 q d).2.lt;show q.1≠W.heap.size;omega
 ·cases d;have:=(h.m3 r f).2.lt;show W.heap.size≠r.1;omega
theorem Ms.mk3(h:Ms w1 o1 o2 none W):Ms w1 o1 o2 (some (W.heap.size,[])) (W.alloc (.map #[] 0)):=by
 have b:=(Below.refl W.heap.size W).alloc (Nat.le_refl _) (.map #[] 0);have e:=h.later b;refine⟨e.bel,e.m1,e.m2,fun q d=>?_,h.n12,fun q d r f=>?_,fun q d r f=>?_⟩
 ·cases d;exact⟨h.bel.size,MpS.new W⟩
 ·cases f;have:=(h.m1 q d).2.lt;show q.1≠W.heap.size;omega
 ·cases f;have:=(h.m2 q d).2.lt;show q.1≠W.heap.size;omega
theorem Ms.ins{m:Nat}{ms:List (Txt×Value)}(h:Ms w1 (some (m,ms)) o2 o3 W)(t:Txt)(v:Value)(hn:asc ms t=none):∃W',(Instr.mapUpdate 125 (.map (some m)) (str t) v).run Tryz.prog W = .ok () W'/\Ms w1 (some (m,ms++[(t,v)])) o2 o3 W':=by
 obtain⟨f,i⟩:=h.m1 _ rfl;obtain⟨W',d,g,l,j,n,s,e⟩:=Qqw uS mI W m ms t v i hn;refine⟨W',d,⟨⟨j.trans h.bel.os,n.trans h.bel.tape,s.trans h.bel.output,by rw[l];exact h.bel.size,fun q b=>(e q (by have B:w1.heap.size<=m:=f;omega)).trans (h.bel.block q b)⟩,fun q b=>?_,fun q b=>?_,fun q b=>?_,fun q b r d=>?_,fun q b r d=>?_,h.n23⟩⟩
 ·cases b;exact⟨f,g⟩
 ·exact⟨(h.m2 q b).1,(h.m2 q b).2.keep (e _ (Ne.symm (h.n12 _ rfl q b)))⟩
 ·exact⟨(h.m3 q b).1,(h.m3 q b).2.keep (e _ (Ne.symm (h.n13 _ rfl q b)))⟩
 ·cases b;exact h.n12 _ rfl r d
 ·cases b;exact h.n13 _ rfl r d
end
theorem Qkt{M KT ET:TypeId}(hM:Tryz.prog.underlying M=some (.map KT ET))(w:World)(k:Int):(Instr.makeMap M (some (Ji k))).run Tryz.prog w = .ok (.map (some w.heap.size)) (w.alloc (.map #[] 0)):=by
 unfold Instr.makeMap;simp only[Sem.run_bind,run_underlying hM,Result.andThen_ok];rfl
section
variable {P:Program}{ops:Array Oper}{Q:Exit->Act->World->Prop}{C:World->Prop}{K:Act->World->Prop}{k:Nat}{o:Oper}{a:Act}{w W':World}{v:Value}
theorem Qik(ho:ops[k]?=some o)(hw:Region.wanted o (yielded ops a.tmps)=true)(hr:(execOp a.eval o).run P w = .ok (.value v) W')(h:K (a.put o.dst v) W'):wpOp P ops Q k K a w:=
 wpOp_step ho (fun d b=>by rw[if_pos hw];unfold Oper.wp;rw[hr];exact b _ _ h)
theorem Qjy(ho:ops[k]?=some o)(hw:Region.wanted o (yielded ops a.tmps)=true)(hr:(execOp a.eval o).run P w = .ok .skip W')(h:K (a.put o.dst undef) W'):wpOp P ops Q k K a w:=
 wpOp_step ho (fun d b=>by rw[if_pos hw];unfold Oper.wp;rw[hr];exact b _ _ h)
def wpTk(P:Program)(ops:Array Oper)(C:World->Prop)(K:Act->World->Prop):List Nat->Act->World->Prop
 | [],a,w=>K a w
 |k :: r,a,w=>∃o v,ops[k]?=some o/\(∀w,C w->YieldsAt P ops w o v a)/\wpTk P ops C K r (a.put o.dst v) w
def okTk(md:Region.Mode)(ops:Array Oper):List Nat->Array Bool->Bool
 | [],_=>true
 |k :: r,listed=>(Region.ready md ops listed).contains k&&Region.free md ops listed k&&okTk md ops r (listed.setIfInBounds k true)
theorem Qjx{md:Region.Mode}(hsel:Region.noSelect ops=true)(hL:¬LetsOut Q)(hQ:∀c (a:Act) d v w,Q (.panic c) (a.put d v) w->Q (.panic c) a w)(n:Nat):∀(ks:List Nat) (listed:Array Bool) (a:Act) (w:World),okTk md ops ks listed=true->wpTk P ops C (wpAnyC P md ops C Q n (ks.foldl (fun l k=>l.setIfInBounds k true) listed)) ks a w->wpAnyC P md ops C Q (n+ks.length) listed a w
 | [],listed,a,w,_,h=>h
 |k :: r,listed,a,w,hB,h=>by
  simp only[okTk,Bool.and_eq_true]at hB;obtain⟨⟨hr,hf⟩,hB'⟩:=hB;obtain⟨o,v,b,f,e⟩:=h;exact Qbs b (Region.noSelect_spec hsel) hL hQ (n+r.length) listed a w (Region.free_spec b hf) (by simpa using hr) f (Qjx hsel hL hQ n r _ _ _ hB' e)
theorem Qrr{r:List Nat}(ho:ops[k]?=some o)(hw:Region.wanted o (yielded ops a.tmps)=true)(hy:∀w',C w'->(execOp a.eval o).run P w' = .ok (.value v) w')(h:wpTk P ops C K r (a.put o.dst v) w):wpTk P ops C K (k :: r) a w:=⟨o,v,ho,fun w' b=>.inl ⟨hw,.inl (hy w' b)⟩,h⟩
def Lf(b1 b2 b3 b4 x y:Bool):Array Bool:=#[true,b1,b2,b3,b4,true,true,true,x,true,true,true,y,false,false,false]
def rst(x y:Bool):List Nat:=(bif x then [] else [8])++(bif y then [] else [12])
theorem cat_any{o4:Oper}(J:Nat->Bool->Bool->Act->World->Prop)(hsel:Region.noSelect ops=true)(hL:¬LetsOut Q)(hQ:∀c (a:Act) d v w,Q (.panic c) (a.put d v) w->Q (.panic c) a w)(ho4:ops[4]?=some o4)(hC:∀m x y a w,J m x y a w->C w)
  (r0:∀x y,Region.ready .any ops (Lf false false false false x y)=[1]++rst x y)
  (r1:∀x y,Region.ready .any ops (Lf true false false false x y)=[2,3]++rst x y)
  (r2:∀x y,Region.ready .any ops (Lf true true false false x y)=[3]++rst x y)
  (r3:∀x y,Region.ready .any ops (Lf true false true false x y)=[2]++rst x y)
  (r4:∀x y,(x&&y)=false->Region.ready .any ops (Lf true true true true x y)=rst x y)
  (r5:∀x y,(Region.ready .any ops (Lf true true true false x y)).contains 4=true/\Region.free .any ops (Lf true true true false x y) 4=true)
  (h1_0:∀x y a w,J 0 x y a w->wpOp P ops Q 1 (J 1 x y) a w)
  (h2_1:∀x y a w,J 1 x y a w->wpOp P ops Q 2 (J 2 x y) a w)
  (h2_3:∀x y a w,J 3 x y a w->wpOp P ops Q 2 (J 5 x y) a w)
  (h3_1:∀x y a w,J 1 x y a w->wpOp P ops Q 3 (J 3 x y) a w)
  (h3_2:∀x y a w,J 2 x y a w->wpOp P ops Q 3 (J 5 x y) a w)
  (h4:∀x y a w,J 5 x y a w -> ∃v,(∀w,C w->YieldsAt P ops w o4 v a)/\J 4 x y (a.put o4.dst v) w)
  (h8:∀m y a w,J m false y a w->wpOp P ops Q 8 (J m true y) a w)
  (h12:∀m x a w,J m x false a w->wpOp P ops Q 12 (J m x true) a w)
  (hE:∀a w,J 4 true true a w->wpAnyC P .any ops C Q 3 (Lf true true true true true true) a w)
  : ∀a w,J 0 false false a w->wpAnyC P .any ops C Q 9 (Lf false false false false false false) a w:=by
 have s:=hE;have R:∀a w,J 5 true true a w->wpAnyC P .any ops C Q 4 (Lf true true true false true true) a w:=fun a w h=>by
  obtain⟨v,l,b⟩:=h4 _ _ _ _ h;exact Qbs ho4 (Region.noSelect_spec hsel) hL hQ 3 _ a w (Region.free_spec ho4 (r5 true true).2) (by simpa using (r5 true true).1) l (s _ _ b)
 have q:∀a w,J 2 true true a w->wpAnyC P .any ops C Q 5 (Lf true true false false true true) a w:=fun a w h=>by
  have e:Region.ready .any ops (Lf true true false false true true)=[3]:=r2 true true;refine⟨hC _ _ _ _ _ h,fun j=>(by rw[e]at j;cases j),fun i g=>?_⟩;rw[e]at g;simp only[List.mem_cons,List.not_mem_nil,or_false]at g;subst g;exact wpOp_mono (fun f w' b=>R f w' b) (h3_2 _ _ _ _ h)
 have r:∀a w,J 3 true true a w->wpAnyC P .any ops C Q 5 (Lf true false true false true true) a w:=fun a w h=>by
  have e:Region.ready .any ops (Lf true false true false true true)=[2]:=r3 true true;refine⟨hC _ _ _ _ _ h,fun j=>(by rw[e]at j;cases j),fun i g=>?_⟩;rw[e]at g;simp only[List.mem_cons,List.not_mem_nil,or_false]at g;subst g;exact wpOp_mono (fun f w' b=>R f w' b) (h2_3 _ _ _ _ h)
 have n:∀a w,J 1 true true a w->wpAnyC P .any ops C Q 6 (Lf true false false false true true) a w:=fun a w h=>by
  have e:Region.ready .any ops (Lf true false false false true true)=[2,3]:=r1 true true;refine⟨hC _ _ _ _ _ h,fun j=>(by rw[e]at j;cases j),fun i g=>?_⟩;rw[e]at g;simp only[List.mem_cons,List.not_mem_nil,or_false]at g;rcases g with rfl|rfl
  ·exact wpOp_mono (fun f w' b=>q f w' b) (h2_1 _ _ _ _ h)
  ·exact wpOp_mono (fun f w' b=>r f w' b) (h3_1 _ _ _ _ h)
 have t:∀a w,J 0 true true a w->wpAnyC P .any ops C Q 7 (Lf false false false false true true) a w:=fun a w h=>by
  have e:Region.ready .any ops (Lf false false false false true true)=[1]:=r0 true true;refine⟨hC _ _ _ _ _ h,fun j=>(by rw[e]at j;cases j),fun i g=>?_⟩;rw[e]at g;simp only[List.mem_cons,List.not_mem_nil,or_false]at g;subst g;exact wpOp_mono (fun f w' b=>n f w' b) (h1_0 _ _ _ _ h)
 have I:∀a w,J 4 false true a w->wpAnyC P .any ops C Q 4 (Lf true true true true false true) a w:=fun a w h=>by
  have e:Region.ready .any ops (Lf true true true true false true)=[8]:=r4 false true rfl;refine⟨hC _ _ _ _ _ h,fun j=>(by rw[e]at j;cases j),fun i g=>?_⟩;rw[e]at g;simp only[List.mem_cons,List.not_mem_nil,or_false]at g;subst g;exact wpOp_mono (fun f w' b=>s f w' b) (h8 _ _ _ _ h)
 have N:∀a w,J 5 false true a w->wpAnyC P .any ops C Q 5 (Lf true true true false false true) a w:=fun a w h=>by
  obtain⟨v,l,b⟩:=h4 _ _ _ _ h;exact Qbs ho4 (Region.noSelect_spec hsel) hL hQ 4 _ a w (Region.free_spec ho4 (r5 false true).2) (by simpa using (r5 false true).1) l (I _ _ b)
 have E:∀a w,J 2 false true a w->wpAnyC P .any ops C Q 6 (Lf true true false false false true) a w:=fun a w h=>by
  have e:Region.ready .any ops (Lf true true false false false true)=[3,8]:=r2 false true;refine⟨hC _ _ _ _ _ h,fun j=>(by rw[e]at j;cases j),fun i g=>?_⟩;rw[e]at g;simp only[List.mem_cons,List.not_mem_nil,or_false]at g;rcases g with rfl|rfl
  ·exact wpOp_mono (fun f w' b=>N f w' b) (h3_2 _ _ _ _ h)
  ·exact wpOp_mono (fun f w' b=>q f w' b) (h8 _ _ _ _ h)
 have G:∀a w,J 3 false true a w->wpAnyC P .any ops C Q 6 (Lf true false true false false true) a w:=fun a w h=>by
  have e:Region.ready .any ops (Lf true false true false false true)=[2,8]:=r3 false true;refine⟨hC _ _ _ _ _ h,fun j=>(by rw[e]at j;cases j),fun i g=>?_⟩;rw[e]at g;simp only[List.mem_cons,List.not_mem_nil,or_false]at g;rcases g with rfl|rfl
  ·exact wpOp_mono (fun f w' b=>N f w' b) (h2_3 _ _ _ _ h)
  ·exact wpOp_mono (fun f w' b=>r f w' b) (h8 _ _ _ _ h)
 have B:∀a w,J 1 false true a w->wpAnyC P .any ops C Q 7 (Lf true false false false false true) a w:=fun a w h=>by
  have e:Region.ready .any ops (Lf true false false false false true)=[2,3,8]:=r1 false true;refine⟨hC _ _ _ _ _ h,fun j=>(by rw[e]at j;cases j),fun i g=>?_⟩;rw[e]at g;simp only[List.mem_cons,List.not_mem_nil,or_false]at g;rcases g with rfl|rfl|rfl
  ·exact wpOp_mono (fun f w' b=>E f w' b) (h2_1 _ _ _ _ h)
  ·exact wpOp_mono (fun f w' b=>G f w' b) (h3_1 _ _ _ _ h)
  ·exact wpOp_mono (fun f w' b=>n f w' b) (h8 _ _ _ _ h)
 have T:∀a w,J 0 false true a w->wpAnyC P .any ops C Q 8 (Lf false false false false false true) a w:=fun a w h=>by
  have e:Region.ready .any ops (Lf false false false false false true)=[1,8]:=r0 false true;refine⟨hC _ _ _ _ _ h,fun j=>(by rw[e]at j;cases j),fun i g=>?_⟩;rw[e]at g;simp only[List.mem_cons,List.not_mem_nil,or_false]at g;rcases g with rfl|rfl
  ·exact wpOp_mono (fun f w' b=>B f w' b) (h1_0 _ _ _ _ h)
  ·exact wpOp_mono (fun f w' b=>t f w' b) (h8 _ _ _ _ h)
 have L:∀a w,J 4 true false a w->wpAnyC P .any ops C Q 4 (Lf true true true true true false) a w:=fun a w h=>by
  have e:Region.ready .any ops (Lf true true true true true false)=[12]:=r4 true false rfl;refine⟨hC _ _ _ _ _ h,fun j=>(by rw[e]at j;cases j),fun i g=>?_⟩;rw[e]at g;simp only[List.mem_cons,List.not_mem_nil,or_false]at g;subst g;exact wpOp_mono (fun f w' b=>s f w' b) (h12 _ _ _ _ h)
 have O:∀a w,J 5 true false a w->wpAnyC P .any ops C Q 5 (Lf true true true false true false) a w:=fun a w h=>by
  obtain⟨v,l,b⟩:=h4 _ _ _ _ h;exact Qbs ho4 (Region.noSelect_spec hsel) hL hQ 4 _ a w (Region.free_spec ho4 (r5 true false).2) (by simpa using (r5 true false).1) l (L _ _ b)
 have F:∀a w,J 2 true false a w->wpAnyC P .any ops C Q 6 (Lf true true false false true false) a w:=fun a w h=>by
  have e:Region.ready .any ops (Lf true true false false true false)=[3,12]:=r2 true false;refine⟨hC _ _ _ _ _ h,fun j=>(by rw[e]at j;cases j),fun i g=>?_⟩;rw[e]at g;simp only[List.mem_cons,List.not_mem_nil,or_false]at g;rcases g with rfl|rfl
  ·exact wpOp_mono (fun f w' b=>O f w' b) (h3_2 _ _ _ _ h)
  ·exact wpOp_mono (fun f w' b=>q f w' b) (h12 _ _ _ _ h)
 have H:∀a w,J 3 true false a w->wpAnyC P .any ops C Q 6 (Lf true false true false true false) a w:=fun a w h=>by
  have e:Region.ready .any ops (Lf true false true false true false)=[2,12]:=r3 true false;refine⟨hC _ _ _ _ _ h,fun j=>(by rw[e]at j;cases j),fun i g=>?_⟩;rw[e]at g;simp only[List.mem_cons,List.not_mem_nil,or_false]at g;rcases g with rfl|rfl
  ·exact wpOp_mono (fun f w' b=>O f w' b) (h2_3 _ _ _ _ h)
  ·exact wpOp_mono (fun f w' b=>r f w' b) (h12 _ _ _ _ h)
 have D:∀a w,J 1 true false a w->wpAnyC P .any ops C Q 7 (Lf true false false false true false) a w:=fun a w h=>by
  have e:Region.ready .any ops (Lf true false false false true false)=[2,3,12]:=r1 true false;refine⟨hC _ _ _ _ _ h,fun j=>(by rw[e]at j;cases j),fun i g=>?_⟩;rw[e]at g;simp only[List.mem_cons,List.not_mem_nil,or_false]at g;rcases g with rfl|rfl|rfl
  ·exact wpOp_mono (fun f w' b=>F f w' b) (h2_1 _ _ _ _ h)
  ·exact wpOp_mono (fun f w' b=>H f w' b) (h3_1 _ _ _ _ h)
  ·exact wpOp_mono (fun f w' b=>n f w' b) (h12 _ _ _ _ h)
 have U:∀a w,J 0 true false a w->wpAnyC P .any ops C Q 8 (Lf false false false false true false) a w:=fun a w h=>by
  have e:Region.ready .any ops (Lf false false false false true false)=[1,12]:=r0 true false;refine⟨hC _ _ _ _ _ h,fun j=>(by rw[e]at j;cases j),fun i g=>?_⟩;rw[e]at g;simp only[List.mem_cons,List.not_mem_nil,or_false]at g;rcases g with rfl|rfl
  ·exact wpOp_mono (fun f w' b=>D f w' b) (h1_0 _ _ _ _ h)
  ·exact wpOp_mono (fun f w' b=>t f w' b) (h12 _ _ _ _ h)
 have Z:∀a w,J 4 false false a w->wpAnyC P .any ops C Q 5 (Lf true true true true false false) a w:=fun a w h=>by
  have e:Region.ready .any ops (Lf true true true true false false)=[8,12]:=r4 false false rfl;refine⟨hC _ _ _ _ _ h,fun j=>(by rw[e]at j;cases j),fun i g=>?_⟩;rw[e]at g;simp only[List.mem_cons,List.not_mem_nil,or_false]at g;rcases g with rfl|rfl
  ·exact wpOp_mono (fun f w' b=>L f w' b) (h8 _ _ _ _ h)
  ·exact wpOp_mono (fun f w' b=>I f w' b) (h12 _ _ _ _ h)
 have M:∀a w,J 5 false false a w->wpAnyC P .any ops C Q 6 (Lf true true true false false false) a w:=fun a w h=>by
  obtain⟨v,l,b⟩:=h4 _ _ _ _ h;exact Qbs ho4 (Region.noSelect_spec hsel) hL hQ 5 _ a w (Region.free_spec ho4 (r5 false false).2) (by simpa using (r5 false false).1) l (Z _ _ b)
 have X:∀a w,J 2 false false a w->wpAnyC P .any ops C Q 7 (Lf true true false false false false) a w:=fun a w h=>by
  have e:Region.ready .any ops (Lf true true false false false false)=[3,8,12]:=r2 false false;refine⟨hC _ _ _ _ _ h,fun j=>(by rw[e]at j;cases j),fun i g=>?_⟩;rw[e]at g;simp only[List.mem_cons,List.not_mem_nil,or_false]at g;rcases g with rfl|rfl|rfl
  ·exact wpOp_mono (fun f w' b=>M f w' b) (h3_2 _ _ _ _ h)
  ·exact wpOp_mono (fun f w' b=>F f w' b) (h8 _ _ _ _ h)
  ·exact wpOp_mono (fun f w' b=>E f w' b) (h12 _ _ _ _ h)
 have Y:∀a w,J 3 false false a w->wpAnyC P .any ops C Q 7 (Lf true false true false false false) a w:=fun a w h=>by
  have e:Region.ready .any ops (Lf true false true false false false)=[2,8,12]:=r3 false false;refine⟨hC _ _ _ _ _ h,fun j=>(by rw[e]at j;cases j),fun i g=>?_⟩;rw[e]at g;simp only[List.mem_cons,List.not_mem_nil,or_false]at g;rcases g with rfl|rfl|rfl
  ·exact wpOp_mono (fun f w' b=>M f w' b) (h2_3 _ _ _ _ h)
  ·exact wpOp_mono (fun f w' b=>H f w' b) (h8 _ _ _ _ h)
  ·exact wpOp_mono (fun f w' b=>G f w' b) (h12 _ _ _ _ h)
 have V:∀a w,J 1 false false a w->wpAnyC P .any ops C Q 8 (Lf true false false false false false) a w:=fun a w h=>by
  have e:Region.ready .any ops (Lf true false false false false false)=[2,3,8,12]:=r1 false false;refine⟨hC _ _ _ _ _ h,fun j=>(by rw[e]at j;cases j),fun i g=>?_⟩;rw[e]at g;simp only[List.mem_cons,List.not_mem_nil,or_false]at g;rcases g with rfl|rfl|rfl|rfl
  ·exact wpOp_mono (fun f w' b=>X f w' b) (h2_1 _ _ _ _ h)
  ·exact wpOp_mono (fun f w' b=>Y f w' b) (h3_1 _ _ _ _ h)
  ·exact wpOp_mono (fun f w' b=>D f w' b) (h8 _ _ _ _ h)
  ·exact wpOp_mono (fun f w' b=>B f w' b) (h12 _ _ _ _ h)
 have S:∀a w,J 0 false false a w->wpAnyC P .any ops C Q 9 (Lf false false false false false false) a w:=fun a w h=>by
  have e:Region.ready .any ops (Lf false false false false false false)=[1,8,12]:=r0 false false;refine⟨hC _ _ _ _ _ h,fun j=>(by rw[e]at j;cases j),fun i g=>?_⟩;rw[e]at g;simp only[List.mem_cons,List.not_mem_nil,or_false]at g;rcases g with rfl|rfl|rfl
  ·exact wpOp_mono (fun f w' b=>V f w' b) (h1_0 _ _ _ _ h)
  ·exact wpOp_mono (fun f w' b=>U f w' b) (h8 _ _ _ _ h)
  ·exact wpOp_mono (fun f w' b=>T f w' b) (h12 _ _ _ _ h)
 exact S
end
section
variable {P:Program}{ops:Array Oper}{Q:Exit->Act->World->Prop}
theorem Qqp{id:Nat}{a:Act}{w:World}(ks:List Nat)(n:Nat)(C:World->Prop)(hm:P.follows .mixedOrders=true)(hsel:Region.noSelect ops=true)(hlen:n+ks.length=ops.size)(hok:okTk .any ops ks (Array.replicate ops.size false)=true)
  (h:∀PP:Act->World->Prop,(∀a' w',Q .normal a' w'->PP a' w')->wpTk P ops C (wpAnyC P .any ops C (onlyN PP) n (ks.foldl (fun l k=>l.setIfInBounds k true) (Array.replicate ops.size false))) ks a w.drew):(Code.region id ops true).wp P Q a w:=by
 have d:¬LetsOut (onlyN (Q .normal)):=by rintro⟨_,_,h⟩;exact h
 have b:=Qdu _ _ _ _ (Qjx (md:=.any) hsel d (fun _ _ _ _ _ h=>h) n ks _ a _ hok (h (Q .normal) (fun _ _ h=>h)));rw[hlen]at b;refine wp_mono (Q:=onlyN (Q .normal)) (wp_region_any hm b) ?_;intro e a w h;cases e
 case normal=>exact h
 all_goals exact h.elim
end
theorem put_ev{a:Act}{i:Nat}{v:Value}(h:i<a.tmps.size):(a.put (some i) v).eval (.tmp i)=v:=by
 simp[Act.put,Act.eval,h]
theorem Qco{a:Act}{i j:Nat}{v:Value}(h:i≠j):(a.put (some i) v).eval (.tmp j)=a.eval (.tmp j):=by
 simp only[Act.put,Act.eval,Array.getD_eq_getD_getElem?];rw[Array.getElem?_setIfInBounds_ne h]
theorem Qia{a:Act}{i:Nat}{u v:Value}:(a.put (some i) u).put (some i) v=a.put (some i) v:=by
 simp[Act.put]
theorem Qha{a:Act}{i j:Nat}{u v:Value}(h:i≠j):(a.put (some i) u).put (some j) v=(a.put (some j) v).put (some i) u:=by
 simp only[Act.put];rw[Array.setIfInBounds_comm _ _ h]
def mv:Option (Nat×List (Txt×Value))->Value
 |none=>undef
 |some q=>.map (some q.1)
def AC(A:Act)(x y z u:Value):Act:=(((A.put (some 11) x).put (some 12) y).put (some 16) z).put (some 20) u
section
variable {A:Act}{x y z u v:Value}
theorem AC.p11:(AC A x y z u).put (some 11) v=AC A v y z u:=by
 unfold AC;rw[Qha (i:=20) (j:=11) (by decide),Qha (i:=16) (j:=11) (by decide),Qha (i:=12) (j:=11) (by decide),Qia]
theorem AC.p12:(AC A x y z u).put (some 12) v=AC A x v z u:=by
 unfold AC;rw[Qha (i:=20) (j:=12) (by decide),Qha (i:=16) (j:=12) (by decide),Qia]
theorem AC.p16:(AC A x y z u).put (some 16) v=AC A x y v u:=by
 unfold AC;rw[Qha (i:=20) (j:=16) (by decide),Qia]
theorem AC.p20:(AC A x y z u).put (some 20) v=AC A x y z v:=by
 unfold AC;rw[Qia]
theorem AC.e11(hs:20<A.tmps.size):(AC A x y z u).eval (.tmp 11)=x:=by
 unfold AC;rw[Qco (by decide),Qco (by decide),Qco (by decide),put_ev (by omega)]
theorem AC.ne{j:Nat}(h1:11≠j)(h2:12≠j)(h3:16≠j)(h4:20≠j):(AC A x y z u).eval (.tmp j)=A.eval (.tmp j):=by
 unfold AC;rw[Qco h4,Qco h3,Qco h2,Qco h1]
end
def vNum:Value:=.string ⟨#[110,117,109,98,101,114]⟩
def vSym:Value:=.string ⟨#[115,121,109,98,111,108]⟩
def StM:Nat->Option (Nat×List (Txt×Value))->Prop
 | 0,o=>o=none
 | 1,o=>∃b,o=some (b,[])
 | 2,o=>∃b,o=some (b,[(tNum,.int .i64 1)])
 | 3,o=>∃b,o=some (b,[(tSym,.int .i64 2)])
 |_,o=>∃b ms,o=some (b,ms) /\ ∀t,asc ms t=(asc [(tNum,1),(tSym,2)] t).map nOf
def mvM(m:Nat)(o:Option (Nat×List (Txt×Value))):Value:=if m=4 then mv o else undef
def JC(w1:World)(A:Act)(m:Nat)(x y:Bool)(a:Act)(w:World):Prop:=∃o1 o2 o3,Ms w1 o1 o2 o3 w/\StM m o1/\o2.isSome=x/\o3.isSome=y/\(∀q∈o2,q.2=[])/\(∀q∈o3,q.2=[])/\a=AC A (mv o1) (mvM m o1) (mv o2) (mv o3)
theorem asc_ns(t:Txt):asc [(tNum,Value.int .i64 1),(tSym,Ji 2)] t=(asc [(tNum,1),(tSym,2)] t).map nOf:=by
 unfold asc;by_cases b:tNum=t
 ·simp[b,nOf]
 ·by_cases d:tSym=t<;>simp[b,d,nOf]
theorem asc_sn(t:Txt):asc [(tSym,Value.int .i64 2),(tNum,Ji 1)] t=(asc [(tNum,1),(tSym,2)] t).map nOf:=by
 have f:tNum≠tSym:=by decide
 unfold asc;by_cases b:tNum=t
 ·
  have d:tSym≠t:=fun e=>f (b.trans e.symm);simp[b,d,nOf]
 ·by_cases d:tSym=t<;>simp[b,d,nOf]
theorem Qmb{m:Nat}(o:Option (Nat×List (Txt×Value)))(h:m≠4):mvM m o=undef:=if_neg h
section
variable {ops:Array Oper}{PP:Act->World->Prop}{w1:World}{A:Act}{T1 T2 T3 T4 T8 T12:TypeId}{p1 p2 p3 p4 p8 p12:String}{f1 f2 f3 f4 f8 f12:Array Edge}{k0 k1:Int}
theorem jc_8(ho:ops[8]?=some ⟨some 16,.makeMap 125 (some (.tmp 15)),T8,p8,f8,none⟩)(h15:A.eval (.tmp 15) = Ji k1)(m:Nat)(y:Bool)(a:Act)(w:World)(h:JC w1 A m false y a w):wpOp Tryz.prog ops (onlyN PP) 8 (JC w1 A m true y) a w:=by
 obtain⟨o1,o2,o3,g,b,d,e,j,f,rfl⟩:=h
 cases o2 with
 |some q=>cases d
 |none=>
  refine Qik ho rfl (v:=.map (some w.heap.size)) (W':=w.alloc (.map #[] 0)) ?_ ?_
  ·
   show(do let r <- Instr.makeMap _ (some ((AC A _ _ _ _).eval (.tmp 15)));pure (Next.value r):Sem Next).run Tryz.prog w=_;rw[AC.ne (by decide) (by decide) (by decide) (by decide),h15,Sem.run_bind,Qkt mI];rfl
  ·exact⟨o1,some (w.heap.size,[]),o3,g.mk2,b,rfl,e,fun q i=>by cases i;rfl,f,AC.p16⟩
theorem jc_12(ho:ops[12]?=some ⟨some 20,.makeMap 126 (some (.tmp 19)),T12,p12,f12,none⟩)(h19:A.eval (.tmp 19) = Ji k0)(m:Nat)(x:Bool)(a:Act)(w:World)(h:JC w1 A m x false a w):wpOp Tryz.prog ops (onlyN PP) 12 (JC w1 A m x true) a w:=by
 obtain⟨o1,o2,o3,g,b,d,e,f,j,rfl⟩:=h
 cases o3 with
 |some q=>cases e
 |none=>
  refine Qik ho rfl (v:=.map (some w.heap.size)) (W':=w.alloc (.map #[] 0)) ?_ ?_
  ·
   show(do let r <- Instr.makeMap _ (some ((AC A _ _ _ _).eval (.tmp 19)));pure (Next.value r):Sem Next).run Tryz.prog w=_;rw[AC.ne (by decide) (by decide) (by decide) (by decide),h19,Sem.run_bind,Qkt mP];rfl
  ·exact⟨o1,o2,some (w.heap.size,[]),g.mk3,b,d,rfl,f,fun q i=>by cases i;rfl,AC.p20⟩
theorem jc_1(ho:ops[1]?=some ⟨some 11,.makeMap 125 none,T1,p1,f1,none⟩)(x y:Bool)(a:Act)(w:World)(h:JC w1 A 0 x y a w):wpOp Tryz.prog ops (onlyN PP) 1 (JC w1 A 1 x y) a w:=by
 obtain⟨o1,o2,o3,i,b,d,e,f,g,rfl⟩:=h;cases (show o1=none from b)
 refine Qik ho rfl (v:=.map (some w.heap.size)) (W':=w.alloc (.map #[] 0)) rfl ?_;exact⟨some (w.heap.size,[]),o2,o3,i.mk1,⟨_,rfl⟩,d,e,f,g,AC.p11⟩
theorem jc_2(hs:20<A.tmps.size)(ho:ops[2]?=some ⟨none,.insert 125 (.tmp 11) (.const vNum) (.const (Ji 1)),T2,p2,f2,none⟩){m n:Nat}(hmn:(m=1/\n=2)∨(m=3/\n=5))(x y:Bool)(a:Act)(w:World)(h:JC w1 A m x y a w):wpOp Tryz.prog ops (onlyN PP) 2 (JC w1 A n x y) a w:=by
 obtain⟨o1,o2,o3,D,f,r,s,t,B,rfl⟩:=h;have q:∃b e,o1=some (b,e)/\asc e tNum=none /\ ∀d,StM n (some (d,e++[(tNum,Ji 1)])):=by
  rcases hmn with ⟨rfl,rfl⟩|⟨rfl,rfl⟩
  ·
   obtain⟨b,rfl⟩:=f;exact⟨b,[],rfl,rfl,fun d=>⟨d,rfl⟩⟩
  obtain⟨b,rfl⟩:=f;exact⟨b,_,rfl,by decide,fun d=>⟨d,_,rfl,asc_sn⟩⟩
 have i:m≠4:=by omega
 have j:n≠4:=by omega
 obtain⟨b,e,rfl,E,l⟩:=q;obtain⟨W',F,g⟩:=D.ins tNum (Ji 1) E;refine Qjy ho rfl (W':=W') ?_ ?_
 ·
  show(do Instr.mapUpdate _ ((AC A _ _ _ _).eval (.tmp 11)) vNum (Ji 1);pure Next.skip:Sem Next).run Tryz.prog w=_;rw[AC.e11 hs,Sem.run_bind];show Result.andThen ((Instr.mapUpdate _ (.map (some b)) (str tNum) (Ji 1)).run Tryz.prog w) _=_;rw[F];rfl
 refine⟨_,o2,o3,g,l b,r,s,t,B,?_⟩;rw[Qmb _ i,Qmb _ j];rfl
theorem jc_3(hs:20<A.tmps.size)(ho:ops[3]?=some ⟨none,.insert 125 (.tmp 11) (.const vSym) (.const (Ji 2)),T3,p3,f3,none⟩){m n:Nat}(hmn:(m=1/\n=3)∨(m=2/\n=5))(x y:Bool)(a:Act)(w:World)(h:JC w1 A m x y a w):wpOp Tryz.prog ops (onlyN PP) 3 (JC w1 A n x y) a w:=by
 obtain⟨o1,o2,o3,D,f,r,s,t,B,rfl⟩:=h;have q:∃b e,o1=some (b,e)/\asc e tSym=none /\ ∀d,StM n (some (d,e++[(tSym,Ji 2)])):=by
  rcases hmn with ⟨rfl,rfl⟩|⟨rfl,rfl⟩
  ·
   obtain⟨b,rfl⟩:=f;exact⟨b,[],rfl,rfl,fun d=>⟨d,rfl⟩⟩
  obtain⟨b,rfl⟩:=f;exact⟨b,_,rfl,by decide,fun d=>⟨d,_,rfl,asc_ns⟩⟩
 have i:m≠4:=by omega
 have j:n≠4:=by omega
 obtain⟨b,e,rfl,E,l⟩:=q;obtain⟨W',F,g⟩:=D.ins tSym (Ji 2) E;refine Qjy ho rfl (W':=W') ?_ ?_
 ·
  show(do Instr.mapUpdate _ ((AC A _ _ _ _).eval (.tmp 11)) vSym (Ji 2);pure Next.skip:Sem Next).run Tryz.prog w=_;rw[AC.e11 hs,Sem.run_bind];show Result.andThen ((Instr.mapUpdate _ (.map (some b)) (str tSym) (Ji 2)).run Tryz.prog w) _=_;rw[F];rfl
 refine⟨_,o2,o3,g,l b,r,s,t,B,?_⟩;rw[Qmb _ i,Qmb _ j];rfl
theorem cat_fin(hsel:Region.noSelect ops=true)(hs:20<A.tmps.size)(h15:A.eval (.tmp 15) = Ji k1)(h19:A.eval (.tmp 19) = Ji k0)(hu:A=AC A undef undef undef undef)
  (ho1:ops[1]?=some ⟨some 11,.makeMap 125 none,T1,p1,f1,none⟩)
  (ho2:ops[2]?=some ⟨none,.insert 125 (.tmp 11) (.const vNum) (.const (Ji 1)),T2,p2,f2,none⟩)
  (ho3:ops[3]?=some ⟨none,.insert 125 (.tmp 11) (.const vSym) (.const (Ji 2)),T3,p3,f3,none⟩)
  (ho4:ops[4]?=some ⟨some 12,.move (.tmp 11),T4,p4,f4,none⟩)
  (ho8:ops[8]?=some ⟨some 16,.makeMap 125 (some (.tmp 15)),T8,p8,f8,none⟩)
  (ho12:ops[12]?=some ⟨some 20,.makeMap 126 (some (.tmp 19)),T12,p12,f12,none⟩)
  (r0:∀x y,Region.ready .any ops (Lf false false false false x y)=[1]++rst x y)
  (r1:∀x y,Region.ready .any ops (Lf true false false false x y)=[2,3]++rst x y)
  (r2:∀x y,Region.ready .any ops (Lf true true false false x y)=[3]++rst x y)
  (r3:∀x y,Region.ready .any ops (Lf true false true false x y)=[2]++rst x y)
  (r4:∀x y,(x&&y)=false->Region.ready .any ops (Lf true true true true x y)=rst x y)
  (r5:∀x y,(Region.ready .any ops (Lf true true true false x y)).contains 4=true/\Region.free .any ops (Lf true true true false x y) 4=true)
  {w:World}(hw:Below w1.heap.size w1 w)
  (hE:∀m1 m2 m3 ms W,Ms w1 (some (m1,ms)) (some (m2,[])) (some (m3,[])) W->(∀t,asc ms t=(asc [(tNum,1),(tSym,2)] t).map nOf)->wpAnyC Tryz.prog .any ops (Below w1.heap.size w1) (onlyN PP) 3 (Lf true true true true true true) (AC A (.map (some m1)) (.map (some m1)) (.map (some m2)) (.map (some m3))) W):
  wpAnyC Tryz.prog .any ops (Below w1.heap.size w1) (onlyN PP) 9 (Lf false false false false false false) A w:=by
 refine cat_any (JC w1 A) hsel (by rintro⟨_,_,h⟩;exact h) (fun _ _ _ _ _ h=>h) ho4 (fun m x y a w h=>?_) r0 r1 r2 r3 r4 r5 (jc_1 ho1) (jc_2 hs ho2 (.inl ⟨rfl,rfl⟩)) (jc_2 hs ho2 (.inr ⟨rfl,rfl⟩)) (jc_3 hs ho3 (.inl ⟨rfl,rfl⟩)) (jc_3 hs ho3 (.inr ⟨rfl,rfl⟩)) (fun x y a w h=>?_) (jc_8 ho8 h15) (jc_12 ho12 h19) (fun a w h=>?_) A w ?_
 ·
  obtain⟨o1,o2,o3,d,_⟩:=h;exact d.bel
 ·
  obtain⟨o1,o2,o3,d,f,g,i,j,l,rfl⟩:=h;obtain⟨b,ms,rfl,e⟩:=f;refine⟨.map (some b),fun w' _=>.inl ⟨rfl,.inl ?_⟩,_,o2,o3,d,⟨b,ms,rfl,e⟩,g,i,j,l,?_⟩
  ·
   show(pure (Next.value ((AC A _ _ _ _).eval (.tmp 11))):Sem Next).run Tryz.prog w'=_;rw[AC.e11 hs];rfl
  ·exact AC.p12
 ·
  obtain⟨o1,o2,o3,d,f,g,i,j,l,rfl⟩:=h;obtain⟨b,ms,rfl,e⟩:=f
  cases o2 with
  |none=>cases g
  |some q2=>
   cases o3 with
   |none=>cases i
   |some q3=>
    obtain⟨m2,n⟩:=q2;obtain⟨m3,q⟩:=q3;cases (show n=[] from j _ rfl)
    cases (show q=[] from l _ rfl)
    exact hE b m2 m3 ms w d e
 ·exact⟨none,none,none,(Ms.start w1).later hw,rfl,rfl,rfl,fun _ h=>(by cases h),fun _ h=>(by cases h),hu⟩
end
structure Nc(n0 n1:Nat)(p:Pg)(c:CatP)(kv:Value)(rt rd:List (Txt×Nat))(rc:List (Txt×(Nat×Nat)))(w:World):Prop where
 box:w.heap[c.cb]?=some (.cells #[c.v0,c.v1,c.v2,c.v3,c.v4,kv,.map (some c.mt),.map (some c.md),.map (some c.mc)] 129 (0,0))
 par:w.heap[n1]?=some (.cells #[c.v0,c.v1,c.v2,c.v3,c.v4] 28 (0,0))
 prg:PgO (fun b=>b<n0) w [c.v0,c.v1,c.v2,c.v3,c.v4] p
 mt:MpF nOf w c.mt rt
 md:MpF nOf w c.md rd
 mc:MpF pOf w c.mc rc
 l0:n1<c.cb/\n1<c.mt/\n1<c.md/\n1<c.mc
 n01:n0<=n1
 ne:c.mt≠c.md/\c.mt≠c.mc/\c.md≠c.mc
section
variable {n0 n1:Nat}{p:Pg}{c:CatP}{kv:Value}{rt rd:List (Txt×Nat)}{rc:List (Txt×(Nat×Nat))}{w w':World}
theorem MpF.cells_ne{α : Type}{f:α -> Value}{mb b:Nat}{row:List (Txt × α)}{cs:Array Value}{T:TypeId}(h:MpF f w mb row)(hb:w.heap[b]?=some (.cells cs T (0,0))):b≠mb:=fun e=>by
 obtain⟨j,⟨i,g,d,_⟩,_⟩:=h;rw[<- e,hb]at d;cases d
theorem Nc.later(h:Nc n0 n1 p c kv rt rd rc w)(b:Below w.heap.size w w'):Nc n0 n1 p c kv rt rd rc w':=
 ⟨(b.block _ (Qaa h.box)).trans h.box,(b.block _ (Qaa h.par)).trans h.par,Qcj.same _ _ _ _ _ h.prg b.size (fun q _ d=>b.block q d),h.mt.keep (b.block _ h.mt.lt),h.md.keep (b.block _ h.md.lt),h.mc.keep (b.block _ h.mc.lt),h.l0,h.n01,h.ne⟩
theorem Qhl{α : Type}{f:α -> Value}{ms:List (Txt×Value)}{row:List (Txt × α)}(h:∀t,asc ms t=(asc row t).map f)(n:Txt)(v:α)(t:Txt):asc (addF ms n (f v)) t=(asc (row++[(n,v)]) t).map f:=by
 rw[Qsb,Qcl,Qcl,h,Qeq,Qeq]
 cases asc row t with
 |some u=>rfl
 |none=>by_cases e:n=t<;>simp[e]
theorem Nc.putT(h:Nc n0 n1 p c kv rt rd rc w)(n:Txt)(k:Nat):
  Calls Tryz.prog 69 #[.map (some c.mt),str n,Ji (k:Int)] w fun en w'=>en = .returned (.tuple #[])/\Nc n0 n1 p c kv (rt++[(n,k)]) rd rc w'/\Kp c.mt w w':=by
 obtain⟨m,i,e⟩:=h.mt;refine(Qlk i n (k:Int)).mono ?_;rintro en w'⟨rfl,d,b⟩;have o:∀q,q<w.heap.size->q≠c.mt->w'.heap[q]?=w.heap[q]?:=b.block;exact⟨rfl,⟨(o _ (Qaa h.box) (h.mt.cells_ne h.box)).trans h.box,(o _ (Qaa h.par) (h.mt.cells_ne h.par)).trans h.par,Qcj.same _ _ _ _ _ h.prg b.size (fun q j g=>o q g (by have:=h.l0.2.1;have:=h.n01;have l:q<n0:=j;omega)),⟨_,d,Qhl (f:=nOf) e n k⟩,h.md.keep (o _ h.md.lt (Ne.symm h.ne.1)),h.mc.keep (o _ h.mc.lt (Ne.symm h.ne.2.1)),h.l0,h.n01,h.ne⟩,b⟩
theorem Nc.putD(h:Nc n0 n1 p c kv rt rd rc w)(n:Txt)(k:Nat):
  Calls Tryz.prog 69 #[.map (some c.md),str n,Ji (k:Int)] w fun en w'=>en = .returned (.tuple #[])/\Nc n0 n1 p c kv rt (rd++[(n,k)]) rc w'/\Kp c.md w w':=by
 obtain⟨m,i,e⟩:=h.md;refine(Qlk i n (k:Int)).mono ?_;rintro en w'⟨rfl,d,b⟩;have o:∀q,q<w.heap.size->q≠c.md->w'.heap[q]?=w.heap[q]?:=b.block;exact⟨rfl,⟨(o _ (Qaa h.box) (h.md.cells_ne h.box)).trans h.box,(o _ (Qaa h.par) (h.md.cells_ne h.par)).trans h.par,Qcj.same _ _ _ _ _ h.prg b.size (fun q j g=>o q g (by have:=h.l0.2.2.1;have:=h.n01;have l:q<n0:=j;omega)),h.mt.keep (o _ h.mt.lt h.ne.1),⟨_,d,Qhl (f:=nOf) e n k⟩,h.mc.keep (o _ h.mc.lt (Ne.symm h.ne.2.2)),h.l0,h.n01,h.ne⟩,b⟩
theorem Nc.putC(h:Nc n0 n1 p c kv rt rd rc w)(n:Txt)(i k:Nat):
  Calls Tryz.prog 70 #[.map (some c.mc),str n,.agg #[Ji (i:Int),Ji (k:Int)]] w fun en w'=>en = .returned (.tuple #[])/\Nc n0 n1 p c kv rt rd (rc++[(n,(i,k))]) w'/\Kp c.mc w w':=by
 obtain⟨t,m,g⟩:=h.mc;refine(Qrz m n (i:Int) (k:Int) (fun u b=>?_)).mono ?_
 ·
  rw[g]at b
  cases e:asc rc n with
  |none=>rw[e]at b;cases b
  |some q=>rw[e]at b;cases b;exact⟨_,_,rfl⟩
 rintro en w'⟨rfl,j,d⟩;have o:∀q,q<w.heap.size->q≠c.mc->w'.heap[q]?=w.heap[q]?:=d.block;exact⟨rfl,⟨(o _ (Qaa h.box) (h.mc.cells_ne h.box)).trans h.box,(o _ (Qaa h.par) (h.mc.cells_ne h.par)).trans h.par,Qcj.same _ _ _ _ _ h.prg d.size (fun q r l=>o q l (by have:=h.l0.2.2.2;have:=h.n01;have s:q<n0:=r;omega)),h.mt.keep (o _ h.mt.lt h.ne.2.1),h.md.keep (o _ h.md.lt h.ne.2.2),⟨_,j,Qhl (f:=pOf) g n (i,k)⟩,h.l0,h.n01,h.ne⟩,d⟩
end
theorem Qff{α : Type}{xs:List α}{j:Nat}{x:α}(h:xs[j]?=some x):(xs.take (j+1)).zipIdx=(xs.take j).zipIdx++[(x,j)]:=by
 have b:=(List.getElem?_eq_some_iff.1 h).1;rw[List.take_add_one,h,List.zipIdx_append];simp[Nat.min_eq_left (Nat.le_of_lt b)]
theorem Qnw{ts:List Typ}{j:Nat}{x:Typ}(h:ts[j]?=some x):tyRow (ts.take (j+1))=tyRow (ts.take j)++[(x.name,3+j)]:=by
 unfold tyRow;rw[Qff h];simp
theorem Qmx{ds:List Dcl}{j:Nat}{x:Dcl}(h:ds[j]?=some x):dcRow (ds.take (j+1))=dcRow (ds.take j)++[(x.name,j)]:=by
 unfold dcRow;rw[Qff h];simp
def coRow(j:Nat)(cs:List Ctr):List (Txt×(Nat×Nat)):=cs.zipIdx.map fun c=>(c.1.name,(j,c.2))
theorem Qmv{cs:List Ctr}{i:Nat}{x:Ctr}(j:Nat)(h:cs[i]?=some x):coRow j (cs.take (i+1))=coRow j (cs.take i)++[(x.name,(j,i))]:=by
 unfold coRow;rw[Qff h];simp
theorem Qmw{ts:List Typ}{j:Nat}{x:Typ}(h:ts[j]?=some x):ctRow (ts.take (j+1))=ctRow (ts.take j)++coRow j x.ctors:=by
 unfold ctRow coRow;rw[Qff h];simp
end
end Go.Proofs.YtkhndlnadhggkaaGreat
