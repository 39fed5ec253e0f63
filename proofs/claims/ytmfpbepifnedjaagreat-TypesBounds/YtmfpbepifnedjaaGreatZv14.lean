/- types. -/
import Derived.Test.YtmfpbepifnedjaaGreatZv01
import Derived.Test.YtmfpbepifnedjaaGreatZv13
import Derived.Test.YtmfpbepifnedjaaGreatZv04
import Derived.Test.YtmfpbepifnedjaaGreatZv08
import Derived.Deep.Cut
import Derived.Deep.CutRange
set_option maxRecDepth 100000
set_option maxHeartbeats 32000000
namespace Go.Proofs.YtmfpbepifnedjaaGreat
section
open Go.RowKit Go.Maps
theorem Qjo(vs:List Fld)(v:Fld):fdCells (vs++[v])=fdCells vs++[str v.name,str v.type]:=by
 unfold fdCells;rw[List.flatMap_append];rfl
theorem Qfz:∀(vs:List Fld) (i:Nat) (v:Fld),vs[i]?=some v->(fdCells vs)[i*2]?=some (str v.name)/\(fdCells vs)[i*2+1]?=some (str v.type)
 | [],i,v,h=>by simp at h
 |u :: vs,0,v,h=>by cases h;exact⟨rfl,rfl⟩
 |u :: vs,i+1,v,h=>by
  have:=Qfz vs i v (by simpa using h);unfold fdCells at this ⊢;rw[List.flatMap_cons,show(i+1)*2=i*2+2 by omega]
  simpa using this
theorem Qg:∀(vs:List Fld) (i:Nat) (v:Fld) (t:Txt),vs[i]?=some v->(fdCells vs).set (i*2+1) (str t)=fdCells (vs.set i ⟨v.name,t⟩)
 | [],i,v,t,h=>by simp at h
 |u :: vs,0,v,t,h=>by cases h;rfl
 |u :: vs,i+1,v,t,h=>by
  have:=Qg vs i v t (by simpa using h);unfold fdCells at this ⊢;rw[List.flatMap_cons,show(i+1)*2+1=i*2+1+2 by omega];simp only[List.set_cons_succ,List.flatMap_cons,List.cons_append,List.nil_append];rw[this]
theorem Qsa(vs:List Fld)(v:Fld):vRow (vs++[v])=vRow vs++[(v.name,vs.length)]:=by
 unfold vRow;rw[List.zipIdx_append,List.map_append];simp
theorem Qs{vs:List Fld}{s:Txt}(h:typV vs s=none):s∉vs.map (·.name):=by
 unfold typV at h;simp only[Option.map_eq_none_iff,List.find?_eq_none,decide_eq_true_eq]at h;intro a;obtain⟨v,b,e⟩:=List.mem_map.1 a;exact h v b e
section
variable {n0 n1:Nat}{p:Pg}{c:CatP}{wb mb:Nat}{sl:Value}{vs:List Fld}{w:World}
theorem Qrd(h:Wk n0 n1 p c wb mb sl vs w)(hl:vs.length<=1000000000)(s t:Txt)(hn:typV vs s=none):
  Calls Tryz.prog 133 #[.pointer (Js wb),str s,str t] w fun en w'=>en = .returned (.tuple #[]) /\ ∃sl',Wk n0 n1 p c wb mb sl' (vs++[⟨s,t⟩]) w'/\Kw wb mb sl sl' w w':=by
 have a8:Below w.heap.size w w.drew:=(Below.refl _ w).drew;have m:=h.later a8;obtain⟨ms,J,U⟩:=m.map;have a1:asc ms s=none:=by
  rw[U s];have:=Qej vs s;rw[hn]at this
  cases F:asc (vRow vs) s with
  |none=>rfl
  |some _=>rw[F]at this;cases this
 obtain⟨k,ab,L,V,aa,ad,ae,H⟩:=Qrr uS mI w.drew mb ms s (Ji (vs.length:Int)) J a1;have W:wb≠mb:=fun e=>by
  obtain⟨es,ck,hh,_⟩:=J;have:=m.box;rw[e,hh]at this;cases this
 have E:k.heap[wb]?=some (.cells #[fnV 47 c.cb,fnV 48 c.cb,fnV 78 c.cb,fnV 79 c.cb,sl,.map (some mb)] 143 (0,0)):=(H wb W).trans m.box;have X:some mb≠sl.ownBlock:=fun e=>by
  rcases m.row.2 with ⟨d,_⟩|⟨g,cap,y,d,_,i,_⟩
  ·rw[d]at e;cases e
  rw[d]at e;cases e
  obtain⟨es,ck,hh,_⟩:=J;rw[hh]at i;cases i
 have Y:some wb≠sl.ownBlock:=fun e=>by
  rcases m.row.2 with ⟨d,_⟩|⟨g,cap,y,d,_,i,_⟩
  ·rw[d]at e;cases e
  rw[d]at e;cases e
  have:=m.box;rw[i]at this;simp at this
 obtain⟨Q,f⟩:=JE (k.alloc (.cells #[str s,str t] 67));have a7:k.ownsRow n1 67 2 sl vs.length (fdCells vs):=by
  refine⟨m.row.1,?_⟩;rcases m.row.2 with e|⟨g,cap,y,B,d,i,e4⟩
  ·exact .inl e
  ·exact .inr ⟨g,cap,y,B,d,(H g (fun e=>X (by rw[B,<- e];rfl))).trans i,e4⟩
 obtain⟨i0,hi,hz,ac,a9⟩:=infoF;have a4:n1<=Q.heap.size:=by
  have h1:=h.lo;have h2:=Qaa h.box;rw[f];have:k.heap.size=w.heap.size:=V;simp;omega
 obtain⟨r,R,I,o3,A,_,a3⟩:=run_append_own_at (P:=Tryz.prog) Q n1 46 46 67 i0 _ 2 32 (by kernel_rfl) hi hz ac a9 rfl (by decide) sl vs.length (fdCells vs) (by rw[f];exact World.ownsRow.alloc a7 _) (Ja k.heap.size 0) 1 1 [str s,str t] rfl (fun j u hj=>by
  have B:((Ja k.heap.size 0):Addr).add j=(Ja k.heap.size j):=by cases j<;>simp[Addr.add]
  rw[B,f,Qad (heap_alloc_new k _)]
  simpa using hj) (fun c l=>by simp only[List.mem_cons,List.not_mem_nil,or_false]at l;rcases l with rfl|rfl<;>rfl) (by unfold maxLen;omega) (by omega) a4
 have am:∃o x v,r = .slice o x v:=by
  rcases o3.2 with ⟨e,_⟩|⟨g,cap,y,e,_⟩
  ·exact⟨_,_,_,e⟩
  ·exact⟨_,_,_,e⟩
 obtain⟨aH,ao,aI,M⟩:∃a n c,sl = .slice a n c:=by
  rcases h.row.2 with ⟨e,_⟩|⟨g,cap,y,e,_⟩
  ·exact⟨_,_,_,e⟩
  ·exact⟨_,_,_,e⟩
 have a6:ao=vs.length:=by
  rcases h.row.2 with ⟨e,d⟩|⟨g,cap,y,e,_⟩
  ·rw[M]at e;cases e;omega
  ·rw[M]at e;cases e;rfl
 obtain⟨o,x,v,rfl⟩:=am;have s2:Q.heap.size=k.heap.size+1:=by rw[f];simp
 have an:k.heap.size=w.heap.size:=V;have a2:Q.heap[wb]?=k.heap[wb]?:=by rw[f];exact Below.heap_alloc _ _ _ (Qaa E)
 have S:R.heap[wb]?=some (.cells #[fnV 47 c.cb,fnV 48 c.cb,fnV 78 c.cb,fnV 79 c.cb,sl,.map (some mb)] 143 (0,0)):=(A.block wb (by have:=Qaa E;omega) Y).trans (a2.trans E);obtain⟨G,z⟩:=JE (R.setCell (Ja wb 4) (.slice o x v));have O:∀q,q≠wb->G.heap[q]?=R.heap[q]?:=fun q F=>by rw[z];exact hpS F
 have same:∀b,b<w.heap.size->b≠wb->b≠mb->some b≠sl.ownBlock->G.heap[b]?=w.heap[b]?:=fun b N h1 h2 h3=>by
  rw[O b h1,A.block b (by omega) h3,f,Below.heap_alloc _ _ _ (by omega),H b h2];rfl
 have T:(Value.slice o x v).ownBlock=sl.ownBlock ∨ ∃g,(Value.slice o x v).ownBlock=some g/\w.heap.size<=g:=by
  rcases a3 with e|e
  ·exact .inl e
  ·exact .inr ⟨_,e,by omega⟩
 have ag:∀b,some b=(Value.slice o x v).ownBlock->b≠wb:=fun b e d=>by
  subst d;rcases T with i|⟨g,i,hg⟩
  ·exact Y (e.trans i)
  rw[i]at e;cases e
  have:=Qaa h.box;omega
 have K:Kw wb mb sl (.slice o x v) w G:=by
  refine⟨?_,?_,?_,?_,same,T⟩
  ·rw[z];exact(A.os.trans (by rw[f];rfl)).trans aa
  ·rw[z];exact(A.tape.trans (by rw[f];rfl)).trans ad
  ·rw[z];exact(A.output.trans (by rw[f];rfl)).trans ae
  have:=A.size;rw[z];simp;omega
 have WK:Wk n0 n1 p c wb mb (.slice o x v) (vs++[⟨s,t⟩]) G:=by
  have D:=h.lo;have C:∀b,b<n1->G.heap[b]?=w.heap[b]?:=fun b N=>by
   have al:b<w.heap.size:=by have:=Qaa h.box;omega
   exact same b al (by omega) (by omega) (fun e=>by have:=(World.ownsRow.lt h.row b e.symm).1;omega)
  refine⟨?_,?_,?_,?_,D,?_⟩
  ·
   have l:=h.cat;exact⟨(C _ D.2.1).trans l.box,Qak.same _ _ _ _ _ l.prg K.size (fun q F _=>C q (by have aG:q<n0:=F;omega)),l.row.keep (C _ D.2.2.1),l.mt.keep (C _ D.2.2.2.1),l.md.keep (C _ D.2.2.2.2.1),l.mc.keep (C _ D.2.2.2.2.2.1),l.l0⟩
  ·rw[z];exact(Qah S 4 _).trans rfl
  ·
   have o5:R.ownsRow n1 67 2 (.slice o x v) (vs.length+1) (fdCells vs++[str s,str t]):=o3;rw[Qjo,List.length_append];refine⟨o5.1,?_⟩;rcases o5.2 with e|⟨g,cap,y,B,d,i,e4⟩
   ·exact .inl e
   ·exact .inr ⟨g,cap,y,B,d,(O g (ag g (by rw[B];rfl))).trans i,e4⟩
  ·
   refine⟨ms++[(s,Ji (vs.length:Int))],?_,fun t'=>?_⟩
   ·
    refine L.keep ?_;rw[O mb (Ne.symm W),A.block mb (by have:=L.lt;omega) X,f];exact Below.heap_alloc _ _ _ L.lt
   rw[Qsa,Qck,Qck,U t',Qez,Qez]
   cases asc (vRow vs) t' with
   |some _=>rfl
   |none=>
    by_cases e:s=t'
    ·simp[e,nOf]
    ·simp[e]
  rw[List.map_append,List.nodup_append];refine⟨h.nd,by simp,fun a ha b N e=>?_⟩;simp only[List.map_cons,List.map_nil,List.mem_singleton]at N;rw[e,N]at ha;exact Qs hn ha
 obtain⟨ap,aq,ar,au,Z,av,xf⟩:=cl6 h.box;obtain⟨aw,ax,ay,az,ah,aA,yf⟩:=cl6 E;obtain⟨aB,aC,aD,aE,ai,aF,zf⟩:=cl6 S;rw[M,a6]at Z ah ai I;have a5:(Instr.mapUpdate 125 (.map (some mb)) (str s) (Ji (vs.length:Int))).run Tryz.prog w.drew = .ok () k:=ab;obtain⟨vn,af⟩:=JF vs.length;rw[af]at Z ah ai I a5 hl;have HE:=hide (Ya WK K);have aj:=hide f;have ak:=hide z;have a0:=hide I;clear h m a8 J U a1 ab L V aa ad ae H W E X Y f a7 hi hz ac a9 a4 I o3 A a3 M a6 s2 an a2 S z O same T ag K WK af hn ap aq ar au aw ax ay az aA aB aC aD aE aF;go_enter Tryz.func133,Tryz.ntmps133;go_wp2_with fail
 go_region
 clear Z av xf a5;go_wp2_with (at_builtin;rw[<- Qa aj];refine Qaj _ rfl _ _ 46 rfl _ _ rfl rfl _ _ (Qa a0) ?_;clear a0);rw[<- Qa ak]
 go_end0
 exact⟨rfl,_,Qa HE⟩
end
theorem Qas(w:World)(cs:Array Value)(T:TypeId):∃w2,w2=(w.alloc (.cells cs T)).alloc (.cells #[Ji 0,Ji 0] 31)/\Below w.heap.size w w2/\w2.heap[w.heap.size]?=some (.cells cs T (0,0))/\w2.heap[w.heap.size+1]?=some (.cells #[Ji 0,Ji 0] 31 (0,0))/\w2.heap.size=w.heap.size+2:=by
 refine⟨_,rfl,((Below.refl _ w).alloc (Nat.le_refl _) _).alloc (by simp) _,?_,?_,by simp⟩
 ·rw[Below.heap_alloc _ _ _ (by simp)];exact heap_alloc_new w _
 have:=heap_alloc_new (w.alloc (.cells cs T)) (.cells #[Ji 0,Ji 0] 31)
 simpa using this
section
variable {n0 n1:Nat}{p:Pg}{c:CatP}{wb mb:Nat}{sl:Value}{vs:List Fld}{w:World}
theorem Qel(h:Wk n0 n1 p c wb mb sl vs w)(x:Ex)(xv:Value)(hv:∃a n c,xv = .slice a n c)(t b:Txt):
  Calls Tryz.prog 123 #[.pointer (Js wb),.agg #[Ji x.kind,Ji x.num,str x.txt,xv,Ji x.at_],str t,str b] w fun en w'=>en = .returned (ftV (if hasP p t b=true then (0,0) else (13,x.at_)))/\Below w.heap.size w w':=by
 obtain⟨G,I,H,rfl⟩:=hv;obtain⟨X,C,d,f,e,g⟩:=Qas w #[Ji x.kind,Ji x.num,str x.txt,.slice G I H,Ji x.at_] 59;have o:=Qgb (h.later d) t b;have R:=hide C;have Q:=hide (Ya d (Ya f (Ya e g)));obtain⟨r,F⟩:=JF (hasP p t b);rw[F]at o ⊢;clear C d f e g h F;go_enter Tryz.func123,Tryz.ntmps123;go_upto_region 1 with fail;rw[<- Qa R];go_wp2_with fail;refine o.mono ?_;clear o;rintro en S⟨rfl,k⟩;obtain⟨d,f,e,g⟩:=Qa Q;have s:=(k.block _ (by omega)).trans f;have i:=(k.block _ (by omega)).trans e;have z:=hide (d.trans (k.mono d.size));cases r
 ·
  have D:=Qbd S 13 x.kind x.num x.txt (.slice G I H) ⟨_,_,_,rfl⟩ x.at_;obtain⟨J,K,L,M,N,T⟩:=cl5 s;have E:=hide (Ya i g);clear d f e g s i k;go_wp2_with fail;refine D.mono ?_;clear D J K L M N T;rintro en Y⟨rfl,A⟩;have q:=(A.block _ (Qaa (Qa E).1)).trans (Qa E).1;have B:=(Qa z).trans (A.mono (Qa z).size);obtain⟨W,l,sc⟩:=sc2 q (Ji 13) (Ji x.at_);obtain⟨O,P,U⟩:=cl2 q;have j:=hide (Ya (sc.below B (by omega)) sc.box);have m:=hide l;clear A q B l sc;go_wp2_with fail;rw[<- Qa m];obtain⟨u,y,V⟩:=cl2 (Qa j).2;refine bodyPost_ret (v:=ftV (13,x.at_)) (by simp[results,Tryz.results123,go_sem,u,y,ftV]) rfl ?_;exact⟨rfl,(Qa j).1⟩
 obtain⟨W,l,sc⟩:=sc2 i (Ji 0) (Ji 0);obtain⟨O,P,U⟩:=cl2 i;have j:=hide (Ya (sc.below (Qa z) (by omega)) sc.box);have m:=hide l;clear d f e g s i k l sc;go_wp2_with fail;rw[<- Qa m];obtain⟨u,y,V⟩:=cl2 (Qa j).2;refine bodyPost_ret (v:=ftV (0,0)) (by simp[results,Tryz.results123,go_sem,u,y,ftV]) rfl ?_;exact⟨rfl,(Qa j).1⟩
end
theorem Qhs:∀(vs:List Fld) (k:Nat) (s:Txt) (i:Nat),asc (vs.zipIdx k |>.map fun q=>(q.1.name,q.2)) s=some i -> ∃v,k<=i/\vs[i - k]?=some v/\v.name=s/\typV vs s=some v.type
 | [],_,_,_,h=>by cases h
 |u :: vs,k,s,i,h=>by
  unfold asc at h;simp only[List.zipIdx_cons,List.map_cons,List.find?_cons]at h;by_cases e:u.name=s
  ·
   simp only[e,decide_true,Option.map_some,Option.some.injEq]at h;subst h;exact⟨u,Nat.le_refl _,by simp,e,by unfold typV;simp[e]⟩
  simp only[e,decide_false]at h;obtain⟨v,h1,h2,h3,h4⟩:=Qhs vs (k+1) s i h;refine⟨v,by omega,?_,h3,?_⟩
  ·rw[show i - k=(i - (k+1))+1 by omega];simpa using h2
  unfold typV at h4 ⊢
  simpa[e] using h4
theorem Qkl{vs:List Fld}{s own:Txt}(h:typV vs s=some own):∃i v,asc (vRow vs) s=some i/\vs[i]?=some v/\v.name=s/\v.type=own:=by
 have a:=Qej vs s;rw[h]at a
 cases d:asc (vRow vs) s with
 |none=>rw[d]at a;cases a
 |some i=>
  obtain⟨v,_,e,f,b⟩:=Qhs vs 0 s i d;rw[h]at b;exact⟨i,v,rfl,by simpa using e,f,by simpa using b.symm⟩
theorem Qmt:∀(vs:List Fld) (i:Nat) (v:Fld) (t:Txt),(vs.map (·.name)).Nodup->vs[i]?=some v->putT vs v.name t=vs.set i ⟨v.name,t⟩
 | [],i,v,t,_,h=>by simp at h
 |u :: vs,0,v,t,hn,h=>by
  cases h
  simp only[List.map_cons,List.nodup_cons]at hn;unfold putT;simp only[List.map_cons,if_true,List.set_cons_zero,List.cons.injEq,true_and];refine(List.map_congr_left (g:=id) fun a ha=>?_).trans (List.map_id vs);by_cases e:a.name=u.name
  ·exact absurd (List.mem_map.2 ⟨a,ha,e⟩) hn.1
  ·rw[if_neg e];rfl
 |u :: vs,i+1,v,t,hn,h=>by
  simp only[List.map_cons,List.nodup_cons]at hn;have ih:=Qmt vs i v t hn.2 (by simpa using h);unfold putT at ih ⊢;have b:v∈vs:=List.mem_of_getElem? (show vs[i]?=some v by simpa using h);have e:¬u.name=v.name:=fun e=>hn.1 (List.mem_map.2 ⟨v,b,e.symm⟩);rw[List.map_cons,if_neg e,ih];rfl
theorem Qhk(vs:List Fld)(s t:Txt):(putT vs s t).map (·.name)=vs.map (·.name):=by
 unfold putT;rw[List.map_map];refine List.map_congr_left fun a _=>?_;simp only[Function.comp];split<;>rfl
theorem Qht:∀(vs us:List Fld) (k:Nat),vs.map (·.name)=us.map (·.name)->(vs.zipIdx k).map (fun q=>(q.1.name,q.2))=(us.zipIdx k).map (fun q=>(q.1.name,q.2))
 | [],[],_,_=>rfl
 | [],_ :: _,_,h=>by simp at h
 |_ :: _,[],_,h=>by simp at h
 |v :: vs,u :: us,k,h=>by
  simp only[List.map_cons,List.cons.injEq]at h;simp only[List.zipIdx_cons,List.map_cons,h.1,Qht vs us (k+1) h.2]
section
variable {n0 n1:Nat}{p:Pg}{c:CatP}{wb mb:Nat}{sl:Value}{vs:List Fld}{w:World}
theorem Wk.turn(h:Wk n0 n1 p c wb mb sl vs w){i:Nat}{v:Fld}(hi:vs[i]?=some v)(t:Txt):∃g cap,sl = .slice (Js g) vs.length cap/\vs.length<=cap/\cap<=9223372036854775807/\w.cell? (Ja g (i*2+1))=some (str v.type)/\(∀o,w.frozen? (Ja g o)=false)/\n1<=g/\Wk n0 n1 p c wb mb sl (putT vs v.name t) (w.setCell (Ja g (i*2+1)) (str t))/\Kw wb mb sl sl w (w.setCell (Ja g (i*2+1)) (str t)):=by
 have C:=(List.getElem?_eq_some_iff.1 hi).1;rcases h.row.2 with ⟨_,e⟩|⟨g,cap,B,d,u,f,x,n,F,G⟩
 ·omega
 unfold maxLen at n;have j:=h.row;have m:some wb≠sl.ownBlock:=fun e=>by
  rw[d]at e;cases e
  have:=h.box;rw[f]at this;simp at this
 have l:some mb≠sl.ownBlock:=fun e=>by
  rw[d]at e;cases e
  obtain⟨I,⟨H,E,z,_⟩,_⟩:=h.map;rw[z]at f;cases f
 rw[d]at j m l;have s:wb≠g:=fun e=>m (by rw[e];rfl);have r:mb≠g:=fun e=>l (by rw[e];rfl);have o:∀q,q≠g->(w.setCell (Ja g (i*2+1)) (str t)).heap[q]?=w.heap[q]?:=fun q k=>hpS k;have A:=h.lo;refine⟨g,cap,d,x,n,?_,fun q=>by simp[World.frozen?,f],u,⟨?_,(o _ s).trans h.box,?_,?_,A,?_⟩,?_⟩
 ·
  rw[World.ownsRow.cellAt j (i*2+1) (by omega)];exact(Qfz vs i v hi).2
 ·
  have a:=h.cat;exact⟨(o _ (by omega)).trans a.box,Qak.same _ _ _ _ _ a.prg (by simp) (fun q k _=>o q (by have D:q<n0:=k;omega)),a.row.keep (o _ (by omega)),a.mt.keep (o _ (by omega)),a.md.keep (o _ (by omega)),a.mc.keep (o _ (by omega)),a.l0⟩
 ·
  rw[Qmt vs i v t h.nd hi,List.length_set,<- Qg vs i v t hi,d];exact(World.ownsRow.stored j (i*2+1) (str t)).1
 ·
  have e:vRow (putT vs v.name t)=vRow vs:=Qht _ _ 0 (Qhk vs _ t);rw[e];exact h.map.keep (o _ r)
 ·rw[Qhk];exact h.nd
 ·exact⟨rfl,rfl,rfl,by simp,fun b _ _ _ y=>o b (fun e=>y (by rw[d,e];rfl)),.inl rfl⟩
def LkA(n0 n1:Nat)(p:Pg)(c:CatP)(wb mb:Nat)(sl:Value)(w:World)(R:Except Flt (List Fld))(en:Ending)(w':World):Prop:=
 ∃sl' vs',Wk n0 n1 p c wb mb sl' vs' w'/\Kw wb mb sl sl' w w'/\match R with | .ok v=>en = .returned (ftV (0,0))/\vs'=v | .error f=>en = .returned (ftV f)/\f.1≠0
theorem Wk.sc(h:Wk n0 n1 p c wb mb sl vs w){b:Nat}{T:TypeId}{cs:Array Value}{W:World}(hs:Sc b T cs w W)(hb:n1<=b)(hn:b≠wb/\b≠mb/\some b≠sl.ownBlock):Wk n0 n1 p c wb mb sl vs W:=by
 have m:=h.lo;have a:=h.cat;refine⟨⟨(hs.oth _ (by omega)).trans a.box,Qak.same _ _ _ _ _ a.prg (by rw[hs.size];exact Nat.le_refl _) (fun q l _=>hs.oth q (by have n:q<n0:=l;omega)),a.row.keep (hs.oth _ (by omega)),a.mt.keep (hs.oth _ (by omega)),a.md.keep (hs.oth _ (by omega)),a.mc.keep (hs.oth _ (by omega)),a.l0⟩,(hs.oth _ (Ne.symm hn.1)).trans h.box,?_,h.map.keep (hs.oth _ (Ne.symm hn.2.1)),m,h.nd⟩;refine⟨h.row.1,?_⟩;rcases h.row.2 with e|⟨g,cap,f,d,i,j,k⟩
 ·exact .inl e
 ·exact .inr ⟨g,cap,f,d,i,(hs.oth g (fun e=>hn.2.2 (by rw[d,e];rfl))).trans j,k⟩
theorem Kw.sc{sl':Value}{w' W:World}(h:Kw wb mb sl sl' w w'){b:Nat}{T:TypeId}{cs:Array Value}(hs:Sc b T cs w' W)(hb:w.heap.size<=b):Kw wb mb sl sl' w W:=
 ⟨hs.os.trans h.os,hs.tape.trans h.tape,hs.output.trans h.output,by rw[hs.size];exact h.size,fun q f a d e=>(hs.oth q (by omega)).trans (h.block q f a d e),h.own⟩
theorem Wk.n1le(h:Wk n0 n1 p c wb mb sl vs w):n1<=w.heap.size:=by have:=h.lo;have:=Qaa h.box;omega
theorem Qny(h:Wk n0 n1 p c wb mb sl vs w)(hl:vs.length<=1000000000)(x:Ex)(hk:x.kind=1)(xv:Value)(hv:∃a n c,xv = .slice a n c)(t:Txt)(hty:typV vs x.txt=none):
  Calls Tryz.prog 122 #[.pointer (Js wb),.agg #[Ji x.kind,Ji x.num,str x.txt,xv,Ji x.at_],str t] w fun en w'=>LkA n0 n1 p c wb mb sl w (narP p vs x t) en w':=by
 obtain⟨P,S,Q,rfl⟩:=hv;obtain⟨w2,H,d,j,o,f⟩:=Qas w #[Ji x.kind,Ji x.num,str x.txt,.slice P S Q,Ji x.at_] 59;have L:=h.later d;have k:=Qdw L x (.slice P S Q) ⟨_,_,_,rfl⟩;have Z:=hide H;have J:=hide (Ya d (Ya j (Ya o (Ya f h))));have a0:=h.n1le;obtain⟨R,m⟩:=JF (narP p vs x t);rw[m];unfold narP at m;have O:openP vs x=(typV vs x.txt).isNone:=by unfold openP;rw[hk];rfl
 rw[O]at k;obtain⟨u,y,z,A,B,E⟩:=cl5 j;rw[hty]at m k;simp only[Option.isNone_none]at k;have K:=hide (Ya m hty);clear H d j o f h L O m hty hk;go_enter Tryz.func122,Tryz.ntmps122;go_upto_region 1 with fail;rw[<- Qa Z];go_wp2_with fail;refine k.mono ?_;clear k u y z A B E;rintro en w3⟨rfl,q⟩;obtain⟨d,j,o,f,h⟩:=Qa J;have I:=(q.block _ (by omega)).trans j;have i:=(q.block _ (by omega)).trans o;have b:=d.trans (q.mono d.size);have l:=h.later b;have G:=Qrd l hl x.txt t (Qa K).2;obtain⟨u,y,z,A,B,E⟩:=cl5 I;have Y:=hide (Ya b (Ya i (Ya l f)));clear d j o f h q I i b l;go_wp2_with fail;refine G.mono ?_;clear G u y z A B E;rintro en w4⟨rfl,U,M,r⟩;obtain⟨b,i,l,f⟩:=Qa Y;have s3:=b.size;have off:w.heap.size+1≠wb/\w.heap.size+1≠mb/\some (w.heap.size+1)≠sl.ownBlock:=(Qa J).2.2.2.2.new (by omega);have s:=r.keep i off;obtain⟨W,N,sc⟩:=sc2 s (Ji 0) (Ji 0);obtain⟨a1,a2,yf⟩:=cl2 s
 have F:w.heap.size+1≠wb/\w.heap.size+1≠mb/\some (w.heap.size+1)≠U.ownBlock:=⟨off.1,off.2.1,fun e=>by
  rcases r.own with D|⟨g,D,hg⟩
  ·exact off.2.2 (e.trans D)
  rw[D]at e;cases e
  have:=Qaa i
  omega⟩
 have C:=hide (Ya (M.sc sc (by omega) F) (Ya (((Kw.of_below b).trans r).sc sc (by omega)) sc.box));have T:=hide N;clear M r b i l f s3 off s N sc F;go_wp2_with fail;rw[<- Qa T];obtain⟨V,X,zf⟩:=cl2 (Qa C).2.2;refine bodyPost_ret (v:=ftV (0,0)) (by simp[results,Tryz.results122,go_sem,V,X,ftV]) rfl ?_;refine⟨_,_,(Qa C).1,(Qa C).2.1,?_⟩;rw[<- (Qa K).1];exact⟨rfl,rfl⟩
end
section
variable {n0 n1:Nat}{p:Pg}{c:CatP}{wb mb:Nat}{sl:Value}{vs:List Fld}{w:World}
theorem Qnz(h:Wk n0 n1 p c wb mb sl vs w)(x:Ex)(hk:x.kind=1)(xv:Value)(hv:∃a n c,xv = .slice a n c)(t:Txt){own:Txt}(hty:typV vs x.txt=some own):
  Calls Tryz.prog 122 #[.pointer (Js wb),.agg #[Ji x.kind,Ji x.num,str x.txt,xv,Ji x.at_],str t] w fun en w'=>LkA n0 n1 p c wb mb sl w (narP p vs x t) en w':=by
 obtain⟨va,vn,vc,rfl⟩:=hv;obtain⟨w2,al,A,B,T,j⟩:=Qas w #[Ji x.kind,Ji x.num,str x.txt,.slice va vn vc,Ji x.at_] 59;have h2:=h.later A;have a4:=Qdw h2 x (.slice va vn vc) ⟨_,_,_,rfl⟩;have HW:=hide al;have N:=hide (Ya A (Ya B (Ya T (Ya j h))));have aK:=h.n1le;obtain⟨R,Q⟩:=JF (narP p vs x t);rw[Q];unfold narP at Q;have ho:openP vs x=(typV vs x.txt).isNone:=by unfold openP;rw[hk];rfl
 rw[ho,hty]at a4;simp only[Option.isNone_some]at a4;rw[hty]at Q;obtain⟨i,v,ag,ai,aj,ak⟩:=Qkl hty;obtain⟨F,G,a5,H,I,xf⟩:=cl5 B;have q:=hide (Ya Q (Ya ai (Ya aj (Ya ak ag))));clear al A B T j h h2 ho Q hty hk ag ai aj ak;go_enter Tryz.func122,Tryz.ntmps122;go_upto_region 1 with fail;rw[<- Qa HW];go_wp2_with fail;refine a4.mono ?_;clear a4 F G a5 H I xf;rintro en o⟨rfl,b3⟩;obtain⟨A,B,T,j,h⟩:=Qa N;have f:=(b3.block _ (by omega)).trans B;have e:=(b3.block _ (by omega)).trans T;have d:=A.trans (b3.mono A.size);have b:=h.later d;obtain⟨g,cap,k,au,aJ,a1,av,aw,a9⟩:=b.turn (Qa q).2.1 t;have aa:=b.lookV x.txt false;have ab:=(b.later (Below.refl _ o).drew).lookV x.txt false;rw[if_neg (by simp),(Qa q).2.2.2.2]at aa ab;simp only[Option.getD_some]at aa ab;obtain⟨F,G,a5,H,I,xf⟩:=cl5 f;obtain⟨aC,aD,aE,aF,ae,aG,qf⟩:=cl6 b.box;rw[k]at ae;have ay:i<vs.length:=(List.getElem?_eq_some_iff.1 (Qa q).2.1).1;obtain⟨vl,ac⟩:=JF vs.length;rw[ac]at ae ay au;have C:=Qem (Ct.later b.cat ((Below.refl _ o).drew.drew)) own t
 have HC:=hide (show ∀w',Below o.heap.size o w'->w'.cell? (Ja wb 1)=some (.func (.func 48) #[.pointer (Js c.cb)] #[])/\w'.cell? (Ja g (i*2+1))=some (str own) from fun w' bw=>⟨(cl6 (b.later bw).box).2.1,by
  have ax:g<o.heap.size:=(World.ownsRow.lt b.row g (by rw[k];rfl)).2
  rw[bw.cell (p:=(Ja g (i*2+1))) ax,a1,(Qa q).2.2.2.1]⟩)
 have M:=hide (Ya d (Ya e (Ya f (Ya b (Ya j (Ya ac k))))));clear A B T j h b3 f e d b k a1 av aw a9 ac aC aD aE aF;go_wp2_with fail
 go_region
 clear aa ab F G H I ae aG;go_wp2_with fail;refine Qba (md:=[(0,true),(1,true),(2,true),(3,true),(4,true),(5,true),(6,true),(7,true),(8,false)]) (fun w'=>w'.cell? (Ja wb 1)=some (.func (.func 48) #[.pointer (Js c.cb)] #[])/\w'.cell? (Ja g (i*2+1))=some (str own)) mixedO (by kernel_rfl) rfl (by kernel_rfl) (fun PP E=>?_)
 iterate 8 refine Qac rfl (by kernel_rfl) (fun w' hw=>by obtain⟨aA,aB⟩:=hw;go_simp<;>rfl) ?_
 refine Qal rfl (Qa HC _ (Below.refl _ o).drew.drew) (fun K P=>?_);go_simp;refine C.mono ?_;clear C;rintro en w4⟨rfl,b4⟩;show K _ _;refine P _ _ ?_;clear P K;have a7:Below o.heap.size o w4:=(Below.refl _ o).drew.drew.trans b4;refine Qbc (Qa HC _ a7) (E _ _ ?_);clear E PP;have u:=hide a7;clear b4 a7
 cases Z:belowP p own t with
 |true=>
  obtain⟨d,e,f,b,j,_⟩:=Qa M;have l:=d.size;have O:=b.later (Qa u);have ad:=((Qa u).block _ (Qaa e)).trans e;have k4:=Kw.of_below (wb:=wb) (mb:=mb) (sl:=sl) (d.trans ((Qa u).mono l));obtain⟨W,r,sc⟩:=sc2 ad (Ji 0) (Ji 0);obtain⟨aq,ar,yf⟩:=cl2 ad;have m:=hide (Ya (Wk.sc O sc (by omega) ((Qa N).2.2.2.2.new (by omega))) (Ya (Kw.sc k4 sc (by omega)) sc.box));have D:=hide r;have X:=hide Z;clear d e f b j l O ad k4 r sc Z;go_wp2_with fail;rw[<- Qa D];obtain⟨J,L,zf⟩:=cl2 (Qa m).2.2;refine bodyPost_ret (v:=ftV (0,0)) (by simp[results,Tryz.results122,go_sem,J,L,ftV]) rfl ?_;refine⟨_,_,(Qa m).1,(Qa m).2.1,?_⟩;rw[<- (Qa q).1,Qa X];exact⟨rfl,rfl⟩
 |false=>
  obtain⟨d,e,f,b,j,s,k⟩:=Qa M;have l:=d.size;have O:=b.later (Qa u);have C:=Qem (Ct.later O.cat (Below.refl _ w4).drew) t own;have X:=hide Z;clear d e f b j l O Z s k;go_wp2_with fail;refine Qba (md:=[(0,true),(1,true),(2,true),(3,true),(4,true),(5,true),(6,true),(7,true),(8,false),(9,true)]) (fun w'=>w'.cell? (Ja wb 1)=some (.func (.func 48) #[.pointer (Js c.cb)] #[])/\w'.cell? (Ja g (i*2+1))=some (str own)) mixedO (by kernel_rfl) rfl (by kernel_rfl) (fun PP E=>?_)
  iterate 8 refine Qac rfl (by kernel_rfl) (fun w' hw=>by obtain⟨aA,aB⟩:=hw;go_simp<;>rfl) ?_
  refine Qal rfl (Qa HC _ ((Qa u).drew)) (fun K P=>?_);go_simp;refine C.mono ?_;clear C;rintro en w5⟨rfl,b5⟩;show K _ _;refine P _ _ ?_;clear P K;have a8:Below o.heap.size o w5:=(Qa u).drew.trans (b5.mono (Qa u).size);refine Qac rfl (by kernel_rfl) (fun _ _=>by go_simp<;>rfl) ?_;refine Qbc (Qa HC _ a8) (E _ _ ?_);clear E PP;have y:=hide a8;clear b5 a8
  cases a2:belowP p t own with
  |true=>
   obtain⟨d,e,f,b,j,s,k⟩:=Qa M;have l:=d.size;have h5:=b.later (Qa y);obtain⟨g',aH,a0,_,_,a3,aI,ah,V,U⟩:=h5.turn (Qa q).2.1 t;rw[k]at a0;simp only[Value.slice.injEq,Option.some.injEq,Addr.mk.injEq]at a0;obtain⟨⟨rfl,_⟩,_⟩:=a0;rw[(Qa q).2.2.2.1]at a3;obtain⟨w6,am⟩:=JE (w5.setCell (Ja g (i*2+1)) (str t));rw[<- am]at V U;have af:=d.trans ((Qa y).mono l);have S:=(Kw.of_below (wb:=wb) (mb:=mb) (sl:=sl) af).trans U;have ao:=((Qa y).block _ (Qaa e)).trans e;have az:=(Qa y).size;have z:=U.keep ao ((Qa N).2.2.2.2.new (by omega));rw[(Qa q).2.2.1]at V;obtain⟨W,r,sc⟩:=sc2 z (Ji 0) (Ji 0);obtain⟨aq,ar,yf⟩:=cl2 z;have m:=hide (Ya (Wk.sc V sc (by omega) ((Qa N).2.2.2.2.new (by omega))) (Ya (Kw.sc S sc (by omega)) sc.box));have D:=hide r;have a6:=hide a2;clear d e f b j l h5 ah V U af S ao az z r sc a2 s k;subst am;go_wp2_with fail;rw[<- Qa D];obtain⟨J,L,zf⟩:=cl2 (Qa m).2.2;refine bodyPost_ret (v:=ftV (0,0)) (by simp[results,Tryz.results122,go_sem,J,L,ftV]) rfl ?_;refine⟨_,_,(Qa m).1,(Qa m).2.1,?_⟩;rw[<- (Qa q).1,Qa X,Qa a6];exact⟨rfl,rfl⟩
  |false=>
   obtain⟨d,e,f,b,j,s,k⟩:=Qa M;have l:=d.size;have ap:=((Qa y).block _ (Qaa f)).trans f;have an:=Qbd w5 13 x.kind x.num x.txt (.slice va vn vc) ⟨_,_,_,rfl⟩ x.at_;obtain⟨F,G,a5,H,I,xf⟩:=cl5 ap;have a6:=hide a2;clear d e f b j l ap a2 s k;go_wp2_with fail;refine an.mono ?_;clear an F G a5 H I xf;rintro en w6⟨rfl,b6⟩;obtain⟨d,e,f,b,j,s,k⟩:=Qa M;have l:=d.size;have Y:=(Qa y).trans (b6.mono (Qa y).size);have h6:=b.later Y;have z:=(Y.block _ (Qaa e)).trans e;have S:=Kw.of_below (wb:=wb) (mb:=mb) (sl:=sl) (d.trans (Y.mono l));obtain⟨W,r,sc⟩:=sc2 z (Ji 13) (Ji x.at_);obtain⟨aq,ar,yf⟩:=cl2 z;have m:=hide (Ya (Wk.sc h6 sc (by omega) ((Qa N).2.2.2.2.new (by omega))) (Ya (Kw.sc S sc (by omega)) sc.box));have D:=hide r;clear d e f b j l Y h6 z S b6 r sc s k;go_wp2_with fail;rw[<- Qa D];obtain⟨J,L,zf⟩:=cl2 (Qa m).2.2;refine bodyPost_ret (v:=ftV (13,x.at_)) (by simp[results,Tryz.results122,go_sem,J,L,ftV]) rfl ?_;refine⟨_,_,(Qa m).1,(Qa m).2.1,?_⟩;rw[<- (Qa q).1,Qa X,Qa a6];exact⟨rfl,by simp⟩
theorem Qnx(h:Wk n0 n1 p c wb mb sl vs w)(hl:vs.length<=1000000000)(x:Ex)(hk:x.kind=1)(xv:Value)(hv:∃a n c,xv = .slice a n c)(t:Txt):
  Calls Tryz.prog 122 #[.pointer (Js wb),.agg #[Ji x.kind,Ji x.num,str x.txt,xv,Ji x.at_],str t] w fun en w'=>LkA n0 n1 p c wb mb sl w (narP p vs x t) en w':=by
 cases b:typV vs x.txt with
 |none=>exact Qny h hl x hk xv hv t b
 |some own=>exact Qnz h x hk xv hv t b
end
def eachP(step:Ex->Txt->List Fld->Except Flt (List Fld)):List Ex->List Fld->List Fld->Except Flt (List Fld)
 |x :: xs,f :: fs,vs=>match step x f.type vs with
  | .error e=>.error e
  | .ok vs'=>eachP step xs fs vs'
 |_,_,vs=>.ok vs
def szL(sz:Ex->Nat):List Ex->Nat
 | []=>0
 |x :: xs=>sz x+szL sz xs
theorem Qis(sz:Ex->Nat):∀(xs:List Ex) (j:Nat) (x:Ex),xs[j]?=some x->szL sz (xs.drop j)=sz x+szL sz (xs.drop (j+1))
 | [],j,x,h=>by simp at h
 |y :: xs,0,x,h=>by cases h;rfl
 |y :: xs,j+1,x,h=>by simpa using Qis sz xs j x (by simpa using h)
theorem Qnp(step:Ex->Txt->List Fld->Except Flt (List Fld)){xs:List Ex}{fs:List Fld}{j:Nat}{x:Ex}{f:Fld}(hx:xs[j]?=some x)(hf:fs[j]?=some f)(vs:List Fld):
  eachP step (xs.drop j) (fs.drop j) vs=match step x f.type vs with | .error e=>.error e | .ok vs'=>eachP step (xs.drop (j+1)) (fs.drop (j+1)) vs':=by
 rw[List.drop_eq_getElem_cons (List.getElem?_eq_some_iff.1 hx).1,List.drop_eq_getElem_cons (List.getElem?_eq_some_iff.1 hf).1,(List.getElem?_eq_some_iff.1 hx).2,(List.getElem?_eq_some_iff.1 hf).2];rfl
structure LkF(F:Nat)(n0 n1:Nat)(p:Pg)(c:CatP)(wb mb:Nat)(N:Nat)(sz:Ex->Nat)(step:Ex->Txt->List Fld->Except Flt (List Fld))(xs:List Ex):Prop where
 call:∀x∈xs,∀(w:World) (sl:Value) (vs:List Fld) (a:Option Addr) (n k:Nat) (t:Txt),Wk n0 n1 p c wb mb sl vs w->ExS (fun b=>b<n0) w [.int .i64 x.kind,.int .i64 x.num,str x.txt,.slice a n k,.int .i64 x.at_] x->vs.length+sz x<=N ->
  Calls Tryz.prog F #[.pointer (some ⟨wb,0,none⟩),.agg #[.int .i64 x.kind,.int .i64 x.num,str x.txt,.slice a n k,.int .i64 x.at_],str t] w fun en w'=>LkA n0 n1 p c wb mb sl w (step x t vs) en w'
 grow:∀x t vs vs',step x t vs = .ok vs'->vs'.length<=vs.length+sz x
theorem Wk.offT{n0 n1:Nat}{p:Pg}{c:CatP}{wb mb:Nat}{sl:Value}{vs:List Fld}{w:World}(h:Wk n0 n1 p c wb mb sl vs w){b:Nat}{cs:Array Value}{T:TypeId}{fz:Nat×Nat}(hb:w.heap[b]?=some (.cells cs T fz))(h1:T≠143)(h2:T≠67):b≠wb/\b≠mb/\some b≠sl.ownBlock:=by
 refine⟨fun e=>?_,fun e=>?_,fun e=>?_⟩
 ·
  rw[e,h.box]at hb;simp only[Option.some.injEq,Obj.cells.injEq]at hb;exact h1 hb.2.1.symm
 ·
  obtain⟨l,⟨k,j,f,_⟩,_⟩:=h.map;rw[e,f]at hb;cases hb
 rcases h.row.2 with ⟨a,_⟩|⟨g,cap,i,a,_,d,_⟩
 ·rw[a]at e;cases e
 rw[a]at e;cases e
 rw[d]at hb;simp only[Option.some.injEq,Obj.cells.injEq]at hb;exact h2 hb.2.1.symm
structure EaI(n0 n1:Nat)(p:Pg)(c:CatP)(wb mb:Nat)(sl:Value)(w:World)(fb:Nat)(f:Flt)(R:Except Flt (List Fld))(W:World):Prop where
 ex:∃sl' vs',Wk n0 n1 p c wb mb sl' vs' W/\Kw wb mb sl sl' w W/\match R with | .ok v=>f=(0,0)/\vs'=v | .error e=>f=e/\f.1≠0
 box:W.heap[fb]?=some (.cells #[.int .i64 f.1,.int .i64 f.2] 31 (0,0))
section
variable {n0 n1:Nat}{p:Pg}{c:CatP}{wb mb:Nat}{sl:Value}{vs:List Fld}{w:World}
theorem Qse(h:Wk n0 n1 p c wb mb sl vs w)(x:Ex)(hk:x.kind=1)(xa:Option Addr)(xn xc:Nat){own:Txt}(hty:typV vs x.txt=some own):
  Calls Tryz.prog 117 #[.pointer (Js wb),.agg #[Ji x.kind,Ji x.num,str x.txt,.slice xa xn xc,Ji x.at_]] w fun en w'=>en = .returned (.tuple #[str own,ftV (0,0)])/\Below w.heap.size w w':=by
 obtain⟨w2,B,a,f,l,q⟩:=Qas w #[Ji x.kind,Ji x.num,str x.txt,.slice xa xn xc,Ji x.at_] 59;have K:=h.later a;have s:=Qdw K x (.slice xa xn xc) ⟨_,_,_,rfl⟩;have L:openP vs x=false:=by unfold openP;rw[hk,hty];rfl
 rw[L]at s;obtain⟨i,v,j,d,W,k⟩:=Qkl hty;obtain⟨D,E,F,G,H,N⟩:=cl5 f;have g1:(x.kind==1)=true:=beq_iff_eq.2 hk;have HW:=hide B;have J:=hide (Ya a (Ya f (Ya l (Ya q (Ya h (Ya j (Ya d k)))))));clear B a f l q h K L hty hk j d W k;go_enter Tryz.func117,Tryz.ntmps117;go_upto_region 1 with fail;rw[<- Qa HW];go_wp2_with fail;refine s.mono ?_;clear s D E F G H N;rintro en M⟨rfl,o⟩;obtain⟨a,f,l,q,h,j,d,k⟩:=Qa J;have C:=(o.block _ (by omega)).trans f;have n:=(o.block _ (by omega)).trans l;have r:=a.trans (o.mono a.size);have b:=h.later r;obtain⟨g,cap,m,Q,a0,O,R,S,_⟩:=b.turn d [];rw[k]at O;have V:i<vs.length:=(List.getElem?_eq_some_iff.1 d).1;obtain⟨vl,t⟩:=JF vs.length;have U:g<M.heap.size:=(World.ownsRow.lt b.row g (by rw[m];rfl)).2;have u:=b.offT n (by decide) (by decide);have T:g≠w.heap.size+1:=fun e=>u.2.2 (by rw[m,<- e];rfl);have z:=b.lookV x.txt false;have A:=(b.later (Below.refl _ M).drew).lookV x.txt false;rw[if_neg (by simp),j]at z A;simp only[Option.getD_some]at z A;obtain⟨D,E,F,G,H,N⟩:=cl5 C;obtain⟨a1,a2,a3,a4,X,a5,qf⟩:=cl6 b.box;rw[m,t]at X;obtain⟨W7,y,sc⟩:=sc2 n (Ji 0) (Ji 0);obtain⟨a6,a7,yf⟩:=cl2 n;have I:=hide (Ya (sc.below r (by omega)) sc.box);have P:=hide y;rw[t]at V Q;clear a f l q h j d k o C n r b m R S t U u T y sc J;go_wp2_with fail
 go_region
 rw[<- Qa P];obtain⟨Y,Z,zf⟩:=cl2 (Qa I).2;go_wp2_with fail;refine bodyPost_ret (v:=.tuple #[str own,ftV (0,0)]) (by simp[results,Tryz.results117,go_sem,Y,Z,ftV]) rfl ?_;exact⟨rfl,(Qa I).1.drew⟩
end
def FtR(R:Except Flt (List Fld))(ft:Flt)(vs:List Fld):Prop:=match R with | .ok v=>ft=(0,0)/\vs=v | .error e=>ft=e/\ft.1≠0
section
variable {n0 n1:Nat}{p:Pg}{c:CatP}{wb mb:Nat}{sl:Value}{vs:List Fld}{w:World}
theorem LkA.ft{R:Except Flt (List Fld)}{en:Ending}{w':World}(h:LkA n0 n1 p c wb mb sl w R en w'):∃sl' vs' ft,en = .returned (ftV ft)/\Wk n0 n1 p c wb mb sl' vs' w'/\Kw wb mb sl sl' w w'/\FtR R ft vs':=by
 obtain⟨sl',vs',b,d,a⟩:=h
 cases R with
 |ok v=>exact⟨sl',vs',(0,0),a.1,b,d,rfl,a.2⟩
 |error e=>exact⟨sl',vs',e,a.1,b,d,rfl,a.2⟩
theorem LkA.of{R:Except Flt (List Fld)}{sl':Value}{vs':List Fld}{ft:Flt}{w':World}(h1:Wk n0 n1 p c wb mb sl' vs' w')(h2:Kw wb mb sl sl' w w')(h3:FtR R ft vs'):LkA n0 n1 p c wb mb sl w R (.returned (ftV ft)) w':=by
 refine⟨sl',vs',h1,h2,?_⟩
 cases R with
 |ok v=>exact⟨by rw[h3.1],h3.2⟩
 |error e=>exact⟨by rw[h3.1],by rw[<- h3.1];exact h3.2⟩
theorem Qlp(h:Wk n0 n1 p c wb mb sl vs w)(hl:vs.length<=1000000000)(x:Ex)(hk:x.kind=1)(xa:Option Addr)(xn xc:Nat)(t:Txt):
  Calls Tryz.prog 113 #[.pointer (Js wb),.agg #[Ji x.kind,Ji x.num,str x.txt,.slice xa xn xc,Ji x.at_],str t] w fun en w'=>LkA n0 n1 p c wb mb sl w (narP p vs x t) en w':=by
 obtain⟨T,n,a,r,d,f⟩:=Qas w #[Ji x.kind,Ji x.num,str x.txt,.slice xa xn xc,Ji x.at_] 59;have b:=h.later a;have g:=Qnx b hl x hk (.slice xa xn xc) ⟨_,_,_,rfl⟩ t;obtain⟨u,y,z,A,B,K⟩:=cl5 r;have S:(x.kind==1)=true:=by rw[hk];rfl
 obtain⟨R,q⟩:=JF (narP p vs x t);rw[q]at g ⊢;have L:=h.n1le;have F:=hide n;have o:=hide (Ya a (Ya d (Ya f b)));clear n a r d f h b hk q;go_enter Tryz.func113,Tryz.ntmps113;go_upto_region 1 with fail;rw[<- Qa F];go_wp2_with fail;refine g.mono ?_;clear g u y z A B K;rintro en U m;obtain⟨M,N,ft,rfl,i,j,k⟩:=m.ft;clear m;obtain⟨a,d,f,b⟩:=Qa o;have e:=j.keep d (b.offT d (by decide) (by decide));obtain⟨Q,l,sc⟩:=sc2 e (Ji ft.1) (Ji ft.2);obtain⟨O,P,V⟩:=cl2 e;have E:=hide (Ya (i.sc sc (by omega) (i.offT e (by decide) (by decide))) (Ya (((Kw.of_below a).trans j).sc sc (by omega)) (Ya sc.box k)));have s:=hide l;clear a d f b i j k e l sc o;unfold ftV;go_wp2_with fail;rw[<- Qa s];obtain⟨G,H,I,J⟩:=Qa E;obtain⟨C,D,W⟩:=cl2 I;refine bodyPost_ret (v:=ftV ft) (by simp[results,Tryz.results113,go_sem,C,D,ftV]) rfl ?_;exact LkA.of G H J
end
end
end Go.Proofs.YtmfpbepifnedjaaGreat
