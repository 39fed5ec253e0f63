/- types. -/
import Derived.Test.YtkhndlnadhggkaaGreatAp01
import Derived.Test.YtkhndlnadhggkaaGreatAp30
import Derived.Test.YtkhndlnadhggkaaGreatAp03
import Derived.Test.YtkhndlnadhggkaaGreatAp07
import Derived.Deep.Cut
import Derived.Deep.CutRange
set_option maxRecDepth 100000
set_option maxHeartbeats 32000000
namespace Go.Proofs.YtkhndlnadhggkaaGreat
section
open Go.RowKit Go.Maps
theorem Qhg:∀(vs:List Fld) (k:Nat) (s:Txt) (i:Nat),asc (vs.zipIdx k |>.map fun q=>(q.1.name,q.2)) s=some i -> ∃v,k<=i/\vs[i - k]?=some v/\v.name=s/\typV vs s=some v.type
 | [],_,_,_,h=>by cases h
 |u :: vs,k,s,i,h=>by
  unfold asc at h;simp only[List.zipIdx_cons,List.map_cons,List.find?_cons]at h;by_cases e:u.name=s
  ·
   simp only[e,decide_true,Option.map_some,Option.some.injEq]at h;subst h;exact⟨u,Nat.le_refl _,by simp,e,by unfold typV;simp[e]⟩
  simp only[e,decide_false]at h;obtain⟨v,h1,h2,h3,h4⟩:=Qhg vs (k+1) s i h;refine⟨v,by omega,?_,h3,?_⟩
  ·rw[show i - k=(i - (k+1))+1 by omega];simpa using h2
  unfold typV at h4 ⊢
  simpa[e] using h4
theorem Qjt{vs:List Fld}{s own:Txt}(h:typV vs s=some own):∃i v,asc (vRow vs) s=some i/\vs[i]?=some v/\v.name=s/\v.type=own:=by
 have a:=Qec vs s;rw[h]at a
 cases d:asc (vRow vs) s with
 |none=>rw[d]at a;cases a
 |some i=>
  obtain⟨v,_,e,f,b⟩:=Qhg vs 0 s i d;rw[h]at b;exact⟨i,v,rfl,by simpa using e,f,by simpa using b.symm⟩
theorem Qmd:∀(vs:List Fld) (i:Nat) (v:Fld) (t:Txt),(vs.map (·.name)).Nodup->vs[i]?=some v->putT vs v.name t=vs.set i ⟨v.name,t⟩
 | [],i,v,t,_,h=>by simp at h
 |u :: vs,0,v,t,hn,h=>by
  cases h
  simp only[List.map_cons,List.nodup_cons]at hn;unfold putT;simp only[List.map_cons,if_true,List.set_cons_zero,List.cons.injEq,true_and];refine(List.map_congr_left (g:=id) fun a ha=>?_).trans (List.map_id vs);by_cases e:a.name=u.name
  ·exact absurd (List.mem_map.2 ⟨a,ha,e⟩) hn.1
  ·rw[if_neg e];rfl
 |u :: vs,i+1,v,t,hn,h=>by
  simp only[List.map_cons,List.nodup_cons]at hn;have ih:=Qmd vs i v t hn.2 (by simpa using h);unfold putT at ih ⊢;have b:v∈vs:=List.mem_of_getElem? (show vs[i]?=some v by simpa using h);have e:¬u.name=v.name:=fun e=>hn.1 (List.mem_map.2 ⟨v,b,e.symm⟩);rw[List.map_cons,if_neg e,ih];rfl
theorem Qh(vs:List Fld)(s t:Txt):(putT vs s t).map (·.name)=vs.map (·.name):=by
 unfold putT;rw[List.map_map];refine List.map_congr_left fun a _=>?_;simp only[Function.comp];split<;>rfl
theorem Qhh:∀(vs us:List Fld) (k:Nat),vs.map (·.name)=us.map (·.name)->(vs.zipIdx k).map (fun q=>(q.1.name,q.2))=(us.zipIdx k).map (fun q=>(q.1.name,q.2))
 | [],[],_,_=>rfl
 | [],_ :: _,_,h=>by simp at h
 |_ :: _,[],_,h=>by simp at h
 |v :: vs,u :: us,k,h=>by
  simp only[List.map_cons,List.cons.injEq]at h;simp only[List.zipIdx_cons,List.map_cons,h.1,Qhh vs us (k+1) h.2]
section
variable {n0 n1:Nat}{p:Pg}{c:CatP}{wb mb:Nat}{sl:Value}{vs:List Fld}{w:World}
theorem Wk.turn(h:Wk n0 n1 p c wb mb sl vs w){i:Nat}{v:Fld}(hi:vs[i]?=some v)(t:Txt):∃g cap,sl = .slice (Js g) vs.length cap/\vs.length<=cap/\cap<=9223372036854775807/\w.cell? (Ja g (i*2+1))=some (str v.type)/\(∀o,w.frozen? (Ja g o)=false)/\n1<=g/\Wk n0 n1 p c wb mb sl (putT vs v.name t) (w.setCell (Ja g (i*2+1)) (str t))/\Kw wb mb sl sl w (w.setCell (Ja g (i*2+1)) (str t)):=by
 have C:=(List.getElem?_eq_some_iff.1 hi).1;rcases h.row.2 with ⟨_,e⟩|⟨g,cap,B,d,u,f,x,n,F,G⟩
 ·omega
 unfold maxLen at n;have j:=h.row;have m:some wb≠sl.ownBlock:=fun e=>by
  rw[d]at e;cases e
  have:=h.box;rw[f]at this;simp at this
 have l:some mb≠sl.ownBlock:=fun e=>by
  rw[d]at e;cases e
  obtain⟨I,⟨H,E,z,_⟩,_⟩:=h.map;rw[z]at f;cases f
 rw[d]at j m l;have s:wb≠g:=fun e=>m (by rw[e];rfl);have r:mb≠g:=fun e=>l (by rw[e];rfl);have o:∀q,q≠g->(w.setCell (Ja g (i*2+1)) (str t)).heap[q]?=w.heap[q]?:=fun q k=>hpS k;have A:=h.lo;refine⟨g,cap,d,x,n,?_,fun q=>by simp[World.frozen?,f],u,⟨?_,(o _ s).trans h.box,?_,?_,A,?_⟩,?_⟩
 ·
  rw[World.ownsRow.cellAt j (i*2+1) (by omega)];exact(Qfo vs i v hi).2
 ·
  have a:=h.cat;exact⟨(o _ (by omega)).trans a.box,Qcj.same _ _ _ _ _ a.prg (by simp) (fun q k _=>o q (by have D:q<n0:=k;omega)),a.row.keep (o _ (by omega)),a.mt.keep (o _ (by omega)),a.md.keep (o _ (by omega)),a.mc.keep (o _ (by omega)),a.l0⟩
 ·
  rw[Qmd vs i v t h.nd hi,List.length_set,<- Qfp vs i v t hi,d];exact(World.ownsRow.stored j (i*2+1) (str t)).1
 ·
  have e:vRow (putT vs v.name t)=vRow vs:=Qhh _ _ 0 (Qh vs _ t);rw[e];exact h.map.keep (o _ r)
 ·rw[Qh];exact h.nd
 ·exact⟨rfl,rfl,rfl,by simp,fun b _ _ _ y=>o b (fun e=>y (by rw[d,e];rfl)),.inl rfl⟩
def LkA(n0 n1:Nat)(p:Pg)(c:CatP)(wb mb:Nat)(sl:Value)(w:World)(R:Except Flt (List Fld))(en:Ending)(w':World):Prop:=
 ∃sl' vs',Wk n0 n1 p c wb mb sl' vs' w'/\Kw wb mb sl sl' w w'/\match R with | .ok v=>en = .returned (ftV (0,0))/\vs'=v | .error f=>en = .returned (ftV f)/\f.1≠0
theorem Wk.sc(h:Wk n0 n1 p c wb mb sl vs w){b:Nat}{T:TypeId}{cs:Array Value}{W:World}(hs:Sc b T cs w W)(hb:n1<=b)(hn:b≠wb/\b≠mb/\some b≠sl.ownBlock):Wk n0 n1 p c wb mb sl vs W:=by
 have m:=h.lo;have a:=h.cat;refine⟨⟨(hs.oth _ (by omega)).trans a.box,Qcj.same _ _ _ _ _ a.prg (by rw[hs.size];exact Nat.le_refl _) (fun q l _=>hs.oth q (by have n:q<n0:=l;omega)),a.row.keep (hs.oth _ (by omega)),a.mt.keep (hs.oth _ (by omega)),a.md.keep (hs.oth _ (by omega)),a.mc.keep (hs.oth _ (by omega)),a.l0⟩,(hs.oth _ (Ne.symm hn.1)).trans h.box,?_,h.map.keep (hs.oth _ (Ne.symm hn.2.1)),m,h.nd⟩;refine⟨h.row.1,?_⟩;rcases h.row.2 with e|⟨g,cap,f,d,i,j,k⟩
 ·exact .inl e
 ·exact .inr ⟨g,cap,f,d,i,(hs.oth g (fun e=>hn.2.2 (by rw[d,e];rfl))).trans j,k⟩
theorem Kw.sc{sl':Value}{w' W:World}(h:Kw wb mb sl sl' w w'){b:Nat}{T:TypeId}{cs:Array Value}(hs:Sc b T cs w' W)(hb:w.heap.size<=b):Kw wb mb sl sl' w W:=
 ⟨hs.os.trans h.os,hs.tape.trans h.tape,hs.output.trans h.output,by rw[hs.size];exact h.size,fun q f a d e=>(hs.oth q (by omega)).trans (h.block q f a d e),h.own⟩
theorem Wk.n1le(h:Wk n0 n1 p c wb mb sl vs w):n1<=w.heap.size:=by have:=h.lo;have:=Qaa h.box;omega
theorem Qnh(h:Wk n0 n1 p c wb mb sl vs w)(hl:vs.length<=1000000000)(x:Ex)(hk:x.kind=1)(xv:Value)(hv:∃a n c,xv = .slice a n c)(t:Txt)(hty:typV vs x.txt=none):
  Calls Tryz.prog 122 #[.pointer (Js wb),.agg #[Ji x.kind,Ji x.num,str x.txt,xv,Ji x.at_],str t] w fun en w'=>LkA n0 n1 p c wb mb sl w (narP p vs x t) en w':=by
 obtain⟨P,S,Q,rfl⟩:=hv;obtain⟨w2,H,d,j,o,f⟩:=Qat w #[Ji x.kind,Ji x.num,str x.txt,.slice P S Q,Ji x.at_] 59;have L:=h.later d;have k:=Qdp L x (.slice P S Q) ⟨_,_,_,rfl⟩;have Z:=hide H;have J:=hide (Ya d (Ya j (Ya o (Ya f h))));have a0:=h.n1le;obtain⟨R,m⟩:=JF (narP p vs x t);rw[m];unfold narP at m;have O:openP vs x=(typV vs x.txt).isNone:=by unfold openP;rw[hk];rfl
 rw[O]at k;obtain⟨u,y,z,A,B,E⟩:=cl5 j;rw[hty]at m k;simp only[Option.isNone_none]at k;have K:=hide (Ya m hty);clear H d j o f h L O m hty hk;go_enter Tryz.func122,Tryz.ntmps122;go_upto_region 1 with fail;rw[<- Qa Z];go_wp2_with fail;refine k.mono ?_;clear k u y z A B E;rintro en w3⟨rfl,q⟩;obtain⟨d,j,o,f,h⟩:=Qa J;have I:=(q.block _ (by omega)).trans j;have i:=(q.block _ (by omega)).trans o;have b:=d.trans (q.mono d.size);have l:=h.later b;have G:=Qqj l hl x.txt t (Qa K).2;obtain⟨u,y,z,A,B,E⟩:=cl5 I;have Y:=hide (Ya b (Ya i (Ya l f)));clear d j o f h q I i b l;go_wp2_with fail;refine G.mono ?_;clear G u y z A B E;rintro en w4⟨rfl,U,M,r⟩;obtain⟨b,i,l,f⟩:=Qa Y;have s3:=b.size;have off:w.heap.size+1≠wb/\w.heap.size+1≠mb/\some (w.heap.size+1)≠sl.ownBlock:=(Qa J).2.2.2.2.new (by omega);have s:=r.keep i off;obtain⟨W,N,sc⟩:=sc2 s (Ji 0) (Ji 0);obtain⟨a1,a2,yf⟩:=cl2 s
 have F:w.heap.size+1≠wb/\w.heap.size+1≠mb/\some (w.heap.size+1)≠U.ownBlock:=⟨off.1,off.2.1,fun e=>by
  rcases r.own with D|⟨g,D,hg⟩
  ·exact off.2.2 (e.trans D)
  rw[D]at e;cases e
  have:=Qaa i
  omega⟩
 have C:=hide (Ya (M.sc sc (by omega) F) (Ya (((Kw.of_below b).trans r).sc sc (by omega)) sc.box));have T:=hide N;clear M r b i l f s3 off s N sc F;go_wp2_with fail;rw[<- Qa T];obtain⟨V,X,zf⟩:=cl2 (Qa C).2.2;refine bodyPost_ret (v:=ftV (0,0)) (by simp[results,Tryz.results122,go_sem,V,X,ftV]) rfl ?_;refine⟨_,_,(Qa C).1,(Qa C).2.1,?_⟩;rw[<- (Qa K).1];exact⟨rfl,rfl⟩
end
section
variable {n0 n1:Nat}{p:Pg}{c:CatP}{wb mb:Nat}{sl:Value}{vs:List Fld}{w:World}
theorem Qni(h:Wk n0 n1 p c wb mb sl vs w)(x:Ex)(hk:x.kind=1)(xv:Value)(hv:∃a n c,xv = .slice a n c)(t:Txt){own:Txt}(hty:typV vs x.txt=some own):
  Calls Tryz.prog 122 #[.pointer (Js wb),.agg #[Ji x.kind,Ji x.num,str x.txt,xv,Ji x.at_],str t] w fun en w'=>LkA n0 n1 p c wb mb sl w (narP p vs x t) en w':=by
 obtain⟨va,vn,vc,rfl⟩:=hv;obtain⟨w2,al,A,B,T,j⟩:=Qat w #[Ji x.kind,Ji x.num,str x.txt,.slice va vn vc,Ji x.at_] 59;have h2:=h.later A;have a4:=Qdp h2 x (.slice va vn vc) ⟨_,_,_,rfl⟩;have HW:=hide al;have N:=hide (Ya A (Ya B (Ya T (Ya j h))));have aK:=h.n1le;obtain⟨R,Q⟩:=JF (narP p vs x t);rw[Q];unfold narP at Q;have ho:openP vs x=(typV vs x.txt).isNone:=by unfold openP;rw[hk];rfl
 rw[ho,hty]at a4;simp only[Option.isNone_some]at a4;rw[hty]at Q;obtain⟨i,v,ag,ai,aj,ak⟩:=Qjt hty;obtain⟨F,G,a5,H,I,xf⟩:=cl5 B;have q:=hide (Ya Q (Ya ai (Ya aj (Ya ak ag))));clear al A B T j h h2 ho Q hty hk ag ai aj ak;go_enter Tryz.func122,Tryz.ntmps122;go_upto_region 1 with fail;rw[<- Qa HW];go_wp2_with fail;refine a4.mono ?_;clear a4 F G a5 H I xf;rintro en o⟨rfl,b3⟩;obtain⟨A,B,T,j,h⟩:=Qa N;have f:=(b3.block _ (by omega)).trans B;have e:=(b3.block _ (by omega)).trans T;have d:=A.trans (b3.mono A.size);have b:=h.later d;obtain⟨g,cap,k,au,aJ,a1,av,aw,a9⟩:=b.turn (Qa q).2.1 t;have aa:=b.lookV x.txt false;have ab:=(b.later (Below.refl _ o).drew).lookV x.txt false;rw[if_neg (by simp),(Qa q).2.2.2.2]at aa ab;simp only[Option.getD_some]at aa ab;obtain⟨F,G,a5,H,I,xf⟩:=cl5 f;obtain⟨aC,aD,aE,aF,ae,aG,qf⟩:=cl6 b.box;rw[k]at ae;have ay:i<vs.length:=(List.getElem?_eq_some_iff.1 (Qa q).2.1).1;obtain⟨vl,ac⟩:=JF vs.length;rw[ac]at ae ay au;have C:=Qef (Ct.later b.cat ((Below.refl _ o).drew.drew)) own t
 have HC:=hide (show ∀w',Below o.heap.size o w'->w'.cell? (Ja wb 1)=some (.func (.func 48) #[.pointer (Js c.cb)] #[])/\w'.cell? (Ja g (i*2+1))=some (str own) from fun w' bw=>⟨(cl6 (b.later bw).box).2.1,by
  have ax:g<o.heap.size:=(World.ownsRow.lt b.row g (by rw[k];rfl)).2
  rw[bw.cell (p:=(Ja g (i*2+1))) ax,a1,(Qa q).2.2.2.1]⟩)
 have M:=hide (Ya d (Ya e (Ya f (Ya b (Ya j (Ya ac k))))));clear A B T j h b3 f e d b k a1 av aw a9 ac aC aD aE aF;go_wp2_with fail
 go_region
 clear aa ab F G H I ae aG;go_wp2_with fail;refine Qaz (md:=[(0,true),(1,true),(2,true),(3,true),(4,true),(5,true),(6,true),(7,true),(8,false)]) (fun w'=>w'.cell? (Ja wb 1)=some (.func (.func 48) #[.pointer (Js c.cb)] #[])/\w'.cell? (Ja g (i*2+1))=some (str own)) mixedO (by kernel_rfl) rfl (by kernel_rfl) (fun PP E=>?_)
 iterate 8 refine Qac rfl (by kernel_rfl) (fun w' hw=>by obtain⟨aA,aB⟩:=hw;go_simp<;>rfl) ?_
 refine Qak rfl (Qa HC _ (Below.refl _ o).drew.drew) (fun K P=>?_);go_simp;refine C.mono ?_;clear C;rintro en w4⟨rfl,b4⟩;show K _ _;refine P _ _ ?_;clear P K;have a7:Below o.heap.size o w4:=(Below.refl _ o).drew.drew.trans b4;refine Qbc (Qa HC _ a7) (E _ _ ?_);clear E PP;have u:=hide a7;clear b4 a7
 cases Z:belowP p own t with
 |true=>
  obtain⟨d,e,f,b,j,_⟩:=Qa M;have l:=d.size;have O:=b.later (Qa u);have ad:=((Qa u).block _ (Qaa e)).trans e;have k4:=Kw.of_below (wb:=wb) (mb:=mb) (sl:=sl) (d.trans ((Qa u).mono l));obtain⟨W,r,sc⟩:=sc2 ad (Ji 0) (Ji 0);obtain⟨aq,ar,yf⟩:=cl2 ad;have m:=hide (Ya (Wk.sc O sc (by omega) ((Qa N).2.2.2.2.new (by omega))) (Ya (Kw.sc k4 sc (by omega)) sc.box));have D:=hide r;have X:=hide Z;clear d e f b j l O ad k4 r sc Z;go_wp2_with fail;rw[<- Qa D];obtain⟨J,L,zf⟩:=cl2 (Qa m).2.2;refine bodyPost_ret (v:=ftV (0,0)) (by simp[results,Tryz.results122,go_sem,J,L,ftV]) rfl ?_;refine⟨_,_,(Qa m).1,(Qa m).2.1,?_⟩;rw[<- (Qa q).1,Qa X];exact⟨rfl,rfl⟩
 |false=>
  obtain⟨d,e,f,b,j,s,k⟩:=Qa M;have l:=d.size;have O:=b.later (Qa u);have C:=Qef (Ct.later O.cat (Below.refl _ w4).drew) t own;have X:=hide Z;clear d e f b j l O Z s k;go_wp2_with fail;refine Qaz (md:=[(0,true),(1,true),(2,true),(3,true),(4,true),(5,true),(6,true),(7,true),(8,false),(9,true)]) (fun w'=>w'.cell? (Ja wb 1)=some (.func (.func 48) #[.pointer (Js c.cb)] #[])/\w'.cell? (Ja g (i*2+1))=some (str own)) mixedO (by kernel_rfl) rfl (by kernel_rfl) (fun PP E=>?_)
  iterate 8 refine Qac rfl (by kernel_rfl) (fun w' hw=>by obtain⟨aA,aB⟩:=hw;go_simp<;>rfl) ?_
  refine Qak rfl (Qa HC _ ((Qa u).drew)) (fun K P=>?_);go_simp;refine C.mono ?_;clear C;rintro en w5⟨rfl,b5⟩;show K _ _;refine P _ _ ?_;clear P K;have a8:Below o.heap.size o w5:=(Qa u).drew.trans (b5.mono (Qa u).size);refine Qac rfl (by kernel_rfl) (fun _ _=>by go_simp<;>rfl) ?_;refine Qbc (Qa HC _ a8) (E _ _ ?_);clear E PP;have y:=hide a8;clear b5 a8
  cases a2:belowP p t own with
  |true=>
   obtain⟨d,e,f,b,j,s,k⟩:=Qa M;have l:=d.size;have h5:=b.later (Qa y);obtain⟨g',aH,a0,_,_,a3,aI,ah,V,U⟩:=h5.turn (Qa q).2.1 t;rw[k]at a0;simp only[Value.slice.injEq,Option.some.injEq,Addr.mk.injEq]at a0;obtain⟨⟨rfl,_⟩,_⟩:=a0;rw[(Qa q).2.2.2.1]at a3;obtain⟨w6,am⟩:=JE (w5.setCell (Ja g (i*2+1)) (str t));rw[<- am]at V U;have af:=d.trans ((Qa y).mono l);have S:=(Kw.of_below (wb:=wb) (mb:=mb) (sl:=sl) af).trans U;have ao:=((Qa y).block _ (Qaa e)).trans e;have az:=(Qa y).size;have z:=U.keep ao ((Qa N).2.2.2.2.new (by omega));rw[(Qa q).2.2.1]at V;obtain⟨W,r,sc⟩:=sc2 z (Ji 0) (Ji 0);obtain⟨aq,ar,yf⟩:=cl2 z;have m:=hide (Ya (Wk.sc V sc (by omega) ((Qa N).2.2.2.2.new (by omega))) (Ya (Kw.sc S sc (by omega)) sc.box));have D:=hide r;have a6:=hide a2;clear d e f b j l h5 ah V U af S ao az z r sc a2 s k;subst am;go_wp2_with fail;rw[<- Qa D];obtain⟨J,L,zf⟩:=cl2 (Qa m).2.2;refine bodyPost_ret (v:=ftV (0,0)) (by simp[results,Tryz.results122,go_sem,J,L,ftV]) rfl ?_;refine⟨_,_,(Qa m).1,(Qa m).2.1,?_⟩;rw[<- (Qa q).1,Qa X,Qa a6];exact⟨rfl,rfl⟩
  |false=>
   obtain⟨d,e,f,b,j,s,k⟩:=Qa M;have l:=d.size;have ap:=((Qa y).block _ (Qaa f)).trans f;have an:=Qbd w5 13 x.kind x.num x.txt (.slice va vn vc) ⟨_,_,_,rfl⟩ x.at_;obtain⟨F,G,a5,H,I,xf⟩:=cl5 ap;have a6:=hide a2;clear d e f b j l ap a2 s k;go_wp2_with fail;refine an.mono ?_;clear an F G a5 H I xf;rintro en w6⟨rfl,b6⟩;obtain⟨d,e,f,b,j,s,k⟩:=Qa M;have l:=d.size;have Y:=(Qa y).trans (b6.mono (Qa y).size);have h6:=b.later Y;have z:=(Y.block _ (Qaa e)).trans e;have S:=Kw.of_below (wb:=wb) (mb:=mb) (sl:=sl) (d.trans (Y.mono l));obtain⟨W,r,sc⟩:=sc2 z (Ji 13) (Ji x.at_);obtain⟨aq,ar,yf⟩:=cl2 z;have m:=hide (Ya (Wk.sc h6 sc (by omega) ((Qa N).2.2.2.2.new (by omega))) (Ya (Kw.sc S sc (by omega)) sc.box));have D:=hide r;clear d e f b j l Y h6 z S b6 r sc s k;go_wp2_with fail;rw[<- Qa D];obtain⟨J,L,zf⟩:=cl2 (Qa m).2.2;refine bodyPost_ret (v:=ftV (13,x.at_)) (by simp[results,Tryz.results122,go_sem,J,L,ftV]) rfl ?_;refine⟨_,_,(Qa m).1,(Qa m).2.1,?_⟩;rw[<- (Qa q).1,Qa X,Qa a6];exact⟨rfl,by simp⟩
theorem Qng(h:Wk n0 n1 p c wb mb sl vs w)(hl:vs.length<=1000000000)(x:Ex)(hk:x.kind=1)(xv:Value)(hv:∃a n c,xv = .slice a n c)(t:Txt):
  Calls Tryz.prog 122 #[.pointer (Js wb),.agg #[Ji x.kind,Ji x.num,str x.txt,xv,Ji x.at_],str t] w fun en w'=>LkA n0 n1 p c wb mb sl w (narP p vs x t) en w':=by
 cases b:typV vs x.txt with
 |none=>exact Qnh h hl x hk xv hv t b
 |some own=>exact Qni h x hk xv hv t b
end
def eachP(step:Ex->Txt->List Fld->Except Flt (List Fld)):List Ex->List Fld->List Fld->Except Flt (List Fld)
 |x :: xs,f :: fs,vs=>match step x f.type vs with
  | .error e=>.error e
  | .ok vs'=>eachP step xs fs vs'
 |_,_,vs=>.ok vs
def szL(sz:Ex->Nat):List Ex->Nat
 | []=>0
 |x :: xs=>sz x+szL sz xs
theorem Qie(sz:Ex->Nat):∀(xs:List Ex) (j:Nat) (x:Ex),xs[j]?=some x->szL sz (xs.drop j)=sz x+szL sz (xs.drop (j+1))
 | [],j,x,h=>by simp at h
 |y :: xs,0,x,h=>by cases h;rfl
 |y :: xs,j+1,x,h=>by simpa using Qie sz xs j x (by simpa using h)
theorem Qmy(step:Ex->Txt->List Fld->Except Flt (List Fld)){xs:List Ex}{fs:List Fld}{j:Nat}{x:Ex}{f:Fld}(hx:xs[j]?=some x)(hf:fs[j]?=some f)(vs:List Fld):
  eachP step (xs.drop j) (fs.drop j) vs=match step x f.type vs with | .error e=>.error e | .ok vs'=>eachP step (xs.drop (j+1)) (fs.drop (j+1)) vs':=by
 rw[List.drop_eq_getElem_cons (List.getElem?_eq_some_iff.1 hx).1,List.drop_eq_getElem_cons (List.getElem?_eq_some_iff.1 hf).1,(List.getElem?_eq_some_iff.1 hx).2,(List.getElem?_eq_some_iff.1 hf).2];rfl
structure LkF(F:Nat)(n0 n1:Nat)(p:Pg)(c:CatP)(wb mb:Nat)(N:Nat)(sz:Ex->Nat)(step:Ex->Txt->List Fld->Except Flt (List Fld))(xs:List Ex):Prop where
 call:∀x∈xs,∀(w:World) (sl:Value) (vs:List Fld) (a:Option Addr) (n k:Nat) (t:Txt),Wk n0 n1 p c wb mb sl vs w->ExS (fun b=>b<n0) w [.int .i64 x.kind,.int .i64 x.num,str x.txt,.slice a n k,.int .i64 x.at_] x->vs.length+sz x<=N ->
  Calls Tryz.prog F #[.pointer (some ⟨wb,0,none⟩),.agg #[.int .i64 x.kind,.int .i64 x.num,str x.txt,.slice a n k,.int .i64 x.at_],str t] w fun en w'=>LkA n0 n1 p c wb mb sl w (step x t vs) en w'
 grow:∀x t vs vs',step x t vs = .ok vs'->vs'.length<=vs.length+sz x
theorem Wk.offT{n0 n1:Nat}{p:Pg}{c:CatP}{wb mb:Nat}{sl:Value}{vs:List Fld}{w:World}(h:Wk n0 n1 p c wb mb sl vs w){b:Nat}{cs:Array Value}{T:TypeId}{fz:Nat×Nat}(hb:w.heap[b]?=some (.cells cs T fz))(h1:T≠143)(h2:T≠67):b≠wb/\b≠mb/\some b≠sl.ownBlock:=by
 refine⟨fun e=>?_,fun e=>?_,fun e=>?_⟩
 ·
  rw[e,h.box]at hb;simp only[Option.some.injEq,Obj.cells.injEq]at hb;exact h1 hb.2.1.symm
 ·
  obtain⟨l,⟨k,j,f,_⟩,_⟩:=h.map;rw[e,f]at hb;cases hb
 rcases h.row.2 with ⟨a,_⟩|⟨g,cap,i,a,_,d,_⟩
 ·rw[a]at e;cases e
 rw[a]at e;cases e
 rw[d]at hb;simp only[Option.some.injEq,Obj.cells.injEq]at hb;exact h2 hb.2.1.symm
structure EaI(n0 n1:Nat)(p:Pg)(c:CatP)(wb mb:Nat)(sl:Value)(w:World)(fb:Nat)(f:Flt)(R:Except Flt (List Fld))(W:World):Prop where
 ex:∃sl' vs',Wk n0 n1 p c wb mb sl' vs' W/\Kw wb mb sl sl' w W/\match R with | .ok v=>f=(0,0)/\vs'=v | .error e=>f=e/\f.1≠0
 box:W.heap[fb]?=some (.cells #[.int .i64 f.1,.int .i64 f.2] 31 (0,0))
section
variable {n0 n1:Nat}{p:Pg}{c:CatP}{wb mb:Nat}{sl:Value}{vs:List Fld}{w:World}
theorem Qrk(h:Wk n0 n1 p c wb mb sl vs w)(x:Ex)(hk:x.kind=1)(xa:Option Addr)(xn xc:Nat){own:Txt}(hty:typV vs x.txt=some own):
  Calls Tryz.prog 117 #[.pointer (Js wb),.agg #[Ji x.kind,Ji x.num,str x.txt,.slice xa xn xc,Ji x.at_]] w fun en w'=>en = .returned (.tuple #[str own,ftV (0,0)])/\Below w.heap.size w w':=by
 obtain⟨w2,B,a,f,l,q⟩:=Qat w #[Ji x.kind,Ji x.num,str x.txt,.slice xa xn xc,Ji x.at_] 59;have K:=h.later a;have s:=Qdp K x (.slice xa xn xc) ⟨_,_,_,rfl⟩;have L:openP vs x=false:=by unfold openP;rw[hk,hty];rfl
 rw[L]at s;obtain⟨i,v,j,d,W,k⟩:=Qjt hty;obtain⟨D,E,F,G,H,N⟩:=cl5 f;have g1:(x.kind==1)=true:=beq_iff_eq.2 hk;have HW:=hide B;have J:=hide (Ya a (Ya f (Ya l (Ya q (Ya h (Ya j (Ya d k)))))));clear B a f l q h K L hty hk j d W k;go_enter Tryz.func117,Tryz.ntmps117;go_upto_region 1 with fail;rw[<- Qa HW];go_wp2_with fail;refine s.mono ?_;clear s D E F G H N;rintro en M⟨rfl,o⟩;obtain⟨a,f,l,q,h,j,d,k⟩:=Qa J;have C:=(o.block _ (by omega)).trans f;have n:=(o.block _ (by omega)).trans l;have r:=a.trans (o.mono a.size);have b:=h.later r;obtain⟨g,cap,m,Q,a0,O,R,S,_⟩:=b.turn d [];rw[k]at O;have V:i<vs.length:=(List.getElem?_eq_some_iff.1 d).1;obtain⟨vl,t⟩:=JF vs.length;have U:g<M.heap.size:=(World.ownsRow.lt b.row g (by rw[m];rfl)).2;have u:=b.offT n (by decide) (by decide);have T:g≠w.heap.size+1:=fun e=>u.2.2 (by rw[m,<- e];rfl);have z:=b.lookV x.txt false;have A:=(b.later (Below.refl _ M).drew).lookV x.txt false;rw[if_neg (by simp),j]at z A;simp only[Option.getD_some]at z A;obtain⟨D,E,F,G,H,N⟩:=cl5 C;obtain⟨a1,a2,a3,a4,X,a5,qf⟩:=cl6 b.box;rw[m,t]at X;obtain⟨W7,y,sc⟩:=sc2 n (Ji 0) (Ji 0);obtain⟨a6,a7,yf⟩:=cl2 n;have I:=hide (Ya (sc.below r (by omega)) sc.box);have P:=hide y;rw[t]at V Q;clear a f l q h j d k o C n r b m R S t U u T y sc J;go_wp2_with fail
 go_region
 rw[<- Qa P];obtain⟨Y,Z,zf⟩:=cl2 (Qa I).2;go_wp2_with fail;refine bodyPost_ret (v:=.tuple #[str own,ftV (0,0)]) (by simp[results,Tryz.results117,go_sem,Y,Z,ftV]) rfl ?_;exact⟨rfl,(Qa I).1.drew⟩
end
def FtR(R:Except Flt (List Fld))(ft:Flt)(vs:List Fld):Prop:=match R with | .ok v=>ft=(0,0)/\vs=v | .error e=>ft=e/\ft.1≠0
section
variable {n0 n1:Nat}{p:Pg}{c:CatP}{wb mb:Nat}{sl:Value}{vs:List Fld}{w:World}
theorem LkA.ft{R:Except Flt (List Fld)}{en:Ending}{w':World}(h:LkA n0 n1 p c wb mb sl w R en w'):∃sl' vs' ft,en = .returned (ftV ft)/\Wk n0 n1 p c wb mb sl' vs' w'/\Kw wb mb sl sl' w w'/\FtR R ft vs':=by
 obtain⟨sl',vs',b,d,a⟩:=h
 cases R with
 |ok v=>exact⟨sl',vs',(0,0),a.1,b,d,rfl,a.2⟩
 |error e=>exact⟨sl',vs',e,a.1,b,d,rfl,a.2⟩
theorem LkA.of{R:Except Flt (List Fld)}{sl':Value}{vs':List Fld}{ft:Flt}{w':World}(h1:Wk n0 n1 p c wb mb sl' vs' w')(h2:Kw wb mb sl sl' w w')(h3:FtR R ft vs'):LkA n0 n1 p c wb mb sl w R (.returned (ftV ft)) w':=by
 refine⟨sl',vs',h1,h2,?_⟩
 cases R with
 |ok v=>exact⟨by rw[h3.1],h3.2⟩
 |error e=>exact⟨by rw[h3.1],by rw[<- h3.1];exact h3.2⟩
theorem Qkz(h:Wk n0 n1 p c wb mb sl vs w)(hl:vs.length<=1000000000)(x:Ex)(hk:x.kind=1)(xa:Option Addr)(xn xc:Nat)(t:Txt):
  Calls Tryz.prog 113 #[.pointer (Js wb),.agg #[Ji x.kind,Ji x.num,str x.txt,.slice xa xn xc,Ji x.at_],str t] w fun en w'=>LkA n0 n1 p c wb mb sl w (narP p vs x t) en w':=by
 obtain⟨T,n,a,r,d,f⟩:=Qat w #[Ji x.kind,Ji x.num,str x.txt,.slice xa xn xc,Ji x.at_] 59;have b:=h.later a;have g:=Qng b hl x hk (.slice xa xn xc) ⟨_,_,_,rfl⟩ t;obtain⟨u,y,z,A,B,K⟩:=cl5 r;have S:(x.kind==1)=true:=by rw[hk];rfl
 obtain⟨R,q⟩:=JF (narP p vs x t);rw[q]at g ⊢;have L:=h.n1le;have F:=hide n;have o:=hide (Ya a (Ya d (Ya f b)));clear n a r d f h b hk q;go_enter Tryz.func113,Tryz.ntmps113;go_upto_region 1 with fail;rw[<- Qa F];go_wp2_with fail;refine g.mono ?_;clear g u y z A B K;rintro en U m;obtain⟨M,N,ft,rfl,i,j,k⟩:=m.ft;clear m;obtain⟨a,d,f,b⟩:=Qa o;have e:=j.keep d (b.offT d (by decide) (by decide));obtain⟨Q,l,sc⟩:=sc2 e (Ji ft.1) (Ji ft.2);obtain⟨O,P,V⟩:=cl2 e;have E:=hide (Ya (i.sc sc (by omega) (i.offT e (by decide) (by decide))) (Ya (((Kw.of_below a).trans j).sc sc (by omega)) (Ya sc.box k)));have s:=hide l;clear a d f b i j k e l sc o;unfold ftV;go_wp2_with fail;rw[<- Qa s];obtain⟨G,H,I,J⟩:=Qa E;obtain⟨C,D,W⟩:=cl2 I;refine bodyPost_ret (v:=ftV ft) (by simp[results,Tryz.results113,go_sem,C,D,ftV]) rfl ?_;exact LkA.of G H J
end
def VtR(R:Except Flt Txt)(t:Txt)(ft:Flt):Prop:=match R with | .ok s=>t=s/\ft=(0,0) | .error e=>ft=e/\e.1≠0
def VlA(w:World)(R:Except Flt Txt)(en:Ending)(w':World):Prop:=∃t ft,en = .returned (.tuple #[str t,ftV ft])/\VtR R t ft/\Below w.heap.size w w'
def FuR(R:Except Flt Unit)(ft:Flt):Prop:=match R with | .ok _=>ft=(0,0) | .error e=>ft=e/\e.1≠0
def opR(R:Except Flt Unit):Except Flt Txt:=match R with | .ok _=>.ok tNum | .error f=>.error f
def OpA(w:World)(R:Except Flt Unit)(en:Ending)(w':World):Prop:=∃ft,en = .returned (ftV ft)/\FuR R ft/\Below w.heap.size w w'
theorem Qnx(w:World)(wb:Nat)(x:Ex)(hk:x.kind=4)(xa:Option Addr)(xn xc:Nat):
  Calls Tryz.prog 117 #[.pointer (Js wb),.agg #[Ji x.kind,Ji x.num,str x.txt,.slice xa xn xc,Ji x.at_]] w fun en w'=>VlA w (.error (15,x.at_)) en w':=by
 obtain⟨A,i,a,m,b,d⟩:=Qat w #[Ji x.kind,Ji x.num,str x.txt,.slice xa xn xc,Ji x.at_] 59;have F:(x.kind==1)=false:=by rw[hk];rfl
 have G:(x.kind==4)=true:=beq_iff_eq.2 hk;have j:=Qbd A 15 x.kind x.num x.txt (.slice xa xn xc) ⟨_,_,_,rfl⟩ x.at_;obtain⟨o,q,r,s,t,B⟩:=cl5 m;have l:=hide (Ya a (Ya b d));have z:=hide i;clear i a m b d hk;go_enter Tryz.func117,Tryz.ntmps117;go_upto_region 1 with fail;rw[<- Qa z];go_wp2_with fail;refine j.mono ?_;clear j o q r s t B;rintro en H⟨rfl,f⟩;obtain⟨a,b,d⟩:=Qa l;have e:=(f.block _ (Qaa b)).trans b;have g:=a.trans (f.mono a.size);obtain⟨E,h,sc⟩:=sc2 e (Ji 15) (Ji x.at_);obtain⟨C,D,I⟩:=cl2 e;have k:=hide (Ya (sc.below g (by omega)) sc.box);have n:=hide h;clear a b d e g f h sc l;go_wp2_with fail;rw[<- Qa n];obtain⟨u,y,J⟩:=cl2 (Qa k).2;refine bodyPost_ret (v:=.tuple #[Je,ftV (15,x.at_)]) (by simp[results,Tryz.results117,go_sem,u,y,ftV]) rfl ?_;exact⟨[],_,rfl,⟨rfl,(by show(15:Int)≠0;decide)⟩,(Qa k).1⟩
theorem Qrh(w:World)(wb:Nat)(x:Ex)(hk:x.kind≠1/\x.kind≠4/\x.kind≠2/\x.kind≠3/\x.kind≠5/\x.kind≠6)(xa:Option Addr)(xn xc:Nat):
  Calls Tryz.prog 117 #[.pointer (Js wb),.agg #[Ji x.kind,Ji x.num,str x.txt,.slice xa xn xc,Ji x.at_]] w fun en w'=>VlA w (.error (1,x.at_)) en w':=by
 obtain⟨A,i,a,m,b,d⟩:=Qat w #[Ji x.kind,Ji x.num,str x.txt,.slice xa xn xc,Ji x.at_] 59;have F:(x.kind==1)=false:=beq_eq_false_iff_ne.2 hk.1;have I:(x.kind==4)=false:=beq_eq_false_iff_ne.2 hk.2.1;have G:(x.kind==2)=false:=beq_eq_false_iff_ne.2 hk.2.2.1;have H:(x.kind==3)=false:=beq_eq_false_iff_ne.2 hk.2.2.2.1;have J:(x.kind==5)=false:=beq_eq_false_iff_ne.2 hk.2.2.2.2.1;have K:(x.kind==6)=false:=beq_eq_false_iff_ne.2 hk.2.2.2.2.2;have j:=Qbd A 1 x.kind x.num x.txt (.slice xa xn xc) ⟨_,_,_,rfl⟩ x.at_;obtain⟨o,q,r,s,t,B⟩:=cl5 m;have l:=hide (Ya a (Ya b d));have z:=hide i;clear i a m b d hk;go_enter Tryz.func117,Tryz.ntmps117;go_upto_region 1 with fail;rw[<- Qa z];go_wp2_with fail;refine j.mono ?_;clear j o q r s t B;rintro en L⟨rfl,f⟩;obtain⟨a,b,d⟩:=Qa l;have e:=(f.block _ (Qaa b)).trans b;have g:=a.trans (f.mono a.size);obtain⟨E,h,sc⟩:=sc2 e (Ji 1) (Ji x.at_);obtain⟨C,D,M⟩:=cl2 e;have k:=hide (Ya (sc.below g (by omega)) sc.box);have n:=hide h;clear a b d e g f h sc l;go_wp2_with fail;rw[<- Qa n];obtain⟨u,y,N⟩:=cl2 (Qa k).2;refine bodyPost_ret (v:=.tuple #[Je,ftV (1,x.at_)]) (by simp[results,Tryz.results117,go_sem,u,y,ftV]) rfl ?_;exact⟨[],_,rfl,⟨rfl,(by show(1:Int)≠0;decide)⟩,(Qa k).1⟩
theorem Qrj(w:World)(wb:Nat)(x:Ex)(hk:x.kind=2)(xa:Option Addr)(xn xc:Nat):
  Calls Tryz.prog 117 #[.pointer (Js wb),.agg #[Ji x.kind,Ji x.num,str x.txt,.slice xa xn xc,Ji x.at_]] w fun en w'=>VlA w (.ok tNum) en w':=by
 obtain⟨B,d,f,g,a,l⟩:=Qat w #[Ji x.kind,Ji x.num,str x.txt,.slice xa xn xc,Ji x.at_] 59;have y:(x.kind==1)=false:=by rw[hk];rfl
 have A:(x.kind==4)=false:=by rw[hk];rfl
 have z:(x.kind==2)=true:=beq_iff_eq.2 hk;obtain⟨u,b,sc⟩:=sc2 a (Ji 0) (Ji 0);obtain⟨m,n,o,q,r,C⟩:=cl5 g;obtain⟨s,t,D⟩:=cl2 a;have e:=hide (Ya (sc.below f (by omega)) sc.box);have h:=hide b;have k:=hide d;clear d f g a l hk b sc;go_enter Tryz.func117,Tryz.ntmps117;go_upto_region 1 with fail;rw[<- Qa k];go_wp2_with fail;rw[<- Qa h];obtain⟨i,j,E⟩:=cl2 (Qa e).2;refine bodyPost_ret (v:=.tuple #[str tNum,ftV (0,0)]) (by simp[results,Tryz.results117,go_sem,i,j,ftV,str,tNum]) rfl ?_;exact⟨_,_,rfl,⟨rfl,rfl⟩,(Qa e).1⟩
theorem Qnz(w:World)(wb:Nat)(x:Ex)(hk:x.kind=3)(xa:Option Addr)(xn xc:Nat):
  Calls Tryz.prog 117 #[.pointer (Js wb),.agg #[Ji x.kind,Ji x.num,str x.txt,.slice xa xn xc,Ji x.at_]] w fun en w'=>VlA w (.ok tSym) en w':=by
 obtain⟨C,d,f,g,a,l⟩:=Qat w #[Ji x.kind,Ji x.num,str x.txt,.slice xa xn xc,Ji x.at_] 59;have y:(x.kind==1)=false:=by rw[hk];rfl
 have B:(x.kind==4)=false:=by rw[hk];rfl
 have z:(x.kind==2)=false:=by rw[hk];rfl
 have A:(x.kind==3)=true:=beq_iff_eq.2 hk;obtain⟨u,b,sc⟩:=sc2 a (Ji 0) (Ji 0);obtain⟨m,n,o,q,r,D⟩:=cl5 g;obtain⟨s,t,E⟩:=cl2 a;have e:=hide (Ya (sc.below f (by omega)) sc.box);have h:=hide b;have k:=hide d;clear d f g a l hk b sc;go_enter Tryz.func117,Tryz.ntmps117;go_upto_region 1 with fail;rw[<- Qa k];go_wp2_with fail;rw[<- Qa h];obtain⟨i,j,F⟩:=cl2 (Qa e).2;refine bodyPost_ret (v:=.tuple #[str tSym,ftV (0,0)]) (by simp[results,Tryz.results117,go_sem,i,j,ftV,str,tSym]) rfl ?_;exact⟨_,_,rfl,⟨rfl,rfl⟩,(Qa e).1⟩
theorem Qtk(w:World)(wb:Nat)(x:Ex)(hk:x.kind=5)(xa:Option Addr)(xn xc:Nat){R:Except Flt Unit}(hC:∀W,Below w.heap.size w W->Calls Tryz.prog 124 #[.pointer (Js wb),.agg #[Ji x.kind,Ji x.num,str x.txt,.slice xa xn xc,Ji x.at_]] W fun en w'=>OpA W R en w'):
  Calls Tryz.prog 117 #[.pointer (Js wb),.agg #[Ji x.kind,Ji x.num,str x.txt,.slice xa xn xc,Ji x.at_]] w fun en w'=>VlA w (opR R) en w':=by
 obtain⟨C,m,a,o,b,d⟩:=Qat w #[Ji x.kind,Ji x.num,str x.txt,.slice xa xn xc,Ji x.at_] 59;have H:(x.kind==1)=false:=by rw[hk];rfl
 have K:(x.kind==4)=false:=by rw[hk];rfl
 have I:(x.kind==2)=false:=by rw[hk];rfl
 have J:(x.kind==3)=false:=by rw[hk];rfl
 have L:(x.kind==5)=true:=beq_iff_eq.2 hk;have k:=hC C a;obtain⟨r,s,t,u,y,D⟩:=cl5 o;have n:=hide (Ya a (Ya b d));have B:=hide m;clear m a o b d hk hC;go_enter Tryz.func117,Tryz.ntmps117;go_upto_region 1 with fail;rw[<- Qa B];go_wp2_with fail;refine k.mono ?_;clear k r s t u y D;rintro en M⟨ft,rfl,l,h⟩;obtain⟨a,b,d⟩:=Qa n;have f:=(h.block _ (Qaa b)).trans b;have i:=a.trans (h.mono a.size);obtain⟨G,j,sc⟩:=sc2 f (Ji ft.1) (Ji ft.2);obtain⟨E,F,N⟩:=cl2 f;have g:=hide (Ya (sc.below i (by omega)) (Ya sc.box l));have q:=hide j;clear a b d f i h j sc n l;unfold ftV;go_wp2_with fail;rw[<- Qa q];obtain⟨z,A,O⟩:=cl2 (Qa g).2.1;refine bodyPost_ret (v:=.tuple #[.string ⟨#[110,117,109,98,101,114]⟩,ftV ft]) (by simp[results,Tryz.results117,go_sem,z,A,ftV]) rfl ?_
 exact⟨tNum,_,rfl,(by
  have:=(Qa g).2.2
  cases R with
  |ok _=>exact⟨rfl,this⟩
  |error e=>exact this),(Qa g).1⟩
theorem Qri(w:World)(wb:Nat)(x:Ex)(hk:x.kind=6)(xa:Option Addr)(xn xc:Nat){R:Except Flt Txt}(hC:∀W,Below w.heap.size w W->Calls Tryz.prog 131 #[.pointer (Js wb),.agg #[Ji x.kind,Ji x.num,str x.txt,.slice xa xn xc,Ji x.at_]] W fun en w'=>VlA W R en w'):
  Calls Tryz.prog 117 #[.pointer (Js wb),.agg #[Ji x.kind,Ji x.num,str x.txt,.slice xa xn xc,Ji x.at_]] w fun en w'=>VlA w R en w':=by
 obtain⟨C,l,a,n,b,d⟩:=Qat w #[Ji x.kind,Ji x.num,str x.txt,.slice xa xn xc,Ji x.at_] 59;have H:(x.kind==1)=false:=by rw[hk];rfl
 have K:(x.kind==4)=false:=by rw[hk];rfl
 have I:(x.kind==2)=false:=by rw[hk];rfl
 have J:(x.kind==3)=false:=by rw[hk];rfl
 have L:(x.kind==5)=false:=by rw[hk];rfl
 have M:(x.kind==6)=true:=beq_iff_eq.2 hk;have j:=hC C a;obtain⟨q,r,s,t,u,D⟩:=cl5 n;have m:=hide (Ya a (Ya b d));have A:=hide l;clear l a n b d hk hC;go_enter Tryz.func117,Tryz.ntmps117;go_upto_region 1 with fail;rw[<- Qa A];go_wp2_with fail;refine j.mono ?_;clear j q r s t u D;rintro en N⟨B,ft,rfl,k,g⟩;obtain⟨a,b,d⟩:=Qa m;have e:=(g.block _ (Qaa b)).trans b;have h:=a.trans (g.mono a.size);obtain⟨G,i,sc⟩:=sc2 e (Ji ft.1) (Ji ft.2);obtain⟨E,F,O⟩:=cl2 e;have f:=hide (Ya (sc.below h (by omega)) (Ya sc.box k));have o:=hide i;clear a b d e h g i sc m k;unfold ftV;go_wp2_with fail;rw[<- Qa o];obtain⟨y,z,P⟩:=cl2 (Qa f).2.1;refine bodyPost_ret (v:=.tuple #[str B,ftV ft]) (by simp[results,Tryz.results117,go_sem,y,z,ftV]) rfl ?_;exact⟨_,_,rfl,(Qa f).2.2,(Qa f).1⟩
end
end Go.Proofs.YtkhndlnadhggkaaGreat
