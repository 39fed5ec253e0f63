/- types. -/
import Derived.Test.YtkhndlnadhggkaaGreatAp01
import Derived.Test.YtkhndlnadhggkaaGreatAp39
import Derived.Test.YtkhndlnadhggkaaGreatAp37
set_option maxRecDepth 100000
set_option maxHeartbeats 32000000
namespace Go.Proofs.YtkhndlnadhggkaaGreat
section
open Go.RowKit Go.Maps
def CtA(S:Nat->Prop)(w:World)(o:Option (Ctr×Txt))(v:Value):Prop:=match o with
 |none=>v = .tuple #[.agg #[.string ⟨#[]⟩,.slice none 0 0],.string ⟨#[]⟩,.bool false]
 |some (d,nm)=>∃xa xc,v = .tuple #[.agg #[str d.name,.slice xa d.fields.length xc],str nm,.bool true]/\LsAt PF 2 S w (.slice xa d.fields.length xc) d.fields
section
variable {n0:Nat}{p:Pg}{c:CatP}{w:World}
theorem Cs.ct2(h:Cs n0 p c w)(t:Txt):(Instr.lookup 126 (.map (some c.mc)) (str t) true).run Tryz.prog w = .ok (.tuple #[.agg #[Ji (((asc (ctRow p.types) t).getD (0,0)).1:Int),Ji (((asc (ctRow p.types) t).getD (0,0)).2:Int)],.bool (asc (ctRow p.types) t).isSome]) w:=by
 obtain⟨d,a,b⟩:=h.mc;rw[Qdx uS mP zP w c.mc d t a true,b t];cases asc (ctRow p.types) t<;>rfl
theorem Qiv(h:Cs n0 p c w)(t:Txt):
  Calls Tryz.prog 79 #[.pointer (Js c.cb),str t] w fun en w'=>∃v,en = .returned v/\CtA (fun b=>b<n0) w' (ctorP2 p t) v/\Below w.heap.size w w':=by
 obtain⟨m,a0⟩:=JE (w.alloc (.cells #[Je,Jn] 97));have S:=bnw a0;have n1:=nnw a0;have s1:m.heap.size=w.heap.size+1:=by rw[a0];simp
 have h1:=Ct.later h S;have hl:=Cs.ct2 h1 t;obtain⟨a5,ay,az,aA,aB,aC,aD,aE,aS,xf⟩:=cl9 h1.box;obtain⟨vt,vd,vc,vi,vl,ev,hT,_⟩:=PgO.cells h1.prg;obtain⟨e0,_⟩:=list5 ev;subst e0;have am:=hide a0;obtain⟨o,J⟩:=JF (ctorP2 p t);rw[J];unfold ctorP2 at J
 cases U:asc (ctRow p.types) t with
 |none=>
  rw[U]at hl J;simp only[Option.getD_none,Option.isSome_none]at hl;obtain⟨l,C⟩:=JE (m.alloc (.cells #[Ji 0,Ji 0] 133));have n:=bnw C;have x:=S.trans (n.mono S.size);have N:=(n.block _ (Qaa n1)).trans n1;obtain⟨W,hW,sc⟩:=sc2 N (Je) (Jn);obtain⟨aj,ak,yf⟩:=cl2 N;have HB:=hide (Ya (sc.below x (Nat.le_refl _)) (Ya sc.box J));have HW:=hide hW;have a8:=hide C;clear a0 S n1 s1 h h1 ev hT U J hW sc a5 ay az aA aB aC aD aE C n x N;go_enter Tryz.func79,Tryz.ntmps79;go_upto_region 1 with fail;rw[<- Qa am];go_upto_region 2 with fail;rw[<- Qa a8];go_wp2_with fail;rw[<- Qa HW];obtain⟨ah,ai,uf⟩:=cl2 (Qa HB).2.1;refine bodyPost_ret (v:=.tuple #[.agg #[Je,Jn],Je,.bool false]) (by simp[results,Tryz.results79,go_sem,ah,ai]) rfl ?_;exact⟨_,rfl,by rw[<- (Qa HB).2.2];rfl,(Qa HB).1⟩
 |some q=>
  rw[U]at hl J;simp only[Option.getD_some,Option.isSome_some]at hl;obtain⟨ty,ct,Z,Y,aI⟩:=asc_ct U;clear aI;obtain⟨i,k⟩:=q;have Z:p.types[i]?=some ty:=Z;have Y:ty.ctors[k]?=some ct:=Y;have B:o=some (ct,ty.name):=by
   rw[<- J];show(p.types[i]?).bind (fun ty=>(ty.ctors[k]?).map fun c=>(c,ty.name))=_;rw[Z];show(ty.ctors[k]?).map (fun c=>(c,ty.name))=_;rw[Y];rfl
  obtain⟨u,cap,cs,ec,a4,aJ,_,⟨ta,tn,M,rfl,hC⟩,a3⟩:=hT.elem Z;obtain⟨a,cc,aQ,ao,ab,aq,_,⟨y,xn,z,rfl,hF⟩,ac⟩:=hC.elem Y;obtain⟨ca,aP,aG⟩:=hF.sl;cases aG
  have ar:=hT.cap ec;have aa:=hC.cap ao;have aK:=(List.getElem?_eq_some_iff.1 Z).1;have aL:=(List.getElem?_eq_some_iff.1 Y).1;cases ao
  rw[ec]at a5;obtain⟨l,C⟩:=JE (m.alloc (.cells #[Ji (i:Int),Ji (k:Int)] 133));have n:=bnw C;have n2:=nnw C;have x:=S.trans (n.mono S.size);obtain⟨nt,av⟩:=JF p.types.length;obtain⟨L,ae⟩:=JF ty.ctors.length;rw[av]at a5 aK ar;rw[ae]at aa aL;have HC:Hid (∀W,Below l.heap.size l W->W.cell? (Ja m.heap.size 0)=some (Ji (i:Int))/\W.cell? (Ja m.heap.size 1)=some (Ji (k:Int))/\W.cell? (Ja c.cb 0)=some (.slice (Js u) nt cap)/\W.cell? (Ja u (i*4))=some (str ty.name)/\(W.cell? (Ja u (i*4+1))=some (str ty.sub)/\W.cell? (Ja u (i*4+2))=some (.slice (Js a) L M))/\W.cell? (Ja u (i*4+3))=some (Ji ty.at_)):=fun W I=>by
   have aH:=Qaa h1.box;have up:∀(b o:Nat),b<m.heap.size->W.cell? (Ja b o)=m.cell? (Ja b o):=fun b o hb=>(I.cell (p:=(Ja b o)) (by have:=n.size;show b<_;omega)).trans (n.cell (p:=(Ja b o)) hb);have ax:∀(o:Nat),W.cell? (Ja m.heap.size o)=l.cell? (Ja m.heap.size o):=fun o=>I.cell (p:=(Ja m.heap.size o)) (Qaa n2);refine⟨(ax 0).trans (cl2 n2).1,(ax 1).trans (cl2 n2).2.1,(up _ _ aH).trans a5,(up _ _ a4).trans (a3 0 _ rfl),⟨(up _ _ a4).trans (a3 1 _ rfl),?_⟩,(up _ _ a4).trans (a3 3 _ rfl)⟩;rw[<- ae];exact(up _ _ a4).trans (a3 2 _ rfl)
  have a7:Hid (∀W,Below l.heap.size l W->W.cell? (Ja a (k*2))=some (str ct.name)/\W.cell? (Ja a (k*2+1))=some (.slice y ct.fields.length z)/\LsAt PF 2 (fun b=>b<n0) W (.slice y ct.fields.length z) ct.fields):=fun W I=>by
   have up:∀(b o:Nat),b<m.heap.size->W.cell? (Ja b o)=m.cell? (Ja b o):=fun b o hb=>(I.cell (p:=(Ja b o)) (by have:=n.size;show b<_;omega)).trans (n.cell (p:=(Ja b o)) hb);exact⟨(up _ _ ab).trans (ac 0 _ rfl),(up _ _ ab).trans (ac 1 _ rfl),(hF.later Qbb n).later Qbb I⟩
  have H2:=hide (Ya x (Ya ((n.block _ (Qaa n1)).trans n1) (Ya B (Ya s1 h.l0.1))));have HN:=hide (Qaa h.box);have HG:=hide (show a<w.heap.size by have hS:a<n0:=aq;have:=h.l0.1;have:=Qaa h.box;omega);have a8:=hide C;obtain⟨V,af⟩:=JF m.heap.size;rw[af]at HC;have aF:=hide af;clear a0 S n1 s1 h h1 ev hT U J B Z Y a4 aJ ab aq hC hF a3 ac ec av C n n2 x a5 ay az aA aB aC aD aE af ae;go_enter Tryz.func79,Tryz.ntmps79;go_upto_region 1 with fail;rw[<- Qa am];go_upto_region 4 with fail;rw[<- Qa a8,Qa aF];refine Qas (tr:=(.take 0 (.take 1 (.take 2 (.take 3 (.take 4 (.take 5 (.take 6 (.take 7 (.take 8 (.one 9 (.one 10 .nil)))))))))))) (fun W=>W.cell? (Ja V 0)=some (Ji (i:Int))/\W.cell? (Ja V 1)=some (Ji (k:Int))/\W.cell? (Ja c.cb 0)=some (.slice (Js u) nt cap)/\W.cell? (Ja u (i*4))=some (str ty.name)/\(W.cell? (Ja u (i*4+1))=some (str ty.sub)/\W.cell? (Ja u (i*4+2))=some (.slice (Js a) L M))/\W.cell? (Ja u (i*4+3))=some (Ji ty.at_)) mixedO (by kernel_rfl) rfl (by kernel_rfl) (fun PP a2=>?_);refine tT (v:=?_) (fun w' hw=>?_) ?_;rotate_left
  ·(obtain⟨D,d,g,j,⟨F,H⟩,G⟩:=hw;go_simp<;>rfl)
  refine tT (v:=?_) (fun w' hw=>?_) ?_;rotate_left
  ·(obtain⟨D,d,g,j,⟨F,H⟩,G⟩:=hw;go_simp<;>rfl)
  refine tT (v:=?_) (fun w' hw=>?_) ?_;rotate_left
  ·(obtain⟨D,d,g,j,⟨F,H⟩,G⟩:=hw;go_simp<;>rfl)
  refine tT (v:=?_) (fun w' hw=>?_) ?_;rotate_left
  ·(obtain⟨D,d,g,j,⟨F,H⟩,G⟩:=hw;go_simp<;>rfl)
  refine tT (v:=?_) (fun w' hw=>?_) ?_;rotate_left
  ·(obtain⟨D,d,g,j,⟨F,H⟩,G⟩:=hw;go_simp<;>rfl)
  refine tT (v:=?_) (fun w' hw=>?_) ?_;rotate_left
  ·(obtain⟨D,d,g,j,⟨F,H⟩,G⟩:=hw;go_simp<;>rfl)
  refine tT (v:=?_) (fun w' hw=>?_) ?_;rotate_left
  ·(obtain⟨D,d,g,j,⟨F,H⟩,G⟩:=hw;go_simp<;>rfl)
  refine tT (v:=?_) (fun w' hw=>?_) ?_;rotate_left
  ·(obtain⟨D,d,g,j,⟨F,H⟩,G⟩:=hw;go_simp<;>rfl)
  refine tT (v:=?_) (fun w' hw=>?_) ?_;rotate_left
  ·(obtain⟨D,d,g,j,⟨F,H⟩,G⟩:=hw;go_simp<;>rfl)
  have T:=(Below.refl l.heap.size l).drew;refine Qaf rfl (Qa HC _ T) (fun K A=>?_);go_simp;refine A _ _ ?_;clear A K;refine Qaf rfl (Qa HC _ (T.alloc T.size _)) (fun K A=>?_);go_simp;refine A _ _ ?_;clear A K;obtain⟨r,a6⟩:=JE ((l.alloc (.cells #[str ty.name,str ty.sub,.slice (Js a) L M,Ji ty.at_] 54)).drew);rw[show(l.alloc (.cells #[.string ⟨ty.name.toArray⟩,.string ⟨ty.sub.toArray⟩,.slice (Js a) L M,Ji ty.at_] 54)).drew=r from a6.symm];have s:Below l.heap.size l r:=by rw[a6];exact((Below.refl _ _).alloc (Nat.le_refl _) _).drew
  have n3:r.heap[l.heap.size]?=some (.cells #[str ty.name,str ty.sub,.slice (Js a) L M,Ji ty.at_] 54 (0,0)):=by rw[a6];exact heap_alloc_new l _
  clear a6;refine Qan (Qa HC _ s) (a2 _ _ ?_);clear a2 PP T;obtain⟨tb,aw⟩:=JF l.heap.size;rw[aw]at n3 ⊢;have al:Hid (∀W,Below r.heap.size r W->W.cell? (Ja V 1)=some (Ji (k:Int))/\W.heap[tb]?=some (.cells #[str ty.name,str ty.sub,.slice (Js a) L M,Ji ty.at_] 54 (0,0))/\W.cell? (Ja a (k*2))=some (str ct.name)/\W.cell? (Ja a (k*2+1))=some (.slice y ct.fields.length z)):=fun W I=>by
   have a9:=s.trans (I.mono s.size);exact⟨(Qa HC W a9).2.1,(I.block _ (Qaa n3)).trans n3,(Qa a7 W a9).1,(Qa a7 W a9).2.1⟩
  obtain⟨x,N,B,s1,ad⟩:=Qa H2;have a1:=x.trans (s.mono x.size);have E:=(s.block _ (Qaa N)).trans N;have H3:=hide (Ya a1 (Ya E (Ya B (Ya s (show n0<=w.heap.size by have:=Qa HN;omega)))));clear s n3 x N B s1 ad a1 E aw;go_upto_region 5 with fail;refine Qas (tr:=(.take 0 (.take 1 (.take 2 (.take 3 (.take 4 (.take 5 (.take 6 (.take 7 (.one 8 (.take 9 (.take 10 .nil)))))))))))) (fun W=>W.cell? (Ja V 1)=some (Ji (k:Int))/\W.heap[tb]?=some (.cells #[str ty.name,str ty.sub,.slice (Js a) L M,Ji ty.at_] 54 (0,0))/\W.cell? (Ja a (k*2))=some (str ct.name)/\W.cell? (Ja a (k*2+1))=some (.slice y ct.fields.length z)) mixedO (by kernel_rfl) rfl (by kernel_rfl) (fun PP a2=>?_);refine tT (v:=?_) (fun w' hw=>?_) ?_;rotate_left
  ·(obtain⟨d,f,g,j⟩:=hw;obtain⟨O,P,Q,R,X⟩:=cl4 f;go_simp<;>rfl)
  refine tT (v:=?_) (fun w' hw=>?_) ?_;rotate_left
  ·(obtain⟨d,f,g,j⟩:=hw;obtain⟨O,P,Q,R,X⟩:=cl4 f;go_simp<;>rfl)
  refine tT (v:=?_) (fun w' hw=>?_) ?_;rotate_left
  ·(obtain⟨d,f,g,j⟩:=hw;obtain⟨O,P,Q,R,X⟩:=cl4 f;go_simp<;>rfl)
  refine tT (v:=?_) (fun w' hw=>?_) ?_;rotate_left
  ·(obtain⟨d,f,g,j⟩:=hw;obtain⟨O,P,Q,R,X⟩:=cl4 f;go_simp<;>rfl)
  refine tT (v:=?_) (fun w' hw=>?_) ?_;rotate_left
  ·(obtain⟨d,f,g,j⟩:=hw;obtain⟨O,P,Q,R,X⟩:=cl4 f;go_simp<;>rfl)
  refine tT (v:=?_) (fun w' hw=>?_) ?_;rotate_left
  ·(obtain⟨d,f,g,j⟩:=hw;obtain⟨O,P,Q,R,X⟩:=cl4 f;go_simp<;>rfl)
  refine tT (v:=?_) (fun w' hw=>?_) ?_;rotate_left
  ·(obtain⟨d,f,g,j⟩:=hw;obtain⟨O,P,Q,R,X⟩:=cl4 f;go_simp<;>rfl)
  refine tT (v:=?_) (fun w' hw=>?_) ?_;rotate_left
  ·(obtain⟨d,f,g,j⟩:=hw;obtain⟨O,P,Q,R,X⟩:=cl4 f;go_simp<;>rfl)
  have T:=(Below.refl r.heap.size r).drew;obtain⟨a1,E,B,s,ad⟩:=Qa H3;obtain⟨W,hW,sc⟩:=sc2 E (str ct.name) (.slice y ct.fields.length z);obtain⟨aj,ak,yf⟩:=cl2 E;have an:Below w.heap.size w W:=sc.below a1 (Nat.le_refl _);have ap:LsAt PF 2 (fun b=>b<n0) W (.slice y ct.fields.length z) ct.fields:=((Qa a7 r s).2.2).same Qbb (by rw[sc.size];exact Nat.le_refl _) (fun q U _=>sc.oth q (by have aR:q<n0:=U;omega));have CW:W.cell? (Ja V 1)=some (Ji (k:Int))/\W.heap[tb]?=some (.cells #[str ty.name,str ty.sub,.slice (Js a) L M,Ji ty.at_] 54 (0,0))/\W.cell? (Ja a (k*2))=some (str ct.name)/\W.cell? (Ja a (k*2+1))=some (.slice y ct.fields.length z):=by
   obtain⟨d,f,g,j⟩:=Qa al _ (Below.refl _ r);have ag:∀b o,b≠w.heap.size->W.cell? (Ja b o)=r.cell? (Ja b o):=fun b o hb=>by simp only[World.cell?,sc.oth b hb]
   have aM:∀b o v,r.cell? (Ja b o)=some v->(b=w.heap.size->o=0->v = Je)/\(b=w.heap.size->o=1->v = Jn)/\(b=w.heap.size->o<=1):=fun b o v hv=>by
    refine⟨fun e1 e2=>?_,fun e1 e2=>?_,fun e1=>?_⟩
    ·subst e1 e2;rw[aj]at hv;cases hv;rfl
    ·subst e1 e2;rw[ak]at hv;cases hv;rfl
    subst e1;rw[Qad E]at hv;have:=(Array.getElem?_eq_some_iff.1 hv).1;simp at this;omega
   have aN:V≠w.heap.size:=fun e=>by have:=(aM _ _ _ d).2.1 e rfl;cases this
   have aO:tb≠w.heap.size:=fun e=>by rw[e,E]at f;simp at f
   have au:a≠w.heap.size:=fun e=>by have h3:=Qa HG;omega
   exact⟨(ag _ _ aN).trans d,(sc.oth _ aO).trans f,(ag _ _ au).trans g,(ag _ _ au).trans j⟩
  refine Qaf rfl (Qa al _ T) (fun K A=>?_);go_simp;rw[<- hW];refine A _ _ ?_;clear A K
  iterate 2 (refine tT (v:=?_) (fun w' hw=>?_) ?_;rotate_left;· (go_simp<;>rfl))
  refine Qan (show W.drew.cell? (Ja V 1)=_/\W.drew.heap[tb]?=_/\W.drew.cell? (Ja a (k*2))=_/\W.drew.cell? (Ja a (k*2+1))=_ from CW) (a2 _ _ ?_);clear a2 PP;have HE:=hide (Ya an.drew (Ya sc.box (Ya (ap.later Qbb (Below.refl _ W).drew) B)));clear T a1 E B s ad hW sc aj ak yf an ap CW;go_wp2_with fail;obtain⟨ah,ai,uf⟩:=cl2 (Qa HE).2.1;refine bodyPost_ret (v:=.tuple #[.agg #[str ct.name,.slice y ct.fields.length z],str ty.name,.bool true]) (by simp[results,Tryz.results79,go_sem,ah,ai]) rfl ?_;exact⟨_,rfl,by rw[(Qa HE).2.2.2];exact⟨y,z,rfl,(Qa HE).2.2.1⟩,(Qa HE).1⟩
end
theorem Qpa(p:Pg)(vs:List Fld){xs:List Ex}{fs:List Fld}{j:Nat}{x:Ex}{f:Fld}(hx:xs[j]?=some x)(hf:fs[j]?=some f):fitsP p vs (xs.drop j) (fs.drop j)=match fitP p vs x f.type with | .error e=>.error e | .ok _=>fitsP p vs (xs.drop (j+1)) (fs.drop (j+1)):=by
 have a:xs.drop j=x :: xs.drop (j+1):=by
  rw[List.drop_eq_getElem_cons (List.getElem?_eq_some_iff.1 hx).1];congr 1;exact(List.getElem?_eq_some_iff.1 hx).2
 have b:fs.drop j=f :: fs.drop (j+1):=by
  rw[List.drop_eq_getElem_cons (List.getElem?_eq_some_iff.1 hf).1];congr 1;exact(List.getElem?_eq_some_iff.1 hf).2
 rw[a,b,fitsP];unfold fitP
 cases valP p vs x with
 |error e=>rfl
 |ok own=>
  simp only;split<;>rfl
theorem Qne(p:Pg)(vs:List Fld){xs:List Ex}{fs:List Fld}{j:Nat}{x:Ex}{f:Fld}(hx:xs[j]?=some x)(hf:fs[j]?=some f):likesP p vs (xs.drop j) (fs.drop j)=match likeP p vs x f.type with | .error e=>.error e | .ok _=>likesP p vs (xs.drop (j+1)) (fs.drop (j+1)):=by
 have a:xs.drop j=x :: xs.drop (j+1):=by
  rw[List.drop_eq_getElem_cons (List.getElem?_eq_some_iff.1 hx).1];congr 1;exact(List.getElem?_eq_some_iff.1 hx).2
 have b:fs.drop j=f :: fs.drop (j+1):=by
  rw[List.drop_eq_getElem_cons (List.getElem?_eq_some_iff.1 hf).1];congr 1;exact(List.getElem?_eq_some_iff.1 hf).2
 rw[a,b,likesP];cases likeP p vs x f.type<;>rfl
section
variable {n0 n1:Nat}{p:Pg}{c:CatP}{wb mb:Nat}{sl:Value}{vs:List Fld}{w:World}
theorem Qtu{F:Nat}(hV:F=102∨F=114){S:Ex->Txt->Except Flt Unit}{SS:List Ex->List Fld->Except Flt Unit}(h:Wk n0 n1 p c wb mb sl vs w){xs:List Ex}{fs:List Fld}(hF:∀x∈xs,∀(W:World) (xa:Option Addr) (xn xc:Nat) (t:Txt),Wk n0 n1 p c wb mb sl vs W->ExA n0 W x xa xn xc->Calls Tryz.prog F #[.pointer (Js wb),.agg #[Ji x.kind,Ji x.num,str x.txt,.slice xa xn xc,Ji x.at_],str t] W fun en w'=>OpA W (S x t) en w')(hst:∀{j:Nat} {x:Ex} {f:Fld},xs[j]?=some x->fs[j]?=some f->SS (xs.drop j) (fs.drop j)=match S x f.type with | .error e=>.error e | .ok _=>SS (xs.drop (j+1)) (fs.drop (j+1)))(hnl:∀l,SS [] l = .ok ())(hlen:xs.length<=fs.length)
  {la fa:Option Addr}{ln lc fn fc:Nat}(hX:LsAt PE 5 (fun b=>b<n0) w (.slice la ln lc) xs)(hFs:LsAt PF 2 (fun b=>b<n0) w (.slice fa fn fc) fs):
  Calls Tryz.prog 116 #[.slice la ln lc,.slice fa fn fc,.func (.func F) #[.pointer (Js wb)] #[]] w fun en w'=>OpA w (SS xs fs) en w':=by
 rcases hV with rfl|rfl
 all_goals
  obtain⟨w1,a3⟩:=JE (w.alloc (.cells #[Ji 0,Ji 0] 31));have i:=bnw a3;have q:=nnw a3;obtain⟨_,_,el⟩:=hX.sl;cases el
  obtain⟨_,_,el⟩:=hFs.sl;cases el
  have aI:=hX.cap rfl;have aE:=hFs.cap rfl;obtain⟨n,hn⟩:=JF xs.length;obtain⟨m,Z⟩:=JF fs.length;obtain⟨RR,a9⟩:=JF (SS xs fs);rw[a9];rw[hn]at aI hlen ⊢;rw[Z]at aE hlen ⊢;have H1:=hide (Ya i (Ya q h));have HX:=hide (Ya hX (Ya hFs (Ya hn (Ya Z (Ya hF a9)))));have ar:=hide a3;clear h hF hX hFs hn Z a9 a3 i q;go_enter Tryz.func116,Tryz.ntmps116;go_upto_region 1 with fail;rw[<- Qa ar];go_wp2_with fail;go_loopw [12] (fun v wr=>∃(j:Nat),v = Ji (j:Int)/\j<=n/\Hid (Below w1.heap.size w1 wr/\RR=SS (xs.drop j) (fs.drop j))) (fun v _=>n - (intOf v).toNat)
  case atStart=>exact⟨0,rfl,Nat.zero_le _,hide ⟨Below.refl _ _,(Qa HX).2.2.2.2.2.symm⟩⟩
  obtain⟨j,rfl,hj,HI⟩:=hrel;by_cases aO:j<n
  rotate_left
  ·
   obtain⟨B,r⟩:=Qa HI;obtain⟨i,q,h⟩:=Qa H1;have an:xs.drop j=[]:=List.drop_eq_nil_of_le (by have:=(Qa HX).2.2.1;omega);rw[an]at r;have D:=(B.block _ (Qaa q)).trans q;obtain⟨W7,k,sc⟩:=sc2 D (Ji 0) (Ji 0);obtain⟨ae,af,yf⟩:=cl2 D;have V:=hide (Ya (sc.below (i.trans (B.mono i.size)) (Nat.le_refl _)) (Ya sc.box (show RR = .ok () by rw[r];exact hnl _)));have a8:=hide k;clear B r i q h an D k sc HI;go_wp2_with fail;rw[<- Qa a8];obtain⟨h1,h3,h4⟩:=Qa V;obtain⟨ag,ah,zf⟩:=cl2 h3;refine bodyPost_ret (v:=ftV (0,0)) (by simp[results,Tryz.results116,go_sem,ag,ah,ftV]) rfl ?_;refine⟨_,rfl,?_,h1⟩;rw[h4];rfl
  obtain⟨B,r⟩:=Qa HI;obtain⟨hX,hFs,hn,Z,hF,_⟩:=Qa HX;obtain⟨i,q,h⟩:=Qa H1;have R:=i.trans (B.mono i.size);obtain⟨x,a6⟩:∃x,xs[j]?=some x:=⟨xs[j]'(by omega),List.getElem?_eq_getElem _⟩;obtain⟨f,ac⟩:∃f,fs[j]?=some f:=⟨fs[j]'(by omega),List.getElem?_eq_getElem _⟩;have am:=hX.later Qag R;have al:=hFs.later Qbb R;obtain⟨gb,cap,cs,e1,aH,aG,aC,a7,ab⟩:=am.elem a6;obtain⟨U,aJ,aM,e2,ap,aD,_,aF,ao⟩:=al.elem ac;simp only[Value.slice.injEq]at e1 e2;obtain⟨rfl,-,rfl⟩:=e1;obtain⟨rfl,-,rfl⟩:=e2;obtain⟨xv,az,⟨xa,xc,aA⟩,_⟩:=a7.cells;subst aA;subst az;obtain⟨xn,aq⟩:=JF x.kids.length;rw[aq]at a7 ab;clear aq;subst aF;obtain⟨au,av,aw,ax,ay⟩:=cs5 ab;have ak:=ao 1 _ rfl;obtain⟨d,a4⟩:=JE (wr.alloc (.cells #[Ji x.kind,Ji x.num,str x.txt,.slice xa xn xc,Ji x.at_] 59));obtain⟨xb,ad⟩:=JF wr.heap.size;have A:=bnw a4;have n2:=nnw a4;rw[ad]at n2;have E:Hid (∀W:World,Below d.heap.size d W->W.heap[xb]?=some (.cells #[Ji x.kind,Ji x.num,str x.txt,.slice xa xn xc,Ji x.at_] 59 (0,0))/\W.cell? (Ja U (j*2+1))=some (str f.type)):=fun W Y=>⟨(Y.block _ (Qaa n2)).trans n2,(Y.cell (p:=(Ja U (j*2+1))) (by have:=A.size;show U<_;omega)).trans ((A.cell (p:=(Ja U (j*2+1))) ap).trans ak)⟩;have ai:Hid (∀W:World,Below d.heap.size d W->Calls Tryz.prog _ #[.pointer (Js wb),.agg #[Ji x.kind,Ji x.num,str x.txt,.slice xa xn xc,Ji x.at_],str f.type] W fun en w'=>OpA W (S x f.type) en w'):=fun W Y=>
   hF x (List.mem_of_getElem? a6) W xa xn xc f.type (h.later (R.trans ((A.trans (Y.mono A.size)).mono R.size))) (ExA.later (show ExA n0 wr x xa xn xc from a7) (A.trans (Y.mono A.size)))
  have H2:=hide (Ya (B.trans (A.mono B.size)) (r.trans (hst a6 ac)));have aj:=hide (Ya a4 ad);have aN:j<m:=by omega
  clear B r hX hFs hn Z hF i q h R am al aH aG aC a7 ab ap aD ao a4 ad A n2 a6 ac ak HI;go_upto_region 4 with fail;rw[<- (Qa aj).1,(Qa aj).2];clear au av aw ax ay;go_cut [9,12] from 12 to 29 (fun u v wc=>∃(fb:Nat) (ft:Flt),u = .pointer (Js fb)/\v = Ji (j:Int)/\Hid (Below d.heap.size d wc/\FuR (S x f.type) ft/\wc.heap[fb]?=some (.cells #[Ji ft.1,Ji ft.2] 31 (0,0))))
  case first=>
   go_wp2_with fail;refine Qas (tr:=(.take 0 (.take 1 (.take 2 (.take 3 (.take 4 (.take 5 (.take 6 (.two 7 8 (.one 8 (.one 9 .nil)) (.one 7 (.one 9 .nil)))))))))) ) (fun W=>W.heap[xb]?=some (.cells #[Ji x.kind,Ji x.num,str x.txt,.slice xa xn xc,Ji x.at_] 59 (0,0))/\W.cell? (Ja U (j*2+1))=some (str f.type)) mixedO (by kernel_rfl) rfl (by kernel_rfl) (fun PP a2=>?_);refine tT (v:=?_) (fun w' hw=>?_) ?_;rotate_left
   ·(obtain⟨o,N⟩:=hw;obtain⟨H,I,J,L,M,Q⟩:=cl5 o;go_simp<;>rfl)
   refine tT (v:=?_) (fun w' hw=>?_) ?_;rotate_left
   ·(obtain⟨o,N⟩:=hw;obtain⟨H,I,J,L,M,Q⟩:=cl5 o;go_simp<;>rfl)
   refine tT (v:=?_) (fun w' hw=>?_) ?_;rotate_left
   ·(obtain⟨o,N⟩:=hw;obtain⟨H,I,J,L,M,Q⟩:=cl5 o;go_simp<;>rfl)
   refine tT (v:=?_) (fun w' hw=>?_) ?_;rotate_left
   ·(obtain⟨o,N⟩:=hw;obtain⟨H,I,J,L,M,Q⟩:=cl5 o;go_simp<;>rfl)
   refine tT (v:=?_) (fun w' hw=>?_) ?_;rotate_left
   ·(obtain⟨o,N⟩:=hw;obtain⟨H,I,J,L,M,Q⟩:=cl5 o;go_simp<;>rfl)
   refine tT (v:=?_) (fun w' hw=>?_) ?_;rotate_left
   ·(obtain⟨o,N⟩:=hw;obtain⟨H,I,J,L,M,Q⟩:=cl5 o;go_simp<;>rfl)
   refine tT (v:=?_) (fun w' hw=>?_) ?_;rotate_left
   ·(obtain⟨o,N⟩:=hw;obtain⟨H,I,J,L,M,Q⟩:=cl5 o;go_simp<;>rfl)
   have P:=(Below.refl d.heap.size d).drew;refine Qbr rfl rfl (Qa E d.drew P) (fun K a=>?_) (fun K a=>?_)
   ·
    go_simp;refine(Qa ai d.drew P).mono ?_;rintro en z⟨ft,rfl,g,O⟩;show K _ _;refine a _ _ ?_;clear a K;have s:Below d.heap.size d z:=P.trans (O.mono P.size);refine Qaf rfl (Qa E z s) (fun K a=>?_);go_simp;refine a _ _ ?_;clear a K;have b6:Below z.heap.size z (z.alloc (.cells #[Ji 0,Ji 0] 31)):=(Below.refl _ z).alloc (Nat.le_refl _) _;refine Qaf rfl (Qa E _ (s.trans (b6.mono s.size))) (fun K a=>?_);unfold ftV;go_simp;refine a _ _ ?_;clear a K;obtain⟨W7,k⟩:=JE (z.alloc (.cells #[Ji ft.1,Ji ft.2] 31));have b7:=bnw k;have n7:=nnw k;rw[<- k];have C:=s.trans (b7.mono s.size);refine Qan (Qa E _ C) (a2 _ _ ?_);clear a2 PP;have a0:=hide (Ya C (Ya g n7));clear P g O s b6 k b7 n7 C;go_wp2_with fail;go_meet;exact⟨_,ft,rfl,rfl,a0⟩
   go_simp;refine a _ _ ?_;clear a K;obtain⟨w4,a5⟩:=JE ((d.alloc (.cells #[Ji 0,Ji 0] 31)).drew);have X:Below d.heap.size d w4:=by rw[a5];exact((Below.refl _ _).alloc (Nat.le_refl _) _).drew
   have n4:w4.heap[d.heap.size]?=some (.cells #[Ji 0,Ji 0] 31 (0,0)):=by rw[a5];exact heap_alloc_new d _
   rw[<- a5];clear a5;refine Qaf rfl (Qa E w4 X) (fun K a=>?_);go_simp;refine(Qa ai w4 X).mono ?_;rintro en z⟨ft,rfl,g,O⟩;show K _ _;refine a _ _ ?_;clear a K;have s:=X.trans (O.mono X.size);have n5:=(O.block _ (Qaa n4)).trans n4;obtain⟨W7,k,sc⟩:=sc2 n5 (Ji ft.1) (Ji ft.2);obtain⟨ae,af,yf⟩:=cl2 n5;refine Qaf rfl (Qa E z s) (fun K a=>?_);unfold ftV;go_simp;rw[<- k];refine a _ _ ?_;clear a K;have C:=sc.below s (Nat.le_refl _);refine Qan (Qa E _ C) (a2 _ _ ?_);clear a2 PP;have a0:=hide (Ya C (Ya g sc.box));clear P g X n4 O s n5 k sc C ae af yf;go_wp2_with fail;go_meet;exact⟨_,ft,rfl,rfl,a0⟩
  obtain⟨fb,ft,rfl,rfl,HE⟩:=hcut;obtain⟨WX,aB⟩:=JE wc;subst aB;obtain⟨bX,g,aa⟩:=Qa HE;obtain⟨aK,aL,bf⟩:=cl2 aa;obtain⟨a1,r⟩:=Qa H2;obtain⟨i,q,h⟩:=Qa H1;have T:=a1.trans (bX.mono a1.size);by_cases G:ft.1=0
  ·
   have g0:(ft.1 != 0)=false:=by simp[G]
   have y:S x f.type = .ok ():=by
    cases y:S x f.type with
    |ok u=>rfl
    |error e=>rw[y]at g;exact absurd (by rw[<- g.1];exact G) g.2
   rw[y]at r;have V:=hide (Ya T (show RR=SS (xs.drop (j+1)) (fs.drop (j+1)) from r));clear bX g aa a1 r i q h T y G HE;go_wp2_with fail;go_roundw
   case rel=>exact⟨j+1,by simp,by omega,V⟩
   case measure=>simp[intOf];omega
  have g0:(ft.1 != 0)=true:=by simp[G]
  have y:S x f.type = .error ft:=by
   cases y:S x f.type with
   |ok u=>rw[y]at g;exact absurd (by rw[show ft=(0,0) from g]) G
   |error e=>rw[y]at g;rw[g.1]
  rw[y]at r;have D:=(T.block _ (Qaa q)).trans q;obtain⟨W7,k,sc⟩:=sc2 D (Ji ft.1) (Ji ft.2);obtain⟨ae,af,yf⟩:=cl2 D;have V:=hide (Ya (sc.below (i.trans (T.mono i.size)) (Nat.le_refl _)) (Ya sc.box (Ya (show RR = .error ft from r) G)));have a8:=hide k;clear bX g aa a1 r i q h T y G D k sc HE;go_wp2_with fail;rw[<- Qa a8];obtain⟨h1,h3,h4,h5⟩:=Qa V;obtain⟨ag,ah,zf⟩:=cl2 h3;refine bodyPost_ret (v:=ftV ft) (by simp[results,Tryz.results116,go_sem,ag,ah,ftV]) rfl ?_;refine⟨_,rfl,?_,h1⟩;rw[h4];exact⟨rfl,h5⟩
theorem Qiw(h:Wk n0 n1 p c wb mb sl vs w){xs:List Ex}{fs:List Fld}(hF:∀x∈xs,∀(W:World) (xa:Option Addr) (xn xc:Nat) (t:Txt),Wk n0 n1 p c wb mb sl vs W->ExA n0 W x xa xn xc->Calls Tryz.prog 102 #[.pointer (Js wb),.agg #[Ji x.kind,Ji x.num,str x.txt,.slice xa xn xc,Ji x.at_],str t] W fun en w'=>OpA W (fitP p vs x t) en w')(hlen:xs.length<=fs.length)
  {la fa:Option Addr}{ln lc fn fc:Nat}(hX:LsAt PE 5 (fun b=>b<n0) w (.slice la ln lc) xs)(hFs:LsAt PF 2 (fun b=>b<n0) w (.slice fa fn fc) fs):
  Calls Tryz.prog 116 #[.slice la ln lc,.slice fa fn fc,.func (.func 102) #[.pointer (Js wb)] #[]] w fun en w'=>OpA w (fitsP p vs xs fs) en w':=Qtu (.inl rfl) (S:=fitP p vs) (SS:=fitsP p vs) h hF (Qpa p vs) (fun _=>by unfold fitsP;rfl) hlen hX hFs
theorem Qos(h:Wk n0 n1 p c wb mb sl vs w){xs:List Ex}{fs:List Fld}(hF:∀x∈xs,∀(W:World) (xa:Option Addr) (xn xc:Nat) (t:Txt),Wk n0 n1 p c wb mb sl vs W->ExA n0 W x xa xn xc->Calls Tryz.prog 114 #[.pointer (Js wb),.agg #[Ji x.kind,Ji x.num,str x.txt,.slice xa xn xc,Ji x.at_],str t] W fun en w'=>OpA W (likeP p vs x t) en w')(hlen:xs.length<=fs.length)
  {la fa:Option Addr}{ln lc fn fc:Nat}(hX:LsAt PE 5 (fun b=>b<n0) w (.slice la ln lc) xs)(hFs:LsAt PF 2 (fun b=>b<n0) w (.slice fa fn fc) fs):
  Calls Tryz.prog 116 #[.slice la ln lc,.slice fa fn fc,.func (.func 114) #[.pointer (Js wb)] #[]] w fun en w'=>OpA w (likesP p vs xs fs) en w':=Qtu (.inr rfl) (S:=likeP p vs) (SS:=likesP p vs) h hF (Qne p vs) (fun _=>by unfold likesP;rfl) hlen hX hFs
end
end
end Go.Proofs.YtkhndlnadhggkaaGreat
