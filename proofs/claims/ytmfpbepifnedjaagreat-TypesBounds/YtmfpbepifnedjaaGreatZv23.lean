/- types. -/
import Derived.Test.YtmfpbepifnedjaaGreatZv01
import Derived.Test.YtmfpbepifnedjaaGreatZv22
import Derived.Test.YtmfpbepifnedjaaGreatZv14
set_option maxRecDepth 100000
set_option maxHeartbeats 32000000
namespace Go.Proofs.YtmfpbepifnedjaaGreat
section
structure OkT(p:Pg):Prop where
 nm:∀(i:Nat) (t:Typ),p.types[i]?=some t->tyNo p t.name=3+i
 sb:∀(i:Nat) (t:Typ),p.types[i]?=some t->t.sub≠[]->tyNo p t.sub≠0
 bs:∀i,i<p.types.length->kBase p (3+i) ≠ -2
theorem Qnh(p:Pg):∀(ts:List Typ) (o:Nat),(wNameP p (ts.zipIdx o)).1=0 -> ∀(i:Nat) (t:Typ),ts[i]?=some t->tyNo p t.name=3+(o+i)
 | [],o,_,i,t,h=>by simp at h
 |x :: ts,o,hw,i,t,h=>by
  rw[List.zipIdx_cons]at hw;unfold wNameP at hw;split at hw
  ·exact absurd hw (by show(1:Int)≠0;decide)
  split at hw
  ·exact absurd hw (by show(11:Int)≠0;decide)
  rename_i h2
  cases i with
  |zero=>
   simp only[List.getElem?_cons_zero,Option.some.injEq]at h;subst h;exact Classical.not_not.1 (fun e=>h2 (.inl e))
  |succ i=>
   have:=Qnh p ts (o+1) hw i t (by simpa using h);rw[this];omega
theorem Qiw(p:Pg):∀(ts:List Typ) (o:Nat),(wTypeP p (ts.zipIdx o)).1=0 -> ∀(i:Nat) (t:Typ),ts[i]?=some t->(t.sub≠[]->tyNo p t.sub≠0)/\kBase p (3+(o+i)) ≠ -2
 | [],o,_,i,t,h=>by simp at h
 |x :: ts,o,hw,i,t,h=>by
  rw[List.zipIdx_cons]at hw;unfold wTypeP at hw;split at hw
  ·exact absurd hw (by show(6:Int)≠0;decide)
  split at hw
  ·exact absurd hw (by show(12:Int)≠0;decide)
  rename_i h1 h2
  cases i with
  |zero=>
   simp only[List.getElem?_cons_zero,Option.some.injEq]at h;subst h;exact⟨fun e1 e2=>h1 (.inl ⟨e1,e2⟩),h2⟩
  |succ i=>
   have:=Qiw p ts (o+1) hw i t (by simpa using h);rw[show o+(i+1)=o+1+i by omega];exact this
theorem Qpf{p:Pg}(h:(ckF p 0).1=0):(wNameP p p.types.zipIdx).1=0/\(wTypeP p p.types.zipIdx).1=0/\(wDeclP p p.decls.zipIdx).1=0/\(wClauseP p p.clauses).1=0:=by
 rw[ckF]at h;by_cases a:(wNameP p p.types.zipIdx).1=0
 ·
  rw[if_neg (fun e=>e a)]at h;by_cases b:(wTypeP p p.types.zipIdx).1=0
  ·
   rw[if_neg (fun e=>e b)]at h;by_cases d:(wDeclP p p.decls.zipIdx).1=0
   ·
    rw[if_neg (fun e=>e d)]at h;by_cases f:(wClauseP p p.clauses).1=0
    ·exact⟨a,b,d,f⟩
    ·rw[if_pos f]at h;exact absurd h f
   ·rw[if_pos d]at h;exact absurd h d
  ·rw[if_pos b]at h;exact absurd h b
 ·rw[if_pos a]at h;exact absurd h a
theorem okT_of{p:Pg}(h:(ckF p 0).1=0):OkT p:=by
 obtain⟨b,a,_,_⟩:=Qpf h;refine⟨fun i t e=>?_,fun i t e=>?_,fun i d=>?_⟩
 ·
  have:=Qnh p p.types 0 b i t e;rw[this];omega
 ·exact(Qiw p p.types 0 a i t e).1
 have:=(Qiw p p.types 0 a i _ (List.getElem?_eq_getElem d)).2;rw[Nat.zero_add]at this;exact this
def Vk(p:Pg)(k:Nat):Prop:=1<=k/\k<p.types.length+3
section
variable {p:Pg}(ok:OkT p)
include ok
theorem OkT.sub{k:Nat}(h:kInit p k = -1):Vk p (kSub p k):=by
 obtain⟨f,b⟩:=Qcm h;obtain⟨t,a⟩:∃t,p.types[k - 3]?=some t:=⟨_,List.getElem?_eq_getElem b⟩;have d:t.sub≠[]:=fun e=>by
  unfold kInit at h;rw[if_neg (by omega),a]at h;simp only[if_pos e]at h;omega
 have e:kSub p k=tyNo p t.sub:=by
  unfold kSub;rw[if_neg (by omega),a];rfl
 rw[e];exact⟨by have:=ok.sb _ t a d;omega,Qiv p t.sub⟩
theorem OkT.far{k:Nat}(hk:Vk p k):∀i,(∀j,j<i->kInit p (far p j k) = -1)->Vk p (far p i k)
 | 0,_=>hk
 |i+1,h=>by
  rw[Qdb];exact ok.sub (h i (by omega))
theorem OkT.name{k:Nat}(hk:Vk p k):tyNo p (kName p k)=k:=by
 obtain⟨f,h⟩:=hk;by_cases a:k=1
 ·subst a;exact Qjv p
 by_cases b:k=2
 ·subst b;exact Qmr p
 obtain⟨t,d⟩:∃t,p.types[k - 3]?=some t:=⟨_,List.getElem?_eq_getElem (by omega)⟩;have e:kName p k=t.name:=by
  unfold kName;rw[if_neg a,if_neg b,if_neg (by omega),d];rfl
 rw[e,ok.nm _ t d];omega
theorem OkT.base{k:Nat}(hk:Vk p k):kBase p k ≠ -2:=by
 obtain⟨a,b⟩:=hk;by_cases e:k<3
 ·
  rw[Qfb (by unfold kInit;rw[if_pos e];omega)];unfold kInit;rw[if_pos e];omega
 have:=ok.bs (k - 3) (by omega);rw[show 3+(k - 3)=k by omega]at this;exact this
theorem OkT.row{k:Nat}(hk:Vk p k):∃i l,RwyE p k i l:=by
 obtain⟨i,h,a,e,f⟩:=Qfg p _ _ _ rfl (ok.base hk);have b:=ok.far hk i a;have d:kInit p (Go.Proofs.YtmfpbepifnedjaaGreat.far p i k) ≠ -1:=by rw[e];exact f
 refine⟨i,_,rfl,a,Qhi b.2 d,by have:=b.1;omega,fun j m=>?_,by omega⟩;exact ok.name (ok.far hk j (fun q n=>a q (by omega)))
end
section
variable {p:Pg}{k i:Nat}{l:List Txt}
theorem RwyE.mem(h:RwyE p k i l){b:Txt}:b∈l ↔ ∃q,q<=i/\far p q k=tyNo p b/\tyNo p b≠0:=by
 rw[h.nam];constructor
 ·
  intro m;obtain⟨q,d,e⟩:=List.mem_map.1 m;have o:q<i+1:=List.mem_range.1 d;have a:=h.ims q (by omega);rw[e]at a;refine⟨q,by omega,a.symm,?_⟩;rw[a];by_cases f:q=i
  ·rw[f];exact h.nz
  intro j;have:=h.own q (by omega);rw[j]at this;cases this
 rintro⟨q,d,e,n⟩;refine List.mem_map.2 ⟨q,List.mem_range.2 (by omega),?_⟩;rw[e,Qfe n]
theorem RwyE.suffix(h:RwyE p k i l){q:Nat}(hq:q<=i):∃m,RwyE p (far p q k) (i - q) m:=by
 refine⟨_,rfl,fun j a=>?_,?_,?_,fun j a=>?_,by have:=h.cnt;omega⟩
 ·rw[<- Qda];exact h.own _ (by omega)
 ·rw[<- Qda,show q+(i - q)=i by omega];exact h.last
 ·rw[<- Qda,show q+(i - q)=i by omega];exact h.nz
 ·rw[<- Qda];exact h.ims _ (by omega)
end
theorem Qdh{p:Pg}{a b:Txt}{i:Nat}{l:List Txt}(h:RwyE p (tyNo p a) i l):belowP p a b=true↔b∈l:=by
 unfold belowP;rw[h.has,h.below,Bool.true_and,List.any_eq_true];constructor
 ·
  rintro⟨x,f,e⟩;rw[<- (show x=b by simpa using e)];exact f
 intro d;exact⟨b,d,by simp⟩
theorem base_eq{p:Pg}{a:Txt}{i:Nat}{l:List Txt}(h:RwyE p (tyNo p a) i l):baseP p a=some (kName p (far p i (tyNo p a))):=by
 unfold baseP;rw[if_pos h.has,h.base];rfl
def NmT(p:Pg)(a:Txt):Prop:=tyNo p a≠0
theorem NmT.vk{p:Pg}{a:Txt}(ha:NmT p a):Vk p (tyNo p a):=⟨by have:tyNo p a≠0:=ha;omega,Qiv p a⟩
section
variable {p:Pg}(ok:OkT p)
include ok
theorem Qer{a:Txt}(ha:NmT p a):∃x,baseP p a=some x/\belowP p a a=true/\belowP p a x=true:=by
 obtain⟨i,l,h⟩:=ok.row ha.vk;refine⟨_,base_eq h,(Qdh h).2 (h.mem.2 ⟨0,Nat.zero_le _,rfl,ha⟩),(Qdh h).2 ?_⟩;refine h.mem.2 ⟨i,Nat.le_refl _,(h.ims i (Nat.le_refl _)).symm,?_⟩;rw[h.ims i (Nat.le_refl _)];exact h.nz
theorem Qgh{a b c:Txt}(ha:NmT p a)(hab:belowP p a b=true)(hbc:belowP p b c=true):belowP p a c=true:=by
 obtain⟨i,l,h⟩:=ok.row ha.vk;obtain⟨q,n,e,s⟩:=h.mem.1 ((Qdh h).1 hab);obtain⟨m,d⟩:=h.suffix n;rw[e]at d;obtain⟨r,o,j,f⟩:=d.mem.1 ((Qdh d).1 hbc);refine(Qdh h).2 (h.mem.2 ⟨q+r,by omega,?_,f⟩);rw[Qda,e,j]
end
end
section
open Go.RowKit Go.Maps
def VtR(R:Except Flt Txt)(t:Txt)(ft:Flt):Prop:=match R with | .ok s=>t=s/\ft=(0,0) | .error e=>ft=e/\e.1≠0
def VlA(w:World)(R:Except Flt Txt)(en:Ending)(w':World):Prop:=∃t ft,en = .returned (.tuple #[str t,ftV ft])/\VtR R t ft/\Below w.heap.size w w'
def FuR(R:Except Flt Unit)(ft:Flt):Prop:=match R with | .ok _=>ft=(0,0) | .error e=>ft=e/\e.1≠0
def opR(R:Except Flt Unit):Except Flt Txt:=match R with | .ok _=>.ok tNum | .error f=>.error f
def OpA(w:World)(R:Except Flt Unit)(en:Ending)(w':World):Prop:=∃ft,en = .returned (ftV ft)/\FuR R ft/\Below w.heap.size w w'
theorem Qon(w:World)(wb:Nat)(x:Ex)(hk:x.kind=4)(xa:Option Addr)(xn xc:Nat):
  Calls Tryz.prog 117 #[.pointer (Js wb),.agg #[Ji x.kind,Ji x.num,str x.txt,.slice xa xn xc,Ji x.at_]] w fun en w'=>VlA w (.error (15,x.at_)) en w':=by
 obtain⟨E,m,a,r,b,d⟩:=Qas w #[Ji x.kind,Ji x.num,str x.txt,.slice xa xn xc,Ji x.at_] 59;have J:(x.kind==1)=false:=by rw[hk];rfl
 have K:(x.kind==4)=true:=beq_iff_eq.2 hk;have n:=Qbd E 15 x.kind x.num x.txt (.slice xa xn xc) ⟨_,_,_,rfl⟩ x.at_;obtain⟨t,u,y,z,A,F⟩:=cl5 r;have q:=hide (Ya a (Ya b d));have D:=hide m;clear m a r b d hk;go_enter Tryz.func117,Tryz.ntmps117;go_upto_region 1 with fail;rw[<- Qa D];go_wp2_with fail;refine n.mono ?_;clear n t u y z A F;rintro en L⟨rfl,f⟩;obtain⟨a,b,d⟩:=Qa q;have e:=(f.block _ (Qaa b)).trans b;have h:=a.trans (f.mono a.size);obtain⟨I,j,sc⟩:=sc2 e (Ji 15) (Ji x.at_);obtain⟨G,H,M⟩:=cl2 e;have o:=hide (Ya (sc.below h (by omega)) sc.box);have s:=hide j;clear a b d e h f j sc q;go_wp2_with fail;rw[<- Qa s];obtain⟨B,C,N⟩:=cl2 (Qa o).2;refine bodyPost_ret (v:=.tuple #[Je,ftV (15,x.at_)]) (by simp[results,Tryz.results117,go_sem,B,C,ftV]) rfl ?_;exact⟨[],_,rfl,⟨rfl,(by show(15:Int)≠0;decide)⟩,(Qa o).1⟩
theorem Qsb(w:World)(wb:Nat)(x:Ex)(hk:x.kind≠1/\x.kind≠4/\x.kind≠2/\x.kind≠3/\x.kind≠5/\x.kind≠6)(xa:Option Addr)(xn xc:Nat):
  Calls Tryz.prog 117 #[.pointer (Js wb),.agg #[Ji x.kind,Ji x.num,str x.txt,.slice xa xn xc,Ji x.at_]] w fun en w'=>VlA w (.error (1,x.at_)) en w':=by
 obtain⟨E,m,a,r,b,d⟩:=Qas w #[Ji x.kind,Ji x.num,str x.txt,.slice xa xn xc,Ji x.at_] 59;have J:(x.kind==1)=false:=beq_eq_false_iff_ne.2 hk.1;have M:(x.kind==4)=false:=beq_eq_false_iff_ne.2 hk.2.1;have K:(x.kind==2)=false:=beq_eq_false_iff_ne.2 hk.2.2.1;have L:(x.kind==3)=false:=beq_eq_false_iff_ne.2 hk.2.2.2.1;have N:(x.kind==5)=false:=beq_eq_false_iff_ne.2 hk.2.2.2.2.1;have O:(x.kind==6)=false:=beq_eq_false_iff_ne.2 hk.2.2.2.2.2;have n:=Qbd E 1 x.kind x.num x.txt (.slice xa xn xc) ⟨_,_,_,rfl⟩ x.at_;obtain⟨t,u,y,z,A,F⟩:=cl5 r;have q:=hide (Ya a (Ya b d));have D:=hide m;clear m a r b d hk;go_enter Tryz.func117,Tryz.ntmps117;go_upto_region 1 with fail;rw[<- Qa D];go_wp2_with fail;refine n.mono ?_;clear n t u y z A F;rintro en P⟨rfl,f⟩;obtain⟨a,b,d⟩:=Qa q;have e:=(f.block _ (Qaa b)).trans b;have h:=a.trans (f.mono a.size);obtain⟨I,j,sc⟩:=sc2 e (Ji 1) (Ji x.at_);obtain⟨G,H,Q⟩:=cl2 e;have o:=hide (Ya (sc.below h (by omega)) sc.box);have s:=hide j;clear a b d e h f j sc q;go_wp2_with fail;rw[<- Qa s];obtain⟨B,C,R⟩:=cl2 (Qa o).2;refine bodyPost_ret (v:=.tuple #[Je,ftV (1,x.at_)]) (by simp[results,Tryz.results117,go_sem,B,C,ftV]) rfl ?_;exact⟨[],_,rfl,⟨rfl,(by show(1:Int)≠0;decide)⟩,(Qa o).1⟩
theorem Qsd(w:World)(wb:Nat)(x:Ex)(hk:x.kind=2)(xa:Option Addr)(xn xc:Nat):
  Calls Tryz.prog 117 #[.pointer (Js wb),.agg #[Ji x.kind,Ji x.num,str x.txt,.slice xa xn xc,Ji x.at_]] w fun en w'=>VlA w (.ok tNum) en w':=by
 obtain⟨F,d,f,h,a,q⟩:=Qas w #[Ji x.kind,Ji x.num,str x.txt,.slice xa xn xc,Ji x.at_] 59;have C:(x.kind==1)=false:=by rw[hk];rfl
 have E:(x.kind==4)=false:=by rw[hk];rfl
 have D:(x.kind==2)=true:=beq_iff_eq.2 hk;obtain⟨B,b,sc⟩:=sc2 a (Ji 0) (Ji 0);obtain⟨r,s,t,u,y,G⟩:=cl5 h;obtain⟨z,A,H⟩:=cl2 a;have e:=hide (Ya (sc.below f (by omega)) sc.box);have j:=hide b;have o:=hide d;clear d f h a q hk b sc;go_enter Tryz.func117,Tryz.ntmps117;go_upto_region 1 with fail;rw[<- Qa o];go_wp2_with fail;rw[<- Qa j];obtain⟨m,n,I⟩:=cl2 (Qa e).2;refine bodyPost_ret (v:=.tuple #[str tNum,ftV (0,0)]) (by simp[results,Tryz.results117,go_sem,m,n,ftV,str,tNum]) rfl ?_;exact⟨_,_,rfl,⟨rfl,rfl⟩,(Qa e).1⟩
theorem Qop(w:World)(wb:Nat)(x:Ex)(hk:x.kind=3)(xa:Option Addr)(xn xc:Nat):
  Calls Tryz.prog 117 #[.pointer (Js wb),.agg #[Ji x.kind,Ji x.num,str x.txt,.slice xa xn xc,Ji x.at_]] w fun en w'=>VlA w (.ok tSym) en w':=by
 obtain⟨G,d,f,h,a,q⟩:=Qas w #[Ji x.kind,Ji x.num,str x.txt,.slice xa xn xc,Ji x.at_] 59;have C:(x.kind==1)=false:=by rw[hk];rfl
 have F:(x.kind==4)=false:=by rw[hk];rfl
 have D:(x.kind==2)=false:=by rw[hk];rfl
 have E:(x.kind==3)=true:=beq_iff_eq.2 hk;obtain⟨B,b,sc⟩:=sc2 a (Ji 0) (Ji 0);obtain⟨r,s,t,u,y,H⟩:=cl5 h;obtain⟨z,A,I⟩:=cl2 a;have e:=hide (Ya (sc.below f (by omega)) sc.box);have j:=hide b;have o:=hide d;clear d f h a q hk b sc;go_enter Tryz.func117,Tryz.ntmps117;go_upto_region 1 with fail;rw[<- Qa o];go_wp2_with fail;rw[<- Qa j];obtain⟨m,n,J⟩:=cl2 (Qa e).2;refine bodyPost_ret (v:=.tuple #[str tSym,ftV (0,0)]) (by simp[results,Tryz.results117,go_sem,m,n,ftV,str,tSym]) rfl ?_;exact⟨_,_,rfl,⟨rfl,rfl⟩,(Qa e).1⟩
theorem Quc(w:World)(wb:Nat)(x:Ex)(hk:x.kind=5)(xa:Option Addr)(xn xc:Nat){R:Except Flt Unit}(hC:∀W,Below w.heap.size w W->Calls Tryz.prog 124 #[.pointer (Js wb),.agg #[Ji x.kind,Ji x.num,str x.txt,.slice xa xn xc,Ji x.at_]] W fun en w'=>OpA W R en w'):
  Calls Tryz.prog 117 #[.pointer (Js wb),.agg #[Ji x.kind,Ji x.num,str x.txt,.slice xa xn xc,Ji x.at_]] w fun en w'=>VlA w (opR R) en w':=by
 obtain⟨G,r,a,t,b,d⟩:=Qas w #[Ji x.kind,Ji x.num,str x.txt,.slice xa xn xc,Ji x.at_] 59;have L:(x.kind==1)=false:=by rw[hk];rfl
 have O:(x.kind==4)=false:=by rw[hk];rfl
 have M:(x.kind==2)=false:=by rw[hk];rfl
 have N:(x.kind==3)=false:=by rw[hk];rfl
 have P:(x.kind==5)=true:=beq_iff_eq.2 hk;have o:=hC G a;obtain⟨y,z,A,B,C,H⟩:=cl5 t;have s:=hide (Ya a (Ya b d));have F:=hide r;clear r a t b d hk hC;go_enter Tryz.func117,Tryz.ntmps117;go_upto_region 1 with fail;rw[<- Qa F];go_wp2_with fail;refine o.mono ?_;clear o y z A B C H;rintro en Q⟨ft,rfl,q,j⟩;obtain⟨a,b,d⟩:=Qa s;have f:=(j.block _ (Qaa b)).trans b;have m:=a.trans (j.mono a.size);obtain⟨K,n,sc⟩:=sc2 f (Ji ft.1) (Ji ft.2);obtain⟨I,J,S⟩:=cl2 f;have h:=hide (Ya (sc.below m (by omega)) (Ya sc.box q));have u:=hide n;clear a b d f m j n sc s q;unfold ftV;go_wp2_with fail;rw[<- Qa u];obtain⟨D,E,T⟩:=cl2 (Qa h).2.1;refine bodyPost_ret (v:=.tuple #[.string ⟨#[110,117,109,98,101,114]⟩,ftV ft]) (by simp[results,Tryz.results117,go_sem,D,E,ftV]) rfl ?_
 exact⟨tNum,_,rfl,(by
  have:=(Qa h).2.2
  cases R with
  |ok _=>exact⟨rfl,this⟩
  |error e=>exact this),(Qa h).1⟩
theorem Qsc(w:World)(wb:Nat)(x:Ex)(hk:x.kind=6)(xa:Option Addr)(xn xc:Nat){R:Except Flt Txt}(hC:∀W,Below w.heap.size w W->Calls Tryz.prog 131 #[.pointer (Js wb),.agg #[Ji x.kind,Ji x.num,str x.txt,.slice xa xn xc,Ji x.at_]] W fun en w'=>VlA W R en w'):
  Calls Tryz.prog 117 #[.pointer (Js wb),.agg #[Ji x.kind,Ji x.num,str x.txt,.slice xa xn xc,Ji x.at_]] w fun en w'=>VlA w R en w':=by
 obtain⟨G,q,a,s,b,d⟩:=Qas w #[Ji x.kind,Ji x.num,str x.txt,.slice xa xn xc,Ji x.at_] 59;have L:(x.kind==1)=false:=by rw[hk];rfl
 have O:(x.kind==4)=false:=by rw[hk];rfl
 have M:(x.kind==2)=false:=by rw[hk];rfl
 have N:(x.kind==3)=false:=by rw[hk];rfl
 have P:(x.kind==5)=false:=by rw[hk];rfl
 have Q:(x.kind==6)=true:=beq_iff_eq.2 hk;have n:=hC G a;obtain⟨u,y,z,A,B,H⟩:=cl5 s;have r:=hide (Ya a (Ya b d));have E:=hide q;clear q a s b d hk hC;go_enter Tryz.func117,Tryz.ntmps117;go_upto_region 1 with fail;rw[<- Qa E];go_wp2_with fail;refine n.mono ?_;clear n u y z A B H;rintro en S⟨F,ft,rfl,o,h⟩;obtain⟨a,b,d⟩:=Qa r;have e:=(h.block _ (Qaa b)).trans b;have j:=a.trans (h.mono a.size);obtain⟨K,m,sc⟩:=sc2 e (Ji ft.1) (Ji ft.2);obtain⟨I,J,T⟩:=cl2 e;have f:=hide (Ya (sc.below j (by omega)) (Ya sc.box o));have t:=hide m;clear a b d e j h m sc r o;unfold ftV;go_wp2_with fail;rw[<- Qa t];obtain⟨C,D,U⟩:=cl2 (Qa f).2.1;refine bodyPost_ret (v:=.tuple #[str F,ftV ft]) (by simp[results,Tryz.results117,go_sem,C,D,ftV]) rfl ?_;exact⟨_,_,rfl,(Qa f).2.2,(Qa f).1⟩
section
variable {w:World}{g cap:Nat}{xs:List Txt}
theorem Qpz(h1:xs.length<=cap)(h2:cap<=9223372036854775807)(hat:∀i s,xs[i]?=some s->w.cell? (Ja g i)=some (str s))(t:Txt):
  Calls Tryz.prog 134 #[.slice (Js g) xs.length cap,str t] w fun en w'=>w'=w/\((∃i:Nat,en = .returned (Ji (i:Int))/\xs.any (· == t)=true)∨(en = .returned (Ji (-1))/\xs.any (· == t)=false)):=by
 obtain⟨n,a⟩:=JF xs.length;rw[a]at h1 ⊢;have j:=hide (Ya hat a);clear hat a;go_enter Tryz.func134,Tryz.ntmps134;go_wp2_with fail;go_loopw [8] (fun v wr=>∃i:Nat,v = Ji (i:Int)/\i<=n/\wr=w/\Hid ((xs.take i).any (· == t)=false)) (fun v _=>n - (intOf v).toNat)
 case atStart=>exact⟨0,rfl,Nat.zero_le _,rfl,hide rfl⟩
 obtain⟨i,rfl,z,rfl,m⟩:=hrel;by_cases x:i<n
 ·
  obtain⟨hat,a⟩:=Qa j;obtain⟨s,b⟩:∃s,xs[i]?=some s:=⟨xs[i]'(by omega),List.getElem?_eq_getElem _⟩;have A:=hat i s b;have f:=Qfk b (Qa m);by_cases d:s=t
  ·
   have u:=hide (show xs.any (· == t)=true from List.any_eq_true.2 ⟨s,List.mem_of_getElem? b,by simpa using d⟩);subst d;clear hat a b f;go_wp2_with fail;go_ret;exact⟨rfl,.inl ⟨i,rfl,Qa u⟩⟩
  have q:(s==t)=false:=by simpa using d
  have y:(t==s)=false:=by simpa using fun e=>d e.symm
  have r:=hide (f.trans q);clear hat a b f d;go_wp2_with fail;go_roundw
  case rel=>exact⟨i+1,by congr 1,by omega,trivial,r⟩
  case measure=>simp[intOf];omega
 have o:i=n:=by omega
 subst o;go_wp2_with fail;go_ret;have h:=Qa m;rw[<- (Qa j).2,List.take_length]at h;exact⟨rfl,.inr ⟨rfl,h⟩⟩
theorem Qmb(h1:xs.length<=cap)(h2:cap<=9223372036854775807)(hat:∀i s,xs[i]?=some s->w.cell? (Ja g i)=some (str s))(t:Txt):
  Calls Tryz.prog 127 #[.slice (Js g) xs.length cap,str t] w fun en w'=>en = .returned (.bool (xs.any (· == t)))/\w'=w:=by
 have d:=Qpz h1 h2 hat t;obtain⟨n,e⟩:=JF xs.length;rw[e]at d ⊢;clear h1 h2 hat e;go_enter Tryz.func127,Tryz.ntmps127;go_wp2_with fail;refine d.mono ?_;clear d;rintro en w'⟨rfl,⟨i,rfl,a⟩|⟨rfl,a⟩⟩
 ·
  have b:=hide a;clear a;have f:(0:Int)<=(i:Int):=by omega
  go_wp2_with fail;go_ret;exact⟨by rw[Qa b];rfl,rfl⟩
 have b:=hide a;clear a;go_wp2_with fail;go_ret;exact⟨by rw[Qa b];rfl,rfl⟩
end
def ExA(n0:Nat)(W:World)(x:Ex)(xa:Option Addr)(xn xc:Nat):Prop:=ExS (fun b=>b<n0) W [.int .i64 x.kind,.int .i64 x.num,str x.txt,.slice xa xn xc,.int .i64 x.at_] x
theorem ExA.later{n0:Nat}{W W':World}{x:Ex}{xa:Option Addr}{xn xc:Nat}(h:ExA n0 W x xa xn xc)(b:Below W.heap.size W W'):ExA n0 W' x xa xn xc:=Qaf.same _ _ _ _ _ h b.size (fun q _ a=>b.block q a)
theorem ExA.kids{n0:Nat}{W:World}{x:Ex}{xa:Option Addr}{xn xc:Nat}(h:ExA n0 W x xa xn xc):LsAt PE 5 (fun b=>b<n0) W (.slice xa xn xc) x.kids/\xn=x.kids.length:=by
 obtain⟨v,e,⟨f,cap,a⟩,d⟩:=ExS.cells h;simp only[List.cons.injEq,true_and,and_true]at e;subst e;rw[Value.slice.injEq]at a;exact⟨d,a.2.1⟩
def VlF(n0 n1:Nat)(p:Pg)(c:CatP)(wb mb:Nat)(sl:Value)(vs:List Fld)(x:Ex):Prop:=∀(W:World) (xa:Option Addr) (xn xc:Nat),Wk n0 n1 p c wb mb sl vs W->ExA n0 W x xa xn xc->Calls Tryz.prog 117 #[.pointer (some ⟨wb,0,none⟩),.agg #[.int .i64 x.kind,.int .i64 x.num,str x.txt,.slice xa xn xc,.int .i64 x.at_]] W fun en w'=>VlA W (valP p vs x) en w'
def oprP(p:Pg)(vs:List Fld)(x:Ex):Except Flt Unit:=if x.kids.length≠2∨x.txt∉opsA then .error (1,x.at_) else opnP p vs x.kids
theorem ops_at{w W:World}(h:W=w.alloc (.cells #[str [43],str [45],str [42],str [47],str [37]] 9)):∀i s,opsA[i]?=some s->W.cell? (Ja w.heap.size i)=some (str s):=fun i s a=>by
 rw[Qad (nnw h)];unfold opsA at a;rcases i with _|_|_|_|_|i
 all_goals first|(simp only[List.getElem?_cons_zero,List.getElem?_cons_succ,Option.some.injEq]at a;rw[<- a];rfl)|(simp at a)
section
variable {n0 n1:Nat}{p:Pg}{c:CatP}{wb mb:Nat}{sl:Value}{vs:List Fld}{w:World}
theorem Qtk(p:Pg)(vs:List Fld){xs:List Ex}{j:Nat}{x:Ex}(hx:xs[j]?=some x):opnP p vs (xs.drop j)=match valP p vs x with | .error f=>.error f | .ok t=>if hasP p t tNum=true then opnP p vs (xs.drop (j+1)) else .error (13,x.at_):=by
 have a:=(List.getElem?_eq_some_iff.1 hx).1;have e:xs.drop j=x :: xs.drop (j+1):=by
  rw[List.drop_eq_getElem_cons a];congr 1;exact(List.getElem?_eq_some_iff.1 hx).2
 rw[e,opnP];cases valP p vs x<;>rfl
theorem Qgg(h:Wk n0 n1 p c wb mb sl vs w)(x:Ex){xa:Option Addr}{xn xc:Nat}(hE:ExA n0 w x xa xn xc)(hV:∀y∈x.kids,VlF n0 n1 p c wb mb sl vs y):
  Calls Tryz.prog 124 #[.pointer (Js wb),.agg #[Ji x.kind,Ji x.num,str x.txt,.slice xa xn xc,Ji x.at_]] w fun en w'=>OpA w (oprP p vs x) en w':=by
 obtain⟨W,r⟩:=hE.kids;obtain⟨w2,aD,b2,nx,nf,m⟩:=Qas w #[Ji x.kind,Ji x.num,str x.txt,.slice xa xn xc,Ji x.at_] 59;obtain⟨w3,a2⟩:=JE (w2.alloc (.cells #[str [43],str [45],str [42],str [47],str [37]] 9));have b3:=bnw a2;have a6:Calls Tryz.prog 127 #[.slice (Js w2.heap.size) 5 5,str x.txt] w3 fun en w'=>en = .returned (.bool (opsA.any (· == x.txt)))/\w'=w3:=Qmb (w:=w3) (g:=w2.heap.size) (cap:=5) (xs:=opsA) (by decide) (by decide) (ops_at a2) x.txt;have a:=b2.trans (b3.mono b2.size);have o:=(b3.block _ (Qaa nx)).trans nx;have b:=(b3.block _ (Qaa nf)).trans nf;have bd:=W.cap rfl;obtain⟨R,F⟩:=JF (oprP p vs x);rw[F];obtain⟨bb,ak⟩:=JF (opsA.any (· == x.txt));rw[ak]at a6;have L:x.txt∈opsA↔bb=true:=by
  rw[<- ak,List.any_eq_true];constructor
  ·intro hm;exact⟨_,hm,by simp⟩
  ·rintro⟨y,X,e⟩;rw[<- (show y=x.txt by simpa using e)];exact X
 have a9:=Qbd w3 1 x.kind x.num x.txt (.slice xa xn xc) ⟨_,_,_,rfl⟩ x.at_;have a4:=Qbd w2 1 x.kind x.num x.txt (.slice xa xn xc) ⟨_,_,_,rfl⟩ x.at_;have H2:=hide (Ya b2 (Ya nx (Ya nf m)));have U:=hide (Ya W (Ya r (Ya hV (Ya h (Ya F L)))));have H3:=hide (Ya a (Ya o (Ya b m)));have HW:=hide (Ya aD (Ya a2 m));obtain⟨aK,aL,aM,aN,aO,xf⟩:=cl5 nx;obtain⟨aG,aH,au,aI,aJ,vf⟩:=cl5 o;have aF:(w2.alloc (.cells #[str [43],str [45],str [42],str [47],str [37]] 9)).cell? (Ja w.heap.size 2)=some (str x.txt):=by rw[<- a2];exact au
 clear h hE hV W r aD b2 nx nf m a2 b3 a o b F ak L;go_enter Tryz.func124,Tryz.ntmps124;go_upto_region 1 with fail;rw[<- (Qa HW).1];by_cases ao:xn=2
 rotate_left
 ·
  have g2:((xn:Int) != 2)=true:=by simpa using (by omega:¬((xn:Int)=2))
  have g3:¬((xn:Int)=2):=by omega
  have HX:=hide ao;clear ao a6 a9 aF aG aH au aI aJ vf;go_wp2_with fail;refine a4.mono ?_;clear a4 aK aL aM aN aO xf;rintro en w9⟨rfl,Q⟩;obtain⟨a,o,b,m⟩:=Qa H2;have O:=(Q.block _ (Qaa b)).trans b;have a0:=a.trans (Q.mono a.size);obtain⟨W7,n,sc⟩:=sc2 O (Ji 1) (Ji x.at_);obtain⟨ag,ah,yf⟩:=cl2 O;have d:=hide (Ya (sc.below a0 (by omega)) sc.box);have A:=hide n;clear a o b m O a0 Q n sc;go_wp2_with fail;rw[<- Qa A];obtain⟨D,E,zf⟩:=cl2 (Qa d).2;refine bodyPost_ret (v:=ftV (1,x.at_)) (by simp[results,Tryz.results124,go_sem,D,E,ftV]) rfl ?_;refine⟨_,rfl,?_,(Qa d).1⟩;obtain⟨_,r,_,_,F,L⟩:=Qa U;rw[<- F];unfold oprP;rw[if_pos (.inl (fun e=>Qa HX (r.trans e)))];exact⟨rfl,(by show(1:Int)≠0;decide)⟩
 subst ao;go_wp2_with fail;rw[<- (Qa HW).2.1];refine a6.mono ?_;clear a6 a4 aK aL aM aN aO xf aF;rintro en wq⟨rfl,rfl⟩;cases bb
 ·
  go_wp2_with fail;refine a9.mono ?_;clear a9;rintro en w9⟨rfl,Q⟩;obtain⟨a,o,b,m⟩:=Qa H3;have O:=(Q.block _ (Qaa b)).trans b;have a0:=a.trans (Q.mono a.size);obtain⟨W7,n,sc⟩:=sc2 O (Ji 1) (Ji x.at_);obtain⟨ag,ah,yf⟩:=cl2 O;have d:=hide (Ya (sc.below a0 (by omega)) sc.box);have A:=hide n;clear a o b m O a0 Q n sc;go_wp2_with fail;rw[<- Qa A];obtain⟨D,E,zf⟩:=cl2 (Qa d).2;refine bodyPost_ret (v:=ftV (1,x.at_)) (by simp[results,Tryz.results124,go_sem,D,E,ftV]) rfl ?_;refine⟨_,rfl,?_,(Qa d).1⟩;obtain⟨_,r,_,_,F,L⟩:=Qa U;rw[<- F];unfold oprP;rw[if_pos (.inr (fun e=>by cases L.1 e))];exact⟨rfl,(by show(1:Int)≠0;decide)⟩
 clear a9;have aP:Hid (R=opnP p vs (x.kids.drop 0)):=by
  obtain⟨_,r,_,_,F,L⟩:=Qa U;refine hide ?_;rw[<- F];unfold oprP;rw[if_neg (fun e=>e.elim (fun e=>e r.symm) (fun e=>e (L.2 rfl)))];rfl
 go_wp2_with fail;clear aG aH au aI aJ vf;go_loopw [26] (fun v wr=>∃i:Nat,v = Ji (i:Int)/\i<=2/\Hid (Below wq.heap.size wq wr/\R=opnP p vs (x.kids.drop i))) (fun v _=>2 - (intOf v).toNat)
 case atStart=>exact⟨0,rfl,by decide,hide ⟨Below.refl _ _,Qa aP⟩⟩
 obtain⟨i,rfl,hi,HI⟩:=hrel;by_cases be:i<2
 rotate_left
 ·
  have b1:i=2:=by omega
  subst b1;obtain⟨I,f⟩:=Qa HI;obtain⟨a,o,b,m⟩:=Qa H3;have r:=(Qa U).2.1;have M:=a.trans (I.mono a.size);have ar:=(I.block _ (Qaa b)).trans b;rw[List.drop_eq_nil_of_le (by omega)]at f;obtain⟨W7,n,sc⟩:=sc2 ar (Ji 0) (Ji 0);obtain⟨ag,ah,yf⟩:=cl2 ar;have d:=hide (Ya (sc.below M (by omega)) (Ya sc.box f));have A:=hide n;clear I f a o b m r M ar n sc HI;go_wp2_with fail;rw[<- Qa A];obtain⟨D,E,zf⟩:=cl2 (Qa d).2.1;refine bodyPost_ret (v:=ftV (0,0)) (by simp[results,Tryz.results124,go_sem,D,E,ftV]) rfl ?_;refine⟨_,rfl,?_,(Qa d).1⟩;rw[(Qa d).2.2];rfl
 obtain⟨I,f⟩:=Qa HI;obtain⟨W,r,hV,h,_,_⟩:=Qa U;obtain⟨a,o,b,m⟩:=Qa H3;have M:=a.trans (I.mono a.size);have aA:=W.later Qaf M;obtain⟨y,X⟩:∃y,x.kids[i]?=some y:=⟨x.kids[i]'(by omega),List.getElem?_eq_getElem _⟩;obtain⟨gb,cap,cs,S,b0,aZ,aY,aa,al⟩:=aA.elem X;simp only[Value.slice.injEq]at S;obtain⟨rfl,-,rfl⟩:=S;obtain⟨yv,aV,⟨ya,yc,aW⟩,_⟩:=aa.cells;subst aW;subst aV;obtain⟨yn,aE⟩:=JF y.kids.length;rw[aE]at aa al;clear aE;obtain⟨aQ,aR,aS,aT,aU⟩:=cs5 al;obtain⟨w4,a8⟩:=JE (wr.alloc (.cells #[Ji y.kind,Ji y.num,str y.txt,.slice ya yn yc,Ji y.at_] 59));obtain⟨kb,an⟩:=JF wr.heap.size;have b4:=bnw a8;have G:=nnw a8;rw[an]at G;have H:=M.trans (b4.mono M.size);have aC:=hV y (List.mem_of_getElem? X) w4 ya yn yc (h.later H) (ExA.later (show ExA n0 wr y ya yn yc from aa) b4);have N:=I.trans (b4.mono I.size);have H4:=hide (Ya H (Ya G (Ya N (Ya (Qtk p vs X) f))));have av:=hide (Ya a8 an);obtain⟨ab,ac,ad,ae,af,kf⟩:=cl5 G;clear I f W r hV h a o b m M aA X b0 aZ aY aa al a8 an b4 G H N HI;go_upto_region 6 with fail;rw[<- (Qa av).1,(Qa av).2];go_wp2_with fail;refine aC.mono ?_;clear aC aQ aR aS aT aU ab ac ad ae af kf;rintro en w5⟨t5,ft,rfl,z,b5⟩;obtain⟨V,f1⟩:=ft;unfold ftV;obtain⟨w6,a3⟩:=JE (w5.alloc (.cells #[Ji V,Ji f1] 31));obtain⟨fb,a7⟩:=JF w5.heap.size;have b6:=bnw a3;have n6:=nnw a3;rw[a7]at n6;obtain⟨H,G,N,j,f⟩:=Qa H4;obtain⟨a,o,b,m⟩:=Qa H3;have a1:=b5.trans (b6.mono b5.size);have q:=H.trans (a1.mono H.size);have u:=N.trans (a1.mono N.size);have ap:=(a1.block _ (Qaa G)).trans G;have t:=(u.block _ (Qaa b)).trans b;have a5:=hide (Ya a3 a7);obtain⟨ay,az,ff⟩:=cl2 n6;by_cases Y:V=0
 rotate_left
 ·
  have ai:valP p vs y = .error (V,f1):=by
   cases hq:valP p vs y with
   |ok s=>rw[hq]at z;obtain⟨S,J⟩:=z;simp only[Prod.mk.injEq]at J;exact absurd J.1 Y
   |error e=>rw[hq]at z;rw[z.1]
  rw[ai]at j;have g4:(V != 0)=true:=by simpa using Y
  obtain⟨W7,n,sc⟩:=sc2 t (Ji V) (Ji f1);obtain⟨ag,ah,yf⟩:=cl2 t;have d:=hide (Ya (sc.below q (by omega)) (Ya sc.box (Ya (f.trans j) Y)));have A:=hide n;clear z b5 a3 a7 b6 n6 H G N j f a o b m a1 q u ap t ai Y n sc;go_upto_region 7 with fail;rw[<- (Qa a5).1,(Qa a5).2];go_wp2_with fail;rw[<- Qa A];obtain⟨D,E,zf⟩:=cl2 (Qa d).2.1;refine bodyPost_ret (v:=ftV (V,f1)) (by simp[results,Tryz.results124,go_sem,D,E,ftV]) rfl ?_;refine⟨_,rfl,?_,(Qa d).1⟩;rw[(Qa d).2.2.1];exact⟨rfl,(Qa d).2.2.2⟩
 have aB:valP p vs y = .ok t5/\f1=0:=by
  cases hq:valP p vs y with
  |ok s=>rw[hq]at z;obtain⟨S,J⟩:=z;simp only[Prod.mk.injEq]at J;exact⟨by rw[S],J.2⟩
  |error e=>rw[hq]at z;obtain⟨S,J⟩:=z;rw[<- S]at J;exact absurd Y J
 have B:=Qel ((Qa U).2.2.2.1.later q) y (.slice ya yn yc) ⟨_,_,_,rfl⟩ t5 tNum;obtain⟨hb,am⟩:=JF (hasP p t5 tNum);rw[am]at B;rw[aB.1]at j;simp only[am]at j;obtain⟨ab,ac,ad,ae,af,kf⟩:=cl5 ap;have H6:=hide (Ya q (Ya u (Ya t (Ya j f))));subst Y;clear z b5 a3 a7 b6 n6 H G N j f a o b m a1 q u ap t aB am;go_upto_region 7 with fail;rw[<- (Qa a5).1,(Qa a5).2];cases hb
 ·
  rw[if_neg (by decide)]at B;unfold ftV at B;go_wp2_with fail;refine B.mono ?_;clear B ab ac ad ae af kf ay az ff;rintro en w7⟨rfl,P⟩;obtain⟨w8,C⟩:=JE (w7.alloc (.cells #[Ji 13,Ji y.at_] 31));obtain⟨aX,K⟩:=JF w7.heap.size;have b8:=bnw C;have T:=nnw C;rw[K]at T;obtain⟨q,u,t,j,f⟩:=Qa H6;have aj:=P.trans (b8.mono P.size);have aw:=q.trans (aj.mono q.size);have aq:=(aj.block _ (Qaa t)).trans t;rw[if_neg (by decide)]at j;obtain⟨W7,n,sc⟩:=sc2 aq (Ji 13) (Ji y.at_);obtain⟨ag,ah,yf⟩:=cl2 aq;have d:=hide (Ya (sc.below aw (by omega)) (Ya sc.box (f.trans j)));have A:=hide n;have Z:=hide (Ya C K);obtain⟨ba,bc,qf⟩:=cl2 T;clear P C K b8 T q u t j f aj aw aq n sc;go_upto_region 10 with fail;rw[<- (Qa Z).1,(Qa Z).2];go_wp2_with fail;rw[<- Qa A];obtain⟨D,E,zf⟩:=cl2 (Qa d).2.1;refine bodyPost_ret (v:=ftV (13,y.at_)) (by simp[results,Tryz.results124,go_sem,D,E,ftV]) rfl ?_;refine⟨_,rfl,?_,(Qa d).1⟩;rw[(Qa d).2.2];exact⟨rfl,(by show(13:Int)≠0;decide)⟩
 rw[if_pos rfl]at B;unfold ftV at B;go_wp2_with fail;refine B.mono ?_;clear B ab ac ad ae af kf ay az ff;rintro en w7⟨rfl,P⟩;obtain⟨w8,C⟩:=JE (w7.alloc (.cells #[Ji 0,Ji 0] 31));obtain⟨aX,K⟩:=JF w7.heap.size;have b8:=bnw C;have T:=nnw C;rw[K]at T;obtain⟨q,u,t,j,f⟩:=Qa H6;have ax:=u.trans ((P.trans (b8.mono P.size)).mono u.size);rw[if_pos trivial]at j;have HN:=hide (Ya ax (f.trans j));have Z:=hide (Ya C K);obtain⟨ba,bc,qf⟩:=cl2 T;clear P C K b8 T q u t j f ax;go_upto_region 10 with fail;rw[<- (Qa Z).1,(Qa Z).2];go_wp2_with fail;go_roundw
 case rel=>exact⟨i+1,by congr 1,by omega,HN⟩
 case measure=>simp[intOf];omega
end
end
end Go.Proofs.YtmfpbepifnedjaaGreat
