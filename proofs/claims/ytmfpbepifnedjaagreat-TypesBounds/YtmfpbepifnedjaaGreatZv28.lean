/- types. -/
import Derived.Test.YtmfpbepifnedjaaGreatZv01
import Derived.Test.YtmfpbepifnedjaaGreatZv23
import Derived.Test.YtmfpbepifnedjaaGreatZv27
import Derived.Test.YtmfpbepifnedjaaGreatZv05
set_option maxRecDepth 100000
set_option maxHeartbeats 32000000
namespace Go.Proofs.YtmfpbepifnedjaaGreat
section
theorem Qdp(vs:List Fld)(s t s':Txt):typV (vs++[⟨s,t⟩]) s'=(typV vs s').or (if s=s' then some t else none):=by
 unfold typV;rw[List.find?_append]
 cases vs.find? fun v=>decide (v.name=s') with
 |some v=>rfl
 |none=>
  by_cases h:s=s'<;>simp[h]
theorem Qev:∀(vs:List Fld) (s t s':Txt),typV (putT vs s t) s'=if s'=s then (typV vs s').map (fun _=>t) else typV vs s'
 | [],s,t,s'=>by simp[typV,putT]
 |v :: vs,s,t,s'=>by
  have ih:=Qev vs s t s';unfold typV putT at *;simp only[List.map_cons,List.find?_cons];by_cases b:v.name=s
  ·
   simp only[if_pos b];by_cases a:v.name=s'
   ·
    have:s'=s:=a▸b;simp[a,this]
   simp only[decide_eq_false a];exact ih
  simp only[if_neg b];by_cases a:v.name=s'
  ·
   have:¬s'=s:=fun e=>b (a.trans e);simp[a,this]
  simp only[decide_eq_false a];exact ih
def VT(p:Pg)(vs:List Fld):Prop:=∀s own,typV vs s=some own->NmT p own
def LowV(p:Pg)(vs vs':List Fld):Prop:=∀s own,typV vs s=some own -> ∃own',typV vs' s=some own'/\belowP p own' own=true
section
variable {p:Pg}(ok:OkT p)
include ok
theorem Qdc{vs:List Fld}(h:VT p vs):LowV p vs vs:=fun s own e=>by
 obtain⟨_,_,a,_⟩:=Qer ok (h s own e);exact⟨own,e,a⟩
theorem Qjt{a b c:List Fld}(hc:VT p c)(h1:LowV p a b)(h2:LowV p b c):LowV p a c:=fun s own e=>by
 obtain⟨j,i,g⟩:=h1 s own e;obtain⟨f,d,h⟩:=h2 s j i;exact⟨f,d,Qgh ok (hc s f d) h g⟩
theorem nar_low{vs vs':List Fld}{x:Ex}{t:Txt}(hV:VT p vs)(ht:NmT p t)(h:narP p vs x t = .ok vs'):VT p vs'/\LowV p vs vs' /\ ∃own,typV vs' x.txt=some own/\belowP p own t=true:=by
 obtain⟨_,_,g,_⟩:=Qer ok ht;unfold narP at h
 cases a:typV vs x.txt with
 |none=>
  rw[a]at h;cases h
  refine⟨fun s own e=>?_,fun s own e=>?_,t,by rw[Qdp,a,if_pos rfl];rfl,g⟩
  ·
   rw[Qdp]at e
   cases f:typV vs s with
   |some o=>rw[f]at e;cases e;exact hV s own f
   |none=>
    rw[f]at e;by_cases b:x.txt=s
    ·rw[if_pos b]at e;cases e;exact ht
    ·rw[if_neg b]at e;cases e
  obtain⟨_,_,c,_⟩:=Qer ok (hV s own e);exact⟨own,by rw[Qdp,e];rfl,c⟩
 |some own=>
  rw[a]at h;simp only at h;split at h
  ·
   rename_i d;cases h
   exact⟨hV,Qdc ok hV,own,a,d⟩
  split at h
  ·
   rename_i d;cases h
   refine⟨fun s o e=>?_,fun s o e=>?_,t,by rw[Qev,if_pos rfl,a];rfl,g⟩
   ·
    rw[Qev]at e;by_cases b:s=x.txt
    ·subst b;rw[if_pos rfl,a]at e;cases e;exact ht
    ·rw[if_neg b]at e;exact hV s o e
   by_cases b:s=x.txt
   ·
    subst b;rw[a]at e;cases e
    exact⟨t,by rw[Qev,if_pos rfl,a];rfl,d⟩
   obtain⟨_,_,c,_⟩:=Qer ok (hV s o e);exact⟨o,by rw[Qev,if_neg b];exact e,c⟩
  ·cases h
end
def FT(p:Pg)(fs:List Fld):Prop:=∀f∈fs,NmT p f.type
def CtT(p:Pg):Prop:=∀s d sum,ctorP2 p s=some (d,sum)->FT p d.fields/\NmT p sum
mutual
theorem pat_low{p:Pg}(ok:OkT p)(hc:CtT p):∀(x:Ex) (t:Txt) (vs vs':List Fld),VT p vs->NmT p t->patP p x t vs = .ok vs'->VT p vs'/\LowV p vs vs'/\(x.kind=1 -> ∃own,typV vs' x.txt=some own/\belowP p own t=true)
 | .mk k n s ks a,t,vs,vs',hV,ht,h=>by
  rw[patP]at h;split at h
  ·
   obtain⟨h1,h2,h3⟩:=nar_low ok hV ht h;exact⟨h1,h2,fun _=>h3⟩
  ·
   rename_i c;have b:vs'=vs->VT p vs'/\LowV p vs vs'/\((Ex.mk k n s ks a).kind=1 -> ∃own,typV vs' (Ex.mk k n s ks a).txt=some own/\belowP p own t=true):=fun e=>by
    subst e;exact⟨hV,Qdc ok hV,fun e=>absurd e c⟩
   split at h
   ·cases h;exact b rfl
   ·
    split at h
    ·
     split at h
     ·cases h;exact b rfl
     ·cases h
    ·
     split at h
     ·
      split at h
      ·cases h;exact b rfl
      ·cases h
     ·
      split at h
      ·
       split at h
       ·
        split at h
        ·cases h
        ·
         split at h
         ·cases h;exact b rfl
         ·cases h
       ·cases h
      ·
       split at h
       ·
        split at h
        ·cases h
        ·
         rename_i d sum f;split at h
         ·cases h
         ·
          split at h
          ·cases h
          ·
           obtain⟨h1,h2,_⟩:=Qin ok hc ks d.fields vs vs' hV (hc s d sum f).1 h;exact⟨h1,h2,fun e=>absurd e c⟩
       ·cases h
theorem Qin{p:Pg}(ok:OkT p)(hc:CtT p):∀(xs:List Ex) (fs vs vs':List Fld),VT p vs->FT p fs->patsP p xs fs vs = .ok vs'->VT p vs'/\LowV p vs vs' /\ ∀(j:Nat) (x:Ex) (f:Fld),xs[j]?=some x->fs[j]?=some f->x.kind=1 -> ∃own,typV vs' x.txt=some own/\belowP p own f.type=true
 | [],fs,vs,vs',hV,hF,h=>by
  rw[patsP]at h;cases h
  exact⟨hV,Qdc ok hV,fun j x f hx=>by simp at hx⟩
 |x :: xs,[],vs,vs',hV,hF,h=>by
  rw[patsP]at h;cases h
  exact⟨hV,Qdc ok hV,fun j x f _ hf=>by simp at hf⟩
 |x :: xs,f :: fs,vs,vs',hV,hF,h=>by
  rw[patsP]at h
  cases hq:patP p x f.type vs with
  |error e=>rw[hq]at h;cases h
  |ok us=>
   rw[hq]at h;obtain⟨h1,h2,h3⟩:=pat_low ok hc x f.type vs us hV (hF f List.mem_cons_self) hq;obtain⟨c,g,s⟩:=Qin ok hc xs fs us vs' h1 (fun z a=>hF z (List.mem_cons_of_mem _ a)) h;refine⟨c,Qjt ok c h2 g,fun j z q a b i=>?_⟩
   cases j with
   |zero=>
    simp only[List.getElem?_cons_zero,Option.some.injEq]at a b;subst a b;obtain⟨own,o,l⟩:=h3 i;obtain⟨k,d,m⟩:=g _ own o;exact⟨k,d,Qgh ok (c _ k d) m l⟩
   |succ j=>exact s j z q (by simpa using a) (by simpa using b) i
end
def LtB(p:Pg)(vs:List Fld)(y:Lt):Prop:=y.kind=1 -> ∀(j:Nat) (x:Ex) (f:Fld),y.atom.args[j]?=some x->(colsP p y.atom)[j]?=some f->x.kind=1 -> ∃own,typV vs x.txt=some own/\belowP p own f.type=true
theorem LtB.low{p:Pg}(ok:OkT p){vs vs':List Fld}{y:Lt}(hV:VT p vs')(h:LtB p vs y)(hl:LowV p vs vs'):LtB p vs' y:=fun l j x f m k c=>by
 obtain⟨own,i,d⟩:=h l j x f m k c;obtain⟨b,a,g⟩:=hl _ own i;exact⟨b,a,Qgh ok (hV _ b a) g d⟩
theorem val_nm{p:Pg}(hc:CtT p){vs:List Fld}(hV:VT p vs):∀(x:Ex) (t:Txt),valP p vs x = .ok t->NmT p t
 | .mk k n s ks a,t,h=>by
  rw[valP]at h;split at h
  ·
   split at h
   ·rename_i o ho;cases h;exact hV s t ho
   ·cases h
  split at h
  ·cases h
  split at h
  ·cases h;unfold NmT;rw[Qjv];decide
  split at h
  ·cases h;unfold NmT;rw[Qmr];decide
  split at h
  ·
   split at h
   ·cases h
   split at h
   ·cases h;unfold NmT;rw[Qjv];decide
   ·cases h
  split at h
  ·
   split at h
   ·cases h
   rename_i d sum hd;split at h
   ·cases h
   split at h
   ·cases h;exact(hc s d t hd).2
   ·cases h
  ·cases h
theorem Qpw{p:Pg}(ok:OkT p)(hc:CtT p){vs vs':List Fld}{s:Txt}{x:Ex}(hV:VT p vs)(h:givP p vs s x = .ok vs'):VT p vs'/\LowV p vs vs':=by
 unfold givP at h
 cases c:valP p vs x with
 |error e=>rw[c]at h;cases h
 |ok t=>
  rw[c]at h;cases h
  have g:=val_nm hc hV x t c;refine⟨fun a own e=>?_,fun a own e=>?_⟩
  ·
   rw[Qdp]at e
   cases b:typV vs a with
   |some o=>rw[b]at e;cases e;exact hV a own b
   |none=>
    rw[b]at e;by_cases d:s=a
    ·rw[if_pos d]at e;cases e;exact g
    ·rw[if_neg d]at e;cases e
  obtain⟨_,_,f,_⟩:=Qer ok (hV a own e);exact⟨own,by rw[Qdp,e];rfl,f⟩
theorem lit_low{p:Pg}(ok:OkT p)(hc:CtT p){y:Lt}{vs vs':List Fld}(hD:FT p (colsP p y.atom))(hV:VT p vs)(h:litP2 p y vs = .ok vs'):VT p vs'/\LowV p vs vs'/\LtB p vs' y:=by
 unfold litP2 at h;split at h
 ·
  obtain⟨a,b,d⟩:=Qin ok hc _ _ vs vs' hV hD h;exact⟨a,b,fun _=>d⟩
 rename_i c;split at h
 ·
  split at h
  ·cases h;exact⟨hV,Qdc ok hV,fun e=>absurd e c⟩
  ·cases h
 split at h
 ·
  rw[Qia]at h;split at h
  ·cases h
  split at h
  ·
   obtain⟨a,b⟩:=Qpw ok hc hV h;exact⟨a,b,fun e=>absurd e c⟩
  split at h
  ·
   obtain⟨a,b⟩:=Qpw ok hc hV h;exact⟨a,b,fun e=>absurd e c⟩
  split at h
  ·cases h
  split at h
  ·cases h
  split at h
  ·cases h
  ·cases h;exact⟨hV,Qdc ok hV,fun e=>absurd e c⟩
 ·cases h
theorem Qmn{p:Pg}(ok:OkT p)(hc:CtT p):∀(ys:List Lt) (vs vs':List Fld),(∀y∈ys,FT p (colsP p y.atom))->VT p vs->litsP p ys vs = .ok vs'->VT p vs'/\LowV p vs vs' /\ ∀y∈ys,LtB p vs' y
 | [],vs,vs',_,hV,h=>by
  cases h
  exact⟨hV,Qdc ok hV,fun y hy=>by cases hy⟩
 |y :: ys,vs,vs',hD,hV,h=>by
  rw[litsP]at h
  cases hq:litP2 p y vs with
  |error e=>rw[hq]at h;cases h
  |ok us=>
   rw[hq]at h;obtain⟨h1,h2,h3⟩:=lit_low ok hc (hD y List.mem_cons_self) hV hq;obtain⟨b,c,d⟩:=Qmn ok hc ys us vs' (fun z a=>hD z (List.mem_cons_of_mem _ a)) h1 h;refine⟨b,Qjt ok b h2 c,fun z a=>?_⟩;rcases List.mem_cons.1 a with rfl|a
   ·exact h3.low ok b c
   ·exact d z a
theorem Qns{p:Pg}(ok:OkT p)(hc:CtT p)(hD:∀a:Atm,FT p (colsP p a)){x:Cls}{vs:List Fld}(h:infP p x = .ok vs):∀y∈x.body,LtB p vs y:=by
 unfold infP at h;split at h
 ·cases h
 split at h
 ·cases h
 cases b:litsP p x.body [] with
 |error e=>rw[b]at h;cases h
 |ok us=>
  rw[b]at h;have:us=vs:=by
   cases c:fitsP p us x.head.args (colsP p x.head) with
   |error e=>simp only[c]at h;cases h
   |ok u=>simp only[c]at h;cases h;rfl
  subst this;exact(Qmn ok hc x.body [] us (fun y _=>hD y.atom) (fun s own e=>by simp[typV]at e) b).2.2
theorem Qnd:∀{vs:List Fld} {v:Fld},(vs.map (·.name)).Nodup->v∈vs->typV vs v.name=some v.type
 | [],v,_,h=>by cases h
 |u :: vs,v,hn,h=>by
  rw[List.map_cons,List.nodup_cons]at hn;unfold typV;rw[List.find?_cons];rcases List.mem_cons.1 h with rfl|h
  ·simp
  have hne:¬u.name=v.name:=fun e=>hn.1 (e▸List.mem_map_of_mem h);simp only[decide_eq_false hne];exact Qnd hn.2 h
theorem Qms{p:Pg}{fs:List Fld}(h:noneP p fs=false):FT p fs:=fun f a=>by
 unfold noneP at h;have:=List.any_eq_false.1 h f a
 simpa[NmT] using this
theorem Qng(p:Pg):∀(ds:List Dcl) (o:Nat),(wDeclP p (ds.zipIdx o)).1=0 -> ∀d∈ds,FT p d.cols
 | [],o,_,d,h=>by cases h
 |x :: ds,o,hw,d,h=>by
  rw[List.zipIdx_cons]at hw;unfold wDeclP at hw;split at hw
  ·exact absurd hw (by show(11:Int)≠0;decide)
  split at hw
  ·exact absurd hw (by show(6:Int)≠0;decide)
  rename_i h2;rcases List.mem_cons.1 h with rfl|h
  ·exact Qms (by simpa using h2)
  ·exact Qng p ds (o+1) hw d h
theorem Qni(p:Pg):∀(ts:List Typ) (o:Nat),(wTypeP p (ts.zipIdx o)).1=0 -> ∀t∈ts,∀d∈t.ctors,FT p d.fields
 | [],o,_,t,h=>by cases h
 |x :: ts,o,hw,t,h=>by
  rw[List.zipIdx_cons]at hw;unfold wTypeP at hw;split at hw
  ·exact absurd hw (by show(6:Int)≠0;decide)
  split at hw
  ·exact absurd hw (by show(12:Int)≠0;decide)
  rename_i h1 h2;rcases List.mem_cons.1 h with rfl|h
  ·
   intro d hd;refine Qms ?_
   cases hn:noneP p d.fields with
   |false=>rfl
   |true=>exact absurd (Or.inr (List.any_eq_true.2 ⟨d,hd,hn⟩)) h1
  ·exact Qni p ts (o+1) hw t h
theorem Qpe{p:Pg}(h:(ckF p 0).1=0):OkT p/\CtT p /\ ∀a:Atm,FT p (colsP p a):=by
 have ok:=okT_of h;obtain⟨v,o,t,_⟩:=Qpf h;refine⟨ok,fun s d sum b=>?_,fun a=>?_⟩
 ·
  unfold ctorP2 at b
  cases g:asc (ctRow p.types) s with
  |none=>rw[g]at b;cases b
  |some q=>
   rw[g]at b;obtain⟨ty,ct,j,k,_⟩:=Quk g;have l:(p.types[q.1]?).bind (fun ty=>(ty.ctors[q.2]?).map fun c=>(c,ty.name))=some (d,sum):=b;rw[j]at l;have m:(ty.ctors[q.2]?).map (fun c=>(c,ty.name))=some (d,sum):=l;rw[k]at m;cases m
   refine⟨Qni p p.types 0 o ty (List.mem_of_getElem? j) _ (List.mem_of_getElem? k),?_⟩;unfold NmT;rw[ok.nm _ ty j];omega
 unfold colsP
 cases b:declP2 p a.rel with
 |none=>exact fun f u=>by cases u
 |some d=>
  unfold declP2 at b
  cases g:asc (dcRow p.decls) a.rel with
  |none=>rw[g]at b;cases b
  |some i=>
   rw[g]at b;exact Qng p p.decls 0 t d (List.mem_of_getElem? (show p.decls[i]?=some d from b))
def NdV(vs:List Fld):Prop:=(vs.map (·.name)).Nodup
theorem typV_no{vs:List Fld}{s:Txt}(h:typV vs s=none):s∉vs.map (·.name):=fun a=>by
 obtain⟨v,b,e⟩:=List.mem_map.1 a;unfold typV at h;rw[Option.map_eq_none_iff,List.find?_eq_none]at h;exact h v b (by simp[e])
theorem Qli{vs:List Fld}{s t:Txt}(h:NdV vs)(hn:typV vs s=none):NdV (vs++[⟨s,t⟩]):=by
 unfold NdV at *;rw[List.map_append,List.nodup_append];refine⟨h,by simp,fun a d b c e=>?_⟩;simp only[List.map_cons,List.map_nil,List.mem_singleton]at c;subst e;subst c;exact typV_no hn d
theorem nd_put{vs:List Fld}{s t:Txt}(h:NdV vs):NdV (putT vs s t):=by
 unfold NdV putT at *;rw[List.map_map];have:((fun x:Fld=>x.name) ∘ fun v=>if v.name=s then ⟨v.name,t⟩ else v)=fun x:Fld=>x.name:=by
  funext v;simp only[Function.comp];split<;>rfl
 rw[this];exact h
theorem nar_nd{p:Pg}{vs vs':List Fld}{x:Ex}{t:Txt}(hn:NdV vs)(h:narP p vs x t = .ok vs'):NdV vs':=by
 unfold narP at h
 cases a:typV vs x.txt with
 |none=>rw[a]at h;cases h;exact Qli hn a
 |some own=>
  rw[a]at h;simp only at h;split at h
  ·cases h;exact hn
  split at h
  ·cases h;exact nd_put hn
  ·cases h
mutual
theorem pat_nd(p:Pg):∀(x:Ex) (t:Txt) (vs vs':List Fld),NdV vs->patP p x t vs = .ok vs'->NdV vs'
 | .mk k n s ks a,t,vs,vs',hn,h=>by
  rw[patP]at h
  repeat' split at h
  all_goals first|exact nar_nd hn h|(cases h;exact hn)|(cases h;done)|exact Qll p ks _ vs vs' hn h
theorem Qll(p:Pg):∀(xs:List Ex) (fs vs vs':List Fld),NdV vs->patsP p xs fs vs = .ok vs'->NdV vs'
 | [],fs,vs,vs',hn,h=>by
  rw[patsP]at h;cases h;exact hn
 |x :: xs,[],vs,vs',hn,h=>by
  rw[patsP]at h;cases h;exact hn
 |x :: xs,f :: fs,vs,vs',hn,h=>by
  rw[patsP]at h
  cases hq:patP p x f.type vs with
  |error e=>rw[hq]at h;cases h
  |ok us=>
   rw[hq]at h;exact Qll p xs fs us vs' (pat_nd p x f.type vs us hn hq) h
end
theorem Qqy{vs:List Fld}{x:Ex}(h:openP vs x=true):typV vs x.txt=none:=by
 unfold openP at h;rw[Bool.and_eq_true]at h;exact Option.isNone_iff_eq_none.1 h.2
theorem lit_nd{p:Pg}{y:Lt}{vs vs':List Fld}(hn:NdV vs)(h:litP2 p y vs = .ok vs'):NdV vs':=by
 unfold litP2 at h;split at h
 ·exact Qll p _ _ _ _ hn h
 split at h
 ·
  split at h
  ·cases h;exact hn
  ·cases h
 split at h
 ·
  unfold cmpP at h;split at h
  ·cases h
  split at h
  next ho=>
   split at h
   ·cases h
   ·cases h;exact Qli hn (Qqy ho.2)
  split at h
  next ho=>
   split at h
   ·cases h
   ·cases h;exact Qli hn (Qqy ho.2)
  repeat' split at h
  all_goals first|(cases h;exact hn)|(cases h;done)
 ·cases h
theorem Qqi{p:Pg}:∀{ys:List Lt} {vs vs':List Fld},NdV vs->litsP p ys vs = .ok vs'->NdV vs'
 | [],vs,vs',hn,h=>by rw[litsP]at h;cases h;exact hn
 |y :: ys,vs,vs',hn,h=>by
  rw[litsP]at h
  cases hq:litP2 p y vs with
  |error e=>rw[hq]at h;cases h
  |ok us=>rw[hq]at h;exact Qqi (lit_nd hn hq) h
theorem inf_nd{p:Pg}{x:Cls}{vs:List Fld}(h:infP p x = .ok vs):NdV vs:=by
 unfold infP at h;split at h
 ·cases h
 split at h
 ·cases h
 cases a:litsP p x.body [] with
 |error e=>rw[a]at h;cases h
 |ok us=>
  rw[a]at h;have:us=vs:=by
   cases b:fitsP p us x.head.args (colsP p x.head) with
   |error e=>simp only[b]at h;cases h
   |ok u=>simp only[b]at h;cases h;rfl
  subst this;exact Qqi (show NdV [] from List.nodup_nil) a
theorem Qpi(t:Txt):∀(ds:List Dcl) (o:Nat) (pre:List Dcl),o=pre.length->(asc ((ds.zipIdx o).map fun q=>(q.1.name,q.2)) t).bind (fun i=>(pre++ds)[i]?)=ds.find? fun d=>decide (d.name=t)
 | [],_,_,_=>rfl
 |d :: ds,o,pre,ho=>by
  rw[List.zipIdx_cons,List.map_cons,List.find?_cons];have e:asc ((d.name,o) :: (ds.zipIdx (o+1)).map fun q=>(q.1.name,q.2)) t=if d.name=t then some o else asc ((ds.zipIdx (o+1)).map fun q=>(q.1.name,q.2)) t:=by
   unfold asc;rw[List.find?_cons];by_cases h:d.name=t<;>simp[h]
  rw[e];by_cases h:d.name=t
  ·
   rw[if_pos h,decide_eq_true h,ho];simp
  rw[if_neg h,decide_eq_false h];have:=Qpi t ds (o+1) (pre++[d]) (by simp[ho]);rw[List.append_assoc]at this;exact this
theorem Qph(p:Pg)(t:Txt):declP2 p t=p.decls.find? fun d=>decide (d.name=t):=Qpi t p.decls 0 [] rfl
theorem Qnl{q:Pg}(hok:(ckF q 0).1=0){c:Cls}{vs:List Fld}(h:infP q c = .ok vs){y:Lt}(hy:y∈c.body)(hk:y.kind=1){d:Dcl}(hd:declP2 q y.atom.rel=some d){j:Nat}{x:Ex}{f v:Fld}(hx:y.atom.args[j]?=some x)(hf:d.cols[j]?=some f)(hv:v∈vs)(h1:x.kind=1)(h2:x.txt=v.name):belowP q v.type f.type=true:=by
 obtain⟨ok,g,a⟩:=Qpe hok;obtain⟨own,e,b⟩:=Qns ok g a h y hy hk j x f hx (by unfold colsP;rw[hd];exact hf) h1;rw[h2,Qnd (inf_nd h) hv]at e;cases e
 exact b
def Agr(n:Nat)(l l':List Tok):Prop:=n<=l.length/\n<=l'.length/\l.take n=l'.take n
theorem Agr.zero(l l':List Tok):Agr 0 l l':=⟨Nat.zero_le _,Nat.zero_le _,by simp⟩
theorem Agr.drop{n c:Nat}{l l':List Tok}(h:Agr n l l')(hc:c<=n):Agr (n - c) (l.drop c) (l'.drop c):=by
 obtain⟨b,d,a⟩:=h;refine⟨by rw[List.length_drop];omega,by rw[List.length_drop];omega,?_⟩;have e:∀x:List Tok,(x.drop c).take (n - c)=(x.take n).drop c:=fun x=>by rw[List.drop_take]
 rw[e,e,a]
theorem Agr.ahd{n k e e':Nat}{l l':List Tok}(h:Agr n l l')(hk:k<n):ahd e k l=ahd e' k l':=by
 obtain⟨g,i,f⟩:=h;have b:l[k]?=(l.take n)[k]?:=by rw[List.getElem?_take,if_pos hk]
 have c:l'[k]?=(l'.take n)[k]?:=by rw[List.getElem?_take,if_pos hk]
 have a:k<l.length:=by omega
 have d:l'[k]?=some l[k]:=by rw[c,<- f,<- b,List.getElem?_eq_getElem a]
 unfold Go.Proofs.YtmfpbepifnedjaaGreat.ahd;rw[List.getD_eq_getElem?_getD,List.getD_eq_getElem?_getD,d,List.getElem?_eq_getElem a];rfl
section
variable {α β : Type}{e e':Nat}

def LocR(e:Nat)(R R':Rs α)(l l':List Tok)(n:Nat):Prop:=match R with
 | .ok x r i=>∃c,r=l.drop c/\(c+2<=n->R' = .ok x (l'.drop c) i)
 | .bad w a r=>∃c,r=l.drop c/\a=((ahd e 0 r).at_:Int)/\(c+2<=n->R' = .bad w a (l'.drop c))
def Loc(e:Nat)(P P':Pr α):Prop:=∀l l' it n,Agr n l l'->LocR e (P l it) (P' l' it) l l' n
theorem LocR.congr{R R' R2:Rs α}{l l':List Tok}{n:Nat}(h:LocR e R R' l l' n)(hq:2<=n->R'=R2):LocR e R R2 l l' n:=by
 cases R with
 |bad w a r=>
  obtain⟨c,b,g,d⟩:=h;exact⟨c,b,g,fun f=>(hq (by omega)).symm.trans (d f)⟩
 |ok x r i=>
  obtain⟨c,b,d⟩:=h;exact⟨c,b,fun f=>(hq (by omega)).symm.trans (d f)⟩
theorem LocR.refuse{why:Int}{l l':List Tok}{it n:Nat}(h:Agr n l l'):LocR e (refuse (α :=α) e why l it) (refuse e' why l' it) l l' n:=
 ⟨0,rfl,rfl,fun a=>by show Rs.bad why ((ahd e' 0 l').at_:Int) l'=_;rw[h.ahd (e:=e) (e':=e') (k:=0) (by omega)];rfl⟩
theorem LocR.bind{R R':Rs α}{f f':α -> Pr β}{l l':List Tok}{n:Nat}(h:Agr n l l')(hR:LocR e R R' l l' n)
  (hf:∀x c i m,R = .ok x (l.drop c) i->(n<c/\m=0∨c<=n/\m=n - c)->Agr m (l.drop c) (l'.drop c)->LocR e (f x (l.drop c) i) (f' x (l'.drop c) i) (l.drop c) (l'.drop c) m):
  LocR e (R.bind f) (R'.bind f') l l' n:=by
 cases R with
 |bad w a r=>
  obtain⟨c,v,z,k⟩:=hR;exact⟨c,v,z,fun b=>by rw[k b];rfl⟩
 |ok x r i=>
  obtain⟨c,rfl,k⟩:=hR;show LocR e (f x (l.drop c) i) (R'.bind f') l l' n;have t:∀m,(n<c/\m=0∨c<=n/\m=n - c)->Agr m (l.drop c) (l'.drop c)->LocR e (f x (l.drop c) i) (R'.bind f') l l' n:=fun m B A=>by
   have d:=hf x c i m rfl B A;have o:c+2<=n->R'.bind f'=f' x (l'.drop c) i:=fun b=>by rw[k b];rfl
   generalize f x (l.drop c) i=Q at d;generalize f' x (l'.drop c) i=Q' at d o
   cases Q with
   |bad w a r=>
    obtain⟨g,q,C,s⟩:=d;exact⟨c+g,by rw[q,List.drop_drop],C,fun b=>by rw[o (by omega),s (by omega),List.drop_drop]⟩
   |ok y r j=>
    obtain⟨g,q,s⟩:=d;exact⟨c+g,by rw[q,List.drop_drop],fun b=>by rw[o (by omega),s (by omega),List.drop_drop]⟩
  by_cases u:c<=n
  ·exact t (n - c) (.inr ⟨u,rfl⟩) (h.drop u)
  ·exact t 0 (.inl ⟨by omega,rfl⟩) (Agr.zero _ _)
theorem LocR.map{R R':Rs α}{l l':List Tok}{n:Nat}(g:α -> β)(h:LocR e R R' l l' n):LocR e (R.map g) (R'.map g) l l' n:=by
 cases R with
 |bad w a r=>
  obtain⟨c,d,j,f⟩:=h;exact⟨c,d,j,fun b=>by rw[f b];rfl⟩
 |ok x r i=>
  obtain⟨c,d,f⟩:=h;exact⟨c,d,fun b=>by rw[f b];rfl⟩
theorem Loc.bind{P P':Pr α}{f f':α -> Pr β}(hP:Loc e P P')(hf:∀x,Loc e (f x) (f' x)):Loc e (fun l i=>(P l i).bind f) (fun l i=>(P' l i).bind f'):=fun l c b n h=>LocR.bind h (hP l c b n h) (fun x _ i _ _ _ a=>hf x _ _ i _ a)
theorem Loc.map{P P':Pr α}(g:α -> β)(hP:Loc e P P'):Loc e (fun l i=>(P l i).map g) (fun l i=>(P' l i).map g):=fun l b a n h=>(hP l b a n h).map g

theorem Loc.tok{Q Q':Tok->Pr α}(h:∀t,Loc e (Q t) (Q' t)):Loc e (fun l i=>Q (ahd e 0 l) l i) (fun l i=>Q' (ahd e' 0 l) l i):=fun l c b n a=>
 (h (ahd e 0 l) l c b n a).congr (fun d=>by rw[a.ahd (e:=e) (e':=e') (k:=0) (by omega)])
def sgT(t:Tok):Txt:=if t.kind=4 then t.text else []
theorem Agr.sgn{n:Nat}{l l':List Tok}(h:Agr n l l')(hn:1<=n):sgn e l=Go.Proofs.YtmfpbepifnedjaaGreat.sgn e' l':=by
 unfold Go.Proofs.YtmfpbepifnedjaaGreat.sgn;rw[h.ahd (e:=e) (e':=e') (k:=0) (by omega)]
theorem LocR.next{p:Prop}{p':Prop}[Decidable p][Decidable p']{A A' B B':Rs α}{l l':List Tok}{n:Nat}(hp:2<=n->(p↔p'))(hA:p->LocR e A A' l l' n)(hB:¬p->LocR e B B' l l' n):LocR e (if p then A else B) (if p' then A' else B') l l' n:=by
 by_cases h:p
 ·
  rw[if_pos h];exact(hA h).congr (fun a=>by rw[if_pos ((hp a).1 h)])
 rw[if_neg h];exact(hB h).congr (fun a=>by rw[if_neg (fun b=>h ((hp a).2 b))])
def cnT(t u:Tok):Bool:=decide (t.kind=1)&&decide (u.kind=4)&&decide (u.text=[40])
theorem Agr.callN{n:Nat}{l l':List Tok}(h:Agr n l l')(hn:2<=n):callN e l=Go.Proofs.YtmfpbepifnedjaaGreat.callN e' l':=by
 unfold Go.Proofs.YtmfpbepifnedjaaGreat.callN;rw[h.ahd (e:=e) (e':=e') (k:=0) (by omega),h.ahd (e:=e) (e':=e') (k:=1) (by omega)]
end
section
variable {α β : Type}{e e':Nat}{r:List Tok}{n:Nat}
def Many(R:Rs α):Prop:=∃a l,R = .bad 3 a l

def XtR(r:List Tok)(n:Nat)(R R':Rs α):Prop:=∀x l2 i2,R = .ok x l2 i2->R' = .ok x (l2++r) (i2+n)∨Many R'
def Xt(r:List Tok)(n:Nat)(P P':Pr α):Prop:=∀l i,XtR r n (P l i) (P' (l++r) (i+n))

def Fine(r:List Tok):Prop:=r=[] ∨ ∃t q,r=t :: q/\((t.kind=4/\t.text∈hds)∨(t.kind=1/\t.text≠wIn/\t.text≠wOut))
theorem Fine.sgn(hF:Fine r){s:Txt}(h0:s≠[])(hs:s∉hds):Go.Proofs.YtmfpbepifnedjaaGreat.sgn e' r≠s:=by
 rcases hF with rfl|⟨t,q,rfl,⟨b,c⟩|⟨b,_⟩⟩
 ·exact fun h=>h0 h.symm
 ·
  intro h;have a:Go.Proofs.YtmfpbepifnedjaaGreat.sgn e' (t :: q)=t.text:=by show(if t.kind=4 then t.text else [])=t.text;rw[if_pos b]
  rw[a]at h;subst h;exact hs c
 intro h;have a:Go.Proofs.YtmfpbepifnedjaaGreat.sgn e' (t :: q)=[]:=by show(if t.kind=4 then t.text else [])=[];rw[if_neg (by omega)]
 rw[a]at h;exact h0 h.symm
theorem XtR.bind{R R':Rs α}{f f':α -> Pr β}(h:XtR r n R R')(hf:∀x l i,R = .ok x l i->XtR r n (f x l i) (f' x (l++r) (i+n))):XtR r n (R.bind f) (R'.bind f'):=fun x o m k=>by
 obtain⟨a,d,c,b,j⟩:=bind_ok k;rcases h a d c b with g|⟨_,_,g⟩
 ·rw[g];exact hf a d c b x o m j
 ·rw[g];exact .inr ⟨_,_,rfl⟩
theorem XtR.map{R R':Rs α}{g g':α -> β}(h:XtR r n R R')(hg:∀x l i,R = .ok x l i->g x=g' x):XtR r n (R.map g) (R'.map g'):=fun x d c f=>by
 obtain⟨a,b,rfl⟩:=map_ok f;rcases h a d c b with k|⟨_,_,k⟩
 ·rw[k];exact .inl (by rw[hg a d c b];rfl)
 ·rw[k];exact .inr ⟨_,_,rfl⟩
theorem XtR.ok{x:α}{l:List Tok}{i:Nat}:XtR r n (.ok x l i) (.ok x (l++r) (i+n)):=fun y b a h=>by cases h;exact .inl rfl
theorem XtR.bad{w a:Int}{l:List Tok}{R':Rs α}:XtR r n (.bad w a l) R':=fun y c b h=>by cases h
theorem XtR.refuse{why:Int}{l:List Tok}{i:Nat}{R':Rs α}:XtR r n (refuse e why l i) R':=XtR.bad

def XtN(r:List Tok)(n:Nat)(P P':Pr α):Prop:=∀l i,l≠[]->XtR r n (P l i) (P' (l++r) (i+n))
end

def both(p q:Pg):Pg:=.mk (p.types++q.types) (p.decls++q.decls) (p.comps++q.comps) (p.inits++q.inits) (p.clauses++q.clauses)
theorem map_map{α β γ : Type}(R:Rs α)(f:α -> β)(g:β -> γ):(R.map f).map g=R.map (fun x=>g (f x)):=by cases R<;>rfl
section
variable {e:Nat}
end
end
end Go.Proofs.YtmfpbepifnedjaaGreat
