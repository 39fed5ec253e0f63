/- A region that leaves its order open and holds calls and a write. -/
import Derived.Test.YtkhndlnadhggkaaGreatAp01
import Derived.Test.YtkhndlnadhggkaaGreatAp02
import Derived.Sort.QuietIn
import Derived.StillTail
import Derived.StillTailTactics
import Derived.Deep.WholeRow
set_option maxRecDepth 100000
set_option maxHeartbeats 32000000
namespace Go.Proofs.YtkhndlnadhggkaaGreat
section
open Go.RowKit
section
variable {P:Program}{ops:Array Oper}{md:Region.Mode}{Q:Exit->Act->World->Prop}{C:World->Prop}
def wpAnyC(P:Program)(md:Region.Mode)(ops:Array Oper)(C:World->Prop)(Q:Exit->Act->World->Prop):Nat->Array Bool->Act->World->Prop
 | 0,listed,a,w=>C w/\Region.ready md ops listed=[]/\Q .normal a w
 |fuel+1,listed,a,w=>C w/\(Region.ready md ops listed=[]->Q .normal a w) /\ ∀i∈Region.ready md ops listed,wpOp P ops Q i (wpAnyC P md ops C Q fuel (listed.setIfInBounds i true)) a w
theorem wpAnyC.c{f:Nat}{listed:Array Bool}{a:Act}{w:World}(h:wpAnyC P md ops C Q f listed a w):C w:=by
 cases f with
 |zero=>exact h.1
 |succ f=>exact h.1
theorem Qdu:∀(f:Nat) (listed:Array Bool) (a:Act) (w:World),wpAnyC P md ops C Q f listed a w->wpAny P md ops Q f listed a w
 | 0,_,_,_,h=>h.2
 |f+1,_,_,_,h=>⟨h.2.1,fun i hi=>wpOp_mono (fun a w=>Qdu f _ a w) (h.2.2 i hi)⟩
theorem Qmt{j:Nat}{oi oj:Oper}{v:Value}(hj:ops[j]?=some oj)(hap:oi.apart ops oj=true)(hsi:∀cs b,oi.op ≠ .select cs b)(hsj:∀cs b,oj.op ≠ .select cs b)(hL:¬LetsOut Q)(hQ:∀c (a:Act) d v w,Q (.panic c) (a.put d v) w->Q (.panic c) a w)
  {K:Act->World->Prop}{a:Act}{w:World}(hy:∀w,C w->YieldsAt P ops w oi v a)(h:wpOp P ops Q j K (a.put oi.dst v) w):
  wpOp P ops Q j (fun a' w'=>(∀w,C w->YieldsAt P ops w oi v a')/\K (a'.put oi.dst v) w') a w:=by
 obtain⟨q,i,p⟩:=Oper.apart_spec hap;have keep:∀u,∀w,C w->YieldsAt P ops w oi v (a.put oj.dst u):=fun u w hw=>(hy w hw).of_same (execOp_put oi hsi a oj.dst u p) (wanted_put oi a oj.dst u p);unfold wpOp at *;simp only[hj]at *;rw[wanted_put oj a oi.dst v q]at h;split
 ·
  rename_i hw;simp only[hw,if_true]at h;refine .inl ?_;have h:=h.resolve_right fun g=>hL g.2;unfold Oper.wp at *;rw[execOp_put oj hsj a oi.dst v q]at h;generalize (execOp a.eval oj).run P w=r at *
  cases r with
  |ok n w'=>
   cases n with
   |value u=>exact⟨keep u,by rw[<- Act.put_comm a v u i];exact h⟩
   |skip=>exact⟨keep _,by rw[<- Act.put_comm a v undef i];exact h⟩
   |defer d=>exact⟨fun w hw=>(hy w hw).of_same (execOp_put oi hsi { a with defers:=d :: a.defers } oj.dst undef p) (wanted_put oi { a with defers:=d :: a.defers } oj.dst undef p),by
    rw[<- Act.put_comm { a with defers:=d :: a.defers } v undef i,show({ a with defers:=d :: a.defers }:Act).put oi.dst v = { a.put oi.dst v with defers:=d :: (a.put oi.dst v).defers } by cases oi.dst<;>rfl]
    exact h⟩
   |enter f args=>
    refine Calls.mono (P:=P) h ?_;intro e s l
    cases e with
    |returned u=>exact⟨keep u,by rw[<- Act.put_comm a v u i];exact l⟩
    |panicked c=>exact hQ _ _ _ _ _ l
    |outgrown=>first|exact l|exact(hL l).elim|exact l.elim
   |row r args=>
    intro c cs;obtain⟨u,s,t,y⟩:=h c cs;exact⟨u,s,⟨keep u,by rw[<- Act.put_comm a v u i];exact t⟩,y⟩
   |_=>exact h.elim
  |halt x w'=>
   cases x with
   |panic u=>exact hQ _ _ _ _ _ h
   |_=>exact h.elim
 rename_i hw;simp only[hw]at h;exact⟨keep _,by rw[<- Act.put_comm a v undef i];exact h⟩
theorem Qbs{i:Nat}{oi:Oper}{v:Value}(hi:ops[i]?=some oi)(hsel:∀(j:Nat) (o:Oper) cs b,ops[j]?=some o->o.op ≠ .select cs b)(hL:¬LetsOut Q)(hQ:∀c (a:Act) d v w,Q (.panic c) (a.put d v) w->Q (.panic c) a w):
  ∀(f:Nat) (listed:Array Bool) (a:Act) (w:World),
   (∀j oj,ops[j]?=some oj->j≠i->listed.getD j true=false->(∀e∈oj.after,Region.binds md e=true->e.on≠i)->oi.apart ops oj=true) ->
   i∈Region.ready md ops listed->(∀w,C w->YieldsAt P ops w oi v a) ->
   wpAnyC P md ops C Q f (listed.setIfInBounds i true) (a.put oi.dst v) w->wpAnyC P md ops C Q (f+1) listed a w:=by
 intro f
 induction f with
 |zero=>
  intro listed a w _ n t H;refine⟨H.c,fun h=>(by rw[h]at n;cases n),fun j s=>?_⟩;by_cases g:j=i
  ·subst g;exact wpOp_of_stOp (K:=fun l=>l=a.put oi.dst v) (fun l e=>e▸H) ((t w H.c).stOp hi rfl)
  have:=ready_mono s g;rw[H.2.1]at this;cases this
 |succ f ih=>
  intro listed a w x n t H;have p:=(mem_ready.1 n).1;refine⟨H.c,fun h=>(by rw[h]at n;cases n),fun j s=>?_⟩;by_cases g:j=i
  ·subst g;exact wpOp_of_stOp (K:=fun l=>l=a.put oi.dst v) (fun l e=>e▸H) ((t w H.c).stOp hi rfl)
  have q:=H.2.2 j (ready_mono s g);obtain⟨y,oj,u,D⟩:=mem_ready.1 s;have E:∀e∈oj.after,Region.binds md e=true->e.on≠i:=fun e L J heq=>by
   have q:=D e L J;rw[heq,getD_both p]at q;cases q
  have I:=Qmt u (x j oj u g y E) (fun cs b=>hsel i oi cs b hi) (fun cs b=>hsel j oj cs b u) hL hQ t q;have B:∀k ok,ops[k]?=some ok->k≠i->(listed.setIfInBounds j true).getD k true=false ->
    (∀e∈ok.after,Region.binds md e=true->e.on≠i)->oi.apart ops ok=true:=fun k ok M F p G=>by
   refine x k ok M F ?_ G;by_cases z:j=k
   ·subst z;exact y
   ·rw[getD_set_ne true z]at p;exact p
  refine wpOp_mono (fun l N A=>ih (listed.setIfInBounds j true) l N B (ready_mono n (Ne.symm g)) A.1 ?_) I;rw[Array.setIfInBounds_comm _ _ g];exact A.2
def orderB(md:Region.Mode)(ops:Array Oper):List (Nat×Bool)->Array Bool->Bool
 | [],listed=>(Region.ready md ops listed).isEmpty
 |(k,true) :: r,listed=>(Region.ready md ops listed).contains k&&Region.free md ops listed k&&orderB md ops r (listed.setIfInBounds k true)
 |(k,false) :: r,listed=>decide (Region.ready md ops listed=[k])&&orderB md ops r (listed.setIfInBounds k true)
def wpMix(P:Program)(ops:Array Oper)(C:World->Prop)(Q:Exit->Act->World->Prop):List (Nat×Bool)->Act->World->Prop
 | [],a,w=>C w/\Q .normal a w
 |(k,true) :: r,a,w=>∃o v,ops[k]?=some o/\(∀w,C w->YieldsAt P ops w o v a)/\wpMix P ops C Q r (a.put o.dst v) w
 |(k,false) :: r,a,w=>C w/\wpOp P ops Q k (fun a' w'=>wpMix P ops C Q r a' w') a w
theorem Qex(hsel:Region.noSelect ops=true)(hL:¬LetsOut Q)(hQ:∀c (a:Act) d v w,Q (.panic c) (a.put d v) w->Q (.panic c) a w):∀(l:List (Nat×Bool)) (listed:Array Bool) (a:Act) (w:World),orderB md ops l listed=true->wpMix P ops C Q l a w->wpAnyC P md ops C Q l.length listed a w
 | [],listed,a,w,hB,h=>⟨h.1,by simpa[orderB] using hB,h.2⟩
 |(k,true) :: r,listed,a,w,hB,h=>by
  simp only[orderB,Bool.and_eq_true]at hB;obtain⟨⟨hr,hf⟩,hB'⟩:=hB;obtain⟨o,v,g,n,b⟩:=h;exact Qbs g (Region.noSelect_spec hsel) hL hQ r.length listed a w (Region.free_spec g hf) (by simpa using hr) n (Qex hsel hL hQ r _ _ _ hB' b)
 |(k,false) :: r,listed,a,w,hB,h=>by
  simp only[orderB,Bool.and_eq_true,decide_eq_true_eq]at hB;refine⟨h.1,fun e=>(by rw[hB.1]at e;cases e),fun i f=>?_⟩;rw[hB.1]at f;have e:i=k:=by simpa using f
  subst e;exact wpOp_mono (fun j p b=>Qex hsel hL hQ r _ j p hB.2 b) h.2
theorem Qnl{id:Nat}{a:Act}{w:World}(l:List (Nat×Bool))(hm:P.follows .mixedOrders=true)(hsel:Region.noSelect ops=true)(hL:¬LetsOut Q)(hQ:∀c (a:Act) d v w,Q (.panic c) (a.put d v) w->Q (.panic c) a w)(hlen:l.length=ops.size)(hB:orderB .any ops l (Array.replicate ops.size false)=true)
  (h:wpMix P ops C Q l a { w with drawn:=w.drawn+1 }):(Code.region id ops true).wp P Q a w:=by
 refine wp_region_any hm ?_;have:=Qdu _ _ _ _ (Qex (md:=.any) hsel hL hQ l _ a _ hB h);rw[hlen]at this;exact this
end
section
variable {P:Program}{ops:Array Oper}{Q:Exit->Act->World->Prop}{C:World->Prop}{r:List (Nat×Bool)}{a:Act}{w:World}{k:Nat}{o:Oper}
theorem Qac{v:Value}(ho:ops[k]?=some o)(hw:Region.wanted o (yielded ops a.tmps)=true)(hy:∀w',C w'->(execOp a.eval o).run P w' = .ok (.value v) w')
  (h:wpMix P ops C Q r (a.put o.dst v) w):wpMix P ops C Q ((k,true) :: r) a w:=⟨o,v,ho,fun w' b=>.inl ⟨hw,.inl (hy w' b)⟩,h⟩
theorem mT{v:Value}(hy:∀w',C w'->(execOp a.eval o).run P w' = .ok (.value v) w')(h:wpMix P ops C Q r (a.put o.dst v) w)(ho:ops[k]?=some o:=by rfl)(hw:Region.wanted o (yielded ops a.tmps)=true:=by kernel_rfl):wpMix P ops C Q ((k,true) :: r) a w:=Qac ho hw hy h
theorem Qdv(ho:ops[k]?=some o)(hw:Region.wanted o (yielded ops a.tmps)=false)(h:wpMix P ops C Q r (a.put o.dst undef) w):wpMix P ops C Q ((k,true) :: r) a w:=⟨o,undef,ho,fun _ _=>.inr ⟨hw,rfl⟩,h⟩
theorem Qak(ho:ops[k]?=some o)(hC:C w)(h:∀K':Act->World->Prop,(∀a w,wpMix P ops C Q r a w->K' a w)->if Region.wanted o (yielded ops a.tmps)=true then Oper.wp P o a w K' Q else K' (a.put o.dst undef) w):wpMix P ops C Q ((k,false) :: r) a w:=⟨hC,wpOp_step ho h⟩
theorem Qbc(hC:C w)(h:Q .normal a w):wpMix P ops C Q [] a w:=⟨hC,h⟩
def onlyN(PP:Act->World->Prop):Exit->Act->World->Prop
 | .normal,a,w=>PP a w
 |_,_,_=>False
theorem Qaz{id:Nat}{md:List (Nat×Bool)}(C:World->Prop)(hm:P.follows .mixedOrders=true)(hsel:Region.noSelect ops=true)(hlen:md.length=ops.size)(hB:orderB .any ops md (Array.replicate ops.size false)=true)
  (h:∀PP:Act->World->Prop,(∀a' w',Q .normal a' w'->PP a' w')->wpMix P ops C (onlyN PP) md a w.drew):(Code.region id ops true).wp P Q a w:=by
 refine wp_mono (Qnl (C:=C) md hm hsel ?_ ?_ hlen hB (h (Q .normal) (fun _ _ h=>h))) ?_
 ·rintro⟨_,_,h⟩;exact h
 ·exact fun _ _ _ _ _ h=>h
 intro e a w h;cases e
 case normal=>exact h
 all_goals exact h.elim
theorem Qij{l:List (Nat×Bool)}{b:Act}(e:a=b)(h:wpMix P ops C Q l b w):wpMix P ops C Q l a w:=e▸h
end
section
variable {P:Program}{ops:Array Oper}{md:Region.Mode}{Q:Exit->Act->World->Prop}{C:Bool->World->Prop}{m:Nat}
def wpAnyF(P:Program)(md:Region.Mode)(ops:Array Oper)(m:Nat)(C:Bool->World->Prop)(Q:Exit->Act->World->Prop):Nat->Array Bool->Act->World->Prop
 | 0,listed,a,w=>C (listed.getD m true) w/\Region.ready md ops listed=[]/\Q .normal a w
 |fuel+1,listed,a,w=>C (listed.getD m true) w/\(Region.ready md ops listed=[]->Q .normal a w) /\ ∀i∈Region.ready md ops listed,wpOp P ops Q i (wpAnyF P md ops m C Q fuel (listed.setIfInBounds i true)) a w
theorem wpAnyF.c{f:Nat}{listed:Array Bool}{a:Act}{w:World}(h:wpAnyF P md ops m C Q f listed a w):C (listed.getD m true) w:=by
 cases f with
 |zero=>exact h.1
 |succ f=>exact h.1
theorem Qhj:∀(f:Nat) (listed:Array Bool) (a:Act) (w:World),wpAnyF P md ops m C Q f listed a w->wpAny P md ops Q f listed a w
 | 0,_,_,_,h=>h.2
 |f+1,_,_,_,h=>⟨h.2.1,fun i hi=>wpOp_mono (fun a w=>Qhj f _ a w) (h.2.2 i hi)⟩
theorem Qey{D:World->Prop}{G:Array Bool->Prop}{i:Nat}{oi:Oper}{v:Value}(hi:ops[i]?=some oi)(him:m≠i)(hsel:∀(j:Nat) (o:Oper) cs b,ops[j]?=some o->o.op ≠ .select cs b)(hL:¬LetsOut Q)(hQ:∀c (a:Act) d v w,Q (.panic c) (a.put d v) w->Q (.panic c) a w)
  (hCD:∀listed w,G listed->C (listed.getD m true) w->D w)(hG:∀listed j,G listed->listed.getD i true=false->j≠i->j∈Region.ready md ops listed->G (listed.setIfInBounds j true)):
  ∀(f:Nat) (listed:Array Bool) (a:Act) (w:World),G listed ->
   (∀j oj,ops[j]?=some oj->j≠i->listed.getD j true=false->(∀e∈oj.after,Region.binds md e=true->e.on≠i)->oi.apart ops oj=true) ->
   i∈Region.ready md ops listed->(∀w,D w->YieldsAt P ops w oi v a) ->
   wpAnyF P md ops m C Q f (listed.setIfInBounds i true) (a.put oi.dst v) w->wpAnyF P md ops m C Q (f+1) listed a w:=by
 have z:∀listed:Array Bool,(listed.setIfInBounds i true).getD m true=listed.getD m true:=fun listed=>getD_set_ne true (Ne.symm him);intro f
 induction f with
 |zero=>
  intro listed a w u _ n x H;have q:C (listed.getD m true) w:=z listed▸H.c;refine⟨q,fun h=>(by rw[h]at n;cases n),fun j s=>?_⟩;by_cases g:j=i
  ·subst g;exact wpOp_of_stOp (K:=fun l=>l=a.put oi.dst v) (fun l e=>e▸H) ((x w (hCD _ _ u q)).stOp hi rfl)
  have:=ready_mono s g;rw[H.2.1]at this;cases this
 |succ f ih=>
  intro listed a w u A n x H;have q:C (listed.getD m true) w:=z listed▸H.c;have p:=(mem_ready.1 n).1;refine⟨q,fun h=>(by rw[h]at n;cases n),fun j s=>?_⟩;by_cases g:j=i
  ·subst g;exact wpOp_of_stOp (K:=fun l=>l=a.put oi.dst v) (fun l e=>e▸H) ((x w (hCD _ _ u q)).stOp hi rfl)
  have t:=H.2.2 j (ready_mono s g);obtain⟨B,oj,y,J⟩:=mem_ready.1 s;have L:∀e∈oj.after,Region.binds md e=true->e.on≠i:=fun e S R heq=>by
   have t:=J e S R;rw[heq,getD_both p]at t;cases t
  have O:=Qmt (C:=D) y (A j oj y g B L) (fun cs b=>hsel i oi cs b hi) (fun cs b=>hsel j oj cs b y) hL hQ x t;have I:∀k ok,ops[k]?=some ok->k≠i->(listed.setIfInBounds j true).getD k true=false ->
    (∀e∈ok.after,Region.binds md e=true->e.on≠i)->oi.apart ops ok=true:=fun k ok T M p N=>by
   refine A k ok T M ?_ N;by_cases E:j=k
   ·subst E;exact B
   ·rw[getD_set_ne true E]at p;exact p
  refine wpOp_mono (fun l U F=>ih (listed.setIfInBounds j true) l U (hG listed j u p g s) I (ready_mono n (Ne.symm g)) F.1 ?_) O;rw[Array.setIfInBounds_comm _ _ g];exact F.2
def depB(md:Region.Mode)(ops:Array Oper)(m k:Nat):Bool:=match ops[m]? with
 |some o=>o.after.any fun e=>Region.binds md e&&e.on==k
 |none=>false
def orderF(md:Region.Mode)(ops:Array Oper)(m:Nat):List (Nat×Nat)->Array Bool->Bool
 | [],listed=>(Region.ready md ops listed).isEmpty&&listed.getD m true
 |(k,0) :: r,listed=>decide (Region.ready md ops listed=[k])&&orderF md ops m r (listed.setIfInBounds k true)
 |(k,1) :: r,listed=>((Region.ready md ops listed).contains k&&Region.free md ops listed k&&decide (m≠k))&&orderF md ops m r (listed.setIfInBounds k true)
 |(k,_) :: r,listed=>((Region.ready md ops listed).contains k&&Region.free md ops listed k&&decide (m≠k) && !(listed.getD m true)&&depB md ops m k)&&orderF md ops m r (listed.setIfInBounds k true)
def wpMixF(P:Program)(ops:Array Oper)(m:Nat)(C:Bool->World->Prop)(Q:Exit->Act->World->Prop):Bool->List (Nat×Nat)->Act->World->Prop
 |_,[],a,w=>C true w/\Q .normal a w
 |f,(k,0) :: r,a,w=>C f w/\wpOp P ops Q k (fun a' w'=>wpMixF P ops m C Q (f || k==m) r a' w') a w
 |f,(k,1) :: r,a,w=>∃o v,ops[k]?=some o/\(∀f w,C f w->YieldsAt P ops w o v a)/\wpMixF P ops m C Q f r (a.put o.dst v) w
 |f,(k,_) :: r,a,w=>∃o v,ops[k]?=some o/\(∀w,C false w->YieldsAt P ops w o v a)/\wpMixF P ops m C Q f r (a.put o.dst v) w
theorem Qhv{listed:Array Bool}{k:Nat}(hk:k<listed.size):(listed.setIfInBounds k true).getD m true=(listed.getD m true || k==m):=by
 by_cases h:k=m
 ·
  subst h;simp[hk]
 rw[getD_set_ne true h];simp[h]
theorem Qib{listed:Array Bool}{k:Nat}(h:k∈Region.ready md ops listed):k<listed.size:=by
 have:=(mem_ready.1 h).1;rcases Nat.lt_or_ge k listed.size with b|b
 ·exact b
 ·simp[Array.getElem?_eq_none b]at this
theorem Qdt(hsel:Region.noSelect ops=true)(hL:¬LetsOut Q)(hQ:∀c (a:Act) d v w,Q (.panic c) (a.put d v) w->Q (.panic c) a w):∀(l:List (Nat×Nat)) (f:Bool) (listed:Array Bool) (a:Act) (w:World),listed.getD m true=f->orderF md ops m l listed=true->wpMixF P ops m C Q f l a w->wpAnyF P md ops m C Q l.length listed a w
 | [],f,listed,a,w,hf,hB,h=>by
  simp only[orderF,Bool.and_eq_true]at hB;exact⟨by rw[hB.2];exact h.1,by simpa using hB.1,h.2⟩
 |(k,0) :: r,f,listed,a,w,hf,hB,h=>by
  simp only[orderF,Bool.and_eq_true,decide_eq_true_eq]at hB;refine⟨by rw[hf];exact h.1,fun e=>(by rw[hB.1]at e;cases e),fun i hi=>?_⟩;have hi':=hi;rw[hB.1]at hi;have e:i=k:=by simpa using hi
  subst e;exact wpOp_mono (fun I M p=>Qdt hsel hL hQ r _ _ I M (by rw[Qhv (Qib hi'),hf]) hB.2 p) h.2
 |(k,1) :: r,f,listed,a,w,hf,hB,h=>by
  simp only[orderF,Bool.and_eq_true,decide_eq_true_eq]at hB;obtain⟨⟨⟨z,u⟩,b⟩,t⟩:=hB;obtain⟨o,v,q,A,p⟩:=h;have g:k∈Region.ready md ops listed:=by simpa using z
  refine Qey (D:=fun w=>∃f,C f w) (G:=fun _=>True) q b (Region.noSelect_spec hsel) hL hQ (fun _ _ _ h=>⟨_,h⟩) (fun _ _ _ _ _ _=>trivial) r.length listed a w trivial (Region.free_spec q u) g (fun w ⟨f,hc⟩=>A f w hc) (Qdt hsel hL hQ r f _ _ _ ?_ t p);rw[Qhv (Qib g),hf];simp[Ne.symm b]
 |(k,n+2) :: r,f,listed,a,w,hf,hB,h=>by
  simp only[orderF,Bool.and_eq_true,decide_eq_true_eq,Bool.not_eq_true']at hB;obtain⟨⟨⟨⟨⟨z,u⟩,b⟩,H⟩,s⟩,t⟩:=hB;obtain⟨o,v,q,A,p⟩:=h;have g:k∈Region.ready md ops listed:=by simpa using z
  refine Qey (D:=C false) (G:=fun l=>l.getD m true=false) q b (Region.noSelect_spec hsel) hL hQ (fun l w y h=>y▸h) (fun l j y L N K=>?_) r.length listed a w H (Region.free_spec q u) g A (Qdt hsel hL hQ r f _ _ _ ?_ t p)
  ·
   have E:j≠m:=fun e=>by
    subst e;obtain⟨_,O,F,B⟩:=mem_ready.1 K;unfold depB at s;rw[F]at s;obtain⟨e,J,x⟩:=Array.any_eq_true'.1 s;simp only[Bool.and_eq_true,beq_iff_eq]at x;have:=B e J x.1;rw[x.2,getD_both L]at this;cases this
   rw[getD_set_ne true E];exact y
  rw[Qhv (Qib g),hf];simp[Ne.symm b]
theorem Qae{f:Bool}{k:Nat}{o:Oper}{v:Value}{r:List (Nat×Nat)}{a:Act}{w:World}(ho:ops[k]?=some o)(hw:Region.wanted o (yielded ops a.tmps)=true)(hy:∀f w',C f w'->(execOp a.eval o).run P w' = .ok (.value v) w')
  (h:wpMixF P ops m C Q f r (a.put o.dst v) w):wpMixF P ops m C Q f ((k,1) :: r) a w:=⟨o,v,ho,fun f w' b=>.inl ⟨hw,.inl (hy f w' b)⟩,h⟩
theorem mF{f:Bool}{k:Nat}{o:Oper}{v:Value}{r:List (Nat×Nat)}{a:Act}{w:World}(hy:∀f w',C f w'->(execOp a.eval o).run P w' = .ok (.value v) w')(h:wpMixF P ops m C Q f r (a.put o.dst v) w)(ho:ops[k]?=some o:=by rfl)(hw:Region.wanted o (yielded ops a.tmps)=true:=by kernel_rfl):wpMixF P ops m C Q f ((k,1) :: r) a w:=Qae ho hw hy h
theorem Qay{f:Bool}{k:Nat}{o:Oper}{v:Value}{r:List (Nat×Nat)}{a:Act}{w:World}(ho:ops[k]?=some o)(hw:Region.wanted o (yielded ops a.tmps)=true)(hy:∀w',C false w'->(execOp a.eval o).run P w' = .ok (.value v) w')
  (h:wpMixF P ops m C Q f r (a.put o.dst v) w):wpMixF P ops m C Q f ((k,2) :: r) a w:=⟨o,v,ho,fun w' b=>.inl ⟨hw,.inl (hy w' b)⟩,h⟩
theorem Qab{f:Bool}{k:Nat}{o:Oper}{r:List (Nat×Nat)}{a:Act}{w:World}(ho:ops[k]?=some o)(hC:C f w)(h:∀K':Act->World->Prop,(∀a w,wpMixF P ops m C Q (f || k==m) r a w->K' a w)->if Region.wanted o (yielded ops a.tmps)=true then Oper.wp P o a w K' Q else K' (a.put o.dst undef) w):wpMixF P ops m C Q f ((k,0) :: r) a w:=⟨hC,wpOp_step ho h⟩
theorem Qau{f:Bool}{a:Act}{w:World}(hC:C true w)(h:Q .normal a w):wpMixF P ops m C Q f [] a w:=⟨hC,h⟩
end
def onlyP(PP:Act->World->Prop)(PQ:List PanicEntry->Act->World->Prop):Exit->Act->World->Prop
 | .normal,a,w=>PP a w
 | .panic c,a,w=>PQ c a w
 |_,_,_=>False
theorem Qaq{P:Program}{Q:Exit->Act->World->Prop}{id m:Nat}{a:Act}{w:World}{ops:Array Oper}{ml:List (Nat×Nat)}(C:Bool->World->Prop)(hm:P.follows .mixedOrders=true)(hsel:Region.noSelect ops=true)(hlen:ml.length=ops.size)(hm2:(Array.replicate ops.size false).getD m true=false)(hB:orderF .any ops m ml (Array.replicate ops.size false)=true)
  (h:∀PP:Act->World->Prop,(∀a' w',Q .normal a' w'->PP a' w')->wpMixF P ops m C (onlyN PP) false ml a w.drew):(Code.region id ops true).wp P Q a w:=by
 have f:¬LetsOut (onlyN (Q .normal)):=by rintro⟨_,_,h⟩;exact h
 have g:∀c (a:Act) d v w,onlyN (Q .normal) (.panic c) (a.put d v) w->onlyN (Q .normal) (.panic c) a w:=fun _ _ _ _ _ h=>h;have b:=Qhj _ _ _ _ (Qdt (md:=.any) hsel f g ml false _ a _ hm2 hB (h (Q .normal) (fun _ _ h=>h)));rw[hlen]at b;refine wp_mono (Q:=onlyN (Q .normal)) (wp_region_any hm b) ?_;intro e a w h;cases e
 case normal=>exact h
 all_goals exact h.elim
theorem Qai{P:Program}{ops:Array Oper}{o:Oper}{a:Act}{w:World}{K:Act->World->Prop}{Q:Exit->Act->World->Prop}
  (hg:o.guard=none)(s x:Operand)(t:TypeId)(hop:o.op=Op.call { callee:=Callee.builtin Builtin.append,args:=#[s,x],argTypes:=#[t,t] })
  (v u:Value)(hs:a.eval s=v)(hx:a.eval x=u){v':Value}{w':World}(hr:(Builtin.append_ #[t,t] o.type #[v,u]).run P w = .ok v' w')(hK:K (a.put o.dst v') w'):
  if Region.wanted o (yielded ops a.tmps)=true then Oper.wp P o a w K Q else K (a.put o.dst undef) w:=by
 have hw:Region.wanted o (yielded ops a.tmps)=true:=by simp[Region.wanted,hg]
 rw[if_pos hw];unfold Oper.wp;simp[execOp,hop,resolve,invoke,builtin,hs,hx,hr,Result.andThen];exact hK
end
section
open Go.RowKit Go.Maps
inductive ExS (S:Nat->Prop) (w:World):List Value->Ex->Prop
 |mk (k n:Int) (s:Txt) (kids:List Ex) (a:Int) (ao:Option Addr) (cap:Nat) (css:List (List Value)) (h1:kids.length<=cap) (h2:cap<=maxLen) (h3:css.length=kids.length) (h6:∀(j:Nat) (cs:List Value),css[j]?=some cs->cs.length=5) (h4:∀(j:Nat) (x:Ex) (cs:List Value),kids[j]?=some x->css[j]?=some cs->ExS S w cs x)
   (h5:kids≠[] -> ∃b,ao=some ⟨b,0,none⟩/\S b/\b<w.heap.size /\ ∀j c,css.flatten[j]?=some c->w.cell? ⟨b,j,none⟩=some c):
   ExS S w [.int .i64 k,.int .i64 n,str s,.slice ao kids.length cap,.int .i64 a] (.mk k n s kids a)
theorem Qag:PSok (α :=Ex) (fun S w cs x=>ExS S w cs x) where
 mono:=fun S t w cs x h l=>by
  induction h with
  |mk k n s kids a ao cap css h1 h2 h3 h6 h4 h5 ih=>
   refine .mk k n s kids a ao cap css h1 h2 h3 h6 ih (fun i=>?_);obtain⟨b,f,d,e,g⟩:=h5 i;exact⟨b,f,l b e d,e,g⟩
 same:=fun S w v cs x h u p=>by
  induction h with
  |mk k n s kids a ao cap css h1 h2 h3 h6 h4 h5 ih=>
   refine .mk k n s kids a ao cap css h1 h2 h3 h6 ih (fun i=>?_);obtain⟨b,f,d,e,g⟩:=h5 i;refine⟨b,f,d,by omega,fun j c q=>?_⟩;have:=g j c q;simp only[World.cell?]at this ⊢;rw[p b d e];exact this
abbrev PE:PS Ex:=fun S w cs x=>ExS S w cs x
theorem Qls{S:Nat->Prop}{w:World}{k n a:Int}{s:Txt}{kids:List Ex}{v:Value}(h:LsAt PE 5 S w v kids):ExS S w [Ji k,Ji n,str s,v,Ji a] (.mk k n s kids a):=by
 obtain⟨f,cap,e,rfl,l,p,b,q⟩:=h;refine .mk k n s kids a f cap e l p b.1 (fun j c d=>?_) (fun j x c g i=>(b.2 j x c g i).2) q;have t:j<kids.length:=by rw[<- b.1];exact(List.getElem?_eq_some_iff.1 d).1
 exact(b.2 j _ c (List.getElem?_eq_getElem t) d).1
theorem Qcf(S:Nat->Prop)(w:World)(k n a:Int)(s:Txt):ExS S w [Ji k,Ji n,str s,Jn,Ji a] (.mk k n s [] a):=Qls (LsAt.nil S w)
theorem ExS.cells{S:Nat->Prop}{w:World}{cs:List Value}{x:Ex}(h:ExS S w cs x):∃v,cs=[Ji x.kind,Ji x.num,str x.txt,v,Ji x.at_]/\(∃ao cap,v = .slice ao x.kids.length cap)/\LsAt PE 5 S w v x.kids:=by
 cases h with
 |mk k n s kids a ao cap css h1 h2 h3 h6 h4 h5=>exact⟨_,rfl,⟨ao,cap,rfl⟩,ao,cap,css,rfl,h1,h2,⟨h3,fun j x cs c b=>⟨h6 j cs b,h4 j x cs c b⟩⟩,h5⟩
def VE(S:Nat->Prop)(w:World)(v:Value)(x:Ex):Prop:=∃xv,v = .agg #[.int .i64 x.kind,.int .i64 x.num,str x.txt,xv,.int .i64 x.at_]/\(∃a n c,xv = .slice a n c)/\ExS S w [.int .i64 x.kind,.int .i64 x.num,str x.txt,xv,.int .i64 x.at_] x
abbrev exZ:Obj:=.cells #[.int .i64 0,.int .i64 0,.string ⟨#[]⟩,.slice none 0 0,.int .i64 0] 59
theorem ex5{w:World}{b:Nat}{v0 v1 v2 v3 v4:Value}(h:w.heap[b]?=some (.cells #[v0,v1,v2,v3,v4] 59 (0,0))):
  w.cell? (Ja b 0)=some v0/\w.cell? (Ja b 1)=some v1/\w.cell? (Ja b 2)=some v2/\w.cell? (Ja b 3)=some v3/\w.cell? (Ja b 4)=some v4 /\ ∀o,w.frozen? (Ja b o)=false:=
 ⟨(Qad h 0).trans rfl,(Qad h 1).trans rfl,(Qad h 2).trans rfl,(Qad h 3).trans rfl,(Qad h 4).trans rfl,fun o=>by simp[World.frozen?,h]⟩
def varP(e:Nat):Pr Ex:=fun l i=>
  if (ahd e 0 l).text=[95] then .ok (.mk 4 0 [] [] (ahd e 0 l).at_) (l.drop 1) i
  else (wordQ e l i).map fun w=>.mk 1 0 w [] (ahd e 0 l).at_
def minP(e:Nat)(F:Pr Ex)(at0:Int):Pr Ex:=fun l i=>(F l i).map fun x=>if (ahd e 0 l).kind=2 then .mk 2 (- x.num) [] [] at0 else opE [45] (.mk 2 0 [] [] at0) x
theorem cl3{w:World}{b:Nat}{T:TypeId}{v0 v1 v2:Value}(h:w.heap[b]?=some (.cells #[v0,v1,v2] T (0,0))):
  w.cell? (Ja b 0)=some v0/\w.cell? (Ja b 1)=some v1/\w.cell? (Ja b 2)=some v2 /\ ∀o,w.frozen? (Ja b o)=false:=
 ⟨(Qad h 0).trans rfl,(Qad h 1).trans rfl,(Qad h 2).trans rfl,fun o=>by simp[World.frozen?,h]⟩
abbrev amZ:Obj:=.cells #[.string ⟨#[]⟩,.slice none 0 0,.int .i64 0] 42
def AmS(S:Nat->Prop)(w:World)(cs:List Value)(a:Atm):Prop:=∃xa xn xc,cs=[str a.rel,.slice xa xn xc,.int .i64 a.at_]/\LsAt PE 5 S w (.slice xa xn xc) a.args
def VAm(S:Nat->Prop)(w:World)(v:Value)(a:Atm):Prop:=∃xa xn xc,v = .agg #[str a.rel,.slice xa xn xc,.int .i64 a.at_]/\LsAt PE 5 S w (.slice xa xn xc) a.args
theorem infoF:∃i0:TypeInfo,Tryz.prog.info? 67=some i0/\i0.zero=some (.agg #[Je,Je])/\i0.size=2/\i0.bytes=32:=by
 have h:(Tryz.prog.info? 67).map (fun i=>(i.zero,i.size,i.bytes))=some (some (.agg #[Je,Je]),2,32):=by kernel_rfl
 obtain⟨i0,c,b⟩:=Option.map_eq_some_iff.1 h;simp only[Prod.mk.injEq]at b;exact⟨i0,c,b⟩
theorem infoC:∃i0:TypeInfo,Tryz.prog.info? 97=some i0/\i0.zero=some (.agg #[Je,Jn])/\i0.size=2/\i0.bytes=40:=by
 have h:(Tryz.prog.info? 97).map (fun i=>(i.zero,i.size,i.bytes))=some (some (.agg #[Je,Jn]),2,40):=by kernel_rfl
 obtain⟨i0,c,b⟩:=Option.map_eq_some_iff.1 h;simp only[Prod.mk.injEq]at b;exact⟨i0,c,b⟩
def PF:PS Fld:=fun _ _ cs f=>cs=[str f.name,str f.type]
theorem Qbb:PSok PF where
 mono:=fun _ _ _ _ _ h _=>h
 same:=fun _ _ _ _ _ h _ _=>h
theorem cl2{w:World}{b:Nat}{T:TypeId}{v0 v1:Value}(h:w.heap[b]?=some (.cells #[v0,v1] T (0,0))):
  w.cell? (Ja b 0)=some v0/\w.cell? (Ja b 1)=some v1 /\ ∀o,w.frozen? (Ja b o)=false:=
 ⟨(Qad h 0).trans rfl,(Qad h 1).trans rfl,fun o=>by simp[World.frozen?,h]⟩
abbrev ctZ:Obj:=.cells #[.string ⟨#[]⟩,.slice none 0 0] 97
def PC:PS Ctr:=fun S w cs c=>∃xa xn xc,cs=[str c.name,.slice xa xn xc]/\LsAt PF 2 S w (.slice xa xn xc) c.fields
theorem Qcg:PSok PC where
 mono:=fun _ _ _ _ _ ⟨xa,xn,xc,h1,h2⟩ hS=>⟨xa,xn,xc,h1,h2.mono Qbb hS⟩
 same:=fun _ _ _ _ _ ⟨xa,xn,xc,h1,h2⟩ hs hb=>⟨xa,xn,xc,h1,h2.same Qbb hs hb⟩
abbrev inZ:Obj:=.cells #[.string ⟨#[]⟩,.string ⟨#[]⟩,.int .i64 0] 93
theorem cl4{w:World}{b:Nat}{T:TypeId}{v0 v1 v2 v3:Value}(h:w.heap[b]?=some (.cells #[v0,v1,v2,v3] T (0,0))):
  w.cell? (Ja b 0)=some v0/\w.cell? (Ja b 1)=some v1/\w.cell? (Ja b 2)=some v2/\w.cell? (Ja b 3)=some v3 /\ ∀o,w.frozen? (Ja b o)=false:=
 ⟨(Qad h 0).trans rfl,(Qad h 1).trans rfl,(Qad h 2).trans rfl,(Qad h 3).trans rfl,fun o=>by simp[World.frozen?,h]⟩
abbrev tyZ:Obj:=.cells #[.string ⟨#[]⟩,.string ⟨#[]⟩,.slice none 0 0,.int .i64 0] 54
def VTy(S:Nat->Prop)(w:World)(v:Value)(x:Typ):Prop:=∃xa xn xc,v = .agg #[str x.name,str x.sub,.slice xa xn xc,.int .i64 x.at_]/\LsAt PC 2 S w (.slice xa xn xc) x.ctors
theorem cl5{w:World}{b:Nat}{T:TypeId}{v0 v1 v2 v3 v4:Value}(h:w.heap[b]?=some (.cells #[v0,v1,v2,v3,v4] T (0,0))):
  w.cell? (Ja b 0)=some v0/\w.cell? (Ja b 1)=some v1/\w.cell? (Ja b 2)=some v2/\w.cell? (Ja b 3)=some v3/\w.cell? (Ja b 4)=some v4 /\ ∀o,w.frozen? (Ja b o)=false:=
 ⟨(Qad h 0).trans rfl,(Qad h 1).trans rfl,(Qad h 2).trans rfl,(Qad h 3).trans rfl,(Qad h 4).trans rfl,fun o=>by simp[World.frozen?,h]⟩
abbrev dcZ:Obj:=.cells #[.string ⟨#[]⟩,.slice none 0 0,.bool false,.bool false,.int .i64 0] 63
def VDc(S:Nat->Prop)(w:World)(v:Value)(x:Dcl):Prop:=∃xa xn xc,v = .agg #[str x.name,.slice xa xn xc,.bool x.input,.bool x.output,.int .i64 x.at_]/\LsAt PF 2 S w (.slice xa xn xc) x.cols
theorem infoL:∃i0:TypeInfo,Tryz.prog.info? 61=some i0/\i0.zero=some (.agg #[Ji 0,Je,Jn,Ji 0,Je,Ji 0,Ji 0,Je,Jn,Ji 0,Ji 0,Ji 0,Je,Jn,Ji 0,Ji 0])/\i0.size=16/\i0.bytes=208:=by
 have h:(Tryz.prog.info? 61).map (fun i=>(i.zero,i.size,i.bytes))=some (some (.agg #[Ji 0,Je,Jn,Ji 0,Je,Ji 0,Ji 0,Je,Jn,Ji 0,Ji 0,Ji 0,Je,Jn,Ji 0,Ji 0]),16,208):=by kernel_rfl
 obtain⟨i0,c,b⟩:=Option.map_eq_some_iff.1 h;simp only[Prod.mk.injEq]at b;exact⟨i0,c,b⟩
abbrev ltZ:Obj:=.cells #[.int .i64 0,.string ⟨#[]⟩,.slice none 0 0,.int .i64 0,.string ⟨#[]⟩,.int .i64 0,.int .i64 0,.string ⟨#[]⟩,.slice none 0 0,.int .i64 0,.int .i64 0,.int .i64 0,.string ⟨#[]⟩,.slice none 0 0,.int .i64 0,.int .i64 0] 61
theorem cl16{w:World}{b:Nat}{T:TypeId}{v0 v1 v2 v3 v4 v5 v6 v7 v8 v9 v10 v11 v12 v13 v14 v15:Value}(h:w.heap[b]?=some (.cells #[v0,v1,v2,v3,v4,v5,v6,v7,v8,v9,v10,v11,v12,v13,v14,v15] T (0,0))):
  w.cell? (Ja b 0)=some v0/\w.cell? (Ja b 1)=some v1/\w.cell? (Ja b 2)=some v2/\w.cell? (Ja b 3)=some v3/\w.cell? (Ja b 4)=some v4/\w.cell? (Ja b 5)=some v5/\w.cell? (Ja b 6)=some v6/\w.cell? (Ja b 7)=some v7/\w.cell? (Ja b 8)=some v8/\w.cell? (Ja b 9)=some v9/\w.cell? (Ja b 10)=some v10/\w.cell? (Ja b 11)=some v11/\w.cell? (Ja b 12)=some v12/\w.cell? (Ja b 13)=some v13/\w.cell? (Ja b 14)=some v14/\w.cell? (Ja b 15)=some v15 /\ ∀o,w.frozen? (Ja b o)=false:=
 ⟨(Qad h 0).trans rfl,(Qad h 1).trans rfl,(Qad h 2).trans rfl,(Qad h 3).trans rfl,(Qad h 4).trans rfl,(Qad h 5).trans rfl,(Qad h 6).trans rfl,(Qad h 7).trans rfl,(Qad h 8).trans rfl,(Qad h 9).trans rfl,(Qad h 10).trans rfl,(Qad h 11).trans rfl,(Qad h 12).trans rfl,(Qad h 13).trans rfl,(Qad h 14).trans rfl,(Qad h 15).trans rfl,fun o=>by simp[World.frozen?,h]⟩
def PLt:PS Lt:=fun S w cs x=>∃aa an ac xa xn xc ya yn yc,cs=[.int .i64 x.kind,str x.atom.rel,.slice aa an ac,.int .i64 x.atom.at_,str x.op,.int .i64 x.l.kind,.int .i64 x.l.num,str x.l.txt,.slice xa xn xc,.int .i64 x.l.at_,.int .i64 x.r.kind,.int .i64 x.r.num,str x.r.txt,.slice ya yn yc,.int .i64 x.r.at_,.int .i64 x.at_]/\LsAt PE 5 S w (.slice aa an ac) x.atom.args/\ExS S w [.int .i64 x.l.kind,.int .i64 x.l.num,str x.l.txt,.slice xa xn xc,.int .i64 x.l.at_] x.l/\ExS S w [.int .i64 x.r.kind,.int .i64 x.r.num,str x.r.txt,.slice ya yn yc,.int .i64 x.r.at_] x.r
theorem Qb:PSok PLt where
 mono:=fun _ _ _ _ _ ⟨aa,an,ac,xa,xn,xc,ya,yn,yc,h1,h2,h3,h4⟩ hS=>⟨aa,an,ac,xa,xn,xc,ya,yn,yc,h1,h2.mono Qag hS,Qag.mono _ _ _ _ _ h3 hS,Qag.mono _ _ _ _ _ h4 hS⟩
 same:=fun _ _ _ _ _ ⟨aa,an,ac,xa,xn,xc,ya,yn,yc,h1,h2,h3,h4⟩ hs hb=>⟨aa,an,ac,xa,xn,xc,ya,yn,yc,h1,h2.same Qag hs hb,Qag.same _ _ _ _ _ h3 hs hb,Qag.same _ _ _ _ _ h4 hs hb⟩
theorem Qdn(S:Nat->Prop)(w:World):ExS S w [Ji 0,Ji 0,Je,Jn,Ji 0] .none:=Qcf S w 0 0 0 []
def ltStore(p v:Value):Sem Unit:=Instr.storeAt 61 p v
theorem Qbi(p v:Value):Instr.storeAt 61 p v=ltStore p v:=rfl
def ltLoad(x:Value):Sem Value:=Instr.loadAt 61 x
theorem Qbo(x:Value):Instr.loadAt 61 x=ltLoad x:=rfl
theorem Qdi:(Tryz.prog.info? 61).map (·.size)=some 16:=by kernel_rfl
theorem Qg{S:Nat->Prop}{w:World}{cs:List Value}{x:Lt}(h:PLt S w cs x):∀c∈cs,c.oneCell'=true:=by
 obtain⟨b,e,d,f,i,g,j,n,l,rfl,_⟩:=h;simp[Value.oneCell',str]
theorem infoS:∃i0:TypeInfo,Tryz.prog.info? 9=some i0/\i0.zero=some (Je)/\i0.size=1/\i0.bytes=16:=by
 have h:(Tryz.prog.info? 9).map (fun i=>(i.zero,i.size,i.bytes))=some (some (Je),1,16):=by kernel_rfl
 obtain⟨i0,c,b⟩:=Option.map_eq_some_iff.1 h;simp only[Prod.mk.injEq]at b;exact⟨i0,c,b⟩
end
end Go.Proofs.YtkhndlnadhggkaaGreat
