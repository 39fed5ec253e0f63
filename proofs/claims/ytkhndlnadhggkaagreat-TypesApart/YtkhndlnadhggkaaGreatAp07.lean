/- The document's Tokens, of any text; regions. -/
import Derived.Test.YtkhndlnadhggkaaGreatAp01
import Derived.Test.YtkhndlnadhggkaaGreatAp05
import Derived.Test.YtkhndlnadhggkaaGreatAp06
import Derived.Test.YtkhndlnadhggkaaGreatAp03
import Derived.Test.YtkhndlnadhggkaaGreatAp04
set_option maxRecDepth 100000
set_option maxHeartbeats 32000000
namespace Go.Proofs.YtkhndlnadhggkaaGreat
section
open Go.RowKit Go.Maps
theorem Qld(s:ByteArray)(hl:65536<s.size)(hs:s.size<=281474976710656)(w:World):
  Calls Tryz.prog 20 #[.string s] w fun e w'=>TokAns (lexP s.data.toList) w w' e:=by
 have H:=hide (show lexP s.data.toList = .bad 2 0 by unfold lexP;rw[<- Qcs,if_pos hl]);go_enter Tryz.func20,Tryz.ntmps20;go_wp2_with fail;refine(Qbq _ _ _).mono ?_;rintro e b⟨rfl,f⟩;have d:Below (w.heap.size+1) (w.alloc fltZ) b:=by simpa using f
 have c:b.heap[w.heap.size]?=some fltZ:=by rw[d.block _ (by omega)];exact heap_alloc_new w _
 have h:b.cell? (Ja w.heap.size 0)=some (Ji 0):=by rw[Lib.cell_of_heap c];rfl
 have i:b.cell? (Ja w.heap.size 1)=some (Ji 0):=by rw[Lib.cell_of_heap c];rfl
 have j:∀o,b.frozen? (Ja w.heap.size o)=false:=fun o=>Lib.frozen_of_heap c o;have g:Below w.heap.size w b:=((Below.refl w.heap.size w).alloc (Nat.le_refl _) _).trans (d.mono (by omega));clear f d c;go_wp2_with fail;refine bodyPost_ret (v:=.tuple #[Jn,.agg #[Ji 2,Ji 0]]) (by simp[results,Tryz.results20,go_sem,h,i]) rfl ?_;rw[Qa H];exact⟨_,rfl,World.ownsRow_nil _ _ _ _,(g.setCell (p:=(Ja w.heap.size 0)) (Nat.le_refl _) _).setCell (p:=(Ja w.heap.size 1)) (Nat.le_refl _) _⟩
theorem Qgd(s:ByteArray)(hs:s.size<=281474976710656)(w:World):
  Calls Tryz.prog 20 #[.string s] w fun e w'=>TokAns (lexP s.data.toList) w w' e:=by
 by_cases h:65536<s.size
 ·exact Qld s h hs w
 ·exact Qlc s (by omega) w
theorem SlAt.take{w:World}{a:Option Addr}{c n:Nat}{l:List Tok}(h:SlAt w (.slice a l.length c) l)(hn:n<=l.length):SlAt w (.slice a n c) (l.take n):=by
 obtain⟨q,cap,e,s,m,d⟩:=h;cases e
 have f:(l.take n).length=n:=by rw[List.length_take];omega
 refine⟨a,c,by rw[f],by rw[f];omega,m,?_⟩;rcases d with d|⟨g,p,j⟩
 ·exact .inl (by rw[d];simp)
 refine .inr ⟨g,p,j.lt,by rw[f];omega,j.cm,fun i t b=>j.cells i t ?_⟩;rw[List.getElem?_take]at b;split at b
 ·exact b
 ·cases b
theorem cs3{w:World}{b o:Nat}{c0 c1 c2:Value}(h:∀q c,([c0,c1,c2]:List Value)[q]?=some c->w.cell? (Ja b (o+q))=some c):w.cell? (Ja b o)=some c0/\w.cell? (Ja b (o+1))=some c1/\w.cell? (Ja b (o+2))=some c2:=⟨h 0 _ rfl,h 1 _ rfl,h 2 _ rfl⟩
theorem cs4{w:World}{b o:Nat}{c0 c1 c2 c3:Value}(h:∀q c,([c0,c1,c2,c3]:List Value)[q]?=some c->w.cell? (Ja b (o+q))=some c):w.cell? (Ja b o)=some c0/\w.cell? (Ja b (o+1))=some c1/\w.cell? (Ja b (o+2))=some c2/\w.cell? (Ja b (o+3))=some c3:=⟨h 0 _ rfl,h 1 _ rfl,h 2 _ rfl,h 3 _ rfl⟩
theorem cs5{w:World}{b o:Nat}{c0 c1 c2 c3 c4:Value}(h:∀q c,([c0,c1,c2,c3,c4]:List Value)[q]?=some c->w.cell? (Ja b (o+q))=some c):w.cell? (Ja b o)=some c0/\w.cell? (Ja b (o+1))=some c1/\w.cell? (Ja b (o+2))=some c2/\w.cell? (Ja b (o+3))=some c3/\w.cell? (Ja b (o+4))=some c4:=⟨h 0 _ rfl,h 1 _ rfl,h 2 _ rfl,h 3 _ rfl,h 4 _ rfl⟩
theorem cs8{w:World}{b o:Nat}{c0 c1 c2 c3 c4 c5 c6 c7:Value}(h:∀q c,([c0,c1,c2,c3,c4,c5,c6,c7]:List Value)[q]?=some c->w.cell? (Ja b (o+q))=some c):w.cell? (Ja b o)=some c0/\w.cell? (Ja b (o+1))=some c1/\w.cell? (Ja b (o+2))=some c2/\w.cell? (Ja b (o+3))=some c3/\w.cell? (Ja b (o+4))=some c4/\w.cell? (Ja b (o+5))=some c5/\w.cell? (Ja b (o+6))=some c6/\w.cell? (Ja b (o+7))=some c7:=⟨h 0 _ rfl,h 1 _ rfl,h 2 _ rfl,h 3 _ rfl,h 4 _ rfl,h 5 _ rfl,h 6 _ rfl,h 7 _ rfl⟩
end
section
open Go.RowKit
inductive MT where
 |nil
 |take (k:Nat) (r:MT)
 |one (k:Nat) (r:MT)
 |two (k n:Nat) (a b:MT)
 |three (k n m:Nat) (a b c:MT)
def MT.len:MT->Nat
 | .nil=>0
 | .take _ r=>r.len+1
 | .one _ r=>r.len+1
 | .two _ _ a _=>a.len+1
 | .three _ _ _ a _ _=>a.len+1
section
variable {P:Program}{ops:Array Oper}{md:Region.Mode}{Q:Exit->Act->World->Prop}{C:World->Prop}
def MT.ok(md:Region.Mode)(ops:Array Oper):MT->Array Bool->Bool
 | .nil,listed=>(Region.ready md ops listed).isEmpty
 | .take k r,listed=>(Region.ready md ops listed).contains k&&Region.free md ops listed k&&r.ok md ops (listed.setIfInBounds k true)
 | .one k r,listed=>decide (Region.ready md ops listed=[k])&&r.ok md ops (listed.setIfInBounds k true)
 | .two k n a b,listed=>decide (Region.ready md ops listed=[k,n])&&decide (b.len=a.len)&&a.ok md ops (listed.setIfInBounds k true)&&b.ok md ops (listed.setIfInBounds n true)
 | .three k n m a b c,listed=>decide (Region.ready md ops listed=[k,n,m])&&decide (b.len=a.len)&&decide (c.len=a.len)&&a.ok md ops (listed.setIfInBounds k true)&&b.ok md ops (listed.setIfInBounds n true)&&c.ok md ops (listed.setIfInBounds m true)
def wpTr(P:Program)(ops:Array Oper)(C:World->Prop)(Q:Exit->Act->World->Prop):MT->Act->World->Prop
 | .nil,a,w=>C w/\Q .normal a w
 | .take k r,a,w=>∃o v,ops[k]?=some o/\(∀w,C w->YieldsAt P ops w o v a)/\wpTr P ops C Q r (a.put o.dst v) w
 | .one k r,a,w=>C w/\wpOp P ops Q k (fun a' w'=>wpTr P ops C Q r a' w') a w
 | .two k n x y,a,w=>C w/\wpOp P ops Q k (fun a' w'=>wpTr P ops C Q x a' w') a w/\wpOp P ops Q n (fun a' w'=>wpTr P ops C Q y a' w') a w
 | .three k n m x y z,a,w=>C w/\wpOp P ops Q k (fun a' w'=>wpTr P ops C Q x a' w') a w/\wpOp P ops Q n (fun a' w'=>wpTr P ops C Q y a' w') a w/\wpOp P ops Q m (fun a' w'=>wpTr P ops C Q z a' w') a w
theorem Qcc(hsel:Region.noSelect ops=true)(hL:¬LetsOut Q)(hQ:∀c (a:Act) d v w,Q (.panic c) (a.put d v) w->Q (.panic c) a w):∀(l:MT) (listed:Array Bool) (a:Act) (w:World),l.ok md ops listed=true->wpTr P ops C Q l a w->wpAnyC P md ops C Q l.len listed a w
 | .nil,listed,a,w,hB,h=>⟨h.1,by simpa[MT.ok] using hB,h.2⟩
 | .take k r,listed,a,w,hB,h=>by
  simp only[MT.ok,Bool.and_eq_true]at hB;obtain⟨⟨hr,hf⟩,hB'⟩:=hB;obtain⟨o,v,t,B,b⟩:=h;exact Qbs t (Region.noSelect_spec hsel) hL hQ r.len listed a w (Region.free_spec t hf) (by simpa using hr) B (Qcc hsel hL hQ r _ _ _ hB' b)
 | .one k r,listed,a,w,hB,h=>by
  simp only[MT.ok,Bool.and_eq_true,decide_eq_true_eq]at hB;refine⟨h.1,fun e=>(by rw[hB.1]at e;cases e),fun i j=>?_⟩;rw[hB.1]at j;have e:i=k:=by simpa using j
  subst e;exact wpOp_mono (fun f g b=>Qcc hsel hL hQ r _ f g hB.2 b) h.2
 | .two k n x y,listed,a,w,hB,h=>by
  simp only[MT.ok,Bool.and_eq_true,decide_eq_true_eq]at hB;obtain⟨⟨⟨hr,s⟩,p⟩,q⟩:=hB;refine⟨h.1,fun e=>(by rw[hr]at e;cases e),fun i j=>?_⟩;rw[hr]at j;simp only[List.mem_cons,List.not_mem_nil,or_false]at j;rcases j with rfl|rfl
  ·exact wpOp_mono (fun f g b=>Qcc hsel hL hQ x _ f g p b) h.2.1
  ·exact wpOp_mono (fun f g b=>by have:=Qcc hsel hL hQ y _ f g q b;rw[s]at this;exact this) h.2.2
 | .three k n m x y z,listed,a,w,hB,h=>by
  simp only[MT.ok,Bool.and_eq_true,decide_eq_true_eq]at hB;obtain⟨⟨⟨⟨⟨hr,s⟩,u⟩,p⟩,q⟩,A⟩:=hB;refine⟨h.1,fun e=>(by rw[hr]at e;cases e),fun i j=>?_⟩;rw[hr]at j;simp only[List.mem_cons,List.not_mem_nil,or_false]at j;rcases j with rfl|rfl|rfl
  ·exact wpOp_mono (fun f g b=>Qcc hsel hL hQ x _ f g p b) h.2.1
  ·exact wpOp_mono (fun f g b=>by have:=Qcc hsel hL hQ y _ f g q b;rw[s]at this;exact this) h.2.2.1
  ·exact wpOp_mono (fun f g b=>by have:=Qcc hsel hL hQ z _ f g A b;rw[u]at this;exact this) h.2.2.2
end
section
variable {P:Program}{ops:Array Oper}{Q:Exit->Act->World->Prop}{C:World->Prop}{r:MT}{a:Act}{w:World}{k:Nat}{o:Oper}
theorem Qgi{v:Value}(ho:ops[k]?=some o)(hw:Region.wanted o (yielded ops a.tmps)=true)(hy:∀w',C w'->(execOp a.eval o).run P w' = .ok (.value v) w')
  (h:wpTr P ops C Q r (a.put o.dst v) w):wpTr P ops C Q (.take k r) a w:=⟨o,v,ho,fun w' b=>.inl ⟨hw,.inl (hy w' b)⟩,h⟩
theorem tT{v:Value}(hy:∀w',C w'->(execOp a.eval o).run P w' = .ok (.value v) w')(h:wpTr P ops C Q r (a.put o.dst v) w)(ho:ops[k]?=some o:=by rfl)(hw:Region.wanted o (yielded ops a.tmps)=true:=by kernel_rfl):wpTr P ops C Q (.take k r) a w:=Qgi ho hw hy h
theorem Qjz(ho:ops[k]?=some o)(hw:Region.wanted o (yielded ops a.tmps)=false)(h:wpTr P ops C Q r (a.put o.dst undef) w):wpTr P ops C Q (.take k r) a w:=⟨o,undef,ho,fun _ _=>.inr ⟨hw,rfl⟩,h⟩
abbrev StepTr(P:Program)(ops:Array Oper)(C:World->Prop)(Q:Exit->Act->World->Prop)(r:MT)(o:Oper)(a:Act)(w:World):Prop:=∀K':Act->World->Prop,(∀a w,wpTr P ops C Q r a w->K' a w)->if Region.wanted o (yielded ops a.tmps)=true then Oper.wp P o a w K' Q else K' (a.put o.dst undef) w
theorem Qaf(ho:ops[k]?=some o)(hC:C w)(h:StepTr P ops C Q r o a w):wpTr P ops C Q (.one k r) a w:=⟨hC,wpOp_step ho h⟩
theorem Qbr{n:Nat}{o2:Oper}{y:MT}(ho:ops[k]?=some o)(ho2:ops[n]?=some o2)(hC:C w)(h:StepTr P ops C Q r o a w)(h2:StepTr P ops C Q y o2 a w):wpTr P ops C Q (.two k n r y) a w:=⟨hC,wpOp_step ho h,wpOp_step ho2 h2⟩
theorem Qan(hC:C w)(h:Q .normal a w):wpTr P ops C Q .nil a w:=⟨hC,h⟩
theorem Qas{id:Nat}{tr:MT}(C:World->Prop)(hm:P.follows .mixedOrders=true)(hsel:Region.noSelect ops=true)(hlen:tr.len=ops.size)(hB:tr.ok .any ops (Array.replicate ops.size false)=true)
  (h:∀PP:Act->World->Prop,(∀a' w',Q .normal a' w'->PP a' w')->wpTr P ops C (onlyN PP) tr a w.drew):(Code.region id ops true).wp P Q a w:=by
 have c:¬LetsOut (onlyN (Q .normal)):=by rintro⟨_,_,h⟩;exact h
 have b:=Qdu _ _ _ _ (Qcc (md:=.any) hsel c (fun _ _ _ _ _ h=>h) tr _ a _ hB (h (Q .normal) (fun _ _ h=>h)));rw[hlen]at b;refine wp_mono (Q:=onlyN (Q .normal)) (wp_region_any hm b) ?_;intro e a w h;cases e
 case normal=>exact h
 all_goals exact h.elim
end
end
section
open Go.RowKit Go.Maps
theorem size_pg:(Tryz.prog.info? 28).map (·.size)=some 5:=by kernel_rfl
theorem Qd{P:Program}{ops:Array Oper}{o:Oper}{a:Act}{w:World}{K:Act->World->Prop}{Q:Exit->Act->World->Prop}
  (hg:o.guard=none)(ty:TypeId)(x y:Operand)(ho:o.op = .store ty x y)(b:Nat)(t:TypeId)(old cells:Array Value)(hx:a.eval x = .pointer (Js b))(hy:a.eval y = .agg cells)
  (hb:w.heap[b]?=some (.cells old t (0,0)))(hi:(P.info? ty).map (·.size)=some cells.size)(hs:old.size=cells.size)(h1:cells.all (·.oneCell')=true)(hK:K (a.put o.dst undef) (w.setRow b cells)):
  if Region.wanted o (yielded ops a.tmps)=true then Oper.wp P o a w K Q else K (a.put o.dst undef) w:=by
 have hw:Region.wanted o (yielded ops a.tmps)=true:=by simp[Region.wanted,hg]
 rw[if_pos hw];unfold Oper.wp execOp;simp only[ho,hx,hy,Instr.storeAt,Instr.sureAddr,Sem.run_bind,Sem.run_pure,Result.andThen_ok,run_storeVar_row w b t ty old cells hb hi hs h1];exact hK
structure Bxd(X V2:World)(p1 p2:Nat)(c0 c1 c2 c3 c4 f0 f1:Value):Prop where
 b1:V2.heap[p1]?=some (.cells #[c0,c1,c2,c3,c4] 28 (0,0))
 b2:V2.heap[p2]?=some (.cells #[f0,f1] 31 (0,0))
 bel:Below X.heap.size X V2
theorem PgS.move{S S':Nat->Prop}{w w':World}{cs:List Value}{p:Pg}(h:PgS S w cs p)(hs:w.heap.size<=w'.heap.size)(hS:∀b,b<w.heap.size->S b->w'.heap[b]?=w.heap[b]?)(hS':∀b,S b->S' b):PgS S' w' cs p:=by
 have d:=Qal.mono S (fun b=>S b/\b<w.heap.size) w cs p h (fun b g c=>⟨c,g⟩);have f:=Qal.same _ w w' cs p d hs (fun b c _=>hS b c.2 c.1);exact Qal.mono _ S' w' cs p f (fun b _ c=>hS' b c.1)
end
section

def Agr(n:Nat)(l l':List Tok):Prop:=n<=l.length/\n<=l'.length/\l.take n=l'.take n
theorem Agr.zero(l l':List Tok):Agr 0 l l':=⟨Nat.zero_le _,Nat.zero_le _,by simp⟩
theorem Agr.drop{n c:Nat}{l l':List Tok}(h:Agr n l l')(hc:c<=n):Agr (n - c) (l.drop c) (l'.drop c):=by
 obtain⟨d,f,b⟩:=h;refine⟨by rw[List.length_drop];omega,by rw[List.length_drop];omega,?_⟩;have e:∀x:List Tok,(x.drop c).take (n - c)=(x.take n).drop c:=fun x=>by rw[List.drop_take]
 rw[e,e,b]
theorem Agr.ahd{n k e e':Nat}{l l':List Tok}(h:Agr n l l')(hk:k<n):ahd e k l=ahd e' k l':=by
 obtain⟨i,j,g⟩:=h;have c:l[k]?=(l.take n)[k]?:=by rw[List.getElem?_take,if_pos hk]
 have d:l'[k]?=(l'.take n)[k]?:=by rw[List.getElem?_take,if_pos hk]
 have b:k<l.length:=by omega
 have f:l'[k]?=some l[k]:=by rw[d,<- g,<- c,List.getElem?_eq_getElem b]
 unfold Go.Proofs.YtkhndlnadhggkaaGreat.ahd;rw[List.getD_eq_getElem?_getD,List.getD_eq_getElem?_getD,f,List.getElem?_eq_getElem b];rfl
section
variable {α β : Type}{e e':Nat}

def LocR(e:Nat)(R R':Rs α)(l l':List Tok)(n:Nat):Prop:=match R with
 | .ok x r i=>∃c,r=l.drop c/\(c+2<=n->R' = .ok x (l'.drop c) i)
 | .bad w a r=>∃c,r=l.drop c/\a=((ahd e 0 r).at_:Int)/\(c+2<=n->R' = .bad w a (l'.drop c))
def Loc(e:Nat)(P P':Pr α):Prop:=∀l l' it n,Agr n l l'->LocR e (P l it) (P' l' it) l l' n
theorem LocR.congr{R R' R2:Rs α}{l l':List Tok}{n:Nat}(h:LocR e R R' l l' n)(hq:2<=n->R'=R2):LocR e R R2 l l' n:=by
 cases R with
 |bad w a r=>
  obtain⟨c,b,g,d⟩:=h;exact⟨c,b,g,fun f=>(hq (by omega)).symm.trans (d f)⟩
 |ok x r i=>
  obtain⟨c,b,d⟩:=h;exact⟨c,b,fun f=>(hq (by omega)).symm.trans (d f)⟩
theorem LocR.refuse{why:Int}{l l':List Tok}{it n:Nat}(h:Agr n l l'):LocR e (refuse (α :=α) e why l it) (refuse e' why l' it) l l' n:=
 ⟨0,rfl,rfl,fun b=>by show Rs.bad why ((ahd e' 0 l').at_:Int) l'=_;rw[h.ahd (e:=e) (e':=e') (k:=0) (by omega)];rfl⟩
theorem LocR.bind{R R':Rs α}{f f':α -> Pr β}{l l':List Tok}{n:Nat}(h:Agr n l l')(hR:LocR e R R' l l' n)
  (hf:∀x c i m,R = .ok x (l.drop c) i->(n<c/\m=0∨c<=n/\m=n - c)->Agr m (l.drop c) (l'.drop c)->LocR e (f x (l.drop c) i) (f' x (l'.drop c) i) (l.drop c) (l'.drop c) m):
  LocR e (R.bind f) (R'.bind f') l l' n:=by
 cases R with
 |bad w a r=>
  obtain⟨c,z,A,p⟩:=hR;exact⟨c,z,A,fun b=>by rw[p b];rfl⟩
 |ok x r i=>
  obtain⟨c,rfl,p⟩:=hR;show LocR e (f x (l.drop c) i) (R'.bind f') l l' n;have u:∀m,(n<c/\m=0∨c<=n/\m=n - c)->Agr m (l.drop c) (l'.drop c)->LocR e (f x (l.drop c) i) (R'.bind f') l l' n:=fun m D B=>by
   have d:=hf x c i m rfl D B;have q:c+2<=n->R'.bind f'=f' x (l'.drop c) i:=fun b=>by rw[p b];rfl
   generalize f x (l.drop c) i=Q at d;generalize f' x (l'.drop c) i=Q' at d q
   cases Q with
   |bad w a r=>
    obtain⟨g,s,E,t⟩:=d;exact⟨c+g,by rw[s,List.drop_drop],E,fun b=>by rw[q (by omega),t (by omega),List.drop_drop]⟩
   |ok y r j=>
    obtain⟨g,s,t⟩:=d;exact⟨c+g,by rw[s,List.drop_drop],fun b=>by rw[q (by omega),t (by omega),List.drop_drop]⟩
  by_cases v:c<=n
  ·exact u (n - c) (.inr ⟨v,rfl⟩) (h.drop v)
  ·exact u 0 (.inl ⟨by omega,rfl⟩) (Agr.zero _ _)
theorem LocR.map{R R':Rs α}{l l':List Tok}{n:Nat}(g:α -> β)(h:LocR e R R' l l' n):LocR e (R.map g) (R'.map g) l l' n:=by
 cases R with
 |bad w a r=>
  obtain⟨c,d,j,f⟩:=h;exact⟨c,d,j,fun b=>by rw[f b];rfl⟩
 |ok x r i=>
  obtain⟨c,d,f⟩:=h;exact⟨c,d,fun b=>by rw[f b];rfl⟩
theorem Loc.bind{P P':Pr α}{f f':α -> Pr β}(hP:Loc e P P')(hf:∀x,Loc e (f x) (f' x)):Loc e (fun l i=>(P l i).bind f) (fun l i=>(P' l i).bind f'):=fun l d c n h=>LocR.bind h (hP l d c n h) (fun x _ i _ _ _ b=>hf x _ _ i _ b)
theorem Loc.map{P P':Pr α}(g:α -> β)(hP:Loc e P P'):Loc e (fun l i=>(P l i).map g) (fun l i=>(P' l i).map g):=fun l c b n h=>(hP l c b n h).map g

theorem Loc.tok{Q Q':Tok->Pr α}(h:∀t,Loc e (Q t) (Q' t)):Loc e (fun l i=>Q (ahd e 0 l) l i) (fun l i=>Q' (ahd e' 0 l) l i):=fun l d c n b=>
 (h (ahd e 0 l) l d c n b).congr (fun f=>by rw[b.ahd (e:=e) (e':=e') (k:=0) (by omega)])
def sgT(t:Tok):Txt:=if t.kind=4 then t.text else []
theorem Agr.sgn{n:Nat}{l l':List Tok}(h:Agr n l l')(hn:1<=n):sgn e l=Go.Proofs.YtkhndlnadhggkaaGreat.sgn e' l':=by
 unfold Go.Proofs.YtkhndlnadhggkaaGreat.sgn;rw[h.ahd (e:=e) (e':=e') (k:=0) (by omega)]
theorem LocR.next{p:Prop}{p':Prop}[Decidable p][Decidable p']{A A' B B':Rs α}{l l':List Tok}{n:Nat}(hp:2<=n->(p↔p'))(hA:p->LocR e A A' l l' n)(hB:¬p->LocR e B B' l l' n):LocR e (if p then A else B) (if p' then A' else B') l l' n:=by
 by_cases h:p
 ·
  rw[if_pos h];exact(hA h).congr (fun b=>by rw[if_pos ((hp b).1 h)])
 rw[if_neg h];exact(hB h).congr (fun b=>by rw[if_neg (fun c=>h ((hp b).2 c))])
def cnT(t u:Tok):Bool:=decide (t.kind=1)&&decide (u.kind=4)&&decide (u.text=[40])
theorem Agr.callN{n:Nat}{l l':List Tok}(h:Agr n l l')(hn:2<=n):callN e l=Go.Proofs.YtkhndlnadhggkaaGreat.callN e' l':=by
 unfold Go.Proofs.YtkhndlnadhggkaaGreat.callN;rw[h.ahd (e:=e) (e':=e') (k:=0) (by omega),h.ahd (e:=e) (e':=e') (k:=1) (by omega)]
end
section
variable {α β : Type}{e e':Nat}{r:List Tok}{n:Nat}
def Many(R:Rs α):Prop:=∃a l,R = .bad 3 a l

def XtR(r:List Tok)(n:Nat)(R R':Rs α):Prop:=∀x l2 i2,R = .ok x l2 i2->R' = .ok x (l2++r) (i2+n)∨Many R'
def Xt(r:List Tok)(n:Nat)(P P':Pr α):Prop:=∀l i,XtR r n (P l i) (P' (l++r) (i+n))

def Fine(r:List Tok):Prop:=r=[] ∨ ∃t q,r=t :: q/\((t.kind=4/\t.text∈hds)∨(t.kind=1/\t.text≠wIn/\t.text≠wOut))
theorem Fine.sgn(hF:Fine r){s:Txt}(h0:s≠[])(hs:s∉hds):Go.Proofs.YtkhndlnadhggkaaGreat.sgn e' r≠s:=by
 rcases hF with rfl|⟨t,q,rfl,⟨c,d⟩|⟨c,_⟩⟩
 ·exact fun h=>h0 h.symm
 ·
  intro h;have b:Go.Proofs.YtkhndlnadhggkaaGreat.sgn e' (t :: q)=t.text:=by show(if t.kind=4 then t.text else [])=t.text;rw[if_pos c]
  rw[b]at h;subst h;exact hs d
 intro h;have b:Go.Proofs.YtkhndlnadhggkaaGreat.sgn e' (t :: q)=[]:=by show(if t.kind=4 then t.text else [])=[];rw[if_neg (by omega)]
 rw[b]at h;exact h0 h.symm
theorem XtR.bind{R R':Rs α}{f f':α -> Pr β}(h:XtR r n R R')(hf:∀x l i,R = .ok x l i->XtR r n (f x l i) (f' x (l++r) (i+n))):XtR r n (R.bind f) (R'.bind f'):=fun x q p m=>by
 obtain⟨a,d,c,b,j⟩:=bind_ok m;rcases h a d c b with g|⟨_,_,g⟩
 ·rw[g];exact hf a d c b x q p j
 ·rw[g];exact .inr ⟨_,_,rfl⟩
theorem XtR.map{R R':Rs α}{g g':α -> β}(h:XtR r n R R')(hg:∀x l i,R = .ok x l i->g x=g' x):XtR r n (R.map g) (R'.map g'):=fun x d c f=>by
 obtain⟨a,b,rfl⟩:=map_ok f;rcases h a d c b with k|⟨_,_,k⟩
 ·rw[k];exact .inl (by rw[hg a d c b];rfl)
 ·rw[k];exact .inr ⟨_,_,rfl⟩
theorem XtR.ok{x:α}{l:List Tok}{i:Nat}:XtR r n (.ok x l i) (.ok x (l++r) (i+n)):=fun y c b h=>by cases h;exact .inl rfl
theorem XtR.bad{w a:Int}{l:List Tok}{R':Rs α}:XtR r n (.bad w a l) R':=fun y c b h=>by cases h
theorem XtR.refuse{why:Int}{l:List Tok}{i:Nat}{R':Rs α}:XtR r n (refuse e why l i) R':=XtR.bad

def XtN(r:List Tok)(n:Nat)(P P':Pr α):Prop:=∀l i,l≠[]->XtR r n (P l i) (P' (l++r) (i+n))
end

def both(p q:Pg):Pg:=.mk (p.types++q.types) (p.decls++q.decls) (p.comps++q.comps) (p.inits++q.inits) (p.clauses++q.clauses)
theorem map_map{α β γ : Type}(R:Rs α)(f:α -> β)(g:β -> γ):(R.map f).map g=R.map (fun x=>g (f x)):=by cases R<;>rfl
section
variable {e:Nat}
end
end
end Go.Proofs.YtkhndlnadhggkaaGreat
