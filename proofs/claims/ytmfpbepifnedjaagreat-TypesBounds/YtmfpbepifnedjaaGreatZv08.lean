/- The document's Tokens, of any text; regions. -/
import Derived.Test.YtmfpbepifnedjaaGreatZv01
import Derived.Test.YtmfpbepifnedjaaGreatZv06
import Derived.Test.YtmfpbepifnedjaaGreatZv07
import Derived.Test.YtmfpbepifnedjaaGreatZv04
set_option maxRecDepth 100000
set_option maxHeartbeats 32000000
namespace Go.Proofs.YtmfpbepifnedjaaGreat
section
open Go.RowKit Go.Maps
theorem Qlu(s:ByteArray)(hl:65536<s.size)(hs:s.size<=281474976710656)(w:World):
  Calls Tryz.prog 20 #[.string s] w fun e w'=>TokAns (lexP s.data.toList) w w' e:=by
 have H:=hide (show lexP s.data.toList = .bad 2 0 by unfold lexP;rw[<- Qcu,if_pos hl]);go_enter Tryz.func20,Tryz.ntmps20;go_wp2_with fail;refine(Qbq _ _ _).mono ?_;rintro e b⟨rfl,j⟩;have h:Below (w.heap.size+1) (w.alloc fltZ) b:=by simpa using j
 have c:b.heap[w.heap.size]?=some fltZ:=by rw[h.block _ (by omega)];exact heap_alloc_new w _
 have n:b.cell? (Ja w.heap.size 0)=some (Ji 0):=by rw[Lib.cell_of_heap c];rfl
 have q:b.cell? (Ja w.heap.size 1)=some (Ji 0):=by rw[Lib.cell_of_heap c];rfl
 have t:∀o,b.frozen? (Ja w.heap.size o)=false:=fun o=>Lib.frozen_of_heap c o;have m:Below w.heap.size w b:=((Below.refl w.heap.size w).alloc (Nat.le_refl _) _).trans (h.mono (by omega));clear j h c;go_wp2_with fail;refine bodyPost_ret (v:=.tuple #[Jn,.agg #[Ji 2,Ji 0]]) (by simp[results,Tryz.results20,go_sem,n,q]) rfl ?_;rw[Qa H];exact⟨_,rfl,World.ownsRow_nil _ _ _ _,(m.setCell (p:=(Ja w.heap.size 0)) (Nat.le_refl _) _).setCell (p:=(Ja w.heap.size 1)) (Nat.le_refl _) _⟩
theorem Qgn(s:ByteArray)(hs:s.size<=281474976710656)(w:World):
  Calls Tryz.prog 20 #[.string s] w fun e w'=>TokAns (lexP s.data.toList) w w' e:=by
 by_cases h:65536<s.size
 ·exact Qlu s h hs w
 ·exact Qlt s (by omega) w
theorem SlAt.take{w:World}{a:Option Addr}{c n:Nat}{l:List Tok}(h:SlAt w (.slice a l.length c) l)(hn:n<=l.length):SlAt w (.slice a n c) (l.take n):=by
 obtain⟨u,cap,e,v,q,j⟩:=h;cases e
 have m:(l.take n).length=n:=by rw[List.length_take];omega
 refine⟨a,c,by rw[m],by rw[m];omega,q,?_⟩;rcases j with j|⟨g,s,p⟩
 ·exact .inl (by rw[j];simp)
 refine .inr ⟨g,s,p.lt,by rw[m];omega,p.cm,fun i t b=>p.cells i t ?_⟩;rw[List.getElem?_take]at b;split at b
 ·exact b
 ·cases b
theorem cs3{w:World}{b o:Nat}{c0 c1 c2:Value}(h:∀q c,([c0,c1,c2]:List Value)[q]?=some c->w.cell? (Ja b (o+q))=some c):w.cell? (Ja b o)=some c0/\w.cell? (Ja b (o+1))=some c1/\w.cell? (Ja b (o+2))=some c2:=⟨h 0 _ rfl,h 1 _ rfl,h 2 _ rfl⟩
theorem cs4{w:World}{b o:Nat}{c0 c1 c2 c3:Value}(h:∀q c,([c0,c1,c2,c3]:List Value)[q]?=some c->w.cell? (Ja b (o+q))=some c):w.cell? (Ja b o)=some c0/\w.cell? (Ja b (o+1))=some c1/\w.cell? (Ja b (o+2))=some c2/\w.cell? (Ja b (o+3))=some c3:=⟨h 0 _ rfl,h 1 _ rfl,h 2 _ rfl,h 3 _ rfl⟩
theorem cs5{w:World}{b o:Nat}{c0 c1 c2 c3 c4:Value}(h:∀q c,([c0,c1,c2,c3,c4]:List Value)[q]?=some c->w.cell? (Ja b (o+q))=some c):w.cell? (Ja b o)=some c0/\w.cell? (Ja b (o+1))=some c1/\w.cell? (Ja b (o+2))=some c2/\w.cell? (Ja b (o+3))=some c3/\w.cell? (Ja b (o+4))=some c4:=⟨h 0 _ rfl,h 1 _ rfl,h 2 _ rfl,h 3 _ rfl,h 4 _ rfl⟩
theorem cs8{w:World}{b o:Nat}{c0 c1 c2 c3 c4 c5 c6 c7:Value}(h:∀q c,([c0,c1,c2,c3,c4,c5,c6,c7]:List Value)[q]?=some c->w.cell? (Ja b (o+q))=some c):w.cell? (Ja b o)=some c0/\w.cell? (Ja b (o+1))=some c1/\w.cell? (Ja b (o+2))=some c2/\w.cell? (Ja b (o+3))=some c3/\w.cell? (Ja b (o+4))=some c4/\w.cell? (Ja b (o+5))=some c5/\w.cell? (Ja b (o+6))=some c6/\w.cell? (Ja b (o+7))=some c7:=⟨h 0 _ rfl,h 1 _ rfl,h 2 _ rfl,h 3 _ rfl,h 4 _ rfl,h 5 _ rfl,h 6 _ rfl,h 7 _ rfl⟩
end
section
open Go.RowKit
inductive MT where
 |nil
 |take (k:Nat) (r:MT)
 |one (k:Nat) (r:MT)
 |two (k n:Nat) (a b:MT)
 |three (k n m:Nat) (a b c:MT)
def MT.len:MT->Nat
 | .nil=>0
 | .take _ r=>r.len+1
 | .one _ r=>r.len+1
 | .two _ _ a _=>a.len+1
 | .three _ _ _ a _ _=>a.len+1
section
variable {P:Program}{ops:Array Oper}{md:Region.Mode}{Q:Exit->Act->World->Prop}{C:World->Prop}
def MT.ok(md:Region.Mode)(ops:Array Oper):MT->Array Bool->Bool
 | .nil,listed=>(Region.ready md ops listed).isEmpty
 | .take k r,listed=>(Region.ready md ops listed).contains k&&Region.free md ops listed k&&r.ok md ops (listed.setIfInBounds k true)
 | .one k r,listed=>decide (Region.ready md ops listed=[k])&&r.ok md ops (listed.setIfInBounds k true)
 | .two k n a b,listed=>decide (Region.ready md ops listed=[k,n])&&decide (b.len=a.len)&&a.ok md ops (listed.setIfInBounds k true)&&b.ok md ops (listed.setIfInBounds n true)
 | .three k n m a b c,listed=>decide (Region.ready md ops listed=[k,n,m])&&decide (b.len=a.len)&&decide (c.len=a.len)&&a.ok md ops (listed.setIfInBounds k true)&&b.ok md ops (listed.setIfInBounds n true)&&c.ok md ops (listed.setIfInBounds m true)
def wpTr(P:Program)(ops:Array Oper)(C:World->Prop)(Q:Exit->Act->World->Prop):MT->Act->World->Prop
 | .nil,a,w=>C w/\Q .normal a w
 | .take k r,a,w=>∃o v,ops[k]?=some o/\(∀w,C w->YieldsAt P ops w o v a)/\wpTr P ops C Q r (a.put o.dst v) w
 | .one k r,a,w=>C w/\wpOp P ops Q k (fun a' w'=>wpTr P ops C Q r a' w') a w
 | .two k n x y,a,w=>C w/\wpOp P ops Q k (fun a' w'=>wpTr P ops C Q x a' w') a w/\wpOp P ops Q n (fun a' w'=>wpTr P ops C Q y a' w') a w
 | .three k n m x y z,a,w=>C w/\wpOp P ops Q k (fun a' w'=>wpTr P ops C Q x a' w') a w/\wpOp P ops Q n (fun a' w'=>wpTr P ops C Q y a' w') a w/\wpOp P ops Q m (fun a' w'=>wpTr P ops C Q z a' w') a w
theorem Qcc(hsel:Region.noSelect ops=true)(hL:¬LetsOut Q)(hQ:∀c (a:Act) d v w,Q (.panic c) (a.put d v) w->Q (.panic c) a w):∀(l:MT) (listed:Array Bool) (a:Act) (w:World),l.ok md ops listed=true->wpTr P ops C Q l a w->wpAnyC P md ops C Q l.len listed a w
 | .nil,listed,a,w,hB,h=>⟨h.1,by simpa[MT.ok] using hB,h.2⟩
 | .take k r,listed,a,w,hB,h=>by
  simp only[MT.ok,Bool.and_eq_true]at hB;obtain⟨⟨hr,hf⟩,hB'⟩:=hB;obtain⟨o,v,A,E,b⟩:=h;exact Qbr A (Region.noSelect_spec hsel) hL hQ r.len listed a w (Region.free_spec A hf) (by simpa using hr) E (Qcc hsel hL hQ r _ _ _ hB' b)
 | .one k r,listed,a,w,hB,h=>by
  simp only[MT.ok,Bool.and_eq_true,decide_eq_true_eq]at hB;refine⟨h.1,fun e=>(by rw[hB.1]at e;cases e),fun i q=>?_⟩;rw[hB.1]at q;have e:i=k:=by simpa using q
  subst e;exact wpOp_mono (fun j p b=>Qcc hsel hL hQ r _ j p hB.2 b) h.2
 | .two k n x y,listed,a,w,hB,h=>by
  simp only[MT.ok,Bool.and_eq_true,decide_eq_true_eq]at hB;obtain⟨⟨⟨hr,u⟩,s⟩,t⟩:=hB;refine⟨h.1,fun e=>(by rw[hr]at e;cases e),fun i q=>?_⟩;rw[hr]at q;simp only[List.mem_cons,List.not_mem_nil,or_false]at q;rcases q with rfl|rfl
  ·exact wpOp_mono (fun j p b=>Qcc hsel hL hQ x _ j p s b) h.2.1
  ·exact wpOp_mono (fun j p b=>by have:=Qcc hsel hL hQ y _ j p t b;rw[u]at this;exact this) h.2.2
 | .three k n m x y z,listed,a,w,hB,h=>by
  simp only[MT.ok,Bool.and_eq_true,decide_eq_true_eq]at hB;obtain⟨⟨⟨⟨⟨hr,u⟩,B⟩,s⟩,t⟩,D⟩:=hB;refine⟨h.1,fun e=>(by rw[hr]at e;cases e),fun i q=>?_⟩;rw[hr]at q;simp only[List.mem_cons,List.not_mem_nil,or_false]at q;rcases q with rfl|rfl|rfl
  ·exact wpOp_mono (fun j p b=>Qcc hsel hL hQ x _ j p s b) h.2.1
  ·exact wpOp_mono (fun j p b=>by have:=Qcc hsel hL hQ y _ j p t b;rw[u]at this;exact this) h.2.2.1
  ·exact wpOp_mono (fun j p b=>by have:=Qcc hsel hL hQ z _ j p D b;rw[B]at this;exact this) h.2.2.2
end
section
variable {P:Program}{ops:Array Oper}{Q:Exit->Act->World->Prop}{C:World->Prop}{r:MT}{a:Act}{w:World}{k:Nat}{o:Oper}
theorem Qgs{v:Value}(ho:ops[k]?=some o)(hw:Region.wanted o (yielded ops a.tmps)=true)(hy:∀w',C w'->(execOp a.eval o).run P w' = .ok (.value v) w')
  (h:wpTr P ops C Q r (a.put o.dst v) w):wpTr P ops C Q (.take k r) a w:=⟨o,v,ho,fun w' b=>.inl ⟨hw,.inl (hy w' b)⟩,h⟩
theorem tT{v:Value}(hy:∀w',C w'->(execOp a.eval o).run P w' = .ok (.value v) w')(h:wpTr P ops C Q r (a.put o.dst v) w)(ho:ops[k]?=some o:=by rfl)(hw:Region.wanted o (yielded ops a.tmps)=true:=by kernel_rfl):wpTr P ops C Q (.take k r) a w:=Qgs ho hw hy h
theorem Qcq(ho:ops[k]?=some o)(hw:Region.wanted o (yielded ops a.tmps)=false)(h:wpTr P ops C Q r (a.put o.dst undef) w):wpTr P ops C Q (.take k r) a w:=⟨o,undef,ho,fun _ _=>.inr ⟨hw,rfl⟩,h⟩
abbrev StepTr(P:Program)(ops:Array Oper)(C:World->Prop)(Q:Exit->Act->World->Prop)(r:MT)(o:Oper)(a:Act)(w:World):Prop:=∀K':Act->World->Prop,(∀a w,wpTr P ops C Q r a w->K' a w)->if Region.wanted o (yielded ops a.tmps)=true then Oper.wp P o a w K' Q else K' (a.put o.dst undef) w
theorem Qag(ho:ops[k]?=some o)(hC:C w)(h:StepTr P ops C Q r o a w):wpTr P ops C Q (.one k r) a w:=⟨hC,wpOp_step ho h⟩
theorem Qbu{n:Nat}{o2:Oper}{y:MT}(ho:ops[k]?=some o)(ho2:ops[n]?=some o2)(hC:C w)(h:StepTr P ops C Q r o a w)(h2:StepTr P ops C Q y o2 a w):wpTr P ops C Q (.two k n r y) a w:=⟨hC,wpOp_step ho h,wpOp_step ho2 h2⟩
theorem Qao(hC:C w)(h:Q .normal a w):wpTr P ops C Q .nil a w:=⟨hC,h⟩
theorem Qat{id:Nat}{tr:MT}(C:World->Prop)(hm:P.follows .mixedOrders=true)(hsel:Region.noSelect ops=true)(hlen:tr.len=ops.size)(hB:tr.ok .any ops (Array.replicate ops.size false)=true)
  (h:∀PP:Act->World->Prop,(∀a' w',Q .normal a' w'->PP a' w')->wpTr P ops C (onlyN PP) tr a w.drew):(Code.region id ops true).wp P Q a w:=by
 have c:¬LetsOut (onlyN (Q .normal)):=by rintro⟨_,_,h⟩;exact h
 have b:=Qea _ _ _ _ (Qcc (md:=.any) hsel c (fun _ _ _ _ _ h=>h) tr _ a _ hB (h (Q .normal) (fun _ _ h=>h)));rw[hlen]at b;refine wp_mono (Q:=onlyN (Q .normal)) (wp_region_any hm b) ?_;intro e a w h;cases e
 case normal=>exact h
 all_goals exact h.elim
end
end
section
open Go.RowKit Go.Maps
theorem size_pg:(Tryz.prog.info? 28).map (·.size)=some 5:=by kernel_rfl
theorem Qde{P:Program}{ops:Array Oper}{o:Oper}{a:Act}{w:World}{K:Act->World->Prop}{Q:Exit->Act->World->Prop}
  (hg:o.guard=none)(ty:TypeId)(x y:Operand)(ho:o.op = .store ty x y)(b:Nat)(t:TypeId)(old cells:Array Value)(hx:a.eval x = .pointer (Js b))(hy:a.eval y = .agg cells)
  (hb:w.heap[b]?=some (.cells old t (0,0)))(hi:(P.info? ty).map (·.size)=some cells.size)(hs:old.size=cells.size)(h1:cells.all (·.oneCell')=true)(hK:K (a.put o.dst undef) (w.setRow b cells)):
  if Region.wanted o (yielded ops a.tmps)=true then Oper.wp P o a w K Q else K (a.put o.dst undef) w:=by
 have hw:Region.wanted o (yielded ops a.tmps)=true:=by simp[Region.wanted,hg]
 rw[if_pos hw];unfold Oper.wp execOp;simp only[ho,hx,hy,Instr.storeAt,Instr.sureAddr,Sem.run_bind,Sem.run_pure,Result.andThen_ok,run_storeVar_row w b t ty old cells hb hi hs h1];exact hK
structure Bxd(X V2:World)(p1 p2:Nat)(c0 c1 c2 c3 c4 f0 f1:Value):Prop where
 b1:V2.heap[p1]?=some (.cells #[c0,c1,c2,c3,c4] 28 (0,0))
 b2:V2.heap[p2]?=some (.cells #[f0,f1] 31 (0,0))
 bel:Below X.heap.size X V2
theorem PgS.move{S S':Nat->Prop}{w w':World}{cs:List Value}{p:Pg}(h:PgS S w cs p)(hs:w.heap.size<=w'.heap.size)(hS:∀b,b<w.heap.size->S b->w'.heap[b]?=w.heap[b]?)(hS':∀b,S b->S' b):PgS S' w' cs p:=by
 have e:=Qak.mono S (fun b=>S b/\b<w.heap.size) w cs p h (fun b m c=>⟨c,m⟩);have j:=Qak.same _ w w' cs p e hs (fun b c _=>hS b c.2 c.1);exact Qak.mono _ S' w' cs p j (fun b _ c=>hS' b c.1)
theorem cl6{w:World}{b:Nat}{T:TypeId}{v0 v1 v2 v3 v4 v5:Value}(h:w.heap[b]?=some (.cells #[v0,v1,v2,v3,v4,v5] T (0,0))):
  w.cell? (Ja b 0)=some v0/\w.cell? (Ja b 1)=some v1/\w.cell? (Ja b 2)=some v2/\w.cell? (Ja b 3)=some v3/\w.cell? (Ja b 4)=some v4/\w.cell? (Ja b 5)=some v5 /\ ∀o,w.frozen? (Ja b o)=false:=
 ⟨(Qad h 0).trans rfl,(Qad h 1).trans rfl,(Qad h 2).trans rfl,(Qad h 3).trans rfl,(Qad h 4).trans rfl,(Qad h 5).trans rfl,fun o=>by simp[World.frozen?,h]⟩
structure Rr(rb g cap:Nat)(l:List Tok)(w:World)(a d i:Nat)(y f:Int):Prop where
 box:w.heap[rb]?=some (.cells #[.slice (some ⟨g,0,none⟩) l.length cap,.int .i64 (a:Int),.int .i64 (d:Int),.int .i64 (i:Int),.int .i64 y,.int .i64 f] 75 (0,0))
 row:RowAt w g cap l
 ne:g≠rb
 lt:a<l.length
 few:l.length<=65537
 at_:∀t∈l,t.at_<=65536
 last:∀t,l[l.length - 1]?=some t->t.kind=0
 z:y=0->f=0
 dd:d<=64
 ii:i<=65537
 tx:∀t∈l,t.text.length<=65536
theorem Rr.later{rb g cap a d i:Nat}{l:List Tok}{w w':World}{y f:Int}(h:Rr rb g cap l w a d i y f)(b:Below w.heap.size w w'):Rr rb g cap l w' a d i y f:=
 ⟨(b.block _ (Qaa h.box)).trans h.box,h.row.later b,h.ne,h.lt,h.few,h.at_,h.last,h.z,h.dd,h.ii,h.tx⟩
theorem RowAt.keep{w w':World}{g cap:Nat}{l:List Tok}(h:RowAt w g cap l)(hs:w.heap.size<=w'.heap.size)(hb:w'.heap[g]?=w.heap[g]?):RowAt w' g cap l:=
 ⟨Nat.lt_of_lt_of_le h.lt hs,h.le,h.cm,fun i t b=>by
  have:=h.cells i t b;have e:∀o,w'.cell? (Ja g o)=w.cell? (Ja g o):=fun o=>by simp[World.cell?,hb]
  rw[e,e,e,e];exact this⟩
theorem Rr.tok{rb g cap a d i:Nat}{l:List Tok}{w:World}{y f:Int}(h:Rr rb g cap l w a d i y f):∃t,l[a]?=some t:=⟨_,List.getElem?_eq_getElem h.lt⟩
abbrev tkA(t:Tok):Value:=.agg #[.int .i64 t.kind,str t.text,.int .i64 t.num,.int .i64 (t.at_:Int)]
theorem Qaw{rb g cap a d i:Nat}{l:List Tok}{w:World}{y f:Int}(h:Rr rb g cap l w a d i y f):
  Calls Tryz.prog 24 #[.pointer (Js rb)] w fun en w'=>en = .returned (.bool (decide (y=0)))/\w'=w:=by
 obtain⟨j,m,n,p,q,s,u⟩:=cl6 h.box;have c:=h.z;clear h;by_cases b:y=0
 ·
  obtain rfl:=c b;subst b;clear c;go_enter Tryz.func24,Tryz.ntmps24;go_wp2_with fail;go_ret;exact⟨rfl,rfl⟩
 have t:(y==0)=false:=beq_eq_false_iff_ne.2 b;have e:decide (y=0)=false:=decide_eq_false b;rw[e];clear c b e;go_enter Tryz.func24,Tryz.ntmps24;go_wp2_with fail;go_ret;exact⟨rfl,rfl⟩
theorem Qap{rb g cap a d i:Nat}{l:List Tok}{w:World}{y f:Int}(h:Rr rb g cap l w a d i y f){t:Tok}(ht:l[a]?=some t):
  Calls Tryz.prog 22 #[.pointer (Js rb)] w fun en w'=>en = .returned (tkA t)/\Below w.heap.size w w':=by
 obtain⟨W,s⟩:=JE ((w.alloc tokZ).drew);have j:Below w.heap.size w W:=by rw[s];exact((Below.refl _ w).alloc (Nat.le_refl _) _).drew
 have z:W.heap[w.heap.size]?=some tokZ:=by rw[s];exact heap_alloc_new w _
 have L:=h.lt;have J:=h.few;have H:=h.row.le;have I:=h.row.cm;unfold maxLen at I;obtain⟨n,x⟩:=JF l.length;rw[x]at L J H;have B:Hid (∀w',Below w.heap.size w w'->w'.heap[rb]?=some (.cells #[.slice (Js g) n cap,Ji (a:Int),Ji (d:Int),Ji (i:Int),Ji y,Ji f] 75 (0,0))/\(∀q c,([Ji t.kind,str t.text,Ji t.num,Ji (t.at_:Int)]:List Value)[q]?=some c->w'.cell? (Ja g (a*4+q))=some c)):=fun w' X=>by
  have F:=h.later X;refine⟨by have:=F.box;rw[x]at this;exact this,fun q c e=>?_⟩;have u:=F.row.cells a t ht
  match q,e with
  | 0,e=>cases e;exact u.1
  | 1,e=>cases e;exact u.2.1
  | 2,e=>cases e;exact u.2.2.1
  | 3,e=>cases e;exact u.2.2.2
  |q+4,e=>simp at e
 obtain⟨V,p⟩:=JE (W.setRow w.heap.size #[Ji t.kind,str t.text,Ji t.num,Ji (t.at_:Int)]);have D:Below w.heap.size w V:=by
  rw[p];exact⟨j.os,j.tape,j.output,by rw[size_setRow];exact j.size,fun k Y=>by rw[setRow_other _ _ _ _ (by omega)];exact j.block k Y⟩
 have G:V.heap[w.heap.size]?=some (.cells #[Ji t.kind,str t.text,Ji t.num,Ji (t.at_:Int)] 73 (0,0)):=by rw[p];exact setRow_heap _ _ _ _ _ _ z
 have T:=hide s;have S:=hide p;have m:=hide (Ya j (Ya z (Ya D G)));clear s p j z D G h ht x;go_enter Tryz.func22,Tryz.ntmps22;go_wp2_with fail;refine Qba (md:=[(0,true),(1,true),(2,true),(3,true),(4,true),(5,true),(6,true),(7,true),(8,true),(9,true),(10,false)]) (fun w'=>w'.heap[rb]?=some (.cells #[.slice (Js g) n cap,Ji (a:Int),Ji (d:Int),Ji (i:Int),Ji y,Ji f] 75 (0,0))/\(∀q c,([Ji t.kind,str t.text,Ji t.num,Ji (t.at_:Int)]:List Value)[q]?=some c->w'.cell? (Ja g (a*4+q))=some c)) mixedO (by kernel_rfl) rfl (by kernel_rfl) (fun U A=>?_);rw[<- Qa T]
 iterate 10 refine Qac rfl (by kernel_rfl) (fun w' hw=>by obtain⟨Z,a0,a1,a2,a3,a4,xf⟩:=cl6 hw.1;obtain⟨a5,a6,a7,a8⟩:=cs4 hw.2;go_simp<;>rfl) ?_
 refine Qiz (b:={ tmps:=#[.pointer (Js rb),undef,.pointer (Js w.heap.size),.pointer (Js rb),.pointer (Js rb),.pointer (Js rb),.slice (Js g) n cap,.pointer (Js rb),.pointer (Js rb),.pointer (some (Ja rb 1)),Ji (a:Int),.pointer (some (Ja g (a*4))),tkA t],defers:=[] }) (by kernel_rfl) ?_;refine Qal rfl (Qa B _ (Qa m).1) (fun K E=>?_);refine Qde rfl _ _ _ rfl w.heap.size _ _ #[Ji t.kind,str t.text,Ji t.num,Ji (t.at_:Int)] (by kernel_rfl) (by kernel_rfl) (Qa m).2.1 (by kernel_rfl) rfl (by simp[Value.oneCell',str]) ?_;refine E _ _ ?_;clear E K;rw[<- Qa S];refine Qbc (Qa B _ (Qa m).2.2.1) (A _ _ ?_);clear A U;simp[Act.put];obtain⟨M,N,O,R,zf⟩:=cl4 (Qa m).2.2.2;go_wp2_with fail;refine bodyPost_ret (v:=tkA t) (by simp[results,Tryz.results22,go_sem,M,N,O,R]) rfl ?_;exact⟨rfl,(Qa m).2.2.1⟩
section
variable {rb g cap a d i:Nat}{l:List Tok}{w:World}{y f:Int}
theorem Rr.setF(h:Rr rb g cap l w a d i y f){why x:Int}(hw:why≠0):Rr rb g cap l ((w.setCell (Ja rb 4) (Ji why)).setCell (Ja rb 5) (Ji x)) a d i why x:=
 ⟨(Qah (Qah h.box 4 _) 5 _).trans rfl,h.row.keep (by simp) (by rw[hpS h.ne,hpS h.ne]),h.ne,h.lt,h.few,h.at_,h.last,fun e=>absurd e hw,h.dd,h.ii,h.tx⟩
theorem Rr.setD(h:Rr rb g cap l w a d i y f){d':Nat}(hd:d'<=64):Rr rb g cap l (w.setCell (Ja rb 2) (Ji (d':Int))) a d' i y f:=
 ⟨(Qah h.box 2 _).trans rfl,h.row.keep (by simp) (by rw[hpS h.ne]),h.ne,h.lt,h.few,h.at_,h.last,h.z,hd,h.ii,h.tx⟩
theorem Rr.setI(h:Rr rb g cap l w a d i y f){i':Nat}(hi:i'<=65537):Rr rb g cap l (w.setCell (Ja rb 3) (Ji (i':Int))) a d i' y f:=
 ⟨(Qah h.box 3 _).trans rfl,h.row.keep (by simp) (by rw[hpS h.ne]),h.ne,h.lt,h.few,h.at_,h.last,h.z,h.dd,hi,h.tx⟩
theorem Rr.setA(h:Rr rb g cap l w a d i y f){a':Nat}(ha:a'<l.length):Rr rb g cap l (w.setCell (Ja rb 1) (Ji (a':Int))) a' d i y f:=
 ⟨(Qah h.box 1 _).trans rfl,h.row.keep (by simp) (by rw[hpS h.ne]),h.ne,ha,h.few,h.at_,h.last,h.z,h.dd,h.ii,h.tx⟩
end
def RA(rb g cap:Nat)(l:List Tok)(w:World)(d:Nat)(R:World->Value->Prop)(Y:Nat->Nat->Int->Prop)(en:Ending)(w':World):Prop:=
 ∃v a' i' y' f',en = .returned v/\R w' v/\Y a' i' y'/\Rr rb g cap l w' a' d i' y' f'/\Kp rb w w'
def noV(_:World)(v:Value):Prop:=v = .tuple #[]
theorem Qbe{rb g cap a d i:Nat}{l:List Tok}{w:World}{y f:Int}(h:Rr rb g cap l w a d i y f){why:Int}(hw:why≠0):
  Calls Tryz.prog 23 #[.pointer (Js rb),Ji why] w fun en w'=>RA rb g cap l w d noV (fun a' i' y'=>a'=a/\i'=i/\y'≠0) en w':=by
 have b:=Qaw h;obtain⟨t,A⟩:=h.tok;have e:=Qap h A;unfold tkA at e;obtain⟨n,p,q,s,u,v,B⟩:=cl6 h.box;have H:=hide h;have x:=hide hw;clear h hw A n p q s u v B;by_cases c:y=0
 ·
  rw[decide_eq_true c]at b;clear c;go_enter Tryz.func23,Tryz.ntmps23;go_wp2_with fail;refine b.mono ?_;clear b;rintro en G⟨rfl,rfl⟩;go_wp2_with fail;refine e.mono ?_;clear e;rintro en I⟨rfl,j⟩;have m:=(Qa H).later j;obtain⟨n,p,q,s,u,v,B⟩:=cl6 m.box;have E:=hide m;have D:=hide j;clear m j;go_wp2_with fail;rename_i z;refine z _ _ ?_;clear z;go_wp2_with fail
  go_end0
  exact⟨_,_,_,_,_,rfl,rfl,⟨rfl,rfl,Qa x⟩,(Qa E).setF (Qa x),((Kp.of_below (Qa D)).trans (Kp.set _ _ _ _)).trans (Kp.set _ _ _ _)⟩
 rw[decide_eq_false c]at b;have F:=hide c;clear c e;go_enter Tryz.func23,Tryz.ntmps23;go_wp2_with fail;refine b.mono ?_;clear b;rintro en G⟨rfl,rfl⟩;go_wp2_with fail
 go_end0
 exact⟨_,_,_,_,_,rfl,rfl,⟨rfl,rfl,Qa F⟩,Qa H,Kp.refl _ _⟩
theorem Qho{rb g cap a d i:Nat}{l:List Tok}{w:World}{y f:Int}(h:Rr rb g cap l w a d i y f)(hd:d<64):
  Calls Tryz.prog 60 #[.pointer (Js rb)] w fun en w'=>RA rb g cap l w (d+1) noV (fun a' i' y'=>a'=a/\i'=i/\(y'=0->y=0/\d<32)) en w':=by
 have m:=Qbe h (why:=4) (by decide);obtain⟨p,q,s,t,u,v,x⟩:=cl6 h.box;have H:=hide h;clear h;by_cases n:32<=d
 ·
  have z:(32:Int)<=(d:Int):=by omega
  clear n;go_enter Tryz.func60,Tryz.ntmps60;go_wp2_with fail;refine m.mono ?_;clear m p q s t u v x;rintro en E⟨_,_,_,y',D,rfl,rfl,⟨rfl,rfl,c⟩,b,j⟩;obtain⟨p,q,s,t,u,v,x⟩:=cl6 b.box;have A:=hide (Ya c (Ya b j));clear c b j;go_wp2_with fail
  go_end0
  obtain⟨c,b,j⟩:=Qa A;exact⟨_,_,_,y',D,rfl,rfl,⟨rfl,rfl,fun e=>absurd e c⟩,b.setD (d':=d+1) (by omega),j.trans (Kp.set _ _ _ _)⟩
 have z:¬((32:Int)<=(d:Int)):=by omega
 have B:=hide (show d<32 by omega);clear n m;go_enter Tryz.func60,Tryz.ntmps60;go_wp2_with fail
 go_end0
 exact⟨_,_,_,y,f,rfl,rfl,⟨rfl,rfl,fun e=>⟨e,Qa B⟩⟩,(Qa H).setD (d':=d+1) (by omega),Kp.set _ _ _ _⟩
abbrev mLRpc0:List (Nat×Bool):=[(0,true),(1,false),(2,true),(3,true),(4,true),(5,true),(6,true),(7,true),(8,true),(9,true),(10,true),(11,true),(12,true),(13,true),(14,true)]
theorem tk_ld{w:World}{b:Nat}{c0 c1 c2 c3:Value}(h:w.heap[b]?=some (.cells #[c0,c1,c2,c3] 73 (0,0))):(tkLoad (.pointer (Js b))).run Tryz.prog w = .ok (.agg #[c0,c1,c2,c3]) w:=
 run_loadAt_mid w b 0 73 [c0,c1,c2,c3] _ (fun q v c=>by rw[Qad h,Nat.zero_add];simpa using c) Tryz.underlying73 rfl (by kernel_rfl)
theorem Qmy{w:World}{b:Nat}{old new:Array Value}(hb:w.heap[b]?=some (.cells old 73 (0,0)))(h0:old.size=4)(hn:new.size=4)(h1:new.all (·.oneCell')=true):(tkStore (.pointer (Js b)) (.agg new)).run Tryz.prog w = .ok () (w.setRow b new):=by
 unfold tkStore;simp only[Instr.storeAt,Instr.sureAddr,Sem.run_bind,Sem.run_pure,Result.andThen_ok];exact run_storeVar_row w b 73 73 old new hb (by rw[hn];kernel_rfl) (by rw[h0,hn]) h1
theorem Qgt(n:Nat)(h0:0<n)(h:n<=65537):IntKind.i64.wrap ((n:Int) - 1)=(n:Int) - 1:=by
 have b:(2:Int) ^ IntKind.i64.bits=18446744073709551616:=by decide
 have c:(2:Int) ^ (IntKind.i64.bits - 1)=9223372036854775808:=by decide
 have e:((n:Int) - 1) % 18446744073709551616=(n:Int) - 1:=by omega
 unfold IntKind.wrap;simp only[b,c,e];rw[if_neg (by simp;intro _;omega)]
theorem Rr.move{rb g cap a d i:Nat}{l:List Tok}{w w':World}{y f:Int}(h:Rr rb g cap l w a d i y f)(hs:w.heap.size<=w'.heap.size)(hr:w'.heap[rb]?=w.heap[rb]?)(hg:w'.heap[g]?=w.heap[g]?):Rr rb g cap l w' a d i y f:=
 ⟨hr.trans h.box,h.row.keep hs hg,h.ne,h.lt,h.few,h.at_,h.last,h.z,h.dd,h.ii,h.tx⟩
def TkY(l:List Tok)(a i:Nat)(y:Int)(a' i':Nat)(y':Int):Prop:=i'=i/\y'=y/\((y=0/\a+1<l.length/\a'=a+1)∨(a'=a/\(y=0 -> ¬a+1<l.length)))
attribute [local go_sem ↓] Qdy Qeq
theorem Qbb{rb g cap a d i:Nat}{l:List Tok}{w:World}{y f:Int}(h:Rr rb g cap l w a d i y f){t:Tok}(ht:l[a]?=some t):
  Calls Tryz.prog 61 #[.pointer (Js rb)] w fun en w'=>RA rb g cap l w d (fun _ v=>v=tkA t) (TkY l a i y) en w':=by
 have b0:Below w.heap.size w (w.alloc tokZ):=(Below.refl _ w).alloc (Nat.le_refl _) _;have n0:(w.alloc tokZ).heap[w.heap.size]?=some tokZ:=heap_alloc_new w _;have s0:(w.alloc tokZ).heap.size=w.heap.size+1:=by simp
 have aa:=Qap (h.later b0) ht;unfold tkA at aa;have ag:=h.lt;have af:=h.few;have ad:=h.row.le;have ae:=h.row.cm;unfold maxLen at ae;have ai:=Qaa h.box;have H:=hide h;have a7:=hide (Ya b0 (Ya n0 s0));clear h b0 n0 s0 ht;go_enter Tryz.func61,Tryz.ntmps61;go_wp2_with fail;refine aa.mono ?_;clear aa;rintro en N⟨rfl,b2⟩;obtain⟨b0,n0,s0⟩:=Qa a7;have n1:(N.alloc tokZ).heap[N.heap.size]?=some tokZ:=heap_alloc_new N _;have R1:=Qmy (new:=#[Ji t.kind,str t.text,Ji t.num,Ji (t.at_:Int)]) n1 rfl rfl (by simp[Value.oneCell',str]);obtain⟨G,a1⟩:=JE ((N.alloc tokZ).setRow N.heap.size #[Ji t.kind,str t.text,Ji t.num,Ji (t.at_:Int)]);rw[<- a1]at R1;have ac:=b2.size;have a6:Below N.heap.size N G:=by
  rw[a1];have q:=(Below.refl N.heap.size N).alloc (Nat.le_refl _) tokZ;exact⟨q.os,q.tape,q.output,by rw[size_setRow];exact q.size,fun k hk=>by rw[setRow_other _ _ _ _ (by omega)];exact q.block k hk⟩
 have b3:Below w.heap.size w G:=(b0.trans (b2.mono (by omega))).trans (a6.mono (by omega));have nr:G.heap[N.heap.size]?=some (.cells #[Ji t.kind,str t.text,Ji t.num,Ji (t.at_:Int)] 73 (0,0)):=by rw[a1];exact setRow_heap _ _ _ _ _ _ n1
 have nn:G.heap[w.heap.size]?=some tokZ:=((a6.block _ (by omega)).trans (b2.block _ (by omega))).trans n0;have h3:=(Qa H).later b3.drew;have Z:=Qaw h3;have a8:=hide (show g≠w.heap.size by have:=(Qa H).row.lt;omega);have a9:=hide (Kp.of_below (rb:=rb) b3.drew);have HN:=hide (Ya (show N.heap.size≠rb by omega) (Ya (show w.heap.size≠rb by omega) (Ya (show G.drew.heap[N.heap.size]?=some (.cells #[Ji t.kind,str t.text,Ji t.num,Ji (t.at_:Int)] 73 (0,0)) from nr) (show G.drew.heap[w.heap.size]?=some tokZ from nn))));obtain⟨n,U⟩:=JF l.length;have a0:=h3.box;rw[U]at a0 ag af ad;have hz:=h3.z;by_cases hy:y=0
 rotate_left
 ·
  rw[decide_eq_false hy]at Z;have HM:=hide (show y=0 -> ¬a+1<l.length from fun e=>absurd e hy);have V:=hide a0;have HR:=hide h3;clear h3 a0 hz b2 n1 a6 b3 nr nn ac b0 n0 s0 H a7 a1 U hy;go_wp2_with fail;refine Qba (md:=mLRpc0) (fun w'=>w'.heap[rb]?=some (.cells #[.slice (Js g) n cap,Ji (a:Int),Ji (d:Int),Ji (i:Int),Ji y,Ji f] 75 (0,0))) mixedO (by kernel_rfl) rfl (by kernel_rfl) (fun PP W=>?_);refine Qac rfl (by kernel_rfl) (fun _ _=>by go_simp<;>rfl) ?_;refine Qal rfl (Qa V) (fun K hK=>?_);go_simp;refine Z.mono ?_;clear Z;rintro en _⟨rfl,rfl⟩;show K _ _;refine hK _ _ ?_;clear hK K;refine Qac rfl (by kernel_rfl) (fun _ _=>by go_simp<;>rfl) ?_
  iterate 11 refine Qeb rfl (by kernel_rfl) ?_
  refine Qac (v:=.bool false) rfl (by kernel_rfl) (fun _ _=>by go_simp<;>rfl) ?_;refine Qbc (Qa V) (W _ _ ?_);clear W PP;simp[Act.put,Array.setIfInBounds];obtain⟨E,D⟩:=JE G.drew;have T:=Qa HR;rw[<- D]at T;have c:=Qa a9;rw[<- D]at c;have S:∀q,q≠rb->E.heap[q]?=G.drew.heap[q]?:=fun q F=>by rw[D]
  rw[<- D];clear D;obtain⟨hA,O,Y,X⟩:=Qa HN;have m1:=(S _ hA).trans Y;have R:=(S _ O).trans X;have L1:=tk_ld m1;have S1:=Qmy (new:=#[Ji t.kind,str t.text,Ji t.num,Ji (t.at_:Int)]) R rfl rfl (by simp[Value.oneCell',str]);obtain⟨B,b⟩:=JE (E.setRow w.heap.size #[Ji t.kind,str t.text,Ji t.num,Ji (t.at_:Int)]);rw[<- b]at S1;have L:∀q,q≠w.heap.size->B.heap[q]?=E.heap[q]?:=fun q F=>by rw[b];exact setRow_other _ _ _ _ F
  have M:B.heap[w.heap.size]?=some (.cells #[Ji t.kind,str t.text,Ji t.num,Ji (t.at_:Int)] 73 (0,0)):=by rw[b];exact setRow_heap _ _ _ _ _ _ R
  have s5:B.heap.size=E.heap.size:=by rw[b,size_setRow]
  have J:Kp rb w B:=⟨by rw[b];exact c.os,by rw[b];exact c.tape,by rw[b];exact c.output,by rw[s5];exact c.size,fun q F U=>(L q (by omega)).trans (c.block q F U)⟩;have I:=T.move (w':=B) (by omega) (L rb O.symm) (L g (Qa a8));have HF:=hide (Ya I (Ya J M));clear m1 R S L b s5 J I T c hA O Y X M;go_wp2_with fail;obtain⟨I,J,M⟩:=Qa HF;obtain⟨a2,a3,a4,a5,zf⟩:=cl4 M;refine bodyPost_ret (v:=tkA t) (by simp[results,Tryz.results61,go_sem,a2,a3,a4,a5]) rfl ?_;exact⟨_,_,_,_,_,rfl,rfl,⟨rfl,rfl,.inr ⟨rfl,Qa HM⟩⟩,I,J⟩
 obtain rfl:=hz hy;subst hy;rw[decide_eq_true rfl]at Z;have V:=hide a0;have HR:=hide h3;clear h3 a0 hz b2 n1 a6 b3 nr nn ac b0 n0 s0 H a7 a1;by_cases hm:a+1<n
 ·
  have HM:=hide (show a+1<l.length by omega);have ah:=Qgt n (by omega) (by omega);have ab:(a:Int)<(n:Int) - 1:=by omega
  clear U;go_wp2_with fail;refine Qba (md:=mLRpc0) (fun w'=>w'.heap[rb]?=some (.cells #[.slice (Js g) n cap,Ji (a:Int),Ji (d:Int),Ji (i:Int),Ji 0,Ji 0] 75 (0,0))) mixedO (by kernel_rfl) rfl (by kernel_rfl) (fun PP W=>?_);refine Qac rfl (by kernel_rfl) (fun _ _=>by go_simp<;>rfl) ?_;refine Qal rfl (Qa V) (fun K hK=>?_);go_simp;refine Z.mono ?_;clear Z;rintro en _⟨rfl,rfl⟩;show K _ _;refine hK _ _ ?_;clear hK K;refine Qac rfl (by kernel_rfl) (fun _ _=>by go_simp<;>rfl) ?_;refine Qac rfl (by kernel_rfl) (fun w' hw=>by obtain⟨j,m,p,s,u,x,A⟩:=cl6 hw;go_simp<;>rfl) ?_;refine Qac rfl (by kernel_rfl) (fun w' hw=>by obtain⟨j,m,p,s,u,x,A⟩:=cl6 hw;go_simp<;>rfl) ?_;refine Qac rfl (by kernel_rfl) (fun w' hw=>by obtain⟨j,m,p,s,u,x,A⟩:=cl6 hw;go_simp<;>rfl) ?_;refine Qac rfl (by kernel_rfl) (fun w' hw=>by obtain⟨j,m,p,s,u,x,A⟩:=cl6 hw;go_simp<;>rfl) ?_;refine Qac rfl (by kernel_rfl) (fun w' hw=>by obtain⟨j,m,p,s,u,x,A⟩:=cl6 hw;go_simp<;>rfl) ?_;refine Qac rfl (by kernel_rfl) (fun w' hw=>by obtain⟨j,m,p,s,u,x,A⟩:=cl6 hw;go_simp<;>rfl) ?_;refine Qac rfl (by kernel_rfl) (fun w' hw=>by obtain⟨j,m,p,s,u,x,A⟩:=cl6 hw;go_simp<;>rfl) ?_;refine Qac rfl (by kernel_rfl) (fun w' hw=>by obtain⟨j,m,p,s,u,x,A⟩:=cl6 hw;go_simp<;>rfl) ?_;refine Qac rfl (by kernel_rfl) (fun w' hw=>by obtain⟨j,m,p,s,u,x,A⟩:=cl6 hw;go_simp<;>rfl) ?_;refine Qac rfl (by kernel_rfl) (fun w' hw=>by obtain⟨j,m,p,s,u,x,A⟩:=cl6 hw;go_simp<;>rfl) ?_;refine Qac (v:=.bool true) rfl (by kernel_rfl) (fun _ _=>by go_simp<;>rfl) ?_;refine Qac (v:=.bool true) rfl (by kernel_rfl) (fun _ _=>by go_simp<;>rfl) ?_;refine Qbc (Qa V) (W _ _ ?_);clear W PP;simp[Act.put,Array.setIfInBounds];obtain⟨j,m,p,s,u,x,A⟩:=cl6 (Qa V);obtain⟨E,D⟩:=JE ((G.setCell (Ja rb 1) (Ji ((a:Int)+1))).drew);have T:Rr rb g cap l E (a+1) d i 0 0:=by
   have:=(Qa HR).setA (a':=a+1) (Qa HM);rw[D];exact this
  have c:Kp rb w E:=by rw[D];exact(Qa a9).trans (Kp.set _ _ _ _)
  have S:∀q,q≠rb->E.heap[q]?=G.drew.heap[q]?:=fun q F=>by rw[D];show(G.setCell (Ja rb 1) (Ji ((a:Int)+1))).heap[q]?=G.heap[q]?;exact hpS F
  obtain⟨hA,O,Y,X⟩:=Qa HN;have m1:=(S _ hA).trans Y;have R:=(S _ O).trans X;have L1:=tk_ld m1;have S1:=Qmy (new:=#[Ji t.kind,str t.text,Ji t.num,Ji (t.at_:Int)]) R rfl rfl (by simp[Value.oneCell',str]);obtain⟨B,b⟩:=JE (E.setRow w.heap.size #[Ji t.kind,str t.text,Ji t.num,Ji (t.at_:Int)]);rw[<- b]at S1;have L:∀q,q≠w.heap.size->B.heap[q]?=E.heap[q]?:=fun q F=>by rw[b];exact setRow_other _ _ _ _ F
  have M:B.heap[w.heap.size]?=some (.cells #[Ji t.kind,str t.text,Ji t.num,Ji (t.at_:Int)] 73 (0,0)):=by rw[b];exact setRow_heap _ _ _ _ _ _ R
  have s5:B.heap.size=E.heap.size:=by rw[b,size_setRow]
  have J:Kp rb w B:=⟨by rw[b];exact c.os,by rw[b];exact c.tape,by rw[b];exact c.output,by rw[s5];exact c.size,fun q F U=>(L q (by omega)).trans (c.block q F U)⟩;have I:=T.move (w':=B) (by omega) (L rb O.symm) (L g (Qa a8));have HF:=hide (Ya I (Ya J M));clear m1 R S L b s5 J I T c hA O Y X M;subst D;go_wp2_with fail;obtain⟨I,J,M⟩:=Qa HF;obtain⟨a2,a3,a4,a5,zf⟩:=cl4 M;refine bodyPost_ret (v:=tkA t) (by simp[results,Tryz.results61,go_sem,a2,a3,a4,a5]) rfl ?_;exact⟨_,_,_,_,_,rfl,rfl,⟨rfl,rfl,.inl ⟨rfl,Qa HM,rfl⟩⟩,I,J⟩
 have HM:=hide (show ¬a+1<l.length by omega);have ah:=Qgt n (by omega) (by omega);have ab:¬((a:Int)<(n:Int) - 1):=by omega
 clear U;go_wp2_with fail;refine Qba (md:=mLRpc0) (fun w'=>w'.heap[rb]?=some (.cells #[.slice (Js g) n cap,Ji (a:Int),Ji (d:Int),Ji (i:Int),Ji 0,Ji 0] 75 (0,0))) mixedO (by kernel_rfl) rfl (by kernel_rfl) (fun PP W=>?_);refine Qac rfl (by kernel_rfl) (fun _ _=>by go_simp<;>rfl) ?_;refine Qal rfl (Qa V) (fun K hK=>?_);go_simp;refine Z.mono ?_;clear Z;rintro en _⟨rfl,rfl⟩;show K _ _;refine hK _ _ ?_;clear hK K;refine Qac rfl (by kernel_rfl) (fun _ _=>by go_simp<;>rfl) ?_;refine Qac rfl (by kernel_rfl) (fun w' hw=>by obtain⟨j,m,p,s,u,x,A⟩:=cl6 hw;go_simp<;>rfl) ?_;refine Qac rfl (by kernel_rfl) (fun w' hw=>by obtain⟨j,m,p,s,u,x,A⟩:=cl6 hw;go_simp<;>rfl) ?_;refine Qac rfl (by kernel_rfl) (fun w' hw=>by obtain⟨j,m,p,s,u,x,A⟩:=cl6 hw;go_simp<;>rfl) ?_;refine Qac rfl (by kernel_rfl) (fun w' hw=>by obtain⟨j,m,p,s,u,x,A⟩:=cl6 hw;go_simp<;>rfl) ?_;refine Qac rfl (by kernel_rfl) (fun w' hw=>by obtain⟨j,m,p,s,u,x,A⟩:=cl6 hw;go_simp<;>rfl) ?_;refine Qac rfl (by kernel_rfl) (fun w' hw=>by obtain⟨j,m,p,s,u,x,A⟩:=cl6 hw;go_simp<;>rfl) ?_;refine Qac rfl (by kernel_rfl) (fun w' hw=>by obtain⟨j,m,p,s,u,x,A⟩:=cl6 hw;go_simp<;>rfl) ?_;refine Qac rfl (by kernel_rfl) (fun w' hw=>by obtain⟨j,m,p,s,u,x,A⟩:=cl6 hw;go_simp<;>rfl) ?_;refine Qac rfl (by kernel_rfl) (fun w' hw=>by obtain⟨j,m,p,s,u,x,A⟩:=cl6 hw;go_simp<;>rfl) ?_;refine Qac rfl (by kernel_rfl) (fun w' hw=>by obtain⟨j,m,p,s,u,x,A⟩:=cl6 hw;go_simp<;>rfl) ?_;refine Qac (v:=.bool false) rfl (by kernel_rfl) (fun _ _=>by go_simp<;>rfl) ?_;refine Qac (v:=.bool false) rfl (by kernel_rfl) (fun _ _=>by go_simp<;>rfl) ?_;refine Qbc (Qa V) (W _ _ ?_);clear W PP;simp[Act.put,Array.setIfInBounds];obtain⟨E,D⟩:=JE G.drew;have T:=Qa HR;rw[<- D]at T;have c:=Qa a9;rw[<- D]at c;have S:∀q,q≠rb->E.heap[q]?=G.drew.heap[q]?:=fun q F=>by rw[D]
 rw[<- D];clear D;obtain⟨hA,O,Y,X⟩:=Qa HN;have m1:=(S _ hA).trans Y;have R:=(S _ O).trans X;have L1:=tk_ld m1;have S1:=Qmy (new:=#[Ji t.kind,str t.text,Ji t.num,Ji (t.at_:Int)]) R rfl rfl (by simp[Value.oneCell',str]);obtain⟨B,b⟩:=JE (E.setRow w.heap.size #[Ji t.kind,str t.text,Ji t.num,Ji (t.at_:Int)]);rw[<- b]at S1;have L:∀q,q≠w.heap.size->B.heap[q]?=E.heap[q]?:=fun q F=>by rw[b];exact setRow_other _ _ _ _ F
 have M:B.heap[w.heap.size]?=some (.cells #[Ji t.kind,str t.text,Ji t.num,Ji (t.at_:Int)] 73 (0,0)):=by rw[b];exact setRow_heap _ _ _ _ _ _ R
 have s5:B.heap.size=E.heap.size:=by rw[b,size_setRow]
 have J:Kp rb w B:=⟨by rw[b];exact c.os,by rw[b];exact c.tape,by rw[b];exact c.output,by rw[s5];exact c.size,fun q F U=>(L q (by omega)).trans (c.block q F U)⟩;have I:=T.move (w':=B) (by omega) (L rb O.symm) (L g (Qa a8));have HF:=hide (Ya I (Ya J M));clear m1 R S L b s5 J I T c hA O Y X M;go_wp2_with fail;obtain⟨I,J,M⟩:=Qa HF;obtain⟨a2,a3,a4,a5,zf⟩:=cl4 M;refine bodyPost_ret (v:=tkA t) (by simp[results,Tryz.results61,go_sem,a2,a3,a4,a5]) rfl ?_;exact⟨_,_,_,_,_,rfl,rfl,⟨rfl,rfl,.inr ⟨rfl,fun _=>Qa HM⟩⟩,I,J⟩
end
section
open Go.RowKit Go.Maps
theorem Rr.more{rb g cap a d i:Nat}{l:List Tok}{w:World}{y f:Int}(h:Rr rb g cap l w a d i y f){t:Tok}(ht:l[a]?=some t)(hk:t.kind≠0):a+1<l.length:=by
 have:=h.lt;by_cases e:a+1<l.length
 ·exact e
 have b:l.length - 1=a:=by omega
 exact absurd (h.last t (by rw[b];exact ht)) hk
theorem Qch{rb g cap a d i:Nat}{l:List Tok}{w:World}{y f:Int}(h:Rr rb g cap l w a d i y f)(s:ByteArray):
  Calls Tryz.prog 56 #[.pointer (Js rb),.string s] w fun en w'=>∃b,en = .returned (.bool b)/\(b=true->y=0/\a+1<l.length)/\Below w.heap.size w w':=by
 have j:=Qaw h;obtain⟨t,B⟩:=h.tok;have D:∀w',Below w.heap.size w w'->Calls Tryz.prog 22 #[.pointer (Js rb)] w' fun en v=>en = .returned (.agg #[Ji t.kind,str t.text,Ji t.num,Ji (t.at_:Int)])/\Below w'.heap.size w' v:=fun w' L=>Qap (h.later L) B;obtain⟨E,A⟩:∃E:Ending->World->Prop,E=fun en w'=>∃b,en = .returned (.bool b)/\(b=true->y=0/\a+1<l.length)/\Below w.heap.size w w':=⟨_,rfl⟩;rw[<- A];have z:=hide A;have I:=hide (fun p:t.kind≠0=>h.more B p);have x:=hide D;clear A h B D;by_cases q:y=0
 rotate_left
 ·
  rw[decide_eq_false q]at j;clear q;go_enter Tryz.func56,Tryz.ntmps56;go_wp2_with fail;refine j.mono ?_;clear j;rintro en _⟨rfl,rfl⟩;go_wp2_with fail;rw[Qa z];exact⟨_,rfl,fun e=>(by cases e),Below.refl _ _⟩
 rw[decide_eq_true q]at j;have J:=hide q;clear q;by_cases p:t.kind=4
 ·
  have K:(t.kind==4)=true:=beq_iff_eq.2 p;have G:=hide (Qa I (by omega));have c:=Qa x w (Below.refl _ _);clear p;go_enter Tryz.func56,Tryz.ntmps56;go_wp2_with fail;refine j.mono ?_;clear j;rintro en _⟨rfl,rfl⟩;go_wp2_with fail;refine c.mono ?_;clear c;rintro en v⟨rfl,n⟩;have c:=Qa x v n;have u:=hide n;clear n;go_wp2_with fail;rename_i m;refine m _ _ ?_;clear m;go_wp2_with fail;refine c.mono ?_;clear c;rintro en M⟨rfl,F⟩;have H:=hide ((Qa u).trans (F.mono (Qa u).size));clear F;go_wp2_with fail;rename_i m;refine m _ _ ?_;clear m;go_wp2_with fail;rw[Qa z];exact⟨_,rfl,fun _=>⟨Qa J,Qa G⟩,Qa H⟩
 have K:(t.kind==4)=false:=beq_eq_false_iff_ne.2 p;have c:=Qa x w (Below.refl _ _);clear p;go_enter Tryz.func56,Tryz.ntmps56;go_wp2_with fail;refine j.mono ?_;clear j;rintro en _⟨rfl,rfl⟩;go_wp2_with fail;refine c.mono ?_;clear c;rintro en v⟨rfl,n⟩;have u:=hide n;clear n;go_wp2_with fail;rename_i m;refine m _ _ ?_;clear m;go_wp2_with fail;rw[Qa z];exact⟨_,rfl,fun e=>(by cases e),Qa u⟩
end
end Go.Proofs.YtmfpbepifnedjaaGreat
