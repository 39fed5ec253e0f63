/- syn. -/
import Derived.Test.YtkhndlnadhggkaaGreatAp01
import Derived.Test.YtkhndlnadhggkaaGreatAp03
import Derived.Test.YtkhndlnadhggkaaGreatAp02
import Derived.Deep.WholeRow
import Derived.Defers
import Derived.Recover
import Derived.Laws.Pointers
import Derived.Test.YtkhndlnadhggkaaGreatRows
import Derived.ProofKit
import Derived.LaidMore
import Derived.OpenShut
import Derived.Stop.Joined
import Derived.Stop.LaidErr
import Derived.Lib.LaidTab
import Derived.HandedShaped
set_option maxRecDepth 100000
set_option maxHeartbeats 32000000
namespace Go.Proofs.YtkhndlnadhggkaaGreat
section
open Go.RowKit Go.Maps
def PTy:PS Typ:=fun S w cs x=>∃xa xn xc,cs=[str x.name,str x.sub,.slice xa xn xc,.int .i64 x.at_]/\LsAt PC 2 S w (.slice xa xn xc) x.ctors
theorem Qbe:PSok PTy where
 mono:=fun _ _ _ _ _ ⟨xa,xn,xc,h1,h2⟩ hS=>⟨xa,xn,xc,h1,h2.mono Qcg hS⟩
 same:=fun _ _ _ _ _ ⟨xa,xn,xc,h1,h2⟩ hs hb=>⟨xa,xn,xc,h1,h2.same Qcg hs hb⟩
def PDc:PS Dcl:=fun S w cs x=>∃xa xn xc,cs=[str x.name,.slice xa xn xc,.bool x.input,.bool x.output,.int .i64 x.at_]/\LsAt PF 2 S w (.slice xa xn xc) x.cols
theorem Qav:PSok PDc where
 mono:=fun _ _ _ _ _ ⟨xa,xn,xc,h1,h2⟩ hS=>⟨xa,xn,xc,h1,h2.mono Qbb hS⟩
 same:=fun _ _ _ _ _ ⟨xa,xn,xc,h1,h2⟩ hs hb=>⟨xa,xn,xc,h1,h2.same Qbb hs hb⟩
def PIn:PS Ini:=fun _ _ cs x=>cs=[str x.name,str x.comp,.int .i64 x.at_]
theorem Qbg:PSok PIn where
 mono:=fun _ _ _ _ _ h _=>h
 same:=fun _ _ _ _ _ h _ _=>h
def PCl:PS Cls:=fun S w cs x=>∃aa an ac ba bn bc,cs=[str x.head.rel,.slice aa an ac,.int .i64 x.head.at_,.slice ba bn bc,.int .i64 x.at_]/\LsAt PE 5 S w (.slice aa an ac) x.head.args/\LsAt PLt 16 S w (.slice ba bn bc) x.body
theorem Qaw:PSok PCl where
 mono:=fun _ _ _ _ _ ⟨aa,an,ac,ba,bn,bc,h1,h2,h3⟩ hS=>⟨aa,an,ac,ba,bn,bc,h1,h2.mono Qag hS,h3.mono Qb hS⟩
 same:=fun _ _ _ _ _ ⟨aa,an,ac,ba,bn,bc,h1,h2,h3⟩ hs hb=>⟨aa,an,ac,ba,bn,bc,h1,h2.same Qag hs hb,h3.same Qb hs hb⟩
def PSt:PS Txt:=fun _ _ cs x=>cs=[str x]
theorem Qao:PSok PSt where
 mono:=fun _ _ _ _ _ h _=>h
 same:=fun _ _ _ _ _ h _ _=>h
abbrev Cp:=Txt×List Txt×Pg×Int
inductive PgS (S:Nat->Prop) (w:World):List Value->Pg->Prop
 |mk (ts:List Typ) (ds:List Dcl) (cs:List Cp) (is:List Ini) (ls:List Cls) (vt vd vi vl:Value) (ao:Option Addr) (cap:Nat) (css:List (List Value)) (vb:Nat->Value) (bd:Nat->List Value)
   (hT:LsAt PTy 4 S w vt ts) (hD:LsAt PDc 5 S w vd ds) (hI:LsAt PIn 3 S w vi is) (hL:LsAt PCl 5 S w vl ls)
   (h1:cs.length<=cap) (h2:cap<=maxLen) (h3:css.length=cs.length)
   (h4:∀(j:Nat) (x:Cp),cs[j]?=some x->css[j]?=some (str x.1 :: vb j :: (bd j++[.int .i64 x.2.2.2]))/\(bd j).length=5/\LsAt PSt 1 S w (vb j) x.2.1)
   (h6:∀(j:Nat) (x:Cp),cs[j]?=some x->PgS S w (bd j) x.2.2.1)
   (h5:cs≠[] -> ∃b,ao=some ⟨b,0,none⟩/\S b/\b<w.heap.size /\ ∀j c,css.flatten[j]?=some c->w.cell? ⟨b,j,none⟩=some c):
   PgS S w [vt,vd,.slice ao cs.length cap,vi,vl] (.mk ts ds cs is ls)
theorem Qal:PSok (α :=Pg) (fun S w cs x=>PgS S w cs x) where
 mono:=fun S r w cs x h d=>by
  induction h with
  |mk ts ds cs is ls vt vd vi vl ao cap css vb bd hT hD hI hL h1 h2 h3 h4 h6 h5 ih=>
   refine .mk ts ds cs is ls vt vd vi vl ao cap css vb bd (hT.mono Qbe d) (hD.mono Qav d) (hI.mono Qbg d) (hL.mono Qaw d) h1 h2 h3 (fun j x a=>⟨(h4 j x a).1,(h4 j x a).2.1,(h4 j x a).2.2.mono Qao d⟩) ih (fun q=>?_);obtain⟨b,n,i,l,o⟩:=h5 q;exact⟨b,n,d b l i,l,o⟩
 same:=fun S w s cs x h g f=>by
  induction h with
  |mk ts ds cs is ls vt vd vi vl ao cap css vb bd hT hD hI hL h1 h2 h3 h4 h6 h5 ih=>
   refine .mk ts ds cs is ls vt vd vi vl ao cap css vb bd (hT.same Qbe g f) (hD.same Qav g f) (hI.same Qbg g f) (hL.same Qaw g f) h1 h2 h3 (fun j x a=>⟨(h4 j x a).1,(h4 j x a).2.1,(h4 j x a).2.2.same Qao g f⟩) ih (fun q=>?_);obtain⟨b,n,i,l,o⟩:=h5 q;refine⟨b,n,i,by omega,fun j c a=>?_⟩;have:=o j c a;simp only[World.cell?]at this ⊢;rw[f b i l];exact this
def PCo:PS Cp:=fun S w cs x=>∃vb bd,cs=str x.1 :: vb :: (bd++[.int .i64 x.2.2.2])/\bd.length=5/\LsAt PSt 1 S w vb x.2.1/\PgS S w bd x.2.2.1
theorem Qbj:PSok PCo where
 mono:=fun _ _ _ _ _ ⟨vb,bd,h1,h2,h3,h4⟩ hS=>⟨vb,bd,h1,h2,h3.mono Qao hS,Qal.mono _ _ _ _ _ h4 hS⟩
 same:=fun _ _ _ _ _ ⟨vb,bd,h1,h2,h3,h4⟩ hs hb=>⟨vb,bd,h1,h2,h3.same Qao hs hb,Qal.same _ _ _ _ _ h4 hs hb⟩
theorem Qji{S:Nat->Prop}{w:World}{ts:List Typ}{ds:List Dcl}{cs:List Cp}{is:List Ini}{ls:List Cls}{vt vd vc vi vl:Value}(hT:LsAt PTy 4 S w vt ts)(hD:LsAt PDc 5 S w vd ds)(hC:LsAt PCo 8 S w vc cs)(hI:LsAt PIn 3 S w vi is)(hL:LsAt PCl 5 S w vl ls):PgS S w [vt,vd,vc,vi,vl] (.mk ts ds cs is ls):=by
 obtain⟨i,cap,b,rfl,t,u,f,v⟩:=hC;have h:∀j:Nat,∃q:Value×List Value,∀x:Cp,cs[j]?=some x->b[j]?=some (str x.1 :: q.1 :: (q.2++[Ji x.2.2.2]))/\q.2.length=5/\LsAt PSt 1 S w q.1 x.2.1/\PgS S w q.2 x.2.2.1:=fun j=>by
  by_cases c:j<cs.length
  ·
   have g:j<b.length:=by rw[f.1];exact c
   obtain⟨_,y,l,n,o,r,s⟩:=f.2 j cs[j] b[j] (List.getElem?_eq_getElem c) (List.getElem?_eq_getElem g);refine⟨(y,l),fun x a=>?_⟩;rw[List.getElem?_eq_getElem c]at a;cases a
   exact⟨by rw[List.getElem?_eq_getElem g,n],o,r,s⟩
  ·exact⟨(Ji 0,[]),fun x a=>absurd (List.getElem?_eq_some_iff.1 a).1 c⟩
 obtain⟨q,d⟩:=Classical.axiomOfChoice h;exact .mk ts ds cs is ls vt vd vi vl i cap b (fun j=>(q j).1) (fun j=>(q j).2) hT hD hI hL t u f.1 (fun j x a=>⟨(d j x a).1,(d j x a).2.1,(d j x a).2.2.1⟩) (fun j x a=>(d j x a).2.2.2) v
theorem PgS.cells{S:Nat->Prop}{w:World}{v:List Value}{p:Pg}(h:PgS S w v p):∃vt vd vc vi vl,v=[vt,vd,vc,vi,vl]/\LsAt PTy 4 S w vt p.types/\LsAt PDc 5 S w vd p.decls/\LsAt PCo 8 S w vc p.comps/\LsAt PIn 3 S w vi p.inits/\LsAt PCl 5 S w vl p.clauses:=by
 cases h with
 |mk ts ds cs is ls vt vd vi vl ao cap css vb bd hT hD hI hL h1 h2 h3 h4 h6 h5=>
  refine⟨_,_,_,_,_,rfl,hT,hD,⟨ao,cap,css,rfl,h1,h2,⟨h3,fun j x c d b=>?_⟩,h5⟩,hI,hL⟩;obtain⟨f,a,g⟩:=h4 j x d;rw[f]at b;cases b
  exact⟨by simp[a],vb j,bd j,rfl,a,g,h6 j x d⟩
def Row{α : Type}(p:PS α)(k:Nat)(T:TypeId)(base:Nat)(S:Nat->Prop)(w:World)(sl:Value)(acc:List α):Prop:=∃css,w.ownsRow base T k sl acc.length css.flatten/\All p k S w css acc
section
variable {α : Type}{p:PS α}{k:Nat}{T:TypeId}{base:Nat}
theorem Row.nil(S:Nat->Prop)(w:World):Row p k T base S w (Jn) []:=⟨[],World.ownsRow_nil _ _ _ _,⟨rfl,fun j x b a=>by simp at a⟩⟩
theorem Row.lt{S:Nat->Prop}{w:World}{sl:Value}{acc:List α}(h:Row p k T base S w sl acc):∀b,some b=sl.ownBlock->base<=b/\b<w.heap.size:=fun b e=>by
 obtain⟨c,a,_⟩:=h;exact World.ownsRow.lt a b e.symm
theorem Row.slice{S:Nat->Prop}{w:World}{sl:Value}{acc:List α}(h:Row p k T base S w sl acc):∃a c,sl = .slice a acc.length c:=by
 obtain⟨f,d,_⟩:=h;rcases d.2 with ⟨e,b⟩|⟨g,cap,i,e,_⟩
 ·exact⟨none,0,by rw[e,b]⟩
 ·exact⟨_,_,e⟩
theorem Row.move(hp:PSok p){S S':Nat->Prop}{w w':World}{sl:Value}{acc:List α}(h:Row p k T base S w sl acc)(hs:w.heap.size<=w'.heap.size)(hb:∀b,base<=b->b<w.heap.size->(S b∨some b=sl.ownBlock)->w'.heap[b]?=w.heap[b]?)(hB:∀b,S b->base<=b)(hS:∀b,b<w.heap.size->S b->S' b):Row p k T base S' w' sl acc:=by
 obtain⟨j,i,q⟩:=h;refine⟨j,⟨i.1,?_⟩,?_⟩
 ·
  rcases i.2 with e|⟨g,cap,l,c,d,f,n⟩
  ·exact .inl e
  ·exact .inr ⟨g,cap,l,c,d,(hb g d (Qaa f) (.inr (by rw[c];rfl))).trans f,n⟩
 have o:=(q.mono hp (fun b a hs=>(⟨hs,a⟩:S b/\b<w.heap.size))).same hp hs (fun b hs a=>hb b (hB b hs.1) a (.inl hs.1));exact o.mono hp (fun b _ hs=>hS b hs.2 hs.1)
theorem Row.ls{S:Nat->Prop}{w:World}{sl:Value}{acc:List α}(hp:PSok p)(h:Row p k T base S w sl acc)(hS:∀b,S b->base<=b):LsAt p k (fun b=>base<=b) w sl acc:=by
 obtain⟨f,c,a⟩:=h;exact LsAt.of c (a.mono hp (fun b _ d=>hS b d))
theorem Row.app(hp:PSok p){ST:TypeId}{i0:TypeInfo}{z:Value}{by_:Nat}(ht:Tryz.prog.underlying ST=some (.slice T))(hi:Tryz.prog.info? T=some i0)(hz:i0.zero=some z)(hsz:i0.size=k)(hby:i0.bytes=by_)(hzc:z.cells.size=k)(hk:0<k)(hb6:by_<=1000)
  {S:Nat->Prop}{w2:World}{sl:Value}{acc:List α}(h:Row p k T base S w2 sl acc)(hS:∀b,S b->some b≠sl.ownBlock){x:α}{cs:List Value}(hl:cs.length=k)(h1:∀c∈cs,c.oneCell'=true)(hx:p S w2 cs x)(hbase:base<=w2.heap.size)(hf:acc.length<=65536)(zb:Nat)(hzb:w2.heap[zb]?=some (.cells cs.toArray T (0,0))):
  ∃r w8,(Builtin.append_ #[ST,ST] ST #[sl,.slice (Js zb) 1 1]).run Tryz.prog w2 = .ok r w8/\w2.grownBy w8 sl.ownBlock/\(r.ownBlock=sl.ownBlock∨r.ownBlock=some w2.heap.size)/\(∃g c,r = .slice (Js g) (acc.length+1) c)/\Row p k T base S w8 r (acc++[x]):=by
 obtain⟨d,v,s⟩:=h
 obtain⟨r,w8,w,i,a,_,n⟩:=run_append_own_at (P:=Tryz.prog) w2 base ST ST T i0 z k by_ ht hi hz hsz hby hzc hk sl acc.length d.flatten v (Ja zb 0) 1 1 cs (by rw[hl,Nat.one_mul]) (fun j u t=>by
  have o:((Ja zb 0):Addr).add j=(Ja zb j):=by cases j<;>simp[Addr.add]
  rw[o,Qad hzb]
  simpa using t) h1 (by unfold maxLen;omega) (by
  have q:acc.length+1<=65537:=by omega
  have:=Nat.mul_le_mul q hb6
  omega) hbase
 refine⟨r,w8,w,a,n,?_,d++[cs],by rw[List.length_append];simpa using i,?_⟩
 ·
  rcases i.2 with ⟨_,e⟩|⟨g,cap,A,e,_⟩
  ·omega
  ·exact⟨_,_,e⟩
 have f:∀b,S b->b<w2.heap.size->w8.heap[b]?=w2.heap[b]?:=fun b y l=>a.block b l (hS b y);exact(s.same hp a.size f).snoc hl (hp.same _ _ _ _ _ hx a.size f)
end
def P5S(base:Nat)(v0 v1 v2 v3 v4:Value)(b:Nat):Prop:=base<=b/\some b≠v0.ownBlock/\some b≠v1.ownBlock/\some b≠v2.ownBlock/\some b≠v3.ownBlock/\some b≠v4.ownBlock
def Apt(u v:Value):Prop:=∀b,some b=u.ownBlock->some b≠v.ownBlock
theorem Apt.symm{u v:Value}(h:Apt u v):Apt v u:=fun b a c=>h b c a
structure P5(pb base:Nat)(w:World)(v0 v1 v2 v3 v4:Value)(p:Pg):Prop where
 box:w.heap[pb]?=some (.cells #[v0,v1,v2,v3,v4] 28 (0,0))
 lt:pb<base
 r0:Row PTy 4 54 base (P5S base v0 v1 v2 v3 v4) w v0 p.types
 r1:Row PDc 5 63 base (P5S base v0 v1 v2 v3 v4) w v1 p.decls
 r2:Row PCo 8 83 base (P5S base v0 v1 v2 v3 v4) w v2 p.comps
 r3:Row PIn 3 93 base (P5S base v0 v1 v2 v3 v4) w v3 p.inits
 r4:Row PCl 5 45 base (P5S base v0 v1 v2 v3 v4) w v4 p.clauses
 a01:Apt v0 v1
 a02:Apt v0 v2
 a03:Apt v0 v3
 a04:Apt v0 v4
 a12:Apt v1 v2
 a13:Apt v1 v3
 a14:Apt v1 v4
 a23:Apt v2 v3
 a24:Apt v2 v4
 a34:Apt v3 v4
structure KB(rb pb base:Nat)(w w':World):Prop where
 os:w'.os=w.os
 tape:w'.tape=w.tape
 output:w'.output=w.output
 size:w.heap.size<=w'.heap.size
 block:∀k,k<base->k≠rb->k≠pb->w'.heap[k]?=w.heap[k]?
theorem KB.trans{rb pb base:Nat}{a b c:World}(h:KB rb pb base a b)(k:KB rb pb base b c):KB rb pb base a c:=⟨k.os.trans h.os,k.tape.trans h.tape,k.output.trans h.output,Nat.le_trans h.size k.size,fun i d g f=>(k.block i d g f).trans (h.block i d g f)⟩
theorem KB.of_kp{rb pb base:Nat}{w w':World}(h:Kp rb w w')(hb:base<=w.heap.size):KB rb pb base w w':=⟨h.os,h.tape,h.output,h.size,fun k b a _=>h.block k (by omega) a⟩
theorem P5.kp{rb pb base:Nat}{w w':World}{v0 v1 v2 v3 v4:Value}{p:Pg}(h:P5 pb base w v0 v1 v2 v3 v4 p)(k:Kp rb w w')(hr:rb<pb):P5 pb base w' v0 v1 v2 v3 v4 p:=by
 have f:=h.lt;refine⟨k.keep h.box (by omega),h.lt,?_,?_,?_,?_,?_,h.a01,h.a02,h.a03,h.a04,h.a12,h.a13,h.a14,h.a23,h.a24,h.a34⟩
 ·exact h.r0.move Qbe k.size (fun b a c _=>k.block b c (by omega)) (fun b a=>a.1) (fun b _ d=>d)
 ·exact h.r1.move Qav k.size (fun b a c _=>k.block b c (by omega)) (fun b a=>a.1) (fun b _ d=>d)
 ·exact h.r2.move Qbj k.size (fun b a c _=>k.block b c (by omega)) (fun b a=>a.1) (fun b _ d=>d)
 ·exact h.r3.move Qbg k.size (fun b a c _=>k.block b c (by omega)) (fun b a=>a.1) (fun b _ d=>d)
 ·exact h.r4.move Qaw k.size (fun b a c _=>k.block b c (by omega)) (fun b a=>a.1) (fun b _ d=>d)
theorem info50:∃i0:TypeInfo,Tryz.prog.info? 54=some i0/\i0.zero=some (.agg #[Je,Je,Jn,Ji 0])/\i0.size=4/\i0.bytes=64:=by
 have h:(Tryz.prog.info? 54).map (fun i=>(i.zero,i.size,i.bytes))=some (some (.agg #[Je,Je,Jn,Ji 0]),4,64):=by kernel_rfl
 obtain⟨i0,b,a⟩:=Option.map_eq_some_iff.1 h;simp only[Prod.mk.injEq]at a;exact⟨i0,b,a⟩
theorem info51:∃i0:TypeInfo,Tryz.prog.info? 63=some i0/\i0.zero=some (.agg #[Je,Jn,.bool false,.bool false,Ji 0])/\i0.size=5/\i0.bytes=56:=by
 have h:(Tryz.prog.info? 63).map (fun i=>(i.zero,i.size,i.bytes))=some (some (.agg #[Je,Jn,.bool false,.bool false,Ji 0]),5,56):=by kernel_rfl
 obtain⟨i0,b,a⟩:=Option.map_eq_some_iff.1 h;simp only[Prod.mk.injEq]at a;exact⟨i0,b,a⟩
theorem info52:∃i0:TypeInfo,Tryz.prog.info? 83=some i0/\i0.zero=some (.agg #[Je,Jn,Jn,Jn,Jn,Jn,Jn,Ji 0])/\i0.size=8/\i0.bytes=168:=by
 have h:(Tryz.prog.info? 83).map (fun i=>(i.zero,i.size,i.bytes))=some (some (.agg #[Je,Jn,Jn,Jn,Jn,Jn,Jn,Ji 0]),8,168):=by kernel_rfl
 obtain⟨i0,b,a⟩:=Option.map_eq_some_iff.1 h;simp only[Prod.mk.injEq]at a;exact⟨i0,b,a⟩
theorem info53:∃i0:TypeInfo,Tryz.prog.info? 93=some i0/\i0.zero=some (.agg #[Je,Je,Ji 0])/\i0.size=3/\i0.bytes=40:=by
 have h:(Tryz.prog.info? 93).map (fun i=>(i.zero,i.size,i.bytes))=some (some (.agg #[Je,Je,Ji 0]),3,40):=by kernel_rfl
 obtain⟨i0,b,a⟩:=Option.map_eq_some_iff.1 h;simp only[Prod.mk.injEq]at a;exact⟨i0,b,a⟩
theorem info54:∃i0:TypeInfo,Tryz.prog.info? 45=some i0/\i0.zero=some (.agg #[Je,Jn,Ji 0,Jn,Ji 0])/\i0.size=5/\i0.bytes=80:=by
 have h:(Tryz.prog.info? 45).map (fun i=>(i.zero,i.size,i.bytes))=some (some (.agg #[Je,Jn,Ji 0,Jn,Ji 0]),5,80):=by kernel_rfl
 obtain⟨i0,b,a⟩:=Option.map_eq_some_iff.1 h;simp only[Prod.mk.injEq]at a;exact⟨i0,b,a⟩
end
section

def IK{α : Type}(p:Pr α):Prop:=∀l i x l' i',p l i = .ok x l' i'->i'=i
section
variable {e:Nat}

def Sst{α : Type}(p:Pr α):Prop:=∀l i x l' i',p l i = .ok x l' i'->l'.length<l.length

def compC(e:Nat):Nat->Pr (Txt×List Txt×Pg×Int)
 | 0=>refuse e 4
 |d+1=>compB e (progD e d false)
def Gr{α : Type}(p:Pr α):Prop:=∀l i x l' i',p l i = .ok x l' i'->l'.length<=l.length/\i<=i'/\(i<=96->i'<=96)
def GrS{α : Type}(p:Pr α):Prop:=∀l i x l' i',p l i = .ok x l' i'->l'.length<l.length/\i<=i'/\(i<=96->i'<=96)

def Few(p:Pg)(n:Nat):Prop:=p.types.length<=n/\p.decls.length<=n/\p.comps.length<=n/\p.inits.length<=n/\p.clauses.length<=n
end
end
section
open Go.RowKit Go.Maps
abbrev coZ:Obj:=.cells #[.string ⟨#[]⟩,.slice none 0 0,.slice none 0 0,.slice none 0 0,.slice none 0 0,.slice none 0 0,.slice none 0 0,.int .i64 0] 83
theorem cl8{w:World}{b:Nat}{T:TypeId}{v0 v1 v2 v3 v4 v5 v6 v7:Value}(h:w.heap[b]?=some (.cells #[v0,v1,v2,v3,v4,v5,v6,v7] T (0,0))):
  w.cell? (Ja b 0)=some v0/\w.cell? (Ja b 1)=some v1/\w.cell? (Ja b 2)=some v2/\w.cell? (Ja b 3)=some v3/\w.cell? (Ja b 4)=some v4/\w.cell? (Ja b 5)=some v5/\w.cell? (Ja b 6)=some v6/\w.cell? (Ja b 7)=some v7 /\ ∀o,w.frozen? (Ja b o)=false:=
 ⟨(Qad h 0).trans rfl,(Qad h 1).trans rfl,(Qad h 2).trans rfl,(Qad h 3).trans rfl,(Qad h 4).trans rfl,(Qad h 5).trans rfl,(Qad h 6).trans rfl,(Qad h 7).trans rfl,fun o=>by simp[World.frozen?,h]⟩
def coStore(p v:Value):Sem Unit:=Instr.storeAt 83 p v
theorem Qcx(p v:Value):Instr.storeAt 83 p v=coStore p v:=rfl
def coLoad(x:Value):Sem Value:=Instr.loadAt 83 x
theorem Qdf(x:Value):Instr.loadAt 83 x=coLoad x:=rfl
theorem Qqy:(Tryz.prog.info? 83).map (·.size)=some 8:=by kernel_rfl
theorem LsAt.sl{α : Type}{p:PS α}{k:Nat}{S:Nat->Prop}{w:World}{v:Value}{xs:List α}(h:LsAt p k S w v xs):∃a c,v = .slice a xs.length c:=by
 obtain⟨a,c,_,e,_⟩:=h;exact⟨a,c,e⟩
theorem Qqg{S:Nat->Prop}{w:World}{cs:List Value}{x:Cp}(h:PCo S w cs x):∀c∈cs,c.oneCell'=true:=by
 obtain⟨u,l,rfl,n,i,j⟩:=h;obtain⟨o,q,r,s,t,rfl,a,b,d,f,g⟩:=j.cells;obtain⟨_,_,rfl⟩:=i.sl;obtain⟨_,_,rfl⟩:=a.sl;obtain⟨_,_,rfl⟩:=b.sl;obtain⟨_,_,rfl⟩:=d.sl;obtain⟨_,_,rfl⟩:=f.sl;obtain⟨_,_,rfl⟩:=g.sl;simp[Value.oneCell',str]
def VPg(S:Nat->Prop)(w:World)(v:Value)(x:Pg):Prop:=∃a0 n0 c0 a1 n1 c1 a2 n2 c2 a3 n3 c3 a4 n4 c4,v = .agg #[.slice a0 n0 c0,.slice a1 n1 c1,.slice a2 n2 c2,.slice a3 n3 c3,.slice a4 n4 c4]/\PgS S w [.slice a0 n0 c0,.slice a1 n1 c1,.slice a2 n2 c2,.slice a3 n3 c3,.slice a4 n4 c4] x
def VCo(S:Nat->Prop)(w:World)(v:Value)(x:Cp):Prop:=∃ba bn bc a0 n0 c0 a1 n1 c1 a2 n2 c2 a3 n3 c3 a4 n4 c4,v = .agg #[str x.1,.slice ba bn bc,.slice a0 n0 c0,.slice a1 n1 c1,.slice a2 n2 c2,.slice a3 n3 c3,.slice a4 n4 c4,.int .i64 x.2.2.2]/\PCo S w [str x.1,.slice ba bn bc,.slice a0 n0 c0,.slice a1 n1 c1,.slice a2 n2 c2,.slice a3 n3 c3,.slice a4 n4 c4,.int .i64 x.2.2.2] x
attribute [local go_sem ↓] Qcx Qdf
end
section
open Go.RowKit Go.Maps
attribute [local go_sem ↓] Qcx Qdf
end
section
open Go.RowKit Go.Maps
attribute [local go_sem ↓] Qbi Qbo
end
section
open Go.RowKit Go.Maps
attribute [local go_sem ↓] Qbi Qbo
end
section
open Go.RowKit Go.Maps
attribute [local go_sem ↓] Qbi Qbo
end
section
open Go.RowKit Go.Maps
abbrev clZ:Obj:=.cells #[.string ⟨#[]⟩,.slice none 0 0,.int .i64 0,.slice none 0 0,.int .i64 0] 45
def VCl(S:Nat->Prop)(w:World)(v:Value)(x:Cls):Prop:=∃aa an ac ba bn bc,v = .agg #[str x.head.rel,.slice aa an ac,.int .i64 x.head.at_,.slice ba bn bc,.int .i64 x.at_]/\LsAt PE 5 S w (.slice aa an ac) x.head.args/\LsAt PLt 16 S w (.slice ba bn bc) x.body
end
section
open Go.RowKit
section
variable {P:Program}{ops:Array Oper}{md:Region.Mode}{Q:Exit->Act->World->Prop}{C:Bool->World->Prop}{m:Nat}
def lenT:List (Nat×Nat)->Nat
 | []=>0
 |(_,_+3) :: r=>lenT r+2
 |_ :: r=>lenT r+1
def orderT(md:Region.Mode)(ops:Array Oper)(m:Nat):List (Nat×Nat)->Array Bool->Bool
 | [],listed=>(Region.ready md ops listed).isEmpty&&listed.getD m true
 |(k,0) :: r,listed=>decide (Region.ready md ops listed=[k])&&orderT md ops m r (listed.setIfInBounds k true)
 |(k,1) :: r,listed=>((Region.ready md ops listed).contains k&&Region.free md ops listed k&&decide (m≠k))&&orderT md ops m r (listed.setIfInBounds k true)
 |(k,2) :: r,listed=>((Region.ready md ops listed).contains k&&Region.free md ops listed k&&decide (m≠k) && !(listed.getD m true)&&depB md ops m k)&&orderT md ops m r (listed.setIfInBounds k true)
 |(k,n+3) :: r,listed=>(decide (Region.ready md ops listed=[k,n])&&decide (k≠n)&&decide (Region.ready md ops (listed.setIfInBounds k true)=[n])&&decide (Region.ready md ops (listed.setIfInBounds n true)=[k]))&&orderT md ops m r ((listed.setIfInBounds k true).setIfInBounds n true)
def wpMixT(P:Program)(ops:Array Oper)(m:Nat)(C:Bool->World->Prop)(Q:Exit->Act->World->Prop):Bool->List (Nat×Nat)->Act->World->Prop
 |_,[],a,w=>C true w/\Q .normal a w
 |f,(k,0) :: r,a,w=>C f w/\wpOp P ops Q k (fun a' w'=>wpMixT P ops m C Q (f || k==m) r a' w') a w
 |f,(k,1) :: r,a,w=>∃o v,ops[k]?=some o/\(∀f w,C f w->YieldsAt P ops w o v a)/\wpMixT P ops m C Q f r (a.put o.dst v) w
 |f,(k,2) :: r,a,w=>∃o v,ops[k]?=some o/\(∀w,C false w->YieldsAt P ops w o v a)/\wpMixT P ops m C Q f r (a.put o.dst v) w
 |f,(k,n+3) :: r,a,w=>C f w/\wpOp P ops Q k (fun a' w'=>C (f || k==m) w'/\wpOp P ops Q n (fun a2 w2=>wpMixT P ops m C Q (f || k==m || n==m) r a2 w2) a' w') a w /\
   wpOp P ops Q n (fun a' w'=>C (f || n==m) w'/\wpOp P ops Q k (fun a2 w2=>wpMixT P ops m C Q (f || k==m || n==m) r a2 w2) a' w') a w
end
end
section
open Go.RowKit Go.Maps
theorem mixedO:Tryz.prog.follows .mixedOrders=true:=by kernel_rfl
attribute [local go_sem ↓] Qcx Qdf
end
section
open Go.RowKit Go.Maps
abbrev pgZ:Obj:=.cells #[.slice none 0 0,.slice none 0 0,.slice none 0 0,.slice none 0 0,.slice none 0 0] 28
abbrev ftZ:Obj:=.cells #[.int .i64 0,.int .i64 0] 31
def RdAns(rb:Nat)(w:World)(r:Rs Pg)(en:Ending)(w':World):Prop:=match r with
 | .bad why at_ _=>en = .returned (.tuple #[.agg #[.slice none 0 0,.slice none 0 0,.slice none 0 0,.slice none 0 0,.slice none 0 0],.agg #[.int .i64 why,.int .i64 at_]])/\Kp rb w w'
 | .ok p _ _=>∃v,en = .returned (.tuple #[v,.agg #[.int .i64 0,.int .i64 0]])/\VPg (fun b=>w.heap.size<=b) w' v p/\Kp rb w w'
end
section
open Go.ChangeShapes Go.WideShapes Go.ChangeAt Go.WideMaps Go.WideElems Go.RowKit
section
variable {H:Type}{enc:TypeId×Value->H}
end
theorem own:ownKnob Tryz.prog.godebug=none:=by kernel_rfl
def five:List Tok:=[⟨1,[100,46,112,97,116,104],0,0⟩,⟨4,[40],0,6⟩,⟨2,[],1,7⟩,⟨4,[41],0,8⟩,⟨4,[46],0,9⟩]
structure RowAt(w:World)(g cap:Nat)(toks:List Tok):Prop where
 lt:g<w.heap.size
 le:toks.length<=cap
 cm:cap<=maxLen
 cells:∀(i:Nat) (t:Tok),toks[i]?=some t->w.cell? ⟨g,i*4,none⟩=some (.int .i64 t.kind)/\w.cell? ⟨g,i*4+1,none⟩=some (str t.text)/\w.cell? ⟨g,i*4+2,none⟩=some (.int .i64 t.num)/\w.cell? ⟨g,i*4+3,none⟩=some (.int .i64 (t.at_:Int))
theorem RowAt.later{w w':World}{g cap:Nat}{toks:List Tok}(h:RowAt w g cap toks)(hb:Below w.heap.size w w'):RowAt w' g cap toks:=
 ⟨Nat.lt_of_lt_of_le h.lt hb.size,h.le,h.cm,fun i t a=>by
  have:=h.cells i t a;rw[<- hb.cell (p:=(Ja g (i*4))) h.lt,<- hb.cell (p:=(Ja g (i*4+1))) h.lt,<- hb.cell (p:=(Ja g (i*4+2))) h.lt,<- hb.cell (p:=(Ja g (i*4+3))) h.lt]at this
  exact this⟩
theorem Qgf:∀(l:List Tok) (i:Nat) (t:Tok),l[i]?=some t -> ∀q,q<4->(tokCells l)[i*4+q]?=(tokVals t)[q]?
 | [],i,t,h=>by simp at h
 |x :: l,0,t,h=>fun q hq=>by
  simp at h;subst h;have:tokCells (x :: l)=tokVals x++tokCells l:=rfl;rw[this,Nat.zero_mul,Nat.zero_add,List.getElem?_append_left (by simpa[tokVals] using hq)]
 |x :: l,i+1,t,h=>fun q hq=>by
  have:tokCells (x :: l)=tokVals x++tokCells l:=rfl;have e:(tokVals x).length=4:=rfl;rw[this,List.getElem?_append_right (by rw[e];omega),e,show(i+1)*4+q - 4=i*4+q by omega];exact Qgf l i t (by simpa using h) q hq
theorem row_of{w:World}{B:Nat}{v:Value}{toks:List Tok}(h:w.ownsRow B 73 4 v toks.length (tokCells toks)):
  (v = Jn/\toks=[]) ∨ ∃g cap,v = .slice (Js g) toks.length cap/\RowAt w g cap toks:=by
 rcases h.2 with ⟨b,o⟩|⟨g,cap,j,c,y,d,n,l,x,s⟩
 ·exact .inl ⟨b,List.eq_nil_of_length_eq_zero o⟩
 refine .inr ⟨g,cap,c,(Array.getElem?_eq_some_iff.1 d).1,n,l,fun i t f=>?_⟩;have u:i<toks.length:=(List.getElem?_eq_some_iff.1 f).1;have a:∀q v,q<4->(tokVals t)[q]?=some v->w.cell? (Ja g (i*4+q))=some v:=fun q v r c=>by
  rw[Lib.cell_of_heap d,<- Array.getElem?_toList];have b:(j.toList.take (toks.length*4))[i*4+q]?=(tokCells toks)[i*4+q]?:=by rw[s]
  rw[List.getElem?_take,if_pos (by omega)]at b;rw[b,Qgf toks i t f q r,c]
 exact⟨a 0 _ (by omega) rfl,a 1 _ (by omega) rfl,a 2 _ (by omega) rfl,a 3 _ (by omega) rfl⟩
end
section
open Go.RowKit
def Ris(k n:Nat):List Tok->Prop
 | []=>True
 |t :: l=>k<=t.at_/\t.at_<n/\Ris (t.at_+1) n l
theorem Ris.mono{n:Nat}:∀{l:List Tok} {k j:Nat},j<=k->Ris k n l->Ris j n l
 | [],_,_,_,_=>trivial
 |_ :: _,_,_,h,hr=>⟨Nat.le_trans h hr.1,hr.2⟩
theorem Qtf:∀(m:Nat) (r:Txt) (k:Nat),r.length<=m->match scan k r with | .ok l=>Ris k (k+r.length) l | .bad why a=>why≠0/\a<=k+r.length:=by
 intro m
 induction m with
 |zero=>
  intro r k h;have:r=[]:=List.eq_nil_of_length_eq_zero (by omega);subst this;rw[Qck];trivial
 |succ m ih=>
  intro r k h;by_cases f:r=[]
  ·subst f;rw[Qck];trivial
  cases b:gapAt r with
  |never=>rw[Qcw b];exact⟨by decide,by omega⟩
  |gap n=>
   have g:=Qdd b;have:=ih (r.drop n) (k+n) (by rw[List.length_drop];omega);rw[Qdq b];rw[List.length_drop,show k+n+(r.length - n)=k+r.length by omega]at this
   cases c:scan (k+n) (r.drop n) with
   |ok l=>rw[c]at this;exact Ris.mono (by omega) this
   |bad w a=>rw[c]at this;exact this
  |none=>
   cases d:tokAt r with
   |bad w o=>
    rw[Qcr f b d];have:=Qlg d;exact⟨this.1,by omega⟩
   |tok kd tx nm n=>
    have g:=Qcu d;have:=ih (r.drop n) (k+n) (by rw[List.length_drop];omega);rw[Qel b d];rw[List.length_drop,show k+n+(r.length - n)=k+r.length by omega]at this
    cases c:scan (k+n) (r.drop n) with
    |ok l=>rw[c]at this;exact⟨Nat.le_refl _,by show k<_;omega,Ris.mono (by show k+1<=_;omega) this⟩
    |bad w a=>rw[c]at this;exact this
theorem Qpm(l:Txt):match lexP l with | .ok t=>Ris 0 l.length t | .bad why a=>why≠0/\a<=l.length:=by
 unfold lexP;by_cases h:65536<l.length
 ·rw[if_pos h];exact⟨by decide,Nat.zero_le _⟩
 rw[if_neg h];have:=Qtf l.length l 0 (Nat.le_refl _);rwa [Nat.zero_add]at this
theorem tk_new(w:World)(k n a:Int)(t:ByteArray):(tkStore (.pointer (Js w.heap.size)) (.agg #[Ji k,.string t,Ji n,Ji a])).run Tryz.prog (w.alloc tokZ) = .ok () (w.alloc (.cells #[Ji k,.string t,Ji n,Ji a] 73)):=
 run_storeAt_new w 73 _ _ Qlf rfl (by simp[Value.oneCell'])
def RsRel(n:Nat)(toks:List Tok)(w:World)(g cap:Nat)(a i:Value)(wr:World):Prop:=
 ∃(j lo:Nat),i = .int .i64 (j:Int)/\a = .int .i64 ((lo:Int) - 1)/\j<=toks.length/\lo<=n/\Hid (Below w.heap.size w wr/\RowAt wr g cap toks/\Ris lo n (toks.drop j))
attribute [local go_sem ↓] Qdr Qej
end
section
open Go.RowKit Go.Maps
def TkOk(t:Tok):Prop:=1<=t.kind/\t.kind<=4/\0<=t.num/\t.num<=9223372036854775807
theorem tok_ok{r:Txt}{kd:Int}{tx:Txt}{nm:Int}{n:Nat}(h:tokAt r = .tok kd tx nm n):1<=kd/\kd<=4/\0<=nm/\nm<=9223372036854775807:=by
 cases r with
 |nil=>simp[tokAt]at h
 |cons c t=>
  rw[Qds]at h;split at h
  ·
   unfold nmRes at h;split at h
   ·cases h
   ·cases h;decide
  split at h
  ·
   unfold dgRes at h;split at h
   ·cases h
   split at h
   ·cases h
   ·cases h;exact⟨by decide,by decide,by omega,by omega⟩
  split at h
  ·
   unfold txRes at h
   cases a:txScan t with
   |ok v m=>rw[a]at h;cases h;decide
   |bad o=>rw[a]at h;cases h
   |never=>rw[a]at h;cases h
  unfold sgRes at h;split at h
  ·cases h
  ·cases h;decide
theorem scan_ok:∀(m:Nat) (r:Txt) (k:Nat),r.length<=m -> ∀l,scan k r = .ok l->l.length<=r.length /\ ∀t∈l,TkOk t:=by
 intro m
 induction m with
 |zero=>
  intro r k h l b;have:r=[]:=List.eq_nil_of_length_eq_zero (by omega);subst this;rw[Qck]at b;cases b
  exact⟨Nat.le_refl _,fun t c=>by cases c⟩
 |succ m ih=>
  intro r k h l b;by_cases j:r=[]
  ·subst j;rw[Qck]at b;cases b;exact⟨Nat.le_refl _,fun t c=>by cases c⟩
  cases d:gapAt r with
  |never=>rw[Qcw d]at b;cases b
  |gap n=>
   have u:=Qdd d;rw[Qdq d]at b;obtain⟨f,g⟩:=ih (r.drop n) (k+n) (by rw[List.length_drop];omega) l b;rw[List.length_drop]at f;exact⟨by omega,g⟩
  |none=>
   cases c:tokAt r with
   |bad w o=>rw[Qcr j d c]at b;cases b
   |tok kd tx nm n=>
    have u:=Qcu c;rw[Qel d c]at b
    cases i:scan (k+n) (r.drop n) with
    |bad w a=>rw[i]at b;cases b
    |ok l1=>
     rw[i]at b;cases b
     obtain⟨f,g⟩:=ih (r.drop n) (k+n) (by rw[List.length_drop];omega) l1 i;rw[List.length_drop]at f;refine⟨by simp only[List.length_cons];omega,fun t q=>?_⟩;rcases List.mem_cons.1 q with rfl|s
     ·exact tok_ok c
     ·exact g t s
theorem Qub{s:Txt}{l:List Tok}(h:lexP s = .ok l):s.length<=65536/\l.length<=s.length /\ ∀t∈l,TkOk t:=by
 unfold lexP at h;split at h
 ·cases h
 obtain⟨a,b⟩:=scan_ok s.length s 0 (Nat.le_refl _) l h;exact⟨by omega,a,b⟩
theorem Ris.at{n:Nat}:∀{l:List Tok} {k:Nat},Ris k n l -> ∀t∈l,t.at_<n
 | [],_,_,t,ht=>by cases ht
 |x :: l,_,h,t,ht=>by
  rcases List.mem_cons.1 ht with rfl|h2
  ·exact h.2.1
  ·exact h.2.2.at t h2
def parseP(s:Txt):Rs Pg:=match lexP s with
 | .bad why a=>.bad why a []
 | .ok toks=>progD s.length 32 true toks 0
def PsA(w:World)(r:Rs Pg)(en:Ending)(w':World):Prop:=match r with
 | .bad why at_ _=>en = .returned (.tuple #[.agg #[.slice none 0 0,.slice none 0 0,.slice none 0 0,.slice none 0 0,.slice none 0 0],.agg #[.int .i64 why,.int .i64 at_]])/\Below w.heap.size w w'
 | .ok p _ _=>∃v,en = .returned (.tuple #[v,.agg #[.int .i64 0,.int .i64 0]])/\VPg (fun b=>w.heap.size<=b) w' v p/\Below w.heap.size w w'
theorem Kp.bel{rb:Nat}{w w':World}(h:Kp rb w w'){B:Nat}(h1:B<=rb)(h2:B<=w.heap.size):Below B w w':=h.below h2 h1
def eqL{α : Type}(eq:α -> α -> Bool)(xs ys:List α):Bool:=decide (xs.length=ys.length)&&(xs.zip ys).all (fun q=>eq q.1 q.2)
theorem Qpb{k:Nat}:∀(css:List (List Value)) (j:Nat) (cs:List Value),(∀c∈css,c.length=k)->css[j]?=some cs -> ∀q,q<k->css.flatten[j*k+q]?=cs[q]?
 | [],j,cs,_,h=>by simp at h
 |c :: css,0,cs,hl,h=>fun q hq=>by
  simp at h;subst h;rw[List.flatten_cons,Nat.zero_mul,Nat.zero_add,List.getElem?_append_left (by rw[hl c (by simp)];exact hq)]
 |c :: css,j+1,cs,hl,h=>fun q hq=>by
  have hc:c.length=k:=hl c (by simp);rw[List.flatten_cons,List.getElem?_append_right (by rw[hc,Nat.succ_mul];omega),hc,show(j+1)*k+q - k=j*k+q by rw[Nat.succ_mul];omega];exact Qpb css j cs (fun x a=>hl x (by simp[a])) (by simpa using h) q hq
theorem LsAt.elem{α : Type}{p:PS α}{k:Nat}{S:Nat->Prop}{w:World}{v:Value}{xs:List α}(h:LsAt p k S w v xs){j:Nat}{x:α}(hx:xs[j]?=some x):∃b cap cs,v = .slice (Js b) xs.length cap/\b<w.heap.size/\S b/\cs.length=k/\p S w cs x /\ ∀q c,cs[q]?=some c->w.cell? (Ja b (j*k+q))=some c:=by
 obtain⟨a,cap,d,rfl,D,E,f,y⟩:=h;have l:j<xs.length:=(List.getElem?_eq_some_iff.1 hx).1;obtain⟨b,rfl,z,A,g⟩:=y (fun e=>by rw[e]at l;simp at l);have n:j<d.length:=by rw[f.1];exact l
 have B:∀c∈d,c.length=k:=fun c g=>by
  obtain⟨i,r,e⟩:=List.getElem_of_mem g;have t:i<xs.length:=by rw[<- f.1];exact r
  exact(f.2 i _ c (List.getElem?_eq_getElem t) (by rw[List.getElem?_eq_getElem r,e])).1
 obtain⟨o,u⟩:=f.2 j x d[j] hx (List.getElem?_eq_getElem n);refine⟨b,cap,d[j],rfl,A,z,o,u,fun q c s=>g _ _ ?_⟩;rw[Qpb d j d[j] B (List.getElem?_eq_getElem n) q (by rw[<- o];exact(List.getElem?_eq_some_iff.1 s).1)];exact s
theorem LsAt.later{α : Type}{p:PS α}(hp:PSok p){k:Nat}{S:Nat->Prop}{w w':World}{v:Value}{xs:List α}(h:LsAt p k S w v xs)(b:Below w.heap.size w w'):LsAt p k S w' v xs:=h.same hp b.size (fun k _ a=>b.block k a)
def eqFd(x y:Fld):Bool:=decide (x.name=y.name)&&decide (x.type=y.type)
def eqTx(x y:Txt):Bool:=decide (x=y)
def qeLoad(a:Value):Sem Value:=Instr.loadAt 59 a
theorem Qc(a:Value):Instr.loadAt 59 a=qeLoad a:=rfl
def qeStore(p v:Value):Sem Unit:=Instr.storeAt 59 p v
theorem Qbu(p v:Value):Instr.storeAt 59 p v=qeStore p v:=rfl
theorem size_qe:(Tryz.prog.info? 59).map (·.size)=some 5:=by kernel_rfl
theorem Qhb(w:World){c0 c1 c2 c3 c4:Value}(h1:∀c∈([c0,c1,c2,c3,c4]:List Value),c.oneCell'=true):(qeStore (.pointer (Js w.heap.size)) (.agg #[c0,c1,c2,c3,c4])).run Tryz.prog (w.alloc (.cells #[Ji 0,Ji 0,Je,Jn,Ji 0] 59)) = .ok () (w.alloc (.cells #[c0,c1,c2,c3,c4] 59)):=
 run_storeAt_new w 59 _ _ size_qe rfl (by simpa using h1)
attribute [local go_sem ↓] Qc Qbu
end
section
open Go.RowKit Go.Maps
def qlLoad(a:Value):Sem Value:=Instr.loadAt 61 a
theorem Qpt(a:Value):Instr.loadAt 61 a=qlLoad a:=rfl
def qlStore(p v:Value):Sem Unit:=Instr.storeAt 61 p v
theorem Qnr(p v:Value):Instr.storeAt 61 p v=qlStore p v:=rfl
attribute [local go_sem ↓] Qpt Qnr
end
section
open Go.RowKit Go.Maps
def qcLoad(a:Value):Sem Value:=Instr.loadAt 97 a
theorem Qpq(a:Value):Instr.loadAt 97 a=qcLoad a:=rfl
def qcStore(p v:Value):Sem Unit:=Instr.storeAt 97 p v
theorem Qno(p v:Value):Instr.storeAt 97 p v=qcStore p v:=rfl
attribute [local go_sem ↓] Qpq Qno
end
section
open Go.RowKit Go.Maps
def qtLoad(a:Value):Sem Value:=Instr.loadAt 54 a
theorem Qpw(a:Value):Instr.loadAt 54 a=qtLoad a:=rfl
def qtStore(p v:Value):Sem Unit:=Instr.storeAt 54 p v
theorem Qnu(p v:Value):Instr.storeAt 54 p v=qtStore p v:=rfl
attribute [local go_sem ↓] Qpw Qnu
end
section
open Go.RowKit Go.Maps
def qdLoad(a:Value):Sem Value:=Instr.loadAt 63 a
theorem Qpr(a:Value):Instr.loadAt 63 a=qdLoad a:=rfl
def qdStore(p v:Value):Sem Unit:=Instr.storeAt 63 p v
theorem Qnp(p v:Value):Instr.storeAt 63 p v=qdStore p v:=rfl
attribute [local go_sem ↓] Qpr Qnp
end
section
open Go.RowKit Go.Maps
def qpLoad(a:Value):Sem Value:=Instr.loadAt 83 a
theorem Qpu(a:Value):Instr.loadAt 83 a=qpLoad a:=rfl
def qpStore(p v:Value):Sem Unit:=Instr.storeAt 83 p v
theorem Qns(p v:Value):Instr.storeAt 83 p v=qpStore p v:=rfl
attribute [local go_sem ↓] Qpu Qns
end
section
open Go.RowKit Go.Maps
def qiLoad(a:Value):Sem Value:=Instr.loadAt 93 a
theorem Qps(a:Value):Instr.loadAt 93 a=qiLoad a:=rfl
def qiStore(p v:Value):Sem Unit:=Instr.storeAt 93 p v
theorem Qnq(p v:Value):Instr.storeAt 93 p v=qiStore p v:=rfl
attribute [local go_sem ↓] Qps Qnq
end
section
open Go.RowKit Go.Maps
def qqLoad(a:Value):Sem Value:=Instr.loadAt 45 a
theorem Qpv(a:Value):Instr.loadAt 45 a=qqLoad a:=rfl
def qqStore(p v:Value):Sem Unit:=Instr.storeAt 45 p v
theorem Qnt(p v:Value):Instr.storeAt 45 p v=qqStore p v:=rfl
attribute [local go_sem ↓] Qpv Qnt
end
section
open Go.RowKit Go.Maps
end
end Go.Proofs.YtkhndlnadhggkaaGreat
