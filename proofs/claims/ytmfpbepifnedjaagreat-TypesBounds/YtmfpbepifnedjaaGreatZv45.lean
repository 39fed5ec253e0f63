/- The document's reader by the tokens that are next. -/
import Derived.Test.YtmfpbepifnedjaaGreatZv01
import Derived.Test.YtmfpbepifnedjaaGreatZv44
import Derived.Test.YtmfpbepifnedjaaGreatZv10
import Derived.Test.YtmfpbepifnedjaaGreatZv11
import Derived.Test.YtmfpbepifnedjaaGreatZv12
set_option maxRecDepth 100000
set_option maxHeartbeats 32000000
namespace Go.Proofs.YtmfpbepifnedjaaGreat
section
open Go.RowKit Go.Maps
abbrev Opq:=Txt×List Tok×Ex
def opsT:List Opq->List Tok
 | []=>[]
 |o :: os=>sgQ o.1 :: (o.2.1++opsT os)
def opsX:Ex->List Opq->Ex
 |e,[]=>e
 |e,o :: os=>opsX (.mk 5 0 o.1 [e,o.2.2] 0) os
def pickS(t:Tok)(ss:List Txt):Txt:=ss.foldl (fun o s=>if isSg t s=true then s else o) []
theorem Qkb{t:Tok}{ss:List Txt}{j:Nat}{s:Txt}(h:ss[j]?=some s):pickS t (ss.take (j+1))=if isSg t s=true then s else pickS t (ss.take j):=by
 unfold pickS;rw[List.take_add_one,h,List.foldl_append];rfl
theorem Qtn{t:Tok}{ss:List Txt}{j:Nat}{s:Txt}(h:ss[j]?=some s)(hs:isSg t s=true):s=pickS t (ss.take (j+1)):=by
 rw[Qkb h,if_pos hs]
theorem pick_no{t:Tok}{ss:List Txt}{j:Nat}{s o:Txt}(h:ss[j]?=some s)(hs:isSg t s=false)(ho:o=pickS t (ss.take j)):o=pickS t (ss.take (j+1)):=by
 rw[Qkb h,if_neg (by rw[hs];decide)];exact ho
theorem folO{Fol:List Tok->Prop}{r:List Tok}:∀{os:List Opq},(∀o∈os,∀r,Fol (sgQ o.1 :: r))->Fol r->Fol (opsT os++r)
 | [],_,h=>h
 |o :: _,hf,_=>hf o (List.mem_cons_self ..) _
theorem headO{P:Tok->Prop}{r:List Tok}(os:List Opq)(h:∃t r',r=t :: r'/\P t):∃t tl,opsT os++r=t :: tl:=by
 cases os with
 |nil=>obtain⟨t,r',h,_⟩:=h;exact⟨t,r',h⟩
 |cons o os=>exact⟨_,_,rfl⟩
theorem ops_end{os:List Opq}{r tl:List Tok}{t0:Tok}{SG:List Txt}(ht:opsT os++r=t0 :: tl)(hp:pickS t0 SG=[])(hg:∀o∈os,pickS (sgQ o.1) SG=o.1/\o.1≠[]):os=[]:=by
 cases os with
 |nil=>rfl
 |cons o os=>
  have e:sgQ o.1=t0:=by simp[opsT]at ht;exact ht.1
  obtain⟨a,b⟩:=hg o (List.mem_cons_self ..);rw[e,hp]at a;exact absurd a.symm b
theorem Qtl{os:List Opq}{r tl:List Tok}{t0:Tok}{SG:List Txt}{ot:Txt}(ht:opsT os++r=t0 :: tl)(hr:∃t r',r=t :: r'/\pickS t SG=[])(hp:pickS t0 SG≠[])(hg:∀o∈os,pickS (sgQ o.1) SG=o.1/\o.1≠[])(ho:ot=pickS t0 SG):∃K2 e2 os2,os=(ot,K2,e2) :: os2:=by
 cases os with
 |nil=>
  obtain⟨t,r',e,h⟩:=hr;have e2:t=t0:=by rw[e]at ht;simp[opsT]at ht;exact ht.1
  exact absurd (e2▸h) hp
 |cons o os=>
  have e:sgQ o.1=t0:=by simp[opsT]at ht;exact ht.1
  obtain⟨a,b⟩:=hg o (List.mem_cons_self ..);obtain⟨c,K2,e2⟩:=o;rw[e,<- ho]at a;exact⟨K2,e2,os,by rw[a]⟩
theorem Nxt.len{l:List Tok}{a:Nat}{ks:List Tok}(h:Nxt l a ks):l.length - a=ks.length:=by
 have:=congrArg List.length h
 simpa using this
attribute [local go_sem ↓] Qbt Qc
def RwJ(rb g cap:Nat)(l:List Tok)(w:World)(d i:Nat)(ne ns:Nat)(sg:List Txt)(wr:World)(aX:Nat)(xX:Ex)(ka:Option Addr)(kn kc:Nat)(ex:Ex)(os:List Opq)(r:List Tok):Prop:=Rr rb g cap l wr aX d i 0 0/\Kp rb w wr/\wr.heap[ne]?=some (.cells #[.int .i64 xX.kind,.int .i64 xX.num,str xX.txt,.slice ka kn kc,.int .i64 xX.at_] 59 (0,0))/\wr.heap[w.heap.size]?=some (.cells #[.int .i64 0,.int .i64 0,.string ⟨#[]⟩,.slice none 0 0,.int .i64 0] 59 (0,0))/\ExS (fun b=>w.heap.size<b/\b≠ne) wr [.int .i64 xX.kind,.int .i64 xX.num,str xX.txt,.slice ka kn kc,.int .i64 xX.at_] xX/\(∀(j:Nat) (t:Txt),sg[j]?=some t->wr.cell? ⟨ns,j,none⟩=some (str t))/\eqE xX ex=true/\Nxt l aX (opsT os++r)
theorem RwJ.later{rb g cap:Nat}{l:List Tok}{w:World}{d i:Nat}{ne ns:Nat}{sg:List Txt}{wr wr2:World}{aX:Nat}{xX:Ex}{ka:Option Addr}{kn kc:Nat}{ex:Ex}{os:List Opq}{r:List Tok}(h:RwJ rb g cap l w d i ne ns sg wr aX xX ka kn kc ex os r)(hn:ns<ne)(b:Below wr.heap.size wr wr2):RwJ rb g cap l w d i ne ns sg wr2 aX xX ka kn kc ex os r:=by
 obtain⟨e,f,a,c,k,m,n,o⟩:=h;have u:=Qaa a;exact⟨e.later b,f.trans (Kp.of_below b),(b.block _ u).trans a,(b.block _ (Qaa c)).trans c,Qaf.same _ _ _ _ _ k b.size (fun q _ v=>b.block q v),fun j t s=>(b.cell (p:=(Ja ns j)) (by show ns<wr.heap.size;omega)).trans (m j t s),n,o⟩
theorem Qsq{rb g cap d:Nat}{l:List Tok}{Fol:List Tok->Prop}{K0:List Tok}{x0:Ex}{os:List Opq}{m k:Int}{SG:List Txt}(hV:(m=1/\k=0/\SG=[[43],[45]])∨(m=2/\k=1/\SG=[[42],[47],[37]]))(hR0:YEa 121 rb g cap l d #[.pointer (Js rb),Ji m] Fol K0 x0)(hR:∀o∈os,YEa 121 rb g cap l d #[.pointer (Js rb),Ji m] Fol o.2.1 o.2.2/\pickS (sgQ o.1) SG=o.1/\o.1≠[])(HO0:Hid (os=[]))(hFo:∀o∈os,∀r,Fol (sgQ o.1 :: r)):YEa 121 rb g cap l d #[.pointer (Js rb),Ji k] (fun r=>Fol r /\ ∃t r',r=t :: r'/\pickS t SG=[]) (K0++opsT os) (opsX x0 os):=by
 intro w a i r h hA a9;rcases hV with ⟨rfl,rfl,hS⟩|⟨rfl,rfl,hS⟩
 case' inr=>
  obtain⟨y,z⟩:=JE (((w.alloc (.cells #[Ji 0,Ji 0,Je,Jn,Ji 0] 59)).alloc (.cells #[.string ⟨#[43]⟩,.string ⟨#[45]⟩] 9)).alloc (.cells #[.string ⟨#[42]⟩,.string ⟨#[47]⟩,.string ⟨#[37]⟩] 9));have Q:Below w.heap.size w y:=by rw[z];exact((((Below.refl _ w).alloc (Nat.le_refl _) _).alloc (by simp) _).alloc (by simp;omega) _)
  have U:y.heap[w.heap.size]?=some (.cells #[Ji 0,Ji 0,Je,Jn,Ji 0] 59 (0,0)):=by rw[z,Below.heap_alloc _ _ _ (by simp;omega),Below.heap_alloc _ _ _ (by simp)];exact heap_alloc_new w _
  have A:y.heap[w.heap.size+2]?=some (.cells #[.string ⟨#[42]⟩,.string ⟨#[47]⟩,.string ⟨#[37]⟩] 9):=by
   rw[z];have:=heap_alloc_new ((w.alloc (.cells #[Ji 0,Ji 0,Je,Jn,Ji 0] 59)).alloc (.cells #[.string ⟨#[43]⟩,.string ⟨#[45]⟩] 9)) (.cells #[.string ⟨#[42]⟩,.string ⟨#[47]⟩,.string ⟨#[37]⟩] 9);rwa [show((w.alloc (.cells #[Ji 0,Ji 0,Je,Jn,Ji 0] 59)).alloc (.cells #[.string ⟨#[43]⟩,.string ⟨#[45]⟩] 9)).heap.size=w.heap.size+2 by simp]at this
  have s1:y.heap.size=w.heap.size+2+1:=by rw[z];simp
  obtain⟨B,L⟩:=JE (w.heap.size+2);rw[<- L]at A;obtain⟨n,M⟩:∃n:List Txt,n=[[42],[47],[37]]:=⟨_,rfl⟩;have C:∀(j:Nat) (t:Txt),n[j]?=some t->y.cell? (Ja B j)=some (str t):=fun j t e=>by
   rw[Qad A];rw[M]at e
   match j,e with
   | 0,e=>cases e;rfl
   | 1,e=>cases e;rfl
   | 2,e=>cases e;rfl
   |j+3,e=>simp at e
  obtain⟨D,K⟩:∃D:Nat,D=3:=⟨_,rfl⟩;have a7:=hide K;have a8:=hide (show n.length=D by rw[K,M];rfl);clear K
 case' inl=>
  obtain⟨y,z⟩:=JE ((w.alloc (.cells #[Ji 0,Ji 0,Je,Jn,Ji 0] 59)).alloc (.cells #[.string ⟨#[43]⟩,.string ⟨#[45]⟩] 9));have Q:Below w.heap.size w y:=by rw[z];exact(((Below.refl _ w).alloc (Nat.le_refl _) _).alloc (by simp) _)
  have U:y.heap[w.heap.size]?=some (.cells #[Ji 0,Ji 0,Je,Jn,Ji 0] 59 (0,0)):=by rw[z,Below.heap_alloc _ _ _ (by simp)];exact heap_alloc_new w _
  have A:y.heap[w.heap.size+1]?=some (.cells #[.string ⟨#[43]⟩,.string ⟨#[45]⟩] 9):=by
   rw[z];have:=heap_alloc_new (w.alloc (.cells #[Ji 0,Ji 0,Je,Jn,Ji 0] 59)) (.cells #[.string ⟨#[43]⟩,.string ⟨#[45]⟩] 9);rwa [show(w.alloc (.cells #[Ji 0,Ji 0,Je,Jn,Ji 0] 59)).heap.size=w.heap.size+1 by simp]at this
  have s1:y.heap.size=w.heap.size+1+1:=by rw[z];simp
  obtain⟨B,L⟩:=JE (w.heap.size+1);rw[<- L]at A;obtain⟨n,M⟩:∃n:List Txt,n=[[43],[45]]:=⟨_,rfl⟩;have C:∀(j:Nat) (t:Txt),n[j]?=some t->y.cell? (Ja B j)=some (str t):=fun j t e=>by
   rw[Qad A];rw[M]at e
   match j,e with
   | 0,e=>cases e;rfl
   | 1,e=>cases e;rfl
   |j+2,e=>simp at e
  obtain⟨D,K⟩:∃D:Nat,D=2:=⟨_,rfl⟩;have a7:=hide K;have a8:=hide (show n.length=D by rw[K,M];rfl);clear K
 all_goals
  have aw:=hR0 y a i (opsT os++r) (h.later Q) (by rw[List.append_assoc]at hA;exact hA) (folO hFo a9.1);have aH:=Qaa h.box;have aF:=h.row.lt;have ap:=hide (Ya aH aF);have ao:=hide hR;have aP:=hide hFo;have ak:=hide a9;have aD:=hide (M.trans hS.symm);clear hS;have H1:=hide (Ya Q (Ya U (Ya C (Ya s1 (Ya L A)))));have ar:=hide z;clear z Q U A s1 M C h hR L hR0 hFo a9 hA;go_enter Tryz.func121,Tryz.ntmps121;go_wp2_with fail;rw[<- Qa ar];clear ar;refine aw.mono ?_;clear aw;rintro en J⟨_,a1,rfl,⟨f,⟨_,rfl,⟨s,x,u,rfl⟩,az⟩,av⟩,h1,Y,aC⟩;obtain⟨Q,U,C,s1,L,A⟩:=Qa H1;have aI:=Y.size;obtain⟨ne,ae⟩:=JF J.heap.size;obtain⟨P,W⟩:=JE (J.alloc (.cells #[Ji f.kind,Ji f.num,str f.txt,.slice s x u,Ji f.at_] 59));have R:Below J.heap.size J P:=by rw[W];exact(Below.refl _ J).alloc (Nat.le_refl _) _
  have m2:P.heap[ne]?=some (.cells #[Ji f.kind,Ji f.num,str f.txt,.slice s x u,Ji f.at_] 59 (0,0)):=by rw[W,<- ae];exact heap_alloc_new J _
  have z2:P.heap[w.heap.size]?=some (.cells #[Ji 0,Ji 0,Je,Jn,Ji 0] 59 (0,0)):=(R.block _ (by omega)).trans (Y.keep U (by omega));have au:=(R.block _ (by omega)).trans (Y.keep A (by omega));have q2:∀(j:Nat) (t:Txt),n[j]?=some t->P.cell? (Ja B j)=some (str t):=fun j t e=>by
   have:=C j t e;rw[Qad A]at this;rw[Qad au];exact this
  have aA:ExS (fun b=>w.heap.size<b/\b≠ne) P [Ji f.kind,Ji f.num,str f.txt,.slice s x u,Ji f.at_] f:=Qaf.mono _ _ _ _ _ (Qaf.same _ _ P _ _ (Qaf.mono _ (fun b=>y.heap.size<=b/\b<J.heap.size) _ _ _ az (fun b hl E=>⟨E,hl⟩)) R.size (fun b _ hl=>R.block b hl)) (fun b _ E=>⟨by omega,by omega⟩);have aq:Hid (RwJ rb g cap l w d i ne B n P a1 f s x u x0 os r):=⟨h1.later R,((Kp.of_below Q).trans Y).trans (Kp.of_below R),m2,z2,aA,q2,av,aC⟩;have aQ:=hide (show rb<ne/\g<ne/\w.heap.size<ne by omega);have an:=hide (show B<ne by omega);have aR:=hide (show w.heap.size<B by omega);have N2:=Qhm J (c0:=Ji f.kind) (c1:=Ji f.num) (c2:=str f.txt) (c3:=.slice s x u) (c4:=Ji f.at_) (by simp[Value.oneCell',str]);have am:=hide (Ya W ae);rw[<- W]at N2;clear W R m2 z2 au q2 aA Q U C s1 A aI ae h1 Y az av aC L;go_wp2_with fail;rw[(Qa am).2,<- (Qa H1).2.2.2.2.1];clear am N2 H1;go_loopw [7,9] (fun _ _ wr=>∃(X:Nat) (c:Ex) (s:Option Addr) (x u:Nat) (ex:Ex) (N:List Opq),Hid (RwJ rb g cap l w d i ne B n wr X c s x u ex N r/\opsX ex N=opsX x0 os /\ ∀o∈N,o∈os)) (fun _ _ wr=>leftR rb l.length wr)
  case atStart=>exact⟨_,_,_,_,_,_,_,hide ⟨Qa aq,rfl,fun _ h=>h⟩⟩
  obtain⟨X,c,s,x,u,ex,N,a6⟩:=hrel;have O:=hide (Qa a6).1;have a2:=hide (Qa a6).2;obtain⟨t0,tl,ay⟩:=headO N (Qa ak).2;have HT:=hide ay;clear ay a6;clear aq;have ah:=Qaw (Qa O).1;rw[decide_eq_true rfl]at ah;go_wp2_with fail;refine ah.mono ?_;clear ah;rintro en wq⟨rfl,rfl⟩;go_wp2_with fail;go_loopw [7,9,26] (fun v7 _ ai aJ=>∃(I:Txt) (j:Nat),v7=str I/\ai = Ji (j:Int)/\j<=D/\Hid (Below wq.heap.size wq aJ/\I=pickS t0 (n.take j))) (fun _ _ ai _=>D - (intOf ai).toNat)
  case atStart=>exact⟨[],0,rfl,rfl,Nat.zero_le _,hide ⟨Below.refl _ _,rfl⟩⟩
  obtain⟨I,j,rfl,rfl,e,H⟩:=hrel;by_cases a0:j<D
  ·
   obtain⟨V,ag⟩:∃V,n[j]?=some V:=⟨n[j]'(by rw[Qa a8];exact a0),List.getElem?_eq_getElem _⟩;have ad:=a0;rw[Qa a7]at ad;have c1:=((Qa H).1.cell (p:=(Ja B j)) (by show B<wq.heap.size;have:=Qaa (Qa O).2.2.1;have:=Qa an;omega)).trans ((Qa O).2.2.2.2.2.1 j V ag);have af:=Qcd ((Qa O).1.later (Qa H).1) (show Nxt l X (t0 :: tl) by rw[<- Qa HT];exact(Qa O).2.2.2.2.2.2.2) V;obtain⟨b,E⟩:=JF (isSg t0 V);rw[E]at af;have a3:=hide (Ya ag E);clear E;clear ag;go_wp2_with fail;refine af.mono ?_;clear af;rintro en w4⟨rfl,b4⟩;have aj:=hide ((Qa H).1.trans (b4.mono (Qa H).1.size));clear b4 c1;cases b
   ·
    go_wp2_with fail;go_roundw
    case rel=>exact⟨I,j+1,rfl,by go_num,by omega,hide ⟨Qa aj,pick_no (Qa a3).1 (Qa a3).2 (Qa H).2⟩⟩
    case measure=>simp[intOf];omega
   go_wp2_with fail;go_roundw
   case rel=>exact⟨V,j+1,rfl,by go_num,by omega,hide ⟨Qa aj,Qtn (Qa a3).1 (Qa a3).2⟩⟩
   case measure=>simp[intOf];omega
  have ad:=a0;rw[Qa a7]at ad;have al:Hid (RwJ rb g cap l w d i ne B n wr X c s x u ex N r):=(Qa O).later (Qa an) (Qa H).1;have HP:=hide (show I=pickS t0 SG by have:=(Qa H).2;rw[List.take_of_length_le (by rw[Qa a8];omega),Qa aD]at this;exact this);by_cases F:I=[]
  rotate_left
  ·
   have aE:(I==[])=false:=by simpa using F
   obtain⟨K2,e2,aS,aG⟩:=Qtl (Qa HT) (Qa ak).2 (fun h=>F ((Qa HP).trans h)) (fun o F=>(Qa ao o ((Qa a2).2 o F)).2) (Qa HP);exact absurd ((Qa a2).2 _ (by rw[aG];exact List.mem_cons_self ..)) (by rw[Qa HO0];exact List.not_mem_nil)
  have aE:(I==[])=true:=by simpa using F
  have a5:=hide (show eqE c (opsX x0 os)=true/\Nxt l X r by
   have e0:N=[]:=ops_end (Qa HT) ((Qa HP).symm.trans F) (fun o F=>(Qa ao o ((Qa a2).2 o F)).2);have q:=Qa O;have C:=(Qa a2).1;rw[e0]at q C
   exact⟨by rw[<- C];exact q.2.2.2.2.2.2.1,q.2.2.2.2.2.2.2⟩)
  obtain⟨WX,aa⟩:=JE wr;rw[<- aa]at al;rw[<- aa];clear F aa H;obtain⟨h4,T,m4,z4,aB,ax,ac,ab⟩:=Qa al;have L5:=Qdm m4;have S5:=Qbv (new:=#[Ji c.kind,Ji c.num,str c.txt,.slice s x u,Ji c.at_]) z4 rfl rfl (by simp[Value.oneCell',str]);obtain⟨S,G⟩:=JE (WX.setRow w.heap.size #[Ji c.kind,Ji c.num,str c.txt,.slice s x u,Ji c.at_]);rw[<- G]at S5;have Z:∀q,q≠w.heap.size->S.heap[q]?=WX.heap[q]?:=fun q hq=>by rw[G];exact setRow_other _ _ _ _ hq
  have s6:S.heap.size=WX.heap.size:=by rw[G,size_setRow]
  have z6:S.heap[w.heap.size]?=some (.cells #[Ji c.kind,Ji c.num,str c.txt,.slice s x u,Ji c.at_] 59 (0,0)):=by rw[G];exact setRow_heap _ _ _ _ _ _ z4
  have h6:=h4.move (w':=S) (by omega) (Z rb (by have:=Qa ap;omega)) (Z g (by have:=Qa ap;omega));have k6:Kp rb w S:=⟨by rw[G];exact T.os,by rw[G];exact T.tape,by rw[G];exact T.output,by rw[s6];exact T.size,fun q hq hn=>(Z q (by omega)).trans (T.block q hq hn)⟩;have a4:ExS (fun b=>w.heap.size<=b) S [Ji c.kind,Ji c.num,str c.txt,.slice s x u,Ji c.at_] c:=by
   have C:=Qaf.same _ _ S _ _ aB (by omega) (fun b E hl=>Z b (by have:=E.1;omega));exact Qaf.mono _ _ _ _ _ C (fun b _ E=>by have:=E.1;omega)
  have HF:=hide (Ya h6 (Ya k6 (Ya z6 (Ya a4 (Ya ac ab)))));clear h4 T m4 z4 aB ax ac ab Z s6 z6 h6 k6 a4 G;go_wp2_with fail;obtain⟨h6,k6,z6,a4,ac,ab⟩:=Qa HF;obtain⟨aK,aL,aM,aN,aO,zf⟩:=ex5 z6;refine bodyPost_ret (v:=.agg #[Ji c.kind,Ji c.num,str c.txt,.slice s x u,Ji c.at_]) (by simp[results,Tryz.results121,go_sem,aK,aL,aM,aN,aO]) rfl ?_;exact⟨_,_,rfl,⟨c,⟨_,rfl,⟨_,_,_,rfl⟩,a4⟩,(Qa a5).1⟩,h6,k6,(Qa a5).2⟩
theorem Quh{rb g cap d:Nat}{l:List Tok}{Fol:List Tok->Prop}{K0:List Tok}{x0:Ex}{os:List Opq}(hR0:YEa 121 rb g cap l d #[.pointer (Js rb),Ji 1] Fol K0 x0)(hR:∀o∈os,YEa 121 rb g cap l d #[.pointer (Js rb),Ji 1] Fol o.2.1 o.2.2/\pickS (sgQ o.1) [[43],[45]]=o.1/\o.1≠[])(HO0:Hid (os=[]))(hFo:∀o∈os,∀r,Fol (sgQ o.1 :: r)):YEa 121 rb g cap l d #[.pointer (Js rb),Ji 0] (fun r=>Fol r /\ ∃t r',r=t :: r'/\pickS t [[43],[45]]=[]) (K0++opsT os) (opsX x0 os):=Qsq (.inl ⟨rfl,rfl,rfl⟩) hR0 hR HO0 hFo
theorem Qui{rb g cap d:Nat}{l:List Tok}{Fol:List Tok->Prop}{K0:List Tok}{x0:Ex}{os:List Opq}(hR0:YEa 121 rb g cap l d #[.pointer (Js rb),Ji 2] Fol K0 x0)(hR:∀o∈os,YEa 121 rb g cap l d #[.pointer (Js rb),Ji 2] Fol o.2.1 o.2.2/\pickS (sgQ o.1) [[42],[47],[37]]=o.1/\o.1≠[])(HO0:Hid (os=[]))(hFo:∀o∈os,∀r,Fol (sgQ o.1 :: r)):YEa 121 rb g cap l d #[.pointer (Js rb),Ji 1] (fun r=>Fol r /\ ∃t r',r=t :: r'/\pickS t [[42],[47],[37]]=[]) (K0++opsT os) (opsX x0 os):=Qsq (.inr ⟨rfl,rfl,rfl⟩) hR0 hR HO0 hFo
end
section
open Go.RowKit Go.Maps
attribute [local go_sem ↓] Qbt Qc
theorem Quf{rb g cap d:Nat}{l:List Tok}{s:Txt}(hq:wordP s=true)(hs:s≠[95]):YEa 135 rb g cap l d #[.pointer (Js rb)] (fun _=>True) [nmR s] (.mk 1 0 s [] 0):=by
 intro w a i r h hA _;have HQ:=hide hq;have o:Below w.heap.size w (w.alloc (.cells #[Ji 0,Ji 0,Je,Jn,Ji 0] 59)):=(Below.refl _ w).alloc (Nat.le_refl _) _;have B:(w.alloc (.cells #[Ji 0,Ji 0,Je,Jn,Ji 0] 59)).heap[w.heap.size]?=some (.cells #[Ji 0,Ji 0,Je,Jn,Ji 0] 59 (0,0)):=heap_alloc_new w _;have M:(w.alloc (.cells #[Ji 0,Ji 0,Je,Jn,Ji 0] 59)).heap.size=w.heap.size+1:=by simp
 obtain⟨t,V,hz,I⟩:=(show Nxt l a (nmR s :: r) from hA).at;simp only[zk,Prod.mk.injEq]at hz;obtain⟨a1,a2,a3⟩:=hz;have z:=hide (Ya a1 (Ya a2 (Ya a3 I)));have S:=Qap (h.later o) V;unfold tkA at S;have aj:=Qaa h.box;have ai:=h.row.lt;have HH:=hide h;have HT:=hide V;have H0:=hide (Ya o (Ya B M));clear h V a1 a2 a3 I hA o B M;go_enter Tryz.func135,Tryz.ntmps135;go_wp2_with fail;refine S.mono ?_;clear S;rintro en f⟨rfl,F⟩;obtain⟨o,B,M⟩:=Qa H0;obtain⟨c,x⟩:=JE (f.alloc (.cells #[Ji t.kind,str t.text,Ji t.num,Ji (t.at_:Int)] 73));obtain⟨m,y⟩:=JE (c.alloc (.cells #[Ji 0,Ji 0,Je,Jn,Ji (t.at_:Int)] 59));have a4:=F.size;have Y:c.heap.size=f.heap.size+1:=by rw[x];simp
 have s3:m.heap.size=c.heap.size+1:=by rw[y];simp
 have U:Below f.heap.size f c:=by rw[x];exact(Below.refl _ f).alloc (Nat.le_refl _) _
 have G:Below c.heap.size c m:=by rw[y];exact(Below.refl _ c).alloc (Nat.le_refl _) _
 have Z:c.heap[f.heap.size]?=some (.cells #[Ji t.kind,str t.text,Ji t.num,Ji (t.at_:Int)] 73 (0,0)):=by rw[x];exact heap_alloc_new f _
 have N:m.heap[f.heap.size]?=some (.cells #[Ji t.kind,str t.text,Ji t.num,Ji (t.at_:Int)] 73 (0,0)):=(G.block _ (by omega)).trans Z;have X:m.heap[c.heap.size]?=some (.cells #[Ji 0,Ji 0,Je,Jn,Ji (t.at_:Int)] 59 (0,0)):=by rw[y];exact heap_alloc_new c _
 have z3:m.heap[w.heap.size]?=some (.cells #[Ji 0,Ji 0,Je,Jn,Ji 0] 59 (0,0)):=((G.block _ (by omega)).trans ((U.block _ (by omega)).trans (F.block _ (by omega)))).trans B;have P:Below w.heap.size w m:=((o.trans (F.mono (by omega))).trans (U.mono (by omega))).trans (G.mono (by omega));obtain⟨a5,a6,a7,a8,yf⟩:=cl4 Z;obtain⟨ak,al,am,an,vf⟩:=cl4 N;have N3:=Qhm c (c0:=Ji 0) (c1:=Ji 0) (c2:=Je) (c3:=Jn) (c4:=Ji (t.at_:Int)) (by simp[Value.oneCell']);rw[<- y,Y]at N3;obtain⟨nt,R⟩:=JF f.heap.size;obtain⟨ne,Q⟩:=JF (f.heap.size+1);rw[R]at N;rw[Y,Q]at X;have E:=hide (Ya ((Qa HH).later P) (Ya (Kp.of_below (rb:=rb) P) (Ya N (Ya X z3))));have T:=hide (show rb<w.heap.size/\g<w.heap.size/\w.heap.size<nt/\nt<ne by omega);have HL:=hide (show m.heap.size=ne+1 by omega);have HW:=hide (Ya Q R);rw[x]at a5 a6 a7 a8 N3;clear yf vf o B M F x y a4 Y s3 U G Z N X z3 P R Q H0;have A:t.kind=1:=(Qa z).1;have k2:t.kind≠2:=by rw[A];decide
 have k3:t.kind≠3:=by rw[A];decide
 have af:(t.kind==2)=false:=beq_eq_false_iff_ne.2 k2;have ag:(t.kind==3)=false:=beq_eq_false_iff_ne.2 k3;have ae:(t.kind==1)=true:=beq_iff_eq.2 A;have W:t.text≠[95]:=by have e:t.text=s:=(Qa z).2.1;rw[e];exact hs
 have gu:(t.text==[95])=false:=by simpa using W
 have a0:=Qkr (Qa E).1 (Qa HT) A (by have e:t.text=s:=(Qa z).2.1;rw[e];exact Qa HQ) W;clear k2 k3 A W;go_wp2_with fail;rw[(Qa HW).1,(Qa HW).2];refine a0.mono ?_;clear a0;rintro en w9⟨_,rfl,rfl,hv,K⟩;have p:=(Qa E).2.1.trans K;have mv:=K.keep (Qa E).2.2.2.1 (by have:=Qa T;omega);have zv:=K.keep (Qa E).2.2.2.2 (by have:=Qa T;omega);clear K;obtain⟨ao,ap,aq,ar,au,xf⟩:=ex5 mv;obtain⟨n,k⟩:=JE (((w9.setCell (Ja ne 0) (Ji 1)).setCell (Ja ne 2) (str t.text)));have mX:n.heap[ne]?=some (.cells #[Ji 1,Ji 0,str t.text,Jn,Ji (t.at_:Int)] 59 (0,0)):=by rw[k];exact(Qah (Qah mv 0 _) 2 _).trans rfl
 have C:∀q,q≠ne->n.heap[q]?=w9.heap[q]?:=fun q hq=>by rw[k,hpS hq,hpS hq]
 have sX:n.heap.size=w9.heap.size:=by rw[k];simp
 obtain⟨e1,e2,e3,e4⟩:=Qa T;have zX:=(C w.heap.size (by omega)).trans zv;have L5:=Qdm mX;have S5:=Qbv (new:=#[Ji 1,Ji 0,str t.text,Jn,Ji (t.at_:Int)]) zX rfl rfl (by simp[Value.oneCell',str]);obtain⟨u,j⟩:=JE (n.setRow w.heap.size #[Ji 1,Ji 0,str t.text,Jn,Ji (t.at_:Int)]);rw[<- j]at S5;have L:∀q,q≠w.heap.size->u.heap[q]?=n.heap[q]?:=fun q hq=>by rw[j];exact setRow_other _ _ _ _ hq
 have s6:u.heap.size=n.heap.size:=by rw[j,size_setRow]
 have O:u.heap[w.heap.size]?=some (.cells #[Ji 1,Ji 0,str t.text,Jn,Ji (t.at_:Int)] 59 (0,0)):=by rw[j];exact setRow_heap _ _ _ _ _ _ zX
 have H:=hv.move (w':=u) (by omega) ((L rb (by omega)).trans (C rb (by omega))) ((L g (by omega)).trans (C g (by omega)));have J:Kp rb w u:=⟨by rw[j,k];exact p.os,by rw[j,k];exact p.tape,by rw[j,k];exact p.output,by rw[s6,sX];exact p.size,fun q hq I=>((L q (by omega)).trans (C q (by omega))).trans (p.block q hq I)⟩;have D:ExS (fun b=>w.heap.size<=b) u [Ji 1,Ji 0,str t.text,Jn,Ji (t.at_:Int)] (.mk 1 0 t.text [] (t.at_:Int)):=Qcf _ _ _ _ _ _;have HF:=hide (Ya H (Ya J (Ya O (Ya D trivial))));clear hv p mv zv mX C sX e1 e2 e3 e4 zX j L s6 O H J D;subst k;go_wp2_with fail;obtain⟨H,J,O,D,ah⟩:=Qa HF;obtain⟨a9,aa,ab,ac,ad,zf⟩:=ex5 O;refine bodyPost_ret (v:=.agg #[Ji 1,Ji 0,str t.text,Jn,Ji (t.at_:Int)]) (by simp[results,Tryz.results135,go_sem,a9,aa,ab,ac,ad]) rfl ?_;exact⟨_,_,rfl,⟨(.mk 1 0 t.text [] (t.at_:Int)),⟨_,rfl,⟨_,_,_,rfl⟩,D⟩,by have e:t.text=s:=(Qa z).2.1;simp[eqE,eqEs,e]⟩,H,J,(Qa z).2.2.2⟩
end
section
open Go.RowKit Go.Maps
def Fole(r:List Tok):Prop:=(True /\ ∃t r',r=t :: r'/\pickS t [[42],[47],[37]]=[]) /\ ∃t r',r=t :: r'/\pickS t [[43],[45]]=[]
theorem Qla{s:Txt}{r:List Tok}(h1:pickS (sgQ s) [[42],[47],[37]]=[])(h2:pickS (sgQ s) [[43],[45]]=[]):Fole (sgQ s :: r):=⟨⟨trivial,_,_,rfl,h1⟩,_,_,rfl,h2⟩
theorem Qhg(r:List Tok):Fole (sgQ [44] :: r):=Qla (by decide) (by decide)
theorem Qnr(r:List Tok):Fole (sgQ [41] :: r):=Qla (by decide) (by decide)
theorem Qos{rb g cap d:Nat}{l:List Tok}{K:List Tok}{x:Ex}(hd:d<31)(h1:YEa 135 rb g cap l (d+2) #[.pointer (Js rb)] (fun _=>True) K x):YE 108 rb g cap l d Fole K x:=by
 have b:=Qou (d:=d+1) (by omega) h1;have e:=Quj b;have c:=Qui (os:=[]) e (by simp) (hide rfl) (by simp);have a:=Quh (os:=[]) c (by simp) (hide rfl) (by simp);simp only[opsT,List.append_nil,opsX]at a;exact Que (by omega) a
theorem Qsl{rb g cap d:Nat}{l:List Tok}{s:Txt}(hd:d<31)(hq:wordP s=true)(hs:s≠[95]):YE 108 rb g cap l d Fole [nmR s] (.mk 1 0 s [] 0):=Qos hd (Quf hq hs)
theorem eqA_of{t s:Txt}{ks xs:List Ex}{a b:Int}(h:t=s)(h2:eqL eqE ks xs=true):eqA ⟨t,ks,a⟩ ⟨s,xs,b⟩=true:=by
 unfold eqA;simp[h,h2]
theorem Qks{rb g cap a d i:Nat}{l:List Tok}{w:World}(h:Rr rb g cap l w a d i 0 0){s:Txt}{K:Ex->List Tok}{xs:List Ex}(hx:∀x∈xs,YE 108 rb g cap l d Fole (K x) x /\ ∃t0 ks,K x=t0 :: ks/\isSg t0 [41]=false)(hm:xs.length<=8){rest:List Tok}(hA:Nxt l a (nmR s :: sgQ [40] :: (joinQ (xs.map K)++sgQ [41] :: rest))):
  Calls Tryz.prog 93 #[.pointer (Js rb)] w fun en w'=>XB rb g cap l w d (fun w' v=>∃x:Atm,VAm (fun b=>w.heap.size<=b) w' v x/\eqA x ⟨s,xs,0⟩=true) rest i en w':=by
 have o:Below w.heap.size w (w.alloc (.cells #[Je,Jn,Ji 0] 42)):=(Below.refl _ w).alloc (Nat.le_refl _) _;have y:(w.alloc (.cells #[Je,Jn,Ji 0] 42)).heap[w.heap.size]?=some (.cells #[Je,Jn,Ji 0] 42 (0,0)):=heap_alloc_new w _;have H:(w.alloc (.cells #[Je,Jn,Ji 0] 42)).heap.size=w.heap.size+1:=by simp
 obtain⟨t,U,hz,hn⟩:=hA.at;simp only[zk,Prod.mk.injEq]at hz;obtain⟨a6,a8,af⟩:=hz;have P:=hide (Ya a6 (Ya a8 hn));have HT:=hide U;have a9:Hid (∀w',Below w.heap.size w w'->Calls Tryz.prog 22 #[.pointer (Js rb)] w' fun en f=>en = .returned (.agg #[Ji t.kind,str t.text,Ji t.num,Ji (t.at_:Int)])/\Below w'.heap.size w' f):=fun w' bb=>Qap (h.later bb) U;have O:=hide h;have HX:=hide (Ya hx hm);have H0:=hide (Ya o (Ya y H));clear h U a6 a8 af hn hA hx hm o y H;go_enter Tryz.func93,Tryz.ntmps93;go_wp2_with fail;refine(Qa a9 _ (Qa H0).1).mono ?_;rintro en w1⟨rfl,E⟩;obtain⟨o,y,H⟩:=Qa H0;have M:=o.trans (E.mono (by omega));have z:=(E.block _ (by omega)).trans y;have a5:=Qkq ((Qa O).later M) (Qa HT) (Qa P).1;have ab:=Qaa (Qa O).box;have aa:=(Qa O).row.lt;have ac:=E.size;have K1:=hide (Ya (Kp.of_below (rb:=rb) M) (Ya z (show rb<w.heap.size/\g<w.heap.size/\w.heap.size<w1.heap.size by omega)));clear E o y H M z ab aa ac;go_wp2_with fail;rename_i hK;refine hK _ _ ?_;clear hK;go_wp2_with fail;refine a5.mono ?_;clear a5;rintro en f⟨_,rfl,rfl,h2,G⟩;obtain⟨k1,z,Q,R,S⟩:=Qa K1;have ad:=G.size;have n2:=G.keep z (by omega);obtain⟨k,D⟩:=JF f.heap.size;obtain⟨j,m⟩:=JE (f.alloc (.cells #[str t.text,Jn,Ji (t.at_:Int)] 42));have F:Below f.heap.size f j:=by rw[m];exact(Below.refl _ f).alloc (Nat.le_refl _) _
 have A:j.heap[k]?=some (.cells #[str t.text,Jn,Ji (t.at_:Int)] 42 (0,0)):=by rw[m,<- D];exact heap_alloc_new f _
 have I:j.heap.size=k+1:=by rw[m,<- D];simp
 have C:=(F.block _ (by omega)).trans n2;have a3:=Qot (h2.later F) Qhg Qnr (Qa HX).1 (Qa HX).2 (Qa P).2.2;have K3:=hide (Ya ((k1.trans G).trans (Kp.of_below F)) (Ya A (Ya C (Ya (show rb<w.heap.size/\g<w.heap.size/\w.heap.size<k by omega) I))));have L:=hide (Ya m D);clear k1 z Q R S ad n2 D m F A I C h2 G K1;go_wp2_with fail;rw[<- (Qa L).1,(Qa L).2];clear L;refine a3.mono ?_;clear a3;rintro en Z⟨_,a7,rfl,⟨ks,N,heq⟩,h7,p,a0⟩;obtain⟨r,u,rfl⟩:=N.sl;obtain⟨k3,A,C,⟨Q,R,S⟩,I⟩:=Qa K3;have ae:=p.size;have V:=p.keep A (by omega);have q7:=p.keep C (by omega);have a4:w.heap.size≠k:=by omega
 obtain⟨e,n⟩:=JE (Z.setCell (Ja k 1) (.slice r ks.length u));have n8:e.heap[k]?=some (.cells #[str t.text,.slice r ks.length u,Ji (t.at_:Int)] 42 (0,0)):=by rw[n];exact(Qah V 1 _).trans rfl
 have B:∀q,q≠k->e.heap[q]?=Z.heap[q]?:=fun q hq=>by rw[n,hpS hq]
 have s8:e.heap.size=Z.heap.size:=by rw[n];simp
 have q8:=(B _ a4).trans q7;have k8:Kp rb w e:=by rw[n];exact(k3.trans p).set2 (by omega)
 have h8:=h7.move (w':=e) (by omega) (B rb (by omega)) (B g (by omega));have a1:LsAt PE 5 (fun b=>j.heap.size<=b) e (.slice r ks.length u) ks:=N.same Qaf (by omega) (fun b c hl=>B b (by have a2:j.heap.size<=b:=c;omega));have T:=Ya heq a0;obtain⟨ag,aj,ah,xf⟩:=cl3 V;obtain⟨z0,z1,z2,zf⟩:=cl3 n8;obtain⟨y0,y1,ai,yf⟩:=cl3 q8;have HF:Hid (∀W X Y,XB rb g cap l w d (fun w' v=>∃x:Atm,VAm (fun b=>w.heap.size<=b) w' v x/\eqA x ⟨s,xs,0⟩=true) rest i (.returned (.agg #[str t.text,.slice r ks.length u,Ji (t.at_:Int)])) (((e.setCell (Ja w.heap.size 0) W).setCell (Ja w.heap.size 1) X).setCell (Ja w.heap.size 2) Y)):=fun W X Y=>by
  have J:∀b,b≠w.heap.size->(((e.setCell (Ja w.heap.size 0) W).setCell (Ja w.heap.size 1) X).setCell (Ja w.heap.size 2) Y).heap[b]?=e.heap[b]?:=fun b c=>by
   rw[hpS c,hpS c,hpS c]
  exact⟨_,_,rfl,⟨⟨t.text,ks,t.at_⟩,⟨_,_,_,rfl,(a1.same Qaf (by simp[World.setCell]) (fun b c hl=>J b (by have a2:j.heap.size<=b:=c;omega))).mono Qaf (fun b _ c=>by have a2:j.heap.size<=b:=c;omega)⟩,eqA_of (Qa P).2.1 T.1⟩,h8.move (by simp[World.setCell]) (J rb (by omega)) (J g (by omega)),((k8.set2 (by omega)).set2 (by omega)).set2 (by omega),T.2⟩
 clear h7 p N heq a0 k3 A C Q R S I ae V q7 n8 B s8 q8 k8 h8 a1 T K3 ag ah zf a4;subst n;go_wp2_with fail;refine bodyPost_ret (v:=.agg #[str t.text,.slice r ks.length u,Ji t.at_]) (by simp[results,Tryz.results93,go_sem,y0,y1,ai]) rfl ?_;exact Qa HF _ _ _
end
end Go.Proofs.YtmfpbepifnedjaaGreat
