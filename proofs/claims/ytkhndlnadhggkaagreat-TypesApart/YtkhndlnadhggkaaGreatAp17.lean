/- types. -/
import Derived.Test.YtkhndlnadhggkaaGreatAp01
import Derived.Test.YtkhndlnadhggkaaGreatAp16
import Derived.Test.YtkhndlnadhggkaaGreatAp07
set_option maxRecDepth 100000
set_option maxHeartbeats 32000000
namespace Go.Proofs.YtkhndlnadhggkaaGreat
section
open Go.RowKit Go.Maps
theorem cl9{w:World}{b:Nat}{T:TypeId}{v0 v1 v2 v3 v4 v5 v6 v7 v8:Value}(h:w.heap[b]?=some (.cells #[v0,v1,v2,v3,v4,v5,v6,v7,v8] T (0,0))):
  w.cell? (Ja b 0)=some v0/\w.cell? (Ja b 1)=some v1/\w.cell? (Ja b 2)=some v2/\w.cell? (Ja b 3)=some v3/\w.cell? (Ja b 4)=some v4/\w.cell? (Ja b 5)=some v5/\w.cell? (Ja b 6)=some v6/\w.cell? (Ja b 7)=some v7/\w.cell? (Ja b 8)=some v8 /\ ∀o,w.frozen? (Ja b o)=false:=
 ⟨(Qad h 0).trans rfl,(Qad h 1).trans rfl,(Qad h 2).trans rfl,(Qad h 3).trans rfl,(Qad h 4).trans rfl,(Qad h 5).trans rfl,(Qad h 6).trans rfl,(Qad h 7).trans rfl,(Qad h 8).trans rfl,fun o=>by simp[World.frozen?,h]⟩
structure KRow(w:World)(kb n cap:Nat)(nm:Nat->Txt)(sb:Nat->Nat)(bs:Nat->Int):Prop where
 le:n<=cap
 cm:cap<=maxLen
 ex:∃cur:Array Value,w.heap[kb]?=some (.cells cur 137 (0,0)) /\ ∀j,j<n->cur[j*3]?=some (str (nm j))/\cur[j*3+1]?=some (.int .i64 (sb j:Int))/\cur[j*3+2]?=some (.int .i64 (bs j))
section
variable {w w':World}{kb n cap:Nat}{nm:Nat->Txt}{sb:Nat->Nat}{bs:Nat->Int}
theorem KRow.keep(h:KRow w kb n cap nm sb bs)(e:w'.heap[kb]?=w.heap[kb]?):KRow w' kb n cap nm sb bs:=by
 obtain⟨a,b,d⟩:=h.ex;exact⟨h.le,h.cm,a,e.trans b,d⟩
theorem KRow.lt(h:KRow w kb n cap nm sb bs):kb<w.heap.size:=by
 obtain⟨_,a,_⟩:=h.ex;exact Qaa a
theorem KRow.cells(h:KRow w kb n cap nm sb bs){j:Nat}(hj:j<n):w.cell? (Ja kb (j*3))=some (str (nm j))/\w.cell? (Ja kb (j*3+1))=some (Ji (sb j:Int))/\w.cell? (Ja kb (j*3+2))=some (Ji (bs j)) /\ ∀o,w.frozen? (Ja kb o)=false:=by
 obtain⟨f,d,e⟩:=h.ex;obtain⟨a,b,c⟩:=e j hj;exact⟨(Qad d _).trans a,(Qad d _).trans b,(Qad d _).trans c,fun o=>by simp[World.frozen?,d]⟩
def updB(bs:Nat->Int)(i:Nat)(v:Int):Nat->Int:=fun k=>if k=i then v else bs k
theorem KRow.set(h:KRow w kb n cap nm sb bs){i:Nat}(hi:i<n)(v:Int):KRow (w.setCell (Ja kb (i*3+2)) (Ji v)) kb n cap nm sb (updB bs i v):=by
 obtain⟨f,g,d⟩:=h.ex;refine⟨h.le,h.cm,_,Qah g (i*3+2) _,fun j k=>?_⟩;obtain⟨a,b,c⟩:=d j k;have l:i*3+2<f.size:=by
  have:=(Array.getElem?_eq_some_iff.1 (d i hi).2.2).1;omega
 refine⟨?_,?_,?_⟩
 ·rw[Array.getElem?_setIfInBounds_ne (by omega)];exact a
 ·rw[Array.getElem?_setIfInBounds_ne (by omega)];exact b
 unfold updB;by_cases e:j=i
 ·
  subst e;rw[if_pos rfl,Array.getElem?_setIfInBounds_self_of_lt l]
 ·rw[if_neg e,Array.getElem?_setIfInBounds_ne (by omega)];exact c
end
structure CatP where
 cb:Nat
 kb:Nat
 kc:Nat
 mt:Nat
 md:Nat
 mc:Nat
 v0:Value
 v1:Value
 v2:Value
 v3:Value
 v4:Value
def nOf(k:Nat):Value:=.int .i64 (k:Int)
def pOf(q:Nat×Nat):Value:=.agg #[.int .i64 (q.1:Int),.int .i64 (q.2:Int)]
def MpF{α : Type}(f:α -> Value)(w:World)(mb:Nat)(row:List (Txt × α)):Prop:=∃ms,MpS w mb ms /\ ∀t,asc ms t=(asc row t).map f
theorem MpF.keep{α : Type}{f:α -> Value}{w w':World}{mb:Nat}{row:List (Txt × α)}(h:MpF f w mb row)(e:w'.heap[mb]?=w.heap[mb]?):MpF f w' mb row:=by
 obtain⟨d,a,b⟩:=h;exact⟨d,a.keep e,b⟩
theorem MpF.lt{α : Type}{f:α -> Value}{w:World}{mb:Nat}{row:List (Txt × α)}(h:MpF f w mb row):mb<w.heap.size:=by
 obtain⟨b,a,_⟩:=h;exact a.lt
structure Ct(n0:Nat)(p:Pg)(c:CatP)(bs:Nat->Int)(w:World):Prop where
 box:w.heap[c.cb]?=some (.cells #[c.v0,c.v1,c.v2,c.v3,c.v4,.slice (some ⟨c.kb,0,none⟩) (p.types.length+3) c.kc,.map (some c.mt),.map (some c.md),.map (some c.mc)] 129 (0,0))
 prg:PgO (fun b=>b<n0) w [c.v0,c.v1,c.v2,c.v3,c.v4] p
 row:KRow w c.kb (p.types.length+3) c.kc (kName p) (kSub p) bs
 mt:MpF nOf w c.mt (tyRow p.types)
 md:MpF nOf w c.md (dcRow p.decls)
 mc:MpF pOf w c.mc (ctRow p.types)
 l0:n0<=c.cb/\n0<=c.kb/\n0<=c.mt/\n0<=c.md/\n0<=c.mc
theorem Ct.ne{n0:Nat}{p:Pg}{c:CatP}{bs:Nat->Int}{w:World}(h:Ct n0 p c bs w):c.cb≠c.kb/\c.mt≠c.kb/\c.md≠c.kb/\c.mc≠c.kb:=by
 obtain⟨i,b,_⟩:=h.row.ex;refine⟨fun e=>?_,fun e=>?_,fun e=>?_,fun e=>?_⟩
 ·
  have:=h.box;rw[e,b]at this;simp at this
 ·
  obtain⟨g,⟨f,d,a,_⟩,_⟩:=h.mt;rw[e,b]at a;cases a
 ·
  obtain⟨g,⟨f,d,a,_⟩,_⟩:=h.md;rw[e,b]at a;cases a
 obtain⟨g,⟨f,d,a,_⟩,_⟩:=h.mc;rw[e,b]at a;cases a
theorem Ct.later{n0:Nat}{p:Pg}{c:CatP}{bs:Nat->Int}{w w':World}(h:Ct n0 p c bs w)(b:Below w.heap.size w w'):Ct n0 p c bs w':=
 ⟨(b.block _ (Qaa h.box)).trans h.box,Qcj.same _ _ _ _ _ h.prg b.size (fun q _ a=>b.block q a),h.row.keep (b.block _ h.row.lt),h.mt.keep (b.block _ h.mt.lt),h.md.keep (b.block _ h.md.lt),h.mc.keep (b.block _ h.mc.lt),h.l0⟩
theorem Ct.kset{n0:Nat}{p:Pg}{c:CatP}{bs:Nat->Int}{w:World}(h:Ct n0 p c bs w){i:Nat}(hi:i<p.types.length+3)(v:Int):Ct n0 p c (updB bs i v) (w.setCell (Ja c.kb (i*3+2)) (Ji v)):=by
 obtain⟨b,d,e,f⟩:=h.ne;have o:∀q,q≠c.kb->(w.setCell (Ja c.kb (i*3+2)) (Ji v)).heap[q]?=w.heap[q]?:=fun q a=>hpS a;exact⟨(o _ b).trans h.box,Qcj.same _ _ _ _ _ h.prg (by simp) (fun q a _=>o q (by have:=h.l0.2.1;have g:q<n0:=a;omega)),h.row.set hi v,h.mt.keep (o _ d),h.md.keep (o _ e),h.mc.keep (o _ f),h.l0⟩
def StB(p:Pg)(V:List Nat)(bs:Nat->Int):Prop:=∀k,k<p.types.length+3->bs k=kBase p k∨(bs k = -1/\kInit p k = -1/\k∉V)∨(bs k = -2/\k∈V)
def LeadV(p:Pg)(V:List Nat)(i:Nat):Prop:=∀v∈V,∃m,0<m/\(∀j,j<m->kInit p (far p j v) = -1)/\far p m v=i
theorem Qhw(p:Pg)(k:Nat):kSub p k<p.types.length+3:=by
 unfold kSub;split
 ·omega
 cases p.types[k - 3]? with
 |none=>simp
 |some t=>
  simp only[Option.map_some,Option.getD_some];unfold tyNo
  cases h:asc (tyRow p.types) t.sub with
  |none=>simp
  |some n=>
   simp only[Option.getD_some];unfold asc at h;rw[Option.map_eq_some_iff]at h;obtain⟨q,b,rfl⟩:=h;have a:=List.mem_of_find?_eq_some b;unfold tyRow at a;simp only[List.mem_cons,List.mem_map]at a;rcases a with rfl|rfl|⟨⟨x,j⟩,d,rfl⟩
   ·simp
   ·simp
   have:=List.snd_lt_of_mem_zipIdx d;simp only;omega
theorem Qge{n0:Nat}{p:Pg}{c:CatP}{V:List Nat}{bs:Nat->Int}{w:World}{i:Nat}(hC:Ct n0 p c bs w)(hS:StB p V bs)(hL:LeadV p V i)(hi:i<p.types.length+3)(hne:bs i ≠ -1):
  Calls Tryz.prog 98 #[.pointer (Js c.cb),Ji (i:Int)] w fun en w'=>en = .returned (Ji (kBase p i))/\Kp c.kb w w' /\ ∃bs',Ct n0 p c bs' w'/\StB p V bs'/\bs' i=kBase p i /\ ∀k,bs' k = -1->bs k = -1:=by
 have b:bs i=kBase p i:=by
  rcases hS i hi with e|⟨e,_⟩|⟨e,C⟩
  ·exact e
  ·exact absurd e hne
  obtain⟨m,z,A,B⟩:=hL i C;rw[e,Qnb z A B]
 obtain⟨o,q,r,s,t,u,v,x,y,I⟩:=cl9 hC.box;obtain⟨F,G,g,H⟩:=hC.row.cells hi;rw[b]at g;have l:=hC.row.le;have j:=hC.row.cm;unfold maxLen at j;obtain⟨n,f⟩:=JF (p.types.length+3);have d:=hide (show Kp c.kb w w /\ ∃bs',Ct n0 p c bs' w/\StB p V bs'/\bs' i=kBase p i /\ ∀k,bs' k = -1->bs k = -1 from ⟨Kp.refl _ _,bs,hC,hS,b,fun _ h=>h⟩);rw[f]at u hi l;obtain⟨D,a⟩:=JF (kBase p i);rw[a]at g d ⊢;have E:(D == -1)=false:=beq_eq_false_iff_ne.2 (by rw[<- a];exact Qfc p i);clear hC hS hL hne b f a o q r s t v x y;go_enter Tryz.func98,Tryz.ntmps98;go_wp2_with fail;go_ret;exact⟨rfl,Qa d⟩
theorem Qnn{n0:Nat}{p:Pg}{c:CatP}:∀(N:Nat) (U V:List Nat) (bs:Nat->Int) (w:World) (i:Nat),U.length<=N->(∀k,k<p.types.length+3->bs k = -1->k∈U)->Ct n0 p c bs w->StB p V bs->LeadV p V i->i<p.types.length+3 ->
  Calls Tryz.prog 98 #[.pointer (Js c.cb),Ji (i:Int)] w fun en w'=>en = .returned (Ji (kBase p i))/\Kp c.kb w w' /\ ∃bs',Ct n0 p c bs' w'/\StB p V bs'/\bs' i=kBase p i /\ ∀k,bs' k = -1->bs k = -1:=by
 intro N
 induction N with
 |zero=>
  intro U V bs w i H u g h t d;have o:bs i ≠ -1:=fun e=>by
   have:=u i d e;rw[List.length_eq_zero_iff.1 (Nat.le_zero.1 H)]at this;cases this
  exact Qge g h t d o
 |succ N ih=>
  intro U V bs w i H u g h t d;by_cases o:bs i = -1
  ·
   have s:kInit p i = -1/\i∉V:=by
    rcases h i d with e|⟨_,a,b⟩|⟨e,_⟩
    ·exact absurd (e.symm.trans o) (Qfc p i)
    ·exact⟨a,b⟩
    ·omega
   obtain⟨O,C⟩:=JE (w.setCell (Ja c.kb (i*3+2)) (Ji (-2)));have z:Ct n0 p c (updB bs i (-2)) O:=by rw[C];exact g.kset d (-2)
   have y:Kp c.kb w O:=by rw[C];exact Kp.set _ _ _ _
   have R:StB p (i :: V) (updB bs i (-2)):=fun k f=>by
    unfold updB;by_cases e:k=i
    ·subst e;rw[if_pos rfl];exact .inr (.inr ⟨rfl,List.mem_cons_self ..⟩)
    rw[if_neg e];rcases h k f with a|⟨a,b,r⟩|⟨a,b⟩
    ·exact .inl a
    ·exact .inr (.inl ⟨a,b,fun x=>(List.mem_cons.1 x).elim e r⟩)
    ·exact .inr (.inr ⟨a,List.mem_cons_of_mem _ b⟩)
   have Q:LeadV p (i :: V) (kSub p i):=fun v I=>by
    rcases List.mem_cons.1 I with rfl|I
    ·exact⟨1,by omega,fun j hj=>by rw[show j=0 by omega];exact s.1,rfl⟩
    obtain⟨m,a,b,r⟩:=t v I;refine⟨m+1,by omega,fun j hj=>?_,by rw[Qhu,r]⟩;by_cases e:j<m
    ·exact b j e
    ·rw[show j=m by omega,r];exact s.1
   have T:=Qhw p i
   have G:=ih (U.filter (fun k=>decide (k≠i))) (i :: V) (updB bs i (-2)) O (kSub p i) (by
    have x:=u i d o;have:(U.filter (fun k=>decide (k≠i))).length<U.length:=by
     refine List.length_filter_lt_length_iff_exists.2 ⟨i,x,by simp⟩
    omega) (fun k f e=>by
    unfold updB at e;by_cases q:k=i
    ·rw[if_pos q]at e;omega
    rw[if_neg q]at e
    exact List.mem_filter.2 ⟨u k f e,by simpa using q⟩) z R Q T
   rw[<- Qgy s.1]at G;obtain⟨af,ag,ah,ai,aj,Y,ak,al,am,xf⟩:=cl9 g.box;obtain⟨J,K,E,L⟩:=g.row.cells d;obtain⟨a7,a8,a9,aa,ab,X,ac,ad,ae,qf⟩:=cl9 z.box;obtain⟨t0,t1,M,tf⟩:=z.row.cells d;rw[o]at E;have a5:=g.row.le;have a4:=g.row.cm;unfold maxLen at a4;obtain⟨n,l⟩:=JF (p.types.length+3);rw[l]at Y X d a5;have Z:=hide (Ya h (Ya d (Ya y (Ya s.2 l))));have a0:=hide C;clear ih H u g h t o s C z y R Q T l af ag ah ai aj ak al am a7 a8 a9 aa ab ac ad ae t0;go_enter Tryz.func98,Tryz.ntmps98;go_upto_region 4 with fail;rw[<- Qa a0];clear Y xf J K E L;go_wp2_with fail;refine G.mono ?_;clear G X qf t1 M tf;rintro en w2⟨rfl,k2,a2,F,S,a3,W⟩;obtain⟨h,B,y,a6,l⟩:=Qa Z;obtain⟨J,K,E,L⟩:=F.row.cells (j:=i) (by rw[l];exact B);have A:=F.kset (i:=i) (by rw[l];exact B) (kBase p i);obtain⟨P,D⟩:=JE (w2.setCell (Ja c.kb (i*3+2)) (Ji (kBase p i)));rw[<- D]at A;have k3:Kp c.kb w2 P:=by rw[D];exact Kp.set _ _ _ _
   obtain⟨t0,t1,M,tf⟩:=A.row.cells (j:=i) (by rw[l];exact B);have q:updB a2 i (kBase p i) i=kBase p i:=if_pos rfl;rw[q]at M
   have HE:=hide (show Kp c.kb w P /\ ∃bs',Ct n0 p c bs' P/\StB p V bs'/\bs' i=kBase p i /\ ∀k,bs' k = -1->bs k = -1 from ⟨(y.trans k2).trans k3,_,A,fun k f=>by
    unfold updB;by_cases e:k=i
    ·rw[if_pos e,e];exact .inl rfl
    ·
     rw[if_neg e];rcases S k f with a|⟨a,b,r⟩|⟨a,b⟩
     ·exact .inl a
     ·exact .inr (.inl ⟨a,b,fun x=>r (List.mem_cons_of_mem _ x)⟩)
     ·exact .inr (.inr ⟨a,(List.mem_cons.1 b).resolve_left e⟩),q,fun k f=>by
    unfold updB at f;by_cases e:k=i
    ·rw[if_pos e]at f;exact absurd f (Qfc p i)
    rw[if_neg e]at f;have:=W k f;unfold updB at this;rw[if_neg e]at this
    exact this⟩)
   have a1:=hide D;clear k2 F S a3 W h B y a6 l A D k3 q Z;go_upto_region 5 with fail;rw[<- Qa a1];clear J K E L;go_wp2_with fail;go_ret;exact⟨rfl,Qa HE⟩
  ·exact Qge g h t d o
abbrev Cs(n0:Nat)(p:Pg)(c:CatP)(w:World):Prop:=Ct n0 p c (kBase p) w
section
variable {n0:Nat}{p:Pg}{c:CatP}{w:World}
theorem Cs.ty(h:Cs n0 p c w)(t:Txt):(Instr.lookup 125 (.map (some c.mt)) (str t) false).run Tryz.prog w = .ok (Ji (tyNo p t:Int)) w:=by
 obtain⟨d,a,b⟩:=h.mt;rw[Qdx uS mI zI w c.mt d t a false,b t];unfold tyNo;cases asc (tyRow p.types) t<;>rfl
theorem Cs.dc(h:Cs n0 p c w)(t:Txt):(Instr.lookup 125 (.map (some c.md)) (str t) true).run Tryz.prog w = .ok (.tuple #[Ji (((asc (dcRow p.decls) t).getD 0:Nat):Int),.bool (asc (dcRow p.decls) t).isSome]) w:=by
 obtain⟨d,a,b⟩:=h.md;rw[Qdx uS mI zI w c.md d t a true,b t];cases asc (dcRow p.decls) t<;>rfl
theorem Qre(p:Pg)(t:Txt):tyNo p t<p.types.length+3:=by
 have:=Qhw (.mk (p.types++[⟨[],t,[],0⟩]) [] [] [] []) (p.types.length+3);unfold tyNo
 cases h:asc (tyRow p.types) t with
 |none=>simp
 |some n=>
  simp only[Option.getD_some];unfold asc at h;rw[Option.map_eq_some_iff]at h;obtain⟨q,b,rfl⟩:=h;have a:=List.mem_of_find?_eq_some b;unfold tyRow at a;simp only[List.mem_cons,List.mem_map]at a;rcases a with rfl|rfl|⟨⟨x,j⟩,d,rfl⟩
  ·simp
  ·simp
  have:=List.snd_lt_of_mem_zipIdx d;simp only;omega
theorem Qjr(h:Cs n0 p c w)(t:Txt):
  Calls Tryz.prog 73 #[.pointer (Js c.cb),str t] w fun en w'=>en = .returned (.bool (decide (tyNo p t≠0)))/\w'=w:=by
 have m:=h.ty t;obtain⟨a,b,d,f,g,i,l,j,k,o⟩:=cl9 h.box;clear h a b d f g i j k;go_enter Tryz.func73,Tryz.ntmps73;go_wp2_with fail;go_ret;refine⟨?_,rfl⟩;by_cases e:tyNo p t=0<;>simp[e]
theorem Qsk(p:Pg)(k:Nat)(h:kInit p k ≠ -1):∃m:Nat,kInit p k=(m:Int)/\m<p.types.length+3:=by
 unfold kInit at h ⊢;split at h
 ·
  rename_i a;rw[if_pos a];exact⟨k,rfl,by omega⟩
 rename_i a;rw[if_neg a];split at h
 ·
  rename_i t d;split at h
  ·
   rename_i b;have:=(List.getElem?_eq_some_iff.1 d).1;exact⟨k,by simp[b],by omega⟩
  ·exact absurd rfl h
 ·exact⟨0,rfl,by omega⟩
theorem Qpj(p:Pg)(k:Nat)(h:kBase p k ≠ -2):∃m:Nat,kBase p k=(m:Int)/\m<p.types.length+3:=by
 obtain⟨i,_,_,a,b⟩:=Qgc p _ _ _ rfl h;obtain⟨m,e,d⟩:=Qsk p (far p i k) (by rw[a];exact b);exact⟨m,a.symm.trans e,d⟩
def bsV(o:Option Txt):Value:=.tuple #[str (o.getD []),.bool o.isSome]
theorem Qhm(h:Cs n0 p c w)(t:Txt):
  Calls Tryz.prog 47 #[.pointer (Js c.cb),str t] w fun en w'=>en = .returned (bsV (baseP p t))/\Below w.heap.size w w':=by
 have q:∀w',Below w.heap.size w w'->(Instr.lookup 125 (.map (some c.mt)) (str t) false).run Tryz.prog w' = .ok (Ji (tyNo p t:Int)) w':=fun w' b=>Cs.ty (Ct.later h b) t;obtain⟨E,F,G,H,I,J,P,K,L,S⟩:=cl9 h.box;have a:=Qre p t;obtain⟨r,k,l,z⟩:=h.row.cells a;have D:=h.row.le;have C:=h.row.cm;unfold maxLen at C;obtain⟨o,g⟩:=JF (baseP p t);rw[g];unfold baseP at g;obtain⟨n,y⟩:=JF (p.types.length+3);obtain⟨i,s⟩:=JF (tyNo p t);rw[y]at J a D;rw[s]at a r k l g;have x:=hide g;clear g;simp only[s]at q;have N:=q w (Below.refl _ _);have O:=q w.drew (Below.refl _ w).drew;clear q E F G H I K L;go_enter Tryz.func47,Tryz.ntmps47;go_wp2_with fail
 go_region
 obtain⟨j,u⟩:=JF (kBase p i);rw[u];have d:=hide u;clear u;by_cases e:j=0
 ·
  subst e;clear r k l z a;go_wp2_with fail;refine bodyPost_ret (v:=.tuple #[Je,.bool false]) (by simp[results,Tryz.results47,go_sem]) rfl ?_;exact⟨by rw[<- Qa x,Qa d];rfl,(Below.refl _ w).drew⟩
 have Q:(j==0)=false:=beq_eq_false_iff_ne.2 e;by_cases f:j = -2
 ·
  subst f;clear r k l z a e;go_wp2_with fail;refine bodyPost_ret (v:=.tuple #[Je,.bool false]) (by simp[results,Tryz.results47,go_sem]) rfl ?_;exact⟨by rw[<- Qa x,Qa d];rfl,(Below.refl _ w).drew⟩
 have R:(j == -2)=false:=beq_eq_false_iff_ne.2 f;have M:=hide (show hasB j=true by simp[hasB,e,f]);obtain⟨m,B,A⟩:=Qpj p i (by rw[Qa d];exact f);rw[Qa d]at B;subst B;obtain⟨r,k,l,z⟩:=h.row.cells A;rw[y]at A;clear y h k l a e f s;go_wp2_with fail;refine bodyPost_ret (v:=.tuple #[str (kName p m),.bool true]) (by simp[results,Tryz.results47,go_sem]) rfl ?_;exact⟨by rw[<- Qa x,Qa d,Qa M];rfl,(Below.refl _ w).drew⟩
end
theorem Qnc{p:Pg}{k:Nat}(hk:k<p.types.length+3)(h:kInit p k ≠ -1):kInit p k=(k:Int):=by
 unfold kInit at h ⊢;split
 ·rfl
 rename_i a;rw[if_neg a]at h;have b:k - 3<p.types.length:=by omega
 rw[List.getElem?_eq_getElem b]at h ⊢;simp only at h ⊢;split
 ·rfl
 rename_i d;rw[if_neg d]at h;exact absurd rfl h
theorem Qtx(p:Pg):∀m k,k<p.types.length+3->far p m k<p.types.length+3
 | 0,_,h=>h
 |m+1,k,_=>Qtx p m (kSub p k) (Qhw p k)
def hgt(p:Pg):Nat->Nat->Nat
 | 0,_=>0
 |f+1,k=>if kInit p k = -1 then hgt p f (kSub p k)+1 else 0
theorem Qlw(p:Pg):∀f k,root p f k ≠ -2->hgt p (f+1) k=hgt p f k
 | 0,_,h=>absurd rfl h
 |f+1,k,h=>by
  unfold root at h;unfold hgt;by_cases e:kInit p k = -1
  ·
   rw[if_pos e]at h;rw[if_pos e,if_pos e,Qlw p f _ h]
  ·rw[if_neg e,if_neg e]
theorem hgt_lt{p:Pg}{k:Nat}(h:kInit p k = -1)(hb:kBase p k ≠ -2):hgt p (p.types.length+1) (kSub p k)<hgt p (p.types.length+1) k:=by
 have a:root p p.types.length (kSub p k) ≠ -2:=by
  unfold kBase root at hb;rw[if_pos h]at hb;exact hb
 rw[Qlw p _ _ a];rw[show hgt p (p.types.length+1) k=if kInit p k = -1 then hgt p p.types.length (kSub p k)+1 else 0 from rfl,if_pos h];omega
def hgtV(p:Pg):Value->Nat
 | .int _ x=>hgt p (p.types.length+1) x.toNat
 |_=>0
section
variable {n0:Nat}{p:Pg}{c:CatP}{w:World}
theorem Qef(h:Cs n0 p c w)(a b:Txt):
  Calls Tryz.prog 48 #[.pointer (Js c.cb),str a,str b] w fun en w'=>en = .returned (.bool (belowP p a b))/\Below w.heap.size w w':=by
 have S:=Cs.ty h a;have T:=Cs.ty h b;have U:=Cs.ty (Ct.later h (Below.refl _ w).drew) a;have V:=Cs.ty (Ct.later h (Below.refl _ w).drew) b;have Z:=hide (show ∀k,k<p.types.length+3->w.drew.cell? (Ja c.kb (k*3+1))=some (Ji (kSub p k:Int))/\w.drew.cell? (Ja c.kb (k*3+2))=some (Ji (kBase p k)) from fun k l=>⟨(h.row.cells l).2.1,(h.row.cells l).2.2.1⟩);obtain⟨a3,a4,a5,a6,a7,a8,a9,aa,ab,xf⟩:=cl9 h.box;have t:=Qre p a;have a2:=h.row.le;have a0:=h.row.cm;unfold maxLen at a0;obtain⟨o,f⟩:=JF (belowP p a b);rw[f];unfold belowP at f;obtain⟨n,A⟩:=JF (p.types.length+3);obtain⟨i,Q⟩:=JF (tyNo p a);obtain⟨C,Y⟩:=JF (tyNo p b);rw[Q]at S U f t;rw[Y]at T V f;obtain⟨r1,r2⟩:=Qa Z i t;rw[A]at a8 t a2;obtain⟨u,G⟩:=JF (kBase p i);rw[G]at r2 f;have q:=hide (Ya f (Ya G A));clear f G Q Y a3 a4 a5 a6 a7 aa ab;have H:=hide A;clear A;go_enter Tryz.func48,Tryz.ntmps48;go_wp2_with fail
 go_region
 clear S T U V a9;by_cases y:u=0
 ·
  subst y;go_wp2_with fail;go_ret;exact⟨by rw[<- (Qa q).1];rfl,(Below.refl _ w).drew⟩
 have g0:(u==0)=false:=beq_eq_false_iff_ne.2 y;by_cases r:u = -2
 ·
  subst r;clear y;go_wp2_with fail;go_ret;exact⟨by rw[<- (Qa q).1];rfl,(Below.refl _ w).drew⟩
 have g2:(u == -2)=false:=beq_eq_false_iff_ne.2 r;obtain⟨I,hI,hj,l,W⟩:=Qgc p _ _ _ (Qa q).2.1 r;have P:far p I i<p.types.length+3:=Qtx p I i (by rw[Qa H];exact t);have O:u=(far p I i:Int):=l.symm.trans (Qnc P (by rw[l];exact W));obtain⟨j,E⟩:=JF (far p I i);rw[E]at O;subst O;have N:¬j=0:=by omega
 have d:=hide (Ya (show hasB (j:Int)=true by simp[hasB,N,r]) (Ya E (Ya hI (Ya hj (show kBase p i ≠ -2 by rw[(Qa q).2.1];omega)))));clear y N r hI hj l W P E;go_wp2_with fail;go_loopw [7] (fun v wr=>∃(k m:Nat),v = Ji (k:Int)/\wr=w.drew/\k<n/\Hid (m<=I/\far p m i=k/\o=upTo p C j (p.types.length+1 - m) k/\kBase p k ≠ -2)) (fun v _=>hgtV p v)
 case atStart=>exact⟨i,0,rfl,rfl,t,hide ⟨Nat.zero_le _,rfl,by rw[<- (Qa q).1,(Qa d).1];rfl,(Qa d).2.2.2.2⟩⟩
 obtain⟨k,m,rfl,rfl,a1,g⟩:=hrel;obtain⟨r3,r4⟩:=Qa Z k (by rw[Qa H];exact a1);by_cases B:k=C
 ·
  subst B;go_wp2_with fail;go_ret;refine⟨?_,(Below.refl _ w).drew⟩;obtain⟨K,_,s,_⟩:=Qa g;rw[s,show p.types.length+1 - m=p.types.length - m+1 by have:=(Qa d).2.2.1;omega];simp[upTo]
 have g1:((k:Int)==(C:Int))=false:=beq_eq_false_iff_ne.2 (by omega);have ac:((k:Int) != (C:Int))=true:=by simp;omega
 by_cases M:k=j
 ·
  subst M;go_wp2_with fail;go_ret;refine⟨?_,(Below.refl _ w).drew⟩;obtain⟨K,_,s,_⟩:=Qa g;rw[s,show p.types.length+1 - m=p.types.length - m+1 by have:=(Qa d).2.2.1;omega];simp[upTo,B]
 have g3:((k:Int) != (j:Int))=true:=by simp;omega
 have J:=Qhw p k;rw[Qa H]at J;obtain⟨ks,F⟩:=JF (kSub p k);rw[F]at r3 J;have x:=hide F;have D:=hide (Ya B M);clear F B M g1;go_wp2_with fail;have X:m<I:=by
  obtain⟨K,z,_⟩:=Qa g;have L:=(Qa d).2.1;by_cases e:m=I
  ·
   rw[e,L]at z;exact absurd z.symm (Qa D).2
  ·omega
 have R:kInit p k = -1:=by rw[<- (Qa g).2.1];exact(Qa d).2.2.2.1 m X
 go_roundw
 case rel=>
  obtain⟨K,z,s,L⟩:=Qa g;refine⟨ks,m+1,rfl,trivial,J,hide ⟨X,by rw[Qhu,z,Qa x],?_,by rw[<- Qa x,<- Qgy R];exact L⟩⟩;have h5:=(Qa d).2.2.1;rw[s,show p.types.length+1 - m=p.types.length - m+1 by omega,show p.types.length+1 - (m+1)=p.types.length - m by omega];have h6:¬((k:Int)=(j:Int)):=by have:=(Qa D).2;omega
  simp[upTo,(Qa D).1,h6,Qa x]
 have:=hgt_lt R (Qa g).2.2.2;rw[Qa x]at this
 simpa[hgtV] using this
end
structure Sc(b:Nat)(T:TypeId)(cs:Array Value)(w W:World):Prop where
 box:W.heap[b]?=some (.cells cs T (0,0))
 size:W.heap.size=w.heap.size
 oth:∀q,q≠b->W.heap[q]?=w.heap[q]?
 os:W.os=w.os
 tape:W.tape=w.tape
 output:W.output=w.output
theorem Sc.below{b:Nat}{T:TypeId}{cs:Array Value}{w W w0:World}{B:Nat}(h:Sc b T cs w W)(hB:Below B w0 w)(hb:B<=b):Below B w0 W:=
 ⟨h.os.trans hB.os,h.tape.trans hB.tape,h.output.trans hB.output,by rw[h.size];exact hB.size,fun q a=>(h.oth q (by omega)).trans (hB.block q a)⟩
theorem sc2{w:World}{b:Nat}{T:TypeId}{u0 u1:Value}(n:w.heap[b]?=some (.cells #[u0,u1] T (0,0)))(v0 v1:Value):∃W,W=((w.setCell (Ja b 0) v0).setCell (Ja b 1) v1)/\Sc b T #[v0,v1] w W:=
 ⟨_,rfl,(Qah (Qah n 0 _) 1 _).trans (by simp),by simp,fun q a=>by rw[hpS a,hpS a],rfl,rfl,rfl⟩
theorem sc5{w:World}{b:Nat}{T:TypeId}{u0 u1 u2 u3 u4:Value}(n:w.heap[b]?=some (.cells #[u0,u1,u2,u3,u4] T (0,0)))(v0 v1 v2 v3 v4:Value):∃W,W=(((((w.setCell (Ja b 0) v0).setCell (Ja b 1) v1).setCell (Ja b 2) v2).setCell (Ja b 3) v3).setCell (Ja b 4) v4)/\Sc b T #[v0,v1,v2,v3,v4] w W:=
 ⟨_,rfl,(Qah (Qah (Qah (Qah (Qah n 0 _) 1 _) 2 _) 3 _) 4 _).trans (by simp),by simp,fun q a=>by rw[hpS a,hpS a,hpS a,hpS a,hpS a],rfl,rfl,rfl⟩
theorem Qok{α : Type}{l:List (Txt × α)}{t:Txt}{v:α}(h:asc l t=some v):(t,v)∈l:=by
 unfold asc at h;rw[Option.map_eq_some_iff]at h;obtain⟨q,b,rfl⟩:=h;have d:=List.mem_of_find?_eq_some b;have a:=List.find?_some b;simp only[decide_eq_true_eq]at a;rw[<- a];exact d
theorem asc_dc{ds:List Dcl}{t:Txt}{i:Nat}(h:asc (dcRow ds) t=some i):∃d,ds[i]?=some d/\d.name=t:=by
 have:=Qok h;unfold dcRow at this;obtain⟨⟨x,j⟩,g,e⟩:=List.mem_map.1 this;simp only[Prod.mk.injEq]at e;obtain⟨a,b⟩:=e;subst b;have f:=List.mem_zipIdx g;exact⟨x,by rw[List.getElem?_eq_getElem (by omega)];simp[f.2.2],a⟩
theorem asc_ct{ts:List Typ}{t:Txt}{q:Nat×Nat}(h:asc (ctRow ts) t=some q):∃ty ct,ts[q.1]?=some ty/\ty.ctors[q.2]?=some ct/\ct.name=t:=by
 have:=Qok h;unfold ctRow at this;obtain⟨⟨x,j⟩,l,e⟩:=List.mem_flatMap.1 this;obtain⟨⟨ct,k⟩,i,a⟩:=List.mem_map.1 e;simp only[Prod.mk.injEq]at a;obtain⟨d,f⟩:=a;subst f;have g:=List.mem_zipIdx l;have b:=List.mem_zipIdx i;exact⟨x,ct,by rw[List.getElem?_eq_getElem (by omega)];simp[g.2.2],by rw[List.getElem?_eq_getElem (by simpa using b.2.1)];simp[b.2.2],d⟩
theorem LsAt.cap{α : Type}{p:PS α}{k:Nat}{S:Nat->Prop}{w:World}{v:Value}{xs:List α}(h:LsAt p k S w v xs){a:Option Addr}{n c:Nat}(e:v = .slice a n c):n<=c/\c<=9223372036854775807:=by
 obtain⟨g,i,f,rfl,d,b,_⟩:=h;cases e
 unfold maxLen at b;exact⟨d,b⟩
def DcA(S:Nat->Prop)(w:World)(o:Option Dcl)(v:Value):Prop:=match o with
 |none=>v = .tuple #[.agg #[.string ⟨#[]⟩,.slice none 0 0,.bool false,.bool false,.int .i64 0],.bool false]
 |some d=>∃xa xc,v = .tuple #[.agg #[str d.name,.slice xa d.cols.length xc,.bool d.input,.bool d.output,.int .i64 d.at_],.bool true]/\LsAt PF 2 S w (.slice xa d.cols.length xc) d.cols
section
variable {n0:Nat}{p:Pg}{c:CatP}{w:World}
theorem Qfj(h:Cs n0 p c w)(t:Txt):
  Calls Tryz.prog 78 #[.pointer (Js c.cb),str t] w fun en w'=>∃v,en = .returned v/\DcA (fun b=>b<n0) w' (declP2 p t) v/\Below w.heap.size w w':=by
 obtain⟨w1,g⟩:=JE (w.alloc (.cells #[Je,Jn,.bool false,.bool false,Ji 0] 63));have j:=bnw g;have m:=nnw g;have V:w1.heap.size=w.heap.size+1:=by rw[g];simp
 have k:=Ct.later h j;have u:=Cs.dc k t;obtain⟨O,D,P,Q,R,S,T,a5,U,xf⟩:=cl9 k.box;obtain⟨vt,vd,vc,vi,vl,G,_,r,_⟩:=PgO.cells k.prg;obtain⟨_,e1,_⟩:=list5 G;subst e1;obtain⟨a6,a7,a8,a9,aa,yf⟩:=cl5 m;have J:=hide g;obtain⟨o,e⟩:=JF (declP2 p t);rw[e];unfold declP2 at e
 cases f:asc (dcRow p.decls) t with
 |none=>
  rw[f]at u e;simp only[Option.getD_none,Option.isSome_none]at u;obtain⟨W,l,sc⟩:=sc5 m (Je) (Jn) (.bool false) (.bool false) (Ji 0);have a:=hide (Ya (sc.below j (Nat.le_refl _)) (Ya sc.box e));have E:=hide l;clear g j m V h k G r f e l sc O D P Q R S T U;go_enter Tryz.func78,Tryz.ntmps78;go_upto_region 1 with fail;rw[<- Qa J];go_wp2_with fail;rw[<- Qa E];obtain⟨y,z,A,B,C,uf⟩:=cl5 (Qa a).2.1;refine bodyPost_ret (v:=.tuple #[.agg #[Je,Jn,.bool false,.bool false,Ji 0],.bool false]) (by simp[results,Tryz.results78,go_sem,y,z,A,B,C]) rfl ?_;exact⟨_,rfl,by rw[<- (Qa a).2.2];rfl,(Qa a).1⟩
 |some i=>
  rw[f]at u e;simp only[Option.getD_some,Option.isSome_some]at u;obtain⟨d,s,a2⟩:=asc_dc f;clear a2;have N:o=some d:=by rw[<- e];exact s
  obtain⟨b,cap,cs,F,a0,Z,a1,⟨H,xn,I,rfl,x⟩,L⟩:=r.elem s;obtain⟨ca,cc,Y⟩:=x.sl;cases Y
  obtain⟨ab,ac,ad,ae,af⟩:=cs5 L;have a3:=(List.getElem?_eq_some_iff.1 s).1;have X:=r.cap F;rw[F]at D;obtain⟨W,l,sc⟩:=sc5 m (str d.name) (.slice H d.cols.length I) (.bool d.input) (.bool d.output) (Ji d.at_);have K:=x.same Qbb (w':=W) (by rw[sc.size];exact Nat.le_refl _) (fun q f _=>sc.oth q (by have a4:q<n0:=f;have:=h.l0.1;have:=Qaa h.box;omega));have a:=hide (Ya (sc.below j (Nat.le_refl _)) (Ya sc.box (Ya N K)));have E:=hide l;obtain⟨nd,M⟩:=JF p.decls.length;rw[M]at D a3 X;clear g j m V h k G r f e s N a0 Z a1 x L K F M l sc O P Q R S T U;go_enter Tryz.func78,Tryz.ntmps78;go_upto_region 1 with fail;rw[<- Qa J];go_wp2_with fail;rw[<- Qa E];obtain⟨y,z,A,B,C,uf⟩:=cl5 (Qa a).2.1;refine bodyPost_ret (v:=.tuple #[.agg #[str d.name,.slice H d.cols.length I,.bool d.input,.bool d.output,Ji d.at_],.bool true]) (by simp[results,Tryz.results78,go_sem,y,z,A,B,C]) rfl ?_;exact⟨_,rfl,by rw[(Qa a).2.2.1];exact⟨H,I,rfl,(Qa a).2.2.2⟩,(Qa a).1⟩
end
end
end Go.Proofs.YtkhndlnadhggkaaGreat
