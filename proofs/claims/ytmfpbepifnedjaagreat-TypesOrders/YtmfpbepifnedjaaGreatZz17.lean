/- types. -/
import Derived.Test.YtmfpbepifnedjaaGreatZz01
import Derived.Test.YtmfpbepifnedjaaGreatZz16
import Derived.Test.YtmfpbepifnedjaaGreatZz07
set_option maxRecDepth 100000
set_option maxHeartbeats 32000000
namespace Go.Proofs.YtmfpbepifnedjaaGreat
section
open Go.RowKit Go.Maps
theorem cl9{w:World}{b:Nat}{T:TypeId}{v0 v1 v2 v3 v4 v5 v6 v7 v8:Value}(h:w.heap[b]?=some (.cells #[v0,v1,v2,v3,v4,v5,v6,v7,v8] T (0,0))):
  w.cell? (Ja b 0)=some v0/\w.cell? (Ja b 1)=some v1/\w.cell? (Ja b 2)=some v2/\w.cell? (Ja b 3)=some v3/\w.cell? (Ja b 4)=some v4/\w.cell? (Ja b 5)=some v5/\w.cell? (Ja b 6)=some v6/\w.cell? (Ja b 7)=some v7/\w.cell? (Ja b 8)=some v8 /\ ∀o,w.frozen? (Ja b o)=false:=
 ⟨(Qad h 0).trans rfl,(Qad h 1).trans rfl,(Qad h 2).trans rfl,(Qad h 3).trans rfl,(Qad h 4).trans rfl,(Qad h 5).trans rfl,(Qad h 6).trans rfl,(Qad h 7).trans rfl,(Qad h 8).trans rfl,fun o=>by simp[World.frozen?,h]⟩
structure KRow(w:World)(kb n cap:Nat)(nm:Nat->Txt)(sb:Nat->Nat)(bs:Nat->Int):Prop where
 le:n<=cap
 cm:cap<=maxLen
 ex:∃cur:Array Value,w.heap[kb]?=some (.cells cur 137 (0,0)) /\ ∀j,j<n->cur[j*3]?=some (str (nm j))/\cur[j*3+1]?=some (.int .i64 (sb j:Int))/\cur[j*3+2]?=some (.int .i64 (bs j))
section
variable {w w':World}{kb n cap:Nat}{nm:Nat->Txt}{sb:Nat->Nat}{bs:Nat->Int}
theorem KRow.keep(h:KRow w kb n cap nm sb bs)(e:w'.heap[kb]?=w.heap[kb]?):KRow w' kb n cap nm sb bs:=by
 obtain⟨a,b,d⟩:=h.ex
 exact⟨h.le,h.cm,a,e.trans b,d⟩
theorem KRow.lt(h:KRow w kb n cap nm sb bs):kb<w.heap.size:=by
 obtain⟨_,a,_⟩:=h.ex
 exact Qaa a
theorem KRow.cells(h:KRow w kb n cap nm sb bs){j:Nat}(hj:j<n):w.cell? (Ja kb (j*3))=some (str (nm j))/\w.cell? (Ja kb (j*3+1))=some (Ji (sb j:Int))/\w.cell? (Ja kb (j*3+2))=some (Ji (bs j)) /\ ∀o,w.frozen? (Ja kb o)=false:=by
 obtain⟨f,d,e⟩:=h.ex
 obtain⟨a,b,c⟩:=e j hj
 exact⟨(Qad d _).trans a,(Qad d _).trans b,(Qad d _).trans c,fun o=>by simp[World.frozen?,d]⟩
def updB(bs:Nat->Int)(i:Nat)(v:Int):Nat->Int:=fun k=>if k=i then v else bs k
theorem KRow.set(h:KRow w kb n cap nm sb bs){i:Nat}(hi:i<n)(v:Int):KRow (w.setCell (Ja kb (i*3+2)) (Ji v)) kb n cap nm sb (updB bs i v):=by
 obtain⟨f,g,d⟩:=h.ex
 refine⟨h.le,h.cm,_,Qah g (i*3+2) _,fun j k=>?_⟩
 obtain⟨a,b,c⟩:=d j k
 have l:i*3+2<f.size:=by
  have:=(Array.getElem?_eq_some_iff.1 (d i hi).2.2).1
  omega
 refine⟨?_,?_,?_⟩
 ·rw[Array.getElem?_setIfInBounds_ne (by omega)];exact a
 ·rw[Array.getElem?_setIfInBounds_ne (by omega)];exact b
 unfold updB
 by_cases e:j=i
 ·
  subst e
  rw[if_pos rfl,Array.getElem?_setIfInBounds_self_of_lt l]
 ·rw[if_neg e,Array.getElem?_setIfInBounds_ne (by omega)];exact c
end
structure CatP where
 cb:Nat
 kb:Nat
 kc:Nat
 mt:Nat
 md:Nat
 mc:Nat
 v0:Value
 v1:Value
 v2:Value
 v3:Value
 v4:Value
def nOf(k:Nat):Value:=.int .i64 (k:Int)
def pOf(q:Nat×Nat):Value:=.agg #[.int .i64 (q.1:Int),.int .i64 (q.2:Int)]
def MpF{α : Type}(f:α -> Value)(w:World)(mb:Nat)(row:List (Txt × α)):Prop:=∃ms,MpS w mb ms /\ ∀t,asc ms t=(asc row t).map f
theorem MpF.keep{α : Type}{f:α -> Value}{w w':World}{mb:Nat}{row:List (Txt × α)}(h:MpF f w mb row)(e:w'.heap[mb]?=w.heap[mb]?):MpF f w' mb row:=by
 obtain⟨a,b,d⟩:=h
 exact⟨a,b.keep e,d⟩
theorem MpF.lt{α : Type}{f:α -> Value}{w:World}{mb:Nat}{row:List (Txt × α)}(h:MpF f w mb row):mb<w.heap.size:=by
 obtain⟨b,a,_⟩:=h
 exact a.lt
structure Ct(n0:Nat)(p:Pg)(c:CatP)(bs:Nat->Int)(w:World):Prop where
 box:w.heap[c.cb]?=some (.cells #[c.v0,c.v1,c.v2,c.v3,c.v4,.slice (some ⟨c.kb,0,none⟩) (p.types.length+3) c.kc,.map (some c.mt),.map (some c.md),.map (some c.mc)] 129 (0,0))
 prg:PgS (fun b=>b<n0) w [c.v0,c.v1,c.v2,c.v3,c.v4] p
 row:KRow w c.kb (p.types.length+3) c.kc (kName p) (kSub p) bs
 mt:MpF nOf w c.mt (tyRow p.types)
 md:MpF nOf w c.md (dcRow p.decls)
 mc:MpF pOf w c.mc (ctRow p.types)
 l0:n0<=c.cb/\n0<=c.kb/\n0<=c.mt/\n0<=c.md/\n0<=c.mc
theorem Ct.ne{n0:Nat}{p:Pg}{c:CatP}{bs:Nat->Int}{w:World}(h:Ct n0 p c bs w):c.cb≠c.kb/\c.mt≠c.kb/\c.md≠c.kb/\c.mc≠c.kb:=by
 obtain⟨i,b,_⟩:=h.row.ex
 refine⟨fun e=>?_,fun e=>?_,fun e=>?_,fun e=>?_⟩
 ·
  have:=h.box
  rw[e,b]at this
  simp at this
 ·
  obtain⟨g,⟨f,d,a,_⟩,_⟩:=h.mt
  rw[e,b]at a
  cases a
 ·
  obtain⟨g,⟨f,d,a,_⟩,_⟩:=h.md
  rw[e,b]at a
  cases a
 obtain⟨g,⟨f,d,a,_⟩,_⟩:=h.mc
 rw[e,b]at a
 cases a
theorem Ct.later{n0:Nat}{p:Pg}{c:CatP}{bs:Nat->Int}{w w':World}(h:Ct n0 p c bs w)(b:Below w.heap.size w w'):Ct n0 p c bs w':=
 ⟨(b.block _ (Qaa h.box)).trans h.box,Qak.same _ _ _ _ _ h.prg b.size (fun q _ a=>b.block q a),h.row.keep (b.block _ h.row.lt),h.mt.keep (b.block _ h.mt.lt),h.md.keep (b.block _ h.md.lt),h.mc.keep (b.block _ h.mc.lt),h.l0⟩
theorem Ct.kset{n0:Nat}{p:Pg}{c:CatP}{bs:Nat->Int}{w:World}(h:Ct n0 p c bs w){i:Nat}(hi:i<p.types.length+3)(v:Int):Ct n0 p c (updB bs i v) (w.setCell (Ja c.kb (i*3+2)) (Ji v)):=by
 obtain⟨f,b,d,e⟩:=h.ne
 have o:∀q,q≠c.kb->(w.setCell (Ja c.kb (i*3+2)) (Ji v)).heap[q]?=w.heap[q]?:=fun q a=>hpS a
 exact⟨(o _ f).trans h.box,Qak.same _ _ _ _ _ h.prg (by simp) (fun q a _=>o q (by have:=h.l0.2.1;have g:q<n0:=a;omega)),h.row.set hi v,h.mt.keep (o _ b),h.md.keep (o _ d),h.mc.keep (o _ e),h.l0⟩
def StB(p:Pg)(V:List Nat)(bs:Nat->Int):Prop:=∀k,k<p.types.length+3->bs k=kBase p k∨(bs k = -1/\kInit p k = -1/\k∉V)∨(bs k = -2/\k∈V)
def LeadV(p:Pg)(V:List Nat)(i:Nat):Prop:=∀v∈V,∃m,0<m/\(∀j,j<m->kInit p (far p j v) = -1)/\far p m v=i
theorem Qib(p:Pg)(k:Nat):kSub p k<p.types.length+3:=by
 unfold kSub
 split
 ·omega
 cases p.types[k - 3]? with
 |none=>simp
 |some t=>
  simp only[Option.map_some,Option.getD_some]
  unfold tyNo
  cases h:asc (tyRow p.types) t.sub with
  |none=>simp
  |some n=>
   simp only[Option.getD_some]
   unfold asc at h
   rw[Option.map_eq_some_iff]at h
   obtain⟨q,d,rfl⟩:=h
   have a:=List.mem_of_find?_eq_some d
   unfold tyRow at a
   simp only[List.mem_cons,List.mem_map]at a
   rcases a with rfl|rfl|⟨⟨x,j⟩,b,rfl⟩
   ·simp
   ·simp
   have:=List.snd_lt_of_mem_zipIdx b
   simp only
   omega
theorem Qgi{n0:Nat}{p:Pg}{c:CatP}{V:List Nat}{bs:Nat->Int}{w:World}{i:Nat}(hC:Ct n0 p c bs w)(hS:StB p V bs)(hL:LeadV p V i)(hi:i<p.types.length+3)(hne:bs i ≠ -1):
  Calls Tryz.prog 98 #[.pointer (Js c.cb),Ji (i:Int)] w fun en w'=>en = .returned (Ji (kBase p i))/\Kp c.kb w w' /\ ∃bs',Ct n0 p c bs' w'/\StB p V bs'/\bs' i=kBase p i /\ ∀k,bs' k = -1->bs k = -1:=by
 have b:bs i=kBase p i:=by
  rcases hS i hi with e|⟨e,_⟩|⟨e,B⟩
  ·exact e
  ·exact absurd e hne
  obtain⟨m,C,D,z⟩:=hL i B
  rw[e,Qnd C D z]
 obtain⟨v,j,q,u,o,y,t,l,s,I⟩:=cl9 hC.box
 obtain⟨H,F,d,E⟩:=hC.row.cells hi
 rw[b]at d
 have x:=hC.row.le
 have r:=hC.row.cm
 unfold maxLen at r
 obtain⟨n,f⟩:=JF (p.types.length+3)
 have g:=hide (show Kp c.kb w w /\ ∃bs',Ct n0 p c bs' w/\StB p V bs'/\bs' i=kBase p i /\ ∀k,bs' k = -1->bs k = -1 from ⟨Kp.refl _ _,bs,hC,hS,b,fun _ h=>h⟩)
 rw[f]at y hi x
 obtain⟨A,a⟩:=JF (kBase p i)
 rw[a]at d g ⊢
 have G:(A == -1)=false:=beq_eq_false_iff_ne.2 (by rw[<- a];exact Qfj p i)
 clear hC hS hL hne b f a v j q u o t l s
 go_enter Tryz.func98,Tryz.ntmps98
 go_wp2_with fail
 go_ret
 exact⟨rfl,Qa g⟩
theorem Qno{n0:Nat}{p:Pg}{c:CatP}:∀(N:Nat) (U V:List Nat) (bs:Nat->Int) (w:World) (i:Nat),U.length<=N->(∀k,k<p.types.length+3->bs k = -1->k∈U)->Ct n0 p c bs w->StB p V bs->LeadV p V i->i<p.types.length+3 ->
  Calls Tryz.prog 98 #[.pointer (Js c.cb),Ji (i:Int)] w fun en w'=>en = .returned (Ji (kBase p i))/\Kp c.kb w w' /\ ∃bs',Ct n0 p c bs' w'/\StB p V bs'/\bs' i=kBase p i /\ ∀k,bs' k = -1->bs k = -1:=by
 intro N
 induction N with
 |zero=>
  intro U V bs w i M y h g x d
  have o:bs i ≠ -1:=fun e=>by
   have:=y i d e
   rw[List.length_eq_zero_iff.1 (Nat.le_zero.1 M)]at this
   cases this
  exact Qgi h g x d o
 |succ N ih=>
  intro U V bs w i M y h g x d
  by_cases o:bs i = -1
  ·
   have s:kInit p i = -1/\i∉V:=by
    rcases g i d with e|⟨_,a,f⟩|⟨e,_⟩
    ·exact absurd (e.symm.trans o) (Qfj p i)
    ·exact⟨a,f⟩
    ·omega
   obtain⟨J,D⟩:=JE (w.setCell (Ja c.kb (i*3+2)) (Ji (-2)))
   have z:Ct n0 p c (updB bs i (-2)) J:=by rw[D];exact h.kset d (-2)
   have u:Kp c.kb w J:=by rw[D];exact Kp.set _ _ _ _
   have W:StB p (i :: V) (updB bs i (-2)):=fun k b=>by
    unfold updB
    by_cases e:k=i
    ·subst e;rw[if_pos rfl];exact .inr (.inr ⟨rfl,List.mem_cons_self ..⟩)
    rw[if_neg e]
    rcases g k b with a|⟨a,f,r⟩|⟨a,f⟩
    ·exact .inl a
    ·exact .inr (.inl ⟨a,f,fun t=>(List.mem_cons.1 t).elim e r⟩)
    ·exact .inr (.inr ⟨a,List.mem_cons_of_mem _ f⟩)
   have S:LeadV p (i :: V) (kSub p i):=fun v K=>by
    rcases List.mem_cons.1 K with rfl|K
    ·exact⟨1,by omega,fun j hj=>by rw[show j=0 by omega];exact s.1,rfl⟩
    obtain⟨m,a,f,r⟩:=x v K
    refine⟨m+1,by omega,fun j hj=>?_,by rw[Qdb,r]⟩
    by_cases e:j<m
    ·exact f j e
    ·rw[show j=m by omega,r];exact s.1
   have X:=Qib p i
   have G:=ih (U.filter (fun k=>decide (k≠i))) (i :: V) (updB bs i (-2)) J (kSub p i) (by
    have t:=y i d o
    have:(U.filter (fun k=>decide (k≠i))).length<U.length:=by
     refine List.length_filter_lt_length_iff_exists.2 ⟨i,t,by simp⟩
    omega) (fun k b e=>by
    unfold updB at e
    by_cases q:k=i
    ·rw[if_pos q]at e;omega
    rw[if_neg q]at e
    exact List.mem_filter.2 ⟨y k b e,by simpa using q⟩) z W S X
   rw[<- Qez s.1]at G
   obtain⟨ad,a2,ai,ac,al,Y,a1,ag,ae,xf⟩:=cl9 h.box
   obtain⟨O,I,E,H⟩:=h.row.cells d
   obtain⟨ah,a6,ab,a7,a9,T,ak,a4,aa,qf⟩:=cl9 z.box
   obtain⟨t0,Z,P,tf⟩:=z.row.cells d
   rw[o]at E
   have af:=h.row.le
   have am:=h.row.cm
   unfold maxLen at am
   obtain⟨n,l⟩:=JF (p.types.length+3)
   rw[l]at Y T d af
   have HH:=hide (Ya g (Ya d (Ya u (Ya s.2 l))))
   have a0:=hide D
   clear ih M y h g x o s D z u W S X l ad a2 ai ac al a1 ag ae ah a6 ab a7 a9 ak a4 aa t0
   go_enter Tryz.func98,Tryz.ntmps98
   go_upto_region 4 with fail
   rw[<- Qa a0]
   clear Y xf O I E H
   go_wp2_with fail
   refine G.mono ?_
   clear G T qf Z P tf
   rintro en w2⟨rfl,k2,aj,F,R,a8,Q⟩
   obtain⟨g,C,u,a3,l⟩:=Qa HH
   obtain⟨O,I,E,H⟩:=F.row.cells (j:=i) (by rw[l];exact C)
   have B:=F.kset (i:=i) (by rw[l];exact C) (kBase p i)
   obtain⟨L,A⟩:=JE (w2.setCell (Ja c.kb (i*3+2)) (Ji (kBase p i)))
   rw[<- A]at B
   have k3:Kp c.kb w2 L:=by rw[A];exact Kp.set _ _ _ _
   obtain⟨t0,Z,P,tf⟩:=B.row.cells (j:=i) (by rw[l];exact C)
   have q:updB aj i (kBase p i) i=kBase p i:=if_pos rfl
   rw[q]at P
   have HE:=hide (show Kp c.kb w L /\ ∃bs',Ct n0 p c bs' L/\StB p V bs'/\bs' i=kBase p i /\ ∀k,bs' k = -1->bs k = -1 from ⟨(u.trans k2).trans k3,_,B,fun k b=>by
    unfold updB
    by_cases e:k=i
    ·rw[if_pos e,e];exact .inl rfl
    ·
     rw[if_neg e]
     rcases R k b with a|⟨a,f,r⟩|⟨a,f⟩
     ·exact .inl a
     ·exact .inr (.inl ⟨a,f,fun t=>r (List.mem_cons_of_mem _ t)⟩)
     ·exact .inr (.inr ⟨a,(List.mem_cons.1 f).resolve_left e⟩),q,fun k b=>by
    unfold updB at b
    by_cases e:k=i
    ·rw[if_pos e]at b;exact absurd b (Qfj p i)
    rw[if_neg e]at b
    have:=Q k b
    unfold updB at this
    rw[if_neg e]at this
    exact this⟩)
   have a5:=hide A
   clear k2 F R a8 Q g C u a3 l B A k3 q HH
   go_upto_region 5 with fail
   rw[<- Qa a5]
   clear O I E H
   go_wp2_with fail
   go_ret
   exact⟨rfl,Qa HE⟩
  ·exact Qgi h g x d o
abbrev Cs(n0:Nat)(p:Pg)(c:CatP)(w:World):Prop:=Ct n0 p c (kBase p) w
section
variable {n0:Nat}{p:Pg}{c:CatP}{w:World}
theorem Cs.ty(h:Cs n0 p c w)(t:Txt):(Instr.lookup 125 (.map (some c.mt)) (str t) false).run Tryz.prog w = .ok (Ji (tyNo p t:Int)) w:=by
 obtain⟨a,b,d⟩:=h.mt
 rw[Qeb uS mI zI w c.mt a t b false,d t]
 unfold tyNo
 cases asc (tyRow p.types) t<;>rfl
theorem Cs.dc(h:Cs n0 p c w)(t:Txt):(Instr.lookup 125 (.map (some c.md)) (str t) true).run Tryz.prog w = .ok (.tuple #[Ji (((asc (dcRow p.decls) t).getD 0:Nat):Int),.bool (asc (dcRow p.decls) t).isSome]) w:=by
 obtain⟨a,b,d⟩:=h.md
 rw[Qeb uS mI zI w c.md a t b true,d t]
 cases asc (dcRow p.decls) t<;>rfl
theorem Qio(p:Pg)(t:Txt):tyNo p t<p.types.length+3:=by
 have:=Qib (.mk (p.types++[⟨[],t,[],0⟩]) [] [] [] []) (p.types.length+3)
 unfold tyNo
 cases h:asc (tyRow p.types) t with
 |none=>simp
 |some n=>
  simp only[Option.getD_some]
  unfold asc at h
  rw[Option.map_eq_some_iff]at h
  obtain⟨q,d,rfl⟩:=h
  have a:=List.mem_of_find?_eq_some d
  unfold tyRow at a
  simp only[List.mem_cons,List.mem_map]at a
  rcases a with rfl|rfl|⟨⟨x,j⟩,b,rfl⟩
  ·simp
  ·simp
  have:=List.snd_lt_of_mem_zipIdx b
  simp only
  omega
theorem Qjz(h:Cs n0 p c w)(t:Txt):
  Calls Tryz.prog 73 #[.pointer (Js c.cb),str t] w fun en w'=>en = .returned (.bool (decide (tyNo p t≠0)))/\w'=w:=by
 have o:=h.ty t
 obtain⟨f,b,k,d,i,j,l,g,a,m⟩:=cl9 h.box
 clear h f b k d i j g a
 go_enter Tryz.func73,Tryz.ntmps73
 go_wp2_with fail
 go_ret
 refine⟨?_,rfl⟩
 by_cases e:tyNo p t=0<;>simp[e]
theorem Qsi(p:Pg)(k:Nat)(h:kInit p k ≠ -1):∃m:Nat,kInit p k=(m:Int)/\m<p.types.length+3:=by
 unfold kInit at h ⊢
 split at h
 ·
  rename_i a
  rw[if_pos a]
  exact⟨k,rfl,by omega⟩
 rename_i a
 rw[if_neg a]
 split at h
 ·
  rename_i t b
  split at h
  ·
   rename_i d
   have:=(List.getElem?_eq_some_iff.1 b).1
   exact⟨k,by simp[d],by omega⟩
  ·exact absurd rfl h
 ·exact⟨0,rfl,by omega⟩
theorem Qph(p:Pg)(k:Nat)(h:kBase p k ≠ -2):∃m:Nat,kBase p k=(m:Int)/\m<p.types.length+3:=by
 obtain⟨i,_,_,a,b⟩:=Qfb p _ _ _ rfl h
 obtain⟨m,e,d⟩:=Qsi p (far p i k) (by rw[a];exact b)
 exact⟨m,a.symm.trans e,d⟩
def bsV(o:Option Txt):Value:=.tuple #[str (o.getD []),.bool o.isSome]
theorem Qfg(h:Cs n0 p c w)(t:Txt):
  Calls Tryz.prog 47 #[.pointer (Js c.cb),str t] w fun en w'=>en = .returned (bsV (baseP p t))/\Below w.heap.size w w':=by
 have r:∀w',Below w.heap.size w w'->(Instr.lookup 125 (.map (some c.mt)) (str t) false).run Tryz.prog w' = .ok (Ji (tyNo p t:Int)) w':=fun w' b=>Cs.ty (Ct.later h b) t
 obtain⟨G,C,E,F,H,L,N,D,J,S⟩:=cl9 h.box
 have a:=Qio p t
 obtain⟨q,l,g,y⟩:=h.row.cells a
 have K:=h.row.le
 have I:=h.row.cm
 unfold maxLen at I
 obtain⟨o,e⟩:=JF (baseP p t)
 rw[e]
 unfold baseP at e
 obtain⟨n,z⟩:=JF (p.types.length+3)
 obtain⟨i,u⟩:=JF (tyNo p t)
 rw[z]at L a K
 rw[u]at a q l g e
 have x:=hide e
 clear e
 simp only[u]at r
 have P:=r w (Below.refl _ _)
 have O:=r w.drew (Below.refl _ w).drew
 clear r G C E F H D J
 go_enter Tryz.func47,Tryz.ntmps47
 go_wp2_with fail
 go_region
 obtain⟨j,s⟩:=JF (kBase p i)
 rw[s]
 have d:=hide s
 clear s
 by_cases f:j=0
 ·
  subst f
  clear q l g y a
  go_wp2_with fail
  refine bodyPost_ret (v:=.tuple #[Je,.bool false]) (by simp[results,Tryz.results47,go_sem]) rfl ?_
  exact⟨by rw[<- Qa x,Qa d];rfl,(Below.refl _ w).drew⟩
 have R:(j==0)=false:=beq_eq_false_iff_ne.2 f
 by_cases k:j = -2
 ·
  subst k
  clear q l g y a f
  go_wp2_with fail
  refine bodyPost_ret (v:=.tuple #[Je,.bool false]) (by simp[results,Tryz.results47,go_sem]) rfl ?_
  exact⟨by rw[<- Qa x,Qa d];rfl,(Below.refl _ w).drew⟩
 have Q:(j == -2)=false:=beq_eq_false_iff_ne.2 k
 have M:=hide (show hasB j=true by simp[hasB,f,k])
 obtain⟨m,B,A⟩:=Qph p i (by rw[Qa d];exact k)
 rw[Qa d]at B
 subst B
 obtain⟨q,l,g,y⟩:=h.row.cells A
 rw[z]at A
 clear z h l g a f k u
 go_wp2_with fail
 refine bodyPost_ret (v:=.tuple #[str (kName p m),.bool true]) (by simp[results,Tryz.results47,go_sem]) rfl ?_
 exact⟨by rw[<- Qa x,Qa d,Qa M];rfl,(Below.refl _ w).drew⟩
end
theorem Qhc{p:Pg}{k:Nat}(hk:k<p.types.length+3)(h:kInit p k ≠ -1):kInit p k=(k:Int):=by
 unfold kInit at h ⊢
 split
 ·rfl
 rename_i d
 rw[if_neg d]at h
 have b:k - 3<p.types.length:=by omega
 rw[List.getElem?_eq_getElem b]at h ⊢
 simp only at h ⊢
 split
 ·rfl
 rename_i a
 rw[if_neg a]at h
 exact absurd rfl h
theorem Qtw(p:Pg):∀m k,k<p.types.length+3->far p m k<p.types.length+3
 | 0,_,h=>h
 |m+1,k,_=>Qtw p m (kSub p k) (Qib p k)
def hgt(p:Pg):Nat->Nat->Nat
 | 0,_=>0
 |f+1,k=>if kInit p k = -1 then hgt p f (kSub p k)+1 else 0
theorem Qma(p:Pg):∀f k,root p f k ≠ -2->hgt p (f+1) k=hgt p f k
 | 0,_,h=>absurd rfl h
 |f+1,k,h=>by
  unfold root at h
  unfold hgt
  by_cases e:kInit p k = -1
  ·
   rw[if_pos e]at h
   rw[if_pos e,if_pos e,Qma p f _ h]
  ·rw[if_neg e,if_neg e]
theorem hgt_lt{p:Pg}{k:Nat}(h:kInit p k = -1)(hb:kBase p k ≠ -2):hgt p (p.types.length+1) (kSub p k)<hgt p (p.types.length+1) k:=by
 have a:root p p.types.length (kSub p k) ≠ -2:=by
  unfold kBase root at hb
  rw[if_pos h]at hb
  exact hb
 rw[Qma p _ _ a]
 rw[show hgt p (p.types.length+1) k=if kInit p k = -1 then hgt p p.types.length (kSub p k)+1 else 0 from rfl,if_pos h]
 omega
def hgtV(p:Pg):Value->Nat
 | .int _ x=>hgt p (p.types.length+1) x.toNat
 |_=>0
section
variable {n0:Nat}{p:Pg}{c:CatP}{w:World}
theorem Qek(h:Cs n0 p c w)(a b:Txt):
  Calls Tryz.prog 48 #[.pointer (Js c.cb),str a,str b] w fun en w'=>en = .returned (.bool (belowP p a b))/\Below w.heap.size w w':=by
 have U:=Cs.ty h a
 have T:=Cs.ty h b
 have O:=Cs.ty (Ct.later h (Below.refl _ w).drew) a
 have Y:=Cs.ty (Ct.later h (Below.refl _ w).drew) b
 have HR:=hide (show ∀k,k<p.types.length+3->w.drew.cell? (Ja c.kb (k*3+1))=some (Ji (kSub p k:Int))/\w.drew.cell? (Ja c.kb (k*3+2))=some (Ji (kBase p k)) from fun k g=>⟨(h.row.cells g).2.1,(h.row.cells g).2.2.1⟩)
 obtain⟨a5,a0,a2,a4,a6,ab,a3,a1,a8,xf⟩:=cl9 h.box
 have r:=Qio p a
 have a9:=h.row.le
 have a7:=h.row.cm
 unfold maxLen at a7
 obtain⟨o,d⟩:=JF (belowP p a b)
 rw[d]
 unfold belowP at d
 obtain⟨n,B⟩:=JF (p.types.length+3)
 obtain⟨i,X⟩:=JF (tyNo p a)
 obtain⟨y,R⟩:=JF (tyNo p b)
 rw[X]at U O d r
 rw[R]at T Y d
 obtain⟨r1,r2⟩:=Qa HR i r
 rw[B]at ab r a9
 obtain⟨t,G⟩:=JF (kBase p i)
 rw[G]at r2 d
 have q:=hide (Ya d (Ya G B))
 clear d G X R a5 a0 a2 a4 a6 a1 a8
 have H:=hide B
 clear B
 go_enter Tryz.func48,Tryz.ntmps48
 go_wp2_with fail
 go_region
 clear U T O Y a3
 by_cases z:t=0
 ·
  subst z
  go_wp2_with fail
  go_ret
  exact⟨by rw[<- (Qa q).1];rfl,(Below.refl _ w).drew⟩
 have g0:(t==0)=false:=beq_eq_false_iff_ne.2 z
 by_cases u:t = -2
 ·
  subst u
  clear z
  go_wp2_with fail
  go_ret
  exact⟨by rw[<- (Qa q).1];rfl,(Below.refl _ w).drew⟩
 have g2:(t == -2)=false:=beq_eq_false_iff_ne.2 u
 obtain⟨I,Z,hj,g,P⟩:=Qfb p _ _ _ (Qa q).2.1 u
 have W:far p I i<p.types.length+3:=Qtw p I i (by rw[Qa H];exact r)
 have N:t=(far p I i:Int):=g.symm.trans (Qhc W (by rw[g];exact P))
 obtain⟨j,J⟩:=JF (far p I i)
 rw[J]at N
 subst N
 have Q:¬j=0:=by omega
 have f:=hide (Ya (show hasB (j:Int)=true by simp[hasB,Q,u]) (Ya J (Ya Z (Ya hj (show kBase p i ≠ -2 by rw[(Qa q).2.1];omega)))))
 clear z Q u Z hj g P W J
 go_wp2_with fail
 go_loopw [7] (fun v wr=>∃(k m:Nat),v = Ji (k:Int)/\wr=w.drew/\k<n/\Hid (m<=I/\far p m i=k/\o=upTo p y j (p.types.length+1 - m) k/\kBase p k ≠ -2)) (fun v _=>hgtV p v)
 case atStart=>exact⟨i,0,rfl,rfl,r,hide ⟨Nat.zero_le _,rfl,by rw[<- (Qa q).1,(Qa f).1];rfl,(Qa f).2.2.2.2⟩⟩
 obtain⟨k,m,rfl,rfl,aa,l⟩:=hrel
 obtain⟨r3,r4⟩:=Qa HR k (by rw[Qa H];exact aa)
 by_cases A:k=y
 ·
  subst A
  go_wp2_with fail
  go_ret
  refine⟨?_,(Below.refl _ w).drew⟩
  obtain⟨L,_,s,_⟩:=Qa l
  rw[s,show p.types.length+1 - m=p.types.length - m+1 by have:=(Qa f).2.2.1;omega]
  simp[upTo]
 have g1:((k:Int)==(y:Int))=false:=beq_eq_false_iff_ne.2 (by omega)
 have ac:((k:Int) != (y:Int))=true:=by simp;omega
 by_cases K:k=j
 ·
  subst K
  go_wp2_with fail
  go_ret
  refine⟨?_,(Below.refl _ w).drew⟩
  obtain⟨L,_,s,_⟩:=Qa l
  rw[s,show p.types.length+1 - m=p.types.length - m+1 by have:=(Qa f).2.2.1;omega]
  simp[upTo,A]
 have g3:((k:Int) != (j:Int))=true:=by simp;omega
 have E:=Qib p k
 rw[Qa H]at E
 obtain⟨ks,F⟩:=JF (kSub p k)
 rw[F]at r3 E
 have x:=hide F
 have D:=hide (Ya A K)
 clear F A K g1
 go_wp2_with fail
 have S:m<I:=by
  obtain⟨L,C,_⟩:=Qa l
  have M:=(Qa f).2.1
  by_cases e:m=I
  ·
   rw[e,M]at C
   exact absurd C.symm (Qa D).2
  ·omega
 have V:kInit p k = -1:=by rw[<- (Qa l).2.1];exact(Qa f).2.2.2.1 m S
 go_roundw
 case rel=>
  obtain⟨L,C,s,M⟩:=Qa l
  refine⟨ks,m+1,rfl,trivial,E,hide ⟨S,by rw[Qdb,C,Qa x],?_,by rw[<- Qa x,<- Qez V];exact M⟩⟩
  have h5:=(Qa f).2.2.1
  rw[s,show p.types.length+1 - m=p.types.length - m+1 by omega,show p.types.length+1 - (m+1)=p.types.length - m by omega]
  have h6:¬((k:Int)=(j:Int)):=by have:=(Qa D).2;omega
  simp[upTo,(Qa D).1,h6,Qa x]
 have:=hgt_lt V (Qa l).2.2.2
 rw[Qa x]at this
 simpa[hgtV] using this
end
structure Sc(b:Nat)(T:TypeId)(cs:Array Value)(w W:World):Prop where
 box:W.heap[b]?=some (.cells cs T (0,0))
 size:W.heap.size=w.heap.size
 oth:∀q,q≠b->W.heap[q]?=w.heap[q]?
 os:W.os=w.os
 tape:W.tape=w.tape
 output:W.output=w.output
theorem Sc.below{b:Nat}{T:TypeId}{cs:Array Value}{w W w0:World}{B:Nat}(h:Sc b T cs w W)(hB:Below B w0 w)(hb:B<=b):Below B w0 W:=
 ⟨h.os.trans hB.os,h.tape.trans hB.tape,h.output.trans hB.output,by rw[h.size];exact hB.size,fun q a=>(h.oth q (by omega)).trans (hB.block q a)⟩
theorem sc2{w:World}{b:Nat}{T:TypeId}{u0 u1:Value}(n:w.heap[b]?=some (.cells #[u0,u1] T (0,0)))(v0 v1:Value):∃W,W=((w.setCell (Ja b 0) v0).setCell (Ja b 1) v1)/\Sc b T #[v0,v1] w W:=
 ⟨_,rfl,(Qah (Qah n 0 _) 1 _).trans (by simp),by simp,fun q a=>by rw[hpS a,hpS a],rfl,rfl,rfl⟩
theorem sc5{w:World}{b:Nat}{T:TypeId}{u0 u1 u2 u3 u4:Value}(n:w.heap[b]?=some (.cells #[u0,u1,u2,u3,u4] T (0,0)))(v0 v1 v2 v3 v4:Value):∃W,W=(((((w.setCell (Ja b 0) v0).setCell (Ja b 1) v1).setCell (Ja b 2) v2).setCell (Ja b 3) v3).setCell (Ja b 4) v4)/\Sc b T #[v0,v1,v2,v3,v4] w W:=
 ⟨_,rfl,(Qah (Qah (Qah (Qah (Qah n 0 _) 1 _) 2 _) 3 _) 4 _).trans (by simp),by simp,fun q a=>by rw[hpS a,hpS a,hpS a,hpS a,hpS a],rfl,rfl,rfl⟩
theorem Qok{α : Type}{l:List (Txt × α)}{t:Txt}{v:α}(h:asc l t=some v):(t,v)∈l:=by
 unfold asc at h
 rw[Option.map_eq_some_iff]at h
 obtain⟨q,b,rfl⟩:=h
 have d:=List.mem_of_find?_eq_some b
 have a:=List.find?_some b
 simp only[decide_eq_true_eq]at a
 rw[<- a]
 exact d
theorem asc_dc{ds:List Dcl}{t:Txt}{i:Nat}(h:asc (dcRow ds) t=some i):∃d,ds[i]?=some d/\d.name=t:=by
 have:=Qok h
 unfold dcRow at this
 obtain⟨⟨x,j⟩,f,e⟩:=List.mem_map.1 this
 simp only[Prod.mk.injEq]at e
 obtain⟨g,a⟩:=e
 subst a
 have b:=List.mem_zipIdx f
 exact⟨x,by rw[List.getElem?_eq_getElem (by omega)];simp[b.2.2],g⟩
theorem asc_ct{ts:List Typ}{t:Txt}{q:Nat×Nat}(h:asc (ctRow ts) t=some q):∃ty ct,ts[q.1]?=some ty/\ty.ctors[q.2]?=some ct/\ct.name=t:=by
 have:=Qok h
 unfold ctRow at this
 obtain⟨⟨x,j⟩,f,e⟩:=List.mem_flatMap.1 this
 obtain⟨⟨ct,k⟩,d,b⟩:=List.mem_map.1 e
 simp only[Prod.mk.injEq]at b
 obtain⟨g,l⟩:=b
 subst l
 have i:=List.mem_zipIdx f
 have a:=List.mem_zipIdx d
 exact⟨x,ct,by rw[List.getElem?_eq_getElem (by omega)];simp[i.2.2],by rw[List.getElem?_eq_getElem (by simpa using a.2.1)];simp[a.2.2],g⟩
theorem LsAt.cap{α : Type}{p:PS α}{k:Nat}{S:Nat->Prop}{w:World}{v:Value}{xs:List α}(h:LsAt p k S w v xs){a:Option Addr}{n c:Nat}(e:v = .slice a n c):n<=c/\c<=9223372036854775807:=by
 obtain⟨g,i,f,rfl,d,b,_⟩:=h
 cases e
 unfold maxLen at b
 exact⟨d,b⟩
def DcA(S:Nat->Prop)(w:World)(o:Option Dcl)(v:Value):Prop:=match o with
 |none=>v = .tuple #[.agg #[.string ⟨#[]⟩,.slice none 0 0,.bool false,.bool false,.int .i64 0],.bool false]
 |some d=>∃xa xc,v = .tuple #[.agg #[str d.name,.slice xa d.cols.length xc,.bool d.input,.bool d.output,.int .i64 d.at_],.bool true]/\LsAt PF 2 S w (.slice xa d.cols.length xc) d.cols
section
variable {n0:Nat}{p:Pg}{c:CatP}{w:World}
theorem Qfr(h:Cs n0 p c w)(t:Txt):
  Calls Tryz.prog 78 #[.pointer (Js c.cb),str t] w fun en w'=>∃v,en = .returned v/\DcA (fun b=>b<n0) w' (declP2 p t) v/\Below w.heap.size w w':=by
 obtain⟨w1,g⟩:=JE (w.alloc (.cells #[Je,Jn,.bool false,.bool false,Ji 0] 63))
 have l:=bnw g
 have m:=nnw g
 have V:w1.heap.size=w.heap.size+1:=by rw[g];simp
 have k:=Ct.later h l
 have u:=Cs.dc k t
 obtain⟨N,B,T,M,U,Q,K,ae,O,xf⟩:=cl9 k.box
 obtain⟨vt,vd,vc,vi,vl,G,_,r,_⟩:=PgS.cells k.prg
 obtain⟨_,e1,_⟩:=list5 G
 subst e1
 obtain⟨a5,ad,ac,ab,a7,yf⟩:=cl5 m
 have J:=hide g
 obtain⟨o,a⟩:=JF (declP2 p t)
 rw[a]
 unfold declP2 at a
 cases f:asc (dcRow p.decls) t with
 |none=>
  rw[f]at u a
  simp only[Option.getD_none,Option.isSome_none]at u
  obtain⟨W,j,sc⟩:=sc5 m (Je) (Jn) (.bool false) (.bool false) (Ji 0)
  have e:=hide (Ya (sc.below l (Nat.le_refl _)) (Ya sc.box a))
  have F:=hide j
  clear g l m V h k G r f a j sc N B T M U Q K O
  go_enter Tryz.func78,Tryz.ntmps78
  go_upto_region 1 with fail
  rw[<- Qa J]
  go_wp2_with fail
  rw[<- Qa F]
  obtain⟨D,y,A,C,z,uf⟩:=cl5 (Qa e).2.1
  refine bodyPost_ret (v:=.tuple #[.agg #[Je,Jn,.bool false,.bool false,Ji 0],.bool false]) (by simp[results,Tryz.results78,go_sem,D,y,A,C,z]) rfl ?_
  exact⟨_,rfl,by rw[<- (Qa e).2.2];rfl,(Qa e).1⟩
 |some i=>
  rw[f]at u a
  simp only[Option.getD_some,Option.isSome_some]at u
  obtain⟨d,s,a3⟩:=asc_dc f
  clear a3
  have R:o=some d:=by rw[<- a];exact s
  obtain⟨b,cap,cs,H,a2,Y,a1,⟨I,xn,E,rfl,x⟩,P⟩:=r.elem s
  obtain⟨ca,cc,a0⟩:=x.sl
  cases a0
  obtain⟨a9,a6,a4,a8,aa⟩:=cs5 P
  have Z:=(List.getElem?_eq_some_iff.1 s).1
  have X:=r.cap H
  rw[H]at B
  obtain⟨W,j,sc⟩:=sc5 m (str d.name) (.slice I d.cols.length E) (.bool d.input) (.bool d.output) (Ji d.at_)
  have S:=x.same Qbb (w':=W) (by rw[sc.size];exact Nat.le_refl _) (fun q f _=>sc.oth q (by have af:q<n0:=f;have:=h.l0.1;have:=Qaa h.box;omega))
  have e:=hide (Ya (sc.below l (Nat.le_refl _)) (Ya sc.box (Ya R S)))
  have F:=hide j
  obtain⟨nd,L⟩:=JF p.decls.length
  rw[L]at B Z X
  clear g l m V h k G r f a s R a2 Y a1 x P S H L j sc N T M U Q K O
  go_enter Tryz.func78,Tryz.ntmps78
  go_upto_region 1 with fail
  rw[<- Qa J]
  go_wp2_with fail
  rw[<- Qa F]
  obtain⟨D,y,A,C,z,uf⟩:=cl5 (Qa e).2.1
  refine bodyPost_ret (v:=.tuple #[.agg #[str d.name,.slice I d.cols.length E,.bool d.input,.bool d.output,Ji d.at_],.bool true]) (by simp[results,Tryz.results78,go_sem,D,y,A,C,z]) rfl ?_
  exact⟨_,rfl,by rw[(Qa e).2.2.1];exact⟨I,E,rfl,(Qa e).2.2.2⟩,(Qa e).1⟩
end
end
end Go.Proofs.YtmfpbepifnedjaaGreat
