/- types. -/
import Derived.Test.YtmfpbepifnedjaaGreatZz01
import Derived.Test.YtmfpbepifnedjaaGreatZz30
import Derived.Test.YtmfpbepifnedjaaGreatZz03
import Derived.Test.YtmfpbepifnedjaaGreatZz07
import Derived.Deep.Cut
import Derived.Deep.CutRange
set_option maxRecDepth 100000
set_option maxHeartbeats 32000000
namespace Go.Proofs.YtmfpbepifnedjaaGreat
section
open Go.RowKit Go.Maps
theorem Qhm:∀(vs:List Fld) (k:Nat) (s:Txt) (i:Nat),asc (vs.zipIdx k |>.map fun q=>(q.1.name,q.2)) s=some i -> ∃v,k<=i/\vs[i - k]?=some v/\v.name=s/\typV vs s=some v.type
 | [],_,_,_,h=>by cases h
 |u :: vs,k,s,i,h=>by
  unfold asc at h
  simp only[List.zipIdx_cons,List.map_cons,List.find?_cons]at h
  by_cases e:u.name=s
  ·
   simp only[e,decide_true,Option.map_some,Option.some.injEq]at h
   subst h
   exact⟨u,Nat.le_refl _,by simp,e,by unfold typV;simp[e]⟩
  simp only[e,decide_false]at h
  obtain⟨v,h1,h2,h3,h4⟩:=Qhm vs (k+1) s i h
  refine⟨v,by omega,?_,h3,?_⟩
  ·rw[show i - k=(i - (k+1))+1 by omega];simpa using h2
  unfold typV at h4 ⊢
  simpa[e] using h4
theorem Qka{vs:List Fld}{s own:Txt}(h:typV vs s=some own):∃i v,asc (vRow vs) s=some i/\vs[i]?=some v/\v.name=s/\v.type=own:=by
 have a:=Qeh vs s
 rw[h]at a
 cases d:asc (vRow vs) s with
 |none=>rw[d]at a;cases a
 |some i=>
  obtain⟨v,_,e,f,b⟩:=Qhm vs 0 s i d
  rw[h]at b
  exact⟨i,v,rfl,by simpa using e,f,by simpa using b.symm⟩
theorem Qmi:∀(vs:List Fld) (i:Nat) (v:Fld) (t:Txt),(vs.map (·.name)).Nodup->vs[i]?=some v->putT vs v.name t=vs.set i ⟨v.name,t⟩
 | [],i,v,t,_,h=>by simp at h
 |u :: vs,0,v,t,hn,h=>by
  cases h
  simp only[List.map_cons,List.nodup_cons]at hn
  unfold putT
  simp only[List.map_cons,if_true,List.set_cons_zero,List.cons.injEq,true_and]
  refine(List.map_congr_left (g:=id) fun a ha=>?_).trans (List.map_id vs)
  by_cases e:a.name=u.name
  ·exact absurd (List.mem_map.2 ⟨a,ha,e⟩) hn.1
  ·rw[if_neg e];rfl
 |u :: vs,i+1,v,t,hn,h=>by
  simp only[List.map_cons,List.nodup_cons]at hn
  have ih:=Qmi vs i v t hn.2 (by simpa using h)
  unfold putT at ih ⊢
  have b:v∈vs:=List.mem_of_getElem? (show vs[i]?=some v by simpa using h)
  have e:¬u.name=v.name:=fun e=>hn.1 (List.mem_map.2 ⟨v,b,e.symm⟩)
  rw[List.map_cons,if_neg e,ih]
  rfl
theorem Qhe(vs:List Fld)(s t:Txt):(putT vs s t).map (·.name)=vs.map (·.name):=by
 unfold putT
 rw[List.map_map]
 refine List.map_congr_left fun a _=>?_
 simp only[Function.comp]
 split<;>rfl
theorem Qhn:∀(vs us:List Fld) (k:Nat),vs.map (·.name)=us.map (·.name)->(vs.zipIdx k).map (fun q=>(q.1.name,q.2))=(us.zipIdx k).map (fun q=>(q.1.name,q.2))
 | [],[],_,_=>rfl
 | [],_ :: _,_,h=>by simp at h
 |_ :: _,[],_,h=>by simp at h
 |v :: vs,u :: us,k,h=>by
  simp only[List.map_cons,List.cons.injEq]at h
  simp only[List.zipIdx_cons,List.map_cons,h.1,Qhn vs us (k+1) h.2]
section
variable {n0 n1:Nat}{p:Pg}{c:CatP}{wb mb:Nat}{sl:Value}{vs:List Fld}{w:World}
theorem Wk.turn(h:Wk n0 n1 p c wb mb sl vs w){i:Nat}{v:Fld}(hi:vs[i]?=some v)(t:Txt):∃g cap,sl = .slice (Js g) vs.length cap/\vs.length<=cap/\cap<=9223372036854775807/\w.cell? (Ja g (i*2+1))=some (str v.type)/\(∀o,w.frozen? (Ja g o)=false)/\n1<=g/\Wk n0 n1 p c wb mb sl (putT vs v.name t) (w.setCell (Ja g (i*2+1)) (str t))/\Kw wb mb sl sl w (w.setCell (Ja g (i*2+1)) (str t)):=by
 have B:=(List.getElem?_eq_some_iff.1 hi).1
 rcases h.row.2 with ⟨_,e⟩|⟨g,cap,C,d,u,f,y,n,I,E⟩
 ·omega
 unfold maxLen at n
 have j:=h.row
 have m:some wb≠sl.ownBlock:=fun e=>by
  rw[d]at e
  cases e
  have:=h.box
  rw[f]at this
  simp at this
 have l:some mb≠sl.ownBlock:=fun e=>by
  rw[d]at e
  cases e
  obtain⟨H,⟨F,G,A,_⟩,_⟩:=h.map
  rw[A]at f
  cases f
 rw[d]at j m l
 have s:wb≠g:=fun e=>m (by rw[e];rfl)
 have r:mb≠g:=fun e=>l (by rw[e];rfl)
 have o:∀q,q≠g->(w.setCell (Ja g (i*2+1)) (str t)).heap[q]?=w.heap[q]?:=fun q k=>hpS k
 have z:=h.lo
 refine⟨g,cap,d,y,n,?_,fun q=>by simp[World.frozen?,f],u,⟨?_,(o _ s).trans h.box,?_,?_,z,?_⟩,?_⟩
 ·
  rw[World.ownsRow.cellAt j (i*2+1) (by omega)]
  exact(Qfv vs i v hi).2
 ·
  have a:=h.cat
  exact⟨(o _ (by omega)).trans a.box,Qak.same _ _ _ _ _ a.prg (by simp) (fun q k _=>o q (by have D:q<n0:=k;omega)),a.row.keep (o _ (by omega)),a.mt.keep (o _ (by omega)),a.md.keep (o _ (by omega)),a.mc.keep (o _ (by omega)),a.l0⟩
 ·
  rw[Qmi vs i v t h.nd hi,List.length_set,<- Qfw vs i v t hi,d]
  exact(World.ownsRow.stored j (i*2+1) (str t)).1
 ·
  have e:vRow (putT vs v.name t)=vRow vs:=Qhn _ _ 0 (Qhe vs _ t)
  rw[e]
  exact h.map.keep (o _ r)
 ·rw[Qhe];exact h.nd
 ·exact⟨rfl,rfl,rfl,by simp,fun b _ _ _ x=>o b (fun e=>x (by rw[d,e];rfl)),.inl rfl⟩
def LkA(n0 n1:Nat)(p:Pg)(c:CatP)(wb mb:Nat)(sl:Value)(w:World)(R:Except Flt (List Fld))(en:Ending)(w':World):Prop:=
 ∃sl' vs',Wk n0 n1 p c wb mb sl' vs' w'/\Kw wb mb sl sl' w w'/\match R with | .ok v=>en = .returned (ftV (0,0))/\vs'=v | .error f=>en = .returned (ftV f)/\f.1≠0
theorem Wk.sc(h:Wk n0 n1 p c wb mb sl vs w){b:Nat}{T:TypeId}{cs:Array Value}{W:World}(hs:Sc b T cs w W)(hb:n1<=b)(hn:b≠wb/\b≠mb/\some b≠sl.ownBlock):Wk n0 n1 p c wb mb sl vs W:=by
 have m:=h.lo
 have a:=h.cat
 refine⟨⟨(hs.oth _ (by omega)).trans a.box,Qak.same _ _ _ _ _ a.prg (by rw[hs.size];exact Nat.le_refl _) (fun q i _=>hs.oth q (by have n:q<n0:=i;omega)),a.row.keep (hs.oth _ (by omega)),a.mt.keep (hs.oth _ (by omega)),a.md.keep (hs.oth _ (by omega)),a.mc.keep (hs.oth _ (by omega)),a.l0⟩,(hs.oth _ (Ne.symm hn.1)).trans h.box,?_,h.map.keep (hs.oth _ (Ne.symm hn.2.1)),m,h.nd⟩
 refine⟨h.row.1,?_⟩
 rcases h.row.2 with e|⟨g,cap,f,d,j,k,l⟩
 ·exact .inl e
 ·exact .inr ⟨g,cap,f,d,j,(hs.oth g (fun e=>hn.2.2 (by rw[d,e];rfl))).trans k,l⟩
theorem Kw.sc{sl':Value}{w' W:World}(h:Kw wb mb sl sl' w w'){b:Nat}{T:TypeId}{cs:Array Value}(hs:Sc b T cs w' W)(hb:w.heap.size<=b):Kw wb mb sl sl' w W:=
 ⟨hs.os.trans h.os,hs.tape.trans h.tape,hs.output.trans h.output,by rw[hs.size];exact h.size,fun q e a d f=>(hs.oth q (by omega)).trans (h.block q e a d f),h.own⟩
theorem Wk.n1le(h:Wk n0 n1 p c wb mb sl vs w):n1<=w.heap.size:=by have:=h.lo;have:=Qaa h.box;omega
theorem Qni(h:Wk n0 n1 p c wb mb sl vs w)(hl:vs.length<=1000000000)(x:Ex)(hk:x.kind=1)(xv:Value)(hv:∃a n c,xv = .slice a n c)(t:Txt)(hty:typV vs x.txt=none):
  Calls Tryz.prog 122 #[.pointer (Js wb),.agg #[Ji x.kind,Ji x.num,str x.txt,xv,Ji x.at_],str t] w fun en w'=>LkA n0 n1 p c wb mb sl w (narP p vs x t) en w':=by
 obtain⟨N,L,P,rfl⟩:=hv
 obtain⟨w2,H,f,j,l,d⟩:=Qas w #[Ji x.kind,Ji x.num,str x.txt,.slice N L P,Ji x.at_] 59
 have Q:=h.later f
 have k:=Qdu Q x (.slice N L P) ⟨_,_,_,rfl⟩
 have Z:=hide H
 have S:=hide (Ya f (Ya j (Ya l (Ya d h))))
 have a2:=h.n1le
 obtain⟨R,o⟩:=JF (narP p vs x t)
 rw[o]
 unfold narP at o
 have J:openP vs x=(typV vs x.txt).isNone:=by unfold openP;rw[hk];rfl
 rw[J]at k
 obtain⟨z,s,u,y,B,E⟩:=cl5 j
 rw[hty]at o k
 simp only[Option.isNone_none]at k
 have O:=hide (Ya o hty)
 clear H f j l d h Q J o hty hk
 go_enter Tryz.func122,Tryz.ntmps122
 go_upto_region 1 with fail
 rw[<- Qa Z]
 go_wp2_with fail
 refine k.mono ?_
 clear k z s u y B E
 rintro en w3⟨rfl,r⟩
 obtain⟨f,j,l,d,h⟩:=Qa S
 have I:=(r.block _ (by omega)).trans j
 have i:=(r.block _ (by omega)).trans l
 have b:=f.trans (r.mono f.size)
 have m:=h.later b
 have G:=Qqi m hl x.txt t (Qa O).2
 obtain⟨z,s,u,y,B,E⟩:=cl5 I
 have H3:=hide (Ya b (Ya i (Ya m d)))
 clear f j l d h r I i b m
 go_wp2_with fail
 refine G.mono ?_
 clear G z s u y B E
 rintro en w4⟨rfl,T,M,q⟩
 obtain⟨b,i,m,d⟩:=Qa H3
 have Y:=b.size
 have off:w.heap.size+1≠wb/\w.heap.size+1≠mb/\some (w.heap.size+1)≠sl.ownBlock:=(Qa S).2.2.2.2.new (by omega)
 have A:=q.keep i off
 obtain⟨W,K,sc⟩:=sc2 A (Ji 0) (Ji 0)
 obtain⟨a0,a1,yf⟩:=cl2 A
 have F:w.heap.size+1≠wb/\w.heap.size+1≠mb/\some (w.heap.size+1)≠T.ownBlock:=⟨off.1,off.2.1,fun e=>by
  rcases q.own with D|⟨g,D,hg⟩
  ·exact off.2.2 (e.trans D)
  rw[D]at e
  cases e
  have:=Qaa i
  omega⟩
 have C:=hide (Ya (M.sc sc (by omega) F) (Ya (((Kw.of_below b).trans q).sc sc (by omega)) sc.box))
 have V:=hide K
 clear M q b i m d Y off A K sc F
 go_wp2_with fail
 rw[<- Qa V]
 obtain⟨X,U,zf⟩:=cl2 (Qa C).2.2
 refine bodyPost_ret (v:=ftV (0,0)) (by simp[results,Tryz.results122,go_sem,X,U,ftV]) rfl ?_
 refine⟨_,_,(Qa C).1,(Qa C).2.1,?_⟩
 rw[<- (Qa O).1]
 exact⟨rfl,rfl⟩
end
section
variable {n0 n1:Nat}{p:Pg}{c:CatP}{wb mb:Nat}{sl:Value}{vs:List Fld}{w:World}
theorem Qnj(h:Wk n0 n1 p c wb mb sl vs w)(x:Ex)(hk:x.kind=1)(xv:Value)(hv:∃a n c,xv = .slice a n c)(t:Txt){own:Txt}(hty:typV vs x.txt=some own):
  Calls Tryz.prog 122 #[.pointer (Js wb),.agg #[Ji x.kind,Ji x.num,str x.txt,xv,Ji x.at_],str t] w fun en w'=>LkA n0 n1 p c wb mb sl w (narP p vs x t) en w':=by
 obtain⟨va,vn,vc,rfl⟩:=hv
 obtain⟨w2,ai,A,B,M,j⟩:=Qas w #[Ji x.kind,Ji x.num,str x.txt,.slice va vn vc,Ji x.at_] 59
 have h2:=h.later A
 have X:=Qdu h2 x (.slice va vn vc) ⟨_,_,_,rfl⟩
 have HW:=hide ai
 have P:=hide (Ya A (Ya B (Ya M (Ya j h))))
 have aJ:=h.n1le
 obtain⟨R,T⟩:=JF (narP p vs x t)
 rw[T]
 unfold narP at T
 have ho:openP vs x=(typV vs x.txt).isNone:=by unfold openP;rw[hk];rfl
 rw[ho,hty]at X
 simp only[Option.isNone_some]at X
 rw[hty]at T
 obtain⟨i,v,ao,an,ag,ar⟩:=Qka hty
 obtain⟨E,H,Z,D,I,xf⟩:=cl5 B
 have q:=hide (Ya T (Ya an (Ya ag (Ya ar ao))))
 clear ai A B M j h h2 ho T hty hk ao an ag ar
 go_enter Tryz.func122,Tryz.ntmps122
 go_upto_region 1 with fail
 rw[<- Qa HW]
 go_wp2_with fail
 refine X.mono ?_
 clear X E H Z D I xf
 rintro en o⟨rfl,b3⟩
 obtain⟨A,B,M,j,h⟩:=Qa P
 have f:=(b3.block _ (by omega)).trans B
 have e:=(b3.block _ (by omega)).trans M
 have d:=A.trans (b3.mono A.size)
 have b:=h.later d
 obtain⟨g,cap,k,aB,aK,a0,aw,aA,a9⟩:=b.turn (Qa q).2.1 t
 have ae:=b.lookV x.txt false
 have ac:=(b.later (Below.refl _ o).drew).lookV x.txt false
 rw[if_neg (by simp),(Qa q).2.2.2.2]at ae ac
 simp only[Option.getD_some]at ae ac
 obtain⟨E,H,Z,D,I,xf⟩:=cl5 f
 obtain⟨az,aD,au,aE,a6,av,qf⟩:=cl6 b.box
 rw[k]at a6
 have ax:i<vs.length:=(List.getElem?_eq_some_iff.1 (Qa q).2.1).1
 obtain⟨vl,a7⟩:=JF vs.length
 rw[a7]at a6 ax aB
 have C:=Qek (Ct.later b.cat ((Below.refl _ o).drew.drew)) own t
 have HC:=hide (show ∀w',Below o.heap.size o w'->w'.cell? (Ja wb 1)=some (.func (.func 48) #[.pointer (Js c.cb)] #[])/\w'.cell? (Ja g (i*2+1))=some (str own) from fun w' bw=>⟨(cl6 (b.later bw).box).2.1,by
  have aC:g<o.heap.size:=(World.ownsRow.lt b.row g (by rw[k];rfl)).2
  rw[bw.cell (p:=(Ja g (i*2+1))) aC,a0,(Qa q).2.2.2.1]⟩)
 have O:=hide (Ya d (Ya e (Ya f (Ya b (Ya j (Ya a7 k))))))
 clear A B M j h b3 f e d b k a0 aw aA a9 a7 az aD au aE
 go_wp2_with fail
 go_region
 clear ae ac E H D I a6 av
 go_wp2_with fail
 refine Qaz (md:=[(0,true),(1,true),(2,true),(3,true),(4,true),(5,true),(6,true),(7,true),(8,false)]) (fun w'=>w'.cell? (Ja wb 1)=some (.func (.func 48) #[.pointer (Js c.cb)] #[])/\w'.cell? (Ja g (i*2+1))=some (str own)) mixedO (by kernel_rfl) rfl (by kernel_rfl) (fun PP J=>?_)
 iterate 8 refine Qac rfl (by kernel_rfl) (fun w' hw=>by obtain⟨aG,ay⟩:=hw;go_simp<;>rfl) ?_
 refine Qal rfl (Qa HC _ (Below.refl _ o).drew.drew) (fun K Q=>?_)
 go_simp
 refine C.mono ?_
 clear C
 rintro en w4⟨rfl,b4⟩
 show K _ _
 refine Q _ _ ?_
 clear Q K
 have ab:Below o.heap.size o w4:=(Below.refl _ o).drew.drew.trans b4
 refine Qbc (Qa HC _ ab) (J _ _ ?_)
 clear J PP
 have y:=hide ab
 clear b4 ab
 cases a3:belowP p own t with
 |true=>
  obtain⟨d,e,f,b,j,_⟩:=Qa O
  have l:=d.size
  have N:=b.later (Qa y)
  have aa:=((Qa y).block _ (Qaa e)).trans e
  have k4:=Kw.of_below (wb:=wb) (mb:=mb) (sl:=sl) (d.trans ((Qa y).mono l))
  obtain⟨W,r,sc⟩:=sc2 aa (Ji 0) (Ji 0)
  obtain⟨aj,al,yf⟩:=cl2 aa
  have m:=hide (Ya (Wk.sc N sc (by omega) ((Qa P).2.2.2.2.new (by omega))) (Ya (Kw.sc k4 sc (by omega)) sc.box))
  have L:=hide r
  have Y:=hide a3
  clear d e f b j l N aa k4 r sc a3
  go_wp2_with fail
  rw[<- Qa L]
  obtain⟨G,F,zf⟩:=cl2 (Qa m).2.2
  refine bodyPost_ret (v:=ftV (0,0)) (by simp[results,Tryz.results122,go_sem,G,F,ftV]) rfl ?_
  refine⟨_,_,(Qa m).1,(Qa m).2.1,?_⟩
  rw[<- (Qa q).1,Qa Y]
  exact⟨rfl,rfl⟩
 |false=>
  obtain⟨d,e,f,b,j,s,k⟩:=Qa O
  have l:=d.size
  have N:=b.later (Qa y)
  have C:=Qek (Ct.later N.cat (Below.refl _ w4).drew) t own
  have Y:=hide a3
  clear d e f b j l N a3 s k
  go_wp2_with fail
  refine Qaz (md:=[(0,true),(1,true),(2,true),(3,true),(4,true),(5,true),(6,true),(7,true),(8,false),(9,true)]) (fun w'=>w'.cell? (Ja wb 1)=some (.func (.func 48) #[.pointer (Js c.cb)] #[])/\w'.cell? (Ja g (i*2+1))=some (str own)) mixedO (by kernel_rfl) rfl (by kernel_rfl) (fun PP J=>?_)
  iterate 8 refine Qac rfl (by kernel_rfl) (fun w' hw=>by obtain⟨aG,ay⟩:=hw;go_simp<;>rfl) ?_
  refine Qal rfl (Qa HC _ ((Qa y).drew)) (fun K Q=>?_)
  go_simp
  refine C.mono ?_
  clear C
  rintro en w5⟨rfl,b5⟩
  show K _ _
  refine Q _ _ ?_
  clear Q K
  have ad:Below o.heap.size o w5:=(Qa y).drew.trans (b5.mono (Qa y).size)
  refine Qac rfl (by kernel_rfl) (fun _ _=>by go_simp<;>rfl) ?_
  refine Qbc (Qa HC _ ad) (J _ _ ?_)
  clear J PP
  have u:=hide ad
  clear b5 ad
  cases a5:belowP p t own with
  |true=>
   obtain⟨d,e,f,b,j,s,k⟩:=Qa O
   have l:=d.size
   have h5:=b.later (Qa u)
   obtain⟨g',aH,a1,_,_,a2,aI,af,V,U⟩:=h5.turn (Qa q).2.1 t
   rw[k]at a1
   simp only[Value.slice.injEq,Option.some.injEq,Addr.mk.injEq]at a1
   obtain⟨⟨rfl,_⟩,_⟩:=a1
   rw[(Qa q).2.2.2.1]at a2
   obtain⟨w6,ak⟩:=JE (w5.setCell (Ja g (i*2+1)) (str t))
   rw[<- ak]at V U
   have ap:=d.trans ((Qa u).mono l)
   have S:=(Kw.of_below (wb:=wb) (mb:=mb) (sl:=sl) ap).trans U
   have aq:=((Qa u).block _ (Qaa e)).trans e
   have aF:=(Qa u).size
   have z:=U.keep aq ((Qa P).2.2.2.2.new (by omega))
   rw[(Qa q).2.2.1]at V
   obtain⟨W,r,sc⟩:=sc2 z (Ji 0) (Ji 0)
   obtain⟨aj,al,yf⟩:=cl2 z
   have m:=hide (Ya (Wk.sc V sc (by omega) ((Qa P).2.2.2.2.new (by omega))) (Ya (Kw.sc S sc (by omega)) sc.box))
   have L:=hide r
   have a8:=hide a5
   clear d e f b j l h5 af V U ap S aq aF z r sc a5 s k
   subst ak
   go_wp2_with fail
   rw[<- Qa L]
   obtain⟨G,F,zf⟩:=cl2 (Qa m).2.2
   refine bodyPost_ret (v:=ftV (0,0)) (by simp[results,Tryz.results122,go_sem,G,F,ftV]) rfl ?_
   refine⟨_,_,(Qa m).1,(Qa m).2.1,?_⟩
   rw[<- (Qa q).1,Qa Y,Qa a8]
   exact⟨rfl,rfl⟩
  |false=>
   obtain⟨d,e,f,b,j,s,k⟩:=Qa O
   have l:=d.size
   have am:=((Qa u).block _ (Qaa f)).trans f
   have ah:=Qbd w5 13 x.kind x.num x.txt (.slice va vn vc) ⟨_,_,_,rfl⟩ x.at_
   obtain⟨E,H,Z,D,I,xf⟩:=cl5 am
   have a8:=hide a5
   clear d e f b j l am a5 s k
   go_wp2_with fail
   refine ah.mono ?_
   clear ah E H Z D I xf
   rintro en w6⟨rfl,b6⟩
   obtain⟨d,e,f,b,j,s,k⟩:=Qa O
   have l:=d.size
   have a4:=(Qa u).trans (b6.mono (Qa u).size)
   have h6:=b.later a4
   have z:=(a4.block _ (Qaa e)).trans e
   have S:=Kw.of_below (wb:=wb) (mb:=mb) (sl:=sl) (d.trans (a4.mono l))
   obtain⟨W,r,sc⟩:=sc2 z (Ji 13) (Ji x.at_)
   obtain⟨aj,al,yf⟩:=cl2 z
   have m:=hide (Ya (Wk.sc h6 sc (by omega) ((Qa P).2.2.2.2.new (by omega))) (Ya (Kw.sc S sc (by omega)) sc.box))
   have L:=hide r
   clear d e f b j l a4 h6 z S b6 r sc s k
   go_wp2_with fail
   rw[<- Qa L]
   obtain⟨G,F,zf⟩:=cl2 (Qa m).2.2
   refine bodyPost_ret (v:=ftV (13,x.at_)) (by simp[results,Tryz.results122,go_sem,G,F,ftV]) rfl ?_
   refine⟨_,_,(Qa m).1,(Qa m).2.1,?_⟩
   rw[<- (Qa q).1,Qa Y,Qa a8]
   exact⟨rfl,by simp⟩
theorem Qnh(h:Wk n0 n1 p c wb mb sl vs w)(hl:vs.length<=1000000000)(x:Ex)(hk:x.kind=1)(xv:Value)(hv:∃a n c,xv = .slice a n c)(t:Txt):
  Calls Tryz.prog 122 #[.pointer (Js wb),.agg #[Ji x.kind,Ji x.num,str x.txt,xv,Ji x.at_],str t] w fun en w'=>LkA n0 n1 p c wb mb sl w (narP p vs x t) en w':=by
 cases b:typV vs x.txt with
 |none=>exact Qni h hl x hk xv hv t b
 |some own=>exact Qnj h x hk xv hv t b
end
def eachP(step:Ex->Txt->List Fld->Except Flt (List Fld)):List Ex->List Fld->List Fld->Except Flt (List Fld)
 |x :: xs,f :: fs,vs=>match step x f.type vs with
  | .error e=>.error e
  | .ok vs'=>eachP step xs fs vs'
 |_,_,vs=>.ok vs
def szL(sz:Ex->Nat):List Ex->Nat
 | []=>0
 |x :: xs=>sz x+szL sz xs
theorem Qil(sz:Ex->Nat):∀(xs:List Ex) (j:Nat) (x:Ex),xs[j]?=some x->szL sz (xs.drop j)=sz x+szL sz (xs.drop (j+1))
 | [],j,x,h=>by simp at h
 |y :: xs,0,x,h=>by cases h;rfl
 |y :: xs,j+1,x,h=>by simpa using Qil sz xs j x (by simpa using h)
theorem Qna(step:Ex->Txt->List Fld->Except Flt (List Fld)){xs:List Ex}{fs:List Fld}{j:Nat}{x:Ex}{f:Fld}(hx:xs[j]?=some x)(hf:fs[j]?=some f)(vs:List Fld):
  eachP step (xs.drop j) (fs.drop j) vs=match step x f.type vs with | .error e=>.error e | .ok vs'=>eachP step (xs.drop (j+1)) (fs.drop (j+1)) vs':=by
 rw[List.drop_eq_getElem_cons (List.getElem?_eq_some_iff.1 hx).1,List.drop_eq_getElem_cons (List.getElem?_eq_some_iff.1 hf).1,(List.getElem?_eq_some_iff.1 hx).2,(List.getElem?_eq_some_iff.1 hf).2]
 rfl
structure LkF(F:Nat)(n0 n1:Nat)(p:Pg)(c:CatP)(wb mb:Nat)(N:Nat)(sz:Ex->Nat)(step:Ex->Txt->List Fld->Except Flt (List Fld))(xs:List Ex):Prop where
 call:∀x∈xs,∀(w:World) (sl:Value) (vs:List Fld) (a:Option Addr) (n k:Nat) (t:Txt),Wk n0 n1 p c wb mb sl vs w->ExS (fun b=>b<n0) w [.int .i64 x.kind,.int .i64 x.num,str x.txt,.slice a n k,.int .i64 x.at_] x->vs.length+sz x<=N ->
  Calls Tryz.prog F #[.pointer (some ⟨wb,0,none⟩),.agg #[.int .i64 x.kind,.int .i64 x.num,str x.txt,.slice a n k,.int .i64 x.at_],str t] w fun en w'=>LkA n0 n1 p c wb mb sl w (step x t vs) en w'
 grow:∀x t vs vs',step x t vs = .ok vs'->vs'.length<=vs.length+sz x
theorem Wk.offT{n0 n1:Nat}{p:Pg}{c:CatP}{wb mb:Nat}{sl:Value}{vs:List Fld}{w:World}(h:Wk n0 n1 p c wb mb sl vs w){b:Nat}{cs:Array Value}{T:TypeId}{fz:Nat×Nat}(hb:w.heap[b]?=some (.cells cs T fz))(h1:T≠143)(h2:T≠67):b≠wb/\b≠mb/\some b≠sl.ownBlock:=by
 refine⟨fun e=>?_,fun e=>?_,fun e=>?_⟩
 ·
  rw[e,h.box]at hb
  simp only[Option.some.injEq,Obj.cells.injEq]at hb
  exact h1 hb.2.1.symm
 ·
  obtain⟨l,⟨j,k,d,_⟩,_⟩:=h.map
  rw[e,d]at hb
  cases hb
 rcases h.row.2 with ⟨a,_⟩|⟨g,cap,i,a,_,f,_⟩
 ·rw[a]at e;cases e
 rw[a]at e
 cases e
 rw[f]at hb
 simp only[Option.some.injEq,Obj.cells.injEq]at hb
 exact h2 hb.2.1.symm
structure EaI(n0 n1:Nat)(p:Pg)(c:CatP)(wb mb:Nat)(sl:Value)(w:World)(fb:Nat)(f:Flt)(R:Except Flt (List Fld))(W:World):Prop where
 ex:∃sl' vs',Wk n0 n1 p c wb mb sl' vs' W/\Kw wb mb sl sl' w W/\match R with | .ok v=>f=(0,0)/\vs'=v | .error e=>f=e/\f.1≠0
 box:W.heap[fb]?=some (.cells #[.int .i64 f.1,.int .i64 f.2] 31 (0,0))
section
variable {n0 n1:Nat}{p:Pg}{c:CatP}{wb mb:Nat}{sl:Value}{vs:List Fld}{w:World}
theorem Qrk(h:Wk n0 n1 p c wb mb sl vs w)(x:Ex)(hk:x.kind=1)(xa:Option Addr)(xn xc:Nat){own:Txt}(hty:typV vs x.txt=some own):
  Calls Tryz.prog 117 #[.pointer (Js wb),.agg #[Ji x.kind,Ji x.num,str x.txt,.slice xa xn xc,Ji x.at_]] w fun en w'=>en = .returned (.tuple #[str own,ftV (0,0)])/\Below w.heap.size w w':=by
 obtain⟨w2,A,b,f,l,o⟩:=Qas w #[Ji x.kind,Ji x.num,str x.txt,.slice xa xn xc,Ji x.at_] 59
 have M:=h.later b
 have t:=Qdu M x (.slice xa xn xc) ⟨_,_,_,rfl⟩
 have K:openP vs x=false:=by unfold openP;rw[hk,hty];rfl
 rw[K]at t
 obtain⟨i,v,j,d,P,k⟩:=Qka hty
 obtain⟨C,y,z,B,H,L⟩:=cl5 f
 have g1:(x.kind==1)=true:=beq_iff_eq.2 hk
 have HW:=hide A
 have N:=hide (Ya b (Ya f (Ya l (Ya o (Ya h (Ya j (Ya d k)))))))
 clear A b f l o h M K hty hk j d P k
 go_enter Tryz.func117,Tryz.ntmps117
 go_upto_region 1 with fail
 rw[<- Qa HW]
 go_wp2_with fail
 refine t.mono ?_
 clear t C y z B H L
 rintro en I⟨rfl,q⟩
 obtain⟨b,f,l,o,h,j,d,k⟩:=Qa N
 have D:=(q.block _ (by omega)).trans f
 have m:=(q.block _ (by omega)).trans l
 have r:=b.trans (q.mono b.size)
 have a:=h.later r
 obtain⟨g,cap,n,V,a0,O,X,S,_⟩:=a.turn d []
 rw[k]at O
 have R:i<vs.length:=(List.getElem?_eq_some_iff.1 d).1
 obtain⟨vl,s⟩:=JF vs.length
 have W:g<I.heap.size:=(World.ownsRow.lt a.row g (by rw[n];rfl)).2
 have u:=a.offT m (by decide) (by decide)
 have U:g≠w.heap.size+1:=fun e=>u.2.2 (by rw[n,<- e];rfl)
 have G:=a.lookV x.txt false
 have F:=(a.later (Below.refl _ I).drew).lookV x.txt false
 rw[if_neg (by simp),j]at G F
 simp only[Option.getD_some]at G F
 obtain⟨C,y,z,B,H,L⟩:=cl5 D
 obtain⟨a1,a6,a2,a7,Q,a3,qf⟩:=cl6 a.box
 rw[n,s]at Q
 obtain⟨W7,E,sc⟩:=sc2 m (Ji 0) (Ji 0)
 obtain⟨a4,a5,yf⟩:=cl2 m
 have J:=hide (Ya (sc.below r (by omega)) sc.box)
 have Z:=hide E
 rw[s]at R V
 clear b f l o h j d k q D m r a n X S s W u U E sc N
 go_wp2_with fail
 go_region
 rw[<- Qa Z]
 obtain⟨Y,T,zf⟩:=cl2 (Qa J).2
 go_wp2_with fail
 refine bodyPost_ret (v:=.tuple #[str own,ftV (0,0)]) (by simp[results,Tryz.results117,go_sem,Y,T,ftV]) rfl ?_
 exact⟨rfl,(Qa J).1.drew⟩
end
def FtR(R:Except Flt (List Fld))(ft:Flt)(vs:List Fld):Prop:=match R with | .ok v=>ft=(0,0)/\vs=v | .error e=>ft=e/\ft.1≠0
section
variable {n0 n1:Nat}{p:Pg}{c:CatP}{wb mb:Nat}{sl:Value}{vs:List Fld}{w:World}
theorem LkA.ft{R:Except Flt (List Fld)}{en:Ending}{w':World}(h:LkA n0 n1 p c wb mb sl w R en w'):∃sl' vs' ft,en = .returned (ftV ft)/\Wk n0 n1 p c wb mb sl' vs' w'/\Kw wb mb sl sl' w w'/\FtR R ft vs':=by
 obtain⟨sl',vs',b,d,a⟩:=h
 cases R with
 |ok v=>exact⟨sl',vs',(0,0),a.1,b,d,rfl,a.2⟩
 |error e=>exact⟨sl',vs',e,a.1,b,d,rfl,a.2⟩
theorem LkA.of{R:Except Flt (List Fld)}{sl':Value}{vs':List Fld}{ft:Flt}{w':World}(h1:Wk n0 n1 p c wb mb sl' vs' w')(h2:Kw wb mb sl sl' w w')(h3:FtR R ft vs'):LkA n0 n1 p c wb mb sl w R (.returned (ftV ft)) w':=by
 refine⟨sl',vs',h1,h2,?_⟩
 cases R with
 |ok v=>exact⟨by rw[h3.1],h3.2⟩
 |error e=>exact⟨by rw[h3.1],by rw[<- h3.1];exact h3.2⟩
theorem Qld(h:Wk n0 n1 p c wb mb sl vs w)(hl:vs.length<=1000000000)(x:Ex)(hk:x.kind=1)(xa:Option Addr)(xn xc:Nat)(t:Txt):
  Calls Tryz.prog 113 #[.pointer (Js wb),.agg #[Ji x.kind,Ji x.num,str x.txt,.slice xa xn xc,Ji x.at_],str t] w fun en w'=>LkA n0 n1 p c wb mb sl w (narP p vs x t) en w':=by
 obtain⟨V,m,b,q,a,f⟩:=Qas w #[Ji x.kind,Ji x.num,str x.txt,.slice xa xn xc,Ji x.at_] 59
 have d:=h.later b
 have g:=Qnh d hl x hk (.slice xa xn xc) ⟨_,_,_,rfl⟩ t
 obtain⟨z,s,u,y,B,I⟩:=cl5 q
 have U:(x.kind==1)=true:=by rw[hk];rfl
 obtain⟨R,r⟩:=JF (narP p vs x t)
 rw[r]at g ⊢
 have P:=h.n1le
 have J:=hide m
 have o:=hide (Ya b (Ya a (Ya f d)))
 clear m b q a f h d hk r
 go_enter Tryz.func113,Tryz.ntmps113
 go_upto_region 1 with fail
 rw[<- Qa J]
 go_wp2_with fail
 refine g.mono ?_
 clear g z s u y B I
 rintro en Q k
 obtain⟨M,L,ft,rfl,i,j,l⟩:=k.ft
 clear k
 obtain⟨b,a,f,d⟩:=Qa o
 have e:=j.keep a (d.offT a (by decide) (by decide))
 obtain⟨W,n,sc⟩:=sc2 e (Ji ft.1) (Ji ft.2)
 obtain⟨N,O,S⟩:=cl2 e
 have F:=hide (Ya (i.sc sc (by omega) (i.offT e (by decide) (by decide))) (Ya (((Kw.of_below b).trans j).sc sc (by omega)) (Ya sc.box l)))
 have C:=hide n
 clear b a f d i j l e n sc o
 unfold ftV
 go_wp2_with fail
 rw[<- Qa C]
 obtain⟨K,G,E,H⟩:=Qa F
 obtain⟨D,A,T⟩:=cl2 E
 refine bodyPost_ret (v:=ftV ft) (by simp[results,Tryz.results113,go_sem,D,A,ftV]) rfl ?_
 exact LkA.of K G H
end
section
variable {n0 n1:Nat}{p:Pg}{c:CatP}{wb mb:Nat}{sl:Value}{vs:List Fld}{w:World}
theorem Qew(h:Wk n0 n1 p c wb mb sl vs w)(a:Atm){aa:Option Addr}{an ac:Nat}{d:Dcl}(hd:declP2 p a.rel=some d)(F:Value)(hFv:∃f x y,F = .func f x y){R:Except Flt (List Fld)}
  (hE:∀(W:World) (xa:Option Addr) (xc:Nat),Below w.heap.size w W->LsAt PF 2 (fun b=>b<n0) W (.slice xa d.cols.length xc) d.cols->Calls Tryz.prog 116 #[.slice aa an ac,.slice xa d.cols.length xc,F] W fun en w'=>LkA n0 n1 p c wb mb sl W R en w'):
  Calls Tryz.prog 101 #[.pointer (Js wb),.agg #[str a.rel,.slice aa an ac,Ji a.at_],F] w fun en w'=>LkA n0 n1 p c wb mb sl w R en w':=by
 obtain⟨Ff,Fx,Fy,rfl⟩:=hFv
 obtain⟨g,a0,j,E,I,Q⟩:=Qas w #[str a.rel,.slice aa an ac,Ji a.at_] 42
 have C:=hide (show ∀W:World,Below g.heap.size g W->W.heap[w.heap.size]?=some (.cells #[str a.rel,.slice aa an ac,Ji a.at_] 42 (0,0))/\W.cell? (Ja wb 2)=some (.func (.func 78) #[.pointer (Js c.cb)] #[]) from fun W N=>⟨(N.block _ (by omega)).trans E,(cl6 (h.later (j.trans (N.mono j.size))).box).2.2.1⟩)
 have a1:=hide (show ∀W:World,Below g.heap.size g W->Calls Tryz.prog 78 #[.pointer (Js c.cb),str a.rel] W fun en w'=>∃v,en = .returned v/\DcA (fun b=>b<n0) w' (some d) v/\Below W.heap.size W w' from fun W N=>by have:=Qfr (Ct.later h.cat (j.trans (N.mono j.size))) a.rel;rw[hd]at this;exact this)
 have aq:=h.n1le
 have ar:=h.lo.1
 have HB:=hide (show n0<=g.heap.size by omega)
 have HW:=hide a0
 have HH:=hide (Ya j (Ya E (Ya I (Ya Q (Ya h (Ya hd hE))))))
 clear a0 j E I Q h hd hE
 go_enter Tryz.func101,Tryz.ntmps101
 go_upto_region 1 with fail
 rw[<- Qa HW]
 go_cut [7] from 8 (fun u wc=>∃(Z:Nat) (xa:Option Addr) (xc:Nat),u = .pointer (Js Z)/\Hid (Below g.heap.size g wc/\wc.heap[Z]?=some (.cells #[str d.name,.slice xa d.cols.length xc,.bool d.input,.bool d.output,Ji d.at_] 63 (0,0))/\LsAt PF 2 (fun b=>b<n0) wc (.slice xa d.cols.length xc) d.cols))
 case first=>
  go_wp2_with fail
  refine Qav (tr:=(.take 0 (.take 1 (.take 2 (.take 3 (.take 4 (.take 5 (.two 6 10 (.take 7 (.take 8 (.take 9 (.one 10 (.one 11 (.take 12 .nil)))))) (.one 6 (.take 7 (.take 8 (.take 9 (.one 11 (.take 12 .nil)))))))))))))) (fun W=>W.heap[w.heap.size]?=some (.cells #[str a.rel,.slice aa an ac,Ji a.at_] 42 (0,0))/\W.cell? (Ja wb 2)=some (.func (.func 78) #[.pointer (Js c.cb)] #[])) mixedO (by kernel_rfl) rfl (by kernel_rfl) (fun PP M=>?_)
  refine tT (v:=?_) (fun w' hw=>?_) ?_
  rotate_left
  ·(obtain⟨e,m⟩:=hw;obtain⟨n,l,k,o⟩:=cl3 e;go_simp<;>rfl)
  refine tT (v:=?_) (fun w' hw=>?_) ?_
  rotate_left
  ·(obtain⟨e,m⟩:=hw;obtain⟨n,l,k,o⟩:=cl3 e;go_simp<;>rfl)
  refine tT (v:=?_) (fun w' hw=>?_) ?_
  rotate_left
  ·(obtain⟨e,m⟩:=hw;obtain⟨n,l,k,o⟩:=cl3 e;go_simp<;>rfl)
  refine tT (v:=?_) (fun w' hw=>?_) ?_
  rotate_left
  ·(obtain⟨e,m⟩:=hw;obtain⟨n,l,k,o⟩:=cl3 e;go_simp<;>rfl)
  refine tT (v:=?_) (fun w' hw=>?_) ?_
  rotate_left
  ·(obtain⟨e,m⟩:=hw;obtain⟨n,l,k,o⟩:=cl3 e;go_simp<;>rfl)
  refine tT (v:=?_) (fun w' hw=>?_) ?_
  rotate_left
  ·(obtain⟨e,m⟩:=hw;obtain⟨n,l,k,o⟩:=cl3 e;go_simp<;>rfl)
  refine Qbu rfl rfl (Qa C g.drew (Below.refl _ g).drew) (fun K i=>?_) (fun K i=>?_)
  ·
   go_simp
   refine(Qa a1 g.drew (Below.refl _ g).drew).mono ?_
   rintro en z⟨v5,rfl,U,G⟩
   obtain⟨xa,xc,rfl,A⟩:=U
   show K _ _
   refine i _ _ ?_
   clear i K
   have a3:Below g.heap.size g z:=(Below.refl _ g).drew.trans G
   have r:=a3
   refine tT (v:=?_) (fun w' hw=>?_) ?_
   rotate_left
   ·(obtain⟨e,m⟩:=hw;obtain⟨n,l,k,o⟩:=cl3 e;go_simp<;>rfl)
   refine tT (v:=?_) (fun w' hw=>?_) ?_
   rotate_left
   ·(obtain⟨e,m⟩:=hw;obtain⟨n,l,k,o⟩:=cl3 e;go_simp<;>rfl)
   refine tT (v:=?_) (fun w' hw=>?_) ?_
   rotate_left
   ·(obtain⟨e,m⟩:=hw;obtain⟨n,l,k,o⟩:=cl3 e;go_simp<;>rfl)
   refine Qag rfl (Qa C z r) (fun K i=>?_)
   go_simp
   refine i _ _ ?_
   clear i K
   have b6:Below z.heap.size z (z.alloc (.cells #[Je,Jn,.bool false,.bool false,Ji 0] 63)):=(Below.refl _ z).alloc (Nat.le_refl _) _
   refine Qag rfl (Qa C _ (r.trans (b6.mono r.size))) (fun K i=>?_)
   go_simp
   refine i _ _ ?_
   clear i K
   obtain⟨W7,s⟩:=JE (z.alloc (.cells #[str d.name,.slice xa d.cols.length xc,.bool d.input,.bool d.output,Ji d.at_] 63))
   have S:=bnw s
   have n7:=nnw s
   rw[<- s]
   have B:=r.trans (S.mono r.size)
   refine tT (v:=?_) (fun w' hw=>?_) ?_
   rotate_left
   ·(obtain⟨e,m⟩:=hw;obtain⟨n,l,k,o⟩:=cl3 e;go_simp<;>rfl)
   refine Qap (Qa C _ B) (M _ _ ?_)
   clear M PP
   have T:=hide (Ya B (Ya n7 (A.same Qbb S.size (fun q _ hl=>S.block q hl))))
   clear A G a3 r b6 s S n7 B
   go_wp2_with fail
   go_meet
   exact⟨_,xa,xc,rfl,T⟩
  go_simp
  refine i _ _ ?_
  clear i K
  obtain⟨P,J⟩:=JE ((g.alloc (.cells #[Je,Jn,.bool false,.bool false,Ji 0] 63)).drew)
  have b4:Below g.heap.size g P:=by rw[J];exact((Below.refl _ _).alloc (Nat.le_refl _) _).drew
  have X:P.heap[g.heap.size]?=some (.cells #[Je,Jn,.bool false,.bool false,Ji 0] 63 (0,0)):=by rw[J];exact heap_alloc_new g _
  have H:=b4
  rw[<- J]
  clear J
  refine Qag rfl (Qa C P H) (fun K i=>?_)
  go_simp
  refine(Qa a1 P H).mono ?_
  rintro en z⟨v5,rfl,U,G⟩
  obtain⟨xa,xc,rfl,A⟩:=U
  show K _ _
  refine i _ _ ?_
  clear i K
  have r:=H.trans (G.mono H.size)
  have V:=(G.block _ (Qaa X)).trans X
  refine tT (v:=?_) (fun w' hw=>?_) ?_
  rotate_left
  ·(obtain⟨e,m⟩:=hw;obtain⟨n,l,k,o⟩:=cl3 e;go_simp<;>rfl)
  refine tT (v:=?_) (fun w' hw=>?_) ?_
  rotate_left
  ·(obtain⟨e,m⟩:=hw;obtain⟨n,l,k,o⟩:=cl3 e;go_simp<;>rfl)
  refine tT (v:=?_) (fun w' hw=>?_) ?_
  rotate_left
  ·(obtain⟨e,m⟩:=hw;obtain⟨n,l,k,o⟩:=cl3 e;go_simp<;>rfl)
  obtain⟨W7,s,sc⟩:=sc5 V (str d.name) (.slice xa d.cols.length xc) (.bool d.input) (.bool d.output) (Ji d.at_)
  obtain⟨a9,ak,aw,av,ap,yf⟩:=cl5 V
  refine Qag rfl (Qa C z r) (fun K i=>?_)
  go_simp
  rw[<- s]
  refine i _ _ ?_
  clear i K
  have B:=sc.below r (Nat.le_refl _)
  refine tT (v:=?_) (fun w' hw=>?_) ?_
  rotate_left
  ·(obtain⟨e,m⟩:=hw;obtain⟨n,l,k,o⟩:=cl3 e;go_simp<;>rfl)
  refine Qap (Qa C _ B) (M _ _ ?_)
  clear M PP
  have T:=hide (Ya B (Ya sc.box (A.same Qbb (by rw[sc.size];exact Nat.le_refl _) (fun q hq _=>sc.oth q (by have au:q<n0:=hq;have:=Qa HB;omega)))))
  clear A b4 X H G r V s sc B
  go_wp2_with fail
  go_meet
  exact⟨_,xa,xc,rfl,T⟩
 obtain⟨Z,xa,xc,rfl,O⟩:=hcut
 obtain⟨WX,a8⟩:=JE wc
 subst a8
 obtain⟨t,nX,A⟩:=Qa O
 obtain⟨j,E,I,Q,h,hd,hE⟩:=Qa HH
 have a6:=hE WX xa xc (j.trans (t.mono j.size)) A
 have a5:=(t.block _ (by omega)).trans E
 have D:=(t.block _ (by omega)).trans I
 obtain⟨aj,af,am,xf⟩:=cl3 a5
 obtain⟨al,ad,ai,ag,a7,df⟩:=cl5 nX
 have HX:=hide (Ya (j.trans (t.mono j.size)) (Ya D (h.later (j.trans (t.mono j.size)))))
 clear j E I Q h hd hE t nX a5 D A O
 go_wp2_with fail
 refine a6.mono ?_
 clear a6 aj af am xf al ad ai ag a7 df
 rintro en w9 a4
 obtain⟨ax,ao,ft,rfl,Y,k9,a2⟩:=a4.ft
 clear a4
 obtain⟨t,D,hX⟩:=Qa HX
 have L:=k9.keep D (hX.offT D (by decide) (by decide))
 obtain⟨W7,s,sc⟩:=sc2 L (Ji ft.1) (Ji ft.2)
 obtain⟨a9,ak,yf⟩:=cl2 L
 have O:=hide (Ya (Y.sc sc (by omega) (Y.offT L (by decide) (by decide))) (Ya (((Kw.of_below t).trans k9).sc sc (by omega)) (Ya sc.box a2)))
 have ah:=hide s
 clear t D hX Y k9 a2 L s sc
 unfold ftV
 go_wp2_with fail
 rw[<- Qa ah]
 obtain⟨e1,e2,e3,e4⟩:=Qa O
 obtain⟨ae,ab,zf⟩:=cl2 e3
 refine bodyPost_ret (v:=ftV ft) (by simp[results,Tryz.results101,go_sem,ae,ab,ftV]) rfl ?_
 exact LkA.of e1 e2 e4
end
end
end Go.Proofs.YtmfpbepifnedjaaGreat
