/- types. -/
import Derived.Test.YtmfpbepifnedjaaGreatZz01
import Derived.Test.YtmfpbepifnedjaaGreatZz34
set_option maxRecDepth 100000
set_option maxHeartbeats 32000000
namespace Go.Proofs.YtmfpbepifnedjaaGreat
section
open Go.RowKit Go.Maps
def kdC(p:Pg):Nat->List Value
 | 0=>[]
 |n+1=>kdC p n++[str (kName p n),.int .i64 (kSub p n:Int),.int .i64 (kInit p n)]
theorem Qpj(p:Pg):∀n,(kdC p n).length=n*3
 | 0=>rfl
 |n+1=>by rw[kdC,List.length_append,Qpj p n];simp;omega
theorem Qu(p:Pg):∀(n j:Nat),j<n->(kdC p n)[j*3]?=some (str (kName p j))/\(kdC p n)[j*3+1]?=some (Ji (kSub p j:Int))/\(kdC p n)[j*3+2]?=some (Ji (kInit p j))
 | 0,j,h=>by omega
 |n+1,j,h=>by
  have hl:=Qpj p n
  rw[kdC]
  by_cases e:j<n
  ·
   obtain⟨b,d,f⟩:=Qu p n j e
   refine⟨?_,?_,?_⟩
   ·rw[List.getElem?_append_left (by omega)];exact b
   ·rw[List.getElem?_append_left (by omega)];exact d
   ·rw[List.getElem?_append_left (by omega)];exact f
  have a:j=n:=by omega
  subst a
  refine⟨?_,?_,?_⟩
  ·rw[List.getElem?_append_right (by omega),hl];simp
  ·rw[List.getElem?_append_right (by omega),hl,show j*3+1 - j*3=1 by omega];rfl
  ·rw[List.getElem?_append_right (by omega),hl,show j*3+2 - j*3=2 by omega];rfl
theorem KRow.of_own{p:Pg}{w:World}{b0 n:Nat}{sl:Value}(hn:0<n)(h:w.ownsRow b0 137 3 sl n (kdC p n)):∃kb kc,sl = .slice (Js kb) n kc/\b0<=kb/\KRow w kb n kc (kName p) (kSub p) (kInit p):=by
 rcases h.2 with ⟨_,e⟩|⟨g,cap,f,i,k,l,m,o,s,q⟩
 ·omega
 refine⟨g,cap,i,k,m,o,f,l,fun j r=>?_⟩
 obtain⟨a,b,d⟩:=Qu p n j r
 rw[<- q,List.getElem?_take_of_lt (by omega)]at a b d
 exact⟨by simpa using a,by simpa using b,by simpa using d⟩
theorem infoK:∃i0:TypeInfo,Tryz.prog.info? 137=some i0/\i0.zero=some (.agg #[Je,Ji 0,Ji 0])/\i0.size=3/\i0.bytes=32:=by
 have h:(Tryz.prog.info? 137).map (fun i=>(i.zero,i.size,i.bytes))=some (some (.agg #[Je,Ji 0,Ji 0]),3,32):=by kernel_rfl
 obtain⟨i0,b,a⟩:=Option.map_eq_some_iff.1 h
 simp only[Prod.mk.injEq]at a
 exact⟨i0,b,a⟩
section
variable {n0 n1:Nat}{p:Pg}{c:CatP}{sl:Value}{rt rd:List (Txt×Nat)}{rc:List (Txt×(Nat×Nat))}{w:World}
theorem Nc.box_ne(h:Nc n0 n1 p c sl rt rd rc w){b0 n:Nat}{xs:List Value}(row:w.ownsRow b0 137 3 sl n xs):some c.cb≠sl.ownBlock/\some c.mt≠sl.ownBlock/\some c.md≠sl.ownBlock/\some c.mc≠sl.ownBlock/\some n1≠sl.ownBlock:=by
 rcases row.2 with ⟨b,_⟩|⟨g,cap,d,b,_,a,_⟩
 ·rw[b];exact⟨by simp[Value.ownBlock],by simp[Value.ownBlock],by simp[Value.ownBlock],by simp[Value.ownBlock],by simp[Value.ownBlock]⟩
 rw[b]
 refine⟨fun e=>?_,fun e=>?_,fun e=>?_,fun e=>?_,fun e=>?_⟩
 ·
  cases e
  have:=h.box
  rw[a]at this
  simp at this
 ·cases e;exact h.mt.cells_ne a rfl
 ·cases e;exact h.md.cells_ne a rfl
 ·cases e;exact h.mc.cells_ne a rfl
 cases e
 have:=h.par
 rw[a]at this
 simp at this
theorem Nc.more(h:Nc n0 n1 p c sl rt rd rc w){n:Nat}(row:w.ownsRow (n1+1) 137 3 sl n (kdC p n))(hn:n<=1000000010){s:Txt}{k b:Int}(e1:kName p n=s)(e2:(kSub p n:Int)=k)(e3:kInit p n=b):
  ∃ra rn rc' w3,(Builtin.append_ #[127,127] 127 #[sl,.slice (Js w.heap.size) 1 1]).run Tryz.prog (w.alloc (.cells #[str s,Ji k,Ji b] 137)) = .ok (.slice ra rn rc') w3/\w3.heap[c.cb]?=some (.cells #[c.v0,c.v1,c.v2,c.v3,c.v4,sl,.map (some c.mt),.map (some c.md),.map (some c.mc)] 129 (0,0))/\(∀q,q<w.heap.size->some q≠sl.ownBlock->w3.heap[q]?=w.heap[q]?) /\
   Nc n0 n1 p c (.slice ra rn rc') rt rd rc (w3.setCell (Ja c.cb 5) (.slice ra rn rc'))/\(w3.setCell (Ja c.cb 5) (.slice ra rn rc')).ownsRow (n1+1) 137 3 (.slice ra rn rc') (n+1) (kdC p (n+1))/\Below n1 w (w3.setCell (Ja c.cb 5) (.slice ra rn rc')):=by
 obtain⟨y,f⟩:=JE (w.alloc (.cells #[str s,Ji k,Ji b] 137))
 obtain⟨W,T,V,J,F⟩:=infoK
 have G:=Qaa h.box
 have X:=h.l0
 have D:n1+1<=y.heap.size:=by rw[f];simp;omega
 obtain⟨r,w3,E,v,i,_,a3⟩:=run_append_own_at (P:=Tryz.prog) y (n1+1) 127 127 137 W _ 3 32 (by kernel_rfl) T V J F rfl (by decide) sl n (kdC p n) (by rw[f];exact World.ownsRow.alloc row _) (Ja w.heap.size 0) 1 1 [str s,Ji k,Ji b] rfl (fun j u U=>by
  have e1:((Ja w.heap.size 0):Addr).add j=(Ja w.heap.size j):=by cases j<;>simp[Addr.add]
  rw[e1,f,Qad (heap_alloc_new w _)]
  simpa using U) (fun c C=>by simp only[List.mem_cons,List.not_mem_nil,or_false]at C;rcases C with rfl|rfl|rfl<;>rfl) (by unfold maxLen;omega) (by omega) D
 have L:∃ra rn rc,r = .slice ra rn rc:=by
  rcases v.2 with ⟨e,_⟩|⟨g,cap,o,e,_⟩
  ·exact⟨_,_,_,e⟩
  ·exact⟨_,_,_,e⟩
 obtain⟨ra,rn,rc',rfl⟩:=L
 obtain⟨B,M,N,O,Z⟩:=h.box_ne row
 have s2:y.heap.size=w.heap.size+1:=by rw[f];simp
 have same:∀q,q<w.heap.size->some q≠sl.ownBlock->w3.heap[q]?=w.heap[q]?:=fun q d H=>by
  rw[i.block q (by omega) H,f,Below.heap_alloc _ _ _ d]
 have z:=(same _ G B).trans h.box
 obtain⟨l,a⟩:=JE (w3.setCell (Ja c.cb 5) (.slice ra rn rc'))
 have x:∀q,q≠c.cb->l.heap[q]?=w3.heap[q]?:=fun q d=>by rw[a];exact hpS d
 have I:∀q,some q=sl.ownBlock->n1+1<=q:=fun q e=>by
  rcases row.2 with ⟨e2,_⟩|⟨g,cap,o,e2,t,_⟩
  ·rw[e2]at e;cases e
  ·rw[e2]at e;cases e;exact t
 have low:∀q,q<=n1->l.heap[q]?=w.heap[q]?:=fun q d=>by
  rw[x q (by omega)]
  exact same q (by omega) (fun e=>by have:=I q e;omega)
 have A:w.heap.size<=l.heap.size:=by have:=i.size;rw[a];simp;omega
 have K:∀q,some q=(Value.slice ra rn rc').ownBlock->q≠c.cb:=fun q e e2=>by
  subst e2
  rcases a3 with e3|e3
  ·exact B (e.trans e3)
  rw[e3]at e
  have:=Option.some.inj e
  omega
 have m:∀q,q<w.heap.size->q≠c.cb->some q≠sl.ownBlock->l.heap[q]?=w.heap[q]?:=fun q Q R S=>(x q R).trans (same q Q S)
 subst f
 refine⟨ra,rn,rc',w3,E,z,same,?_,?_,?_⟩
 ·
  rw[<- a]
  exact⟨by rw[a];exact(Qah z 5 _).trans rfl,(low n1 (Nat.le_refl _)).trans h.par,Qak.same _ _ _ _ _ h.prg A (fun q d _=>low q (by have Y:q<n0:=d;have:=h.n01;omega)),h.mt.keep (m _ h.mt.lt (Ne.symm (h.mt.cells_ne h.box)) M),h.md.keep (m _ h.md.lt (Ne.symm (h.md.cells_ne h.box)) N),h.mc.keep (m _ h.mc.lt (Ne.symm (h.mc.cells_ne h.box)) O),h.l0,h.n01,h.ne⟩
 ·
  rw[<- a,kdC,e1,e2,e3]
  refine⟨v.1,?_⟩
  rcases v.2 with e|⟨g,cap,o,e1,e2,e3,t⟩
  ·exact .inl e
  ·exact .inr ⟨g,cap,o,e1,e2,(x g (K g (by rw[e1];rfl))).trans e3,t⟩
 rw[<- a]
 refine⟨?_,?_,?_,A,fun q d=>low q (Nat.le_of_lt d)⟩
 ·rw[a];exact i.os
 ·rw[a];exact i.tape
 ·rw[a];exact i.output
end
theorem sc3{w:World}{b:Nat}{T:TypeId}{u0 u1 u2:Value}(n:w.heap[b]?=some (.cells #[u0,u1,u2] T (0,0)))(v0 v1 v2:Value):∃W,W=(((w.setCell (Ja b 0) v0).setCell (Ja b 1) v1).setCell (Ja b 2) v2)/\Sc b T #[v0,v1,v2] w W:=
 ⟨_,rfl,(Qah (Qah (Qah n 0 _) 1 _) 2 _).trans (by simp),by simp,fun q a=>by rw[hpS a,hpS a,hpS a],rfl,rfl,rfl⟩
theorem Qjo{w W:World}{b0 k n:Nat}{T:TypeId}{sl:Value}{xs:List Value}(h:w.ownsRow b0 T k sl n xs)(b:∀q,some q=sl.ownBlock->W.heap[q]?=w.heap[q]?):W.ownsRow b0 T k sl n xs:=by
 refine⟨h.1,?_⟩
 rcases h.2 with e|⟨g,cap,d,a,f,i,j⟩
 ·exact .inl e
 ·exact .inr ⟨g,cap,d,a,f,(b g (by rw[a];rfl)).trans i,j⟩
theorem Qpi{p:Pg}{j:Nat}{x:Typ}(h:p.types[j]?=some x):kName p (3+j)=x.name/\kSub p (3+j)=tyNo p x.sub/\kInit p (3+j)=if x.sub=[] then ((3+j:Nat):Int) else -1:=by
 have e:3+j - 3=j:=by omega
 refine⟨?_,?_,?_⟩
 ·
  unfold kName
  rw[if_neg (by omega),if_neg (by omega),if_neg (by omega),e,h]
  rfl
 ·
  unfold kSub
  rw[if_neg (by omega),e,h]
  rfl
 unfold kInit
 rw[if_neg (by omega),e,h]
section
variable {n0 n1:Nat}{p:Pg}{c:CatP}{kv:Value}{rt rd:List (Txt×Nat)}{rc:List (Txt×(Nat×Nat))}{w w':World}
theorem Nc.look(h:Nc n0 n1 p c kv (tyRow p.types) rd rc w)(t:Txt):(Instr.lookup 125 (.map (some c.mt)) (str t) false).run Tryz.prog w = .ok (Ji (tyNo p t:Int)) w:=by
 obtain⟨d,a,b⟩:=h.mt
 rw[Qeb uS mI zI w c.mt d t a false,b t]
 unfold tyNo
 cases asc (tyRow p.types) t<;>rfl
theorem Nc.three(h:Nc n0 n1 p c kv rt rd rc w):∃W,W=(w.alloc (.cells #[Je,Ji 0,Ji 0,.string ⟨#[110,117,109,98,101,114]⟩,Ji 0,Ji 1,.string ⟨#[115,121,109,98,111,108]⟩,Ji 0,Ji 2] 137)).setCell (Ja c.cb 5) (.slice (Js w.heap.size) 3 3) /\
  Nc n0 n1 p c (.slice (Js w.heap.size) 3 3) rt rd rc W/\W.ownsRow (n1+1) 137 3 (.slice (Js w.heap.size) 3 3) (3+0) (kdC p (3+0))/\Below n1 w W:=by
 obtain⟨f,d⟩:=JE (w.alloc (.cells #[Je,Ji 0,Ji 0,.string ⟨#[110,117,109,98,101,114]⟩,Ji 0,Ji 1,.string ⟨#[115,121,109,98,111,108]⟩,Ji 0,Ji 2] 137))
 have b:=bnw d
 have g:=nnw d
 have a:=h.later b
 have j:=h.l0
 have i:=Qaa h.box
 have o:∀q,q≠c.cb->(f.setCell (Ja c.cb 5) (.slice (Js w.heap.size) 3 3)).heap[q]?=f.heap[q]?:=fun q e=>hpS e
 refine⟨_,rfl,?_,?_,?_⟩
 ·
  rw[<- d]
  exact⟨(Qah a.box 5 _).trans rfl,(o _ (by omega)).trans a.par,Qak.same _ _ _ _ _ a.prg (by simp) (fun q e _=>o q (by have k:q<n0:=e;have:=h.n01;omega)),a.mt.keep (o _ (Ne.symm (a.mt.cells_ne a.box))),a.md.keep (o _ (Ne.symm (a.md.cells_ne a.box))),a.mc.keep (o _ (Ne.symm (a.mc.cells_ne a.box))),h.l0,h.n01,h.ne⟩
 ·
  rw[<- d]
  exact⟨rfl,.inr ⟨w.heap.size,3,_,rfl,by omega,(o _ (by omega)).trans g,Nat.le_refl _,by unfold maxLen;decide,rfl,rfl⟩⟩
 rw[<- d]
 exact⟨b.os,b.tape,b.output,by simp;exact b.size,fun q e=>(o q (by omega)).trans (b.block q (by omega))⟩
end
theorem KRow.congr{w:World}{kb n cap:Nat}{nm:Nat->Txt}{sb:Nat->Nat}{bs bs':Nat->Int}(h:KRow w kb n cap nm sb bs)(e:∀k,k<n->bs k=bs' k):KRow w kb n cap nm sb bs':=by
 obtain⟨b,d,f⟩:=h.ex
 exact⟨h.le,h.cm,b,d,fun j a=>by rw[<- e j a];exact f j a⟩
theorem Qtf(p:Pg):StB p [] (kInit p):=fun k _=>by
 by_cases h:kInit p k = -1
 ·exact .inr (.inl ⟨h,h,by simp⟩)
 ·exact .inl (Qey h).symm
theorem Nc.ct{n0 n1:Nat}{p:Pg}{c:CatP}{w:World}{sl:Value}(h:Nc n0 n1 p c sl (tyRow p.types) (dcRow p.decls) (ctRow p.types) w)(row:w.ownsRow (n1+1) 137 3 sl (3+p.types.length) (kdC p (3+p.types.length))):∃kb kc,sl = .slice (Js kb) (3+p.types.length) kc/\Ct n0 p { c with kb:=kb,kc:=kc } (kInit p) w/\n1<kb:=by
 obtain⟨kb,kc,rfl,d,b⟩:=KRow.of_own (by omega) row
 have:=h.l0
 have:=h.n01
 refine⟨kb,kc,rfl,⟨?_,h.prg,?_,h.mt,h.md,h.mc,?_⟩,d⟩
 ·
  have a:=h.box
  rw[Nat.add_comm 3]at a
  exact a
 ·
  rw[Nat.add_comm 3]at b
  exact b
 show n0<=c.cb/\n0<=kb/\n0<=c.mt/\n0<=c.md/\n0<=c.mc
 omega
theorem Qj{n0 n1:Nat}{p:Pg}(hts:p.types.length<=1000000000):AkA n0 n1 p:=by
 intro c w h
 obtain⟨a0,k0,c0,ar⟩:∃a n d,c.v0 = .slice a n d:=by
  obtain⟨_,_,e⟩:=h.types.sl
  exact⟨_,_,_,e⟩
 have bv:k0=p.types.length:=by
  obtain⟨_,_,e⟩:=h.types.sl
  rw[ar]at e
  cases e
  rfl
 have ck:=h.types.cap ar
 have co:k0<=1000000000:=by omega
 obtain⟨W1,br,aC,ax,b1⟩:=h.three
 obtain⟨aD,bc,be,bf,bg,aE,bh,bi,bj,xf⟩:=cl9 h.box
 obtain⟨bZ,c5,c6,c7,c8,c9,ca,cc,cd,vf⟩:=cl9 (h.later ((Below.refl w.heap.size w).alloc (Nat.le_refl _) (.cells #[Je,Ji 0,Ji 0,.string ⟨#[110,117,109,98,101,114]⟩,Ji 0,Ji 1,.string ⟨#[115,121,109,98,111,108]⟩,Ji 0,Ji 2] 137))).box
 obtain⟨aF,bk,bl,ce,cf,cg,ch,ci,cj,zf⟩:=cl9 aC.box
 rw[ar]at aD aF
 have bo:=hide br
 have V:=hide (Ya ar bv)
 have H1:=hide (Ya aC (Ya ax b1))
 obtain⟨s1,bR⟩:=JF (Value.slice (Js w.heap.size) 3 3)
 have bE:=hide (show ∃sl,Nc n0 n1 p c sl (tyRow p.types) (dcRow p.decls) (ctRow p.types) W1/\W1.ownsRow (n1+1) 137 3 sl (3+0) (kdC p (3+0))/\Below n1 w W1 from ⟨_,aC,ax,b1⟩)
 clear hts h ar bv br aC ax b1 bR bk bl ce cf cg ch ci cj aD bc be bf bg bh bi bj bZ c5 c6 c7 c8 ca cc cd H1
 go_enter Tryz.func71,Tryz.ntmps71
 go_upto_region 1 with fail
 first|rw[<- Qa bo]|rw[<- show W1=_ from Qa bo]
 go_wp2_with fail
 clear aE xf aF zf c9 vf
 go_loopw [19] (fun v wr=>∃j:Nat,v = Ji (j:Int)/\j<=k0/\Hid (∃sl,Nc n0 n1 p c sl (tyRow p.types) (dcRow p.decls) (ctRow p.types) wr/\wr.ownsRow (n1+1) 137 3 sl (3+j) (kdC p (3+j))/\Below n1 w wr)) (fun v _=>k0 - (intOf v).toNat)
 case atStart=>exact⟨0,rfl,Nat.zero_le _,bE⟩
 obtain⟨j,rfl,hj,HI⟩:=hrel
 by_cases cp:j<k0
 ·
  obtain⟨sl,O,row,bw⟩:=Qa HI
  obtain⟨x,ai⟩:∃x,p.types[j]?=some x:=⟨p.types[j]'(by have:=(Qa V).2;omega),List.getElem?_eq_getElem _⟩
  obtain⟨gb,cap,cn,e1,bO,hS,_,bN,hc⟩:=O.types.elem ai
  obtain⟨xa,xn,xc,rfl,hX⟩:=bN
  rw[(Qa V).1]at e1
  simp only[Value.slice.injEq]at e1
  obtain⟨rfl,-,-⟩:=e1
  have y0:wr.cell? (Ja gb (j*4))=some (str x.name):=hc 0 _ rfl
  have y1:wr.cell? (Ja gb (j*4+1))=some (str x.sub):=hc 1 _ rfl
  have y2:wr.cell? (Ja gb (j*4+2))=some (.slice xa xn xc):=hc 2 _ rfl
  have y3:wr.cell? (Ja gb (j*4+3))=some (Ji x.at_):=hc 3 _ rfl
  obtain⟨o,au⟩:=JE (wr.alloc (.cells #[str x.name,str x.sub,.slice xa xn xc,Ji x.at_] 54))
  have b3:=bnw au
  have B:=nnw au
  obtain⟨tb,aL⟩:=JF wr.heap.size
  rw[aL]at B
  have M:n1<=wr.heap.size:=Nat.le_of_lt (Qaa O.par)
  have I:=O.later b3
  have G:o.ownsRow (n1+1) 137 3 sl (3+j) (kdC p (3+j)):=by rw[au];exact World.ownsRow.alloc row _
  have bm:=hide (show ∀X,Below o.heap.size o X->X.cell? (Ja c.cb 6)=some (.map (some c.mt))/\X.cell? (Ja tb 0)=some (str x.name)/\X.cell? (Ja tb 1)=some (str x.sub)/\(Instr.lookup 125 (.map (some c.mt)) (str x.sub) false).run Tryz.prog X = .ok (Ji (tyNo p x.sub:Int)) X from fun X bW=>⟨(cl9 (I.later bW).box).2.2.2.2.2.2.1,(cl4 ((bW.block _ (Qaa B)).trans B)).1,(cl4 ((bW.block _ (Qaa B)).trans B)).2.1,(I.later bW).look x.sub⟩)
  have H3:=hide (Ya (bw.trans (b3.mono M)) (Ya I (Ya G (Ya B (Ya ai (Ya M b3.size))))))
  have bp:=hide (Ya au aL)
  obtain⟨l,aM⟩:∃l:Int,(tyNo p x.sub:Int)=l:=⟨_,rfl⟩
  rw[aM]at bm
  have bn:=hide aM
  clear O row bw ai bO hS hc hX au b3 B aL M I G aM
  go_upto_region 4 with fail
  rw[<- (Qa bp).1,(Qa bp).2]
  clear y0 y1 y2 y3
  refine Qaz (md:=[(0,true),(1,true),(2,true),(3,true),(4,true),(5,true),(6,true),(7,true),(8,true),(9,true),(10,false),(11,false)]) (Below o.heap.size o) mixedO (by kernel_rfl) rfl (by kernel_rfl) (fun PP Q=>?_)
  iterate 10 refine Qac rfl (by kernel_rfl) (fun w' hw=>by obtain⟨cq,cr,cs,cu⟩:=Qa bm w' hw;go_simp<;>rfl) ?_
  have bd:=(Below.refl o.heap.size o).drew
  refine Qal rfl bd (fun K b=>?_)
  go_simp
  refine b _ _ ?_
  clear b K
  obtain⟨wz,aB⟩:=JE ((o.alloc (.cells #[Je,Ji 0,Ji 0] 137)).drew)
  have bz:Below o.heap.size o wz:=by rw[aB];exact((Below.refl _ o).alloc (Nat.le_refl _) _).drew
  have nz:wz.heap[o.heap.size]?=some (.cells #[Je,Ji 0,Ji 0] 137 (0,0)):=by rw[aB];exact heap_alloc_new o _
  rw[<- aB]
  obtain⟨g,ap⟩:=JF o.heap.size
  rw[ap]at nz bz ⊢
  obtain⟨t,bC,sc⟩:=sc3 nz (str x.name) (Ji l) (Ji (-1))
  obtain⟨aF,bk,bl,zf⟩:=cl3 nz
  have S:=sc.below bz (Nat.le_refl _)
  have T:=sc.box
  have H4:=hide (Ya S (Ya T ap))
  have bF:=hide bC
  clear aB nz bC sc bd ap T
  refine Qal rfl bz (fun K b=>?_)
  clear bz S
  go_simp
  refine b _ _ ?_
  clear b K aF bk bl zf
  rw[<- Qa bF]
  refine Qbc (Qa H4).1 (Q _ _ ?_)
  clear Q PP
  obtain⟨S,T,ap⟩:=Qa H4
  obtain⟨ay,I,G,B,ai,M,s3⟩:=Qa H3
  have aQ:=(S.block tb (by have:=Qaa B;omega)).trans B
  obtain⟨cv,cw,cx,cy,tf⟩:=cl4 aQ
  have H:Below o.heap.size o t:=S.mono (Nat.le_of_eq ap)
  have aR:=I.later H
  have ah:t.ownsRow (n1+1) 137 3 sl (3+j) (kdC p (3+j)):=Qjo G (fun q e=>H.block q (World.ownsRow.lt G q e.symm).2)
  have bx:g≠c.cb:=by have:=Qaa I.box;omega
  have af:∀q,some q=sl.ownBlock->q<g:=fun q e=>by
   have:=(World.ownsRow.lt G q e.symm).2
   omega
  have aI:=ay.trans (H.mono (by omega))
  have aq:n1<=t.heap.size:=by have:=S.size;omega
  by_cases ag:x.sub=[]
  ·
   have g5:List.isEmpty x.sub=true:=by rw[ag];rfl
   obtain⟨r,R⟩:=JE (t.setCell (Ja g 2) (Ji (3+(j:Int))))
   have bG:=hide R
   have al:Below o.heap.size o r:=by
    refine⟨by rw[R];exact H.os,by rw[R];exact H.tape,by rw[R];exact H.output,by rw[R];simp;exact H.size,fun q hq=>?_⟩
    rw[R]
    exact(hpS (show q≠g by omega)).trans (H.block q hq)
   obtain⟨bI,bJ,bK,ff⟩:=cl3 T
   have z:r.heap[g]?=some (.cells #[str x.name,Ji l,Ji (3+(j:Int))] 137 (0,0)):=by rw[R];exact(Qah T 2 _).trans rfl
   have N:=I.later al
   have Z:r.ownsRow (n1+1) 137 3 sl (3+j) (kdC p (3+j)):=Qjo G (fun q e=>al.block q (World.ownsRow.lt G q e.symm).2)
   have am:=ay.trans (al.mono (by omega))
   have ac:n1<=r.heap.size:=by have:=al.size;omega
   have a5:r.drew.ownsRow (n1+1) 137 3 sl (3+j) (kdC p (3+j)):=Z
   have an:∀q,some q=sl.ownBlock->q<g:=af
   clear S T ay I G B ai M s3 aQ H aR ah aI aq af R al
   obtain⟨kb,kc,rfl,az,aJ⟩:=KRow.of_own (by omega) Z
   obtain⟨a9,aa,ab⟩:=Qpi (Qa H3).2.2.2.2.1
   obtain⟨E,F,D,A,ad,a8,a6,av,ae,b7⟩:=(N.later (Below.refl _ r).drew).more (n:=3+j) a5 (by omega) a9 ((congrArg Nat.cast aa).trans (Qa bn)) (show kInit p (3+j)=3+(j:Int) from by rw[ab,if_pos ag];omega)
   obtain⟨aS,aT,aU,aV,aW,aw,aX,aY,aZ,qf⟩:=cl9 N.box
   obtain⟨b0,b2,b5,b6,b8,C,b9,ba,bb,P⟩:=cl9 a8
   have y:A.heap[g]?=some (.cells #[str x.name,Ji l,Ji (3+(j:Int))] 137 (0,0)):=(a6 g (Qaa z) (fun e=>by
    have:g=kb:=Option.some.inj e
    have:=an kb rfl
    omega)).trans z
   have ak:=hide (show(r.drew.cell? (Ja c.cb 5)=some (.slice (Js kb) (3+j) kc))/\r.drew.heap[g]?=some (.cells #[str x.name,Ji l,Ji (3+(j:Int))] 137 (0,0)) from ⟨aw,z⟩)
   have aj:=hide (show((r.alloc (.cells #[str x.name,Ji l,Ji (3+(j:Int))] 137)).drew.cell? (Ja c.cb 5)=some (.slice (Js kb) (3+j) kc))/\(r.alloc (.cells #[str x.name,Ji l,Ji (3+(j:Int))] 137)).drew.heap[g]?=some (.cells #[str x.name,Ji l,Ji (3+(j:Int))] 137 (0,0)) from
    ⟨(cl9 (N.later (((Below.refl _ r).alloc (Nat.le_refl _) _).drew)).box).2.2.2.2.2.1,(Below.heap_alloc _ _ _ (Qaa z)).trans z⟩)
   have J:(Builtin.append_ #[127,127] 127 #[.slice (Js kb) (3+j) kc,.slice (Js r.heap.size) 1 1]).run Tryz.prog (r.alloc (.cells #[str x.name,Ji l,Ji (3+(j:Int))] 137)).drew = .ok (.slice E F D) A:=ad
   have L:(A.setCell (Ja c.cb 5) (.slice E F D)).heap[g]?=some (.cells #[str x.name,Ji l,Ji (3+(j:Int))] 137 (0,0)):=(hpS bx).trans y
   have HE:=hide (show ∃sl,Nc n0 n1 p c sl (tyRow p.types) (dcRow p.decls) (ctRow p.types) (A.setCell (Ja c.cb 5) (.slice E F D))/\(A.setCell (Ja c.cb 5) (.slice E F D)).ownsRow (n1+1) 137 3 sl (3+(j+1)) (kdC p (3+(j+1)))/\Below n1 w (A.setCell (Ja c.cb 5) (.slice E F D)) from ⟨_,av,ae,am.trans ((((Below.refl _ r).drew).mono ac).trans b7)⟩)
   have W:=hide (Ya J (Ya y (Ya L (Ya C P))))
   obtain⟨aN,aO,aP,mf⟩:=cl3 z
   clear aS aT aU aV aW aX aY aZ b0 b2 b5 b6 b8 C b9 ba bb P ad J a8 a6 av ae b7 a9 aa ab aJ Z a5 N am ac y L
   go_wp2_with fail
   rw[<- Qa bG]
   clear bI bJ bK ff
   refine Qaq (m:=10) (ml:=[(0,1),(1,1),(2,1),(3,1),(4,2),(5,1),(6,0),(7,0),(8,1),(9,1),(10,0)]) (fun f w'=>(f=false->w'.cell? (Ja c.cb 5)=some (.slice (Js kb) (3+j) kc))/\w'.heap[g]?=some (.cells #[str x.name,Ji l,Ji (3+(j:Int))] 137 (0,0))) mixedO (by kernel_rfl) rfl (by rfl) (by kernel_rfl) (fun PP Q=>?_)
   clear aN aO aP mf aw qf
   iterate 4 (refine mF (v:=?_) (fun f w' hw=>?_) ?_;rotate_left;· (go_simp<;>rfl))
   refine Qax (v:=?_) rfl (by kernel_rfl) (fun w' hw=>?_) ?_
   rotate_left
   ·(have bY:=hw.1 rfl;go_simp<;>rfl)
   iterate 1 (refine mF (v:=?_) (fun f w' hw=>?_) ?_;rotate_left;· (obtain⟨bU,bV,bX,lf⟩:=cl3 hw.2;go_simp<;>rfl))
   refine Qab rfl ⟨fun _=>(Qa ak).1,(Qa ak).2⟩ (fun K b=>?_)
   go_simp
   refine b _ _ ?_
   clear b K
   refine Qab rfl ⟨fun _=>(Qa aj).1,(Qa aj).2⟩ (fun K b=>?_)
   refine Qaj rfl _ _ 127 rfl (.slice (Js kb) (3+j) kc) (.slice (Js r.heap.size) 1 1) (by kernel_rfl) (by kernel_rfl) (Qa W).1 ?_
   refine b _ _ ?_
   clear b K
   iterate 2 (refine mF (v:=?_) (fun f w' hw=>?_) ?_;rotate_left;· (go_simp<;>rfl))
   obtain⟨J,y,L,C,P⟩:=Qa W
   refine Qab rfl ⟨fun _=>C,y⟩ (fun K b=>?_)
   clear J y L
   go_simp
   refine b _ _ ?_
   clear b K
   refine Qat ⟨fun e=>(by cases e),(Qa W).2.2.1⟩ (Q _ _ ?_)
   clear Q PP C P
   go_wp2_with fail
   go_roundw
   case rel=>exact⟨j+1,by congr 1,by omega,HE⟩
   case measure=>simp[intOf];omega
  have g5:List.isEmpty x.sub=false:=by
   cases hq:x.sub with
   |nil=>exact absurd hq ag
   |cons _ _=>rfl
  have z:=T
  have N:=aR
  have Z:=ah
  have am:=aI
  have ac:=aq
  have a5:t.drew.ownsRow (n1+1) 137 3 sl (3+j) (kdC p (3+j)):=ah
  have an:∀q,some q=sl.ownBlock->q<g:=af
  clear S T ay I G B ai M s3 aQ H aR ah aI aq af
  obtain⟨kb,kc,rfl,az,aJ⟩:=KRow.of_own (by omega) Z
  obtain⟨a9,aa,ab⟩:=Qpi (Qa H3).2.2.2.2.1
  obtain⟨E,F,D,A,ad,a8,a6,av,ae,b7⟩:=(N.later (Below.refl _ t).drew).more (n:=3+j) a5 (by omega) a9 ((congrArg Nat.cast aa).trans (Qa bn)) (show kInit p (3+j) = -1 from by rw[ab];rw[if_neg ag])
  obtain⟨aS,aT,aU,aV,aW,aw,aX,aY,aZ,qf⟩:=cl9 N.box
  obtain⟨b0,b2,b5,b6,b8,C,b9,ba,bb,P⟩:=cl9 a8
  have y:A.heap[g]?=some (.cells #[str x.name,Ji l,Ji (-1)] 137 (0,0)):=(a6 g (Qaa z) (fun e=>by
   have:g=kb:=Option.some.inj e
   have:=an kb rfl
   omega)).trans z
  have ak:=hide (show(t.drew.cell? (Ja c.cb 5)=some (.slice (Js kb) (3+j) kc))/\t.drew.heap[g]?=some (.cells #[str x.name,Ji l,Ji (-1)] 137 (0,0)) from ⟨aw,z⟩)
  have aj:=hide (show((t.alloc (.cells #[str x.name,Ji l,Ji (-1)] 137)).drew.cell? (Ja c.cb 5)=some (.slice (Js kb) (3+j) kc))/\(t.alloc (.cells #[str x.name,Ji l,Ji (-1)] 137)).drew.heap[g]?=some (.cells #[str x.name,Ji l,Ji (-1)] 137 (0,0)) from
   ⟨(cl9 (N.later (((Below.refl _ t).alloc (Nat.le_refl _) _).drew)).box).2.2.2.2.2.1,(Below.heap_alloc _ _ _ (Qaa z)).trans z⟩)
  have J:(Builtin.append_ #[127,127] 127 #[.slice (Js kb) (3+j) kc,.slice (Js t.heap.size) 1 1]).run Tryz.prog (t.alloc (.cells #[str x.name,Ji l,Ji (-1)] 137)).drew = .ok (.slice E F D) A:=ad
  have L:(A.setCell (Ja c.cb 5) (.slice E F D)).heap[g]?=some (.cells #[str x.name,Ji l,Ji (-1)] 137 (0,0)):=(hpS bx).trans y
  have HE:=hide (show ∃sl,Nc n0 n1 p c sl (tyRow p.types) (dcRow p.decls) (ctRow p.types) (A.setCell (Ja c.cb 5) (.slice E F D))/\(A.setCell (Ja c.cb 5) (.slice E F D)).ownsRow (n1+1) 137 3 sl (3+(j+1)) (kdC p (3+(j+1)))/\Below n1 w (A.setCell (Ja c.cb 5) (.slice E F D)) from ⟨_,av,ae,am.trans ((((Below.refl _ t).drew).mono ac).trans b7)⟩)
  have W:=hide (Ya J (Ya y (Ya L (Ya C P))))
  obtain⟨aN,aO,aP,mf⟩:=cl3 z
  clear aS aT aU aV aW aX aY aZ b0 b2 b5 b6 b8 C b9 ba bb P ad J a8 a6 av ae b7 a9 aa ab aJ Z a5 N am ac y L
  go_wp2_with fail
  refine Qaq (m:=10) (ml:=[(0,1),(1,1),(2,1),(3,1),(4,2),(5,1),(6,0),(7,0),(8,1),(9,1),(10,0)]) (fun f w'=>(f=false->w'.cell? (Ja c.cb 5)=some (.slice (Js kb) (3+j) kc))/\w'.heap[g]?=some (.cells #[str x.name,Ji l,Ji (-1)] 137 (0,0))) mixedO (by kernel_rfl) rfl (by rfl) (by kernel_rfl) (fun PP Q=>?_)
  clear aN aO aP mf aw qf
  iterate 4 (refine mF (v:=?_) (fun f w' hw=>?_) ?_;rotate_left;· (go_simp<;>rfl))
  refine Qax (v:=?_) rfl (by kernel_rfl) (fun w' hw=>?_) ?_
  rotate_left
  ·(have bY:=hw.1 rfl;go_simp<;>rfl)
  iterate 1 (refine mF (v:=?_) (fun f w' hw=>?_) ?_;rotate_left;· (obtain⟨bU,bV,bX,lf⟩:=cl3 hw.2;go_simp<;>rfl))
  refine Qab rfl ⟨fun _=>(Qa ak).1,(Qa ak).2⟩ (fun K b=>?_)
  go_simp
  refine b _ _ ?_
  clear b K
  refine Qab rfl ⟨fun _=>(Qa aj).1,(Qa aj).2⟩ (fun K b=>?_)
  refine Qaj rfl _ _ 127 rfl (.slice (Js kb) (3+j) kc) (.slice (Js t.heap.size) 1 1) (by kernel_rfl) (by kernel_rfl) (Qa W).1 ?_
  refine b _ _ ?_
  clear b K
  iterate 2 (refine mF (v:=?_) (fun f w' hw=>?_) ?_;rotate_left;· (go_simp<;>rfl))
  obtain⟨J,y,L,C,P⟩:=Qa W
  refine Qab rfl ⟨fun _=>C,y⟩ (fun K b=>?_)
  clear J y L
  go_simp
  refine b _ _ ?_
  clear b K
  refine Qat ⟨fun e=>(by cases e),(Qa W).2.2.1⟩ (Q _ _ ?_)
  clear Q PP C P
  go_wp2_with fail
  go_roundw
  case rel=>exact⟨j+1,by congr 1,by omega,HE⟩
  case measure=>simp[intOf];omega
 have bQ:j=k0:=by omega
 subst bQ
 obtain⟨sl,O,row,bw⟩:=Qa HI
 rw[(Qa V).2]at row
 obtain⟨kb,kc,rfl,s,az⟩:=O.ct row
 obtain⟨aD,bc,be,bf,bg,aE,bh,bi,bj,xf⟩:=cl9 O.box
 rw[<- (Qa V).2]at aE
 have bM:=s.row.cm
 have bL:=s.row.le
 unfold maxLen at bM
 rw[<- (Qa V).2]at bL
 have H5:=hide (show ∃u,Ct n0 p { c with kb:=kb,kc:=kc } u wr/\StB p [] u/\(∀k,k<0->u k ≠ -1)/\Below n1 w wr from ⟨_,s,Qtf p,fun k hk=>absurd hk (Nat.not_lt_zero _),bw⟩)
 have M:=Nat.le_of_lt (Qaa O.par)
 have HK:=hide (Ya az M)
 clear O row bw s az M aD bc be bf bg bh bi bj
 go_wp2_with fail
 clear aE xf
 go_loopw [56] (fun v wq=>∃i:Nat,v = Ji (i:Int)/\i<=3+j/\Hid (∃u,Ct n0 p { c with kb:=kb,kc:=kc } u wq/\StB p [] u/\(∀k,k<i->u k ≠ -1)/\Below n1 w wq)) (fun v _=>3+j - (intOf v).toNat)
 case atStart=>exact⟨0,rfl,Nat.zero_le _,H5⟩
 obtain⟨i,rfl,hi,HJ⟩:=hrel
 by_cases cl:i<3+j
 ·
  obtain⟨u,s,aA,U,Y⟩:=Qa HJ
  have bu:=(Qa V).2
  have a7:=Qno (p.types.length+3) (List.range (p.types.length+3)) [] u wr i (by simp) (fun k hk _=>List.mem_range.2 hk) s aA (fun v hv=>by cases hv) (by omega)
  dsimp only at a7
  obtain⟨kv,aK⟩:=JF (kBase p i)
  have ao:kv ≠ -1:=by rw[<- aK];exact Qfj p i
  rw[aK]at a7
  have HB:=hide (Ya U (Ya Y (Ya ao (Nat.le_trans (Nat.le_of_lt (Qa HK).1) (Nat.le_of_lt s.row.lt)))))
  clear s aA U Y bu aK ao
  go_wp2_with fail
  refine a7.mono ?_
  clear a7
  rintro en r⟨rfl,bD,bH,aG,aH,bt,bA⟩
  obtain⟨U,Y,ao,bB⟩:=Qa HB
  have H6:=hide (show ∃u,Ct n0 p { c with kb:=kb,kc:=kc } u r/\StB p [] u/\(∀k,k<i+1->u k ≠ -1)/\Below n1 w r from by
   refine⟨bH,aG,aH,fun k hk e=>?_,Y.trans (Kp.below bD bB (Nat.le_of_lt (Qa HK).1))⟩
   by_cases e2:k=i
   ·
    rw[e2,bt]at e
    exact ao e
   ·exact U k (by omega) (bA k e))
  clear bD aG aH bt bA U Y ao bB
  go_wp2_with fail
  go_roundw
  case rel=>exact⟨i+1,by congr 1,by omega,H6⟩
  case measure=>simp[intOf];omega
 have bP:i=3+j:=by omega
 subst bP
 have HE:=hide (show ∃kb kc,Below n1 w wr/\Cs n0 p { c with kb:=kb,kc:=kc } wr from by
  obtain⟨u,s,aA,U,Y⟩:=Qa HJ
  refine⟨kb,kc,Y,s.box,s.prg,s.row.congr (fun k hk=>?_),s.mt,s.md,s.mc,s.l0⟩
  have bu:=(Qa V).2
  rcases aA k hk with e|⟨e,_⟩|⟨_,e⟩
  ·exact e
  ·exact absurd e (U k (by omega))
  ·cases e)
 go_wp2_with fail
 go_end0
 obtain⟨bS,bT,h1,h2⟩:=Qa HE
 exact⟨rfl,h1,bS,bT,h2⟩
section
variable {n0:Nat}{p:Pg}{w:World}{a0 a1 a2 a3 a4:Option Addr}{k0 k1 k2 k3 k4 c0 c1 c2 c3 c4:Nat}
theorem Qhs(hn0:n0<=w.heap.size)(hP:PgS (fun b=>b<n0) w [.slice a0 k0 c0,.slice a1 k1 c1,.slice a2 k2 c2,.slice a3 k3 c3,.slice a4 k4 c4] p)(hts:p.types.length<=1000000000):
  Calls Tryz.prog 30 #[.agg #[.slice a0 k0 c0,.slice a1 k1 c1,.slice a2 k2 c2,.slice a3 k3 c3,.slice a4 k4 c4]] w fun en w'=>∃c,en = .returned (.pointer (Js c.cb))/\Cs n0 p c w'/\Below w.heap.size w w':=
 Qnk hn0 hP hts (Qj hts)
theorem Qqz(hn0:n0<=w.heap.size)(hP:PgS (fun b=>b<n0) w [.slice a0 k0 c0,.slice a1 k1 c1,.slice a2 k2 c2,.slice a3 k3 c3,.slice a4 k4 c4] p)(hts:p.types.length<=1000000000)(t:Txt):
  Calls Tryz.prog 17 #[.agg #[.slice a0 k0 c0,.slice a1 k1 c1,.slice a2 k2 c2,.slice a3 k3 c3,.slice a4 k4 c4],str t] w fun en w'=>en = .returned (bsV (baseP p t))/\Below w.heap.size w w':=by
 obtain⟨F,d⟩:=JE (w.alloc (.cells #[.slice a0 k0 c0,.slice a1 k1 c1,.slice a2 k2 c2,.slice a3 k3 c3,.slice a4 k4 c4] 28))
 have a:=bnw d
 have m:=nnw d
 have g:=Qhs (n0:=n0) (by have:=a.size;omega) (Qak.same _ _ _ _ _ hP a.size (fun q _ B=>a.block q B)) hts
 obtain⟨r,u,x,y,z,E⟩:=cl5 m
 have o:=hide d
 have i:=hide a
 obtain⟨C,D,e⟩:∃(s:Txt) (b:Bool),bsV (baseP p t) = .tuple #[str s,.bool b]:=by cases baseP p t<;>exact⟨_,_,rfl⟩
 rw[e]
 have n:=hide e
 clear d a m hP hts hn0 e
 go_enter Tryz.func17,Tryz.ntmps17
 go_upto_region 1 with fail
 rw[<- Qa o]
 go_wp2_with fail
 refine g.mono ?_
 clear g r u x y z E
 rintro en G⟨c,rfl,l,j⟩
 have f:=Qfg l t
 rw[Qa n]at f
 have h:=hide ((Qa i).trans (j.mono (Qa i).size))
 clear l j
 go_wp2_with fail
 refine f.mono ?_
 clear f
 rintro en H⟨rfl,k⟩
 have A:=hide ((Qa h).trans (k.mono (Qa h).size))
 clear k
 go_wp2_with fail
 refine bodyPost_ret (v:=.tuple #[str C,.bool D]) (by simp[results,Tryz.results17,go_sem]) rfl ?_
 exact⟨rfl,Qa A⟩
theorem Qhl(hn0:n0<=w.heap.size)(hP:PgS (fun b=>b<n0) w [.slice a0 k0 c0,.slice a1 k1 c1,.slice a2 k2 c2,.slice a3 k3 c3,.slice a4 k4 c4] p)(hts:p.types.length<=1000000000)(s t:Txt):
  Calls Tryz.prog 18 #[.agg #[.slice a0 k0 c0,.slice a1 k1 c1,.slice a2 k2 c2,.slice a3 k3 c3,.slice a4 k4 c4],str s,str t] w fun en w'=>en = .returned (.bool (belowP p s t))/\Below w.heap.size w w':=by
 obtain⟨C,d⟩:=JE (w.alloc (.cells #[.slice a0 k0 c0,.slice a1 k1 c1,.slice a2 k2 c2,.slice a3 k3 c3,.slice a4 k4 c4] 28))
 have a:=bnw d
 have m:=nnw d
 have g:=Qhs (n0:=n0) (by have:=a.size;omega) (Qak.same _ _ _ _ _ hP a.size (fun q _ A=>a.block q A)) hts
 obtain⟨r,u,v,x,y,B⟩:=cl5 m
 have o:=hide d
 have i:=hide a
 obtain⟨bv,e⟩:=JF (belowP p s t)
 rw[e]
 have n:=hide e
 clear d a m hP hts hn0 e
 go_enter Tryz.func18,Tryz.ntmps18
 go_upto_region 1 with fail
 rw[<- Qa o]
 go_wp2_with fail
 refine g.mono ?_
 clear g r u v x y B
 rintro en D⟨c,rfl,l,j⟩
 have f:=Qek l s t
 rw[Qa n]at f
 have h:=hide ((Qa i).trans (j.mono (Qa i).size))
 clear l j
 go_wp2_with fail
 refine f.mono ?_
 clear f
 rintro en E⟨rfl,k⟩
 have z:=hide ((Qa h).trans (k.mono (Qa h).size))
 clear k
 go_wp2_with fail
 go_ret
 exact⟨rfl,Qa z⟩
end
theorem Qff{α : Type}{f:α -> Bool}{xs:List α}{i:Nat}{x:α}(h:xs[i]?=some x)(h0:(xs.take i).any f=false):(xs.take (i+1)).any f=f x:=by
 rw[List.take_add_one,h,List.any_append,h0]
 simp
section
variable {n0:Nat}{p:Pg}{c:CatP}{w:World}
theorem Qhd(h:Cs n0 p c w)(fs:List Fld){a:Option Addr}{n cp:Nat}(hL:LsAt PF 2 (fun b=>b<n0) w (.slice a n cp) fs):
  Calls Tryz.prog 76 #[.pointer (Js c.cb),.slice a n cp] w fun en w'=>en = .returned (.bool (noneP p fs))/\Below w.heap.size w w':=by
 have M:=hL.cap rfl
 have k:n=fs.length:=by obtain⟨_,_,e⟩:=hL.sl;cases e;rfl
 have A:=hide (Ya h (Ya hL k))
 clear h hL k
 go_enter Tryz.func76,Tryz.ntmps76
 go_wp2_with fail
 go_loopw [9] (fun v wr=>∃i:Nat,v = Ji (i:Int)/\i<=n/\Hid (Below w.heap.size w wr/\((fs.take i).any fun f=>decide (tyNo p f.type=0))=false)) (fun v _=>n - (intOf v).toNat)
 case atStart=>exact⟨0,rfl,Nat.zero_le _,hide ⟨Below.refl _ _,rfl⟩⟩
 obtain⟨i,rfl,Q,B⟩:=hrel
 by_cases N:i<n
 ·
  obtain⟨h,hL,k⟩:=Qa A
  obtain⟨g,l⟩:=Qa B
  obtain⟨f,j⟩:∃f,fs[i]?=some f:=⟨fs[i]'(by omega),List.getElem?_eq_getElem _⟩
  obtain⟨E,cap,J,D,H,K,_,G,x⟩:=(hL.later Qbb g).elem j
  have F:J=[str f.name,str f.type]:=G
  subst F
  simp only[Value.slice.injEq]at D
  obtain⟨rfl,-,-⟩:=D
  have T:wr.cell? (Ja E (i*2))=some (str f.name):=x 0 _ rfl
  have U:wr.cell? (Ja E (i*2+1))=some (str f.type):=x 1 _ rfl
  obtain⟨S,q⟩:=JE (wr.alloc (.cells #[str f.name,str f.type] 67))
  have C:=bnw q
  have z:=nnw q
  obtain⟨R,t⟩:=JF wr.heap.size
  rw[t]at z
  have m:=g.trans (C.mono g.size)
  have d:=Qjz (Ct.later h m) f.type
  obtain⟨O,P,V⟩:=cl2 z
  have s:=Qff j l
  have o:=hide (Ya q t)
  have u:=hide (Ya m (Ya s (Ya j k)))
  clear h hL k g l j H K x q C z t m s
  by_cases r:tyNo p f.type=0
  ·
   have y:decide (tyNo p f.type≠0)=false:=by simp[r]
   rw[y]at d
   go_upto_region 4 with fail
   rw[<- (Qa o).1,(Qa o).2]
   go_wp2_with fail
   refine d.mono ?_
   clear d
   rintro en L⟨rfl,rfl⟩
   go_wp2_with fail
   go_ret
   obtain⟨m,s,j,k⟩:=Qa u
   refine⟨?_,m⟩
   have:noneP p fs=true:=by
    unfold noneP
    rw[List.any_eq_true]
    exact⟨f,List.mem_of_getElem? j,by simp[r]⟩
   rw[this]
   rfl
  have y:decide (tyNo p f.type≠0)=true:=by simp[r]
  rw[y]at d
  go_upto_region 4 with fail
  rw[<- (Qa o).1,(Qa o).2]
  go_wp2_with fail
  refine d.mono ?_
  clear d
  rintro en L⟨rfl,rfl⟩
  go_wp2_with fail
  go_roundw
  case rel=>exact⟨i+1,by congr 1,by omega,hide ⟨(Qa u).1,(Qa u).2.1.trans (by simp[r])⟩⟩
  case measure=>simp[intOf];omega
 have I:i=n:=by omega
 subst I
 go_wp2_with fail
 go_ret
 obtain⟨g,l⟩:=Qa B
 rw[(Qa A).2.2,List.take_length]at l
 refine⟨?_,g⟩
 unfold noneP
 rw[l]
 rfl
theorem Qgt(h:Cs n0 p c w)(xs:List Ctr){a:Option Addr}{n cp:Nat}(hL:LsAt PC 2 (fun b=>b<n0) w (.slice a n cp) xs):
  Calls Tryz.prog 74 #[.pointer (Js c.cb),.slice a n cp] w fun en w'=>en = .returned (.bool (xs.any fun c=>noneP p c.fields))/\Below w.heap.size w w':=by
 have Q:=hL.cap rfl
 have l:n=xs.length:=by obtain⟨_,_,e⟩:=hL.sl;cases e;rfl
 have D:=hide (Ya h (Ya hL l))
 clear h hL l
 go_enter Tryz.func74,Tryz.ntmps74
 go_wp2_with fail
 go_loopw [9] (fun v wr=>∃i:Nat,v = Ji (i:Int)/\i<=n/\Hid (Below w.heap.size w wr/\((xs.take i).any fun c=>noneP p c.fields)=false)) (fun v _=>n - (intOf v).toNat)
 case atStart=>exact⟨0,rfl,Nat.zero_le _,hide ⟨Below.refl _ _,rfl⟩⟩
 obtain⟨i,rfl,V,E⟩:=hrel
 by_cases R:i<n
 ·
  obtain⟨h,hL,l⟩:=Qa D
  obtain⟨j,m⟩:=Qa E
  obtain⟨f,k⟩:∃f,xs[i]?=some f:=⟨xs[i]'(by omega),List.getElem?_eq_getElem _⟩
  obtain⟨G,cap,U,F,M,O,_,L,z⟩:=(hL.later Qci j).elem k
  obtain⟨I,K,J,rfl,H⟩:=L
  simp only[Value.slice.injEq]at F
  obtain⟨rfl,-,-⟩:=F
  have Y:wr.cell? (Ja G (i*2))=some (str f.name):=z 0 _ rfl
  have Z:wr.cell? (Ja G (i*2+1))=some (.slice I K J):=z 1 _ rfl
  obtain⟨X,r⟩:=JE (wr.alloc (.cells #[str f.name,.slice I K J] 97))
  have y:=bnw r
  have B:=nnw r
  obtain⟨W,u⟩:=JF wr.heap.size
  rw[u]at B
  have d:=j.trans (y.mono j.size)
  have g:=Qhd (Ct.later h d) f.fields (H.later Qbb y)
  obtain⟨S,T,zf⟩:=cl2 B
  have t:=Qff k m
  have q:=hide (Ya r u)
  have s:=hide (Ya d (Ya t (Ya k l)))
  clear h hL l j m k M O z H r y B u d t
  by_cases A:noneP p f.fields=true
  ·
   rw[A]at g
   go_upto_region 4 with fail
   rw[<- (Qa q).1,(Qa q).2]
   go_wp2_with fail
   refine g.mono ?_
   clear g
   rintro en P⟨rfl,o⟩
   have x:=hide o
   clear o
   go_wp2_with fail
   go_ret
   obtain⟨d,t,k,l⟩:=Qa s
   refine⟨?_,d.trans ((Qa x).mono d.size)⟩
   have:(xs.any fun c=>noneP p c.fields)=true:=by
    rw[List.any_eq_true]
    exact⟨f,List.mem_of_getElem? k,A⟩
   rw[this]
   rfl
  have C:noneP p f.fields=false:=by simpa using A
  rw[C]at g
  go_upto_region 4 with fail
  rw[<- (Qa q).1,(Qa q).2]
  go_wp2_with fail
  refine g.mono ?_
  clear g
  rintro en P⟨rfl,o⟩
  have x:=hide o
  clear o
  go_wp2_with fail
  go_roundw
  case rel=>exact⟨i+1,by congr 1,by omega,hide ⟨(Qa s).1.trans ((Qa x).mono (Qa s).1.size),(Qa s).2.1.trans C⟩⟩
  case measure=>simp[intOf];omega
 have N:i=n:=by omega
 subst N
 go_wp2_with fail
 go_ret
 obtain⟨j,m⟩:=Qa E
 rw[(Qa D).2.2,List.take_length]at m
 refine⟨?_,j⟩
 rw[m]
 rfl
end
end
end Go.Proofs.YtmfpbepifnedjaaGreat
