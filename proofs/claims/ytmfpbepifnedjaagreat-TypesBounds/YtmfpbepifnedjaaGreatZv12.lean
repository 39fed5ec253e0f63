/- The document's reader. -/
import Derived.Test.YtmfpbepifnedjaaGreatZv01
import Derived.Test.YtmfpbepifnedjaaGreatZv11
import Derived.Test.YtmfpbepifnedjaaGreatZv05
import Derived.Test.YtmfpbepifnedjaaGreatZv02
set_option maxRecDepth 100000
set_option maxHeartbeats 32000000
namespace Go.Proofs.YtmfpbepifnedjaaGreat
section
open Go.RowKit Go.Maps
theorem Qre{rb g cap d:Nat}{l:List Tok}(hd:d<=63):ExC 108 rb g cap l d #[.pointer (Js rb)]:=(Qrg (fun _ _ b c=>qone_of b c) (63 - d) d (by omega)).1
theorem Qbx{rb g cap a d i:Nat}{l:List Tok}{w:World}{y f:Int}(h:Rr rb g cap l w a d i y f){t:Tok}(ht:l[min (a+1) (l.length - 1)]?=some t):
  Calls Tryz.prog 91 #[.pointer (Js rb)] w fun en w'=>en = .returned (tkA t)/\Below w.heap.size w w':=by
 obtain⟨W,s⟩:=JE ((w.alloc tokZ).drew);have m:Below w.heap.size w W:=by rw[s];exact((Below.refl _ w).alloc (Nat.le_refl _) _).drew
 have z:W.heap[w.heap.size]?=some tokZ:=by rw[s];exact heap_alloc_new w _
 have a0:=h.lt;have Z:=h.few;have X:=h.row.le;have Y:=h.row.cm;unfold maxLen at Y;obtain⟨n,x⟩:=JF l.length;rw[x]at a0 Z X;obtain⟨j,B⟩:=JF (min (a+1) (n - 1));rw[x,B]at ht;have a8:min ((a:Int)+1) ((n:Int) - 1)=(j:Int):=by omega
 have a7:j<n:=by omega
 have P:Hid (∀w',Below w.heap.size w w'->w'.heap[rb]?=some (.cells #[.slice (Js g) n cap,Ji (a:Int),Ji (d:Int),Ji (i:Int),Ji y,Ji f] 75 (0,0))/\(∀q c,([Ji t.kind,str t.text,Ji t.num,Ji (t.at_:Int)]:List Value)[q]?=some c->w'.cell? (Ja g (j*4+q))=some c)):=fun w' bb=>by
  have R:=h.later bb;refine⟨by have:=R.box;rw[x]at this;exact this,fun q c e=>?_⟩;have u:=R.row.cells j t ht
  match q,e with
  | 0,e=>cases e;exact u.1
  | 1,e=>cases e;exact u.2.1
  | 2,e=>cases e;exact u.2.2.1
  | 3,e=>cases e;exact u.2.2.2
  |q+4,e=>simp at e
 obtain⟨V,r⟩:=JE (W.setRow w.heap.size #[Ji t.kind,str t.text,Ji t.num,Ji (t.at_:Int)]);have Q:Below w.heap.size w V:=by
  rw[r];exact⟨m.os,m.tape,m.output,by rw[size_setRow];exact m.size,fun k hk=>by rw[setRow_other _ _ _ _ (by omega)];exact m.block k hk⟩
 have S:V.heap[w.heap.size]?=some (.cells #[Ji t.kind,str t.text,Ji t.num,Ji (t.at_:Int)] 73 (0,0)):=by rw[r];exact setRow_heap _ _ _ _ _ _ z
 have HW:=hide s;have HV:=hide r;have o:=hide (Ya m (Ya z (Ya Q S)));clear s r m z Q S h ht x B;go_enter Tryz.func91,Tryz.ntmps91;go_wp2_with fail;have a1:=Qew (a+1) (by omega);rw[Int.natCast_add,Int.natCast_one]at a1;have a9:=Qgt n (by omega) (by omega);refine Qba (md:=[(0,true),(1,true),(2,true),(3,true),(4,true),(5,true),(6,true),(7,true),(8,true),(9,true),(10,true),(11,true),(12,true),(13,true),(14,true),(15,true),(16,true),(17,true),(18,false)]) (fun w'=>w'.heap[rb]?=some (.cells #[.slice (Js g) n cap,Ji (a:Int),Ji (d:Int),Ji (i:Int),Ji y,Ji f] 75 (0,0))/\(∀q c,([Ji t.kind,str t.text,Ji t.num,Ji (t.at_:Int)]:List Value)[q]?=some c->w'.cell? (Ja g (j*4+q))=some c)) mixedO (by kernel_rfl) rfl (by kernel_rfl) (fun PP A=>?_);rw[<- Qa HW]
 iterate 8 refine Qac rfl (by kernel_rfl) (fun w' hw=>by obtain⟨C,D,F,G,H,I,U⟩:=cl6 hw.1;obtain⟨J,L,N,O⟩:=cs4 hw.2;go_simp<;>rfl) ?_
 refine Qac (v:=Ji ((a:Int)+1)) rfl (by kernel_rfl) (fun w' hw=>by clear hw;go_simp) ?_
 iterate 5 refine Qac rfl (by kernel_rfl) (fun w' hw=>by obtain⟨C,D,F,G,H,I,U⟩:=cl6 hw.1;obtain⟨J,L,N,O⟩:=cs4 hw.2;go_simp<;>rfl) ?_
 refine Qac (v:=Ji ((n:Int) - 1)) rfl (by kernel_rfl) (fun w' hw=>by clear hw;go_simp) ?_;refine Qac (v:=Ji (j:Int)) rfl (by kernel_rfl) (fun w' hw=>by clear hw;go_simp) ?_
 iterate 2 refine Qac rfl (by kernel_rfl) (fun w' hw=>by obtain⟨C,D,F,G,H,I,U⟩:=cl6 hw.1;obtain⟨J,L,N,O⟩:=cs4 hw.2;go_simp<;>rfl) ?_
 refine Qiz (b:={ tmps:=#[.pointer (Js rb),undef,.pointer (Js w.heap.size),.pointer (Js rb),.pointer (Js rb),.pointer (Js rb),.slice (Js g) n cap,.pointer (Js rb),.pointer (Js rb),.pointer (some (Ja rb 1)),Ji (a:Int),Ji ((a:Int)+1),.pointer (Js rb),.pointer (Js rb),.pointer (Js rb),.slice (Js g) n cap,Ji (n:Int),Ji ((n:Int) - 1),Ji (j:Int),.pointer (some (Ja g (j*4))),tkA t],defers:=[] }) (by kernel_rfl) ?_;refine Qal rfl (Qa P _ (Qa o).1) (fun K hK=>?_);refine Qde rfl _ _ _ rfl w.heap.size _ _ #[Ji t.kind,str t.text,Ji t.num,Ji (t.at_:Int)] (by kernel_rfl) (by kernel_rfl) (Qa o).2.1 (by kernel_rfl) rfl (by simp[Value.oneCell',str]) ?_;refine hK _ _ ?_;clear hK K;rw[<- Qa HV];refine Qbc (Qa P _ (Qa o).2.2.1) (A _ _ ?_);clear A PP;simp[Act.put];obtain⟨a3,a4,a5,a6,zf⟩:=cl4 (Qa o).2.2.2;go_wp2_with fail;refine bodyPost_ret (v:=tkA t) (by simp[results,Tryz.results91,go_sem,a3,a4,a5,a6]) rfl ?_;exact⟨rfl,(Qa o).2.2.1⟩
def amV(rb a:Nat)(w:World)(w':World)(v:Value):Prop:=∃x:Atm,VAm (fun b=>w.heap.size<=b) w' v x/\szQ rb a (exQs x.args+1) w'/\x.rel.length<=65536
theorem Qgl{rb g cap a d i:Nat}{l:List Tok}{w:World}{y f:Int}(h:Rr rb g cap l w a d i y f)(hd:d<=63):
  Calls Tryz.prog 93 #[.pointer (Js rb)] w fun en w'=>RA rb g cap l w d (amV rb a w) (CoY a i y) en w':=by
 have z:Below w.heap.size w (w.alloc (.cells #[Je,Jn,Ji 0] 42)):=(Below.refl _ w).alloc (Nat.le_refl _) _;have F:(w.alloc (.cells #[Je,Jn,Ji 0] 42)).heap[w.heap.size]?=some (.cells #[Je,Jn,Ji 0] 42 (0,0)):=heap_alloc_new w _;have X:(w.alloc (.cells #[Je,Jn,Ji 0] 42)).heap.size=w.heap.size+1:=by simp
 obtain⟨t,ht⟩:=h.tok;have ac:Hid (∀w',Below w.heap.size w w'->Calls Tryz.prog 22 #[.pointer (Js rb)] w' fun en n=>en = .returned (.agg #[Ji t.kind,str t.text,Ji t.num,Ji (t.at_:Int)])/\Below w'.heap.size w' n):=fun w' bb=>Qap (h.later bb) ht;have HH:=hide h;have HE:=hide (Qre (rb:=rb) (g:=g) (cap:=cap) (l:=l) hd);have H0:=hide (Ya z (Ya F X));clear h ht z F X;go_enter Tryz.func93,Tryz.ntmps93;go_wp2_with fail;refine(Qa ac _ (Qa H0).1).mono ?_;rintro en w1⟨rfl,P⟩;obtain⟨z,F,X⟩:=Qa H0;have a1:=z.trans (P.mono (by omega));have G:=(P.block _ (by omega)).trans F;have a9:=Qdn ((Qa HH).later a1);have ag:=Qaa (Qa HH).box;have af:=(Qa HH).row.lt;have ah:=P.size;have K1:=hide (Ya (Kp.of_below (rb:=rb) a1) (Ya G (show rb<w.heap.size/\g<w.heap.size/\w.heap.size<w1.heap.size by omega)));clear P z F X a1 G ag af ah;go_wp2_with fail;rename_i hK;refine hK _ _ ?_;clear hK;go_wp2_with fail;refine a9.mono ?_;clear a9;rintro en n⟨_,a2,i2,y2,f2,rfl,⟨s,rfl,aa⟩,⟨A,L,o⟩,h2,S⟩;have ad:=hide aa;clear aa;rw[A]at h2;clear A;obtain⟨k1,G,g1,g2,g3⟩:=Qa K1;have ai:=S.size;have n2:=S.keep G (by omega);obtain⟨xb,N⟩:=JF n.heap.size;obtain⟨r,u⟩:=JE (n.alloc (.cells #[str s,Jn,Ji (t.at_:Int)] 42));have Q:Below n.heap.size n r:=by rw[u];exact(Below.refl _ n).alloc (Nat.le_refl _) _
 have H:r.heap[xb]?=some (.cells #[str s,Jn,Ji (t.at_:Int)] 42 (0,0)):=by rw[u,<- N];exact heap_alloc_new n _
 have Y:r.heap.size=xb+1:=by rw[u,<- N];simp
 have K:=(Q.block _ (by omega)).trans n2;have a6:=Qkc (h2.later Q) (Qa HE);have K3:=hide (Ya ((k1.trans S).trans (Kp.of_below Q)) (Ya H (Ya K (Ya (show rb<w.heap.size/\g<w.heap.size/\w.heap.size<xb by omega) (Ya Y (Ya L o))))));have a0:=hide (Ya u N);clear k1 G g1 g2 g3 ai n2 N u Q H Y K L o h2 S K1;go_wp2_with fail;rw[<- (Qa a0).1,(Qa a0).2];clear a0;refine a6.mono ?_;clear a6;rintro en w7⟨_,a7,i7,y7,f7,rfl,⟨m,a3,ab⟩,⟨A,ae,O⟩,R,B⟩;rw[A]at R;clear A;have SK:Hid (y7=0->exQs m+2*a2<=2*a7):=hide (fun e=>ab.at R e);clear ab;obtain⟨C,D,rfl⟩:=a3.sl;obtain⟨k3,H,K,⟨g1,g2,g3⟩,Y,L,o⟩:=Qa K3;have aj:=B.size;have n7:=B.keep H (by omega);have q7:=B.keep K (by omega);have a8:w.heap.size≠xb:=by omega
 obtain⟨c,x⟩:=JE (w7.setCell (Ja xb 1) (.slice C m.length D));have n8:c.heap[xb]?=some (.cells #[str s,.slice C m.length D,Ji (t.at_:Int)] 42 (0,0)):=by rw[x];exact(Qah n7 1 _).trans rfl
 have I:∀q,q≠xb->c.heap[q]?=w7.heap[q]?:=fun q hq=>by rw[x,hpS hq]
 have s8:c.heap.size=w7.heap.size:=by rw[x];simp
 have q8:=(I _ a8).trans q7;have k8:Kp rb w c:=by rw[x];exact(k3.trans B).set2 (by omega)
 have h8:=R.move (w':=c) (by omega) (I rb (by omega)) (I g (by omega));have a4:LsAt PE 5 (fun b=>r.heap.size<=b) c (.slice C m.length D) m:=a3.same Qaf (by omega) (fun b j hl=>I b (by have a5:r.heap.size<=b:=j;omega));have hC:CoY a i y a7 i y7:=⟨rfl,by omega,fun e=>⟨(o (O e).1).1,by have:=(o (O e).1).2;omega⟩⟩;have SB:=hide (show y7=0->exQs m+1+2*a<=2*a7 from fun e=>by have J:=Qa SK e;have:=(o (O e).1).2;omega);obtain⟨ak,an,al,xf⟩:=cl3 n7;obtain⟨z0,z1,z2,zf⟩:=cl3 n8;obtain⟨y0,y1,am,yf⟩:=cl3 q8;have HF:Hid (∀U J V,RA rb g cap l w d (amV rb a w) (CoY a i y) (.returned (.agg #[str s,.slice C m.length D,Ji (t.at_:Int)])) (((c.setCell (Ja w.heap.size 0) U).setCell (Ja w.heap.size 1) J).setCell (Ja w.heap.size 2) V)):=fun U J V=>by
  have Z:∀b,b≠w.heap.size->(((c.setCell (Ja w.heap.size 0) U).setCell (Ja w.heap.size 1) J).setCell (Ja w.heap.size 2) V).heap[b]?=c.heap[b]?:=fun b j=>by
   rw[hpS j,hpS j,hpS j]
  have H9:=h8.move (w':=(((c.setCell (Ja w.heap.size 0) U).setCell (Ja w.heap.size 1) J).setCell (Ja w.heap.size 2) V)) (by simp[World.setCell]) (Z rb (by omega)) (Z g (by omega));exact⟨_,_,_,_,_,rfl,⟨⟨s,m,t.at_⟩,⟨_,_,_,rfl,(a4.same Qaf (by simp[World.setCell]) (fun b j hl=>Z b (by have a5:r.heap.size<=b:=j;omega))).mono Qaf (fun b _ j=>by have a5:r.heap.size<=b:=j;omega)⟩,szQ.of H9 (Qa SB),Qa ad⟩,hC,H9,((k8.set2 (by omega)).set2 (by omega)).set2 (by omega)⟩
 clear R B a3 k3 H K g1 g2 g3 Y L o aj n7 q7 n8 I s8 q8 k8 h8 a4 hC ae O K3 ak al zf a8;subst x;go_wp2_with fail;refine bodyPost_ret (v:=.agg #[str s,.slice C m.length D,Ji t.at_]) (by simp[results,Tryz.results93,go_sem,y0,y1,am]) rfl ?_;exact Qa HF _ _ _
def Qo{α : Type}(p:PS α)(k:Nat)(T:TypeId)(base:Nat)(wr:World)(sl:Value)(acc:List α):Prop:=∃css,wr.ownsRow base T k sl acc.length css.flatten/\All p k (fun b=>base<=b/\some b≠sl.ownBlock) wr css acc
section
variable {α : Type}{p:PS α}{k:Nat}{T:TypeId}{base:Nat}
theorem Qo.nil(wr:World):Qo p k T base wr (Jn) []:=⟨[],World.ownsRow_nil _ _ _ _,⟨rfl,fun j x cs b=>by simp at b⟩⟩
theorem Qo.move(hp:PSok p){wr w':World}{sl:Value}{acc:List α}(h:Qo p k T base wr sl acc)(hs:wr.heap.size<=w'.heap.size)(hb:∀b,base<=b->b<wr.heap.size->w'.heap[b]?=wr.heap[b]?):Qo p k T base w' sl acc:=by
 obtain⟨m,j,r⟩:=h;refine⟨m,⟨j.1,?_⟩,r.same hp hs (fun b hs s=>hb b hs.1 s)⟩;rcases j.2 with e|⟨g,cap,n,o,c,f,q⟩
 ·exact .inl e
 ·exact .inr ⟨g,cap,n,o,c,(hb g c (Qaa f)).trans f,q⟩
theorem Qo.sl{wr:World}{sl:Value}{acc:List α}(h:Qo p k T base wr sl acc):∃a c,sl = .slice a acc.length c/\acc.length<=c/\c<=maxLen:=by
 obtain⟨n,m,_⟩:=h;rcases m.2 with ⟨e,b⟩|⟨g,cap,o,e,_,_,f,j,_⟩
 ·exact⟨none,0,by rw[e,b],by omega,by unfold maxLen;omega⟩
 ·exact⟨_,_,e,f,j⟩
theorem Qo.ls(hp:PSok p){wr:World}{sl:Value}{acc:List α}(h:Qo p k T base wr sl acc):LsAt p k (fun b=>base<=b) wr sl acc:=by
 obtain⟨j,e,c⟩:=h;exact LsAt.of e (c.mono hp (fun b _ f=>f.1))
theorem Qo.more(hp:PSok p){ST:TypeId}{i0:TypeInfo}{z:Value}{by_:Nat}(ht:Tryz.prog.underlying ST=some (.slice T))(hi:Tryz.prog.info? T=some i0)(hz:i0.zero=some z)(hsz:i0.size=k)(hby:i0.bytes=by_)(hzc:z.cells.size=k)(hk:0<k)(hb6:by_<=1000)
  {rb g cap a d i:Nat}{l:List Tok}{y f:Int}{wr w2:World}{sl:Value}{acc:List α}(h:Qo p k T base wr sl acc)(hbw:base<=wr.heap.size){x:α}{cs:List Value}
  (hl:cs.length=k)(h1:∀c∈cs,c.oneCell'=true)(hx:p (fun b=>wr.heap.size<=b) w2 cs x)(hR:Rr rb g cap l w2 a d i y f)(k2:Kp rb wr w2)(hrb:rb<base)(hg:g<base)(hf:acc.length<=65536):
  ∃r w8,(Builtin.append_ #[ST,ST] ST #[sl,.slice (Js w2.heap.size) 1 1]).run Tryz.prog (w2.alloc (.cells cs.toArray T)) = .ok r w8/\KB rb rb base wr w8/\w2.heap.size<=w8.heap.size/\Rr rb g cap l w8 a d i y f/\Qo p k T base w8 r (acc++[x]):=by
 obtain⟨s,F,V⟩:=h;have L:=k2.size;have q:∀b,some b=sl.ownBlock->base<=b/\b<wr.heap.size:=fun b e=>World.ownsRow.lt F b e.symm;have K:(w2.alloc (.cells cs.toArray T)).ownsRow base T k sl acc.length s.flatten:=by
  refine World.ownsRow.alloc ?_ _;refine⟨F.1,?_⟩;rcases F.2 with e|⟨g,cap,J,B,t,S,U⟩
  ·exact .inl e
  ·exact .inr ⟨g,cap,J,B,t,k2.keep S (by omega),U⟩
 obtain⟨r,w8,X,Y,v,_,R⟩:=run_append_own_at (P:=Tryz.prog) (w2.alloc (.cells cs.toArray T)) base ST ST T i0 z k by_ ht hi hz hsz hby hzc hk sl acc.length s.flatten K (Ja w2.heap.size 0) 1 1 cs (by rw[hl,Nat.one_mul]) (fun j u H=>by
  have B:((Ja w2.heap.size 0):Addr).add j=(Ja w2.heap.size j):=by cases j<;>simp[Addr.add]
  rw[B,Qad (heap_alloc_new w2 _)]
  simpa using H) h1 (by unfold maxLen;omega) (by
  have A:acc.length+1<=65537:=by omega
  have:=Nat.mul_le_mul A hb6
  omega) (by simp;omega)
 have a0:(w2.alloc (.cells cs.toArray T)).heap.size=w2.heap.size+1:=by simp
 have Z:=v.size;have o:∀b,b<w2.heap.size->some b≠sl.ownBlock->w8.heap[b]?=w2.heap[b]?:=fun b n D=>by
  rw[v.block b (by omega) D,Below.heap_alloc _ _ _ n]
 have O:KB rb rb base wr w8:=by
  have n:=(Below.refl w2.heap.size w2).alloc (Nat.le_refl _) (.cells cs.toArray T);refine⟨v.os.trans (n.os.trans k2.os),v.tape.trans (n.tape.trans k2.tape),v.output.trans (n.output.trans k2.output),by omega,fun j H D _=>?_⟩;rw[o j (by omega) (fun e=>by have:=(q j e).1;omega),k2.block j (by omega) D]
 have Q:Rr rb g cap l w8 a d i y f:=hR.move (by omega) (o rb (by omega) (fun e=>by have:=(q rb e).1;omega)) (o g (by omega) (fun e=>by have:=(q g e).1;omega));have G:∀b,some b=r.ownBlock->some b=sl.ownBlock∨w2.heap.size<b+1/\w2.heap.size+1<=b:=fun b e=>by
  rcases R with t|t
  ·exact .inl (e.trans t)
  rw[t]at e;simp only[Option.some.injEq]at e;exact .inr (by omega)
 refine⟨r,w8,X,O,by omega,Q,s++[cs],by rw[List.length_append];simpa using Y,?_⟩;have I:All p k (fun b=>base<=b/\some b≠r.ownBlock) w8 s acc:=by
  have C:All p k (fun b=>(base<=b/\some b≠sl.ownBlock)/\b<wr.heap.size) w2 s acc:=(V.mono hp (fun b n m=>⟨m,n⟩)).same hp L (fun b m n=>k2.block b n (by omega));have A:=C.same hp (w':=w8) (by omega) (fun b m n=>o b n m.1.2);refine A.mono hp (fun b _ m=>⟨m.1.1,fun e=>?_⟩);rcases G b e with e|e
  ·exact m.1.2 e
  have:=m.2;omega
 have N:p (fun b=>base<=b/\some b≠r.ownBlock) w8 cs x:=by
  have C:=hp.mono _ (fun b=>wr.heap.size<=b/\b<w2.heap.size) _ _ _ hx (fun b n m=>⟨m,n⟩);have A:=hp.same _ _ w8 _ _ C (by omega) (fun b m n=>o b n (fun e=>by have:=(q b e).2;have:=m.1;omega));refine hp.mono _ _ _ _ _ A (fun b _ m=>⟨by have:=m.1;omega,fun e=>?_⟩);rcases G b e with e|e
  ·
   have:=(q b e).2;have:=m.1;omega
  have:=m.2;omega
 exact I.snoc hl N
end
structure Bx(rb g:Nat)(w:World)(xb:Nat)(T:TypeId)(zs cs:Array Value)(W:World):Prop where
 kp:Kp rb w W
 box:W.heap[xb]?=some (.cells cs T (0,0))
 res:W.heap[w.heap.size]?=some (.cells zs T (0,0))
 r1:rb<w.heap.size
 g1:g<w.heap.size
 x1:w.heap.size<xb
section
variable {rb g:Nat}{w:World}{xb:Nat}{T:TypeId}{zs cs:Array Value}{W W':World}
theorem Bx.call(h:Bx rb g w xb T zs cs W)(k:Kp rb W W'):Bx rb g w xb T zs cs W':=
 ⟨h.kp.trans k,k.keep h.box (by have:=h.r1;have:=h.x1;omega),k.keep h.res (by have:=h.r1;omega),h.r1,h.g1,h.x1⟩
theorem Bx.set(h:Bx rb g w xb T zs cs W)(j:Nat)(v:Value):Bx rb g w xb T zs (cs.setIfInBounds j v) (W.setCell (Ja xb j) v):=
 ⟨h.kp.set2 (by have:=h.x1;omega),Qah h.box j v,(hpS (by have:=h.x1;show w.heap.size≠xb;omega)).trans h.res,h.r1,h.g1,h.x1⟩
theorem Rr.atBox{cap a d i:Nat}{l:List Tok}{y f:Int}(h:Rr rb g cap l W a d i y f)(hx:rb<xb/\g<xb)(j:Nat)(v:Value):Rr rb g cap l (W.setCell (Ja xb j) v) a d i y f:=
 h.move (by simp) (hpS (by show rb≠xb;omega)) (hpS (by show g≠xb;omega))
end
def EK(w:World)(xb:Nat)(E:World->Prop):Prop:=∀W W':World,W.heap.size<=W'.heap.size->(∀q,w.heap.size<q->q<xb->q<W.heap.size->W'.heap[q]?=W.heap[q]?)->E W->E W'
theorem EK.none(w:World)(xb:Nat):EK w xb (fun _=>True):=fun _ _ _ _ _=>trivial
structure Gx{α : Type}(p:PS α)(k:Nat)(TE:TypeId)(rb g cap:Nat)(l:List Tok)(w:World)(d i a:Nat)(y:Int)(xb:Nat)(T:TypeId)(zs:Array Value)(E:World->Prop)(W:World)(cs:Array Value)(aX:Nat)(yX fX:Int)(sl:Value)(acc:List α):Prop where
 r:Rr rb g cap l W aX d i yX fX
 b:Bx rb g w xb T zs cs W
 e:E W
 q:Qo p k TE (xb+1) W sl acc
 le:a<=aX
 y0:yX=0->y=0/\a<aX
 n:acc.length<=aX+1
 n0:yX=0->acc.length<=aX
section
variable {α : Type}{p:PS α}{k:Nat}{TE:TypeId}{rb g cap:Nat}{l:List Tok}{w:World}{d i a:Nat}{y:Int}{xb:Nat}{T:TypeId}{zs:Array Value}{E:World->Prop}{W W':World}{cs:Array Value}{aX a2:Nat}{yX fX y2 f2:Int}{sl:Value}{acc:List α}
theorem Gx.call(hp:PSok p)(hE:EK w xb E)(h:Gx p k TE rb g cap l w d i a y xb T zs E W cs aX yX fX sl acc)(kk:Kp rb W W')(hR:Rr rb g cap l W' a2 d i y2 f2)(ha:aX<=a2)(hy:y2=0->yX=0):Gx p k TE rb g cap l w d i a y xb T zs E W' cs a2 y2 f2 sl acc:=
 ⟨hR,h.b.call kk,hE _ _ kk.size (fun q f _ c=>kk.block q c (by have:=h.b.r1;omega)) h.e,h.q.move hp kk.size (fun b j c=>kk.block b c (by have:=h.b.r1;have:=h.b.x1;omega)),by have:=h.le;omega,fun e=>⟨(h.y0 (hy e)).1,by have:=(h.y0 (hy e)).2;omega⟩,by have:=h.n;omega,fun e=>by have:=h.n0 (hy e);omega⟩
theorem Gx.more(hp:PSok p)(hE:EK w xb E){ST:TypeId}{i0:TypeInfo}{z:Value}{by_:Nat}(ht:Tryz.prog.underlying ST=some (.slice TE))(hi:Tryz.prog.info? TE=some i0)(hz:i0.zero=some z)(hsz:i0.size=k)(hby:i0.bytes=by_)(hzc:z.cells.size=k)(hk:0<k)(hb6:by_<=1000)
  (h:Gx p k TE rb g cap l w d i a y xb T zs E W cs aX yX fX sl acc){w2:World}{x:α}{cx:List Value}(hl:cx.length=k)(h1:∀c∈cx,c.oneCell'=true)(hx:p (fun b=>W.heap.size<=b) w2 cx x)(hR:Rr rb g cap l w2 a2 d i y2 f2)(k2:Kp rb W w2)(ha:aX<=a2)(hy:y2=0->yX=0/\aX<a2)(hn:acc.length<=aX)(j:Nat):
  ∃ra rc w8,(Builtin.append_ #[ST,ST] ST #[sl,.slice (Js w2.heap.size) 1 1]).run Tryz.prog (w2.alloc (.cells cx.toArray TE)) = .ok (.slice ra (acc.length+1) rc) w8/\acc.length+1<=rc/\rc<=maxLen/\w8.heap[xb]?=some (.cells cs T (0,0))/\Gx p k TE rb g cap l w d i a y xb T zs E (w8.setCell (Ja xb j) (.slice ra (acc.length+1) rc)) (cs.setIfInBounds j (.slice ra (acc.length+1) rc)) a2 y2 f2 (.slice ra (acc.length+1) rc) (acc++[x]):=by
 have D:=h.b.x1;have B:=h.b.r1;have A:=h.b.g1;have K:=Qaa h.b.box;obtain⟨r,w8,I,f,J,G,v⟩:=h.q.more hp ht hi hz hsz hby hzc hk hb6 (by omega) hl h1 hx hR k2 (by omega) (by omega) (by have:=h.r.lt;have:=h.r.few;omega);obtain⟨ra,rc,t,s,H⟩:=v.sl;have m:(acc++[x]).length=acc.length+1:=by simp
 rw[m]at t s;subst t;have C:=f.size;have o:w8.heap[xb]?=some (.cells cs T (0,0)):=(f.block xb (by omega) (by omega) (by omega)).trans h.b.box;have F:Bx rb g w xb T zs cs w8:=⟨⟨f.os.trans h.b.kp.os,f.tape.trans h.b.kp.tape,f.output.trans h.b.kp.output,Nat.le_trans h.b.kp.size C,fun q n hn=>(f.block q (by omega) hn hn).trans (h.b.kp.block q n hn)⟩,o,(f.block _ (by omega) (by omega) (by omega)).trans h.b.res,B,A,D⟩;have u:∀q,q≠xb->(w8.setCell (Ja xb j) (.slice ra (acc.length+1) rc)).heap[q]?=w8.heap[q]?:=fun q n=>hpS n;have O:(w8.setCell (Ja xb j) (.slice ra (acc.length+1) rc)).heap.size=w8.heap.size:=by simp
 refine⟨ra,rc,w8,I,s,H,o,G.atBox ⟨by omega,by omega⟩ j _,F.set j _,?_,?_,by have:=h.le;omega,fun e=>⟨(h.y0 (hy e).1).1,by have:=(h.y0 (hy e).1).2;omega⟩,by rw[m];omega,fun e=>by rw[m];have:=(hy e).2;omega⟩
 ·exact hE W _ (by omega) (fun q h1 L hl=>(u q (by omega)).trans (f.block q (by omega) (by omega) (by omega))) h.e
 ·exact v.move hp (by omega) (fun b N _=>u b (by omega))
theorem Gx.fin(hp:PSok p)(hE:EK w xb E)(h:Gx p k TE rb g cap l w d i a y xb T zs E W cs aX yX fX sl acc)(hs:W'.heap.size=W.heap.size)(ho:W'.os=W.os/\W'.tape=W.tape/\W'.output=W.output)(hb:∀q,q≠w.heap.size->W'.heap[q]?=W.heap[q]?):
  Rr rb g cap l W' aX d i yX fX/\Kp rb w W'/\E W'/\Qo p k TE (xb+1) W' sl acc:=by
 have n:=h.b.x1;have m:=h.b.r1;have j:=h.b.g1;refine⟨h.r.move (by omega) (hb rb (by omega)) (hb g (by omega)),⟨ho.1.trans h.b.kp.os,ho.2.1.trans h.b.kp.tape,ho.2.2.trans h.b.kp.output,by rw[hs];exact h.b.kp.size,fun q f c=>(hb q (by omega)).trans (h.b.kp.block q f c)⟩,hE _ _ (by omega) (fun q o _ _=>hb q (by omega)) h.e,h.q.move hp (by omega) (fun b s _=>hb b (by omega))⟩
end
theorem str_beq(s t:Txt):((⟨s.toArray⟩:ByteArray)==⟨t.toArray⟩)=decide (s=t):=by
 have e:((⟨s.toArray⟩:ByteArray)==⟨t.toArray⟩)=(s.toArray==t.toArray):=rfl;rw[e];by_cases h:s=t
 ·subst h;simp
 rw[decide_eq_false h];exact beq_eq_false_iff_ne.2 fun e=>h (by simpa using congrArg Array.toList e)
def findS{α : Type}(t:Txt):List (Txt × α)->Nat->Option (Nat × α)
 | [],_=>none
 |p :: r,i=>if t=p.1 then some (i,p.2) else findS t r (i+1)
theorem Qga{α : Type}(t:Txt):∀(l:List (Txt × α)) (i:Nat),(findS t l i).map (·.2)=asc l t
 | [],_=>rfl
 |p :: r,i=>by
  unfold findS asc;by_cases h:t=p.1
  ·rw[if_pos h];simp[h]
  rw[if_neg h,Qga t r (i+1)];have h2:¬p.1=t:=fun e=>h e.symm;simp[asc,h2]
theorem Qur(t:Txt):∀(es:List MapEntry) (ms:List (Txt×Value)) (i:Nat),es.map (fun e=>(e.key,e.val))=ms.map (fun p=>(str p.1,p.2)) ->
  Instr.findNow .string (str t) es i=some (findS t ms i)
 | [],[],_,_=>rfl
 | [],_ :: _,_,h=>by simp at h
 |_ :: _,[],_,h=>by simp at h
 |e :: es,p :: ms,i,h=>by
  simp only[List.map_cons,List.cons.injEq,Prod.mk.injEq]at h;obtain⟨⟨h1,h2⟩,h3⟩:=h;have ih:=Qur t es ms (i+1) h3;unfold Instr.findNow findS;rw[h1];simp only[Instr.sameNow,str_beq];by_cases b:t=p.1
  ·simp[b,h2]
  ·simp[b,ih]
def MpS(w:World)(mb:Nat)(ms:List (Txt×Value)):Prop:=∃es clock,w.heap[mb]?=some (.map es clock)/\es.toList.map (fun e=>(e.key,e.val))=ms.map (fun p=>(str p.1,p.2))
theorem MpS.lt{w:World}{mb:Nat}{ms:List (Txt×Value)}(h:MpS w mb ms):mb<w.heap.size:=by
 obtain⟨_,_,h,_⟩:=h;exact(Array.getElem?_eq_some_iff.1 h).1
theorem MpS.keep{w w':World}{mb:Nat}{ms:List (Txt×Value)}(h:MpS w mb ms)(e:w'.heap[mb]?=w.heap[mb]?):MpS w' mb ms:=by
 obtain⟨b,c,f,j⟩:=h;exact⟨b,c,e.trans f,j⟩
theorem MpS.new(w:World):MpS (w.alloc (.map #[] 0)) w.heap.size []:=⟨#[],0,heap_alloc_new w _,rfl⟩
section
variable {M KT ET:TypeId}(hK:Tryz.prog.underlying KT=some .string)
include hK
theorem Qus(w:World)(t:Txt)(es:List MapEntry)(ms:List (Txt×Value))(h:es.map (fun e=>(e.key,e.val))=ms.map (fun p=>(str p.1,p.2))):
  (Instr.findKey KT (str t) es).run Tryz.prog w = .ok (findS t ms 0) w:=by
 unfold Instr.findKey;simp only[Sem.run_bind,run_underlying hK,Result.andThen_ok,Qur t es ms 0 h,Sem.run_pure]
theorem Qpd(w:World)(em:Bool)(d:Nat)(t:Txt):(Instr.checkKey em (d+1) KT (str t)).run Tryz.prog w = .ok () w:=by
 simp[Instr.checkKey,run_underlying hK]
variable (hM:Tryz.prog.underlying M=some (.map KT ET))
include hM
theorem Qed{z:Value}(hz:∀w,(zeroValue ET).run Tryz.prog w = .ok z w)(w:World)(mb:Nat)(ms:List (Txt×Value))(t:Txt)(h:MpS w mb ms)(c:Bool):
  (Instr.lookup M (.map (some mb)) (str t) c).run Tryz.prog w = .ok (if c then .tuple #[(asc ms t).getD z,.bool (asc ms t).isSome] else (asc ms t).getD z) w:=by
 obtain⟨b,e,r,n⟩:=h;have j:=fun f=>Qpd hK w f 9999 t;have m:=Qus hK w t b.toList ms n;have o:(getObj mb).run Tryz.prog w = .ok (.map b e) w:=MapKept.run_getObj_map r;unfold Instr.lookup;simp only[Sem.run_bind,run_underlying hM,Result.andThen_ok,o,Sem.run_pure,j,m];rw[<- Qga t ms 0]
 cases s:findS t ms 0 with
 |none=>simp[hz]
 |some q=>obtain⟨k,v⟩:=q;simp
theorem Qrr(w:World)(mb:Nat)(ms:List (Txt×Value))(t:Txt)(v:Value)(h:MpS w mb ms)(hn:asc ms t=none):
  ∃w',(Instr.mapUpdate M (.map (some mb)) (str t) v).run Tryz.prog w = .ok () w'/\MpS w' mb (ms++[(t,v)])/\w'.heap.size=w.heap.size/\w'.os=w.os/\w'.tape=w.tape/\w'.output=w.output /\ ∀b,b≠mb->w'.heap[b]?=w.heap[b]?:=by
 obtain⟨e,c,f,j⟩:=h;have o:=fun n=>Qpd hK w n 9999 t;have q:=Qus hK w t e.toList ms j;have u:(getObj mb).run Tryz.prog w = .ok (.map e c) w:=MapKept.run_getObj_map f;have m:mb<w.heap.size:=(Array.getElem?_eq_some_iff.1 f).1;have s:findS t ms 0=none:=by
  have:=Qga t ms 0;rw[hn]at this
  simpa using this
 refine⟨{ w with heap:=w.heap.setIfInBounds mb (.map (e.push { key:=str t,val:=v,born:=c }) (c+1)) },?_,⟨e.push { key:=str t,val:=v,born:=c },c+1,?_,?_⟩,by simp,rfl,rfl,rfl,fun b r=>?_⟩
 ·
  unfold Instr.mapUpdate;simp only[Sem.run_bind,run_underlying hM,Result.andThen_ok,u,o,q,s];exact MapKept.run_setObj_map _ f
 ·
  show(w.heap.setIfInBounds mb _)[mb]?=some _;exact Array.getElem?_setIfInBounds_self_of_lt m
 ·simp[j]
 show(w.heap.setIfInBounds mb _)[b]?=_;exact Array.getElem?_setIfInBounds_ne (Ne.symm r)
end
theorem mI:Tryz.prog.underlying 125=some (.map 9 3):=by kernel_rfl
theorem mP:Tryz.prog.underlying 126=some (.map 9 133):=by kernel_rfl
theorem uS:Tryz.prog.underlying 9=some .string:=by kernel_rfl
theorem zI(w:World):(zeroValue 3).run Tryz.prog w = .ok (Ji 0) w:=Tryz.zeroValue3 w
theorem zP(w:World):(zeroValue 133).run Tryz.prog w = .ok (.agg #[Ji 0,Ji 0]) w:=Tryz.zeroValue133 w
def addF(ms:List (Txt×Value))(n:Txt)(v:Value):List (Txt×Value):=match asc ms n with|some _=>ms|none=>ms++[(n,v)]
theorem Qsu(ms:List (Txt×Value))(n:Txt)(v:Value)(t:Txt):asc (addF ms n v) t=asc (ms++[(n,v)]) t:=by
 rw[Qji];unfold addF
 cases h:asc ms n with
 |some _=>rfl
 |none=>
  simp only;rw[Qji,h]
theorem Qma{w:World}{mb:Nat}{ms:List (Txt×Value)}(h:MpS w mb ms)(n:Txt)(k:Int):
  Calls Tryz.prog 69 #[.map (some mb),str n,Ji k] w fun en w'=>en = .returned (.tuple #[])/\MpS w' mb (addF ms n (Ji k))/\Kp mb w w':=by
 have e:=Qed uS mI zI w mb ms n h true;rw[if_pos rfl]at e;have H:=hide h;unfold addF
 cases c:asc ms n with
 |some u=>
  rw[c]at e;simp only[Option.getD_some,Option.isSome_some]at e;clear h c;go_enter Tryz.func69,Tryz.ntmps69;go_wp2_with fail
  go_end0
  exact⟨rfl,Qa H,Kp.refl _ _⟩
 |none=>
  rw[c]at e;simp only[Option.getD_none,Option.isSome_none]at e;obtain⟨w',v,j,t,m,o,q,f⟩:=Qrr uS mI w mb ms n (Ji k) h c;have r:=hide (show MpS w' mb (ms++[(n,Ji k)])/\Kp mb w w' from ⟨j,m,o,q,by omega,fun b _ s=>f b s⟩);clear h c j t m o q f;go_enter Tryz.func69,Tryz.ntmps69;go_wp2_with fail
  go_end0
  exact⟨rfl,Qa r⟩
theorem Qsr{w:World}{mb:Nat}{ms:List (Txt×Value)}(h:MpS w mb ms)(n:Txt)(i k:Int)(hp:∀u,asc ms n=some u -> ∃a b:Int,u = .agg #[Ji a,Ji b]):
  Calls Tryz.prog 70 #[.map (some mb),str n,.agg #[Ji i,Ji k]] w fun en w'=>en = .returned (.tuple #[])/\MpS w' mb (addF ms n (.agg #[Ji i,Ji k]))/\Kp mb w w':=by
 obtain⟨r,e⟩:=JE (w.alloc (.cells #[Ji i,Ji k] 133));have o:=bnw e;have z:=nnw e;have I:r.heap.size=w.heap.size+1:=by rw[e];simp
 have j:=h.keep (o.block _ h.lt);have q:=Qed uS mP zP r mb ms n j true;rw[if_pos rfl]at q;unfold addF
 cases m:asc ms n with
 |some u=>
  rw[m]at q;obtain⟨a,b,rfl⟩:=hp u m;simp only[Option.getD_some,Option.isSome_some]at q;obtain⟨s,f⟩:=JE (r.alloc (.cells #[Ji a,Ji b] 133));have c:=bnw f;have x:=hide (show MpS s mb ms/\Kp mb w s from ⟨j.keep (c.block _ j.lt),(Kp.of_below o).trans (Kp.of_below c)⟩);have t:=hide e;have v:=hide f;clear h hp m j o z I c e f;go_enter Tryz.func70,Tryz.ntmps70;go_upto_region 1 with fail;rw[<- Qa t];go_wp2_with fail;rw[<- Qa v]
  go_end0
  exact⟨rfl,Qa x⟩
 |none=>
  rw[m]at q;simp only[Option.getD_none,Option.isSome_none]at q;obtain⟨s,f⟩:=JE (r.alloc (.cells #[Ji 0,Ji 0] 133));have c:=bnw f;have A:=j.keep (c.block _ j.lt);have H:=(c.block _ (by omega)).trans z;obtain⟨N,O,P⟩:=cl2 H;obtain⟨w',L,C,K,D,F,G,B⟩:=Qrr uS mP s mb ms n (.agg #[Ji i,Ji k]) A m;have x:=hide (show MpS w' mb (ms++[(n,.agg #[Ji i,Ji k])])/\Kp mb w w' from ⟨C,((Kp.of_below o).trans (Kp.of_below c)).trans ⟨D,F,G,by omega,fun b _ J=>B b J⟩⟩);have t:=hide e;have v:=hide f;clear h hp m j o z I c A H C K D F G B e f;go_enter Tryz.func70,Tryz.ntmps70;go_upto_region 1 with fail;rw[<- Qa t];go_upto_region 2 with fail;rw[<- Qa v];go_wp2_with fail
  go_end0
  exact⟨rfl,Qa x⟩
end
end Go.Proofs.YtmfpbepifnedjaaGreat
