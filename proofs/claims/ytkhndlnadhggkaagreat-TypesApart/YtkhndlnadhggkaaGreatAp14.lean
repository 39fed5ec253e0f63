/- The document's reader. -/
import Derived.Test.YtkhndlnadhggkaaGreatAp01
import Derived.Test.YtkhndlnadhggkaaGreatAp13
set_option maxRecDepth 100000
set_option maxHeartbeats 32000000
namespace Go.Proofs.YtkhndlnadhggkaaGreat
section
open Go.RowKit Go.Maps
theorem Qqk{rb g cap d:Nat}{l:List Tok}(hd:d<=63):ExC 108 rb g cap l d #[.pointer (Js rb)]:=(Qqm (fun _ _ a b=>qone_of a b) (63 - d) d (by omega)).1
theorem Qbx{rb g cap a d i:Nat}{l:List Tok}{w:World}{y f:Int}(h:Rr rb g cap l w a d i y f){t:Tok}(ht:l[min (a+1) (l.length - 1)]?=some t):
  Calls Tryz.prog 91 #[.pointer (Js rb)] w fun en w'=>en = .returned (tkA t)/\Below w.heap.size w w':=by
 obtain⟨W,r⟩:=JE ((w.alloc tokZ).drew);have m:Below w.heap.size w W:=by rw[r];exact((Below.refl _ w).alloc (Nat.le_refl _) _).drew
 have x:W.heap[w.heap.size]?=some tokZ:=by rw[r];exact heap_alloc_new w _
 have X:=h.lt;have U:=h.few;have S:=h.row.le;have T:=h.row.cm;unfold maxLen at T;obtain⟨n,u⟩:=JF l.length;rw[u]at X U S;obtain⟨j,A⟩:=JF (min (a+1) (n - 1));rw[u,A]at ht;have a4:min ((a:Int)+1) ((n:Int) - 1)=(j:Int):=by omega
 have a3:j<n:=by omega
 have M:Hid (∀w',Below w.heap.size w w'->w'.heap[rb]?=some (.cells #[.slice (Js g) n cap,Ji (a:Int),Ji (d:Int),Ji (i:Int),Ji y,Ji f] 75 (0,0))/\(∀q c,([Ji t.kind,str t.text,Ji t.num,Ji (t.at_:Int)]:List Value)[q]?=some c->w'.cell? (Ja g (j*4+q))=some c)):=fun w' bb=>by
  have P:=h.later bb;refine⟨by have:=P.box;rw[u]at this;exact this,fun q c e=>?_⟩;have s:=P.row.cells j t ht
  match q,e with
  | 0,e=>cases e;exact s.1
  | 1,e=>cases e;exact s.2.1
  | 2,e=>cases e;exact s.2.2.1
  | 3,e=>cases e;exact s.2.2.2
  |q+4,e=>simp at e
 obtain⟨V,p⟩:=JE (W.setRow w.heap.size #[Ji t.kind,str t.text,Ji t.num,Ji (t.at_:Int)]);have N:Below w.heap.size w V:=by
  rw[p];exact⟨m.os,m.tape,m.output,by rw[size_setRow];exact m.size,fun k hk=>by rw[setRow_other _ _ _ _ (by omega)];exact m.block k hk⟩
 have Q:V.heap[w.heap.size]?=some (.cells #[Ji t.kind,str t.text,Ji t.num,Ji (t.at_:Int)] 73 (0,0)):=by rw[p];exact setRow_heap _ _ _ _ _ _ x
 have HW:=hide r;have HV:=hide p;have o:=hide (Ya m (Ya x (Ya N Q)));clear r p m x N Q h ht u A;go_enter Tryz.func91,Tryz.ntmps91;go_wp2_with fail;have Y:=Qen (a+1) (by omega);rw[Int.natCast_add,Int.natCast_one]at Y;have a5:=Qgj n (by omega) (by omega);refine Qaz (md:=[(0,true),(1,true),(2,true),(3,true),(4,true),(5,true),(6,true),(7,true),(8,true),(9,true),(10,true),(11,true),(12,true),(13,true),(14,true),(15,true),(16,true),(17,true),(18,false)]) (fun w'=>w'.heap[rb]?=some (.cells #[.slice (Js g) n cap,Ji (a:Int),Ji (d:Int),Ji (i:Int),Ji y,Ji f] 75 (0,0))/\(∀q c,([Ji t.kind,str t.text,Ji t.num,Ji (t.at_:Int)]:List Value)[q]?=some c->w'.cell? (Ja g (j*4+q))=some c)) mixedO (by kernel_rfl) rfl (by kernel_rfl) (fun PP z=>?_);rw[<- Qa HW]
 iterate 8 refine Qac rfl (by kernel_rfl) (fun w' hw=>by obtain⟨B,C,D,E,F,G,R⟩:=cl6 hw.1;obtain⟨H,I,J,L⟩:=cs4 hw.2;go_simp<;>rfl) ?_
 refine Qac (v:=Ji ((a:Int)+1)) rfl (by kernel_rfl) (fun w' hw=>by clear hw;go_simp) ?_
 iterate 5 refine Qac rfl (by kernel_rfl) (fun w' hw=>by obtain⟨B,C,D,E,F,G,R⟩:=cl6 hw.1;obtain⟨H,I,J,L⟩:=cs4 hw.2;go_simp<;>rfl) ?_
 refine Qac (v:=Ji ((n:Int) - 1)) rfl (by kernel_rfl) (fun w' hw=>by clear hw;go_simp) ?_;refine Qac (v:=Ji (j:Int)) rfl (by kernel_rfl) (fun w' hw=>by clear hw;go_simp) ?_
 iterate 2 refine Qac rfl (by kernel_rfl) (fun w' hw=>by obtain⟨B,C,D,E,F,G,R⟩:=cl6 hw.1;obtain⟨H,I,J,L⟩:=cs4 hw.2;go_simp<;>rfl) ?_
 refine Qij (b:={ tmps:=#[.pointer (Js rb),undef,.pointer (Js w.heap.size),.pointer (Js rb),.pointer (Js rb),.pointer (Js rb),.slice (Js g) n cap,.pointer (Js rb),.pointer (Js rb),.pointer (some (Ja rb 1)),Ji (a:Int),Ji ((a:Int)+1),.pointer (Js rb),.pointer (Js rb),.pointer (Js rb),.slice (Js g) n cap,Ji (n:Int),Ji ((n:Int) - 1),Ji (j:Int),.pointer (some (Ja g (j*4))),tkA t],defers:=[] }) (by kernel_rfl) ?_;refine Qak rfl (Qa M _ (Qa o).1) (fun K O=>?_);refine Qd rfl _ _ _ rfl w.heap.size _ _ #[Ji t.kind,str t.text,Ji t.num,Ji (t.at_:Int)] (by kernel_rfl) (by kernel_rfl) (Qa o).2.1 (by kernel_rfl) rfl (by simp[Value.oneCell',str]) ?_;refine O _ _ ?_;clear O K;rw[<- Qa HV];refine Qbc (Qa M _ (Qa o).2.2.1) (z _ _ ?_);clear z PP;simp[Act.put];obtain⟨Z,a0,a1,a2,zf⟩:=cl4 (Qa o).2.2.2;go_wp2_with fail;refine bodyPost_ret (v:=tkA t) (by simp[results,Tryz.results91,go_sem,Z,a0,a1,a2]) rfl ?_;exact⟨rfl,(Qa o).2.2.1⟩
def amV(rb a:Nat)(w:World)(w':World)(v:Value):Prop:=∃x:Atm,VAm (fun b=>w.heap.size<=b) w' v x/\szQ rb a (exQs x.args+1) w'/\x.rel.length<=65536
theorem Qga{rb g cap a d i:Nat}{l:List Tok}{w:World}{y f:Int}(h:Rr rb g cap l w a d i y f)(hd:d<=63):
  Calls Tryz.prog 93 #[.pointer (Js rb)] w fun en w'=>RA rb g cap l w d (amV rb a w) (CoY a i y) en w':=by
 have x:Below w.heap.size w (w.alloc (.cells #[Je,Jn,Ji 0] 42)):=(Below.refl _ w).alloc (Nat.le_refl _) _;have D:(w.alloc (.cells #[Je,Jn,Ji 0] 42)).heap[w.heap.size]?=some (.cells #[Je,Jn,Ji 0] 42 (0,0)):=heap_alloc_new w _;have S:(w.alloc (.cells #[Je,Jn,Ji 0] 42)).heap.size=w.heap.size+1:=by simp
 obtain⟨t,ht⟩:=h.tok;have a9:Hid (∀w',Below w.heap.size w w'->Calls Tryz.prog 22 #[.pointer (Js rb)] w' fun en m=>en = .returned (.agg #[Ji t.kind,str t.text,Ji t.num,Ji (t.at_:Int)])/\Below w'.heap.size w' m):=fun w' bb=>Qap (h.later bb) ht;have Y:=hide h;have HE:=hide (Qqk (rb:=rb) (g:=g) (cap:=cap) (l:=l) hd);have H0:=hide (Ya x (Ya D S));clear h ht x D S;go_enter Tryz.func93,Tryz.ntmps93;go_wp2_with fail;refine(Qa a9 _ (Qa H0).1).mono ?_;rintro en w1⟨rfl,M⟩;obtain⟨x,D,S⟩:=Qa H0;have W:=x.trans (M.mono (by omega));have E:=(M.block _ (by omega)).trans D;have a5:=Qdh ((Qa Y).later W);have ad:=Qaa (Qa Y).box;have ac:=(Qa Y).row.lt;have ae:=M.size;have K1:=hide (Ya (Kp.of_below (rb:=rb) W) (Ya E (show rb<w.heap.size/\g<w.heap.size/\w.heap.size<w1.heap.size by omega)));clear M x D S W E ad ac ae;go_wp2_with fail;rename_i hK;refine hK _ _ ?_;clear hK;go_wp2_with fail;refine a5.mono ?_;clear a5;rintro en m⟨_,a2,i2,y2,f2,rfl,⟨r,rfl,a6⟩,⟨z,J,n⟩,h2,P⟩;have aa:=hide a6;clear a6;rw[z]at h2;clear z;obtain⟨k1,E,g1,g2,g3⟩:=Qa K1;have af:=P.size;have n2:=P.keep E (by omega);obtain⟨p,K⟩:=JF m.heap.size;obtain⟨o,s⟩:=JE (m.alloc (.cells #[str r,Jn,Ji (t.at_:Int)] 42));have N:Below m.heap.size m o:=by rw[s];exact(Below.refl _ m).alloc (Nat.le_refl _) _
 have F:o.heap[p]?=some (.cells #[str r,Jn,Ji (t.at_:Int)] 42 (0,0)):=by rw[s,<- K];exact heap_alloc_new m _
 have T:o.heap.size=p+1:=by rw[s,<- K];simp
 have I:=(N.block _ (by omega)).trans n2;have a3:=Qjk (h2.later N) (Qa HE);have K3:=hide (Ya ((k1.trans P).trans (Kp.of_below N)) (Ya F (Ya I (Ya (show rb<w.heap.size/\g<w.heap.size/\w.heap.size<p by omega) (Ya T (Ya J n))))));have V:=hide (Ya s K);clear k1 E g1 g2 g3 af n2 K s N F T I J n h2 P K1;go_wp2_with fail;rw[<- (Qa V).1,(Qa V).2];clear V;refine a3.mono ?_;clear a3;rintro en w7⟨_,Z,i7,y7,f7,rfl,⟨k,X,a8⟩,⟨z,ab,L⟩,O,A⟩;rw[z]at O;clear z;have SK:Hid (y7=0->exQs k+2*a2<=2*Z):=hide (fun e=>a8.at O e);clear a8;obtain⟨B,C,rfl⟩:=X.sl;obtain⟨k3,F,I,⟨g1,g2,g3⟩,T,J,n⟩:=Qa K3;have ag:=A.size;have n7:=A.keep F (by omega);have q7:=A.keep I (by omega);have a4:w.heap.size≠p:=by omega
 obtain⟨c,u⟩:=JE (w7.setCell (Ja p 1) (.slice B k.length C));have n8:c.heap[p]?=some (.cells #[str r,.slice B k.length C,Ji (t.at_:Int)] 42 (0,0)):=by rw[u];exact(Qah n7 1 _).trans rfl
 have G:∀q,q≠p->c.heap[q]?=w7.heap[q]?:=fun q hq=>by rw[u,hpS hq]
 have s8:c.heap.size=w7.heap.size:=by rw[u];simp
 have q8:=(G _ a4).trans q7;have k8:Kp rb w c:=by rw[u];exact(k3.trans A).set2 (by omega)
 have h8:=O.move (w':=c) (by omega) (G rb (by omega)) (G g (by omega));have a0:LsAt PE 5 (fun b=>o.heap.size<=b) c (.slice B k.length C) k:=X.same Qag (by omega) (fun b j hl=>G b (by have a1:o.heap.size<=b:=j;omega));have hC:CoY a i y Z i y7:=⟨rfl,by omega,fun e=>⟨(n (L e).1).1,by have:=(n (L e).1).2;omega⟩⟩;have SB:=hide (show y7=0->exQs k+1+2*a<=2*Z from fun e=>by have H:=Qa SK e;have:=(n (L e).1).2;omega);obtain⟨ah,ak,ai,xf⟩:=cl3 n7;obtain⟨z0,z1,z2,zf⟩:=cl3 n8;obtain⟨y0,y1,aj,yf⟩:=cl3 q8;have HF:Hid (∀Q H R,RA rb g cap l w d (amV rb a w) (CoY a i y) (.returned (.agg #[str r,.slice B k.length C,Ji (t.at_:Int)])) (((c.setCell (Ja w.heap.size 0) Q).setCell (Ja w.heap.size 1) H).setCell (Ja w.heap.size 2) R)):=fun Q H R=>by
  have U:∀b,b≠w.heap.size->(((c.setCell (Ja w.heap.size 0) Q).setCell (Ja w.heap.size 1) H).setCell (Ja w.heap.size 2) R).heap[b]?=c.heap[b]?:=fun b j=>by
   rw[hpS j,hpS j,hpS j]
  have H9:=h8.move (w':=(((c.setCell (Ja w.heap.size 0) Q).setCell (Ja w.heap.size 1) H).setCell (Ja w.heap.size 2) R)) (by simp[World.setCell]) (U rb (by omega)) (U g (by omega));exact⟨_,_,_,_,_,rfl,⟨⟨r,k,t.at_⟩,⟨_,_,_,rfl,(a0.same Qag (by simp[World.setCell]) (fun b j hl=>U b (by have a1:o.heap.size<=b:=j;omega))).mono Qag (fun b _ j=>by have a1:o.heap.size<=b:=j;omega)⟩,szQ.of H9 (Qa SB),Qa aa⟩,hC,H9,((k8.set2 (by omega)).set2 (by omega)).set2 (by omega)⟩
 clear O A X k3 F I g1 g2 g3 T J n ag n7 q7 n8 G s8 q8 k8 h8 a0 hC ab L K3 ah ai zf a4;subst u;go_wp2_with fail;refine bodyPost_ret (v:=.agg #[str r,.slice B k.length C,Ji t.at_]) (by simp[results,Tryz.results93,go_sem,y0,y1,aj]) rfl ?_;exact Qa HF _ _ _
end
end Go.Proofs.YtkhndlnadhggkaaGreat
