/- The document's reader. -/
import Derived.Test.YtmfpbepifnedjaaGreatZz01
import Derived.Test.YtmfpbepifnedjaaGreatZz13
set_option maxRecDepth 100000
set_option maxHeartbeats 32000000
namespace Go.Proofs.YtmfpbepifnedjaaGreat
section
open Go.RowKit Go.Maps
theorem Qqj{rb g cap d:Nat}{l:List Tok}(hd:d<=63):ExC 108 rb g cap l d #[.pointer (Js rb)]:=(Qql (fun _ _ b a=>qone_of b a) (63 - d) d (by omega)).1
theorem Qbx{rb g cap a d i:Nat}{l:List Tok}{w:World}{y f:Int}(h:Rr rb g cap l w a d i y f){t:Tok}(ht:l[min (a+1) (l.length - 1)]?=some t):
  Calls Tryz.prog 91 #[.pointer (Js rb)] w fun en w'=>en = .returned (tkA t)/\Below w.heap.size w w':=by
 obtain⟨W,s⟩:=JE ((w.alloc tokZ).drew)
 have m:Below w.heap.size w W:=by rw[s];exact((Below.refl _ w).alloc (Nat.le_refl _) _).drew
 have x:W.heap[w.heap.size]?=some tokZ:=by rw[s];exact heap_alloc_new w _
 have Z:=h.lt
 have S:=h.few
 have a0:=h.row.le
 have a2:=h.row.cm
 unfold maxLen at a2
 obtain⟨n,u⟩:=JF l.length
 rw[u]at Z S a0
 obtain⟨j,J⟩:=JF (min (a+1) (n - 1))
 rw[u,J]at ht
 have a4:min ((a:Int)+1) ((n:Int) - 1)=(j:Int):=by omega
 have a5:j<n:=by omega
 have R:Hid (∀w',Below w.heap.size w w'->w'.heap[rb]?=some (.cells #[.slice (Js g) n cap,Ji (a:Int),Ji (d:Int),Ji (i:Int),Ji y,Ji f] 75 (0,0))/\(∀q c,([Ji t.kind,str t.text,Ji t.num,Ji (t.at_:Int)]:List Value)[q]?=some c->w'.cell? (Ja g (j*4+q))=some c)):=fun w' bb=>by
  have P:=h.later bb
  refine⟨by have:=P.box;rw[u]at this;exact this,fun q c e=>?_⟩
  have p:=P.row.cells j t ht
  match q,e with
  | 0,e=>cases e;exact p.1
  | 1,e=>cases e;exact p.2.1
  | 2,e=>cases e;exact p.2.2.1
  | 3,e=>cases e;exact p.2.2.2
  |q+4,e=>simp at e
 obtain⟨V,r⟩:=JE (W.setRow w.heap.size #[Ji t.kind,str t.text,Ji t.num,Ji (t.at_:Int)])
 have M:Below w.heap.size w V:=by
  rw[r]
  exact⟨m.os,m.tape,m.output,by rw[size_setRow];exact m.size,fun k hk=>by rw[setRow_other _ _ _ _ (by omega)];exact m.block k hk⟩
 have Q:V.heap[w.heap.size]?=some (.cells #[Ji t.kind,str t.text,Ji t.num,Ji (t.at_:Int)] 73 (0,0)):=by rw[r];exact setRow_heap _ _ _ _ _ _ x
 have HW:=hide s
 have HV:=hide r
 have o:=hide (Ya m (Ya x (Ya M Q)))
 clear s r m x M Q h ht u J
 go_enter Tryz.func91,Tryz.ntmps91
 go_wp2_with fail
 have a1:=Qes (a+1) (by omega)
 rw[Int.natCast_add,Int.natCast_one]at a1
 have a3:=Qgn n (by omega) (by omega)
 refine Qaz (md:=[(0,true),(1,true),(2,true),(3,true),(4,true),(5,true),(6,true),(7,true),(8,true),(9,true),(10,true),(11,true),(12,true),(13,true),(14,true),(15,true),(16,true),(17,true),(18,false)]) (fun w'=>w'.heap[rb]?=some (.cells #[.slice (Js g) n cap,Ji (a:Int),Ji (d:Int),Ji (i:Int),Ji y,Ji f] 75 (0,0))/\(∀q c,([Ji t.kind,str t.text,Ji t.num,Ji (t.at_:Int)]:List Value)[q]?=some c->w'.cell? (Ja g (j*4+q))=some c)) mixedO (by kernel_rfl) rfl (by kernel_rfl) (fun PP L=>?_)
 rw[<- Qa HW]
 iterate 8 refine Qac rfl (by kernel_rfl) (fun w' hw=>by obtain⟨A,G,H,z,I,F,N⟩:=cl6 hw.1;obtain⟨B,E,D,C⟩:=cs4 hw.2;go_simp<;>rfl) ?_
 refine Qac (v:=Ji ((a:Int)+1)) rfl (by kernel_rfl) (fun w' hw=>by clear hw;go_simp) ?_
 iterate 5 refine Qac rfl (by kernel_rfl) (fun w' hw=>by obtain⟨A,G,H,z,I,F,N⟩:=cl6 hw.1;obtain⟨B,E,D,C⟩:=cs4 hw.2;go_simp<;>rfl) ?_
 refine Qac (v:=Ji ((n:Int) - 1)) rfl (by kernel_rfl) (fun w' hw=>by clear hw;go_simp) ?_
 refine Qac (v:=Ji (j:Int)) rfl (by kernel_rfl) (fun w' hw=>by clear hw;go_simp) ?_
 iterate 2 refine Qac rfl (by kernel_rfl) (fun w' hw=>by obtain⟨A,G,H,z,I,F,N⟩:=cl6 hw.1;obtain⟨B,E,D,C⟩:=cs4 hw.2;go_simp<;>rfl) ?_
 refine Qis (b:={ tmps:=#[.pointer (Js rb),undef,.pointer (Js w.heap.size),.pointer (Js rb),.pointer (Js rb),.pointer (Js rb),.slice (Js g) n cap,.pointer (Js rb),.pointer (Js rb),.pointer (some (Ja rb 1)),Ji (a:Int),Ji ((a:Int)+1),.pointer (Js rb),.pointer (Js rb),.pointer (Js rb),.slice (Js g) n cap,Ji (n:Int),Ji ((n:Int) - 1),Ji (j:Int),.pointer (some (Ja g (j*4))),tkA t],defers:=[] }) (by kernel_rfl) ?_
 refine Qal rfl (Qa R _ (Qa o).1) (fun K O=>?_)
 refine Qdd rfl _ _ _ rfl w.heap.size _ _ #[Ji t.kind,str t.text,Ji t.num,Ji (t.at_:Int)] (by kernel_rfl) (by kernel_rfl) (Qa o).2.1 (by kernel_rfl) rfl (by simp[Value.oneCell',str]) ?_
 refine O _ _ ?_
 clear O K
 rw[<- Qa HV]
 refine Qbc (Qa R _ (Qa o).2.2.1) (L _ _ ?_)
 clear L PP
 simp[Act.put]
 obtain⟨Y,U,T,X,zf⟩:=cl4 (Qa o).2.2.2
 go_wp2_with fail
 refine bodyPost_ret (v:=tkA t) (by simp[results,Tryz.results91,go_sem,Y,U,T,X]) rfl ?_
 exact⟨rfl,(Qa o).2.2.1⟩
def amV(rb a:Nat)(w:World)(w':World)(v:Value):Prop:=∃x:Atm,VAm (fun b=>w.heap.size<=b) w' v x/\szQ rb a (exQs x.args+1) w'/\x.rel.length<=65536
theorem Qgf{rb g cap a d i:Nat}{l:List Tok}{w:World}{y f:Int}(h:Rr rb g cap l w a d i y f)(hd:d<=63):
  Calls Tryz.prog 93 #[.pointer (Js rb)] w fun en w'=>RA rb g cap l w d (amV rb a w) (CoY a i y) en w':=by
 have x:Below w.heap.size w (w.alloc (.cells #[Je,Jn,Ji 0] 42)):=(Below.refl _ w).alloc (Nat.le_refl _) _
 have C:(w.alloc (.cells #[Je,Jn,Ji 0] 42)).heap[w.heap.size]?=some (.cells #[Je,Jn,Ji 0] 42 (0,0)):=heap_alloc_new w _
 have N:(w.alloc (.cells #[Je,Jn,Ji 0] 42)).heap.size=w.heap.size+1:=by simp
 obtain⟨t,ht⟩:=h.tok
 have aa:Hid (∀w',Below w.heap.size w w'->Calls Tryz.prog 22 #[.pointer (Js rb)] w' fun en m=>en = .returned (.agg #[Ji t.kind,str t.text,Ji t.num,Ji (t.at_:Int)])/\Below w'.heap.size w' m):=fun w' bb=>Qao (h.later bb) ht
 have HH:=hide h
 have HE:=hide (Qqj (rb:=rb) (g:=g) (cap:=cap) (l:=l) hd)
 have H0:=hide (Ya x (Ya C N))
 clear h ht x C N
 go_enter Tryz.func93,Tryz.ntmps93
 go_wp2_with fail
 refine(Qa aa _ (Qa H0).1).mono ?_
 rintro en w1⟨rfl,Q⟩
 obtain⟨x,C,N⟩:=Qa H0
 have X:=x.trans (Q.mono (by omega))
 have H:=(Q.block _ (by omega)).trans C
 have a0:=Qdm ((Qa HH).later X)
 have ag:=Qaa (Qa HH).box
 have ae:=(Qa HH).row.lt
 have a9:=Q.size
 have K1:=hide (Ya (Kp.of_below (rb:=rb) X) (Ya H (show rb<w.heap.size/\g<w.heap.size/\w.heap.size<w1.heap.size by omega)))
 clear Q x C N X H ag ae a9
 go_wp2_with fail
 rename_i hK
 refine hK _ _ ?_
 clear hK
 go_wp2_with fail
 refine a0.mono ?_
 clear a0
 rintro en m⟨_,a2,i2,y2,f2,rfl,⟨r,rfl,a3⟩,⟨A,J,n⟩,h2,M⟩
 have af:=hide a3
 clear a3
 rw[A]at h2
 clear A
 obtain⟨k1,H,g1,Y,g3⟩:=Qa K1
 have ac:=M.size
 have n2:=M.keep H (by omega)
 obtain⟨o,K⟩:=JF m.heap.size
 obtain⟨p,s⟩:=JE (m.alloc (.cells #[str r,Jn,Ji (t.at_:Int)] 42))
 have R:Below m.heap.size m p:=by rw[s];exact(Below.refl _ m).alloc (Nat.le_refl _) _
 have E:p.heap[o]?=some (.cells #[str r,Jn,Ji (t.at_:Int)] 42 (0,0)):=by rw[s,<- K];exact heap_alloc_new m _
 have T:p.heap.size=o+1:=by rw[s,<- K];simp
 have G:=(R.block _ (by omega)).trans n2
 have a5:=Qjt (h2.later R) (Qa HE)
 have K3:=hide (Ya ((k1.trans M).trans (Kp.of_below R)) (Ya E (Ya G (Ya (show rb<w.heap.size/\g<w.heap.size/\w.heap.size<o by omega) (Ya T (Ya J n))))))
 have V:=hide (Ya s K)
 clear k1 H g1 Y g3 ac n2 K s R E T G J n h2 M K1
 go_wp2_with fail
 rw[<- (Qa V).1,(Qa V).2]
 clear V
 refine a5.mono ?_
 clear a5
 rintro en Z⟨_,a7,i7,y7,f7,rfl,⟨j,W,a8⟩,⟨A,aj,L⟩,S,D⟩
 rw[A]at S
 clear A
 have SK:Hid (y7=0->exQs j+2*a2<=2*a7):=hide (fun e=>a8.at S e)
 clear a8
 obtain⟨z,F,rfl⟩:=W.sl
 obtain⟨k3,E,G,⟨g1,Y,g3⟩,T,J,n⟩:=Qa K3
 have ad:=D.size
 have n7:=D.keep E (by omega)
 have q7:=D.keep G (by omega)
 have a6:w.heap.size≠o:=by omega
 obtain⟨c,u⟩:=JE (Z.setCell (Ja o 1) (.slice z j.length F))
 have n8:c.heap[o]?=some (.cells #[str r,.slice z j.length F,Ji (t.at_:Int)] 42 (0,0)):=by rw[u];exact(Qah n7 1 _).trans rfl
 have I:∀q,q≠o->c.heap[q]?=Z.heap[q]?:=fun q hq=>by rw[u,hpS hq]
 have s8:c.heap.size=Z.heap.size:=by rw[u];simp
 have q8:=(I _ a6).trans q7
 have k8:Kp rb w c:=by rw[u];exact(k3.trans D).set2 (by omega)
 have h8:=S.move (w':=c) (by omega) (I rb (by omega)) (I g (by omega))
 have a4:LsAt PE 5 (fun b=>p.heap.size<=b) c (.slice z j.length F) j:=W.same Qaf (by omega) (fun b k hl=>I b (by have a1:p.heap.size<=b:=k;omega))
 have hC:CoY a i y a7 i y7:=⟨rfl,by omega,fun e=>⟨(n (L e).1).1,by have:=(n (L e).1).2;omega⟩⟩
 have SB:=hide (show y7=0->exQs j+1+2*a<=2*a7 from fun e=>by have B:=Qa SK e;have:=(n (L e).1).2;omega)
 obtain⟨ah,ak,ai,xf⟩:=cl3 n7
 obtain⟨z0,z1,z2,zf⟩:=cl3 n8
 obtain⟨y0,y1,ab,yf⟩:=cl3 q8
 have HF:Hid (∀P B O,RA rb g cap l w d (amV rb a w) (CoY a i y) (.returned (.agg #[str r,.slice z j.length F,Ji (t.at_:Int)])) (((c.setCell (Ja w.heap.size 0) P).setCell (Ja w.heap.size 1) B).setCell (Ja w.heap.size 2) O)):=fun P B O=>by
  have U:∀b,b≠w.heap.size->(((c.setCell (Ja w.heap.size 0) P).setCell (Ja w.heap.size 1) B).setCell (Ja w.heap.size 2) O).heap[b]?=c.heap[b]?:=fun b k=>by
   rw[hpS k,hpS k,hpS k]
  have H9:=h8.move (w':=(((c.setCell (Ja w.heap.size 0) P).setCell (Ja w.heap.size 1) B).setCell (Ja w.heap.size 2) O)) (by simp[World.setCell]) (U rb (by omega)) (U g (by omega))
  exact⟨_,_,_,_,_,rfl,⟨⟨r,j,t.at_⟩,⟨_,_,_,rfl,(a4.same Qaf (by simp[World.setCell]) (fun b k hl=>U b (by have a1:p.heap.size<=b:=k;omega))).mono Qaf (fun b _ k=>by have a1:p.heap.size<=b:=k;omega)⟩,szQ.of H9 (Qa SB),Qa af⟩,hC,H9,((k8.set2 (by omega)).set2 (by omega)).set2 (by omega)⟩
 clear S D W k3 E G g1 Y g3 T J n ad n7 q7 n8 I s8 q8 k8 h8 a4 hC aj L K3 ah ai zf a6
 subst u
 go_wp2_with fail
 refine bodyPost_ret (v:=.agg #[str r,.slice z j.length F,Ji t.at_]) (by simp[results,Tryz.results93,go_sem,y0,y1,ab]) rfl ?_
 exact Qa HF _ _ _
end
end Go.Proofs.YtmfpbepifnedjaaGreat
