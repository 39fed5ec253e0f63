/- The document's reader. -/
import Derived.Test.YtkhndlnadhggkaaGreatAp01
import Derived.Test.YtkhndlnadhggkaaGreatAp16
set_option maxRecDepth 100000
set_option maxHeartbeats 32000000
namespace Go.Proofs.YtkhndlnadhggkaaGreat
section
open Go.RowKit Go.Maps
def dcV(w:World)(w':World)(v:Value):Prop:=∃x:Dcl,VDc (fun b=>w.heap.size<=b) w' v x/\x.name.length<=65536
structure Dx(rb g cap:Nat)(l:List Tok)(w:World)(d i a:Nat)(y:Int)(xb:Nat)(T:TypeId)(zs:Array Value)(W:World)(cs:Array Value)(aX:Nat)(yX fX:Int)(sl:Value)(fs:List Fld):Prop where
 r:Rr rb g cap l W aX d i yX fX
 b:Bx rb g w xb T zs cs W
 q:LsAt PF 2 (fun b=>xb<b) W sl fs
 le:a<=aX
 y0:yX=0->y=0/\a<aX
section
variable {rb g cap:Nat}{l:List Tok}{w:World}{d i a:Nat}{y:Int}{xb:Nat}{T:TypeId}{zs:Array Value}{W W':World}{cs:Array Value}{aX a2:Nat}{yX fX y2 f2:Int}{sl:Value}{fs:List Fld}
theorem Dx.call(h:Dx rb g cap l w d i a y xb T zs W cs aX yX fX sl fs)(kk:Kp rb W W')(hR:Rr rb g cap l W' a2 d i y2 f2)(ha:aX<=a2)(hy:y2=0->yX=0):Dx rb g cap l w d i a y xb T zs W' cs a2 y2 f2 sl fs:=
 ⟨hR,h.b.call kk,h.q.same Qbb kk.size (fun b c f=>kk.block b f (by have j:xb<b:=c;have:=h.b.r1;have:=h.b.x1;omega)),by have:=h.le;omega,fun e=>⟨(h.y0 (hy e)).1,by have:=(h.y0 (hy e)).2;omega⟩⟩
theorem Dx.set(h:Dx rb g cap l w d i a y xb T zs W cs aX yX fX sl fs)(j:Nat)(v:Value):Dx rb g cap l w d i a y xb T zs (W.setCell (Ja xb j) v) (cs.setIfInBounds j v) aX yX fX sl fs:=
 ⟨h.r.atBox ⟨by have:=h.b.r1;have:=h.b.x1;omega,by have:=h.b.g1;have:=h.b.x1;omega⟩ j v,h.b.set j v,h.q.same Qbb (by simp) (fun b c _=>hpS (by have e:xb<b:=c;show b≠xb;omega)),h.le,h.y0⟩
theorem Dx.fin(h:Dx rb g cap l w d i a y xb T zs W cs aX yX fX sl fs)(hs:W'.heap.size=W.heap.size)(ho:W'.os=W.os/\W'.tape=W.tape/\W'.output=W.output)(hb:∀q,q≠w.heap.size->W'.heap[q]?=W.heap[q]?):
  Rr rb g cap l W' aX d i yX fX/\Kp rb w W'/\LsAt PF 2 (fun b=>xb<b) W' sl fs:=by
 have n:=h.b.x1;have m:=h.b.r1;have k:=h.b.g1;exact⟨h.r.move (by omega) (hb rb (by omega)) (hb g (by omega)),⟨ho.1.trans h.b.kp.os,ho.2.1.trans h.b.kp.tape,ho.2.2.trans h.b.kp.output,by rw[hs];exact h.b.kp.size,fun q f e=>(hb q (by omega)).trans (h.b.kp.block q f e)⟩,h.q.same Qbb (by omega) (fun b c _=>hb b (by have j:xb<b:=c;omega))⟩
end
theorem Qql{rb g cap a d i:Nat}{l:List Tok}{w:World}{y f:Int}(h:Rr rb g cap l w a d i y f)(at0:Int):
  Calls Tryz.prog 59 #[.pointer (Js rb),Ji at0] w fun en w'=>RA rb g cap l w d (dcV w) (CoY a i y) en w':=by
 have b0:Below w.heap.size w (w.alloc (.cells #[Je,Jn,.bool false,.bool false,Ji 0] 63)):=(Below.refl _ w).alloc (Nat.le_refl _) _;have n0:(w.alloc (.cells #[Je,Jn,.bool false,.bool false,Ji 0] 63)).heap[w.heap.size]?=some (.cells #[Je,Jn,.bool false,.bool false,Ji 0] 63 (0,0)):=heap_alloc_new w _;have s0:(w.alloc (.cells #[Je,Jn,.bool false,.bool false,Ji 0] 63)).heap.size=w.heap.size+1:=by simp
 have ao:=Qca (h.later b0);have HH:=hide (Ya (Qaa h.box) h.row.lt);have H0:=hide (Ya b0 (Ya n0 s0));clear h b0 n0 s0;go_enter Tryz.func59,Tryz.ntmps59;go_wp2_with fail;refine ao.mono ?_;clear ao;rintro en w2⟨_,a2,i2,y2,f2,rfl,⟨o,rfl,ap⟩,⟨F,af,aa⟩,h2,k2⟩;have ab:=hide ap;clear ap;rw[F]at h2;clear F;obtain⟨b0,n0,s0⟩:=Qa H0;obtain⟨g1,g2⟩:=Qa HH;have ar:=k2.size;have n2:=k2.keep n0 (by omega);obtain⟨xb,ah⟩:=JF w2.heap.size;obtain⟨w3,ad⟩:=JE (w2.alloc (.cells #[str o,Jn,.bool false,.bool false,Ji at0] 63));have b3:Below w2.heap.size w2 w3:=by rw[ad];exact(Below.refl _ w2).alloc (Nat.le_refl _) _
 have n3:w3.heap[xb]?=some (.cells #[str o,Jn,.bool false,.bool false,Ji at0] 63 (0,0)):=by rw[ad,<- ah];exact heap_alloc_new w2 _
 have s3:w3.heap.size=xb+1:=by rw[ad,<- ah];simp
 have n:=(b3.block _ (by omega)).trans n2;have an:=Qeb (h2.later b3) ⟨#[40]⟩ ⟨#[41]⟩;have H3:=hide (Ya (show Bx rb g w xb 63 #[Je,Jn,.bool false,.bool false,Ji 0] #[str o,Jn,.bool false,.bool false,Ji at0] w3 from ⟨((Kp.of_below b0).trans k2).trans (Kp.of_below b3),n3,n,g1,g2,by omega⟩) (Ya s3 (Ya af aa)));have ai:=hide (Ya ad ah);clear b0 n0 s0 g1 g2 ar n2 ah ad b3 n3 s3 n af aa h2 k2 H0;go_wp2_with fail;rw[<- (Qa ai).1,(Qa ai).2];clear ai;refine an.mono ?_;clear an;rintro en w4⟨_,a5,i5,y5,f5,rfl,⟨fs,aj⟩,⟨F,aq,al⟩,h5,k5⟩;rw[F]at h5;clear F;obtain⟨G,H,rfl⟩:=aj.sl;obtain⟨B3,s3,af,aa⟩:=Qa H3;have B4:=B3.call k5;obtain⟨U,V,X,Y,Z,xf⟩:=cl5 B4.box;obtain⟨w5,ak⟩:=JE (w4.setCell (Ja xb 1) (.slice G fs.length H));have G5:Hid (Dx rb g cap l w d i a y xb 63 #[Je,Jn,.bool false,.bool false,Ji 0] w5 #[str o,.slice G fs.length H,.bool false,.bool false,Ji at0] a5 y5 f5 (.slice G fs.length H) fs):=by
  have d4:Dx rb g cap l w d i a y xb 63 #[Je,Jn,.bool false,.bool false,Ji 0] w4 #[str o,Jn,.bool false,.bool false,Ji at0] a5 y5 f5 (.slice G fs.length H) fs:=⟨h5,B4,aj.mono Qbb (fun b _ R=>by have ac:w3.heap.size<=b:=R;omega),by omega,fun e=>⟨(aa (al e).1).1,by have:=(aa (al e).1).2;omega⟩⟩;rw[ak];exact d4.set 1 _
 have am:=hide ak;clear aj aq al h5 k5 B3 s3 af aa B4 ak H3;go_wp2_with fail;rw[<- Qa am];clear am U V X Y Z xf;go_loopw [13] (fun _ wr=>∃(z A:Bool) (a1:Nat) (y1 f1:Int),Hid (Dx rb g cap l w d i a y xb 63 #[Je,Jn,.bool false,.bool false,Ji 0] wr #[str o,.slice G fs.length H,.bool z,.bool A,Ji at0] a1 y1 f1 (.slice G fs.length H) fs)) (fun _ wr=>leftR rb l.length wr)
 case atStart=>exact⟨false,false,a5,y5,f5,G5⟩
 obtain⟨z,A,a1,y1,f1,p⟩:=hrel;clear G5;have a8:=Qax (Qa p).r;by_cases hy:y1=0
 rotate_left
 ·
  rw[decide_eq_false hy]at a8;clear hy;go_wp2_with fail;refine a8.mono ?_;clear a8;rintro en wq⟨rfl,rfl⟩;have c:=Qa p;obtain⟨U,V,X,Y,Z,xf⟩:=cl5 c.b.box;obtain⟨a0,a3,a4,a6,a7,yf⟩:=cl5 c.b.res;have HF:Hid (∀B C D n E,RA rb g cap l w d (dcV w) (CoY a i y) (.returned (.agg #[str o,.slice G fs.length H,.bool z,.bool A,Ji at0])) (((((wq.setCell (Ja w.heap.size 0) B).setCell (Ja w.heap.size 1) C).setCell (Ja w.heap.size 2) D).setCell (Ja w.heap.size 3) n).setCell (Ja w.heap.size 4) E)):=fun B C D n E=>by
   obtain⟨R9,K9,Q9⟩:=c.fin (W':=(((((wq.setCell (Ja w.heap.size 0) B).setCell (Ja w.heap.size 1) C).setCell (Ja w.heap.size 2) D).setCell (Ja w.heap.size 3) n).setCell (Ja w.heap.size 4) E)) (by simp[World.setCell]) ⟨rfl,rfl,rfl⟩ (fun q k=>by rw[hpS k,hpS k,hpS k,hpS k,hpS k]);have ag:=c.b.x1;exact⟨_,_,_,_,_,rfl,⟨⟨o,fs,z,A,at0⟩,⟨_,_,_,rfl,Q9.mono Qbb (fun b _ R=>by have ac:xb<b:=R;omega)⟩,Qa ab⟩,⟨rfl,c.le,c.y0⟩,R9,K9⟩
  clear c;go_wp2_with fail;refine bodyPost_ret (v:=.agg #[str o,.slice G fs.length H,.bool z,.bool A,Ji at0]) (by simp[results,Tryz.results59,go_sem,a0,a3,a4,a6,a7]) rfl ?_;exact Qa HF _ _ _ _ _
 rw[decide_eq_true hy]at a8;have L:=hide hy;clear hy;obtain⟨u,hu⟩:=(Qa p).r.tok;have O:=hide hu;clear hu;go_wp2_with fail;refine a8.mono ?_;clear a8;rintro en wq⟨rfl,rfl⟩;have m:=Qap (Qa p).r (Qa O);unfold tkA at m;go_wp2_with fail;refine m.mono ?_;clear m;rintro en w3⟨rfl,b3⟩;have G3:=hide ((Qa p).call (Kp.of_below b3) ((Qa p).r.later b3) (Nat.le_refl _) (fun e=>e));clear b3;by_cases ku:u.kind=1
 rotate_left
 ·
  have gu:(u.kind==1)=false:=beq_eq_false_iff_ne.2 ku;clear ku;go_wp2_with fail;rename_i j;refine j _ _ ?_;clear j;have c:=Qa G3;obtain⟨U,V,X,Y,Z,xf⟩:=cl5 c.b.box;obtain⟨a0,a3,a4,a6,a7,yf⟩:=cl5 c.b.res;have HF:Hid (∀B C D n E,RA rb g cap l w d (dcV w) (CoY a i y) (.returned (.agg #[str o,.slice G fs.length H,.bool z,.bool A,Ji at0])) (((((w3.setCell (Ja w.heap.size 0) B).setCell (Ja w.heap.size 1) C).setCell (Ja w.heap.size 2) D).setCell (Ja w.heap.size 3) n).setCell (Ja w.heap.size 4) E)):=fun B C D n E=>by
   obtain⟨R9,K9,Q9⟩:=c.fin (W':=(((((w3.setCell (Ja w.heap.size 0) B).setCell (Ja w.heap.size 1) C).setCell (Ja w.heap.size 2) D).setCell (Ja w.heap.size 3) n).setCell (Ja w.heap.size 4) E)) (by simp[World.setCell]) ⟨rfl,rfl,rfl⟩ (fun q k=>by rw[hpS k,hpS k,hpS k,hpS k,hpS k]);have ag:=c.b.x1;exact⟨_,_,_,_,_,rfl,⟨⟨o,fs,z,A,at0⟩,⟨_,_,_,rfl,Q9.mono Qbb (fun b _ R=>by have ac:xb<b:=R;omega)⟩,Qa ab⟩,⟨rfl,c.le,c.y0⟩,R9,K9⟩
  clear c;go_wp2_with fail;refine bodyPost_ret (v:=.agg #[str o,.slice G fs.length H,.bool z,.bool A,Ji at0]) (by simp[results,Tryz.results59,go_sem,a0,a3,a4,a6,a7]) rfl ?_;exact Qa HF _ _ _ _ _
 have gu:(u.kind==1)=true:=beq_iff_eq.2 ku;have ae:=hide ku;clear ku;go_wp2_with fail;rename_i j;refine j _ _ ?_;clear j;have m:=Qap (Qa G3).r (Qa O);unfold tkA at m;go_wp2_with fail;refine m.mono ?_;clear m;rintro en w4⟨rfl,b4⟩;have G4:=hide ((Qa G3).call (Kp.of_below b4) ((Qa G3).r.later b4) (Nat.le_refl _) (fun e=>e));clear b4;by_cases kx:u.text=[105,110,112,117,116]
 ·
  have gx:(u.text==[105,110,112,117,116])=true:=by simpa using kx
  clear kx;obtain⟨v,hv⟩:∃v,l[min (a1+1) (l.length - 1)]?=some v:=⟨l[min (a1+1) (l.length - 1)]'(by have:=(Qa p).r.lt;omega),List.getElem?_eq_getElem _⟩;have HV:=hide hv;clear hv;go_wp2_with fail;rename_i j;refine j _ _ ?_;clear j;have m:=Qbx (Qa G4).r (Qa HV);unfold tkA at m;go_wp2_with fail;refine m.mono ?_;clear m;rintro en w7⟨rfl,b7⟩;have N:=hide ((Qa G4).call (Kp.of_below b7) ((Qa G4).r.later b7) (Nat.le_refl _) (fun e=>e));clear b7;by_cases kv:v.kind=4
  rotate_left
  ·
   have gv:(v.kind==4)=false:=beq_eq_false_iff_ne.2 kv;clear kv;go_wp2_with fail;rename_i j;refine j _ _ ?_;clear j;have I:=Qba (Qa N).r (Qa O);unfold tkA at I;go_wp2_with fail;refine I.mono ?_;clear I;rintro en w9⟨_,P,i9,y9,f9,rfl,rfl,⟨F,Q,M⟩,K,S⟩;rw[F,Q]at K;clear F Q;have J:P=a1+1:=by
    rcases M with ⟨_,_,e⟩|⟨_,hn⟩
    ·exact e
    ·exact absurd ((Qa p).r.more (Qa O) (by have:=Qa ae;omega)) (hn (Qa L))
   have c:=(Qa N).call S K (by omega) (fun e=>e);obtain⟨U,V,X,Y,Z,xf⟩:=cl5 c.b.box;have x:=c.set 2 (.bool true);have s:=Qam (Qa p).r l.length;have t:=Qam x.r l.length;have HM:=hide (Ya s (Ya t (Ya (Qa p).r.lt (Ya x.r.lt J))));have HG:=hide x;clear M K S J c x s t;go_wp2_with fail;rename_i j;refine j _ _ ?_;clear j;go_wp2_with fail;go_roundw
   case rel=>exact⟨true,A,P,y1,f9,hide (Qa HG)⟩
   obtain⟨s,t,m1,m2,J⟩:=Qa HM;rw[s,t,if_pos (Qa L),if_pos (Qa L)];omega
  have gv:(v.kind==4)=true:=beq_iff_eq.2 kv;clear kv;go_wp2_with fail;rename_i j;refine j _ _ ?_;clear j;have m:=Qbx (Qa N).r (Qa HV);unfold tkA at m;go_wp2_with fail;refine m.mono ?_;clear m;rintro en w8⟨rfl,b8⟩;have G8:=hide ((Qa N).call (Kp.of_below b8) ((Qa N).r.later b8) (Nat.le_refl _) (fun e=>e));clear b8;by_cases kt:v.text=[40]
  ·
   have gt:(v.text==[40])=true:=by simpa using kt
   clear kt;go_wp2_with fail;rename_i j;refine j _ _ ?_;clear j;have c:=Qa G8;obtain⟨U,V,X,Y,Z,xf⟩:=cl5 c.b.box;obtain⟨a0,a3,a4,a6,a7,yf⟩:=cl5 c.b.res;have HF:Hid (∀B C D n E,RA rb g cap l w d (dcV w) (CoY a i y) (.returned (.agg #[str o,.slice G fs.length H,.bool z,.bool A,Ji at0])) (((((w8.setCell (Ja w.heap.size 0) B).setCell (Ja w.heap.size 1) C).setCell (Ja w.heap.size 2) D).setCell (Ja w.heap.size 3) n).setCell (Ja w.heap.size 4) E)):=fun B C D n E=>by
    obtain⟨R9,K9,Q9⟩:=c.fin (W':=(((((w8.setCell (Ja w.heap.size 0) B).setCell (Ja w.heap.size 1) C).setCell (Ja w.heap.size 2) D).setCell (Ja w.heap.size 3) n).setCell (Ja w.heap.size 4) E)) (by simp[World.setCell]) ⟨rfl,rfl,rfl⟩ (fun q k=>by rw[hpS k,hpS k,hpS k,hpS k,hpS k]);have ag:=c.b.x1;exact⟨_,_,_,_,_,rfl,⟨⟨o,fs,z,A,at0⟩,⟨_,_,_,rfl,Q9.mono Qbb (fun b _ R=>by have ac:xb<b:=R;omega)⟩,Qa ab⟩,⟨rfl,c.le,c.y0⟩,R9,K9⟩
   clear c;go_wp2_with fail;refine bodyPost_ret (v:=.agg #[str o,.slice G fs.length H,.bool z,.bool A,Ji at0]) (by simp[results,Tryz.results59,go_sem,a0,a3,a4,a6,a7]) rfl ?_;exact Qa HF _ _ _ _ _
  have gt:(v.text==[40])=false:=by simpa using kt
  clear kt;go_wp2_with fail;rename_i j;refine j _ _ ?_;clear j;have I:=Qba (Qa G8).r (Qa O);unfold tkA at I;go_wp2_with fail;refine I.mono ?_;clear I;rintro en w9⟨_,P,i9,y9,f9,rfl,rfl,⟨F,Q,M⟩,K,S⟩;rw[F,Q]at K;clear F Q;have J:P=a1+1:=by
   rcases M with ⟨_,_,e⟩|⟨_,hn⟩
   ·exact e
   ·exact absurd ((Qa p).r.more (Qa O) (by have:=Qa ae;omega)) (hn (Qa L))
  have c:=(Qa G8).call S K (by omega) (fun e=>e);obtain⟨U,V,X,Y,Z,xf⟩:=cl5 c.b.box;have x:=c.set 2 (.bool true);have s:=Qam (Qa p).r l.length;have t:=Qam x.r l.length;have HM:=hide (Ya s (Ya t (Ya (Qa p).r.lt (Ya x.r.lt J))));have HG:=hide x;clear M K S J c x s t;go_wp2_with fail;rename_i j;refine j _ _ ?_;clear j;go_wp2_with fail;go_roundw
  case rel=>exact⟨true,A,P,y1,f9,hide (Qa HG)⟩
  obtain⟨s,t,m1,m2,J⟩:=Qa HM;rw[s,t,if_pos (Qa L),if_pos (Qa L)];omega
 have gx:(u.text==[105,110,112,117,116])=false:=by simpa using kx
 clear kx;go_wp2_with fail;rename_i j;refine j _ _ ?_;clear j;have m:=Qap (Qa G4).r (Qa O);unfold tkA at m;go_wp2_with fail;refine m.mono ?_;clear m;rintro en w5⟨rfl,b5⟩;have G5:=hide ((Qa G4).call (Kp.of_below b5) ((Qa G4).r.later b5) (Nat.le_refl _) (fun e=>e));clear b5;by_cases ko:u.text=[111,117,116,112,117,116]
 rotate_left
 ·
  have gO:(u.text==[111,117,116,112,117,116])=false:=by simpa using ko
  clear ko;go_wp2_with fail;rename_i j;refine j _ _ ?_;clear j;have c:=Qa G5;obtain⟨U,V,X,Y,Z,xf⟩:=cl5 c.b.box;obtain⟨a0,a3,a4,a6,a7,yf⟩:=cl5 c.b.res;have HF:Hid (∀B C D n E,RA rb g cap l w d (dcV w) (CoY a i y) (.returned (.agg #[str o,.slice G fs.length H,.bool z,.bool A,Ji at0])) (((((w5.setCell (Ja w.heap.size 0) B).setCell (Ja w.heap.size 1) C).setCell (Ja w.heap.size 2) D).setCell (Ja w.heap.size 3) n).setCell (Ja w.heap.size 4) E)):=fun B C D n E=>by
   obtain⟨R9,K9,Q9⟩:=c.fin (W':=(((((w5.setCell (Ja w.heap.size 0) B).setCell (Ja w.heap.size 1) C).setCell (Ja w.heap.size 2) D).setCell (Ja w.heap.size 3) n).setCell (Ja w.heap.size 4) E)) (by simp[World.setCell]) ⟨rfl,rfl,rfl⟩ (fun q k=>by rw[hpS k,hpS k,hpS k,hpS k,hpS k]);have ag:=c.b.x1;exact⟨_,_,_,_,_,rfl,⟨⟨o,fs,z,A,at0⟩,⟨_,_,_,rfl,Q9.mono Qbb (fun b _ R=>by have ac:xb<b:=R;omega)⟩,Qa ab⟩,⟨rfl,c.le,c.y0⟩,R9,K9⟩
  clear c;go_wp2_with fail;refine bodyPost_ret (v:=.agg #[str o,.slice G fs.length H,.bool z,.bool A,Ji at0]) (by simp[results,Tryz.results59,go_sem,a0,a3,a4,a6,a7]) rfl ?_;exact Qa HF _ _ _ _ _
 have gO:(u.text==[111,117,116,112,117,116])=true:=by simpa using ko
 clear ko;obtain⟨v,hv⟩:∃v,l[min (a1+1) (l.length - 1)]?=some v:=⟨l[min (a1+1) (l.length - 1)]'(by have:=(Qa p).r.lt;omega),List.getElem?_eq_getElem _⟩;have HV:=hide hv;clear hv;go_wp2_with fail;rename_i j;refine j _ _ ?_;clear j;have m:=Qbx (Qa G5).r (Qa HV);unfold tkA at m;go_wp2_with fail;refine m.mono ?_;clear m;rintro en w7⟨rfl,b7⟩;have N:=hide ((Qa G5).call (Kp.of_below b7) ((Qa G5).r.later b7) (Nat.le_refl _) (fun e=>e));clear b7;by_cases kv:v.kind=4
 rotate_left
 ·
  have gv:(v.kind==4)=false:=beq_eq_false_iff_ne.2 kv;clear kv;go_wp2_with fail;rename_i j;refine j _ _ ?_;clear j;have I:=Qba (Qa N).r (Qa O);unfold tkA at I;go_wp2_with fail;refine I.mono ?_;clear I;rintro en w9⟨_,P,i9,y9,f9,rfl,rfl,⟨F,Q,M⟩,K,S⟩;rw[F,Q]at K;clear F Q;have J:P=a1+1:=by
   rcases M with ⟨_,_,e⟩|⟨_,hn⟩
   ·exact e
   ·exact absurd ((Qa p).r.more (Qa O) (by have:=Qa ae;omega)) (hn (Qa L))
  have c:=(Qa N).call S K (by omega) (fun e=>e);obtain⟨U,V,X,Y,Z,xf⟩:=cl5 c.b.box;have x:=c.set 3 (.bool true);have s:=Qam (Qa p).r l.length;have t:=Qam x.r l.length;have HM:=hide (Ya s (Ya t (Ya (Qa p).r.lt (Ya x.r.lt J))));have HG:=hide x;clear M K S J c x s t;go_wp2_with fail;rename_i j;refine j _ _ ?_;clear j;go_wp2_with fail;go_roundw
  case rel=>exact⟨z,true,P,y1,f9,hide (Qa HG)⟩
  obtain⟨s,t,m1,m2,J⟩:=Qa HM;rw[s,t,if_pos (Qa L),if_pos (Qa L)];omega
 have gv:(v.kind==4)=true:=beq_iff_eq.2 kv;clear kv;go_wp2_with fail;rename_i j;refine j _ _ ?_;clear j;have m:=Qbx (Qa N).r (Qa HV);unfold tkA at m;go_wp2_with fail;refine m.mono ?_;clear m;rintro en w8⟨rfl,b8⟩;have G8:=hide ((Qa N).call (Kp.of_below b8) ((Qa N).r.later b8) (Nat.le_refl _) (fun e=>e));clear b8;by_cases kt:v.text=[40]
 ·
  have gt:(v.text==[40])=true:=by simpa using kt
  clear kt;go_wp2_with fail;rename_i j;refine j _ _ ?_;clear j;have c:=Qa G8;obtain⟨U,V,X,Y,Z,xf⟩:=cl5 c.b.box;obtain⟨a0,a3,a4,a6,a7,yf⟩:=cl5 c.b.res;have HF:Hid (∀B C D n E,RA rb g cap l w d (dcV w) (CoY a i y) (.returned (.agg #[str o,.slice G fs.length H,.bool z,.bool A,Ji at0])) (((((w8.setCell (Ja w.heap.size 0) B).setCell (Ja w.heap.size 1) C).setCell (Ja w.heap.size 2) D).setCell (Ja w.heap.size 3) n).setCell (Ja w.heap.size 4) E)):=fun B C D n E=>by
   obtain⟨R9,K9,Q9⟩:=c.fin (W':=(((((w8.setCell (Ja w.heap.size 0) B).setCell (Ja w.heap.size 1) C).setCell (Ja w.heap.size 2) D).setCell (Ja w.heap.size 3) n).setCell (Ja w.heap.size 4) E)) (by simp[World.setCell]) ⟨rfl,rfl,rfl⟩ (fun q k=>by rw[hpS k,hpS k,hpS k,hpS k,hpS k]);have ag:=c.b.x1;exact⟨_,_,_,_,_,rfl,⟨⟨o,fs,z,A,at0⟩,⟨_,_,_,rfl,Q9.mono Qbb (fun b _ R=>by have ac:xb<b:=R;omega)⟩,Qa ab⟩,⟨rfl,c.le,c.y0⟩,R9,K9⟩
  clear c;go_wp2_with fail;refine bodyPost_ret (v:=.agg #[str o,.slice G fs.length H,.bool z,.bool A,Ji at0]) (by simp[results,Tryz.results59,go_sem,a0,a3,a4,a6,a7]) rfl ?_;exact Qa HF _ _ _ _ _
 have gt:(v.text==[40])=false:=by simpa using kt
 clear kt;go_wp2_with fail;rename_i j;refine j _ _ ?_;clear j;have I:=Qba (Qa G8).r (Qa O);unfold tkA at I;go_wp2_with fail;refine I.mono ?_;clear I;rintro en w9⟨_,P,i9,y9,f9,rfl,rfl,⟨F,Q,M⟩,K,S⟩;rw[F,Q]at K;clear F Q;have J:P=a1+1:=by
  rcases M with ⟨_,_,e⟩|⟨_,hn⟩
  ·exact e
  ·exact absurd ((Qa p).r.more (Qa O) (by have:=Qa ae;omega)) (hn (Qa L))
 have c:=(Qa G8).call S K (by omega) (fun e=>e);obtain⟨U,V,X,Y,Z,xf⟩:=cl5 c.b.box;have x:=c.set 3 (.bool true);have s:=Qam (Qa p).r l.length;have t:=Qam x.r l.length;have HM:=hide (Ya s (Ya t (Ya (Qa p).r.lt (Ya x.r.lt J))));have HG:=hide x;clear M K S J c x s t;go_wp2_with fail;rename_i j;refine j _ _ ?_;clear j;go_wp2_with fail;go_roundw
 case rel=>exact⟨z,true,P,y1,f9,hide (Qa HG)⟩
 obtain⟨s,t,m1,m2,J⟩:=Qa HM;rw[s,t,if_pos (Qa L),if_pos (Qa L)];omega
end
end Go.Proofs.YtkhndlnadhggkaaGreat
